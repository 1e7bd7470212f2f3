/- What every law of this seat has in common: the two tables that are listed, a slice of bytes that comes in, the witness's world. -/
import Derived.Test.YtjdmpanemdhbbaaDoorNew
import Derived.Test.YtjdmpanemdhbbaaDoorTie
import Derived.Test.YtjdmpanemdhbbaaDoorCards
import Derived.ProofKit
import Derived.OpenShut
import Derived.ChangeOld
import Derived.Below
import Derived.SizedLaws
import Derived.Deep.DeepHandedRow
import Derived.Lib.LaidTab
namespace Go.Proofs.YtjdmpanemdhbbaaDoor
open Go.ChangeShapes Go.WideShapes Go.ChangeAt Go.RowKit

theorem own : ownKnob Tryd.prog.godebug = none := by kernel_rfl
theorem laidOut : laidOutB Tryd.prog = true := by kernel_rfl
theorem gStart : Tryd.prog.globalNamed "muniment/sha.start" = some 0 := by kernel_rfl
theorem gStartType : (Tryd.prog.globals[0]?).map (·.type) = some 66 := by kernel_rfl
theorem gTab : Tryd.prog.globalNamed "muniment/sha.constants" = some 1 := by kernel_rfl
theorem gTabType : (Tryd.prog.globals[1]?).map (·.type) = some 79 := by kernel_rfl
theorem cells37 : Tryd.prog.cellsOf 66 = 8 := by kernel_rfl
theorem cells45 : Tryd.prog.cellsOf 79 = 64 := by kernel_rfl
theorem cells36 : Tryd.prog.cellsOf 65 = 1 := by kernel_rfl
theorem cells5 : Tryd.prog.cellsOf 5 = 1 := by kernel_rfl
theorem bytes5 : Tryd.prog.bytesOf 5 = 1 := by kernel_rfl

def startInts : List Int := [1779033703, 3144134277, 1013904242, 2773480762, 1359893119, 2600822924, 528734635, 1541459225]
def tabInts : List Int := Sha.kNat.map Int.ofNat
theorem startInts_at : ∀ k : Fin 8, startInts.getD k.val 0 = Sha.U (Sha.start.list.getD k.val 0) := by decide +kernel
theorem tabInts_at : ∀ k : Fin 64, tabInts.getD k.val 0 = Sha.U (Sha.kAt k.val) := by decide +kernel

/-- WHAT A ROW's LIST GIVES: the two tables lie in their places. -/
theorem tabs_of {W : World} (h : laidMetH Tryd.prog [("muniment/sha.start", Rows.laid_muniment_sha_start), ("muniment/sha.constants", Rows.laid_muniment_sha_constants)] W) : StartIn W ∧ TabIn W := by
  have h1 : Lib.TabIs Tryd.prog W "muniment/sha.start" .u32 startInts :=
    Lib.tabIs_of_head (rest := [("muniment/sha.constants", Rows.laid_muniment_sha_constants)]) gStart gStartType Tryd.underlying66 Tryd.underlying65 cells36 cells37 h
  have h2 : Lib.TabIs Tryd.prog W "muniment/sha.constants" .u32 tabInts := by
    obtain ⟨ps, ⟨g', t', cs, fuel, p, q, hg', ht', hvar, hd, hrest, _⟩, _⟩ := h
    obtain ⟨g2, t2, cs2, fuel2, p2, q2, hg2, ht2, hvar2, hd2, _, _⟩ := hrest
    obtain rfl := Option.some.inj (gTab.symm.trans hg2)
    obtain rfl := Option.some.inj (gTabType.symm.trans ht2)
    have hd3 : DataW.trod (fun _ => ()) Tryd.prog W 0 (fun _ => true) false fuel2 79 cs2.toList = some (Lib.tabData .u32 tabInts, p2) := hd2
    unfold Lib.TabIs
    rw [hvar2, ← Lib.cells_of_tab Tryd.underlying79 Tryd.underlying65 cells36 cells45 hd3]
  refine ⟨fun i hi => ?_, fun t ht => ?_⟩
  · have := h1.cell gStart i (by simpa [startInts] using hi)
    rw [startInts_at ⟨i, hi⟩] at this
    exact this
  · have := h2.cell gTab t (by simpa [tabInts, Sha.kNat] using ht)
    rw [tabInts_at ⟨t, ht⟩] at this
    exact this

/-- A SLICE OF BYTES THAT CAME IN -/
theorem open_bytes {H : Type} {enc : TypeId × Value → H} {W : World} {v : Value} {d : DataW H} {p : List MemPlace} {base : Nat}
    (hv : Value.okWide Tryd.prog W .any base 57 v) (h : DataW.Trod enc Tryd.prog W 0 (fun _ => true) true 57 v d p) : ∃ cs, SliceIn W v cs ∧ (cs = [] ∨ ∃ elems spare, d = .slice elems spare ∧ elems.length = cs.length) := by
  obtain ⟨a0, len0, cap0, rfl⟩ := okWide_slice Tryd.underlying57 hv
  obtain ⟨fuel, hf⟩ := h
  rcases open_ints Tryd.underlying57 Tryd.underlying5 cells5 hf with ⟨hcs, _⟩ | ⟨x, l, c, zs, hcs, _, hl, hm, hz, hx, hcell, hwz⟩
  · simp [Value.cells] at hcs
    obtain ⟨rfl, rfl, rfl⟩ := hcs
    exact ⟨[], ⟨none, 0, rfl, ⟨Nat.le_refl _, by decide⟩, Or.inl rfl⟩, Or.inl rfl⟩
  · simp [Value.cells] at hcs
    obtain ⟨rfl, rfl, rfl⟩ := hcs
    have hz' : zs.length = cap0 := by simpa using hz
    unfold maxLen at hm
    have hlen : ((zs.take len0).map Int.toNat).length = len0 := by simp; omega
    have hbd : ∀ z ∈ zs, 0 ≤ z ∧ z ≤ 255 := fun z hz => by
      have := hwz z hz
      simpa [Lit.wf, IntKind.min, IntKind.max, IntKind.signed, IntKind.bits] using this
    by_cases h0 : len0 = 0
    · subst h0
      exact ⟨[], ⟨some x, cap0, rfl, ⟨Nat.zero_le _, by decide⟩, Or.inl rfl⟩, Or.inl rfl⟩
    · obtain ⟨b, off, rfl, hc⟩ := ints_at hcell (by omega)
      refine ⟨(zs.take len0).map Int.toNat, ⟨some ⟨b, off, none⟩, cap0, by rw [hlen], ⟨by rw [hlen]; omega, by omega⟩, Or.inr ⟨b, off, rfl, fun j hj => ?_, fun j => ?_⟩⟩, Or.inr ⟨_, _, congrArg Prod.fst hx, by simp [lits]⟩⟩
      · rw [hlen] at hj
        have h1 := hc j (by omega)
        rw [h1]
        have hj' : j < zs.length := by omega
        have h2 := hbd zs[j] (List.getElem_mem hj')
        simp [hj, hj', Int.toNat_of_nonneg h2.1]
      · by_cases hj : j < ((zs.take len0).map Int.toNat).length
        · have hz := List.getElem_mem hj
          obtain ⟨y, hy, e⟩ := List.mem_map.1 hz
          have := hbd y (List.mem_of_mem_take hy)
          have e2 : ((zs.take len0).map Int.toNat).getD j 0 = ((zs.take len0).map Int.toNat)[j] := by rw [List.getD_eq_getElem?_getD, List.getElem?_eq_getElem hj]; rfl
          rw [e2, ← e]
          omega
        · rw [List.getD_eq_getElem?_getD, List.getElem?_eq_none (by omega)]
          decide

/-- WHAT THE FORM's OWN REACH GIVES of a slice of bytes -/
theorem reach {H : Type} {ts : List TypeId} {ds : List (DataW H)} (h : (DataW.weightsEach Tryd.prog ts ds).all (· ≤ reachBytes) = true) {j : Nat} {d : DataW H} {cs : List Nat} (ht : ts[j]? = some 57) (hd : ds[j]? = some d)
    (hc : cs = [] ∨ ∃ elems spare, d = .slice elems spare ∧ elems.length = cs.length) : cs.length ≤ 140737488351232 := by
  rcases hc with rfl | ⟨elems, spare, rfl, hl⟩
  · simp
  · have := sized_slice h ht hd Tryd.underlying57
    rw [bytes5] at this
    unfold reachBytes at this
    omega

/-- A WORLD FOR THE WITNESS: the settled one, the two tables (blocks 0 and 1) holding what their initialisers lay. -/
def laidOn (W : World) : World :=
  { W with heap := (W.heap.modify 0 fun
      | .cells _ t frozen => .cells (startInts.map fun z => Value.int .u32 z).toArray t frozen
      | o => o).modify 1 fun
      | .cells _ t frozen => .cells (tabInts.map fun z => Value.int .u32 z).toArray t frozen
      | o => o }
theorem bulk_length {H : Type} (l : List (DataW H)) : l.length ≤ Rows.uptoBulkAll l := by
  induction l with
  | nil => simp [Rows.uptoBulkAll]
  | cons x r ih =>
    have h1 : 1 ≤ Rows.uptoBulk x := by
      cases x with
      | lit l => cases l <;> simp [Rows.uptoBulk]
      | nil => simp [Rows.uptoBulk]
      | ptr d => simp [Rows.uptoBulk]
      | slice elems spare => simp [Rows.uptoBulk]
      | agg parts => simp [Rows.uptoBulk]
      | iface t d => simp [Rows.uptoBulk]
      | map entries => simp [Rows.uptoBulk]
      | held h => simp [Rows.uptoBulk]
    simp only [Rows.uptoBulkAll, List.length_cons]
    omega
/-- WHAT THE SECOND FORM's BOUND GIVES of a slice of bytes -/
theorem bulk {H : Type} {d : DataW H} {cs : List Nat} (hc : cs = [] ∨ ∃ elems spare, d = .slice elems spare ∧ elems.length = cs.length) : cs.length ≤ Rows.uptoBulk d := by
  rcases hc with rfl | ⟨elems, spare, rfl, hl⟩
  · simp
  · have := bulk_length elems
    simp only [Rows.uptoBulk]
    omega
end Go.Proofs.YtjdmpanemdhbbaaDoor

/- What every law of this seat has in common: the table that is listed, a slice of bytes that comes in, the witness's world. -/
import Derived.Test.YtflabbladikhbabDoorShown
import Derived.Test.YtflabbladikhbabDoorTie
import Derived.Test.YtflabbladikhbabDoorCards
import Derived.ProofKit
import Derived.OpenShut
import Derived.ChangeOld
import Derived.Below
import Derived.SizedLaws
import Derived.Deep.DeepHandedRow
import Derived.Lib.LaidTab
namespace Go.Proofs.YtflabbladikhbabDoor
open Go.ChangeShapes Go.WideShapes Go.ChangeAt Go.RowKit

theorem own : ownKnob Tryd.prog.godebug = none := by kernel_rfl
theorem laidOut : laidOutB Tryd.prog = true := by kernel_rfl
theorem gTab : Tryd.prog.globalNamed "muniment/crc.halves" = some 0 := by kernel_rfl
theorem gTabType : (Tryd.prog.globals[0]?).map (·.type) = some 43 := by kernel_rfl
theorem cells43 : Tryd.prog.cellsOf 43 = 16 := by kernel_rfl
theorem cells29 : Tryd.prog.cellsOf 29 = 1 := by kernel_rfl
theorem cells5 : Tryd.prog.cellsOf 5 = 1 := by kernel_rfl

/-- the table as the rows list it -/
def tabInts : List Int := [0, 498536548, 997073096, 651767980, 1994146192, 1802195444, 1303535960, 1342533948, 3988292384, 4027552580, 3604390888, 3412177804, 2607071920, 2262029012, 2685067896, 3183342108]
theorem tabInts_at : ∀ k : Fin 16, tabInts.getD k.val 0 = Crc.U (BitVec.ofNat 32 (Crc.tab.getD k.val 0)) := by decide +kernel

/-- WHAT A ROW's LIST GIVES: the table lies in its place. -/
theorem tabIn_of {W : World} (h : laidMetH Tryd.prog [("muniment/crc.halves", Rows.laid_muniment_crc_halves)] W) : TabIn W := by
  have ht : Lib.TabIs Tryd.prog W "muniment/crc.halves" .u32 tabInts :=
    Lib.tabIs_of_head (rest := []) gTab gTabType Tryd.underlying43 Tryd.underlying29 cells29 cells43 h
  intro r
  have hl := Crc.low_lt' r
  have := ht.cell gTab (Crc.low r) (by simpa [tabInts] using hl)
  rw [tabInts_at ⟨Crc.low r, hl⟩] at this
  exact this

/-- A SLICE OF BYTES THAT CAME IN -/
theorem open_bytes {H : Type} {enc : TypeId × Value → H} {W : World} {v : Value} {d : DataW H} {p : List MemPlace} {base : Nat}
    (hv : Value.okWide Tryd.prog W .any base 22 v) (h : DataW.Trod enc Tryd.prog W 0 (fun _ => true) true 22 v d p) : ∃ cs, SliceIn W v cs ∧ (cs = [] ∨ ∃ elems spare, d = .slice elems spare ∧ elems.length = cs.length) := by
  obtain ⟨a0, len0, cap0, rfl⟩ := okWide_slice Tryd.underlying22 hv
  obtain ⟨fuel, hf⟩ := h
  rcases open_ints Tryd.underlying22 Tryd.underlying5 cells5 hf with ⟨hcs, _⟩ | ⟨x, l, c, zs, hcs, _, hl, hm, hz, hx, hcell, hwz⟩
  · simp [Value.cells] at hcs
    obtain ⟨rfl, rfl, rfl⟩ := hcs
    exact ⟨[], ⟨none, 0, rfl, ⟨Nat.le_refl _, by decide⟩, Or.inl rfl⟩, Or.inl rfl⟩
  · simp [Value.cells] at hcs
    obtain ⟨rfl, rfl, rfl⟩ := hcs
    have hz' : zs.length = cap0 := by simpa using hz
    unfold maxLen at hm
    have hlen : ((zs.take len0).map Int.toNat).length = len0 := by simp; omega
    have hbd : ∀ z ∈ zs, 0 ≤ z ∧ z ≤ 255 := fun z hz => by
      have := hwz z hz
      simpa [Lit.wf, IntKind.min, IntKind.max, IntKind.signed, IntKind.bits] using this
    by_cases h0 : len0 = 0
    · subst h0
      exact ⟨[], ⟨some x, cap0, rfl, ⟨Nat.zero_le _, by decide⟩, Or.inl rfl⟩, Or.inl rfl⟩
    · obtain ⟨b, off, rfl, hc⟩ := ints_at hcell (by omega)
      refine ⟨(zs.take len0).map Int.toNat, ⟨some ⟨b, off, none⟩, cap0, by rw [hlen], ⟨by rw [hlen]; omega, by omega⟩, Or.inr ⟨b, off, rfl, fun j hj => ?_, fun j => ?_⟩⟩, Or.inr ⟨_, _, congrArg Prod.fst hx, by simp [lits]⟩⟩
      · rw [hlen] at hj
        have h1 := hc j (by omega)
        rw [h1]
        have hj' : j < zs.length := by omega
        have h2 := hbd zs[j] (List.getElem_mem hj')
        simp [hj, hj', Int.toNat_of_nonneg h2.1]
      · by_cases hj : j < ((zs.take len0).map Int.toNat).length
        · have hz := List.getElem_mem hj
          obtain ⟨y, hy, e⟩ := List.mem_map.1 hz
          have := hbd y (List.mem_of_mem_take hy)
          have e2 : ((zs.take len0).map Int.toNat).getD j 0 = ((zs.take len0).map Int.toNat)[j] := by rw [List.getD_eq_getElem?_getD, List.getElem?_eq_getElem hj]; rfl
          rw [e2, ← e]
          omega
        · rw [List.getD_eq_getElem?_getD, List.getElem?_eq_none (by omega)]
          decide

theorem bytes5 : Tryd.prog.bytesOf 5 = 1 := by kernel_rfl

/-- WHAT THE FORM's OWN REACH GIVES of a slice of bytes -/
theorem reach {H : Type} {ts : List TypeId} {ds : List (DataW H)} (h : (DataW.weightsEach Tryd.prog ts ds).all (· ≤ reachBytes) = true) {j : Nat} {d : DataW H} {cs : List Nat} (ht : ts[j]? = some 22) (hd : ds[j]? = some d)
    (hc : cs = [] ∨ ∃ elems spare, d = .slice elems spare ∧ elems.length = cs.length) : cs.length ≤ 140737488351232 := by
  rcases hc with rfl | ⟨elems, spare, rfl, hl⟩
  · simp
  · have := sized_slice h ht hd Tryd.underlying22
    rw [bytes5] at this
    unfold reachBytes at this
    omega

theorem bulk_length {H : Type} (l : List (DataW H)) : l.length ≤ Rows.uptoBulkAll l := by
  induction l with
  | nil => simp [Rows.uptoBulkAll]
  | cons x r ih =>
    have h1 : 1 ≤ Rows.uptoBulk x := by
      cases x with
      | lit l => cases l <;> simp [Rows.uptoBulk]
      | nil => simp [Rows.uptoBulk]
      | ptr d => simp [Rows.uptoBulk]
      | slice elems spare => simp [Rows.uptoBulk]
      | agg parts => simp [Rows.uptoBulk]
      | iface t d => simp [Rows.uptoBulk]
      | map entries => simp [Rows.uptoBulk]
      | held h => simp [Rows.uptoBulk]
    simp only [Rows.uptoBulkAll, List.length_cons]
    omega
/-- WHAT THE SECOND FORM's BOUND GIVES of a slice of bytes -/
theorem bulk {H : Type} {d : DataW H} {cs : List Nat} (hc : cs = [] ∨ ∃ elems spare, d = .slice elems spare ∧ elems.length = cs.length) : cs.length ≤ Rows.uptoBulk d := by
  rcases hc with rfl | ⟨elems, spare, rfl, hl⟩
  · simp
  · have := bulk_length elems
    simp only [Rows.uptoBulk]
    omega

/-- A WORLD FOR THE WITNESS: the settled one, the table (block 0) holding what its initialiser lays. -/
def laidOn (W : World) : World :=
  { W with heap := W.heap.modify 0 fun
      | .cells _ t frozen => .cells (tabInts.map fun z => Value.int .u32 z).toArray t frozen
      | o => o }
end Go.Proofs.YtflabbladikhbabDoor

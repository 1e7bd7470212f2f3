/- What every law of this seat has in common: the two tables that are listed, a slice of bytes that comes in, the witness's world. Hashes and rows of hashes that come in; the struct of a proof; rows of bytes. -/
import Derived.Test.YtfnncccioipjcaaDoorNew
import Derived.Test.YtfnncccioipjcaaDoorTie
import Derived.Test.YtfnncccioipjcaaDoorCards
import Derived.ProofKit
import Derived.OpenShut
import Derived.ChangeOld
import Derived.Below
import Derived.SizedLaws
import Derived.Deep.DeepHandedRow
import Derived.Lib.LaidTab
import Derived.Test.YtfnncccioipjcaaDoorTMem
import Derived.Deep.Slices
import Derived.Deep.Matrix
namespace Go.Proofs.YtfnncccioipjcaaDoor
open Go.ChangeShapes Go.WideShapes Go.ChangeAt Go.RowKit

theorem own : ownKnob Tryd.prog.godebug = none := by kernel_rfl
theorem laidOut : laidOutB Tryd.prog = true := by kernel_rfl
theorem gStart : Tryd.prog.globalNamed "muniment/sha.start" = some 0 := by kernel_rfl
theorem gStartType : (Tryd.prog.globals[0]?).map (·.type) = some 82 := by kernel_rfl
theorem gTab : Tryd.prog.globalNamed "muniment/sha.constants" = some 1 := by kernel_rfl
theorem gTabType : (Tryd.prog.globals[1]?).map (·.type) = some 89 := by kernel_rfl
theorem cells37 : Tryd.prog.cellsOf 82 = 8 := by kernel_rfl
theorem cells45 : Tryd.prog.cellsOf 89 = 64 := by kernel_rfl
theorem cells36 : Tryd.prog.cellsOf 79 = 1 := by kernel_rfl
theorem cells5 : Tryd.prog.cellsOf 5 = 1 := by kernel_rfl
theorem bytes5 : Tryd.prog.bytesOf 5 = 1 := by kernel_rfl

def startInts : List Int := [1779033703, 3144134277, 1013904242, 2773480762, 1359893119, 2600822924, 528734635, 1541459225]
def tabInts : List Int := Sha.kNat.map Int.ofNat
theorem startInts_at : ∀ k : Fin 8, startInts.getD k.val 0 = Sha.U (Sha.start.list.getD k.val 0) := by decide +kernel
theorem tabInts_at : ∀ k : Fin 64, tabInts.getD k.val 0 = Sha.U (Sha.kAt k.val) := by decide +kernel

/-- WHAT A ROW's LIST GIVES: the two tables lie in their places. -/
theorem tabs_of {W : World} (h : laidMetH Tryd.prog [("muniment/sha.start", Rows.laid_muniment_sha_start), ("muniment/sha.constants", Rows.laid_muniment_sha_constants)] W) : StartIn W ∧ TabIn W := by
  have h1 : Lib.TabIs Tryd.prog W "muniment/sha.start" .u32 startInts :=
    Lib.tabIs_of_head (rest := [("muniment/sha.constants", Rows.laid_muniment_sha_constants)]) gStart gStartType Tryd.underlying82 Tryd.underlying79 cells36 cells37 h
  have h2 : Lib.TabIs Tryd.prog W "muniment/sha.constants" .u32 tabInts := by
    obtain ⟨ps, ⟨g', t', cs, fuel, p, q, hg', ht', hvar, hd, hrest, _⟩, _⟩ := h
    obtain ⟨g2, t2, cs2, fuel2, p2, q2, hg2, ht2, hvar2, hd2, _, _⟩ := hrest
    obtain rfl := Option.some.inj (gTab.symm.trans hg2)
    obtain rfl := Option.some.inj (gTabType.symm.trans ht2)
    have hd3 : DataW.trod (fun _ => ()) Tryd.prog W 0 (fun _ => true) false fuel2 89 cs2.toList = some (Lib.tabData .u32 tabInts, p2) := hd2
    unfold Lib.TabIs
    rw [hvar2, ← Lib.cells_of_tab Tryd.underlying89 Tryd.underlying79 cells36 cells45 hd3]
  refine ⟨fun i hi => ?_, fun t ht => ?_⟩
  · have := h1.cell gStart i (by simpa [startInts] using hi)
    rw [startInts_at ⟨i, hi⟩] at this
    exact this
  · have := h2.cell gTab t (by simpa [tabInts, Sha.kNat] using ht)
    rw [tabInts_at ⟨t, ht⟩] at this
    exact this

/-- A SLICE OF BYTES THAT CAME IN -/
theorem open_bytes {H : Type} {enc : TypeId × Value → H} {W : World} {v : Value} {d : DataW H} {p : List MemPlace} {base : Nat}
    (hv : Value.okWide Tryd.prog W .any base 39 v) (h : DataW.Trod enc Tryd.prog W 0 (fun _ => true) true 39 v d p) : ∃ cs, SliceIn W v cs ∧ (cs = [] ∨ ∃ elems spare, d = .slice elems spare ∧ elems.length = cs.length) := by
  obtain ⟨a0, len0, cap0, rfl⟩ := okWide_slice Tryd.underlying39 hv
  obtain ⟨fuel, hf⟩ := h
  rcases open_ints Tryd.underlying39 Tryd.underlying5 cells5 hf with ⟨hcs, _⟩ | ⟨x, l, c, zs, hcs, _, hl, hm, hz, hx, hcell, hwz⟩
  · simp [Value.cells] at hcs
    obtain ⟨rfl, rfl, rfl⟩ := hcs
    exact ⟨[], ⟨none, 0, rfl, ⟨Nat.le_refl _, by decide⟩, Or.inl rfl⟩, Or.inl rfl⟩
  · simp [Value.cells] at hcs
    obtain ⟨rfl, rfl, rfl⟩ := hcs
    have hz' : zs.length = cap0 := by simpa using hz
    unfold maxLen at hm
    have hlen : ((zs.take len0).map Int.toNat).length = len0 := by simp; omega
    have hbd : ∀ z ∈ zs, 0 ≤ z ∧ z ≤ 255 := fun z hz => by
      have := hwz z hz
      simpa [Lit.wf, IntKind.min, IntKind.max, IntKind.signed, IntKind.bits] using this
    by_cases h0 : len0 = 0
    · subst h0
      exact ⟨[], ⟨some x, cap0, rfl, ⟨Nat.zero_le _, by decide⟩, Or.inl rfl⟩, Or.inl rfl⟩
    · obtain ⟨b, off, rfl, hc⟩ := ints_at hcell (by omega)
      refine ⟨(zs.take len0).map Int.toNat, ⟨some ⟨b, off, none⟩, cap0, by rw [hlen], ⟨by rw [hlen]; omega, by omega⟩, Or.inr ⟨b, off, rfl, fun j hj => ?_, fun j => ?_⟩⟩, Or.inr ⟨_, _, congrArg Prod.fst hx, by simp [lits]⟩⟩
      · rw [hlen] at hj
        have h1 := hc j (by omega)
        rw [h1]
        have hj' : j < zs.length := by omega
        have h2 := hbd zs[j] (List.getElem_mem hj')
        simp [hj, hj', Int.toNat_of_nonneg h2.1]
      · by_cases hj : j < ((zs.take len0).map Int.toNat).length
        · have hz := List.getElem_mem hj
          obtain ⟨y, hy, e⟩ := List.mem_map.1 hz
          have := hbd y (List.mem_of_mem_take hy)
          have e2 : ((zs.take len0).map Int.toNat).getD j 0 = ((zs.take len0).map Int.toNat)[j] := by rw [List.getD_eq_getElem?_getD, List.getElem?_eq_getElem hj]; rfl
          rw [e2, ← e]
          omega
        · rw [List.getD_eq_getElem?_getD, List.getElem?_eq_none (by omega)]
          decide

/-- WHAT THE FORM's OWN REACH GIVES of a slice of bytes -/
theorem reach {H : Type} {ts : List TypeId} {ds : List (DataW H)} (h : (DataW.weightsEach Tryd.prog ts ds).all (· ≤ reachBytes) = true) {j : Nat} {d : DataW H} {cs : List Nat} (ht : ts[j]? = some 39) (hd : ds[j]? = some d)
    (hc : cs = [] ∨ ∃ elems spare, d = .slice elems spare ∧ elems.length = cs.length) : cs.length ≤ 140737488351232 := by
  rcases hc with rfl | ⟨elems, spare, rfl, hl⟩
  · simp
  · have := sized_slice h ht hd Tryd.underlying39
    rw [bytes5] at this
    unfold reachBytes at this
    omega

/-- A WORLD FOR THE WITNESS: the settled one, the two tables (blocks 0 and 1) holding what their initialisers lay. -/
def laidOn (W : World) : World :=
  { W with heap := (W.heap.modify 0 fun
      | .cells _ t frozen => .cells (startInts.map fun z => Value.int .u32 z).toArray t frozen
      | o => o).modify 1 fun
      | .cells _ t frozen => .cells (tabInts.map fun z => Value.int .u32 z).toArray t frozen
      | o => o }
theorem bulk_length {H : Type} (l : List (DataW H)) : l.length ≤ Rows.uptoBulkAll l := by
  induction l with
  | nil => simp [Rows.uptoBulkAll]
  | cons x r ih =>
    have h1 : 1 ≤ Rows.uptoBulk x := by
      cases x with
      | lit l => cases l <;> simp [Rows.uptoBulk]
      | nil => simp [Rows.uptoBulk]
      | ptr d => simp [Rows.uptoBulk]
      | slice elems spare => simp [Rows.uptoBulk]
      | agg parts => simp [Rows.uptoBulk]
      | iface t d => simp [Rows.uptoBulk]
      | map entries => simp [Rows.uptoBulk]
      | held h => simp [Rows.uptoBulk]
    simp only [Rows.uptoBulkAll, List.length_cons]
    omega
/-- WHAT THE SECOND FORM's BOUND GIVES of a slice of bytes -/
theorem bulk {H : Type} {d : DataW H} {cs : List Nat} (hc : cs = [] ∨ ∃ elems spare, d = .slice elems spare ∧ elems.length = cs.length) : cs.length ≤ Rows.uptoBulk d := by
  rcases hc with rfl | ⟨elems, spare, rfl, hl⟩
  · simp
  · have := bulk_length elems
    simp only [Rows.uptoBulk]
    omega
end Go.Proofs.YtfnncccioipjcaaDoor

namespace Go.Proofs.YtfnncccioipjcaaDoor
open Go.ChangeShapes Go.WideShapes Go.ChangeAt Go.RowKit Go.Deep

theorem cells23 : Tryd.prog.cellsOf 29 = 32 := by kernel_rfl
theorem bytes23 : Tryd.prog.bytesOf 29 = 32 := by kernel_rfl
theorem cells24 : Tryd.prog.cellsOf 24 = 1 := by kernel_rfl
theorem cells3 : Tryd.prog.cellsOf 3 = 1 := by kernel_rfl
theorem cells57 : Tryd.prog.cellsOf 39 = 1 := by kernel_rfl
section
variable {H : Type} {enc : TypeId × Value → H} {W : World} {base : Nat} {sp : Nat → Bool} {hd : Bool}
/-- THE CELLS OF A HASH -/
theorem trod_hash {fuel : Nat} {cs : List Value} {x : DataW H × List MemPlace} (h : DataW.trod enc Tryd.prog W base sp hd fuel 29 cs = some x) : ∃ b, IsH b ∧ cs = bcells b := by
  obtain ⟨xs, m, _, _, hl, hxl, hf⟩ := DataW.trod_array Tryd.underlying29 h
  rw [cells23] at hl
  have key : ∀ i, i < 32 → ∃ n : Nat, n < 256 ∧ cs[i]? = some (.int .u8 (n : Int)) := by
    intro i hi
    have h1 := hf i hi
    rw [cells5, Nat.mul_one, List.getElem?_eq_getElem (by omega)] at h1
    obtain ⟨n, hn, _, hw⟩ := DataW.trod_int Tryd.underlying5 h1
    have hb : 0 ≤ n ∧ n ≤ 255 := by simpa [Lit.wf, IntKind.min, IntKind.max, IntKind.signed, IntKind.bits] using hw
    have hc : cs[i]? = ((cs.drop i).take 1)[0]? := by simp
    rw [hn] at hc
    refine ⟨n.toNat, by omega, ?_⟩
    rw [hc, Int.toNat_of_nonneg hb.1]
    rfl
  refine ⟨cs.map (fun c => (match c with | .int _ z => z.toNat | _ => 0)), ⟨by rw [List.length_map, hl], fun c hc => ?_⟩, ?_⟩
  · obtain ⟨v, hv, rfl⟩ := List.mem_map.1 hc
    obtain ⟨i, hi, rfl⟩ := List.getElem_of_mem hv
    obtain ⟨n, hn, e⟩ := key i (by omega)
    rw [List.getElem?_eq_getElem hi] at e
    rw [Option.some.inj e]
    simpa using hn
  · refine List.ext_getElem? fun i => ?_
    by_cases hi : i < cs.length
    · obtain ⟨n, hn, e⟩ := key i (by omega)
      simp only [bcells, List.getElem?_map, e, Option.map_some]
      simp
    · rw [List.getElem?_eq_none (by omega), List.getElem?_eq_none (by rw [bcells_length, List.length_map]; omega)]
/-- A HASH THAT CAME IN -/
theorem open_hash {v : Value} {d : DataW H} {p : List MemPlace} {b0 : Nat} (hv' : Value.okWide Tryd.prog W .any b0 29 v) (h : DataW.Trod enc Tryd.prog W base sp hd 29 v d p) : ∃ b, IsH b ∧ v = hv b := by
  simp only [Value.okWide, Tryd.underlying29] at hv'
  obtain ⟨cs, rfl, _, _⟩ := hv'
  obtain ⟨fuel, hf⟩ := h
  obtain ⟨b, hb, e⟩ := trod_hash hf
  refine ⟨b, hb, ?_⟩
  unfold hv
  rw [← e]
  simp [Value.cells]
theorem getD_flat (n : Nat) (B : Nat → List Nat) (hB : ∀ i, i < n → IsH (B i)) : AllH ((List.range n).map B) := fun h hh => by
  obtain ⟨i, hi, rfl⟩ := List.mem_map.1 hh
  exact hB i (List.mem_range.1 hi)
/-- A ROW OF HASHES THAT CAME IN -/
theorem trod_hashes {fuel : Nat} {v : Value} {x : DataW H × List MemPlace} (hf : DataW.trod enc Tryd.prog W base sp hd fuel 24 [v] = some x) : ∃ hs, HIn W v hs ∧ (hs = [] ∨ ∃ elems spare, x.1 = .slice elems spare ∧ elems.length = hs.length) := by
  rcases open_slice Tryd.underlying24 hf with ⟨hcs, _⟩ | ⟨a, len, cap, m, n, D, Pl, hcs, _, hl, hm, hmm, hx, hel⟩
  · simp at hcs
    subst hcs
    exact ⟨[], HIn.nil W, Or.inl rfl⟩
  · simp at hcs
    subst hcs
    have hlen : len ≤ m := by rw [hmm]; split <;> omega
    rw [cells23] at hel
    obtain ⟨B, hB⟩ := choose_lt (α := List Nat) (p := fun i b => IsH b ∧ W.cells? base (a.add (i * 32)) 32 = some (bcells b)) (n := len) (fun i hi => by
      obtain ⟨cs', h1, h2⟩ := hel i (by omega)
      obtain ⟨b, hb, rfl⟩ := trod_hash h2
      exact ⟨b, hb, h1⟩)
    unfold maxLen at hm
    have ha := getD_flat len B (fun i hi => (hB i hi).1)
    refine ⟨(List.range len).map B, ⟨ha, some a, cap, by simp, ⟨by simpa using hl, by simp; omega⟩, ?_⟩, Or.inr ⟨_, _, congrArg Prod.fst hx, by simp⟩⟩
    by_cases h0 : len = 0
    · subst h0
      exact Or.inl (by simp)
    · right
      have hplain : ∃ b off, a = ⟨b, off, none⟩ := by
        obtain ⟨hb0, hc0⟩ := hB 0 (by omega)
        obtain ⟨_, _, hc⟩ := World.cells?_some hc0
        have h1 := hc 0 (by decide)
        rw [bcells_at (B 0) 0 (by rw [hb0.1]; decide)] at h1
        obtain ⟨ab, ao, sp'⟩ := a
        have hsp : sp' = none := by simpa [Addr.add] using World.cell?_spot h1
        subst hsp
        exact ⟨ab, ao, rfl⟩
      obtain ⟨b, off, rfl⟩ := hplain
      refine ⟨b, off, rfl, fun j hj => ?_, flat_lt _ ha⟩
      rw [flat_length _ ha, List.length_map, List.length_range] at hj
      have hi : j / 32 < len := by omega
      obtain ⟨hbi, hci⟩ := hB (j / 32) hi
      obtain ⟨_, _, hc⟩ := World.cells?_some hci
      have h1 := hc (j % 32) (by omega)
      rw [bcells_at (B (j / 32)) (j % 32) (by rw [hbi.1]; omega), add_none, add_none] at h1
      have h2 := flat_at ((List.range len).map B) ha (j / 32) (j % 32) (by simpa using hi) (by omega)
      rw [show j / 32 * 32 + j % 32 = j by omega] at h2
      rw [h2]
      have h3 : ((List.range len).map B).getD (j / 32) [] = B (j / 32) := by simp [hi]
      rw [h3, ← h1, show off + j / 32 * 32 + j % 32 = off + j by omega]
theorem open_hashes {v : Value} {d : DataW H} {p : List MemPlace} {b0 : Nat} (hv' : Value.okWide Tryd.prog W .any b0 24 v) (h : DataW.Trod enc Tryd.prog W base sp hd 24 v d p) : ∃ hs, HIn W v hs ∧ (hs = [] ∨ ∃ elems spare, d = .slice elems spare ∧ elems.length = hs.length) := by
  obtain ⟨a0, len0, cap0, rfl⟩ := okWide_slice Tryd.underlying24 hv'
  obtain ⟨fuel, hf⟩ := h
  exact trod_hashes (by simpa [Value.cells] using hf)
/-- WHAT THE FORM's OWN REACH GIVES of a row of hashes -/
theorem reachH {ts : List TypeId} {ds : List (DataW H)} (h : (DataW.weightsEach Tryd.prog ts ds).all (· ≤ reachBytes) = true) {j : Nat} {d : DataW H} {hs : List (List Nat)} (ht : ts[j]? = some 24) (hd : ds[j]? = some d)
    (hc : hs = [] ∨ ∃ elems spare, d = .slice elems spare ∧ elems.length = hs.length) : hs.length * 32 ≤ 140737488351232 := by
  rcases hc with rfl | ⟨elems, spare, rfl, hl⟩
  · simp
  · have := sized_slice h ht hd Tryd.underlying24
    rw [bytes23] at this
    unfold reachBytes at this
    omega
/-- what a chunk is held against, as a value -/
def heldCells (i n : Int) (v : Value) (r : List Nat) : List Value := .int .i64 i :: .int .i64 n :: v :: bcells r
def heldV (i n : Int) (v : Value) (r : List Nat) : Value := .agg (heldCells i n v r).toArray
theorem cells45h : Tryd.prog.cellsOf 45 = 35 := by kernel_rfl
theorem und45 : ∃ f0 f1 f2 f3 : Field, Tryd.prog.underlying 45 = some (.struct #[f0, f1, f2, f3]) ∧ (f0.type = 3 ∧ f0.offset = 0) ∧ (f1.type = 3 ∧ f1.offset = 1) ∧ (f2.type = 24 ∧ f2.offset = 2) ∧ (f3.type = 29 ∧ f3.offset = 3) :=
  ⟨_, _, _, _, Tryd.underlying45, ⟨rfl, rfl⟩, ⟨rfl, rfl⟩, ⟨rfl, rfl⟩, rfl, rfl⟩
theorem cut4 (cs : List Value) (x0 x1 z xs) (hl : cs.length = 35) (h0 : (cs.drop 0).take 1 = [x0]) (h1 : (cs.drop 1).take 1 = [x1]) (h2 : (cs.drop 2).take 1 = [z]) (h3 : (cs.drop 3).take 32 = xs) : cs = x0 :: x1 :: z :: xs := by
  have e1 : cs = cs.take 1 ++ (cs.drop 1).take 1 ++ (cs.drop 2).take 1 ++ cs.drop 3 := by
    have a1 : cs = cs.take 3 ++ cs.drop 3 := (List.take_append_drop 3 cs).symm
    have a2 : cs.take 3 = cs.take 2 ++ (cs.drop 2).take 1 := by rw [← List.take_add]
    have a3 : cs.take 2 = cs.take 1 ++ (cs.drop 1).take 1 := by rw [← List.take_add]
    rw [← a3, ← a2]
    exact a1
  have h3' : cs.drop 3 = xs := by rw [← h3, List.take_of_length_le (by simp; omega)]
  rw [List.drop_zero] at h0
  rw [e1, h0, h1, h2, h3']
  simp
/-- THE STRUCT THAT CAME IN -/
theorem open_held {v : Value} {d : DataW H} {p : List MemPlace} {b0 : Nat} (hv' : Value.okWide Tryd.prog W .any b0 45 v) (h : DataW.Trod enc Tryd.prog W base sp hd 45 v d p) :
    ∃ i n vp hs r, v = heldV i n vp r ∧ IsH r ∧ HIn W vp hs ∧ (-9223372036854775808 ≤ i ∧ i ≤ 9223372036854775807) ∧ (-9223372036854775808 ≤ n ∧ n ≤ 9223372036854775807) := by
  obtain ⟨f0, f1, f2, f3, hu, ⟨t0, o0⟩, ⟨t1, o1⟩, ⟨t2, o2⟩, ⟨t3, o3⟩⟩ := und45
  obtain ⟨cs, rfl, hsz⟩ := okWide_struct hu hv'
  obtain ⟨fuel, hf⟩ := h
  obtain ⟨xs, n, _, hx, hl, hlen, hfs⟩ := DataW.trod_struct hu hf
  match xs, hlen with
  | [y0, y1, y2, y3], _ =>
    have g0 := hfs 0 f0 rfl
    have g1 := hfs 1 f1 rfl
    have g2 := hfs 2 f2 rfl
    have g3 := hfs 3 f3 rfl
    rw [t0, o0, cells3] at g0
    rw [t1, o1, cells3] at g1
    rw [t2, o2, cells24] at g2
    rw [t3, o3, cells23] at g3
    obtain ⟨m, e0, _, w0⟩ := DataW.trod_int Tryd.underlying3 g0
    obtain ⟨k, e1, _, w1⟩ := DataW.trod_int Tryd.underlying3 g1
    obtain ⟨b, hb, e3⟩ := trod_hash g3
    have hc35 : (Value.agg cs).cells.toList.length = 35 := by rw [hl, cells45h]
    have hsl : ∃ z, ((Value.agg cs).cells.toList.drop 2).take 1 = [z] := by
      refine List.length_eq_one_iff.1 ?_
      rw [List.length_take, List.length_drop, hc35]
      rfl
    obtain ⟨z, ez⟩ := hsl
    have g2' : DataW.trod enc Tryd.prog W base sp hd n 24 [z] = some y2 := by rw [← ez]; exact g2
    obtain ⟨hs, hin, _⟩ := trod_hashes g2'
    have hcs := cut4 _ _ _ z _ hc35 e0 e1 ez e3
    refine ⟨m, k, z, hs, b, ?_, hb, hin, by simpa [Lit.wf, IntKind.min, IntKind.max, IntKind.signed, IntKind.bits] using w0, by simpa [Lit.wf, IntKind.min, IntKind.max, IntKind.signed, IntKind.bits] using w1⟩
    unfold heldV heldCells
    rw [← hcs]
    simp [Value.cells]
end
end Go.Proofs.YtfnncccioipjcaaDoor

/- Layer 8: what comes in: the table that is listed, scripts, lists of numbers, rows of bytes. -/
import Derived.Test.YthgidfoidbgnaaaDoorE39
import Derived.Test.YthgidfoidbgnaaaDoorTie
import Derived.Test.YthgidfoidbgnaaaDoorCards
import Derived.ProofKit
import Derived.OpenShut
import Derived.ChangeOld
import Derived.SizedLaws
import Derived.Deep.DeepHandedRow
import Derived.Deep.Slices
import Derived.Deep.Matrix
import Derived.Lib.LaidTab
namespace Go.Proofs.YthgidfoidbgnaaaDoor
open Go.ChangeShapes Go.WideShapes Go.ChangeAt Go.RowKit Go.Deep

theorem own : ownKnob Tryd.prog.godebug = none := by kernel_rfl
theorem laidOut : laidOutB Tryd.prog = true := by kernel_rfl
theorem gTz : Tryd.prog.globalNamed "math/bits.deBruijn32tab" = some 0 := by kernel_rfl
theorem gTzType : (Tryd.prog.globals[0]?).map (·.type) = some 154 := by kernel_rfl
theorem cells154 : Tryd.prog.cellsOf 154 = 32 := by kernel_rfl
theorem gTab : Tryd.prog.globalNamed "muniment/crc.halves" = some 1 := by kernel_rfl
theorem gTabType : (Tryd.prog.globals[1]?).map (·.type) = some 164 := by kernel_rfl
theorem cells164 : Tryd.prog.cellsOf 164 = 16 := by kernel_rfl
theorem cells138 : Tryd.prog.cellsOf 138 = 1 := by kernel_rfl
theorem cells5 : Tryd.prog.cellsOf 5 = 1 := by kernel_rfl
theorem cells3 : Tryd.prog.cellsOf 3 = 1 := by kernel_rfl
theorem cells28 : Tryd.prog.cellsOf 28 = 1 := by kernel_rfl
theorem cells31 : Tryd.prog.cellsOf 31 = 1 := by kernel_rfl
theorem cells33 : Tryd.prog.cellsOf 33 = 8 := by kernel_rfl
/-- the table as the rows list it -/
def tabInts : List Int := [0, 498536548, 997073096, 651767980, 1994146192, 1802195444, 1303535960, 1342533948, 3988292384, 4027552580, 3604390888, 3412177804, 2607071920, 2262029012, 2685067896, 3183342108]
theorem tabInts_at : ∀ k : Fin 16, tabInts.getD k.val 0 = Fr.Crc.U (BitVec.ofNat 32 (Fr.Crc.tab.getD k.val 0)) := by decide +kernel

def tzInts : List Int := tzTab.map Int.ofNat
/-- WHAT A ROW's LIST GIVES: the two tables lie in their places. -/
theorem tabs_of {W : World} (h : laidMetH Tryd.prog [("math/bits.deBruijn32tab", Rows.laid_math_bits_deBruijn32tab), ("muniment/crc.halves", Rows.laid_muniment_crc_halves)] W) : TzIn W ∧ Fr.TabIn W := by
 have h1 : Lib.TabIs Tryd.prog W "math/bits.deBruijn32tab" .u8 tzInts :=
  Lib.tabIs_of_head (rest := [("muniment/crc.halves", Rows.laid_muniment_crc_halves)]) gTz gTzType Tryd.underlying154 Tryd.underlying5 cells5 cells154 h
 have h2 : Lib.TabIs Tryd.prog W "muniment/crc.halves" .u32 tabInts := by
  obtain ⟨ps, ⟨g', t', cs, fuel, p, q, hg', ht', hvar, hd, hrest, _⟩, _⟩ := h
  obtain ⟨g2, t2, cs2, fuel2, p2, q2, hg2, ht2, hvar2, hd2, _, _⟩ := hrest
  obtain rfl := Option.some.inj (gTab.symm.trans hg2)
  obtain rfl := Option.some.inj (gTabType.symm.trans ht2)
  have hd3 : DataW.trod (fun _ => ()) Tryd.prog W 0 (fun _ => true) false fuel2 164 cs2.toList = some (Lib.tabData .u32 tabInts, p2) := hd2
  unfold Lib.TabIs
  rw [hvar2, ← Lib.cells_of_tab Tryd.underlying164 Tryd.underlying138 cells138 cells164 hd3]
 refine ⟨fun j hj => ?_, fun r => ?_⟩
 ·have := h1.cell gTz j (by simpa [tzInts, tzTab] using hj)
  rw [this]
  have e : tzInts.getD j 0 = ((tzTab.getD j 0 : Nat) : Int) := by
   unfold tzInts
   simp [List.getD_eq_getElem?_getD, show j < tzTab.length from hj]
  rw [e]
 ·have hl := Fr.Crc.low_lt' r
  have := h2.cell gTab (Fr.Crc.low r) (by simpa [tabInts] using hl)
  rw [tabInts_at ⟨Fr.Crc.low r, hl⟩] at this
  exact this

theorem bulk_length {H : Type} (l : List (DataW H)) : l.length ≤ Rows.uptoBulkAll l := by
 induction l with
 | nil => simp [Rows.uptoBulkAll]
 | cons x r ih =>
  have h1 : 1 ≤ Rows.uptoBulk x := by
   cases x with
   | lit l => cases l <;> simp [Rows.uptoBulk]
   | nil => simp [Rows.uptoBulk]
   | ptr d => simp [Rows.uptoBulk]
   | slice elems spare => simp [Rows.uptoBulk]
   | agg parts => simp [Rows.uptoBulk]
   | iface t d => simp [Rows.uptoBulk]
   | map entries => simp [Rows.uptoBulk]
   | held h => simp [Rows.uptoBulk]
  simp only [Rows.uptoBulkAll, List.length_cons]
  omega
/-- A WORLD FOR THE WITNESS: the settled one, the tables (blocks 0 and 1) holding what their initialisers lay. -/
def laidOn (W : World) : World :=
 { W with heap := (W.heap.modify 0 fun
   | .cells _ t frozen => .cells (tzInts.map fun z => Value.int .u8 z).toArray t frozen
   | o => o).modify 1 fun
   | .cells _ t frozen => .cells (tabInts.map fun z => Value.int .u32 z).toArray t frozen
   | o => o }
set_option maxRecDepth 100000 in
theorem open_field {H : Type} {enc : TypeId × Value → H} {W : World} {v : Value} {y : DataW H × List MemPlace} {n : Nat}
  (hf : DataW.trod enc Tryd.prog W 0 (fun _ => true) true n 31 [v] = some y) : ∃ l : List Int, (l.length < 4611686018427387904 → IntsIn W v l) ∧ (l = [] ∨ ∃ elems spare, y.1 = .slice elems spare ∧ elems.length = l.length) := by
 rcases open_ints Tryd.underlying31 Tryd.underlying3 cells3 hf with ⟨hcs, _⟩ | ⟨x, l, c, zs, hcs, _, hl, hm, hz, hx, hcell, hwz⟩
 ·simp at hcs
  subst hcs
  exact ⟨[], fun _ => ⟨none, 0, rfl, by decide, by decide, Or.inl rfl⟩, Or.inl rfl⟩
 ·simp at hcs
  subst hcs
  have hz' : zs.length = c := by simpa using hz
  have hlen : (zs.take l).length = l := by simp; omega
  by_cases h0 : l = 0
  ·subst h0
   exact ⟨[], fun _ => ⟨some x, c, rfl, by simp, by decide, Or.inl rfl⟩, Or.inl rfl⟩
  ·obtain ⟨b, off, rfl, hc⟩ := ints_at hcell (by omega)
   refine ⟨zs.take l, fun h62 => ⟨some ⟨b, off, none⟩, c, by rw [hlen], by omega, h62, Or.inr ⟨b, off, rfl, fun j hj => ?_⟩⟩, Or.inr ⟨_, _, congrArg Prod.fst hx, by simp [lits]⟩⟩
   rw [hlen] at hj
   have h1 := hc j (by omega)
   rw [h1]
   have hj' : j < zs.length := by omega
   simp [hj, hj']
set_option maxRecDepth 100000 in
theorem open_i64 {H : Type} {enc : TypeId × Value → H} {W : World} {v : Value} {y : DataW H × List MemPlace} {n : Nat} (hf : DataW.trod enc Tryd.prog W 0 (fun _ => true) true n 3 [v] = some y) : ∃ z, v = .int .i64 z ∧ (-9223372036854775808 ≤ z ∧ z ≤ 9223372036854775807) := by
 obtain ⟨z, hz, _, hw⟩ := DataW.trod_int Tryd.underlying3 hf
 refine ⟨z, by simpa using hz, ?_⟩
 have h : (-9223372036854775808 ≤ z ∧ z ≤ 9223372036854775807) := by simpa [Lit.wf, IntKind.min, IntKind.max, IntKind.signed, IntKind.bits] using hw
 exact h
theorem bulk_mem {H : Type} {l : List (DataW H)} {d : DataW H} (h : d ∈ l) : Rows.uptoBulk d ≤ Rows.uptoBulkAll l := by
 induction l with
 | nil => cases h
 | cons x r ih =>
  simp only [Rows.uptoBulkAll]
  rcases List.mem_cons.1 h with rfl | h
  ·omega
  ·have := ih h
   omega
set_option maxRecDepth 100000 in
/-- A SLICE OF NUMBERS THAT CAME IN -/
theorem open_nums {H : Type} {enc : TypeId × Value → H} {W : World} {v : Value} {d : DataW H} {p : List MemPlace} {base : Nat}
  (hv : Value.okWide Tryd.prog W .any base 31 v) (h : DataW.Trod enc Tryd.prog W 0 (fun _ => true) true 31 v d p) : ∃ l : List Int, (l.length < 4611686018427387904 → IntsIn W v l) ∧ (l = [] ∨ ∃ elems spare, d = .slice elems spare ∧ elems.length = l.length) ∧ ∀ z ∈ l, -9223372036854775808 ≤ z ∧ z ≤ 9223372036854775807 := by
 obtain ⟨a0, len0, cap0, rfl⟩ := okWide_slice Tryd.underlying31 hv
 obtain ⟨fuel, hf⟩ := h
 rcases open_ints Tryd.underlying31 Tryd.underlying3 cells3 hf with ⟨hcs, _⟩ | ⟨x, l, c, zs, hcs, _, hl, hm, hz, hx, hcell, hwz⟩
 ·simp [Value.cells] at hcs
  obtain ⟨rfl, rfl, rfl⟩ := hcs
  exact ⟨[], fun _ => ⟨none, 0, rfl, by decide, by decide, Or.inl rfl⟩, Or.inl rfl, fun z hz => by cases hz⟩
 ·simp [Value.cells] at hcs
  obtain ⟨rfl, rfl, rfl⟩ := hcs
  have hz' : zs.length = cap0 := by simpa using hz
  have hlen : (zs.take len0).length = len0 := by simp; omega
  have hbd : ∀ z ∈ zs.take len0, -9223372036854775808 ≤ z ∧ z ≤ 9223372036854775807 := fun z hz => by
   have := hwz z (List.mem_of_mem_take hz)
   simpa [Lit.wf, IntKind.min, IntKind.max, IntKind.signed, IntKind.bits] using this
  by_cases h0 : len0 = 0
  ·subst h0
   exact ⟨[], fun _ => ⟨some x, cap0, rfl, by simp, by decide, Or.inl rfl⟩, Or.inl rfl, fun z hz => by cases hz⟩
  ·obtain ⟨b, off, rfl, hc⟩ := ints_at hcell (by omega)
   refine ⟨zs.take len0, fun h62 => ⟨some ⟨b, off, none⟩, cap0, by rw [hlen], by omega, h62, Or.inr ⟨b, off, rfl, fun j hj => ?_⟩⟩, Or.inr ⟨_, _, congrArg Prod.fst hx, by simp [lits]⟩, hbd⟩
   rw [hlen] at hj
   have h1 := hc j (by omega)
   rw [h1]
   have hj' : j < zs.length := by omega
   simp [hj, hj']
theorem open_len {H : Type} {d : DataW H} {l : List Int} (hd : l = [] ∨ ∃ elems spare, d = .slice elems spare ∧ elems.length = l.length) (hb : Rows.uptoBulk d ≤ 1048576) : l.length < 4611686018427387904 := by
 rcases hd with rfl | ⟨elems, spare, e, he⟩
 ·simp
 ·rw [e] at hb
  simp only [Rows.uptoBulk] at hb
  have := bulk_length elems
  omega
end Go.Proofs.YthgidfoidbgnaaaDoor

/- Layer 8: what comes in: the table that is listed, scripts, lists of numbers, rows of bytes. -/
import Derived.Test.YtjnhhkfknlkfeaaDoorV39
import Derived.Test.YtjnhhkfknlkfeaaDoorTie
import Derived.Test.YtjnhhkfknlkfeaaDoorCards
import Derived.ProofKit
import Derived.OpenShut
import Derived.ChangeOld
import Derived.Below
import Derived.SizedLaws
import Derived.Deep.DeepHandedRow
import Derived.Deep.Slices
import Derived.Deep.Matrix
import Derived.Lib.LaidTab
namespace Go.Proofs.YtjnhhkfknlkfeaaDoor
open Go.ChangeShapes Go.WideShapes Go.ChangeAt Go.RowKit Go.Deep

theorem own : ownKnob Tryd.prog.godebug = none := by kernel_rfl
theorem laidOut : laidOutB Tryd.prog = true := by kernel_rfl
theorem gTz : Tryd.prog.globalNamed "math/bits.deBruijn32tab" = some 0 := by kernel_rfl
theorem gTzType : (Tryd.prog.globals[0]?).map (·.type) = some 154 := by kernel_rfl
theorem cells154 : Tryd.prog.cellsOf 154 = 32 := by kernel_rfl
theorem gTab : Tryd.prog.globalNamed "muniment/crc.halves" = some 1 := by kernel_rfl
theorem gTabType : (Tryd.prog.globals[1]?).map (·.type) = some 164 := by kernel_rfl
theorem cells164 : Tryd.prog.cellsOf 164 = 16 := by kernel_rfl
theorem cells138 : Tryd.prog.cellsOf 138 = 1 := by kernel_rfl
theorem cells5 : Tryd.prog.cellsOf 5 = 1 := by kernel_rfl
theorem cells28 : Tryd.prog.cellsOf 28 = 1 := by kernel_rfl
/-- the table as the rows list it -/
def tabInts : List Int := [0, 498536548, 997073096, 651767980, 1994146192, 1802195444, 1303535960, 1342533948, 3988292384, 4027552580, 3604390888, 3412177804, 2607071920, 2262029012, 2685067896, 3183342108]
theorem tabInts_at : ∀ k : Fin 16, tabInts.getD k.val 0 = Fr.Crc.U (BitVec.ofNat 32 (Fr.Crc.tab.getD k.val 0)) := by decide +kernel

def tzInts : List Int := tzTab.map Int.ofNat
/-- WHAT A ROW's LIST GIVES: the two tables lie in their places. -/
theorem tabs_of {W : World} (h : laidMetH Tryd.prog [("math/bits.deBruijn32tab", Rows.laid_math_bits_deBruijn32tab), ("muniment/crc.halves", Rows.laid_muniment_crc_halves)] W) : TzIn W ∧ Fr.TabIn W := by
  have h1 : Lib.TabIs Tryd.prog W "math/bits.deBruijn32tab" .u8 tzInts :=
    Lib.tabIs_of_head (rest := [("muniment/crc.halves", Rows.laid_muniment_crc_halves)]) gTz gTzType Tryd.underlying154 Tryd.underlying5 cells5 cells154 h
  have h2 : Lib.TabIs Tryd.prog W "muniment/crc.halves" .u32 tabInts := by
    obtain ⟨ps, ⟨g', t', cs, fuel, p, q, hg', ht', hvar, hd, hrest, _⟩, _⟩ := h
    obtain ⟨g2, t2, cs2, fuel2, p2, q2, hg2, ht2, hvar2, hd2, _, _⟩ := hrest
    obtain rfl := Option.some.inj (gTab.symm.trans hg2)
    obtain rfl := Option.some.inj (gTabType.symm.trans ht2)
    have hd3 : DataW.trod (fun _ => ()) Tryd.prog W 0 (fun _ => true) false fuel2 164 cs2.toList = some (Lib.tabData .u32 tabInts, p2) := hd2
    unfold Lib.TabIs
    rw [hvar2, ← Lib.cells_of_tab Tryd.underlying164 Tryd.underlying138 cells138 cells164 hd3]
  refine ⟨fun j hj => ?_, fun r => ?_⟩
  · have := h1.cell gTz j (by simpa [tzInts, tzTab] using hj)
    rw [this]
    have e : tzInts.getD j 0 = ((tzTab.getD j 0 : Nat) : Int) := by
      unfold tzInts
      simp [List.getD_eq_getElem?_getD, show j < tzTab.length from hj]
    rw [e]
  · have hl := Fr.Crc.low_lt' r
    have := h2.cell gTab (Fr.Crc.low r) (by simpa [tabInts] using hl)
    rw [tabInts_at ⟨Fr.Crc.low r, hl⟩] at this
    exact this

theorem bulk_length {H : Type} (l : List (DataW H)) : l.length ≤ Rows.uptoBulkAll l := by
  induction l with
  | nil => simp [Rows.uptoBulkAll]
  | cons x r ih =>
    have h1 : 1 ≤ Rows.uptoBulk x := by
      cases x with
      | lit l => cases l <;> simp [Rows.uptoBulk]
      | nil => simp [Rows.uptoBulk]
      | ptr d => simp [Rows.uptoBulk]
      | slice elems spare => simp [Rows.uptoBulk]
      | agg parts => simp [Rows.uptoBulk]
      | iface t d => simp [Rows.uptoBulk]
      | map entries => simp [Rows.uptoBulk]
      | held h => simp [Rows.uptoBulk]
    simp only [Rows.uptoBulkAll, List.length_cons]
    omega
/-- A WORLD FOR THE WITNESS: the settled one, the tables (blocks 0 and 1) holding what their initialisers lay. -/
def laidOn (W : World) : World :=
  { W with heap := (W.heap.modify 0 fun
      | .cells _ t frozen => .cells (tzInts.map fun z => Value.int .u8 z).toArray t frozen
      | o => o).modify 1 fun
      | .cells _ t frozen => .cells (tabInts.map fun z => Value.int .u32 z).toArray t frozen
      | o => o }
theorem bulk_rows {H : Type} (f : Nat → DataW H) (g : Nat → List Nat) (rs : List Nat) (h : ∀ r ∈ rs, (g r).length + 1 ≤ Rows.uptoBulk (f r)) : (rs.map g).flatten.length + rs.length ≤ Rows.uptoBulkAll (rs.map f) := by
  induction rs with
  | nil => simp [Rows.uptoBulkAll]
  | cons r rs ih =>
    have h1 := h r (by simp)
    have h2 := ih (fun x hx => h x (by simp [hx]))
    simp only [List.map_cons, List.flatten_cons, List.length_append, List.length_cons, Rows.uptoBulkAll]
    omega
set_option maxRecDepth 100000 in
/-- A SLICE OF SLICES OF BYTES, INSIDE ANOTHER OR BY ITSELF -/
theorem rows_field {H : Type} {enc : TypeId × Value → H} {W : World} {v : Value} {y : DataW H × List MemPlace} {n : Nat} (hf : DataW.trod enc Tryd.prog W 0 (fun _ => true) true n 57 [v] = some y) : ∃ L, RowsIn W v L ∧ L.flatten.length + L.length ≤ Rows.uptoBulk y.1 := by
  rcases open_int_rows Tryd.underlying57 Tryd.underlying28 Tryd.underlying5 cells28 cells5 hf with ⟨hcs, _⟩ | ⟨a, len, cap, A, Ls, C, Z, hcs, _, hl, hm, hx, hrow⟩
  · simp at hcs
    subst hcs
    exact ⟨[], ⟨none, 0, rfl, by decide, Or.inl rfl⟩, by simp⟩
  · simp at hcs
    subst hcs
    unfold maxLen at hm
    have hbd : ∀ r, r < cap → ∀ z ∈ Z r, 0 ≤ z ∧ z ≤ 255 := fun r hr z hz => by
      have := (hrow r hr).2.2.2.2.1 z hz
      simpa [Lit.wf, IntKind.min, IntKind.max, IntKind.signed, IntKind.bits] using this
    have hgl : ∀ r, r < cap → (((Z r).take (Ls r)).map Int.toNat).length = Ls r := fun r hr => by
      have h1 := (hrow r hr).2.1
      have h2 := (hrow r hr).2.2.2.1
      rw [List.length_map, List.length_take]
      omega
    refine ⟨(List.range len).map fun r => ((Z r).take (Ls r)).map Int.toNat, ⟨some a, cap, by simp, by simp; omega, ?_⟩, ?_⟩
    · by_cases h0 : len = 0
      · subst h0
        exact Or.inl (by simp)
      · right
        have hplain : ∃ b off, a = ⟨b, off, none⟩ := by
          have h1 := (hrow 0 (by omega)).1
          obtain ⟨ab, ao, sp⟩ := a
          have hsp : sp = none := by simpa [Addr.add] using World.cell?_spot h1
          subst hsp
          exact ⟨ab, ao, rfl⟩
        obtain ⟨b, off, rfl⟩ := hplain
        refine ⟨b, off, rfl, fun i hi => ?_⟩
        have hi' : i < len := by simpa using hi
        have hic : i < cap := by omega
        obtain ⟨hcell, hlc, hcm, hzl, hwz, hnone, hsome⟩ := hrow i hic
        rw [add_none] at hcell
        refine ⟨_, hcell, ?_⟩
        have hget : ((List.range len).map fun r => ((Z r).take (Ls r)).map Int.toNat).getD i [] = ((Z i).take (Ls i)).map Int.toNat := by simp [hi']
        rw [hget]
        refine ⟨A i, C i, by rw [hgl i hic], ⟨by rw [hgl i hic]; exact hlc, by rw [hgl i hic]; unfold maxLen at hcm; omega⟩, ?_⟩
        by_cases hz0 : Ls i = 0
        · exact Or.inl (by rw [hz0]; simp)
        · right
          cases hA : A i with
          | none => have := hnone hA; omega
          | some a' =>
            obtain ⟨_, hc'⟩ := hsome a' hA
            obtain ⟨b', off', rfl, hc⟩ := ints_at (zs := Z i) (fun c hc2 => hc' c (by omega)) (by omega)
            refine ⟨b', off', rfl, fun j hj => ?_, fun j => ?_⟩
            · rw [hgl i hic] at hj
              have hj' : j < (Z i).length := by omega
              rw [hc j hj']
              have h2 := hbd i hic (Z i)[j] (List.getElem_mem hj')
              simp [hj, hj', Int.toNat_of_nonneg h2.1]
            · by_cases hj : j < (((Z i).take (Ls i)).map Int.toNat).length
              · have hz := List.getElem_mem hj
                obtain ⟨y, hy, e⟩ := List.mem_map.1 hz
                have := hbd i hic y (List.mem_of_mem_take hy)
                have e2 : (((Z i).take (Ls i)).map Int.toNat).getD j 0 = (((Z i).take (Ls i)).map Int.toNat)[j] := by rw [List.getD_eq_getElem?_getD, List.getElem?_eq_getElem hj]; rfl
                rw [e2, ← e]
                omega
              · rw [List.getD_eq_getElem?_getD, List.getElem?_eq_none (by omega)]
                decide
    · have hd := congrArg Prod.fst hx
      simp only at hd
      rw [hd]
      simp only [Rows.uptoBulk]
      have hb := bulk_rows (fun r => (intRow .u8 (A r) (Ls r) (Z r) : DataW H)) (fun r => ((Z r).take (Ls r)).map Int.toNat) (List.range len) (fun r hr => by
        have hrl := List.mem_range.1 hr
        rw [hgl r (by omega)]
        obtain ⟨hcell, hlc, hcm, hzl, hwz, hnone, hsome⟩ := hrow r (by omega)
        cases hA : A r with
        | none =>
          have := hnone hA
          simp only [intRow, Rows.uptoBulk]
          omega
        | some a' =>
          simp only [intRow, Rows.uptoBulk]
          have h1 := bulk_length (H := H) (lits .u8 ((Z r).take (Ls r)))
          have h2 : (lits (H := H) .u8 ((Z r).take (Ls r))).length = Ls r := by simp [lits]; omega
          omega)
      simp only [List.length_map]
      omega
set_option maxRecDepth 100000 in
/-- A SLICE OF SLICES OF BYTES THAT CAME IN -/
theorem open_rows {H : Type} {enc : TypeId × Value → H} {W : World} {v : Value} {d : DataW H} {p : List MemPlace} {base : Nat}
    (hv : Value.okWide Tryd.prog W .any base 57 v) (h : DataW.Trod enc Tryd.prog W 0 (fun _ => true) true 57 v d p) : ∃ L, RowsIn W v L ∧ L.flatten.length + L.length ≤ Rows.uptoBulk d := by
  obtain ⟨a0, len0, cap0, rfl⟩ := okWide_slice Tryd.underlying57 hv
  obtain ⟨fuel, hf⟩ := h
  exact rows_field (y := (d, p)) hf
end Go.Proofs.YtjnhhkfknlkfeaaDoor

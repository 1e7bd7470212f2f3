/- Layer 15: what comes in: the table that is listed, scripts, lists of numbers, rows of bytes. Layer 15: places that come in. For all blocks that a tape may hold, all places and all turns of bits: a cold volume is opened, answers an object, or is told to be corrupt, and nothing dies: the law ColdvolRots returns true and changes nothing that was there. No condition but the form's own reach; the tables crc.halves, sha.start and sha.constants start as the program's text lays them (the card ties them). -/
import Derived.Test.YtpkkkkomdblpoaaDoorTie
import Derived.Test.YtpkkkkomdblpoaaDoorCards
import Derived.ProofKit
import Derived.OpenShut
import Derived.ChangeOld
import Derived.SizedLaws
import Derived.Deep.DeepHandedRow
import Derived.Deep.Slices
import Derived.Deep.Matrix
import Derived.Lib.LaidTab
import Derived.Laws.IdiomArrays
import Derived.Test.YtpkkkkomdblpoaaDoorQ36
namespace Go.Proofs.YtpkkkkomdblpoaaDoor
open Cold Go.ChangeShapes Go.WideShapes Go.ChangeAt Go.RowKit Go.Deep

theorem own : ownKnob Tryd.prog.godebug = none := by kernel_rfl
theorem laidOut : laidOutB Tryd.prog = true := by kernel_rfl
theorem gStart : Tryd.prog.globalNamed "muniment/sha.start" = some 0 := by kernel_rfl
theorem gStartType : (Tryd.prog.globals[0]?).map (·.type) = some 171 := by kernel_rfl
theorem gCons : Tryd.prog.globalNamed "muniment/sha.constants" = some 1 := by kernel_rfl
theorem gConsType : (Tryd.prog.globals[1]?).map (·.type) = some 175 := by kernel_rfl
theorem gTab : Tryd.prog.globalNamed "muniment/crc.halves" = some 2 := by kernel_rfl
theorem gTabType : (Tryd.prog.globals[2]?).map (·.type) = some 194 := by kernel_rfl
theorem cells171 : Tryd.prog.cellsOf 171 = 8 := by kernel_rfl
theorem cells175 : Tryd.prog.cellsOf 175 = 64 := by kernel_rfl
theorem cells194 : Tryd.prog.cellsOf 194 = 16 := by kernel_rfl
theorem cells161 : Tryd.prog.cellsOf 161 = 1 := by kernel_rfl
theorem cells5 : Tryd.prog.cellsOf 5 = 1 := by kernel_rfl
theorem cells3 : Tryd.prog.cellsOf 3 = 1 := by kernel_rfl
theorem cells38 : Tryd.prog.cellsOf 38 = 1 := by kernel_rfl
/-- the tables as the rows list them -/
def tabInts : List Int := [0, 498536548, 997073096, 651767980, 1994146192, 1802195444, 1303535960, 1342533948, 3988292384, 4027552580, 3604390888, 3412177804, 2607071920, 2262029012, 2685067896, 3183342108]
theorem tabInts_at : ∀ k : Fin 16, tabInts.getD k.val 0 = Fr.Crc.U (BitVec.ofNat 32 (Fr.Crc.tab.getD k.val 0)) := by decide +kernel
def startInts : List Int := [1779033703, 3144134277, 1013904242, 2773480762, 1359893119, 2600822924, 528734635, 1541459225]
def consInts : List Int := Sh.Sha.kNat.map Int.ofNat
theorem startInts_at : ∀ k : Fin 8, startInts.getD k.val 0 = Sh.Sha.U (Sh.Sha.start.list.getD k.val 0) := by decide +kernel
theorem consInts_at : ∀ k : Fin 64, consInts.getD k.val 0 = Sh.Sha.U (Sh.Sha.kAt k.val) := by decide +kernel
/-- WHAT A ROW's LIST GIVES: the three tables lie in their places. -/
theorem tabs_of {W : World} (h : laidMetH Tryd.prog [("muniment/crc.halves", Rows.laid_muniment_crc_halves), ("muniment/sha.start", Rows.laid_muniment_sha_start), ("muniment/sha.constants", Rows.laid_muniment_sha_constants)] W) : Env W := by
 have h1 : Lib.TabIs Tryd.prog W "muniment/crc.halves" .u32 tabInts :=
  Lib.tabIs_of_head (rest := [("muniment/sha.start", Rows.laid_muniment_sha_start), ("muniment/sha.constants", Rows.laid_muniment_sha_constants)]) gTab gTabType Tryd.underlying194 Tryd.underlying161 cells161 cells194 h
 obtain ⟨ps, ⟨g', t', cs, fuel, p, q, hg', ht', hvar, hd, hrest, _⟩, _⟩ := h
 obtain ⟨g2, t2, cs2, fuel2, p2, q2, hg2, ht2, hvar2, hd2, hrest2, _⟩ := hrest
 obtain ⟨g3, t3, cs3, fuel3, p3, q3, hg3, ht3, hvar3, hd3, _, _⟩ := hrest2
 have h2 : Lib.TabIs Tryd.prog W "muniment/sha.start" .u32 startInts := by
  obtain rfl := Option.some.inj (gStart.symm.trans hg2)
  obtain rfl := Option.some.inj (gStartType.symm.trans ht2)
  have hd9 : DataW.trod (fun _ => ()) Tryd.prog W 0 (fun _ => true) false fuel2 171 cs2.toList = some (Lib.tabData .u32 startInts, p2) := hd2
  unfold Lib.TabIs
  rw [hvar2, ← Lib.cells_of_tab Tryd.underlying171 Tryd.underlying161 cells161 cells171 hd9]
 have h3 : Lib.TabIs Tryd.prog W "muniment/sha.constants" .u32 consInts := by
  obtain rfl := Option.some.inj (gCons.symm.trans hg3)
  obtain rfl := Option.some.inj (gConsType.symm.trans ht3)
  have hd9 : DataW.trod (fun _ => ()) Tryd.prog W 0 (fun _ => true) false fuel3 175 cs3.toList = some (Lib.tabData .u32 consInts, p3) := hd3
  unfold Lib.TabIs
  rw [hvar3, ← Lib.cells_of_tab Tryd.underlying175 Tryd.underlying161 cells161 cells175 hd9]
 refine ⟨fun r => ?_, fun t ht => ?_, fun i hi => ?_⟩
 ·have hl := Fr.Crc.low_lt' r
  have := h1.cell gTab (Fr.Crc.low r) (by simpa [tabInts] using hl)
  rw [tabInts_at ⟨Fr.Crc.low r, hl⟩] at this
  exact this
 ·have := h3.cell gCons t (by simpa [consInts, Sh.Sha.kNat] using ht)
  rw [consInts_at ⟨t, ht⟩] at this
  exact this
 ·have := h2.cell gStart i (by simpa [startInts] using hi)
  rw [startInts_at ⟨i, hi⟩] at this
  exact this
theorem env_size {W : World} (h : Env W) : 3 ≤ W.heap.size := by
 have : 2 < W.heap.size := block_lt_of_cell (h.1 0#32)
 omega
theorem bulk_length {H : Type} (l : List (DataW H)) : l.length ≤ Rows.uptoBulkAll l := by
 induction l with
 | nil => simp [Rows.uptoBulkAll]
 | cons x r ih =>
  have h1 : 1 ≤ Rows.uptoBulk x := by
   cases x with
   | lit l => cases l <;> simp [Rows.uptoBulk]
   | nil => simp [Rows.uptoBulk]
   | ptr d => simp [Rows.uptoBulk]
   | slice elems spare => simp [Rows.uptoBulk]
   | agg parts => simp [Rows.uptoBulk]
   | iface t d => simp [Rows.uptoBulk]
   | map entries => simp [Rows.uptoBulk]
   | held h => simp [Rows.uptoBulk]
  simp only [Rows.uptoBulkAll, List.length_cons]
  omega
/-- A WORLD FOR THE WITNESS: the settled one, the tables (blocks 0, 1 and 2) holding what their initialisers lay. -/
def laidOn (W : World) : World :=
 { W with heap := ((W.heap.modify 0 fun
   | .cells _ t frozen => .cells (startInts.map fun z => Value.int .u32 z).toArray t frozen
   | o => o).modify 1 fun
   | .cells _ t frozen => .cells (consInts.map fun z => Value.int .u32 z).toArray t frozen
   | o => o).modify 2 fun
   | .cells _ t frozen => .cells (tabInts.map fun z => Value.int .u32 z).toArray t frozen
   | o => o }
theorem bulk_rows {H : Type} (f : Nat → DataW H) (g : Nat → List Nat) (rs : List Nat) (h : ∀ r ∈ rs, (g r).length + 1 ≤ Rows.uptoBulk (f r)) : (rs.map g).flatten.length + rs.length ≤ Rows.uptoBulkAll (rs.map f) := by
 induction rs with
 | nil => simp [Rows.uptoBulkAll]
 | cons r rs ih =>
  have h1 := h r (by simp)
  have h2 := ih (fun x hx => h x (by simp [hx]))
  simp only [List.map_cons, List.flatten_cons, List.length_append, List.length_cons, Rows.uptoBulkAll]
  omega
set_option maxRecDepth 100000 in
/-- A SLICE OF SLICES OF BYTES, INSIDE ANOTHER OR BY ITSELF -/
theorem rows_field {H : Type} {enc : TypeId × Value → H} {W : World} {v : Value} {y : DataW H × List MemPlace} {n : Nat} (hf : DataW.trod enc Tryd.prog W 0 (fun _ => true) true n 65 [v] = some y) : ∃ L, RowsIn W v L ∧ L.flatten.length + L.length ≤ Rows.uptoBulk y.1 := by
 rcases open_int_rows Tryd.underlying65 Tryd.underlying38 Tryd.underlying5 cells38 cells5 hf with ⟨hcs, _⟩ | ⟨a, len, cap, A, Ls, C, Z, hcs, _, hl, hm, hx, hrow⟩
 ·simp at hcs
  subst hcs
  exact ⟨[], ⟨none, 0, rfl, by decide, Or.inl rfl⟩, by simp⟩
 ·simp at hcs
  subst hcs
  unfold maxLen at hm
  have hbd : ∀ r, r < cap → ∀ z ∈ Z r, 0 ≤ z ∧ z ≤ 255 := fun r hr z hz => by
   have := (hrow r hr).2.2.2.2.1 z hz
   simpa [Lit.wf, IntKind.min, IntKind.max, IntKind.signed, IntKind.bits] using this
  have hgl : ∀ r, r < cap → (((Z r).take (Ls r)).map Int.toNat).length = Ls r := fun r hr => by
   have h1 := (hrow r hr).2.1
   have h2 := (hrow r hr).2.2.2.1
   rw [List.length_map, List.length_take]
   omega
  refine ⟨(List.range len).map fun r => ((Z r).take (Ls r)).map Int.toNat, ⟨some a, cap, by simp, by simp; omega, ?_⟩, ?_⟩
  ·by_cases h0 : len = 0
   ·subst h0
    exact Or.inl (by simp)
   ·right
    have hplain : ∃ b off, a = ⟨b, off, none⟩ := by
     have h1 := (hrow 0 (by omega)).1
     obtain ⟨ab, ao, sp⟩ := a
     have hsp : sp = none := by simpa [Addr.add] using World.cell?_spot h1
     subst hsp
     exact ⟨ab, ao, rfl⟩
    obtain ⟨b, off, rfl⟩ := hplain
    refine ⟨b, off, rfl, fun i hi => ?_⟩
    have hi' : i < len := by simpa using hi
    have hic : i < cap := by omega
    obtain ⟨hcell, hlc, hcm, hzl, hwz, hnone, hsome⟩ := hrow i hic
    rw [add_none] at hcell
    refine ⟨_, hcell, ?_⟩
    have hget : ((List.range len).map fun r => ((Z r).take (Ls r)).map Int.toNat).getD i [] = ((Z i).take (Ls i)).map Int.toNat := by simp [hi']
    rw [hget]
    refine ⟨A i, C i, by rw [hgl i hic], ⟨by rw [hgl i hic]; exact hlc, by rw [hgl i hic]; unfold maxLen at hcm; omega⟩, ?_⟩
    by_cases hz0 : Ls i = 0
    ·exact Or.inl (by rw [hz0]; simp)
    ·right
     cases hA : A i with
     | none => have := hnone hA; omega
     | some a' =>
      obtain ⟨_, hc'⟩ := hsome a' hA
      obtain ⟨b', off', rfl, hc⟩ := ints_at (zs := Z i) (fun c hc2 => hc' c (by omega)) (by omega)
      refine ⟨b', off', rfl, fun j hj => ?_, fun j => ?_⟩
      ·rw [hgl i hic] at hj
       have hj' : j < (Z i).length := by omega
       rw [hc j hj']
       have h2 := hbd i hic (Z i)[j] (List.getElem_mem hj')
       simp [hj, hj', Int.toNat_of_nonneg h2.1]
      ·by_cases hj : j < (((Z i).take (Ls i)).map Int.toNat).length
       ·have hz := List.getElem_mem hj
        obtain ⟨y, hy, e⟩ := List.mem_map.1 hz
        have := hbd i hic y (List.mem_of_mem_take hy)
        have e2 : (((Z i).take (Ls i)).map Int.toNat).getD j 0 = (((Z i).take (Ls i)).map Int.toNat)[j] := by rw [List.getD_eq_getElem?_getD, List.getElem?_eq_getElem hj]; rfl
        rw [e2, ← e]
        omega
       ·rw [List.getD_eq_getElem?_getD, List.getElem?_eq_none (by omega)]
        decide
  ·have hd := congrArg Prod.fst hx
   simp only at hd
   rw [hd]
   simp only [Rows.uptoBulk]
   have hb := bulk_rows (fun r => (intRow .u8 (A r) (Ls r) (Z r) : DataW H)) (fun r => ((Z r).take (Ls r)).map Int.toNat) (List.range len) (fun r hr => by
    have hrl := List.mem_range.1 hr
    rw [hgl r (by omega)]
    obtain ⟨hcell, hlc, hcm, hzl, hwz, hnone, hsome⟩ := hrow r (by omega)
    cases hA : A r with
    | none =>
     have := hnone hA
     simp only [intRow, Rows.uptoBulk]
     omega
    | some a' =>
     simp only [intRow, Rows.uptoBulk]
     have h1 := bulk_length (H := H) (lits .u8 ((Z r).take (Ls r)))
     have h2 : (lits (H := H) .u8 ((Z r).take (Ls r))).length = Ls r := by simp [lits]; omega
     omega)
   simp only [List.length_map]
   omega
set_option maxRecDepth 100000 in
/-- A SLICE OF SLICES OF BYTES THAT CAME IN -/
theorem open_rows {H : Type} {enc : TypeId × Value → H} {W : World} {v : Value} {d : DataW H} {p : List MemPlace} {base : Nat}
  (hv : Value.okWide Tryd.prog W .any base 65 v) (h : DataW.Trod enc Tryd.prog W 0 (fun _ => true) true 65 v d p) : ∃ L, RowsIn W v L ∧ L.flatten.length + L.length ≤ Rows.uptoBulk d := by
 obtain ⟨a0, len0, cap0, rfl⟩ := okWide_slice Tryd.underlying65 hv
 obtain ⟨fuel, hf⟩ := h
 exact rows_field (y := (d, p)) hf
set_option maxRecDepth 100000 in
theorem open_i64 {H : Type} {enc : TypeId × Value → H} {W : World} {v : Value} {y : DataW H × List MemPlace} {n : Nat} (hf : DataW.trod enc Tryd.prog W 0 (fun _ => true) true n 3 [v] = some y) : ∃ z, v = .int .i64 z ∧ (-9223372036854775808 ≤ z ∧ z ≤ 9223372036854775807) := by
 obtain ⟨z, hz, _, hw⟩ := DataW.trod_int Tryd.underlying3 hf
 refine ⟨z, by simpa using hz, ?_⟩
 have h : (-9223372036854775808 ≤ z ∧ z ≤ 9223372036854775807) := by simpa [Lit.wf, IntKind.min, IntKind.max, IntKind.signed, IntKind.bits] using hw
 exact h
end Go.Proofs.YtpkkkkomdblpoaaDoor

namespace Go.Proofs.YtpkkkkomdblpoaaDoor
open Cold Go.ChangeShapes Go.WideShapes Go.ChangeAt Go.RowKit Go.Deep

theorem cells40p : Tryd.prog.cellsOf 40 = 4 := by kernel_rfl
theorem cells4p : Tryd.prog.cellsOf 4 = 1 := by kernel_rfl
theorem und40p : ∃ f0 f1 f2 f3 : Field, Tryd.prog.underlying 40 = some (.struct #[f0, f1, f2, f3]) ∧ (f0.type = 3 ∧ f0.offset = 0) ∧ (f1.type = 3 ∧ f1.offset = 1) ∧ (f2.type = 3 ∧ f2.offset = 2) ∧ (f3.type = 4 ∧ f3.offset = 3) :=
 ⟨_, _, _, _, Tryd.underlying40, ⟨rfl, rfl⟩, ⟨rfl, rfl⟩, ⟨rfl, rfl⟩, rfl, rfl⟩
set_option maxRecDepth 100000 in
/-- one place, from its four cells -/
theorem open_place {H : Type} {enc : TypeId × Value → H} {W : World} {cs : List Value} {y : DataW H × List MemPlace} {n : Nat} (hf : DataW.trod enc Tryd.prog W 0 (fun _ => true) true n 40 cs = some y) : ∃ x : Pq, cs = x.cells ∧ x.ok := by
 obtain ⟨f0, f1, f2, f3, hu, ⟨t0, o0⟩, ⟨t1, o1⟩, ⟨t2, o2⟩, t3, o3⟩ := und40p
 obtain ⟨xs, m, _, hxy, hl, hxl, hx⟩ := DataW.trod_struct hu hf
 rw [cells40p] at hl
 match cs, hl, xs, hxl with
 | [v0, v1, v2, v3], _, [y0, y1, y2, y3], _ =>
  have g0 := hx 0 f0 rfl
  have g1 := hx 1 f1 rfl
  have g2 := hx 2 f2 rfl
  have g3 := hx 3 f3 rfl
  simp only [t0, t1, t2, t3, o0, o1, o2, o3, cells3, cells4p] at g0 g1 g2 g3
  simp at g0 g1 g2 g3
  obtain ⟨z0, rfl, i0⟩ := open_i64 g0
  obtain ⟨z1, rfl, i1⟩ := open_i64 g1
  obtain ⟨z2, rfl, i2⟩ := open_i64 g2
  obtain ⟨b, hb, _⟩ := DataW.trod_bool Tryd.underlying4 g3
  simp at hb
  subst hb
  exact ⟨⟨z0, z1, z2, b⟩, rfl, i0, i1, i2⟩
set_option maxRecDepth 100000 in
theorem open_places {H : Type} {enc : TypeId × Value → H} {W : World} {v : Value} {d : DataW H} {p : List MemPlace} {base : Nat}
  (hv : Value.okWide Tryd.prog W .any base 56 v) (h : DataW.Trod enc Tryd.prog W 0 (fun _ => true) true 56 v d p) : ∃ L : List Pq, (L.length ≤ 140737488355328 → PlsIn W v L) ∧ (L = [] ∨ ∃ elems spare, d = .slice elems spare ∧ elems.length = L.length) := by
 obtain ⟨a0, len0, cap0, rfl⟩ := okWide_slice Tryd.underlying56 hv
 obtain ⟨fuel, hf⟩ := h
 rcases open_slice Tryd.underlying56 hf with ⟨hcs, _⟩ | ⟨a, len, cap, m, n, D, Pl, hcs, _, hl, hm, hmm, hx, hrow⟩
 ·simp [Value.cells] at hcs
  obtain ⟨rfl, rfl, rfl⟩ := hcs
  exact ⟨[], fun _ => plsNil W, Or.inl rfl⟩
 ·simp [Value.cells] at hcs
  obtain ⟨rfl, rfl, rfl⟩ := hcs
  have hd := congrArg Prod.fst hx
  simp only at hd
  have hlm : len0 ≤ m := by rw [hmm]; split <;> omega
  obtain ⟨F, hF⟩ := choose_lt (α := Pq) (n := len0) (p := fun i o => W.cells? 0 (a.add (i * 4)) 4 = some o.cells ∧ o.ok) (fun i hi => by
   obtain ⟨cs', h1, h2⟩ := hrow i (by omega)
   rw [cells40p] at h1
   obtain ⟨o, ho, hin⟩ := open_place h2
   exact ⟨o, by rw [← ho]; exact h1, hin⟩)
  refine ⟨(List.range len0).map F, fun hb => ⟨some a, cap0, by simp, by simp; omega, hb, ?_, fun o ho => ?_⟩, Or.inr ⟨_, _, hd, by simp⟩⟩
  ·by_cases h0 : len0 = 0
   ·subst h0
    exact Or.inl (by simp)
   ·right
    obtain ⟨_, _, hcell0⟩ := World.cells?_some (hF 0 (by omega)).1
    have hplain : ∃ b off, a = ⟨b, off, none⟩ := by
     have h1 := hcell0 0 (by omega)
     obtain ⟨ab, ao, sp⟩ := a
     have h1' : W.cell? ⟨ab, ao, sp⟩ = some (.int .i64 (F 0).dv) := by
      simpa [Addr.add, Pq.cells, plC] using h1
     have hsp : sp = none := by simpa [Addr.add] using World.cell?_spot h1'
     subst hsp
     exact ⟨ab, ao, rfl⟩
    obtain ⟨b, off, rfl⟩ := hplain
    refine ⟨b, off, rfl, fun i hi j hj => ?_⟩
    rw [List.length_map, List.length_range] at hi
    obtain ⟨_, _, hcell⟩ := World.cells?_some (hF i hi).1
    have h1 := hcell j (by omega)
    rw [add_none, add_none] at h1
    have e : ((List.range len0).map F).getD i default = F i := by simp [hi]
    rw [e, ← h1, Nat.add_assoc]
  ·obtain ⟨i, hi, rfl⟩ := List.mem_map.1 ho
   exact (hF i (List.mem_range.1 hi)).2
theorem trsNil (W : World) : TrsIn W (.slice none 0 0) [] := ⟨none, 0, rfl, Nat.le_refl _, by decide, Or.inl rfl, fun x hx => by cases hx⟩
theorem cells71p : Tryd.prog.cellsOf 71 = 3 := by kernel_rfl
set_option maxRecDepth 100000 in
theorem open_trip {H : Type} {enc : TypeId × Value → H} {W : World} {cs : List Value} {y : DataW H × List MemPlace} {n : Nat} (hf : DataW.trod enc Tryd.prog W 0 (fun _ => true) true n 71 cs = some y) : ∃ x : Tr, cs = x.cells ∧ x.ok := by
 have hu : Tryd.prog.underlying 71 = some (.array 3 3) := Tryd.underlying71
 obtain ⟨xs, m, _, _, hl, _, _⟩ := DataW.trod_array hu hf
 rw [cells71p] at hl
 match cs, hl with
 | [c0, c1, c2], _ =>
  obtain ⟨y0, y1, y2, n', _, h0, h1, h2⟩ := trod_array3 hu cells3 hf
  obtain ⟨z0, rfl, i0⟩ := open_i64 h0
  obtain ⟨z1, rfl, i1⟩ := open_i64 h1
  obtain ⟨z2, rfl, i2⟩ := open_i64 h2
  exact ⟨⟨z0, z1, z2⟩, rfl, i0, i1, i2⟩
set_option maxRecDepth 100000 in
theorem open_trips {H : Type} {enc : TypeId × Value → H} {W : World} {v : Value} {d : DataW H} {p : List MemPlace} {base : Nat}
  (hv : Value.okWide Tryd.prog W .any base 66 v) (h : DataW.Trod enc Tryd.prog W 0 (fun _ => true) true 66 v d p) : ∃ L : List Tr, (L.length ≤ 140737488355328 → TrsIn W v L) ∧ (L = [] ∨ ∃ elems spare, d = .slice elems spare ∧ elems.length = L.length) := by
 obtain ⟨a0, len0, cap0, rfl⟩ := okWide_slice Tryd.underlying66 hv
 obtain ⟨fuel, hf⟩ := h
 rcases open_slice Tryd.underlying66 hf with ⟨hcs, _⟩ | ⟨a, len, cap, m, n, D, Pl, hcs, _, hl, hm, hmm, hx, hrow⟩
 ·simp [Value.cells] at hcs
  obtain ⟨rfl, rfl, rfl⟩ := hcs
  exact ⟨[], fun _ => trsNil W, Or.inl rfl⟩
 ·simp [Value.cells] at hcs
  obtain ⟨rfl, rfl, rfl⟩ := hcs
  have hd := congrArg Prod.fst hx
  simp only at hd
  have hlm : len0 ≤ m := by rw [hmm]; split <;> omega
  obtain ⟨F, hF⟩ := choose_lt (α := Tr) (n := len0) (p := fun i o => W.cells? 0 (a.add (i * 3)) 3 = some o.cells ∧ o.ok) (fun i hi => by
   obtain ⟨cs', h1, h2⟩ := hrow i (by omega)
   rw [cells71p] at h1
   obtain ⟨o, ho, hin⟩ := open_trip h2
   exact ⟨o, by rw [← ho]; exact h1, hin⟩)
  refine ⟨(List.range len0).map F, fun hb => ⟨some a, cap0, by simp, by simp; omega, hb, ?_, fun o ho => ?_⟩, Or.inr ⟨_, _, hd, by simp⟩⟩
  ·by_cases h0 : len0 = 0
   ·subst h0
    exact Or.inl (by simp)
   ·right
    obtain ⟨_, _, hcell0⟩ := World.cells?_some (hF 0 (by omega)).1
    have hplain : ∃ b off, a = ⟨b, off, none⟩ := by
     have h1 := hcell0 0 (by omega)
     obtain ⟨ab, ao, sp⟩ := a
     have h1' : W.cell? ⟨ab, ao, sp⟩ = some (.int .i64 (F 0).x) := by
      simpa [Addr.add, Tr.cells] using h1
     have hsp : sp = none := by simpa [Addr.add] using World.cell?_spot h1'
     subst hsp
     exact ⟨ab, ao, rfl⟩
    obtain ⟨b, off, rfl⟩ := hplain
    refine ⟨b, off, rfl, fun i hi j hj => ?_⟩
    rw [List.length_map, List.length_range] at hi
    obtain ⟨_, _, hcell⟩ := World.cells?_some (hF i hi).1
    have h1 := hcell j (by omega)
    rw [add_none, add_none] at h1
    have e : ((List.range len0).map F).getD i default = F i := by simp [hi]
    rw [e, ← h1, Nat.add_assoc]
  ·obtain ⟨i, hi, rfl⟩ := List.mem_map.1 ho
   exact (hF i (List.mem_range.1 hi)).2
end Go.Proofs.YtpkkkkomdblpoaaDoor

namespace Go.Proofs.YtpkkkkomdblpoaaDoor.coldvolRots
open Go.ChangeShapes Go.WideShapes Go.ChangeAt Go.RowKit

set_option maxRecDepth 100000 in
/-- WHAT THE WALK GIVES, FOR EVERY ARGUMENT AND EVERY WORLD THAT HOLDS THE TABLE -/
theorem contract (H : Type) (enc : TypeId × Value → H) (W : World) (base : Nat) (args : Array Value) (ds gs : List (DataW H)) (before : List MemPlace)
  (hval : ∀ (j : Nat) t v, Tryd.f5.params[j]? = some t → args[j]? = some v → Value.okWide Tryd.prog W .any base t v)
  (hW : DataW.Whole enc Tryd.prog Tryd.f5.params.toList Rows.coldvolRotsSpec.vars false W args.toList ds gs before)
  (hsz : (DataW.weightsEach Tryd.prog (Tryd.f5.params.toList ++ (Rows.coldvolRotsSpec.plain.varTypes Tryd.prog)) (ds ++ gs)).all (· ≤ reachBytes) = true)
  (hL : laidMetH Tryd.prog Rows.coldvolRotsRow.laid W) :
  Calls Tryd.prog 5 args W fun e W' => ∃ v, e = .returned v ∧ Rows.coldvolRotsSpec.post enc Tryd.prog Tryd.f5 false true false false W args v W' := by
 have hW' := hW
 obtain ⟨p, q, hA0, hV, rfl, hfz, hnd⟩ := hW
 have hA : DataW.TrodAll enc Tryd.prog W 0 (fun _ => true) true Tryd.f5.params.toList args.toList ds p := hA0
 rw [Tryd.params5] at hA hval hsz
 obtain ⟨v0, vs0, d0, ds0, p0, q0, hargs, rfl, rfl, h0, r0⟩ := trodAll_cons hA
 obtain ⟨v1, vs1, d1, ds1, p1, q1, rfl, rfl, rfl, h1, r1⟩ := trodAll_cons r0
 obtain ⟨v2, vs2, d2, ds2, p2, q2, rfl, rfl, rfl, h2, r2⟩ := trodAll_cons r1
 obtain ⟨rfl, rfl, rfl⟩ := trodAll_nil r2
 obtain rfl : args = #[v0, v1, v2] := by cases args; simp_all
 obtain ⟨rfl, rfl⟩ := trodVars_none hV
 have lt0 : ∀ x ∈ p0, x.block < W.heap.size := by obtain ⟨m, hm⟩ := h0; exact DataW.trod_lt m _ _ _ hm
 obtain ⟨L0, hs0, hd0⟩ := open_rows (hval 0 65 v0 rfl rfl) h0
 have lt1 : ∀ x ∈ p1, x.block < W.heap.size := by obtain ⟨m, hm⟩ := h1; exact DataW.trod_lt m _ _ _ hm
 obtain ⟨us1, hs1, hd1⟩ := open_places (hval 1 56 v1 rfl rfl) h1
 have lt2 : ∀ x ∈ p2, x.block < W.heap.size := by obtain ⟨m, hm⟩ := h2; exact DataW.trod_lt m _ _ _ hm
 obtain ⟨ts2, hs2, hd2⟩ := open_trips (hval 2 66 v2 rfl rfl) h2
 clear hA0
 have hl1 : us1.length * 32 + 4096 ≤ 140737488355328 := by rcases hd1 with rfl | ⟨elems, spare, rfl, he⟩; (exact of_decide_eq_true rfl); have h9 := sized_slice hsz (j := 1) rfl rfl Tryd.underlying56; rw [show Tryd.prog.bytesOf 40 = 32 by kernel_rfl] at h9; unfold reachBytes at h9; omega
 have hl2 : ts2.length ≤ 140737488355328 := by rcases hd2 with rfl | ⟨elems, spare, rfl, he⟩; (exact of_decide_eq_true rfl); have h9 := sized_slice hsz (j := 2) rfl rfl Tryd.underlying66; rw [show Tryd.prog.bytesOf 71 = 24 by kernel_rfl] at h9; unfold reachBytes at h9; omega
 have henv := tabs_of hL
 have walk := coldvolRots_any W henv (env_size henv) v0 v1 v2 L0 us1 ts2 hs0 (hs1 (by omega)) (hs2 hl2) hl1
 refine walk.mono fun e W' ⟨he, bel⟩ => ?_
 subst he
 exact ⟨_, rfl, _, _, _, [], _, [], hW', trodAll_mk1 (shut_bool Tryd.underlying4 _), (trodAll_cons_mk (Below.trod laidOut (by kernel_rfl) (of_decide_eq_true (by kernel_rfl)) h0 bel lt0) (trodAll_cons_mk (Below.trod laidOut (by kernel_rfl) (of_decide_eq_true (by kernel_rfl)) h1 bel lt1) (trodAll_cons_mk (Below.trod laidOut (by kernel_rfl) (of_decide_eq_true (by kernel_rfl)) h2 bel lt2) trodAll_mk0))), rfl, bel.frame _, fun h => by cases h⟩

theorem laid_met (os : Os) : laidMet Tryd.prog Rows.coldvolRotsRow.laid ((laidOn (World.holding Tryd.prog os ⟨#[], #[], []⟩)).forCall (fun _ _ => 0) ⟨#[], #[.slice none 0 0, .slice none 0 0, .slice none 0 0], []⟩).memory :=
 laidMet_of_run' 8 (by kernel_rfl) (by kernel_rfl)
theorem reads (os : Os) {H : Type} (enc : TypeId × Value → H) : ∃ places, DataW.whole enc Tryd.prog ((laidOn (World.holding Tryd.prog os ⟨#[], #[], []⟩)).forCall (fun _ _ => 0) ⟨#[], #[.slice none 0 0, .slice none 0 0, .slice none 0 0], []⟩).memory Tryd.f5.params.toList Rows.coldvolRotsSpec.vars false #[Value.slice none 0 0, .slice none 0 0, .slice none 0 0].toList 8 = some ([.nil, .nil, .nil], [], places) :=
 ⟨[], by kernel_rfl⟩

set_option maxRecDepth 100000 in
theorem lifted (os : Os) (started : os.Started) (H : Type) (enc : TypeId × Value → H) (F : Stop.Interp) :
  ReturnsInHanded {} Tryd.checked os 5 .any ((OpenSpec.ofChange Rows.coldvolRotsSpec).preRow enc Tryd.prog Tryd.f5 Rows.coldvolRotsRow.domain false Rows.coldvolRotsRow.laid) (((OpenSpec.ofChange Rows.coldvolRotsSpec).at F).post enc Tryd.prog Tryd.f5 false true false false) := by
 obtain ⟨places, hx⟩ := reads os enc
 refine returnsInHanded_of_row (C := Tryd.checked) (s := OpenSpec.ofChange Rows.coldvolRotsSpec) own started (by kernel_rfl) Tryd.func5
  (witness_row_at (enc := enc) (C := Tryd.checked) false (laidOn (World.holding Tryd.prog os ⟨#[], #[], []⟩)) #[.slice none 0 0, .slice none 0 0, .slice none 0 0] rfl (by kernel_rfl) (by kernel_rfl) (by kernel_rfl)
   (OpenSpec.preRow_of_cond 8 hx (by kernel_rfl) (fun k hk => by cases hk) (by kernel_rfl) (laid_met os))) ?_
 intro W base args ds gs before hval hW _ _ hsz hL _ _
 exact contract H enc W base args ds gs before hval hW hsz hL

theorem said : Rows.ColdvolRotsSaid :=
 OpenClaim.holds_of_cond 5 Tryd.f5 rfl rfl rfl rfl rfl rfl rfl ⟨rfl, rfl, rfl, rfl, rfl⟩ rfl rfl rfl rfl rfl (by kernel_rfl) Tryd.func5 (by kernel_rfl)
  (of_decide_eq_true (by kernel_rfl)) (by unfold Func.isWrapper; first | (rw [if_pos (by decide +kernel)]; kernel_rfl) | (rw [if_neg (by decide +kernel)]; exact ⟨rfl, rfl⟩))
  (fun os started H enc _ F => by rw [OpenClaim.pre_eq_preRow]; exact lifted os started H enc F)

theorem plain (f : FuncId) (fn : Func) (hf : Tryd.pinned.checked.prog.funcNamed "muniment/munimentlaw15.ColdvolRots" = some f) (hfn : Tryd.pinned.checked.prog.funcs[f]? = some fn) :
  false = Tryd.pinned.checked.prog.looks [] ∧ ∀ (j : Nat) t, fn.params[j]? = some t → Tryd.pinned.checked.prog.wantsStandIn t = false := by
 obtain rfl : f = 5 := Option.some.inj ((show Tryd.prog.funcNamed "muniment/munimentlaw15.ColdvolRots" = some 5 by kernel_rfl).symm.trans hf) |>.symm
 obtain rfl : fn = Tryd.f5 := (Option.some.inj (Tryd.func5.symm.trans hfn)).symm
 refine ⟨by kernel_rfl, fun j t ht => ?_⟩
 rw [Tryd.params5] at ht
 have hm := Array.mem_of_getElem? ht
 have : t = 65 ∨ t = 56 ∨ t = 66 := by simpa using hm
 rcases this with rfl | rfl | rfl
 ·exact (show Tryd.prog.wantsStandIn 65 = false by kernel_rfl)
 ·exact (show Tryd.prog.wantsStandIn 56 = false by kernel_rfl)
 ·exact (show Tryd.prog.wantsStandIn 66 = false by kernel_rfl)

end Go.Proofs.YtpkkkkomdblpoaaDoor.coldvolRots
namespace Go.Proofs.YtpkkkkomdblpoaaDoor
/-- THE CARD -/
theorem coldvolRots_card : Rows.ColdvolRotsCardSaid :=
 Claim7.holds_tied_plain_at .later [] _ _ _ _ coldvolRots.said (fun _ h => by cases h) (by kernel_rfl) (fun _ h => by cases h) coldvolRots_row_tie rfl ⟨rfl, rfl⟩ (by kernel_rfl) rfl coldvolRots.plain (by kernel_rfl)
end Go.Proofs.YtpkkkkomdblpoaaDoor

/- For every list of objects and every list of numbers: what can be read of a tape is just what was appended, whatever the objects look like: the law ColdvolForged returns true and changes nothing that was there. No condition but the form's own reach; the tables crc.halves, sha.start and sha.constants start as the program's text lays them (the card ties them). -/
import Derived.Test.YtpkkkkomdblpoaaDoorTie
import Derived.Test.YtpkkkkomdblpoaaDoorCards
import Derived.ProofKit
import Derived.OpenShut
import Derived.ChangeOld
import Derived.SizedLaws
import Derived.Deep.DeepHandedRow
import Derived.Deep.Slices
import Derived.Deep.Matrix
import Derived.Lib.LaidTab
import Derived.Test.YtpkkkkomdblpoaaDoorY36
namespace Go.Proofs.YtpkkkkomdblpoaaDoor
open Cold Go.ChangeShapes Go.WideShapes Go.ChangeAt Go.RowKit Go.Deep

theorem own : ownKnob Tryd.prog.godebug = none := by kernel_rfl
theorem laidOut : laidOutB Tryd.prog = true := by kernel_rfl
theorem gStart : Tryd.prog.globalNamed "muniment/sha.start" = some 0 := by kernel_rfl
theorem gStartType : (Tryd.prog.globals[0]?).map (·.type) = some 171 := by kernel_rfl
theorem gCons : Tryd.prog.globalNamed "muniment/sha.constants" = some 1 := by kernel_rfl
theorem gConsType : (Tryd.prog.globals[1]?).map (·.type) = some 175 := by kernel_rfl
theorem gTab : Tryd.prog.globalNamed "muniment/crc.halves" = some 2 := by kernel_rfl
theorem gTabType : (Tryd.prog.globals[2]?).map (·.type) = some 194 := by kernel_rfl
theorem cells171 : Tryd.prog.cellsOf 171 = 8 := by kernel_rfl
theorem cells175 : Tryd.prog.cellsOf 175 = 64 := by kernel_rfl
theorem cells194 : Tryd.prog.cellsOf 194 = 16 := by kernel_rfl
theorem cells161 : Tryd.prog.cellsOf 161 = 1 := by kernel_rfl
theorem cells5 : Tryd.prog.cellsOf 5 = 1 := by kernel_rfl
theorem cells3 : Tryd.prog.cellsOf 3 = 1 := by kernel_rfl
theorem cells38 : Tryd.prog.cellsOf 38 = 1 := by kernel_rfl
/-- the tables as the rows list them -/
def tabInts : List Int := [0, 498536548, 997073096, 651767980, 1994146192, 1802195444, 1303535960, 1342533948, 3988292384, 4027552580, 3604390888, 3412177804, 2607071920, 2262029012, 2685067896, 3183342108]
theorem tabInts_at : ∀ k : Fin 16, tabInts.getD k.val 0 = Fr.Crc.U (BitVec.ofNat 32 (Fr.Crc.tab.getD k.val 0)) := by decide +kernel
def startInts : List Int := [1779033703, 3144134277, 1013904242, 2773480762, 1359893119, 2600822924, 528734635, 1541459225]
def consInts : List Int := Sh.Sha.kNat.map Int.ofNat
theorem startInts_at : ∀ k : Fin 8, startInts.getD k.val 0 = Sh.Sha.U (Sh.Sha.start.list.getD k.val 0) := by decide +kernel
theorem consInts_at : ∀ k : Fin 64, consInts.getD k.val 0 = Sh.Sha.U (Sh.Sha.kAt k.val) := by decide +kernel
/-- WHAT A ROW's LIST GIVES: the three tables lie in their places. -/
theorem tabs_of {W : World} (h : laidMetH Tryd.prog [("muniment/crc.halves", Rows.laid_muniment_crc_halves), ("muniment/sha.start", Rows.laid_muniment_sha_start), ("muniment/sha.constants", Rows.laid_muniment_sha_constants)] W) : Env W := by
 have h1 : Lib.TabIs Tryd.prog W "muniment/crc.halves" .u32 tabInts :=
  Lib.tabIs_of_head (rest := [("muniment/sha.start", Rows.laid_muniment_sha_start), ("muniment/sha.constants", Rows.laid_muniment_sha_constants)]) gTab gTabType Tryd.underlying194 Tryd.underlying161 cells161 cells194 h
 obtain ⟨ps, ⟨g', t', cs, fuel, p, q, hg', ht', hvar, hd, hrest, _⟩, _⟩ := h
 obtain ⟨g2, t2, cs2, fuel2, p2, q2, hg2, ht2, hvar2, hd2, hrest2, _⟩ := hrest
 obtain ⟨g3, t3, cs3, fuel3, p3, q3, hg3, ht3, hvar3, hd3, _, _⟩ := hrest2
 have h2 : Lib.TabIs Tryd.prog W "muniment/sha.start" .u32 startInts := by
  obtain rfl := Option.some.inj (gStart.symm.trans hg2)
  obtain rfl := Option.some.inj (gStartType.symm.trans ht2)
  have hd9 : DataW.trod (fun _ => ()) Tryd.prog W 0 (fun _ => true) false fuel2 171 cs2.toList = some (Lib.tabData .u32 startInts, p2) := hd2
  unfold Lib.TabIs
  rw [hvar2, ← Lib.cells_of_tab Tryd.underlying171 Tryd.underlying161 cells161 cells171 hd9]
 have h3 : Lib.TabIs Tryd.prog W "muniment/sha.constants" .u32 consInts := by
  obtain rfl := Option.some.inj (gCons.symm.trans hg3)
  obtain rfl := Option.some.inj (gConsType.symm.trans ht3)
  have hd9 : DataW.trod (fun _ => ()) Tryd.prog W 0 (fun _ => true) false fuel3 175 cs3.toList = some (Lib.tabData .u32 consInts, p3) := hd3
  unfold Lib.TabIs
  rw [hvar3, ← Lib.cells_of_tab Tryd.underlying175 Tryd.underlying161 cells161 cells175 hd9]
 refine ⟨fun r => ?_, fun t ht => ?_, fun i hi => ?_⟩
 ·have hl := Fr.Crc.low_lt' r
  have := h1.cell gTab (Fr.Crc.low r) (by simpa [tabInts] using hl)
  rw [tabInts_at ⟨Fr.Crc.low r, hl⟩] at this
  exact this
 ·have := h3.cell gCons t (by simpa [consInts, Sh.Sha.kNat] using ht)
  rw [consInts_at ⟨t, ht⟩] at this
  exact this
 ·have := h2.cell gStart i (by simpa [startInts] using hi)
  rw [startInts_at ⟨i, hi⟩] at this
  exact this
theorem env_size {W : World} (h : Env W) : 3 ≤ W.heap.size := by
 have : 2 < W.heap.size := block_lt_of_cell (h.1 0#32)
 omega
theorem bulk_length {H : Type} (l : List (DataW H)) : l.length ≤ Rows.uptoBulkAll l := by
 induction l with
 | nil => simp [Rows.uptoBulkAll]
 | cons x r ih =>
  have h1 : 1 ≤ Rows.uptoBulk x := by
   cases x with
   | lit l => cases l <;> simp [Rows.uptoBulk]
   | nil => simp [Rows.uptoBulk]
   | ptr d => simp [Rows.uptoBulk]
   | slice elems spare => simp [Rows.uptoBulk]
   | agg parts => simp [Rows.uptoBulk]
   | iface t d => simp [Rows.uptoBulk]
   | map entries => simp [Rows.uptoBulk]
   | held h => simp [Rows.uptoBulk]
  simp only [Rows.uptoBulkAll, List.length_cons]
  omega
/-- A WORLD FOR THE WITNESS: the settled one, the tables (blocks 0, 1 and 2) holding what their initialisers lay. -/
def laidOn (W : World) : World :=
 { W with heap := ((W.heap.modify 0 fun
   | .cells _ t frozen => .cells (startInts.map fun z => Value.int .u32 z).toArray t frozen
   | o => o).modify 1 fun
   | .cells _ t frozen => .cells (consInts.map fun z => Value.int .u32 z).toArray t frozen
   | o => o).modify 2 fun
   | .cells _ t frozen => .cells (tabInts.map fun z => Value.int .u32 z).toArray t frozen
   | o => o }
set_option maxRecDepth 100000 in
/-- A SLICE OF NUMBERS THAT CAME IN -/
theorem open_nums {H : Type} {enc : TypeId × Value → H} {W : World} {v : Value} {d : DataW H} {p : List MemPlace} {base : Nat}
  (hv : Value.okWide Tryd.prog W .any base 28 v) (h : DataW.Trod enc Tryd.prog W 0 (fun _ => true) true 28 v d p) : ∃ l : List Int, (l.length < 4611686018427387904 → IntsIn W v l) ∧ (l = [] ∨ ∃ elems spare, d = .slice elems spare ∧ elems.length = l.length) ∧ ∀ z ∈ l, -9223372036854775808 ≤ z ∧ z ≤ 9223372036854775807 := by
 obtain ⟨a0, len0, cap0, rfl⟩ := okWide_slice Tryd.underlying28 hv
 obtain ⟨fuel, hf⟩ := h
 rcases open_ints Tryd.underlying28 Tryd.underlying3 cells3 hf with ⟨hcs, _⟩ | ⟨x, l, c, zs, hcs, _, hl, hm, hz, hx, hcell, hwz⟩
 ·simp [Value.cells] at hcs
  obtain ⟨rfl, rfl, rfl⟩ := hcs
  exact ⟨[], fun _ => ⟨none, 0, rfl, by decide, by decide, Or.inl rfl⟩, Or.inl rfl, fun z hz => by cases hz⟩
 ·simp [Value.cells] at hcs
  obtain ⟨rfl, rfl, rfl⟩ := hcs
  have hz' : zs.length = cap0 := by simpa using hz
  have hlen : (zs.take len0).length = len0 := by simp; omega
  have hbd : ∀ z ∈ zs.take len0, -9223372036854775808 ≤ z ∧ z ≤ 9223372036854775807 := fun z hz => by
   have := hwz z (List.mem_of_mem_take hz)
   simpa [Lit.wf, IntKind.min, IntKind.max, IntKind.signed, IntKind.bits] using this
  by_cases h0 : len0 = 0
  ·subst h0
   exact ⟨[], fun _ => ⟨some x, cap0, rfl, by simp, by decide, Or.inl rfl⟩, Or.inl rfl, fun z hz => by cases hz⟩
  ·obtain ⟨b, off, rfl, hc⟩ := ints_at hcell (by omega)
   refine ⟨zs.take len0, fun h62 => ⟨some ⟨b, off, none⟩, cap0, by rw [hlen], by omega, h62, Or.inr ⟨b, off, rfl, fun j hj => ?_⟩⟩, Or.inr ⟨_, _, congrArg Prod.fst hx, by simp [lits]⟩, hbd⟩
   rw [hlen] at hj
   have h1 := hc j (by omega)
   rw [h1]
   have hj' : j < zs.length := by omega
   simp [hj, hj']
theorem open_len {H : Type} {d : DataW H} {l : List Int} (hd : l = [] ∨ ∃ elems spare, d = .slice elems spare ∧ elems.length = l.length) (hb : Rows.uptoBulk d ≤ 1048576) : l.length < 4611686018427387904 := by
 rcases hd with rfl | ⟨elems, spare, e, he⟩
 ·simp
 ·rw [e] at hb
  simp only [Rows.uptoBulk] at hb
  have := bulk_length elems
  omega
end Go.Proofs.YtpkkkkomdblpoaaDoor

namespace Go.Proofs.YtpkkkkomdblpoaaDoor
end Go.Proofs.YtpkkkkomdblpoaaDoor

namespace Go.Proofs.YtpkkkkomdblpoaaDoor
open Go.ChangeShapes Go.WideShapes Go.ChangeAt Go.RowKit Go.Deep

theorem weightsAll_memW {H : Type} {P : Program} {e : TypeId} {d : DataW H} {l : List (DataW H)} (h : d ∈ l) : ∀ n ∈ d.weights P e, n ∈ DataW.weightsAll P e l := by
 induction l with
 | nil => cases h
 | cons x l ih =>
  intro n hn
  simp only [DataW.weightsAll, List.mem_append]
  rcases List.mem_cons.1 h with rfl | h
  ·exact Or.inl hn
  ·exact Or.inr (ih h n hn)
set_option maxRecDepth 100000 in
/-- A SLICE OF SLICES OF BYTES, INSIDE ANOTHER OR BY ITSELF -/
theorem rows_fieldW {H : Type} {enc : TypeId × Value → H} {W : World} {v : Value} {y : DataW H × List MemPlace} {n : Nat} (hf : DataW.trod enc Tryd.prog W 0 (fun _ => true) true n 65 [v] = some y) : ∃ L, RowsIn W v L ∧ ((DataW.weights Tryd.prog 65 y.1).all (· ≤ reachBytes) = true → ∀ k, (L.getD k []).length ≤ 140737488351232) := by
 rcases open_int_rows Tryd.underlying65 Tryd.underlying38 Tryd.underlying5 cells38 cells5 hf with ⟨hcs, _⟩ | ⟨a, len, cap, A, Ls, C, Z, hcs, _, hl, hm, hx, hrow⟩
 ·simp at hcs
  subst hcs
  exact ⟨[], ⟨none, 0, rfl, by decide, Or.inl rfl⟩, fun _ k => by simp⟩
 ·simp at hcs
  subst hcs
  unfold maxLen at hm
  have hbd : ∀ r, r < cap → ∀ z ∈ Z r, 0 ≤ z ∧ z ≤ 255 := fun r hr z hz => by
   have := (hrow r hr).2.2.2.2.1 z hz
   simpa [Lit.wf, IntKind.min, IntKind.max, IntKind.signed, IntKind.bits] using this
  have hgl : ∀ r, r < cap → (((Z r).take (Ls r)).map Int.toNat).length = Ls r := fun r hr => by
   have h1 := (hrow r hr).2.1
   have h2 := (hrow r hr).2.2.2.1
   rw [List.length_map, List.length_take]
   omega
  refine ⟨(List.range len).map fun r => ((Z r).take (Ls r)).map Int.toNat, ⟨some a, cap, by simp, by simp; omega, ?_⟩, ?_⟩
  ·by_cases h0 : len = 0
   ·subst h0
    exact Or.inl (by simp)
   ·right
    have hplain : ∃ b off, a = ⟨b, off, none⟩ := by
     have h1 := (hrow 0 (by omega)).1
     obtain ⟨ab, ao, sp⟩ := a
     have hsp : sp = none := by simpa [Addr.add] using World.cell?_spot h1
     subst hsp
     exact ⟨ab, ao, rfl⟩
    obtain ⟨b, off, rfl⟩ := hplain
    refine ⟨b, off, rfl, fun i hi => ?_⟩
    have hi' : i < len := by simpa using hi
    have hic : i < cap := by omega
    obtain ⟨hcell, hlc, hcm, hzl, hwz, hnone, hsome⟩ := hrow i hic
    rw [add_none] at hcell
    refine ⟨_, hcell, ?_⟩
    have hget : ((List.range len).map fun r => ((Z r).take (Ls r)).map Int.toNat).getD i [] = ((Z i).take (Ls i)).map Int.toNat := by simp [hi']
    rw [hget]
    refine ⟨A i, C i, by rw [hgl i hic], ⟨by rw [hgl i hic]; exact hlc, by rw [hgl i hic]; unfold maxLen at hcm; omega⟩, ?_⟩
    by_cases hz0 : Ls i = 0
    ·exact Or.inl (by rw [hz0]; simp)
    ·right
     cases hA : A i with
     | none => have := hnone hA; omega
     | some a' =>
      obtain ⟨_, hc'⟩ := hsome a' hA
      obtain ⟨b', off', rfl, hc⟩ := ints_at (zs := Z i) (fun c hc2 => hc' c (by omega)) (by omega)
      refine ⟨b', off', rfl, fun j hj => ?_, fun j => ?_⟩
      ·rw [hgl i hic] at hj
       have hj' : j < (Z i).length := by omega
       rw [hc j hj']
       have h2 := hbd i hic (Z i)[j] (List.getElem_mem hj')
       simp [hj, hj', Int.toNat_of_nonneg h2.1]
      ·by_cases hj : j < (((Z i).take (Ls i)).map Int.toNat).length
       ·have hz := List.getElem_mem hj
        obtain ⟨y, hy, e⟩ := List.mem_map.1 hz
        have := hbd i hic y (List.mem_of_mem_take hy)
        have e2 : (((Z i).take (Ls i)).map Int.toNat).getD j 0 = (((Z i).take (Ls i)).map Int.toNat)[j] := by rw [List.getD_eq_getElem?_getD, List.getElem?_eq_getElem hj]; rfl
        rw [e2, ← e]
        omega
       ·rw [List.getD_eq_getElem?_getD, List.getElem?_eq_none (by omega)]
        decide
  ·intro hw k
   by_cases hk : k < len
   ·have hget : ((List.range len).map fun r => ((Z r).take (Ls r)).map Int.toNat).getD k [] = ((Z k).take (Ls k)).map Int.toNat := by simp [hk]
    have hd := congrArg Prod.fst hx
    simp only at hd
    rw [hd] at hw
    rw [hget, hgl k (by omega)]
    obtain ⟨hcell, hlc, hcm, hzl, hwz, hnone, hsome⟩ := hrow k (by omega)
    cases hA : A k with
    | none =>
     have := hnone hA
     omega
    | some a' =>
     have hm : ((lits (H := H) .u8 ((Z k).take (Ls k))).length + (lits (H := H) .u8 ((Z k).drop (Ls k))).length) * 1 ∈ DataW.weightsAll Tryd.prog 38 ((List.range len).map fun r => (intRow .u8 (A r) (Ls r) (Z r) : DataW H)) := by
      refine weightsAll_memW (d := intRow .u8 (A k) (Ls k) (Z k)) (List.mem_map.2 ⟨k, List.mem_range.2 hk, rfl⟩) _ ?_
      rw [hA]
      simp only [intRow, DataW.weights, Tryd.underlying38, show Tryd.prog.bytesOf 5 = 1 by kernel_rfl]
      exact List.mem_cons_self ..
     have h2 := List.all_eq_true.1 hw _ (show _ ∈ DataW.weights Tryd.prog 65 _ by
      simp only [DataW.weights, Tryd.underlying65]
      exact List.mem_cons_of_mem _ (List.mem_append_left _ hm))
     have h3 : (lits (H := H) .u8 ((Z k).take (Ls k))).length = Ls k := by simp [lits]; omega
     have h4 : ((lits (H := H) .u8 ((Z k).take (Ls k))).length + (lits (H := H) .u8 ((Z k).drop (Ls k))).length) * 1 ≤ reachBytes := by simpa using h2
     unfold reachBytes at h4
     omega
   ·have : ((List.range len).map fun r => ((Z r).take (Ls r)).map Int.toNat).getD k [] = [] := by simp [hk]
    rw [this]
    exact Nat.zero_le _
set_option maxRecDepth 100000 in
/-- A SLICE OF SLICES OF BYTES THAT CAME IN -/
theorem open_rowsW {H : Type} {enc : TypeId × Value → H} {W : World} {v : Value} {d : DataW H} {p : List MemPlace} {base : Nat}
  (hv : Value.okWide Tryd.prog W .any base 65 v) (h : DataW.Trod enc Tryd.prog W 0 (fun _ => true) true 65 v d p) : ∃ L, RowsIn W v L ∧ ((DataW.weights Tryd.prog 65 d).all (· ≤ reachBytes) = true → ∀ k, (L.getD k []).length ≤ 140737488351232) := by
 obtain ⟨a0, len0, cap0, rfl⟩ := okWide_slice Tryd.underlying65 hv
 obtain ⟨fuel, hf⟩ := h
 exact rows_fieldW (y := (d, p)) hf
/-- what the form's own reach gives of the rows, of the numbers -/
theorem reach_rowsW {H : Type} {ts : List TypeId} {ds : List (DataW H)} (h : (DataW.weightsEach Tryd.prog ts ds).all (· ≤ reachBytes) = true) {j : Nat} {d : DataW H} (ht : ts[j]? = some 65) (hd : ds[j]? = some d) : (DataW.weights Tryd.prog 65 d).all (· ≤ reachBytes) = true :=
 List.all_eq_true.2 fun x hx => List.all_eq_true.1 h _ (DataW.weights_mem_each ht hd x hx)
theorem reach_numsW {H : Type} {ts : List TypeId} {ds : List (DataW H)} (h : (DataW.weightsEach Tryd.prog ts ds).all (· ≤ reachBytes) = true) {j : Nat} {d : DataW H} {cs : List Int} (ht : ts[j]? = some 28) (hd : ds[j]? = some d)
  (hc : cs = [] ∨ ∃ elems spare, d = .slice elems spare ∧ elems.length = cs.length) : cs.length < 4611686018427387904 := by
 rcases hc with rfl | ⟨elems, spare, rfl, hl⟩
 ·decide
 ·have := sized_slice h ht hd Tryd.underlying28
  rw [show Tryd.prog.bytesOf 3 = 8 by kernel_rfl] at this
  unfold reachBytes at this
  omega
end Go.Proofs.YtpkkkkomdblpoaaDoor
namespace Go.Proofs.YtpkkkkomdblpoaaDoor.coldvolForged
open Go.ChangeShapes Go.WideShapes Go.ChangeAt Go.RowKit

set_option maxRecDepth 100000 in
/-- WHAT THE WALK GIVES, FOR EVERY ARGUMENT AND EVERY WORLD THAT HOLDS THE TABLE -/
theorem contract (H : Type) (enc : TypeId × Value → H) (W : World) (base : Nat) (args : Array Value) (ds gs : List (DataW H)) (before : List MemPlace)
  (hval : ∀ (j : Nat) t v, Tryd.f6.params[j]? = some t → args[j]? = some v → Value.okWide Tryd.prog W .any base t v)
  (hW : DataW.Whole enc Tryd.prog Tryd.f6.params.toList Rows.coldvolForgedSpec.vars false W args.toList ds gs before)
  (hsz : (DataW.weightsEach Tryd.prog (Tryd.f6.params.toList ++ (Rows.coldvolForgedSpec.plain.varTypes Tryd.prog)) (ds ++ gs)).all (· ≤ reachBytes) = true)
  (hL : laidMetH Tryd.prog Rows.coldvolForgedRow.laid W) :
  Calls Tryd.prog 6 args W fun e W' => ∃ v, e = .returned v ∧ Rows.coldvolForgedSpec.post enc Tryd.prog Tryd.f6 false true false false W args v W' := by
 have hW' := hW
 obtain ⟨p, q, hA0, hV, rfl, hfz, hnd⟩ := hW
 have hA : DataW.TrodAll enc Tryd.prog W 0 (fun _ => true) true Tryd.f6.params.toList args.toList ds p := hA0
 rw [Tryd.params6] at hA hval hsz
 obtain ⟨v0, vs0, d0, ds0, p0, q0, hargs, rfl, rfl, h0, r0⟩ := trodAll_cons hA
 obtain ⟨v1, vs1, d1, ds1, p1, q1, rfl, rfl, rfl, h1, r1⟩ := trodAll_cons r0
 obtain ⟨rfl, rfl, rfl⟩ := trodAll_nil r1
 obtain rfl : args = #[v0, v1] := by cases args; simp_all
 obtain ⟨rfl, rfl⟩ := trodVars_none hV
 have lt0 : ∀ x ∈ p0, x.block < W.heap.size := by obtain ⟨m, hm⟩ := h0; exact DataW.trod_lt m _ _ _ hm
 obtain ⟨L0, hs0, hd0⟩ := open_rowsW (hval 0 65 v0 rfl rfl) h0
 have lt1 : ∀ x ∈ p1, x.block < W.heap.size := by obtain ⟨m, hm⟩ := h1; exact DataW.trod_lt m _ _ _ hm
 obtain ⟨ks1, hs1, hd1, hb1⟩ := open_nums (hval 1 28 v1 rfl rfl) h1
 clear hA0
 have hr0 := hd0 (reach_rowsW hsz (j := 0) rfl rfl)
 have henv := tabs_of hL
 have walk := coldvolForged_any W henv (env_size henv) v0 v1 L0 ks1 hs0 (hs1 (reach_numsW hsz (j := 1) rfl rfl hd1)) hb1 hr0
 refine walk.mono fun e W' ⟨he, bel⟩ => ?_
 subst he
 exact ⟨_, rfl, _, _, _, [], _, [], hW', trodAll_mk1 (shut_bool Tryd.underlying4 _), (trodAll_cons_mk (Below.trod laidOut (by kernel_rfl) (of_decide_eq_true (by kernel_rfl)) h0 bel lt0) (trodAll_cons_mk (Below.trod laidOut (by kernel_rfl) (of_decide_eq_true (by kernel_rfl)) h1 bel lt1) trodAll_mk0)), rfl, bel.frame _, fun h => by cases h⟩

theorem laid_met (os : Os) : laidMet Tryd.prog Rows.coldvolForgedRow.laid ((laidOn (World.holding Tryd.prog os ⟨#[], #[], []⟩)).forCall (fun _ _ => 0) ⟨#[], #[.slice none 0 0, .slice none 0 0], []⟩).memory :=
 laidMet_of_run' 8 (by kernel_rfl) (by kernel_rfl)
theorem reads (os : Os) {H : Type} (enc : TypeId × Value → H) : ∃ places, DataW.whole enc Tryd.prog ((laidOn (World.holding Tryd.prog os ⟨#[], #[], []⟩)).forCall (fun _ _ => 0) ⟨#[], #[.slice none 0 0, .slice none 0 0], []⟩).memory Tryd.f6.params.toList Rows.coldvolForgedSpec.vars false #[Value.slice none 0 0, .slice none 0 0].toList 8 = some ([.nil, .nil], [], places) :=
 ⟨[], by kernel_rfl⟩

set_option maxRecDepth 100000 in
theorem lifted (os : Os) (started : os.Started) (H : Type) (enc : TypeId × Value → H) (F : Stop.Interp) :
  ReturnsInHanded {} Tryd.checked os 6 .any ((OpenSpec.ofChange Rows.coldvolForgedSpec).preRow enc Tryd.prog Tryd.f6 Rows.coldvolForgedRow.domain false Rows.coldvolForgedRow.laid) (((OpenSpec.ofChange Rows.coldvolForgedSpec).at F).post enc Tryd.prog Tryd.f6 false true false false) := by
 obtain ⟨places, hx⟩ := reads os enc
 refine returnsInHanded_of_row (C := Tryd.checked) (s := OpenSpec.ofChange Rows.coldvolForgedSpec) own started (by kernel_rfl) Tryd.func6
  (witness_row_at (enc := enc) (C := Tryd.checked) false (laidOn (World.holding Tryd.prog os ⟨#[], #[], []⟩)) #[.slice none 0 0, .slice none 0 0] rfl (by kernel_rfl) (by kernel_rfl) (by kernel_rfl)
   (OpenSpec.preRow_of_cond 8 hx (by kernel_rfl) (fun k hk => by cases hk) (by kernel_rfl) (laid_met os))) ?_
 intro W base args ds gs before hval hW _ _ hsz hL _ _
 exact contract H enc W base args ds gs before hval hW hsz hL

theorem said : Rows.ColdvolForgedSaid :=
 OpenClaim.holds_of_cond 6 Tryd.f6 rfl rfl rfl rfl rfl rfl rfl ⟨rfl, rfl, rfl, rfl, rfl⟩ rfl rfl rfl rfl rfl (by kernel_rfl) Tryd.func6 (by kernel_rfl)
  (of_decide_eq_true (by kernel_rfl)) (by unfold Func.isWrapper; first | (rw [if_pos (by decide +kernel)]; kernel_rfl) | (rw [if_neg (by decide +kernel)]; exact ⟨rfl, rfl⟩))
  (fun os started H enc _ F => by rw [OpenClaim.pre_eq_preRow]; exact lifted os started H enc F)

theorem plain (f : FuncId) (fn : Func) (hf : Tryd.pinned.checked.prog.funcNamed "muniment/munimentlaw15.ColdvolForged" = some f) (hfn : Tryd.pinned.checked.prog.funcs[f]? = some fn) :
  false = Tryd.pinned.checked.prog.looks [] ∧ ∀ (j : Nat) t, fn.params[j]? = some t → Tryd.pinned.checked.prog.wantsStandIn t = false := by
 obtain rfl : f = 6 := Option.some.inj ((show Tryd.prog.funcNamed "muniment/munimentlaw15.ColdvolForged" = some 6 by kernel_rfl).symm.trans hf) |>.symm
 obtain rfl : fn = Tryd.f6 := (Option.some.inj (Tryd.func6.symm.trans hfn)).symm
 refine ⟨by kernel_rfl, fun j t ht => ?_⟩
 rw [Tryd.params6] at ht
 have hm := Array.mem_of_getElem? ht
 have : t = 65 ∨ t = 28 := by simpa using hm
 rcases this with rfl | rfl
 ·exact (show Tryd.prog.wantsStandIn 65 = false by kernel_rfl)
 ·exact (show Tryd.prog.wantsStandIn 28 = false by kernel_rfl)

end Go.Proofs.YtpkkkkomdblpoaaDoor.coldvolForged
namespace Go.Proofs.YtpkkkkomdblpoaaDoor
/-- THE CARD -/
theorem coldvolForged_card : Rows.ColdvolForgedCardSaid :=
 Claim7.holds_tied_plain_at .later [] _ _ _ _ coldvolForged.said (fun _ h => by cases h) (by kernel_rfl) (fun _ h => by cases h) coldvolForged_row_tie rfl ⟨rfl, rfl⟩ (by kernel_rfl) rfl coldvolForged.plain (by kernel_rfl)
end Go.Proofs.YtpkkkkomdblpoaaDoor

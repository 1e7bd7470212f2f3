/- Layer 8: what comes in: the table that is listed, scripts, lists of numbers, rows of bytes. For every two scripts of calls, two journals on two disks of one plant, each doing its own script by turns, tell each what was appended to it, crashes and all: the law WalApart returns true and changes nothing that was there. Conditions: what is read holds together at most 1048576 values and letters; the table crc.halves starts as the program's text lays it (the card ties it). -/
import Derived.Test.YtebalanfagglnaaDoorV40
import Derived.Test.YtebalanfagglnaaDoorTie
import Derived.Test.YtebalanfagglnaaDoorCards
import Derived.ProofKit
import Derived.OpenShut
import Derived.ChangeOld
import Derived.Below
import Derived.SizedLaws
import Derived.Deep.DeepHandedRow
import Derived.Deep.Slices
import Derived.Deep.Matrix
import Derived.Lib.LaidTab
import Derived.Test.YtebalanfagglnaaDoorV41
namespace Go.Proofs.YtebalanfagglnaaDoor
open Go.ChangeShapes Go.WideShapes Go.ChangeAt Go.RowKit Go.Deep

theorem own : ownKnob Tryd.prog.godebug = none := by kernel_rfl
theorem laidOut : laidOutB Tryd.prog = true := by kernel_rfl
theorem gTab : Tryd.prog.globalNamed "muniment/crc.halves" = some 0 := by kernel_rfl
theorem gTabType : (Tryd.prog.globals[0]?).map (·.type) = some 163 := by kernel_rfl
theorem cells177 : Tryd.prog.cellsOf 163 = 16 := by kernel_rfl
theorem cells160 : Tryd.prog.cellsOf 140 = 1 := by kernel_rfl
theorem cells5 : Tryd.prog.cellsOf 5 = 1 := by kernel_rfl
theorem cells3 : Tryd.prog.cellsOf 3 = 1 := by kernel_rfl
theorem cells51 : Tryd.prog.cellsOf 50 = 1 := by kernel_rfl
theorem cells30 : Tryd.prog.cellsOf 28 = 1 := by kernel_rfl
theorem cells31 : Tryd.prog.cellsOf 29 = 1 := by kernel_rfl
theorem cells33 : Tryd.prog.cellsOf 31 = 4 := by kernel_rfl
/-- the table as the rows list it -/
def tabInts : List Int := [0, 498536548, 997073096, 651767980, 1994146192, 1802195444, 1303535960, 1342533948, 3988292384, 4027552580, 3604390888, 3412177804, 2607071920, 2262029012, 2685067896, 3183342108]
theorem tabInts_at : ∀ k : Fin 16, tabInts.getD k.val 0 = Fr.Crc.U (BitVec.ofNat 32 (Fr.Crc.tab.getD k.val 0)) := by decide +kernel

/-- WHAT A ROW's LIST GIVES: the table lies in its place. -/
theorem tabIn_of {W : World} (h : laidMetH Tryd.prog [("muniment/crc.halves", Rows.laid_muniment_crc_halves)] W) : Fr.TabIn W := by
  have ht : Lib.TabIs Tryd.prog W "muniment/crc.halves" .u32 tabInts :=
    Lib.tabIs_of_head (rest := []) gTab gTabType Tryd.underlying163 Tryd.underlying140 cells160 cells177 h
  intro r
  have hl := Fr.Crc.low_lt' r
  have := ht.cell gTab (Fr.Crc.low r) (by simpa [tabInts] using hl)
  rw [tabInts_at ⟨Fr.Crc.low r, hl⟩] at this
  exact this

theorem bulk_length {H : Type} (l : List (DataW H)) : l.length ≤ Rows.uptoBulkAll l := by
  induction l with
  | nil => simp [Rows.uptoBulkAll]
  | cons x r ih =>
    have h1 : 1 ≤ Rows.uptoBulk x := by
      cases x with
      | lit l => cases l <;> simp [Rows.uptoBulk]
      | nil => simp [Rows.uptoBulk]
      | ptr d => simp [Rows.uptoBulk]
      | slice elems spare => simp [Rows.uptoBulk]
      | agg parts => simp [Rows.uptoBulk]
      | iface t d => simp [Rows.uptoBulk]
      | map entries => simp [Rows.uptoBulk]
      | held h => simp [Rows.uptoBulk]
    simp only [Rows.uptoBulkAll, List.length_cons]
    omega
/-- A WORLD FOR THE WITNESS: the settled one, the table (block 0) holding what its initialiser lays. -/
def laidOn (W : World) : World :=
  { W with heap := W.heap.modify 0 fun
      | .cells _ t frozen => .cells (tabInts.map fun z => Value.int .u32 z).toArray t frozen
      | o => o }
theorem bulk_rows {H : Type} (f : Nat → DataW H) (g : Nat → List Nat) (rs : List Nat) (h : ∀ r ∈ rs, (g r).length + 1 ≤ Rows.uptoBulk (f r)) : (rs.map g).flatten.length + rs.length ≤ Rows.uptoBulkAll (rs.map f) := by
  induction rs with
  | nil => simp [Rows.uptoBulkAll]
  | cons r rs ih =>
    have h1 := h r (by simp)
    have h2 := ih (fun x hx => h x (by simp [hx]))
    simp only [List.map_cons, List.flatten_cons, List.length_append, List.length_cons, Rows.uptoBulkAll]
    omega
set_option maxRecDepth 100000 in
/-- A SLICE OF SLICES OF BYTES, INSIDE ANOTHER OR BY ITSELF -/
theorem rows_field {H : Type} {enc : TypeId × Value → H} {W : World} {v : Value} {y : DataW H × List MemPlace} {n : Nat} (hf : DataW.trod enc Tryd.prog W 0 (fun _ => true) true n 28 [v] = some y) : ∃ L, (L.length ≤ 1099511627776 → RowsIn W v L) ∧ L.flatten.length + L.length ≤ Rows.uptoBulk y.1 := by
  rcases open_int_rows Tryd.underlying28 Tryd.underlying50 Tryd.underlying5 cells51 cells5 hf with ⟨hcs, _⟩ | ⟨a, len, cap, A, Ls, C, Z, hcs, _, hl, hm, hx, hrow⟩
  · simp at hcs
    subst hcs
    exact ⟨[], fun _ => ⟨none, 0, rfl, by decide, Or.inl rfl⟩, by simp⟩
  · simp at hcs
    subst hcs
    unfold maxLen at hm
    have hbd : ∀ r, r < cap → ∀ z ∈ Z r, 0 ≤ z ∧ z ≤ 255 := fun r hr z hz => by
      have := (hrow r hr).2.2.2.2.1 z hz
      simpa [Lit.wf, IntKind.min, IntKind.max, IntKind.signed, IntKind.bits] using this
    have hgl : ∀ r, r < cap → (((Z r).take (Ls r)).map Int.toNat).length = Ls r := fun r hr => by
      have h1 := (hrow r hr).2.1
      have h2 := (hrow r hr).2.2.2.1
      rw [List.length_map, List.length_take]
      omega
    refine ⟨(List.range len).map fun r => ((Z r).take (Ls r)).map Int.toNat, fun hle => ⟨some a, cap, by simp, hle, ?_⟩, ?_⟩
    · by_cases h0 : len = 0
      · subst h0
        exact Or.inl (by simp)
      · right
        have hplain : ∃ b off, a = ⟨b, off, none⟩ := by
          have h1 := (hrow 0 (by omega)).1
          obtain ⟨ab, ao, sp⟩ := a
          have hsp : sp = none := by simpa [Addr.add] using World.cell?_spot h1
          subst hsp
          exact ⟨ab, ao, rfl⟩
        obtain ⟨b, off, rfl⟩ := hplain
        refine ⟨b, off, rfl, fun i hi => ?_⟩
        have hi' : i < len := by simpa using hi
        have hic : i < cap := by omega
        obtain ⟨hcell, hlc, hcm, hzl, hwz, hnone, hsome⟩ := hrow i hic
        rw [add_none] at hcell
        refine ⟨_, hcell, ?_⟩
        have hget : ((List.range len).map fun r => ((Z r).take (Ls r)).map Int.toNat).getD i [] = ((Z i).take (Ls i)).map Int.toNat := by simp [hi']
        rw [hget]
        refine ⟨A i, C i, by rw [hgl i hic], ⟨by rw [hgl i hic]; exact hlc, by rw [hgl i hic]; unfold maxLen at hcm; omega⟩, ?_⟩
        by_cases hz0 : Ls i = 0
        · exact Or.inl (by rw [hz0]; simp)
        · right
          cases hA : A i with
          | none => have := hnone hA; omega
          | some a' =>
            obtain ⟨_, hc'⟩ := hsome a' hA
            obtain ⟨b', off', rfl, hc⟩ := ints_at (zs := Z i) (fun c hc2 => hc' c (by omega)) (by omega)
            refine ⟨b', off', rfl, fun j hj => ?_, fun j => ?_⟩
            · rw [hgl i hic] at hj
              have hj' : j < (Z i).length := by omega
              rw [hc j hj']
              have h2 := hbd i hic (Z i)[j] (List.getElem_mem hj')
              simp [hj, hj', Int.toNat_of_nonneg h2.1]
            · by_cases hj : j < (((Z i).take (Ls i)).map Int.toNat).length
              · have hz := List.getElem_mem hj
                obtain ⟨y, hy, e⟩ := List.mem_map.1 hz
                have := hbd i hic y (List.mem_of_mem_take hy)
                have e2 : (((Z i).take (Ls i)).map Int.toNat).getD j 0 = (((Z i).take (Ls i)).map Int.toNat)[j] := by rw [List.getD_eq_getElem?_getD, List.getElem?_eq_getElem hj]; rfl
                rw [e2, ← e]
                omega
              · rw [List.getD_eq_getElem?_getD, List.getElem?_eq_none (by omega)]
                decide
    · have hd := congrArg Prod.fst hx
      simp only at hd
      rw [hd]
      simp only [Rows.uptoBulk]
      have hb := bulk_rows (fun r => (intRow .u8 (A r) (Ls r) (Z r) : DataW H)) (fun r => ((Z r).take (Ls r)).map Int.toNat) (List.range len) (fun r hr => by
        have hrl := List.mem_range.1 hr
        rw [hgl r (by omega)]
        obtain ⟨hcell, hlc, hcm, hzl, hwz, hnone, hsome⟩ := hrow r (by omega)
        cases hA : A r with
        | none =>
          have := hnone hA
          simp only [intRow, Rows.uptoBulk]
          omega
        | some a' =>
          simp only [intRow, Rows.uptoBulk]
          have h1 := bulk_length (H := H) (lits .u8 ((Z r).take (Ls r)))
          have h2 : (lits (H := H) .u8 ((Z r).take (Ls r))).length = Ls r := by simp [lits]; omega
          omega)
      simp only [List.length_map]
      omega
theorem bytes_flat (L : List (List Nat)) : bytesOf L = L.flatten.length := by
  unfold bytesOf
  rw [List.length_flatten]
set_option maxRecDepth 100000 in
theorem open_field {H : Type} {enc : TypeId × Value → H} {W : World} {v : Value} {y : DataW H × List MemPlace} {n : Nat}
    (hf : DataW.trod enc Tryd.prog W 0 (fun _ => true) true n 29 [v] = some y) : ∃ l : List Int, (l.length < 4611686018427387904 → IntsIn W v l) ∧ (l = [] ∨ ∃ elems spare, y.1 = .slice elems spare ∧ elems.length = l.length) := by
  rcases open_ints Tryd.underlying29 Tryd.underlying3 cells3 hf with ⟨hcs, _⟩ | ⟨x, l, c, zs, hcs, _, hl, hm, hz, hx, hcell, hwz⟩
  · simp at hcs
    subst hcs
    exact ⟨[], fun _ => ⟨none, 0, rfl, by decide, by decide, Or.inl rfl⟩, Or.inl rfl⟩
  · simp at hcs
    subst hcs
    have hz' : zs.length = c := by simpa using hz
    have hlen : (zs.take l).length = l := by simp; omega
    by_cases h0 : l = 0
    · subst h0
      exact ⟨[], fun _ => ⟨some x, c, rfl, by simp, by decide, Or.inl rfl⟩, Or.inl rfl⟩
    · obtain ⟨b, off, rfl, hc⟩ := ints_at hcell (by omega)
      refine ⟨zs.take l, fun h62 => ⟨some ⟨b, off, none⟩, c, by rw [hlen], by omega, h62, Or.inr ⟨b, off, rfl, fun j hj => ?_⟩⟩, Or.inr ⟨_, _, congrArg Prod.fst hx, by simp [lits]⟩⟩
      rw [hlen] at hj
      have h1 := hc j (by omega)
      rw [h1]
      have hj' : j < zs.length := by omega
      simp [hj, hj']
set_option maxRecDepth 100000 in
theorem open_i64 {H : Type} {enc : TypeId × Value → H} {W : World} {v : Value} {y : DataW H × List MemPlace} {n : Nat} (hf : DataW.trod enc Tryd.prog W 0 (fun _ => true) true n 3 [v] = some y) : ∃ z, v = .int .i64 z ∧ (-9223372036854775808 ≤ z ∧ z ≤ 9223372036854775807) := by
  obtain ⟨z, hz, _, hw⟩ := DataW.trod_int Tryd.underlying3 hf
  refine ⟨z, by simpa using hz, ?_⟩
  have h : (-9223372036854775808 ≤ z ∧ z ≤ 9223372036854775807) := by simpa [Lit.wf, IntKind.min, IntKind.max, IntKind.signed, IntKind.bits] using hw
  exact h
theorem und33 : ∃ f0 f1 f2 f3 : Field, Tryd.prog.underlying 31 = some (.struct #[f0, f1, f2, f3]) ∧ (f0.type = 3 ∧ f0.offset = 0) ∧ (f1.type = 3 ∧ f1.offset = 1) ∧ (f2.type = 28 ∧ f2.offset = 2) ∧ (f3.type = 29 ∧ f3.offset = 3) :=
  ⟨_, _, _, _, Tryd.underlying31, ⟨rfl, rfl⟩, ⟨rfl, rfl⟩, ⟨rfl, rfl⟩, rfl, rfl⟩
set_option maxRecDepth 100000 in
/-- one call, from its four cells -/
theorem open_op {H : Type} {enc : TypeId × Value → H} {W : World} {cs : List Value} {y : DataW H × List MemPlace} {n : Nat} (hf : DataW.trod enc Tryd.prog W 0 (fun _ => true) true n 31 cs = some y) (hk : Rows.uptoBulk y.1 ≤ 1048576) : ∃ o : OpD, cs = o.cells ∧ OpIn W o := by
  obtain ⟨f0, f1, f2, f3, hu, ⟨t0, o0⟩, ⟨t1, o1⟩, ⟨t2, o2⟩, t3, o3⟩ := und33
  obtain ⟨xs, m, _, hxy, hl, hxl, hx⟩ := DataW.trod_struct hu hf
  rw [cells33] at hl
  match cs, hl, xs, hxl with
  | [v0, v1, v2, v3], _, [y0, y1, y2, y3], _ =>
    have g0 := hx 0 f0 rfl
    have g1 := hx 1 f1 rfl
    have g2 := hx 2 f2 rfl
    have g3 := hx 3 f3 rfl
    simp only [t0, t1, t2, t3, o0, o1, o2, o3, cells3, cells30, cells31] at g0 g1 g2 g3
    simp at g0 g1 g2 g3
    obtain ⟨z0, rfl, i0⟩ := open_i64 g0
    obtain ⟨z1, rfl, i1⟩ := open_i64 g1
    obtain ⟨L, hL, hLb⟩ := rows_field g2
    obtain ⟨ks, hks, hd⟩ := open_field g3
    rw [hxy] at hk
    simp only [List.map_cons, List.map_nil, Rows.uptoBulk, Rows.uptoBulkAll] at hk
    have hlen : ks.length ≤ 1048576 := by
      rcases hd with rfl | ⟨elems, spare, e, he⟩
      · simp
      · rw [e] at hk
        simp only [Rows.uptoBulk] at hk
        have := bulk_length elems
        omega
    refine ⟨⟨z0, z1, v2, v3, L, ks⟩, rfl, i0, i1, hL (by omega), hks (by omega), ?_⟩
    show txSize L ≤ _
    unfold txSize
    rw [bytes_flat]
    omega
theorem bulk_mem {H : Type} {l : List (DataW H)} {d : DataW H} (h : d ∈ l) : Rows.uptoBulk d ≤ Rows.uptoBulkAll l := by
  induction l with
  | nil => cases h
  | cons x r ih =>
    simp only [Rows.uptoBulkAll]
    rcases List.mem_cons.1 h with rfl | h
    · omega
    · have := ih h
      omega
set_option maxRecDepth 100000 in
/-- A SLICE OF CALLS THAT CAME IN -/
theorem open_ops {H : Type} {enc : TypeId × Value → H} {W : World} {v : Value} {d : DataW H} {p : List MemPlace} {base : Nat}
    (hv : Value.okWide Tryd.prog W .any base 22 v) (h : DataW.Trod enc Tryd.prog W 0 (fun _ => true) true 22 v d p) (hk : Rows.uptoBulk d ≤ 1048576) : ∃ L, OpsIn W v L := by
  obtain ⟨a0, len0, cap0, rfl⟩ := okWide_slice Tryd.underlying22 hv
  obtain ⟨fuel, hf⟩ := h
  rcases open_slice Tryd.underlying22 hf with ⟨hcs, _⟩ | ⟨a, len, cap, m, n, D, Pl, hcs, _, hl, hm, hmm, hx, hrow⟩
  · simp [Value.cells] at hcs
    obtain ⟨rfl, rfl, rfl⟩ := hcs
    exact ⟨[], none, 0, rfl, by simp, by simp, Or.inl rfl, fun o ho => by cases ho⟩
  · simp [Value.cells] at hcs
    obtain ⟨rfl, rfl, rfl⟩ := hcs
    have hd := congrArg Prod.fst hx
    simp only at hd
    rw [hd] at hk
    simp only [Rows.uptoBulk] at hk
    have hlm : len0 ≤ m := by rw [hmm]; split <;> omega
    have hb := bulk_length ((List.range len0).map D)
    rw [List.length_map, List.length_range] at hb
    obtain ⟨F, hF⟩ := choose_lt (α := OpD) (n := len0) (p := fun i o => W.cells? 0 (a.add (i * 4)) 4 = some o.cells ∧ OpIn W o) (fun i hi => by
      obtain ⟨cs', h1, h2⟩ := hrow i (by omega)
      rw [cells33] at h1
      have hmem : D i ∈ (List.range len0).map D := List.mem_map.2 ⟨i, List.mem_range.2 hi, rfl⟩
      have := bulk_mem hmem
      obtain ⟨o, ho, hin⟩ := open_op h2 (by show Rows.uptoBulk (D i) ≤ _; omega)
      exact ⟨o, by rw [← ho]; exact h1, hin⟩)
    refine ⟨(List.range len0).map F, some a, cap0, by simp, by simp; omega, by simp; omega, ?_, fun o ho => ?_⟩
    · by_cases h0 : len0 = 0
      · subst h0
        exact Or.inl (by simp)
      · right
        obtain ⟨_, _, hcell0⟩ := World.cells?_some (hF 0 (by omega)).1
        have hplain : ∃ b off, a = ⟨b, off, none⟩ := by
          have h1 := hcell0 0 (by omega)
          obtain ⟨ab, ao, sp⟩ := a
          have h1' : W.cell? ⟨ab, ao, sp⟩ = some (.int .i64 (F 0).k) := by
            simpa [Addr.add, OpD.cells, opCells] using h1
          have hsp : sp = none := by simpa [Addr.add] using World.cell?_spot h1'
          subst hsp
          exact ⟨ab, ao, rfl⟩
        obtain ⟨b, off, rfl⟩ := hplain
        refine ⟨b, off, rfl, fun i hi j hj => ?_⟩
        rw [List.length_map, List.length_range] at hi
        obtain ⟨_, _, hcell⟩ := World.cells?_some (hF i hi).1
        have h1 := hcell j (by omega)
        rw [add_none, add_none] at h1
        have e : ((List.range len0).map F).getD i default = F i := by simp [hi]
        rw [e, ← h1, Nat.add_assoc]
    · obtain ⟨i, hi, rfl⟩ := List.mem_map.1 ho
      exact (hF i (List.mem_range.1 hi)).2
end Go.Proofs.YtebalanfagglnaaDoor

namespace Go.Proofs.YtebalanfagglnaaDoor.walApartUpto
open Go.ChangeShapes Go.WideShapes Go.ChangeAt Go.RowKit

set_option maxRecDepth 100000 in
/-- WHAT THE WALK GIVES, FOR EVERY ARGUMENT AND EVERY WORLD THAT HOLDS THE TABLE -/
theorem contract (H : Type) (enc : TypeId × Value → H) (W : World) (base : Nat) (args : Array Value) (ds gs : List (DataW H)) (before : List MemPlace)
    (hval : ∀ (j : Nat) t v, Tryd.f3.params[j]? = some t → args[j]? = some v → Value.okWide Tryd.prog W .any base t v)
    (hW : DataW.Whole enc Tryd.prog Tryd.f3.params.toList Rows.walApartSpec.vars false W args.toList ds gs before)
    (hk : Rows.uptoSmall H (ds ++ gs) = true)
    (hL : laidMetH Tryd.prog Rows.walApartUptoRow.laid W) :
    Calls Tryd.prog 3 args W fun e W' => ∃ v, e = .returned v ∧ Rows.walApartSpec.post enc Tryd.prog Tryd.f3 false true false false W args v W' := by
  have hW' := hW
  obtain ⟨p, q, hA0, hV, rfl, hfz, hnd⟩ := hW
  have hA : DataW.TrodAll enc Tryd.prog W 0 (fun _ => true) true Tryd.f3.params.toList args.toList ds p := hA0
  rw [Tryd.params3] at hA hval
  obtain ⟨v0, vs0, d0, ds0, p0, q0, hargs, rfl, rfl, h0, r0⟩ := trodAll_cons hA
  obtain ⟨v1, vs1, d1, ds1, p1, q1, rfl, rfl, rfl, h1, r1⟩ := trodAll_cons r0
  obtain ⟨rfl, rfl, rfl⟩ := trodAll_nil r1
  obtain rfl : args = #[v0, v1] := by cases args; simp_all
  obtain ⟨rfl, rfl⟩ := trodVars_none hV
  have lt0 : ∀ x ∈ p0, x.block < W.heap.size := by obtain ⟨m, hm⟩ := h0; exact DataW.trod_lt m _ _ _ hm
  have lt1 : ∀ x ∈ p1, x.block < W.heap.size := by obtain ⟨m, hm⟩ := h1; exact DataW.trod_lt m _ _ _ hm
  clear hA0
  have hbk : Rows.uptoBulkAll [d0, d1] ≤ 1048576 := of_decide_eq_true hk
  simp only [Rows.uptoBulkAll] at hbk
  obtain ⟨os0, hos0⟩ := open_ops (hval 0 22 v0 rfl rfl) h0 (by omega)
  obtain ⟨os1, hos1⟩ := open_ops (hval 1 22 v1 rfl rfl) h1 (by omega)
  obtain ⟨p0', cap0', hv0, _, _⟩ := id hos0
  subst hv0
  obtain ⟨p1', cap1', hv1, _, _⟩ := id hos1
  subst hv1
  have walk := walApart_any W (tabIn_of hL) p0' os0.length cap0' os0 hos0 p1' os1.length cap1' os1 hos1
  refine walk.mono fun e W' ⟨he, bel⟩ => ?_
  subst he
  exact ⟨_, rfl, _, _, _, [], _, [], hW', trodAll_mk1 (shut_bool Tryd.underlying4 _), (trodAll_cons_mk (Below.trod laidOut (by kernel_rfl) (of_decide_eq_true (by kernel_rfl)) h0 bel lt0) (trodAll_cons_mk (Below.trod laidOut (by kernel_rfl) (of_decide_eq_true (by kernel_rfl)) h1 bel lt1) trodAll_mk0)), rfl, bel.frame _, fun h => by cases h⟩

theorem laid_met (os : Os) : laidMet Tryd.prog Rows.walApartUptoRow.laid ((laidOn (World.holding Tryd.prog os ⟨#[], #[], []⟩)).forCall (fun _ _ => 0) ⟨#[], #[.slice none 0 0, .slice none 0 0], []⟩).memory :=
  laidMet_of_run' 8 (by kernel_rfl) (by kernel_rfl)
theorem reads (os : Os) {H : Type} (enc : TypeId × Value → H) : ∃ places, DataW.whole enc Tryd.prog ((laidOn (World.holding Tryd.prog os ⟨#[], #[], []⟩)).forCall (fun _ _ => 0) ⟨#[], #[.slice none 0 0, .slice none 0 0], []⟩).memory Tryd.f3.params.toList Rows.walApartSpec.vars false #[Value.slice none 0 0, .slice none 0 0].toList 8 = some ([.nil, .nil], [], places) :=
  ⟨[], by kernel_rfl⟩

set_option maxRecDepth 100000 in
theorem lifted (os : Os) (started : os.Started) (H : Type) (enc : TypeId × Value → H) (F : Stop.Interp) :
    ReturnsInHanded {} Tryd.checked os 3 .any ((Rows.OpenSpec.upto Rows.walApartSpec).preRow enc Tryd.prog Tryd.f3 Rows.walApartUptoRow.domain false Rows.walApartUptoRow.laid) (((Rows.OpenSpec.upto Rows.walApartSpec).at F).post enc Tryd.prog Tryd.f3 false true false false) := by
  obtain ⟨places, hx⟩ := reads os enc
  refine returnsInHanded_of_row (C := Tryd.checked) (s := Rows.OpenSpec.upto Rows.walApartSpec) own started (by kernel_rfl) Tryd.func3
    (witness_row_at (enc := enc) (C := Tryd.checked) false (laidOn (World.holding Tryd.prog os ⟨#[], #[], []⟩)) #[.slice none 0 0, .slice none 0 0] rfl (by kernel_rfl) (by kernel_rfl) (by kernel_rfl)
      (OpenSpec.preRow_of_cond 8 hx (by kernel_rfl) (fun k hk => by cases hk; kernel_rfl) (by kernel_rfl) (laid_met os))) ?_
  intro W base args ds gs before hval hW _ hcond _ hL _ _
  exact contract H enc W base args ds gs before hval hW (hcond _ rfl) hL

theorem said : Rows.WalApartUptoSaid :=
  OpenClaim.holds_of_cond 3 Tryd.f3 rfl rfl rfl rfl rfl rfl rfl ⟨rfl, rfl, rfl, rfl, rfl⟩ rfl rfl rfl rfl rfl (by kernel_rfl) Tryd.func3 (by kernel_rfl)
    (of_decide_eq_true (by kernel_rfl)) (by unfold Func.isWrapper; first | (rw [if_pos (by decide +kernel)]; kernel_rfl) | (rw [if_neg (by decide +kernel)]; exact ⟨rfl, rfl⟩))
    (fun os started H enc _ F => by rw [OpenClaim.pre_eq_preRow]; exact lifted os started H enc F)

theorem plain (f : FuncId) (fn : Func) (hf : Tryd.pinned.checked.prog.funcNamed "muniment/munimentlaw08.WalApart" = some f) (hfn : Tryd.pinned.checked.prog.funcs[f]? = some fn) :
    false = Tryd.pinned.checked.prog.looks [] ∧ ∀ (j : Nat) t, fn.params[j]? = some t → Tryd.pinned.checked.prog.wantsStandIn t = false := by
  obtain rfl : f = 3 := Option.some.inj ((show Tryd.prog.funcNamed "muniment/munimentlaw08.WalApart" = some 3 by kernel_rfl).symm.trans hf) |>.symm
  obtain rfl : fn = Tryd.f3 := (Option.some.inj (Tryd.func3.symm.trans hfn)).symm
  refine ⟨by kernel_rfl, fun j t ht => ?_⟩
  rw [Tryd.params3] at ht
  have hm := Array.mem_of_getElem? ht
  have : t = 22 := by simpa using hm
  subst this
  exact (show Tryd.prog.wantsStandIn 22 = false by kernel_rfl)

end Go.Proofs.YtebalanfagglnaaDoor.walApartUpto
namespace Go.Proofs.YtebalanfagglnaaDoor
/-- THE CARD -/
theorem walApartUpto_card : Rows.WalApartUptoCardSaid :=
  Claim7.holds_tied_plain_at .later [] _ _ _ _ walApartUpto.said (fun _ h => by cases h) (by kernel_rfl) (fun _ h => by cases h) walApartUpto_row_tie rfl ⟨rfl, rfl⟩ (by kernel_rfl) rfl walApartUpto.plain (by kernel_rfl)
end Go.Proofs.YtebalanfagglnaaDoor

/- What comes in. -/
import Derived.Test.YtcjanjofjnedbaaS8
import Derived.Test.YtcjanjofjnedbaaRows
import Derived.ProofKit
import Derived.OpenShut
import Derived.ChangeOld
import Derived.Below
import Derived.SizedLaws
import Derived.Deep.DeepHandedRow
import Derived.LaidLaws
import Derived.Deep.Slices
import Derived.Deep.Matrix
namespace Go.Proofs.Ytcjanjofjnedbaa
open Go.ChangeShapes Go.WideShapes Go.ChangeAt Go.RowKit Go.Deep

theorem own : ownKnob Try.prog.godebug = none := by kernel_rfl
theorem laidOut : laidOutB Try.prog = true := by kernel_rfl
theorem cells5 : Try.prog.cellsOf 5 = 1 := by kernel_rfl
theorem cells3 : Try.prog.cellsOf 3 = 1 := by kernel_rfl
theorem cells28 : Try.prog.cellsOf 28 = 1 := by kernel_rfl
theorem cells30 : Try.prog.cellsOf 30 = 3 := by kernel_rfl
theorem bytes5 : Try.prog.bytesOf 5 = 1 := by kernel_rfl
theorem bytes28 : Try.prog.bytesOf 28 = 24 := by kernel_rfl
theorem bytes30 : Try.prog.bytesOf 30 = 40 := by kernel_rfl
theorem bytes3 : Try.prog.bytesOf 3 = 8 := by kernel_rfl
def laidOn (W : World) : World := W
def RowsIn (w : World) (v : Value) (L : List (List Nat)) : Prop :=
  ∃ p cap, v = .slice p L.length cap ∧ L.length ≤ 9223372036854775807 ∧ (L = [] ∨ ∃ b off, p = some ⟨b, off, none⟩ ∧ ∀ i, i < L.length → ∃ u, w.cell? ⟨b, off + i, none⟩ = some u ∧ SliceIn w u (L.getD i []))
theorem snil (w : World) : SliceIn w (.slice none 0 0) [] := ⟨none, 0, rfl, ⟨Nat.le_refl _, Nat.zero_le _⟩, Or.inl rfl⟩
theorem weights_all {H : Type} {P : Program} {e : TypeId} {l : List (DataW H)} {d : DataW H} (h : d ∈ l) : ∀ n ∈ d.weights P e, n ∈ DataW.weightsAll P e l := by
  induction l with
  | nil => cases h
  | cons x r ih =>
    intro n hn
    simp only [DataW.weightsAll, List.mem_append]
    rcases List.mem_cons.1 h with rfl | h
    · exact Or.inl hn
    · exact Or.inr (ih h n hn)
set_option maxRecDepth 100000 in
theorem rows_field {H : Type} {enc : TypeId × Value → H} {W : World} {v : Value} {y : DataW H × List MemPlace} {n : Nat} (hf : DataW.trod enc Try.prog W 0 (fun _ => true) true n 41 [v] = some y) : ∃ L, RowsIn W v L ∧ (∀ i, i < L.length → (L.getD i []).length = 0 ∨ ∃ n ∈ y.1.weights Try.prog 41, (L.getD i []).length ≤ n) ∧ (L.length = 0 ∨ ∃ n ∈ y.1.weights Try.prog 41, L.length ≤ n) := by
  rcases open_int_rows Try.underlying41 Try.underlying28 Try.underlying5 cells28 cells5 hf with ⟨hcs, _⟩ | ⟨a, len, cap, A, Ls, C, Z, hcs, _, hl, hm, hx, hrow⟩
  · simp at hcs
    subst hcs
    exact ⟨[], ⟨none, 0, rfl, by decide, Or.inl rfl⟩, fun i hi => absurd hi (Nat.not_lt_zero _), Or.inl rfl⟩
  · simp at hcs
    subst hcs
    unfold maxLen at hm
    have hbd : ∀ r, r < cap → ∀ z ∈ Z r, 0 ≤ z ∧ z ≤ 255 := fun r hr z hz => by
      have := (hrow r hr).2.2.2.2.1 z hz
      simpa [Lit.wf, IntKind.min, IntKind.max, IntKind.signed, IntKind.bits] using this
    have hgl : ∀ r, r < cap → (((Z r).take (Ls r)).map Int.toNat).length = Ls r := fun r hr => by
      have h1 := (hrow r hr).2.1
      have h2 := (hrow r hr).2.2.2.1
      rw [List.length_map, List.length_take]
      omega
    refine ⟨(List.range len).map fun r => ((Z r).take (Ls r)).map Int.toNat, ⟨some a, cap, by simp, by simp; omega, ?_⟩, ?_⟩
    · by_cases h0 : len = 0
      · subst h0
        exact Or.inl (by simp)
      · right
        have hplain : ∃ b off, a = ⟨b, off, none⟩ := by
          have h1 := (hrow 0 (by omega)).1
          obtain ⟨ab, ao, sp⟩ := a
          have hsp : sp = none := by simpa [Addr.add] using World.cell?_spot h1
          subst hsp
          exact ⟨ab, ao, rfl⟩
        obtain ⟨b, off, rfl⟩ := hplain
        refine ⟨b, off, rfl, fun i hi => ?_⟩
        have hi' : i < len := by simpa using hi
        have hic : i < cap := by omega
        obtain ⟨hcell, hlc, hcm, hzl, hwz, hnone, hsome⟩ := hrow i hic
        rw [add_none] at hcell
        refine ⟨_, hcell, ?_⟩
        have hget : ((List.range len).map fun r => ((Z r).take (Ls r)).map Int.toNat).getD i [] = ((Z i).take (Ls i)).map Int.toNat := by simp [hi']
        rw [hget]
        refine ⟨A i, C i, by rw [hgl i hic], ⟨by rw [hgl i hic]; exact hlc, by rw [hgl i hic]; unfold maxLen at hcm; omega⟩, ?_⟩
        by_cases hz0 : Ls i = 0
        · exact Or.inl (by rw [hz0]; simp)
        · right
          cases hA : A i with
          | none => have := hnone hA; omega
          | some a' =>
            obtain ⟨_, hc'⟩ := hsome a' hA
            obtain ⟨b', off', rfl, hc⟩ := ints_at (zs := Z i) (fun c hc2 => hc' c (by omega)) (by omega)
            refine ⟨b', off', rfl, fun j hj => ?_, fun j => ?_⟩
            · rw [hgl i hic] at hj
              have hj' : j < (Z i).length := by omega
              rw [hc j hj']
              have h2 := hbd i hic (Z i)[j] (List.getElem_mem hj')
              simp [hj, hj', Int.toNat_of_nonneg h2.1]
            · by_cases hj : j < (((Z i).take (Ls i)).map Int.toNat).length
              · have hz := List.getElem_mem hj
                obtain ⟨y, hy, e⟩ := List.mem_map.1 hz
                have := hbd i hic y (List.mem_of_mem_take hy)
                have e2 : (((Z i).take (Ls i)).map Int.toNat).getD j 0 = (((Z i).take (Ls i)).map Int.toNat)[j] := by rw [List.getD_eq_getElem?_getD, List.getElem?_eq_getElem hj]; rfl
                rw [e2, ← e]
                omega
              · rw [List.getD_eq_getElem?_getD, List.getElem?_eq_none (by omega)]
                decide
    · have hd := congrArg Prod.fst hx
      simp only at hd
      rw [hd]
      simp only [DataW.weights, Try.underlying41]
      refine ⟨fun i hi => ?_, Or.inr ⟨_, List.mem_cons_self, ?_⟩⟩
      · have hi' : i < len := by simpa using hi
        have hget : ((List.range len).map fun r => ((Z r).take (Ls r)).map Int.toNat).getD i [] = ((Z i).take (Ls i)).map Int.toNat := by simp [hi']
        rw [hget, hgl i (by omega)]
        obtain ⟨hcell, hlc, hcm, hzl, hwz, hnone, hsome⟩ := hrow i (by omega)
        cases hA : A i with
        | none => exact Or.inl (by have := hnone hA; omega)
        | some a' =>
          right
          refine ⟨_, List.mem_cons_of_mem _ (List.mem_append_left _ (weights_all (d := (intRow .u8 (A i) (Ls i) (Z i) : DataW H)) (List.mem_map.2 ⟨i, List.mem_range.2 hi', rfl⟩) ((Ls i + (C i - Ls i)) * Try.prog.bytesOf 5) ?_)), ?_⟩
          · rw [hA]
            simp only [intRow, DataW.weights, Try.underlying28]
            refine List.mem_cons.2 (Or.inl ?_)
            simp [lits]
            congr 1
            omega
          · rw [bytes5]
            omega
      · simp
        have : 1 ≤ Try.prog.bytesOf 28 := by rw [bytes28]; decide
        calc len ≤ len + (cap - len) := Nat.le_add_right _ _
          _ ≤ (len + (cap - len)) * Try.prog.bytesOf 28 := Nat.le_mul_of_pos_right _ this
set_option maxRecDepth 100000 in
theorem open_rows {H : Type} {enc : TypeId × Value → H} {W : World} {v : Value} {d : DataW H} {p : List MemPlace} {base : Nat}
    (hv : Value.okWide Try.prog W .any base 41 v) (h : DataW.Trod enc Try.prog W 0 (fun _ => true) true 41 v d p) : ∃ L, RowsIn W v L ∧ (∀ i, i < L.length → (L.getD i []).length = 0 ∨ ∃ n ∈ d.weights Try.prog 41, (L.getD i []).length ≤ n) ∧ (L.length = 0 ∨ ∃ n ∈ d.weights Try.prog 41, L.length ≤ n) := by
  obtain ⟨a0, len0, cap0, rfl⟩ := okWide_slice Try.underlying41 hv
  obtain ⟨fuel, hf⟩ := h
  exact rows_field (y := (d, p)) hf
set_option maxRecDepth 100000 in
theorem open_i64 {H : Type} {enc : TypeId × Value → H} {W : World} {v : Value} {y : DataW H × List MemPlace} {n : Nat} (hf : DataW.trod enc Try.prog W 0 (fun _ => true) true n 3 [v] = some y) : ∃ z, v = .int .i64 z ∧ (-9223372036854775808 ≤ z ∧ z ≤ 9223372036854775807) := by
  obtain ⟨z, hz, _, hw⟩ := DataW.trod_int Try.underlying3 hf
  refine ⟨z, by simpa using hz, ?_⟩
  have h : (-9223372036854775808 ≤ z ∧ z ≤ 9223372036854775807) := by simpa [Lit.wf, IntKind.min, IntKind.max, IntKind.signed, IntKind.bits] using hw
  exact h
set_option maxRecDepth 100000 in
theorem open_nums {H : Type} {enc : TypeId × Value → H} {W : World} {v : Value} {d : DataW H} {p : List MemPlace} {base : Nat}
    (hv : Value.okWide Try.prog W .any base 43 v) (h : DataW.Trod enc Try.prog W 0 (fun _ => true) true 43 v d p) : ∃ l : List Int, (l.length < 4611686018427387904 → IntsIn W v l) ∧ (l = [] ∨ ∃ elems spare, d = .slice elems spare ∧ elems.length = l.length) ∧ ∀ z ∈ l, -9223372036854775808 ≤ z ∧ z ≤ 9223372036854775807 := by
  obtain ⟨a0, len0, cap0, rfl⟩ := okWide_slice Try.underlying43 hv
  obtain ⟨fuel, hf⟩ := h
  rcases open_ints Try.underlying43 Try.underlying3 cells3 hf with ⟨hcs, _⟩ | ⟨x, l, c, zs, hcs, _, hl, hm, hz, hx, hcell, hwz⟩
  · simp [Value.cells] at hcs
    obtain ⟨rfl, rfl, rfl⟩ := hcs
    exact ⟨[], fun _ => ⟨none, 0, rfl, by decide, by decide, Or.inl rfl⟩, Or.inl rfl, fun z hz => by cases hz⟩
  · simp [Value.cells] at hcs
    obtain ⟨rfl, rfl, rfl⟩ := hcs
    have hz' : zs.length = cap0 := by simpa using hz
    have hlen : (zs.take len0).length = len0 := by simp; omega
    have hbd : ∀ z ∈ zs.take len0, -9223372036854775808 ≤ z ∧ z ≤ 9223372036854775807 := fun z hz => by
      have := hwz z (List.mem_of_mem_take hz)
      simpa [Lit.wf, IntKind.min, IntKind.max, IntKind.signed, IntKind.bits] using this
    by_cases h0 : len0 = 0
    · subst h0
      exact ⟨[], fun _ => ⟨some x, cap0, rfl, by simp, by decide, Or.inl rfl⟩, Or.inl rfl, fun z hz => by cases hz⟩
    · obtain ⟨b, off, rfl, hc⟩ := ints_at hcell (by omega)
      refine ⟨zs.take len0, fun h62 => ⟨some ⟨b, off, none⟩, cap0, by rw [hlen], by omega, h62, Or.inr ⟨b, off, rfl, fun j hj => ?_⟩⟩, Or.inr ⟨_, _, congrArg Prod.fst hx, by simp [lits]⟩, hbd⟩
      rw [hlen] at hj
      have h1 := hc j (by omega)
      rw [h1]
      have hj' : j < zs.length := by omega
      simp [hj, hj']
theorem reach_nums {H : Type} {ts : List TypeId} {ds : List (DataW H)} (h : (DataW.weightsEach Try.prog ts ds).all (· ≤ reachBytes) = true) {j : Nat} {d : DataW H} {cs : List Int} (ht : ts[j]? = some 43) (hd : ds[j]? = some d)
    (hc : cs = [] ∨ ∃ elems spare, d = .slice elems spare ∧ elems.length = cs.length) : cs.length ≤ 17592186043904 := by
  rcases hc with rfl | ⟨elems, spare, rfl, hl⟩
  · simp
  · have := sized_slice h ht hd Try.underlying43
    rw [bytes3] at this
    unfold reachBytes at this
    omega
set_option maxRecDepth 100000 in
theorem bytes_field {H : Type} {enc : TypeId × Value → H} {W : World} {v : Value} {y : DataW H × List MemPlace} {n : Nat} (hf : DataW.trod enc Try.prog W 0 (fun _ => true) true n 28 [v] = some y) : ∃ cs, SliceIn W v cs ∧ (cs = [] ∨ ∃ elems spare, y.1 = .slice elems spare ∧ elems.length = cs.length) := by
  rcases open_ints Try.underlying28 Try.underlying5 cells5 hf with ⟨hcs, _⟩ | ⟨x, l, c, zs, hcs, _, hl, hm, hz, hx, hcell, hwz⟩
  · simp at hcs
    subst hcs
    exact ⟨[], snil W, Or.inl rfl⟩
  · simp at hcs
    subst hcs
    have hz' : zs.length = c := by simpa using hz
    unfold maxLen at hm
    have hlen : ((zs.take l).map Int.toNat).length = l := by simp; omega
    have hbd : ∀ z ∈ zs, 0 ≤ z ∧ z ≤ 255 := fun z hz => by
      have := hwz z hz
      simpa [Lit.wf, IntKind.min, IntKind.max, IntKind.signed, IntKind.bits] using this
    by_cases h0 : l = 0
    · subst h0
      exact ⟨[], ⟨some x, c, rfl, by simp, Or.inl rfl⟩, Or.inl rfl⟩
    · obtain ⟨b, off, rfl, hc⟩ := ints_at hcell (by omega)
      refine ⟨(zs.take l).map Int.toNat, ⟨some ⟨b, off, none⟩, c, by rw [hlen], by omega, Or.inr ⟨b, off, rfl, fun j hj => ?_, fun j => ?_⟩⟩, Or.inr ⟨_, _, congrArg Prod.fst hx, by simp [lits]⟩⟩
      · rw [hlen] at hj
        have h1 := hc j (by omega)
        rw [h1]
        have hj' : j < zs.length := by omega
        have h2 := hbd zs[j] (List.getElem_mem hj')
        simp [hj, hj', Int.toNat_of_nonneg h2.1]
      · apply lt256
        intro z hz
        obtain ⟨y, hy, rfl⟩ := List.mem_map.1 hz
        have := hbd y (List.mem_of_mem_take hy)
        omega
structure OpD where
  k : Int
  N : Int
  bv : Value
  b : List Nat
deriving Inhabited
def OpD.cells (o : OpD) : List Value := [.int .i64 o.k, .int .i64 o.N, o.bv]
structure OpIn (W : World) (o : OpD) : Prop where
  k : -9223372036854775808 ≤ o.k ∧ o.k ≤ 9223372036854775807
  n : -9223372036854775808 ≤ o.N ∧ o.N ≤ 9223372036854775807
  b : SliceIn W o.bv o.b
  len : o.b.length ≤ 140737488355328
def OpsIn (W : World) (v : Value) (os : List OpD) : Prop :=
  ∃ p cap, v = .slice p os.length cap ∧ os.length ≤ cap ∧ os.length ≤ 140737488355328 ∧ (os = [] ∨ ∃ b off, p = some ⟨b, off, none⟩ ∧ ∀ i, i < os.length → ∀ j, j < 3 → W.cell? ⟨b, off + (i * 3 + j), none⟩ = (os.getD i default).cells[j]?) ∧ ∀ o ∈ os, OpIn W o
theorem und30 : ∃ f0 f1 f2 : Field, Try.prog.underlying 30 = some (.struct #[f0, f1, f2]) ∧ (f0.type = 3 ∧ f0.offset = 0) ∧ (f1.type = 3 ∧ f1.offset = 1) ∧ (f2.type = 28 ∧ f2.offset = 2) :=
  ⟨_, _, _, Try.underlying30, ⟨rfl, rfl⟩, ⟨rfl, rfl⟩, rfl, rfl⟩
set_option maxRecDepth 100000 in
/-- one call, from its three cells -/
theorem open_op {H : Type} {enc : TypeId × Value → H} {W : World} {cs : List Value} {y : DataW H × List MemPlace} {n : Nat} (hf : DataW.trod enc Try.prog W 0 (fun _ => true) true n 30 cs = some y) (hk : ∀ n ∈ y.1.weights Try.prog 30, n ≤ reachBytes) : ∃ o : OpD, cs = o.cells ∧ OpIn W o := by
  obtain ⟨f0, f1, f2, hu, ⟨t0, o0⟩, ⟨t1, o1⟩, t2, o2⟩ := und30
  obtain ⟨xs, m, _, hxy, hl, hxl, hx⟩ := DataW.trod_struct hu hf
  rw [cells30] at hl
  match cs, hl, xs, hxl with
  | [v0, v1, v2], _, [y0, y1, y2], _ =>
    have g0 := hx 0 f0 rfl
    have g1 := hx 1 f1 rfl
    have g2 := hx 2 f2 rfl
    simp only [t0, t1, t2, o0, o1, o2, cells3, cells28] at g0 g1 g2
    simp at g0 g1 g2
    obtain ⟨z0, rfl, i0⟩ := open_i64 g0
    obtain ⟨z1, rfl, i1⟩ := open_i64 g1
    obtain ⟨L, hL, hLb⟩ := bytes_field g2
    rw [hxy] at hk
    simp only [List.map_cons, List.map_nil, DataW.weights, hu, t0, t1, t2, DataW.weightsEach] at hk
    have hl1 : L.length ≤ 140737488355328 := by
      rcases hLb with rfl | ⟨elems, spare, e, he⟩
      · simp
      · have h1 := hk ((elems.length + spare.length) * Try.prog.bytesOf 5) (by
          refine List.mem_append_right _ (List.mem_append_right _ (List.mem_append_left _ ?_))
          rw [e]
          simp only [DataW.weights, Try.underlying28]
          exact List.mem_cons_self)
        rw [bytes5] at h1
        unfold reachBytes at h1
        omega
    exact ⟨⟨z0, z1, v2, L⟩, rfl, i0, i1, hL, hl1⟩
set_option maxRecDepth 100000 in
theorem open_ops {H : Type} {enc : TypeId × Value → H} {W : World} {v : Value} {d : DataW H} {p : List MemPlace} {base : Nat}
    (hv : Value.okWide Try.prog W .any base 22 v) (h : DataW.Trod enc Try.prog W 0 (fun _ => true) true 22 v d p) (hk : ∀ n ∈ d.weights Try.prog 22, n ≤ reachBytes) : ∃ L, OpsIn W v L := by
  obtain ⟨a0, len0, cap0, rfl⟩ := okWide_slice Try.underlying22 hv
  obtain ⟨fuel, hf⟩ := h
  rcases open_slice Try.underlying22 hf with ⟨hcs, _⟩ | ⟨a, len, cap, m, n, D, Pl, hcs, _, hl, hm, hmm, hx, hrow⟩
  · simp [Value.cells] at hcs
    obtain ⟨rfl, rfl, rfl⟩ := hcs
    exact ⟨[], none, 0, rfl, by simp, by simp, Or.inl rfl, fun o ho => by cases ho⟩
  · simp [Value.cells] at hcs
    obtain ⟨rfl, rfl, rfl⟩ := hcs
    have hd := congrArg Prod.fst hx
    simp only at hd
    rw [hd] at hk
    simp only [DataW.weights, Try.underlying22] at hk
    have hb := hk _ List.mem_cons_self
    rw [bytes30, List.length_map, List.length_range] at hb
    unfold reachBytes at hb
    have hlm : len0 ≤ m := by rw [hmm]; split <;> omega
    obtain ⟨F, hF⟩ := choose_lt (α := OpD) (n := len0) (p := fun i o => W.cells? 0 (a.add (i * 3)) 3 = some o.cells ∧ OpIn W o) (fun i hi => by
      obtain ⟨cs', h1, h2⟩ := hrow i (by omega)
      rw [cells30] at h1
      have hmem : D i ∈ (List.range len0).map D := List.mem_map.2 ⟨i, List.mem_range.2 hi, rfl⟩
      obtain ⟨o, ho, hin⟩ := open_op h2 (fun n hn => hk n (List.mem_cons_of_mem _ (List.mem_append_left _ (weights_all hmem n hn))))
      exact ⟨o, by rw [← ho]; exact h1, hin⟩)
    refine ⟨(List.range len0).map F, some a, cap0, by simp, by simp; omega, by simp; omega, ?_, fun o ho => ?_⟩
    · by_cases h0 : len0 = 0
      · subst h0
        exact Or.inl (by simp)
      · right
        obtain ⟨_, _, hcell0⟩ := World.cells?_some (hF 0 (by omega)).1
        have hplain : ∃ b off, a = ⟨b, off, none⟩ := by
          have h1 := hcell0 0 (by omega)
          obtain ⟨ab, ao, sp⟩ := a
          have h1' : W.cell? ⟨ab, ao, sp⟩ = some (.int .i64 (F 0).k) := by
            simpa [Addr.add, OpD.cells] using h1
          have hsp : sp = none := by simpa [Addr.add] using World.cell?_spot h1'
          subst hsp
          exact ⟨ab, ao, rfl⟩
        obtain ⟨b, off, rfl⟩ := hplain
        refine ⟨b, off, rfl, fun i hi j hj => ?_⟩
        rw [List.length_map, List.length_range] at hi
        obtain ⟨_, _, hcell⟩ := World.cells?_some (hF i hi).1
        have h1 := hcell j (by omega)
        rw [add_none, add_none] at h1
        have e : ((List.range len0).map F).getD i default = F i := by simp [hi]
        rw [e, ← h1, Nat.add_assoc]
    · obtain ⟨i, hi, rfl⟩ := List.mem_map.1 ho
      exact (hF i (List.mem_range.1 hi)).2

end Go.Proofs.Ytcjanjofjnedbaa

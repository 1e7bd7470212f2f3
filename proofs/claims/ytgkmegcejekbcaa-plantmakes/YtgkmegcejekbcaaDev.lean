/- The calls of one device: read, wait, waitNoMore, settle. -/
import Derived.Test.YtgkmegcejekbcaaBuild
import Derived.Deep.Cut
namespace Go.Proofs.Ytgkmegcejekbcaa
open Go.RowKit Go.Maps

/-- a type whose values are one cell -/
def OneT (t : Nat) : Prop := ∀ (w : World) (g o : Nat) (v : Value), w.cell? ⟨g, o, none⟩ = some v → (loadVar t ⟨g, o, none⟩).run Try.prog w = .ok v w
theorem one3 : OneT 3 := fun w g o v h => by simp [loadVar, isAgg, run_underlying Try.underlying3, h]
theorem one70 : OneT 70 := fun w g o v h => by simp [loadVar, isAgg, run_underlying Try.underlying70, h]
theorem one72 : OneT 72 := fun w g o v h => by simp [loadVar, isAgg, run_underlying Try.underlying72, h]
theorem one73 : OneT 73 := fun w g o v h => by simp [loadVar, isAgg, run_underlying Try.underlying73, h]
theorem one74 : OneT 74 := fun w g o v h => by simp [loadVar, isAgg, run_underlying Try.underlying74, h]
theorem f76_3 : FieldAt 76 3 3 := fun w g off => by kernel_rfl
theorem f76_4 : FieldAt 76 4 4 := fun w g off => by kernel_rfl
section
variable {w : World} {ops : Array Oper} {rest : List Oper} {o : Oper} {a : Act} {Q : Exit → Act → World → Prop}
theorem wpList_load1 {t : Nat} (ht : OneT t) (x : Operand) (hgd : o.guard = none) (ho : o.op = .load t x) (g off : Nat) (hx : a.eval x = .pointer (some ⟨g, off, none⟩)) (v : Value) (hc : w.cell? ⟨g, off, none⟩ = some v)
    (h : wpList Try.prog ops Q rest (a.put o.dst v) w) : wpList Try.prog ops Q (o :: rest) a w :=
  wpList_value hgd _ w (by simp [execOp, ho, hx, Instr.loadAt, Instr.sureAddr, ht w g off v hc]) h
theorem wpList_lookMapOk' {α : Type} {E : Elem α} {b n : Nat} {f : Nat → Option α} (h : MapAt E w b n f) (m x : Operand) (t e : TypeId) (hgd : o.guard = none) (ho : o.op = .lookup t m x true) (ht : Try.prog.underlying t = some (.map 3 e)) (z : α) (hz : (zeroValue e).run Try.prog w = .ok (E.enc z) w) (hzo : E.ok z)
    (p : Nat) (hp : p < 4611686018427387904) (hm : a.eval m = .map (some b)) (hx : a.eval x = .int .i64 (p : Int)) (u : Value) (y : Bool) (hu : E.enc ((f p).getD z) = u) (hy : (f p).isSome = y) (hK : wpList Try.prog ops Q rest (a.put o.dst (.tuple #[u, .bool y])) w) : wpList Try.prog ops Q (o :: rest) a w := by
  subst hu hy
  exact wpList_lookMapOk h m x t e hgd ho ht z hz hzo p hp hm hx hK
end
theorem wrCells_length (x : Wr) (h : x.b.length = 64) : (wrCells x).length = 66 := by simp [wrCells, bcells_length, h]
theorem wcells_length (l : List Wr) (h : ∀ x ∈ l, x.b.length = 64) : (wcells l).length = l.length * 66 := by
  induction l with
  | nil => rfl
  | cons x l ih =>
    have := ih (fun y hy => h y (by simp [hy]))
    simp only [wcells, List.flatMap_cons, List.length_append, List.length_cons] at *
    rw [this, wrCells_length x (h x (by simp))]
    omega
/-- the cells of the j-th write -/
theorem wcells_at (l : List Wr) (h : ∀ x ∈ l, x.b.length = 64) (j i : Nat) (x : Wr) (hj : l[j]? = some x) (hi : i < 66) : (wcells l)[j * 66 + i]? = (wrCells x)[i]? := by
  induction l generalizing j with
  | nil => simp at hj
  | cons y l ih =>
    have hy := wrCells_length y (h y (by simp))
    unfold wcells at *
    rw [List.flatMap_cons]
    cases j with
    | zero =>
      simp at hj
      subst hj
      rw [List.getElem?_append_left (by omega)]
      simp
    | succ j =>
      rw [List.getElem?_append_right (by omega), hy, show (j + 1) * 66 + i - 66 = j * 66 + i by omega]
      exact ih (fun z hz => h z (by simp [hz])) j (by simpa using hj)
theorem ok0 : ints.ok 0 := (by decide : (Lit.int .i64 0).wf = true)
/-- the writes that wait, as cells of a block -/
theorem WtIn.cells {w : World} {c : Nat → Colour} {k : Colour} {v : Value} {wt : List Wr} (h : WtIn w c k v wt) (hw : ∀ x ∈ wt, x.b.length = 64) (hne : wt ≠ []) :
    ∃ b cap, v = .slice (some ⟨b, 0, none⟩) wt.length cap ∧ c b = k ∧ ∀ j x, wt[j]? = some x → ∀ i u, (wrCells x)[i]? = some u → w.cell? ⟨b, j * 66 + i, none⟩ = some u := by
  obtain ⟨⟨hl, h1⟩, h2⟩ := h
  rcases h1 with ⟨rfl, hn⟩ | ⟨g, cap, cur, rfl, h0, hg, hc1, hc2, hc3, hc4⟩
  · exact absurd (List.length_eq_zero_iff.1 hn) hne
  · refine ⟨g, cap, rfl, h2 g rfl, fun j x hj i u hu => ?_⟩
    have hjl : j < wt.length := (List.getElem?_eq_some_iff.1 hj).1
    have hx := wrCells_length x (hw x (List.mem_of_getElem? hj))
    have hi : i < 66 := by have := (List.getElem?_eq_some_iff.1 hu).1; omega
    have e : (wcells wt)[j * 66 + i]? = some u := by rw [wcells_at wt hw j i x hj hi]; exact hu
    rw [← hc4] at e
    rw [List.getElem?_take] at e
    split at e
    · simp [World.cell?, hg]
      simpa using e
    · cases e

set_option maxHeartbeats 1000000 in
set_option maxRecDepth 100000 in
theorem read_any {w : World} {c : Nat → Colour} {k : Colour} {g : Nat} {tape : Bool} {size : Nat} {fl : List (List Nat)} {wt : List Wr} (h : DevIn w c k g tape size fl wt) (p : Nat) (hp : p < 4096) (hwt : ∀ x ∈ wt, x.b.length = 64) (hfl : p < fl.length ∨ (lastIdx wt p).isSome = true) (hfs : ∀ s ∈ fl, s.length = 64) (s : List Nat) (hs : (lastAt wt p).getD (fl.getD p zeros) = s) :
    Calls Try.prog 49 #[ptr g, .int .i64 (p : Int)] w fun e w' => e = .returned (secV s) ∧ Below w.heap.size w w' := by
  go_enter Try.func49, Try.ntmps49
  go_upto_region 0 with fail
  refine wp_region_lit ?_
  refine wpList_alloc' (zerosU8 64) zero84 rfl rfl ?_
  intro w1 r1 s1 b1
  refine wpList_nil ?_
  obtain ⟨q, hq⟩ : ∃ q, q = w.heap.size := ⟨_, rfl⟩
  rw [← hq] at r1 s1 b1 ⊢
  have h1 : DevIn w1 c k g tape size fl wt := h.kept fun b hb hk => ⟨b1.block b (by omega), hk⟩
  obtain ⟨bm, bl, v, hr, _, _, _, _, ⟨f, n, hm, hff, hft⟩, hwi, ⟨nl, hl⟩⟩ := h1
  have c2 := hr.at 2 _ rfl
  have c3 := hr.at 3 _ rfl
  have c4 := hr.at 4 _ rfl
  have HB : Hid (Below q w w1) := b1
  have HQ : Hid (q = w.heap.size) := hq
  have HS : Hid (w1.heap.size = q + 1) := s1
  clear h hft b1 hq s1
  cases hi : lastIdx wt p with
  | none =>
    have hpl : p < fl.length := by rw [hi] at hfl; simpa using hfl
    have hla : lastAt wt p = none := by simp [lastAt, hi]
    rw [hla, Option.getD_none] at hs
    have hv : (f p).getD (List.replicate 64 0) = fl.getD p zeros := hff p hpl
    have hlen : ((fl.getD p zeros).map fun c : Nat => c).length = 64 := by
      simp only [List.length_map]
      rw [List.getD_eq_getElem?_getD, List.getElem?_eq_getElem hpl]
      exact hfs _ (List.getElem_mem hpl)
    simp only [List.length_map] at hlen
    rw [hs] at hlen hv
    clear hwi hff hfl hr hs
    go_upto_region 4 with (at_lookup; refine wpList_lookMapOk' hl _ _ 74 3 rfl rfl Try.underlying74 (0 : Int) (zeroInt _) ok0 p (by omega) rfl rfl (.int .i64 0) false (by rw [hi]; rfl) (by rw [hi]; rfl) ?_)
    refine wp_region_lit ?_
    refine wpList_move (.tmp 0) rfl rfl _ rfl ?_
    simp only [Act.put, List.setIfInBounds_toArray, List.set_cons_succ, List.set_cons_zero]
    refine wpList_nilCheck (.tmp 25) rfl rfl _ rfl ?_
    simp only [Act.put, List.setIfInBounds_toArray, List.set_cons_succ, List.set_cons_zero]
    refine wpList_field f76_2 (.tmp 26) rfl rfl g 0 rfl ?_
    simp only [Act.put, List.setIfInBounds_toArray, List.set_cons_succ, List.set_cons_zero]
    refine wpList_load1 (by first | exact one72 | exact one73 | exact one74 | exact one67) (.tmp 27) rfl rfl g (0 + 2) rfl _ c2 ?_
    simp only [Act.put, List.setIfInBounds_toArray, List.set_cons_succ, List.set_cons_zero]
    refine wpList_move (.tmp 1) rfl rfl _ rfl ?_
    simp only [Act.put, List.setIfInBounds_toArray, List.set_cons_succ, List.set_cons_zero]
    refine wpList_lookMap hm (.tmp 28) (.tmp 29) 72 84 rfl rfl Try.underlying72 (List.replicate 64 0) (zeroSec _) sec_zero p (by omega) rfl rfl ?_
    simp only [Act.put, List.setIfInBounds_toArray, List.set_cons_succ, List.set_cons_zero]
    rw [hv]
    refine wpList_store0 agg84 (.tmp 4) (.tmp 30) rfl rfl rfl q 0 84 rfl (bcells s) (zerosU8 64) rfl (by rw [bcells_length, hlen]) r1 (by rw [bcells_length, hlen]; simp [zerosU8]) (bcells_one _) ?_
    refine wpList_nil ?_
    have r2 := r1.setRow (bcells s)
    rw [splice_all _ _ (by rw [bcells_length, hlen]; simp [zerosU8])]
    have HB2 : Hid (Below w.heap.size w (w1.setRow q (bcells s).toArray)) := by
      rw [← HQ.out]
      exact HB.out.trans ⟨rfl, rfl, rfl, by simp [World.setRow], fun k hk => Go.setRow_other w1 _ k _ (by omega)⟩
    go_wp2
    exact bodyPost_ret (results_cell agg84 Try.results49 _ _ q 84 rfl _ (by rw [bcells_length, hlen]) r2) rfl ⟨rfl, HB2.out⟩
  | some j =>
    have hjl := lastIdx_lt hi
    obtain ⟨x, hx⟩ : ∃ x, wt[j]? = some x := ⟨_, List.getElem?_eq_getElem hjl⟩
    have hla : lastAt wt p = some x.b := by simp [lastAt, hi, hx]
    have hlen : x.b.length = 64 := hwt x (List.mem_of_getElem? hx)
    rw [hla, Option.getD_some] at hs
    obtain ⟨b, cap, rfl, _, hc⟩ := hwi.cells hwt (by rintro rfl; simp at hjl)
    have hcx : ∀ i u, (bcells x.b)[i]? = some u → w1.cell? ⟨b, 0 + j * 66 + 2 + i, none⟩ = some u := by
      intro i u hu
      have := hc j x hx (i + 2) u (by simpa [wrCells] using hu)
      rw [show 0 + j * 66 + 2 + i = j * 66 + (i + 2) by omega]
      exact this
    rw [hs] at hlen hcx
    clear hwi hff hfl hc hm hs
    generalize wt.length = L at *
    go_upto_region 3 with (at_lookup; refine wpList_lookMapOk' hl _ _ 74 3 rfl rfl Try.underlying74 (0 : Int) (zeroInt _) ok0 p (by omega) rfl rfl (.int .i64 (j : Int)) true (by rw [hi]; rfl) (by rw [hi]; rfl) ?_)
    refine wp_region_lit ?_
    refine wpList_move (.tmp 0) rfl rfl _ rfl ?_
    simp only [Act.put, List.setIfInBounds_toArray, List.set_cons_succ, List.set_cons_zero]
    refine wpList_nilCheck (.tmp 17) rfl rfl _ rfl ?_
    simp only [Act.put, List.setIfInBounds_toArray, List.set_cons_succ, List.set_cons_zero]
    refine wpList_field f76_3 (.tmp 18) rfl rfl g 0 rfl ?_
    simp only [Act.put, List.setIfInBounds_toArray, List.set_cons_succ, List.set_cons_zero]
    refine wpList_load1 (by first | exact one72 | exact one73 | exact one74 | exact one67) (.tmp 19) rfl rfl g (0 + 3) rfl _ c3 ?_
    simp only [Act.put, List.setIfInBounds_toArray, List.set_cons_succ, List.set_cons_zero]
    refine wpList_move (.tmp 5) rfl rfl _ rfl ?_
    simp only [Act.put, List.setIfInBounds_toArray, List.set_cons_succ, List.set_cons_zero]
    refine wpList_indexAddr und73 size87 (.tmp 20) (.tmp 21) rfl rfl b 0 L cap j rfl rfl hjl ?_
    simp only [Act.put, List.setIfInBounds_toArray, List.set_cons_succ, List.set_cons_zero]
    refine wpList_field f87_2 (.tmp 22) rfl rfl b (0 + j * 66) rfl ?_
    simp only [Act.put, List.setIfInBounds_toArray, List.set_cons_succ, List.set_cons_zero]
    refine wpList_load agg84 (.tmp 23) rfl rfl b (0 + j * 66 + 2) rfl (bcells s) (by rw [bcells_length, hlen]) hcx ?_
    simp only [Act.put, List.setIfInBounds_toArray, List.set_cons_succ, List.set_cons_zero]
    refine wpList_store0 agg84 (.tmp 4) (.tmp 24) rfl rfl rfl q 0 84 rfl (bcells s) (zerosU8 64) rfl (by rw [bcells_length, hlen]) r1 (by rw [bcells_length, hlen]; simp [zerosU8]) (bcells_one _) ?_
    refine wpList_nil ?_
    have r2 := r1.setRow (bcells s)
    rw [splice_all _ _ (by rw [bcells_length, hlen]; simp [zerosU8])]
    have HB2 : Hid (Below w.heap.size w (w1.setRow q (bcells s).toArray)) := by
      rw [← HQ.out]
      exact HB.out.trans ⟨rfl, rfl, rfl, by simp [World.setRow], fun k hk => Go.setRow_other w1 _ k _ (by omega)⟩
    go_wp2
    exact bodyPost_ret (results_cell agg84 Try.results49 _ _ q 84 rfl _ (by rw [bcells_length, hlen]) r2) rfl ⟨rfl, HB2.out⟩
end Go.Proofs.Ytgkmegcejekbcaa

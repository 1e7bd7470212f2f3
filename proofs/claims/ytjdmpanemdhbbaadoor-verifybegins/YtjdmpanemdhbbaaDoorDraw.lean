/- What the walks of drawn regions want besides: operations that are not wanted, comparisons whose answer is known, literals, two that may come up. -/
import Derived.Test.YtjdmpanemdhbbaaDoorVIncl
namespace Go.Proofs.YtjdmpanemdhbbaaDoor
open Go.RowKit

section
variable {ops : Array Oper} {Q : Exit → Act → World → Prop} {a : Act} {w : World} {S : World → Prop} {o : Oper} {listed : Array Bool} {fuel : Nat}
theorem yRunW (hw : Region.wanted o (yielded ops a.tmps) = true) (v : Value) (hr : ∀ w, S w → (execOp a.eval o).run Tryd.prog w = .ok (.value v) w) : YieldsIf Tryd.prog ops S o v a := Or.inl ⟨hw, hr⟩
theorem yOff (hw : Region.wanted o (yielded ops a.tmps) = false) : YieldsIf Tryd.prog ops S o undef a := Or.inr ⟨hw, rfl⟩
theorem yMoveW (hw : Region.wanted o (yielded ops a.tmps) = true) (x : Operand) (ho : o.op = .move x) (v : Value) (hv : a.eval x = v) : YieldsIf Tryd.prog ops S o v a :=
  yRunW hw v fun w _ => by simp [execOp, ho, hv]
theorem yPickW (hw : Region.wanted o (yielded ops a.tmps) = true) (c x y : Operand) (ho : o.op = .pick c x y) (hc : a.eval c = .bool true) (v : Value) (hx : a.eval x = v) : YieldsIf Tryd.prog ops S o v a :=
  yRunW hw v fun w _ => by simp [execOp, ho, hc, hx, asBool]
theorem yPickF (hw : Region.wanted o (yielded ops a.tmps) = true) (c x y : Operand) (ho : o.op = .pick c x y) (hc : a.eval c = .bool false) (v : Value) (hy : a.eval y = v) : YieldsIf Tryd.prog ops S o v a :=
  yRunW hw v fun w _ => by simp [execOp, ho, hc, hy, asBool]
theorem yNotW (hw : Region.wanted o (yielded ops a.tmps) = true) (x : Operand) (ho : o.op = .unOp .not 4 x) (b : Bool) (hx : a.eval x = .bool b) : YieldsIf Tryd.prog ops S o (.bool (!b)) a :=
  yRunW hw _ fun w _ => by
    simp only [execOp, ho, hx]
    simp [go_sem]
theorem yEqI {t : Nat} (hw : Region.wanted o (yielded ops a.tmps) = true) (x y : Operand) (ho : o.op = .binOp .eql t x y t) (z z' : Int) (hx : a.eval x = .int .i64 z) (hy : a.eval y = .int .i64 z') (b : Bool) (hb : decide (z = z') = b) : YieldsIf Tryd.prog ops S o (.bool b) a :=
  yRunW hw _ fun w _ => by
    subst hb
    simp only [execOp, ho, hx, hy]
    by_cases h : z = z'
    · subst h; simp [go_sem]
    · simp [go_sem, h]
theorem yNeI {t : Nat} (hw : Region.wanted o (yielded ops a.tmps) = true) (x y : Operand) (ho : o.op = .binOp .neq t x y t) (z z' : Int) (hx : a.eval x = .int .i64 z) (hy : a.eval y = .int .i64 z') (b : Bool) (hb : (!decide (z = z')) = b) : YieldsIf Tryd.prog ops S o (.bool b) a :=
  yRunW hw _ fun w _ => by
    subst hb
    simp only [execOp, ho, hx, hy]
    by_cases h : z = z'
    · subst h; simp [go_sem]
    · simp [go_sem, h]
theorem yGtrI (hw : Region.wanted o (yielded ops a.tmps) = true) (x y : Operand) (ho : o.op = .binOp .gtr 3 x y 3) (z z' : Int) (hx : a.eval x = .int .i64 z) (hy : a.eval y = .int .i64 z') (b : Bool) (hb : decide (z' < z) = b) : YieldsIf Tryd.prog ops S o (.bool b) a :=
  yRunW hw _ fun w _ => by
    subst hb
    simp only [execOp, ho, hx, hy]
    by_cases h : z' < z
    · simp [go_sem, h]
    · simp [go_sem, h]
theorem yLen (hw : Region.wanted o (yielded ops a.tmps) = true) (x : Operand) (ho : o.op = .call { callee := .builtin .len, args := #[x], argTypes := #[24] }) (v : Value) (hs : List (List Nat)) (hx : a.eval x = v) (w0 : World) (hin : HIn w0 v hs) (N : Nat) (hN : hs.length = N) : YieldsIf Tryd.prog ops S o (.int .i64 (N : Nat)) a :=
  yRunW hw _ fun w _ => by rw [← hN]; exact rx_len x ho v hs hx hin
theorem rx_eqB (x y : Operand) (ho : o.op = .binOp .eql 23 x y 23) (h h' : List Nat) (hh : IsH h) (hh' : IsH h') (hx : a.eval x = hv h) (hy : a.eval y = hv h') (b : Bool) (hb : decide (h = h') = b) : (execOp a.eval o).run Tryd.prog w = .ok (.value (.bool b)) w := by
  rw [← hb]
  exact rx_eq x y ho h h' hh hh' hx hy
theorem rx_neB (x y : Operand) (ho : o.op = .binOp .neq 23 x y 23) (h h' : List Nat) (hh : IsH h) (hh' : IsH h') (hx : a.eval x = hv h) (hy : a.eval y = hv h') (b : Bool) (hb : decide (h = h') = b) : (execOp a.eval o).run Tryd.prog w = .ok (.value (.bool (!b))) w := by
  rw [← hb]
  exact rx_ne x y ho h h' hh hh' hx hy
theorem rx_pred (x y : Operand) (ho : o.op = .binOp .sub 3 x y 3) (N : Nat) (hx : a.eval x = .int .i64 ((N + 1 : Nat) : Int)) (hy : a.eval y = .int .i64 1) (hm : N + 1 ≤ 9223372036854775807) : (execOp a.eval o).run Tryd.prog w = .ok (.value (.int .i64 (N : Nat))) w := by
  have := rx_minus (w := w) x y ho (N + 1) 1 hx hy (by omega) hm
  exact this
theorem opCallW {i : Nat} (d : Option Tmp) {K : Act → World → Prop} (hi : ops[i]? = some o) (hd : o.dst = d) (hw : Region.wanted o (yielded ops a.tmps) = true) (f : Nat) (args : Array Value) (hrun : (execOp a.eval o).run Tryd.prog w = .ok (.enter f args) w) (h : Calls Tryd.prog f args w fun e w' => ∃ v, e = .returned v ∧ K (a.put d v) w') : wpOp Tryd.prog ops Q i K a w := by
  subst hd
  unfold wpOp
  simp only [hi, hw, if_true, Oper.wp, hrun, Oper.upon]
  refine .inl (Calls.mono h fun e w' he => ?_)
  obtain ⟨v, rfl, hK⟩ := he
  exact hK
theorem opValW {i : Nat} (d : Option Tmp) {K : Act → World → Prop} (hi : ops[i]? = some o) (hd : o.dst = d) (hw : Region.wanted o (yielded ops a.tmps) = true) (v : Value) (w' : World) (hrun : (execOp a.eval o).run Tryd.prog w = .ok (.value v) w') (h : K (a.put d v) w') : wpOp Tryd.prog ops Q i K a w := by
  subst hd
  unfold wpOp
  simp only [hi, hw, if_true, Oper.wp, hrun, Oper.upon]
  exact .inl h
theorem twoH {i j : Nat} (hr : Region.ready .any ops listed = [i, j]) (hi : wpOp Tryd.prog ops Q i (fun a' w' => S w' ∧ wpAnyH Tryd.prog .any ops Q S fuel (listed.setIfInBounds i true) a' w') a w)
    (hj : wpOp Tryd.prog ops Q j (fun a' w' => S w' ∧ wpAnyH Tryd.prog .any ops Q S fuel (listed.setIfInBounds j true) a' w') a w) : wpAnyH Tryd.prog .any ops Q S (fuel + 1) listed a w :=
  wpAnyH_all (rs := [i, j]) hr (by simp) fun k hk => by
    rcases List.mem_cons.1 hk with rfl | hk
    · exact hi
    · obtain rfl := List.mem_singleton.1 hk
      exact hj
theorem AllH.two {x y : List Nat} (hx : IsH x) (hy : IsH y) : AllH [x, y] := fun z hz => by
  rcases List.mem_cons.1 hz with rfl | hz
  · exact hx
  · rw [List.mem_singleton.1 hz]; exact hy
theorem AllH.three {x y z : List Nat} (hx : IsH x) (hy : IsH y) (hz : IsH z) : AllH [x, y, z] := fun u hu => by
  rcases List.mem_cons.1 hu with rfl | hu
  · exact hx
  · exact AllH.two hy hz u hu
theorem opLit1 {i : Nat} (d : Option Tmp) {K : Act → World → Prop} (hi : ops[i]? = some o) (hd : o.dst = d) (hw : Region.wanted o (yielded ops a.tmps) = true) (x : Operand) (ho : o.op = .buildSlice 24 1 #[(0, x)]) (h1 : List Nat) (i1 : IsH h1) (hx : a.eval x = hv h1)
    (h : ∀ v' w', HIn w' v' [h1] → Below w.heap.size w w' → K (a.put d v') w') : wpOp Tryd.prog ops Q i K a w :=
  opValW d hi hd hw _ _ (rx_lit1 x ho h1 i1 hx) (h _ _ (hlit_own w w.heap.size (Nat.le_refl _) [h1] (AllH.one i1) (by simp)).hin (below_alloc w _))
theorem opLit2 {i : Nat} (d : Option Tmp) {K : Act → World → Prop} (hi : ops[i]? = some o) (hd : o.dst = d) (hw : Region.wanted o (yielded ops a.tmps) = true) (x y : Operand) (ho : o.op = .buildSlice 24 2 #[(0, x), (1, y)]) (h1 h2 : List Nat) (i1 : IsH h1) (i2 : IsH h2) (hx : a.eval x = hv h1) (hy : a.eval y = hv h2)
    (h : ∀ v' w', HIn w' v' [h1, h2] → Below w.heap.size w w' → K (a.put d v') w') : wpOp Tryd.prog ops Q i K a w := by
  have hr : (Instr.buildSlice 24 2 #[(0, hv h1), (1, hv h2)]).run Tryd.prog w = .ok (.slice (some ⟨w.heap.size, 0, none⟩) 2 2) (w.alloc (.cells (bcells [h1, h2].flatten).toArray 23)) := run_hlit [h1, h2] (AllH.two i1 i2) (by simp) (by simp) #[(0, hv h1), (1, hv h2)] rfl w
  exact opValW d hi hd hw (.slice (some ⟨w.heap.size, 0, none⟩) 2 2) (w.alloc (.cells (bcells [h1, h2].flatten).toArray 23)) (by simp only [execOp, ho, List.map_toArray, List.map_cons, List.map_nil, hx, hy, hr, Sem.run_bind, Sem.run_pure, Result.andThen_ok]) (h _ _ (hlit_own w w.heap.size (Nat.le_refl _) [h1, h2] (AllH.two i1 i2) (by simp)).hin (below_alloc w _))
theorem opLit3 {i : Nat} (d : Option Tmp) {K : Act → World → Prop} (hi : ops[i]? = some o) (hd : o.dst = d) (hw : Region.wanted o (yielded ops a.tmps) = true) (x y z : Operand) (ho : o.op = .buildSlice 24 3 #[(0, x), (1, y), (2, z)]) (h1 h2 h3 : List Nat) (i1 : IsH h1) (i2 : IsH h2) (i3 : IsH h3) (hx : a.eval x = hv h1) (hy : a.eval y = hv h2) (hz : a.eval z = hv h3)
    (h : ∀ v' w', HIn w' v' [h1, h2, h3] → Below w.heap.size w w' → K (a.put d v') w') : wpOp Tryd.prog ops Q i K a w := by
  have hr : (Instr.buildSlice 24 3 #[(0, hv h1), (1, hv h2), (2, hv h3)]).run Tryd.prog w = .ok (.slice (some ⟨w.heap.size, 0, none⟩) 3 3) (w.alloc (.cells (bcells [h1, h2, h3].flatten).toArray 23)) := run_hlit [h1, h2, h3] (AllH.three i1 i2 i3) (by simp) (by simp) #[(0, hv h1), (1, hv h2), (2, hv h3)] rfl w
  exact opValW d hi hd hw (.slice (some ⟨w.heap.size, 0, none⟩) 3 3) (w.alloc (.cells (bcells [h1, h2, h3].flatten).toArray 23)) (by simp only [execOp, ho, List.map_toArray, List.map_cons, List.map_nil, hx, hy, hz, hr, Sem.run_bind, Sem.run_pure, Result.andThen_ok]) (h _ _ (hlit_own w w.heap.size (Nat.le_refl _) [h1, h2, h3] (AllH.three i1 i2 i3) (by simp)).hin (below_alloc w _))
end
theorem en10 : EntersF 10 := enters Tryd.func10 (by kernel_rfl) (by kernel_rfl)
theorem en13' : EntersF 13 := enters Tryd.func13 (by kernel_rfl) (by kernel_rfl)
theorem en16' : EntersF 16 := enters Tryd.func16 (by kernel_rfl) (by kernel_rfl)
theorem en19' : EntersF 19 := enters Tryd.func19 (by kernel_rfl) (by kernel_rfl)
theorem en20' : EntersF 20 := enters Tryd.func20 (by kernel_rfl) (by kernel_rfl)
theorem en21' : EntersF 21 := enters Tryd.func21 (by kernel_rfl) (by kernel_rfl)
theorem en36' : EntersF 36 := enters Tryd.func36 (by kernel_rfl) (by kernel_rfl)
theorem en38' : EntersF 38 := enters Tryd.func38 (by kernel_rfl) (by kernel_rfl)
theorem en39' : EntersF 39 := enters Tryd.func39 (by kernel_rfl) (by kernel_rfl)
end Go.Proofs.YtjdmpanemdhbbaaDoor

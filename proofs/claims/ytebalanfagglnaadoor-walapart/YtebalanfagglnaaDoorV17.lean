/- Regions that draw their order, taken by hand: what is pure comes first, then the calls, which wait for one another. -/
import Derived.Test.YtebalanfagglnaaDoorV16
import Derived.OrdersHeld
namespace Go.Proofs.YtebalanfagglnaaDoor.Fr
open Go.RowKit

section
variable {ops : Array Oper} {Q : Exit → Act → World → Prop} {a : Act} {w : World} {listed : Array Bool} {fuel : Nat} {S : World → Prop} {o : Oper}
theorem takeH {i : Nat} (d : Option Tmp) {oi : Oper} {v : Value} (hi : ops[i]? = some oi) (hd : oi.dst = d)
    (hs : Region.noSelect ops = true) (hf : Region.free .any ops listed i = true) (hr : (Region.ready .any ops listed).contains i = true)
    (hQ : ∀ c a w, Q (.panic c) (a.put d v) w → Q (.panic c) a w) (hy : YieldsIf Tryd.prog ops S oi v a) (hS : S w)
    (h : wpAnyH Tryd.prog .any ops Q S fuel (listed.setIfInBounds i true) (a.put d v) w) : wpAnyH Tryd.prog .any ops Q S (fuel + 1) listed a w := by
  subst hd
  exact wpAnyH_take hi hs hf hr hQ hy hS h
theorem oneH {i : Nat} (hr : Region.ready .any ops listed = [i]) (h : wpOp Tryd.prog ops Q i (fun a' w' => S w' ∧ wpAnyH Tryd.prog .any ops Q S fuel (listed.setIfInBounds i true) a' w') a w) : wpAnyH Tryd.prog .any ops Q S (fuel + 1) listed a w :=
  wpAnyH_all (rs := [i]) hr (by simp) fun j hj => by obtain rfl := List.mem_singleton.1 hj; exact h
theorem opCallA {i : Nat} (d : Option Tmp) {K : Act → World → Prop} (hi : ops[i]? = some o) (hd : o.dst = d) (hgd : o.guard = none) (f : Nat) (args : Array Value) (hrun : (execOp a.eval o).run Tryd.prog w = .ok (.enter f args) w) (h : Calls Tryd.prog f args w fun e w' => ∃ v, e = .returned v ∧ K (a.put d v) w') : wpOp Tryd.prog ops Q i K a w := by
  subst hd
  unfold wpOp
  have hw : Region.wanted o (yielded ops a.tmps) = true := by simp [Region.wanted, hgd]
  simp only [hi, hw, if_true, Oper.wp, hrun, Oper.upon]
  refine .inl (Calls.mono h fun e w' he => ?_)
  obtain ⟨v, rfl, hK⟩ := he
  exact hK
theorem yRun (hgd : o.guard = none) (v : Value) (hr : ∀ w, S w → (execOp a.eval o).run Tryd.prog w = .ok (.value v) w) : YieldsIf Tryd.prog ops S o v a :=
  Or.inl ⟨by simp [Region.wanted, hgd], hr⟩
theorem yMove (hgd : o.guard = none) (x : Operand) (ho : o.op = .move x) (v : Value) (hv : a.eval x = v) : YieldsIf Tryd.prog ops S o v a :=
  yRun hgd v fun w _ => by simp [execOp, ho, hv]
theorem yAssign (hgd : o.guard = none) (x : Operand) (ho : o.op = .assign x) (v : Value) (hv : a.eval x = v) : YieldsIf Tryd.prog ops S o v a :=
  yRun hgd v fun w _ => by simp [execOp, ho, hv]
theorem ySub (hgd : o.guard = none) (x : Operand) (lo hi mx : Option Operand) (ho : o.op = .slice 50 x lo hi mx) (v v' : Value) (hx : a.eval x = v) (hr : ∀ w', (Instr.slice 50 v (lo.map a.eval) (hi.map a.eval) (mx.map a.eval)).run Tryd.prog w' = .ok v' w') : YieldsIf Tryd.prog ops S o v' a :=
  yRun hgd v' fun w _ => by
    have hu' : Tryd.prog.underlying 50 = some (.slice (Tryd.prog.elem 50)) := by rw [elem22]; exact Tryd.underlying50
    simp [execOp, ho, hx, run_sliceAt_slice _ _ _ _ _ _ hu', hr]
theorem yIndex (hgd : o.guard = none) (x i : Operand) (ho : o.op = .indexAddr 50 x i) (v : Value) (hx : a.eval x = v) (I : Value) (hi : a.eval i = I) (p : Value) (hr : ∀ w', (Instr.indexAt 50 v I).run Tryd.prog w' = .ok p w') : YieldsIf Tryd.prog ops S o p a :=
  yRun hgd p fun w _ => by simp only [execOp, ho, hx, hi, hr, Sem.run_bind, Sem.run_pure, Result.andThen_ok]
theorem yLoad (hgd : o.guard = none) (x : Operand) (ho : o.op = .load 5 x) (b j : Nat) (hx : a.eval x = .pointer (some ⟨b, j, none⟩)) (c : Nat) (hc : ∀ w, S w → w.cell? ⟨b, j, none⟩ = some (.int .u8 (c : Nat))) : YieldsIf Tryd.prog ops S o (.int .u8 (c : Nat)) a :=
  yRun hgd _ fun w hS => by
    have := hc w hS
    have hr : (Instr.loadAt 5 (.pointer (some ⟨b, j, none⟩))).run Tryd.prog w = .ok (.int .u8 (c : Nat)) w := by simp [Instr.loadAt, Instr.sureAddr, go_sem, this]
    simp only [execOp, ho, hx, hr, Sem.run_bind, Sem.run_pure, Result.andThen_ok]
theorem run_index {v : Value} {cs : List Nat} (hin : SliceIn w v cs) (k : Nat) (hk : k < cs.length) : ∃ b j, (∀ w', (Instr.indexAt 50 v (.int .i64 (k : Nat))).run Tryd.prog w' = .ok (.pointer (some ⟨b, j, none⟩)) w') ∧ w.cell? ⟨b, j, none⟩ = some (.int .u8 (cs.getD k 0 : Nat)) := by
  obtain ⟨p, cap, rfl, hl, hin⟩ := hin
  rcases hin with rfl | ⟨b, off, rfl, hc, _⟩
  · simp at hk
  obtain ⟨i5, hi5, hsz⟩ := Option.map_eq_some_iff.1 size5
  exact ⟨b, off + k, fun w' => by simp [Instr.indexAt, asIntOf, run_underlying Tryd.underlying50, hk, sizeOf, typeInfo, hi5, hsz, add_none], hc k hk⟩
theorem yConv (hgd : o.guard = none) (x : Operand) (ho : o.op = .convert 140 61 x) (s : Nat) (hs : s < 4294967296) (hx : a.eval x = .int .u32 (s : Nat)) : YieldsIf Tryd.prog ops S o (.int .u64 (s : Nat)) a :=
  yRun hgd _ fun w _ => by
    have hr : (convert 140 61 (.int .u32 (s : Nat))).run Tryd.prog w = .ok (.int .u64 (s : Nat)) w := by
      have e : IntKind.u64.wrap (s : Int) = (s : Int) := by rw [IntKind.wrap_u64]; omega
      simp [go_sem, e]
    simp only [execOp, ho, hx, hr, Sem.run_bind, Sem.run_pure, Result.andThen_ok]
theorem yNeq (hgd : o.guard = none) (x y : Operand) (ho : o.op = .binOp .neq 61 x y 61) (s t : Nat) (hx : a.eval x = .int .u64 (s : Nat)) (hy : a.eval y = .int .u64 (t : Nat)) : YieldsIf Tryd.prog ops S o (.bool ((s : Int) != (t : Int))) a :=
  yRun hgd _ fun w _ => by
    simp only [execOp, ho, hx, hy]
    simp [go_sem]
def EntersF (f : Nat) : Prop := ∀ args w, (callFunc f args).run Tryd.prog w = .ok (.enter f args) w
theorem enters {f : Nat} {fn : Func} (hf : Tryd.prog.funcs[f]? = some fn) (hn : (fn.name == "runtime.NumGoroutine") = false) (hb : fn.body.isNone = false) : EntersF f := by
  intro args w
  have h1 : fn.name ≠ "runtime.NumGoroutine" := by simpa using hn
  have hb' : fn.body ≠ none := by intro hn; rw [hn] at hb; cases hb
  simp [callFunc, hf, h1, hb', mark]
theorem en21 : EntersF 78 := enters Tryd.func78 (by kernel_rfl) (by kernel_rfl)
theorem en23 : EntersF 80 := enters Tryd.func80 (by kernel_rfl) (by kernel_rfl)
theorem en24 : EntersF 65 := enters Tryd.func65 (by kernel_rfl) (by kernel_rfl)
theorem run_call {f : Nat} (ef : EntersF f) (xs : List Operand) (ts : Array TypeId) (ho : o.op = .call { callee := .value (.func f), args := xs.toArray, argTypes := ts }) (vs : List Value) (hv : xs.map a.eval = vs) : (execOp a.eval o).run Tryd.prog w = .ok (.enter f vs.toArray) w := by
  subst hv
  have hen := ef (xs.map a.eval).toArray w
  simp [execOp, ho, resolve, BigFrame.eval_func, Deferred.ofValue, invoke, hen]
end
theorem results_tmp4 {fn : Func} {t u v x : Tmp} (h : fn.results = #[.tmp t, .tmp u, .tmp v, .tmp x]) (tmps : Array Value) (P : Program) (w : World) :
    (results fn tmps).run P w = .ok (.tuple #[tmps.getD t undef, tmps.getD u undef, tmps.getD v undef, tmps.getD x undef]) w := by
  simp [results, h]
theorem below_drawn (w : World) (n : Nat) : Below w.heap.size w { w with drawn := n } := ⟨rfl, rfl, rfl, Nat.le_refl _, fun _ _ => rfl⟩
theorem take_all_drop (cs : List Nat) (l : Nat) : (cs.take cs.length).drop l = cs.drop l := by rw [List.take_length]
end Go.Proofs.YtebalanfagglnaaDoor.Fr

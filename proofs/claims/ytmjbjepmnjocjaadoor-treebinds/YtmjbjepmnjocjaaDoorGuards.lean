/- Guarded operations in regions that draw their order. -/
import Derived.Test.YtmjbjepmnjocjaaDoorShownLaws
namespace Go.Proofs.YtmjbjepmnjocjaaDoor
open Go.RowKit

section
variable {ops : Array Oper} {Q : Exit → Act → World → Prop} {a : Act} {w : World} {S : World → Prop} {o : Oper}
theorem rx_same (x y : Operand) (ho : o.op = .binOp .eql 27 x y 27) (h : List Nat) (hh : IsH h) (hx : a.eval x = hv h) (hy : a.eval y = hv h) : (execOp a.eval o).run Tryd.prog w = .ok (.value (.bool true)) w := by
  have := rx_eq (w := w) x y ho h h hh hh hx hy
  rwa [decide_eq_true rfl] at this
theorem yRunW (hw : Region.wanted o (yielded ops a.tmps) = true) (v : Value) (hr : ∀ w, S w → (execOp a.eval o).run Tryd.prog w = .ok (.value v) w) : YieldsIf Tryd.prog ops S o v a := Or.inl ⟨hw, hr⟩
theorem yMoveW (hw : Region.wanted o (yielded ops a.tmps) = true) (x : Operand) (ho : o.op = .move x) (v : Value) (hv : a.eval x = v) : YieldsIf Tryd.prog ops S o v a :=
  yRunW hw v fun w _ => by simp [execOp, ho, hv]
theorem yPickW (hw : Region.wanted o (yielded ops a.tmps) = true) (c x y : Operand) (ho : o.op = .pick c x y) (hc : a.eval c = .bool true) (v : Value) (hx : a.eval x = v) : YieldsIf Tryd.prog ops S o v a :=
  yRunW hw v fun w _ => by simp [execOp, ho, hc, hx, asBool]
/-- the other arm -/
theorem yPickF (hw : Region.wanted o (yielded ops a.tmps) = true) (c x y : Operand) (ho : o.op = .pick c x y) (hc : a.eval c = .bool false) (v : Value) (hy : a.eval y = v) : YieldsIf Tryd.prog ops S o v a :=
  yRunW hw v fun w _ => by simp [execOp, ho, hc, hy, asBool]
theorem yIntEq {t : Nat} (hw : Region.wanted o (yielded ops a.tmps) = true) (x y : Operand) (ho : o.op = .binOp .eql t x y t) (k : IntKind) (z : Int) (hx : a.eval x = .int k z) (hy : a.eval y = .int k z) : YieldsIf Tryd.prog ops S o (.bool true) a :=
  yRunW hw _ fun w _ => by
    simp only [execOp, ho, hx, hy]
    simp [go_sem]
theorem yLen (hw : Region.wanted o (yielded ops a.tmps) = true) (x : Operand) (ho : o.op = .call { callee := .builtin .len, args := #[x], argTypes := #[24] }) (v : Value) (hs : List (List Nat)) (hx : a.eval x = v) (w0 : World) (hin : HIn w0 v hs) (N : Nat) (hN : hs.length = N) : YieldsIf Tryd.prog ops S o (.int .i64 (N : Nat)) a :=
  yRunW hw _ fun w _ => by rw [← hN]; exact rx_len x ho v hs hx hin
theorem yCellW (hw : Region.wanted o (yielded ops a.tmps) = true) (x : Operand) (ho : o.op = .load 5 x) (g i : Nat) (hx : a.eval x = .pointer (some ⟨g, i, none⟩)) (c : Int) (hc : ∀ w, S w → w.cell? ⟨g, i, none⟩ = some (.int .u8 c)) : YieldsIf Tryd.prog ops S o (.int .u8 c) a :=
  yRunW hw _ fun w hS => by
    have := hc w hS
    have hr : (Instr.loadAt 5 (.pointer (some ⟨g, i, none⟩))).run Tryd.prog w = .ok (.int .u8 c) w := by simp [Instr.loadAt, Instr.sureAddr, go_sem, this]
    simp only [execOp, ho, hx, hr, Sem.run_bind, Sem.run_pure, Result.andThen_ok]
theorem yAt27 (hw : Region.wanted o (yielded ops a.tmps) = true) (x i : Operand) (ho : o.op = .indexAddr 27 x i) (g k : Nat) (hk : k < 32) (hx : a.eval x = .pointer (some ⟨g, 0, none⟩)) (I : Int) (hi : a.eval i = .int .i64 I) (hI : I = (k : Int)) : YieldsIf Tryd.prog ops S o (.pointer (some ⟨g, k, none⟩)) a :=
  yRunW hw _ fun w _ => by
    subst hI
    obtain ⟨i5, hi5, hsz⟩ := Option.map_eq_some_iff.1 info5
    have hr : (Instr.indexAt 27 (.pointer (some ⟨g, 0, none⟩)) (.int .i64 (k : Nat))).run Tryd.prog w = .ok (.pointer (some ⟨g, k, none⟩)) w := by
      simp [Instr.indexAt, Instr.sureAddr, asIntOf, run_underlying Tryd.underlying27, hk, sizeOf, typeInfo, hi5, hsz, add_none]
    simp only [execOp, ho, hx, hi, hr, Sem.run_bind, Sem.run_pure, Result.andThen_ok]
theorem opCallW {i : Nat} (d : Option Tmp) {K : Act → World → Prop} (hi : ops[i]? = some o) (hd : o.dst = d) (hw : Region.wanted o (yielded ops a.tmps) = true) (f : Nat) (args : Array Value) (hrun : (execOp a.eval o).run Tryd.prog w = .ok (.enter f args) w) (h : Calls Tryd.prog f args w fun e w' => ∃ v, e = .returned v ∧ K (a.put d v) w') : wpOp Tryd.prog ops Q i K a w := by
  subst hd
  unfold wpOp
  simp only [hi, hw, if_true, Oper.wp, hrun, Oper.upon]
  refine .inl (Calls.mono h fun e w' he => ?_)
  obtain ⟨v, rfl, hK⟩ := he
  exact hK
end
theorem en22 : EntersF 22 := enters Tryd.func22 (by kernel_rfl) (by kernel_rfl)
theorem en23 : EntersF 23 := enters Tryd.func23 (by kernel_rfl) (by kernel_rfl)
end Go.Proofs.YtmjbjepmnjocjaaDoor

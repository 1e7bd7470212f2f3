/- Layer 14: room that was given up comes again. -/
import Derived.Test.YtofocpmpnjjnkaaDoorY41
namespace Go.Proofs.YtofocpmpnjjnkaaDoor
open Go.RowKit Go.Maps


def sliceLen : Value → Nat
  | .slice _ n _ => n
  | _ => 0
section
variable {ops : Array Oper} {Q : Exit → Act → World → Prop} {S : World → Prop} {fuel : Nat} {listed : Array Bool} {a : Act} {w : World}
theorem twoH {i j : Nat} (hr : Region.ready .any ops listed = [i, j]) (h : wpOp Tryd.prog ops Q i (fun a' w' => S w' ∧ wpAnyH Tryd.prog .any ops Q S fuel (listed.setIfInBounds i true) a' w') a w) (h' : wpOp Tryd.prog ops Q j (fun a' w' => S w' ∧ wpAnyH Tryd.prog .any ops Q S fuel (listed.setIfInBounds j true) a' w') a w) : wpAnyH Tryd.prog .any ops Q S (fuel + 1) listed a w :=
  wpAnyH_all (rs := [i, j]) hr (by simp) fun k hk => by
    rcases List.mem_cons.1 hk with rfl | hk
    · exact h
    · obtain rfl := List.mem_singleton.1 hk; exact h'
end
theorem run_neB {w : World} {a : Act} {o : Oper} (x y : Operand) (ho : o.op = .binOp .neq 4 x y 4) (b : Bool) (hx : a.eval x = .bool b) (hy : a.eval y = .bool b) : (execOp a.eval o).run Tryd.prog w = .ok (.value (.bool false)) w := by
  refine run_binOp' x y ho (.bool b) (.bool b) _ hx hy rfl ?_
  cases b <;> kernel_rfl
theorem run_lenPI {w w0 : World} {a : Act} {o : Oper} {v : Value} {ps : List Pq} {k : Nat} (h : PlO w0 v ps) (hk : ps.length = k) (x : Operand) (ho : o.op = .call { callee := .builtin .len, args := #[x], argTypes := #[43] }) (hx : a.eval x = v) : (execOp a.eval o).run Tryd.prog w = .ok (.value (.int .i64 (k : Nat))) w := by
  rw [← hk]
  exact run_lenPO h x ho hx
theorem appTy {w : World} (ty ty' : TypeId) (v vx : Value) : (Builtin.append_ #[43, 43] ty #[v, vx]).run Tryd.prog w = (Builtin.append_ #[43, 43] ty' #[v, vx]).run Tryd.prog w := rfl
end Go.Proofs.YtofocpmpnjjnkaaDoor

/- Layer 14: room that was given up comes again. -/
import Derived.Test.YthgidfoidbgnaaaDoorE39
namespace Go.Proofs.YthgidfoidbgnaaaDoor
open Go.RowKit Go.Maps


theorem row_ne {W : World} {a b T T' : Nat} {cs cs' : List Value} (h : Row W a T cs) (h' : Row W b T' cs') (hT : T ≠ T') : a ≠ b := by
 rintro rfl
 unfold Row at h h'
 rw [h] at h'
 injection h' with h'
 injection h' with _ h'
 exact hT h'
section
variable {ops : Array Oper} {Q : Exit → Act → World → Prop} {S : World → Prop} {fuel : Nat} {listed : Array Bool} {a : Act} {w : World}
theorem twoH {i j : Nat} (hr : Region.ready .any ops listed = [i, j]) (h : wpOp Tryd.prog ops Q i (fun a' w' => S w' ∧ wpAnyH Tryd.prog .any ops Q S fuel (listed.setIfInBounds i true) a' w') a w) (h' : wpOp Tryd.prog ops Q j (fun a' w' => S w' ∧ wpAnyH Tryd.prog .any ops Q S fuel (listed.setIfInBounds j true) a' w') a w) : wpAnyH Tryd.prog .any ops Q S (fuel + 1) listed a w :=
 wpAnyH_all (rs := [i, j]) hr (by simp) fun k hk => by
  rcases List.mem_cons.1 hk with rfl | hk
  ·exact h
  ·obtain rfl := List.mem_singleton.1 hk; exact h'
end
theorem run_lenPI {w w0 : World} {a : Act} {o : Oper} {v : Value} {ps : List Pq} {k : Nat} (h : PlO w0 v ps) (hk : ps.length = k) (x : Operand) (ho : o.op = .call { callee := .builtin .len, args := #[x], argTypes := #[43] }) (hx : a.eval x = v) : (execOp a.eval o).run Tryd.prog w = .ok (.value (.int .i64 (k : Nat))) w := by
 rw [← hk]
 exact run_lenPO h x ho hx
theorem appTy {w : World} (ty ty' : TypeId) (v vx : Value) : (Builtin.append_ #[43, 43] ty #[v, vx]).run Tryd.prog w = (Builtin.append_ #[43, 43] ty' #[v, vx]).run Tryd.prog w := rfl
end Go.Proofs.YthgidfoidbgnaaaDoor

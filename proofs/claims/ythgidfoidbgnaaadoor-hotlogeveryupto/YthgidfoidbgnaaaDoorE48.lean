/- Layer 14: the stand appends, the fuse being off. -/
import Derived.Test.YthgidfoidbgnaaaDoorE47
namespace Go.Proofs.YthgidfoidbgnaaaDoor
open Go.RowKit Go.Maps


section
variable {w W W' : World} {c : Nat → Colour} {gp gh gf gm gs gr n K ever ever' dims q B : Nat} {m : Pl} {us us2 : List (Nat × List Nat)} {vu vb vo vy : Value} {bl oc : List Value} {ys bs : List Nat}
theorem RfB.ne (r : RfB w W c gh gf gm gr n us vu vb bl) {cs : List Value} (hs : Row W gs 38 cs) {b : Nat} (hb : b = gr ∨ vu.ownBlock = some b ∨ vb.ownBlock = some b ∨ ∃ i, i < us.length ∧ (bl.getD i default).ownBlock = some b) : b ≠ gs := fun e => by
 subst e
 rcases hb with h | h | h | ⟨i, hi, h⟩
 ·exact row_ne hs r.row (by decide) h
 ·exact r.u.ne h hs (by decide)
 ·exact own_ne r.b h hs (by decide)
 ·exact own_ne (r.s i hi).1 h hs (by decide)
theorem run_lenBO {w0 : World} {a : Act} {o : Oper} {v : Value} {k : Nat} (h : BOwn w0 B v ys) (hk : ys.length = k) (x : Operand) (ho : o.op = .call { callee := .builtin .len, args := #[x], argTypes := #[28] }) (hx : a.eval x = v) : (execOp a.eval o).run Tryd.prog w = .ok (.value (.int .i64 (k : Nat))) w := by
 subst hk
 rcases h.2 with ⟨rfl, h0⟩ | ⟨g, cap, cur, rfl, _⟩
 ·rw [h0]
  exact run_lenZ sl28 x ho none 0 0 hx
 ·exact run_lenZ sl28 x ho _ _ _ hx
end
end Go.Proofs.YthgidfoidbgnaaaDoor

/- Layer 14: there is room for what is promised. -/
import Derived.Test.YthgidfoidbgnaaaDoorE49
namespace Go.Proofs.YthgidfoidbgnaaaDoor
open Go.RowKit Go.Maps


theorem run_geZ {w : World} {a : Act} {o : Oper} (x y : Operand) (ho : o.op = .binOp .geq 3 x y 3) (z z' : Int) (hx : a.eval x = .int .i64 z) (hy : a.eval y = .int .i64 z') (b : Bool) (hb : decide (z' ≤ z) = b) : (execOp a.eval o).run Tryd.prog w = .ok (.value (.bool b)) w := by
 refine run_binOp' x y ho _ _ _ hx hy rfl ?_
 rw [← hb]
 simp [go_sem]
theorem Sd.new {w W : World} {c : Nat → Colour} {gp gh gf gm gs gr n : Nat} (hs : Row W gs 38 (scells gp gh gr 0 0)) (hr : Row W gr 60 (rcells0 1 (n : Nat))) (o1 : Out w W c gh gf gm gs) (o2 : Out w W c gh gf gm gr) : Sd w W c gp gh gf gm gs gr n [] (.slice none 0 0) (.slice none 0 0) [] 0 0 :=
 ⟨hs, o1, hr, o2, World.ownsRow_nil _ _ _ _, fun b e => (by cases e), World.ownsRow_nil _ _ _ _, fun b e => (by cases e), fun i hi => absurd hi (Nat.not_lt_zero _)⟩
end Go.Proofs.YthgidfoidbgnaaaDoor

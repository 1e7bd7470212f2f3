/- Layer 14: what all walks lean on. -/
import Derived.Test.YthgidfoidbgnaaaDoorE21
import Derived.Test.YthgidfoidbgnaaaDoorE18
namespace Go.Proofs.YthgidfoidbgnaaaDoor
open Go.RowKit Go.Maps

theorem f30_0 : FieldAt 30 0 0 := fun w g off => by kernel_rfl
theorem f30_1 : FieldAt 30 1 1 := fun w g off => by kernel_rfl
theorem f30_2 : FieldAt 30 2 2 := fun w g off => by kernel_rfl
theorem f30_3 : FieldAt 30 3 3 := fun w g off => by kernel_rfl
theorem f90_0 : FieldAt 90 0 0 := fun w g off => by kernel_rfl
theorem f90_1 : FieldAt 90 1 1 := fun w g off => by kernel_rfl
theorem f90_2 : FieldAt 90 2 2 := fun w g off => by kernel_rfl
theorem f90_3 : FieldAt 90 3 3 := fun w g off => by kernel_rfl
theorem f60_0 : FieldAt 60 0 0 := fun w g off => by kernel_rfl
theorem f60_1 : FieldAt 60 1 1 := fun w g off => by kernel_rfl
theorem f60_2 : FieldAt 60 2 2 := fun w g off => by kernel_rfl
theorem f60_3 : FieldAt 60 3 3 := fun w g off => by kernel_rfl
theorem f38_0 : FieldAt 38 0 0 := fun w g off => by kernel_rfl
theorem f38_1 : FieldAt 38 1 1 := fun w g off => by kernel_rfl
theorem f38_2 : FieldAt 38 2 2 := fun w g off => by kernel_rfl
theorem f38_3 : FieldAt 38 3 3 := fun w g off => by kernel_rfl
theorem f38_4 : FieldAt 38 4 4 := fun w g off => by kernel_rfl
theorem f33_0 : FieldAt 33 0 0 := fun w g off => by kernel_rfl
theorem f33_1 : FieldAt 33 1 1 := fun w g off => by kernel_rfl
theorem f33_2 : FieldAt 33 2 2 := fun w g off => by kernel_rfl
theorem f33_3 : FieldAt 33 3 3 := fun w g off => by kernel_rfl
theorem f33_4 : FieldAt 33 4 7 := fun w g off => by kernel_rfl
theorem o3 : OneT 3 := fun w g o v h => by simp [loadVar, isAgg, run_underlying Tryd.underlying3, h]
theorem o5 : OneT 5 := fun w g o v h => by simp [loadVar, isAgg, run_underlying Tryd.underlying5, h]
theorem o28 : OneT 28 := fun w g o v h => by simp [loadVar, isAgg, run_underlying Tryd.underlying28, h]
theorem o31 : OneT 31 := fun w g o v h => by simp [loadVar, isAgg, run_underlying Tryd.underlying31, h]
theorem o34 : OneT 34 := fun w g o v h => by simp [loadVar, isAgg, run_underlying Tryd.underlying34, h]
theorem o35 : OneT 35 := fun w g o v h => by simp [loadVar, isAgg, run_underlying Tryd.underlying35, h]
theorem o36 : OneT 36 := fun w g o v h => by simp [loadVar, isAgg, run_underlying Tryd.underlying36, h]
theorem o43 : OneT 43 := fun w g o v h => by simp [loadVar, isAgg, run_underlying Tryd.underlying43, h]
theorem o57 : OneT 57 := fun w g o v h => by simp [loadVar, isAgg, run_underlying Tryd.underlying57, h]
theorem o86 : OneT 86 := fun w g o v h => by simp [loadVar, isAgg, run_underlying Tryd.underlying86, h]
theorem o88 : OneT 88 := fun w g o v h => by simp [loadVar, isAgg, run_underlying Tryd.underlying88, h]
theorem o114 : OneT 114 := fun w g o v h => by simp [loadVar, isAgg, run_underlying Tryd.underlying114, h]
theorem ag30 : AggT 30 4 := ⟨Or.inl ⟨_, Tryd.underlying30⟩, by kernel_rfl⟩
theorem ag33 : AggT 33 8 := ⟨Or.inl ⟨_, Tryd.underlying33⟩, by kernel_rfl⟩
theorem ag73 : AggT 73 64 := ⟨Or.inr ⟨_, _, Tryd.underlying73⟩, by kernel_rfl⟩
theorem arr73 : Tryd.prog.underlying 73 = some (.array 64 5) := Tryd.underlying73
theorem sl28 : Tryd.prog.underlying 28 = some (.slice (Tryd.prog.elem 28)) := by kernel_rfl
theorem sl31 : Tryd.prog.underlying 31 = some (.slice (Tryd.prog.elem 31)) := by kernel_rfl
theorem sl43 : Tryd.prog.underlying 43 = some (.slice (Tryd.prog.elem 43)) := by kernel_rfl
theorem sl57 : Tryd.prog.underlying 57 = some (.slice (Tryd.prog.elem 57)) := by kernel_rfl
theorem sl86 : Tryd.prog.underlying 86 = some (.slice (Tryd.prog.elem 86)) := by kernel_rfl
theorem sl96 : Tryd.prog.underlying 96 = some (.slice (Tryd.prog.elem 96)) := by kernel_rfl
theorem sl22 : Tryd.prog.underlying 22 = some (.slice (Tryd.prog.elem 22)) := by kernel_rfl
/-- a place's cells -/
def plC (d a l : Int) (b : Bool) : List Value := [.int .i64 d, .int .i64 a, .int .i64 l, .bool b]
theorem zero30 : (Tryd.prog.info? 30).map (·.zero) = some (some (.agg (plC 0 0 0 false).toArray)) := by kernel_rfl
theorem plC_one (d a l : Int) (b : Bool) : ∀ v ∈ plC d a l b, v.oneCell' = true := by
 intro v hv
 unfold plC at hv
 simp only [List.mem_cons, List.not_mem_nil, or_false] at hv
 rcases hv with rfl | rfl | rfl | rfl <;> rfl
theorem run_build30 {w : World} {a : Act} {o : Oper} (x y z : Operand) (ho : o.op = .build 30 #[(0, x), (1, y), (2, z)]) (d t l : Int) (hx : a.eval x = .int .i64 d) (hy : a.eval y = .int .i64 t) (hz : a.eval z = .int .i64 l) : (execOp a.eval o).run Tryd.prog w = .ok (.value (.agg (plC d t l false).toArray)) w := by
 have h : (Instr.build 30 #[(0, .int .i64 d), (1, .int .i64 t), (2, .int .i64 l)]).run Tryd.prog w = .ok (.agg (plC d t l false).toArray) w := by kernel_rfl
 simp [execOp, ho, hx, hy, hz, h]
theorem run_build30z {w : World} {a : Act} {o : Oper} (ho : o.op = .build 30 #[]) : (execOp a.eval o).run Tryd.prog w = .ok (.value (.agg (plC 0 0 0 false).toArray)) w := by
 have h : (Instr.build 30 #[]).run Tryd.prog w = .ok (.agg (plC 0 0 0 false).toArray) w := by kernel_rfl
 simp [execOp, ho, h]
section
variable {w : World} {a : Act} {o : Oper}
theorem run_extZ (x : Operand) (i : Nat) (ho : o.op = .extract x i) (vs : Array Value) (hx : a.eval x = .tuple vs) (v : Value) (hv : vs[i]? = some v) : (execOp a.eval o).run Tryd.prog w = .ok (.value v) w := by simp [execOp, ho, hx, Instr.extract, hv]
theorem run_eqZ {t : Nat} (x y : Operand) (ho : o.op = .binOp .eql t x y t) (z z' : Int) (hx : a.eval x = .int .i64 z) (hy : a.eval y = .int .i64 z') (b : Bool) (hb : decide (z = z') = b) : (execOp a.eval o).run Tryd.prog w = .ok (.value (.bool b)) w := by
 subst hb
 simp only [execOp, ho, hx, hy]
 by_cases h : z = z'
 ·subst h; simp [go_sem]
 ·simp [go_sem, h]
theorem run_neZ {t : Nat} (x y : Operand) (ho : o.op = .binOp .neq t x y t) (z z' : Int) (hx : a.eval x = .int .i64 z) (hy : a.eval y = .int .i64 z') (b : Bool) (hb : (!decide (z = z')) = b) : (execOp a.eval o).run Tryd.prog w = .ok (.value (.bool b)) w := by
 subst hb
 simp only [execOp, ho, hx, hy]
 by_cases h : z = z'
 ·subst h; simp [go_sem]
 ·simp [go_sem, h]
theorem run_lenZ {t : TypeId} (hu : Tryd.prog.underlying t = some (.slice (Tryd.prog.elem t))) (x : Operand) (ho : o.op = .call { callee := .builtin .len, args := #[x], argTypes := #[t] }) (p : Option Addr) (n cap : Nat) (hx : a.eval x = .slice p n cap) : (execOp a.eval o).run Tryd.prog w = .ok (.value (.int .i64 (n : Nat))) w := by
 have hr := run_len_slice (P := Tryd.prog) w t o.type p n cap hu
 simp only [execOp, ho, resolve, invoke, builtin, Sem.run_bind, Sem.run_pure, Result.andThen_ok, List.map_toArray, List.map_cons, List.map_nil, hx, hr]
 rfl
theorem run_lssZ (x y : Operand) (ho : o.op = .binOp .lss 3 x y 3) (z z' : Int) (hx : a.eval x = .int .i64 z) (hy : a.eval y = .int .i64 z') (b : Bool) (hb : decide (z < z') = b) : (execOp a.eval o).run Tryd.prog w = .ok (.value (.bool b)) w := by
 subst hb
 simp only [execOp, ho, hx, hy]
 simp [go_sem]
theorem run_geqZ (x y : Operand) (ho : o.op = .binOp .geq 3 x y 3) (z z' : Int) (hx : a.eval x = .int .i64 z) (hy : a.eval y = .int .i64 z') (b : Bool) (hb : decide (z' ≤ z) = b) : (execOp a.eval o).run Tryd.prog w = .ok (.value (.bool b)) w := by
 subst hb
 simp only [execOp, ho, hx, hy]
 simp [go_sem]
theorem run_gtrZ (x y : Operand) (ho : o.op = .binOp .gtr 3 x y 3) (z z' : Int) (hx : a.eval x = .int .i64 z) (hy : a.eval y = .int .i64 z') (b : Bool) (hb : decide (z' < z) = b) : (execOp a.eval o).run Tryd.prog w = .ok (.value (.bool b)) w := by
 subst hb
 simp only [execOp, ho, hx, hy]
 simp [go_sem]
theorem run_leqZ (x y : Operand) (ho : o.op = .binOp .leq 3 x y 3) (z z' : Int) (hx : a.eval x = .int .i64 z) (hy : a.eval y = .int .i64 z') (b : Bool) (hb : decide (z ≤ z') = b) : (execOp a.eval o).run Tryd.prog w = .ok (.value (.bool b)) w := by
 subst hb
 simp only [execOp, ho, hx, hy]
 simp [go_sem]
theorem wrap_i64 (z : Int) (h : -9223372036854775808 ≤ z) (h' : z ≤ 9223372036854775807) : IntKind.i64.wrap z = z := by
 simp [IntKind.wrap, IntKind.signed, IntKind.bits]; omega
theorem run_addZ (x y : Operand) (ho : o.op = .binOp .add 3 x y 3) (z z' r : Int) (hx : a.eval x = .int .i64 z) (hy : a.eval y = .int .i64 z') (hr : z + z' = r) (h : -9223372036854775808 ≤ r) (h' : r ≤ 9223372036854775807) : (execOp a.eval o).run Tryd.prog w = .ok (.value (.int .i64 r)) w := by
 subst hr
 simp only [execOp, ho, hx, hy]
 simp [go_sem, wrap_i64 _ h h']
theorem run_subZ (x y : Operand) (ho : o.op = .binOp .sub 3 x y 3) (z z' r : Int) (hx : a.eval x = .int .i64 z) (hy : a.eval y = .int .i64 z') (hr : z - z' = r) (h : -9223372036854775808 ≤ r) (h' : r ≤ 9223372036854775807) : (execOp a.eval o).run Tryd.prog w = .ok (.value (.int .i64 r)) w := by
 subst hr
 simp only [execOp, ho, hx, hy]
 simp [go_sem, wrap_i64 _ h h']
theorem run_mulZ (x y : Operand) (ho : o.op = .binOp .mul 3 x y 3) (z z' r : Int) (hx : a.eval x = .int .i64 z) (hy : a.eval y = .int .i64 z') (hr : z * z' = r) (h : -9223372036854775808 ≤ r) (h' : r ≤ 9223372036854775807) : (execOp a.eval o).run Tryd.prog w = .ok (.value (.int .i64 r)) w := by
 subst hr
 simp only [execOp, ho, hx, hy]
 simp [go_sem, wrap_i64 _ h h']
theorem run_i64u64 (x : Operand) (ho : o.op = .convert 3 98 x) (n : Nat) (h : n ≤ 9223372036854775807) (hx : a.eval x = .int .i64 (n : Nat)) : (execOp a.eval o).run Tryd.prog w = .ok (.value (.int .u64 (n : Nat))) w := by
 have hr : (convert 3 98 (.int .i64 (n : Nat))).run Tryd.prog w = .ok (.int .u64 (n : Nat)) w := by
  have e : IntKind.u64.wrap (n : Int) = (n : Int) := by rw [IntKind.wrap_u64]; omega
  simp [go_sem, e]
 simp only [execOp, ho, hx, hr, Sem.run_bind, Sem.run_pure, Result.andThen_ok]
end
theorem eN52 : EntersF 52 := Go.Proofs.enters_of Tryd.func52 (by kernel_rfl) rfl
theorem eN53 : EntersF 53 := Go.Proofs.enters_of Tryd.func53 (by kernel_rfl) rfl
theorem eN58 : EntersF 58 := Go.Proofs.enters_of Tryd.func58 (by kernel_rfl) rfl
theorem eN59 : EntersF 59 := Go.Proofs.enters_of Tryd.func59 (by kernel_rfl) rfl
theorem eN71 : EntersF 71 := Go.Proofs.enters_of Tryd.func71 (by kernel_rfl) rfl
theorem eN34 : EntersF 34 := Go.Proofs.enters_of Tryd.func34 (by kernel_rfl) rfl
theorem eN35 : EntersF 35 := Go.Proofs.enters_of Tryd.func35 (by kernel_rfl) rfl
theorem eN36 : EntersF 36 := Go.Proofs.enters_of Tryd.func36 (by kernel_rfl) rfl
theorem eN37 : EntersF 37 := Go.Proofs.enters_of Tryd.func37 (by kernel_rfl) rfl
theorem eN49 : EntersF 49 := Go.Proofs.enters_of Tryd.func49 (by kernel_rfl) rfl
theorem eN40 : EntersF 40 := Go.Proofs.enters_of Tryd.func40 (by kernel_rfl) rfl
theorem eN41 : EntersF 41 := Go.Proofs.enters_of Tryd.func41 (by kernel_rfl) rfl
theorem eN44 : EntersF 44 := Go.Proofs.enters_of Tryd.func44 (by kernel_rfl) rfl
theorem eN65 : EntersF 65 := Go.Proofs.enters_of Tryd.func65 (by kernel_rfl) rfl
theorem eN63 : EntersF 63 := Go.Proofs.enters_of Tryd.func63 (by kernel_rfl) rfl
theorem eN64 : EntersF 64 := Go.Proofs.enters_of Tryd.func64 (by kernel_rfl) rfl
theorem eN43 : EntersF 43 := Go.Proofs.enters_of Tryd.func43 (by kernel_rfl) rfl
theorem eN62 : EntersF 62 := Go.Proofs.enters_of Tryd.func62 (by kernel_rfl) rfl
theorem eN67 : EntersF 67 := Go.Proofs.enters_of Tryd.func67 (by kernel_rfl) rfl
theorem eN68 : EntersF 68 := Go.Proofs.enters_of Tryd.func68 (by kernel_rfl) rfl
theorem eN79 : EntersF 79 := Go.Proofs.enters_of Tryd.func79 (by kernel_rfl) rfl
theorem eN80 : EntersF 80 := Go.Proofs.enters_of Tryd.func80 (by kernel_rfl) rfl
theorem eN76 : EntersF 76 := Go.Proofs.enters_of Tryd.func76 (by kernel_rfl) rfl
theorem eN51 : EntersF 51 := Go.Proofs.enters_of Tryd.func51 (by kernel_rfl) rfl
theorem eN42 : EntersF 42 := Go.Proofs.enters_of Tryd.func42 (by kernel_rfl) rfl
theorem eN50 : EntersF 50 := Go.Proofs.enters_of Tryd.func50 (by kernel_rfl) rfl
theorem eN60 : EntersF 60 := Go.Proofs.enters_of Tryd.func60 (by kernel_rfl) rfl
theorem eN61 : EntersF 61 := Go.Proofs.enters_of Tryd.func61 (by kernel_rfl) rfl
theorem eN66 : EntersF 66 := Go.Proofs.enters_of Tryd.func66 (by kernel_rfl) rfl
theorem eN18 : EntersF 18 := Go.Proofs.enters_of Tryd.func18 (by kernel_rfl) rfl
theorem eN33 : EntersF 33 := Go.Proofs.enters_of Tryd.func33 (by kernel_rfl) rfl
theorem eN21 : EntersF 21 := Go.Proofs.enters_of Tryd.func21 (by kernel_rfl) rfl
theorem eN25 : EntersF 25 := Go.Proofs.enters_of Tryd.func25 (by kernel_rfl) rfl
theorem eN26 : EntersF 26 := Go.Proofs.enters_of Tryd.func26 (by kernel_rfl) rfl
theorem eN38 : EntersF 38 := Go.Proofs.enters_of Tryd.func38 (by kernel_rfl) rfl
theorem eN39 : EntersF 39 := Go.Proofs.enters_of Tryd.func39 (by kernel_rfl) rfl
theorem eN22 : EntersF 22 := Go.Proofs.enters_of Tryd.func22 (by kernel_rfl) rfl
theorem eN19 : EntersF 19 := Go.Proofs.enters_of Tryd.func19 (by kernel_rfl) rfl
theorem eN20 : EntersF 20 := Go.Proofs.enters_of Tryd.func20 (by kernel_rfl) rfl
theorem eN28 : EntersF 28 := Go.Proofs.enters_of Tryd.func28 (by kernel_rfl) rfl
theorem eN46 : EntersF 46 := Go.Proofs.enters_of Tryd.func46 (by kernel_rfl) rfl
theorem eN27 : EntersF 27 := Go.Proofs.enters_of Tryd.func27 (by kernel_rfl) rfl
theorem eN17 : EntersF 17 := Go.Proofs.enters_of Tryd.func17 (by kernel_rfl) rfl
theorem eN32 : EntersF 32 := Go.Proofs.enters_of Tryd.func32 (by kernel_rfl) rfl
theorem eN11 : EntersF 11 := Go.Proofs.enters_of Tryd.func11 (by kernel_rfl) rfl
theorem eN10 : EntersF 10 := Go.Proofs.enters_of Tryd.func10 (by kernel_rfl) rfl
theorem eN9 : EntersF 9 := Go.Proofs.enters_of Tryd.func9 (by kernel_rfl) rfl
theorem eN16 : EntersF 16 := Go.Proofs.enters_of Tryd.func16 (by kernel_rfl) rfl
theorem eN14 : EntersF 14 := Go.Proofs.enters_of Tryd.func14 (by kernel_rfl) rfl
theorem eN23 : EntersF 23 := Go.Proofs.enters_of Tryd.func23 (by kernel_rfl) rfl
theorem eN12 : EntersF 12 := Go.Proofs.enters_of Tryd.func12 (by kernel_rfl) rfl
theorem eN13 : EntersF 13 := Go.Proofs.enters_of Tryd.func13 (by kernel_rfl) rfl
theorem eN15 : EntersF 15 := Go.Proofs.enters_of Tryd.func15 (by kernel_rfl) rfl
theorem eN45 : EntersF 45 := Go.Proofs.enters_of Tryd.func45 (by kernel_rfl) rfl
end Go.Proofs.YthgidfoidbgnaaaDoor

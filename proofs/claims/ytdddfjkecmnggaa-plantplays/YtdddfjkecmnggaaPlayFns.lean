/- The law's own functions: kind, sector. -/
import Derived.Test.YtdddfjkecmnggaaRefLive
import Derived.Test.YtdddfjkecmnggaaME
namespace Go.Proofs.Ytdddfjkecmnggaa
open Go.RowKit Go.Maps

/-- which of the fourteen -/
def kindOf (n : Int) : Int := (if n < 0 then -(n + 1) else n) % 14
theorem kindOf_lt (n : Int) : 0 ≤ kindOf n ∧ kindOf n < 14 := by unfold kindOf; omega
theorem run_rem14 (w : World) (k : Int) (h : 0 ≤ k) : (binOp .rem 3 (.int .i64 k) (.int .i64 14)).run Try.prog w = .ok (.int .i64 (k % 14)) w := by
  have e := Int.tmod_eq_emod_of_nonneg (b := 14) h
  simp [binOp, Op.intDiv]
  exact e
theorem wl_rem14 {w : World} {ops : Array Oper} {rest : List Oper} {o : Oper} {a : Act} {Q : Exit → Act → World → Prop} (x : Operand) (hgd : Region.wanted o (yielded ops a.tmps) = true) (ho : o.op = .binOp .rem 3 x (.const (.int .i64 14)) 3) (k : Int) (h0 : 0 ≤ k) (hx : a.eval x = .int .i64 k) (h : wpList Try.prog ops Q rest (a.put o.dst (.int .i64 (k % 14))) w) : wpList Try.prog ops Q (o :: rest) a w := wl hgd _ w (by
  have hy : a.eval (.const (.int .i64 14)) = .int .i64 14 := rfl
  have e : (eqGuard .rem 3 x (.const (.int .i64 14)) (.int .i64 k) (.int .i64 14)).run Try.prog w = .ok () w := rfl
  simp only [execOp, ho, hx, hy, e, Sem.run_bind, Sem.run_pure, Result.andThen_ok, run_rem14 w k h0]) h
set_option maxRecDepth 100000 in
theorem kind_any (w : World) (n : Int) (h0 : -9223372036854775808 ≤ n) (h1 : n ≤ 9223372036854775807) : Calls Try.prog 15 #[.int .i64 n] w fun e w' => e = .returned (.int .i64 (kindOf n)) ∧ w = w' := by
  by_cases hn : n < 0
  · have hn' : decide (n < 0) = true := decide_eq_true hn
    have e : kindOf n = (-(n + 1)) % 14 := by unfold kindOf; rw [if_pos hn]
    rw [e]
    go_enter Try.func15, Try.ntmps15
    go_wp2_with (refine wl_rem14 (.tmp 8) rfl rfl (-(n + 1)) (by omega) rfl ?_)
    go_ret
    exact ⟨rfl, rfl⟩
  · have hn' : decide (n < 0) = false := decide_eq_false hn
    have e : kindOf n = n % 14 := by unfold kindOf; rw [if_neg hn]
    rw [e]
    go_enter Try.func15, Try.ntmps15
    go_wp2_with (refine wl_rem14 (.tmp 8) rfl rfl n (by omega) rfl ?_)
    go_ret
    exact ⟨rfl, rfl⟩
/-- what is written -/
def secOf (x : Nat) (pl n : Int) : List Nat := ((ones x).set 0 (byte8 pl)).set 40 (byte8 n)
def opCells (k d p a n : Int) (x : Nat) (kv : Value) : List Value := [.int .i64 k, .int .i64 d, .int .i64 p, .int .i64 a, .int .i64 n, .int .u8 (x : Nat), kv]
theorem f39_2 : FieldAt 39 2 2 := fun w g off => by kernel_rfl
theorem f39_4 : FieldAt 39 4 4 := fun w g off => by kernel_rfl
theorem f39_5 : FieldAt 39 5 5 := fun w g off => by kernel_rfl
theorem idx40 (b d : Nat) (h : d < 64) (w' : World) : (Instr.indexAt 40 (.slice (some ⟨b, 0, none⟩) 64 64) (.int .i64 (d : Nat))).run Try.prog w' = .ok (.pointer (some ⟨b, d, none⟩)) w' := by
  obtain ⟨i5, hi5, hsz⟩ := Option.map_eq_some_iff.1 size5'
  simp [Instr.indexAt, asIntOf, run_underlying Try.underlying40, h, sizeOf, typeInfo, hi5, hsz, add_none]
theorem row_cell' {W : World} {g T i : Nat} {cur : List Value} (h : Row W g T cur) (v : Value) : Row (W.setCell ⟨g, i, none⟩ v) g T (cur.set i v) := by
  rw [setCell_eq_setRow W g i _ T (0, 0) v h]
  have := h.setRow (cur.set i v)
  simpa using this
theorem en32' : EntersF 32 := Go.Proofs.enters_of Try.func32 (by kernel_rfl) rfl
end Go.Proofs.Ytdddfjkecmnggaa

/- Layer 14: the small functions: numbers and bits. -/
import Derived.Test.YthgidfoidbgnaaaDoorE20
import Derived.Test.YthgidfoidbgnaaaDoorE16
namespace Go.Proofs.YthgidfoidbgnaaaDoor
open Go.RowKit Go.Maps

def tzTab : List Nat := [0, 1, 28, 2, 29, 14, 24, 3, 30, 22, 20, 15, 25, 17, 4, 8, 31, 27, 13, 23, 21, 19, 16, 7, 26, 12, 18, 6, 11, 5, 10, 9]
/-- the table of the lowest bits -/
def TzIn (w : World) : Prop := ∀ j, j < 32 → w.cell? ⟨0, j, none⟩ = some (.int .u8 (tzTab.getD j 0 : Nat))
theorem TzIn.later {w wx : World} (hb : Below w.heap.size w wx) (h : TzIn w) : TzIn wx := fun j hj => cell_later hb (h j hj)
def tzIx (s : Nat) : Nat := (s &&& (65536 - s)) * 125613361 % 4294967296 / 134217728
def tzAt (s : Nat) : Nat := tzTab.getD (tzIx s) 0
theorem least_bit (s : Nat) : ∀ n, (∃ j, j < n ∧ s.testBit j = true) → ∃ j, j < n ∧ LowB s j := by
 intro n
 induction n with
 | zero => rintro ⟨j, h, _⟩; omega
 | succ n ih =>
  rintro ⟨j, hj, hb⟩
  by_cases h : ∃ j, j < n ∧ s.testBit j = true
  ·obtain ⟨k, hk, hl⟩ := ih h
   exact ⟨k, by omega, hl⟩
  ·have e : j = n := by
    rcases Nat.lt_or_ge j n with k | k
    ·exact absurd ⟨j, k, hb⟩ h
    ·omega
   subst e
   refine ⟨j, hj, hb, fun i hi => ?_⟩
   cases hx : s.testBit i with
   | false => rfl
   | true => exact absurd ⟨i, hi, hx⟩ h
theorem low_and {s j : Nat} (h : s < 65536) (hj : j < 16) (hl : LowB s j) : s &&& (65536 - s) = 2 ^ j := by
 have hm : s % 2 ^ (j + 1) = 2 ^ j := by
  apply Nat.eq_of_testBit_eq
  intro i
  rw [Nat.testBit_mod_two_pow, Nat.testBit_two_pow]
  rcases Nat.lt_trichotomy i j with k | k | k
  ·rw [hl.2 i k, decide_eq_false (show ¬ j = i by omega)]; simp
  ·subst k; rw [hl.1]; simp
  ·rw [decide_eq_false (show ¬ i < j + 1 by omega), decide_eq_false (show ¬ j = i by omega)]; rfl
 have hd := Nat.div_add_mod s (2 ^ (j + 1))
 rw [hm] at hd
 have hp : 0 < 2 ^ j := Nat.pow_pos (by decide)
 have e1 : s - 1 = 2 ^ (j + 1) * (s / 2 ^ (j + 1)) + (2 ^ j - 1) := by omega
 have hlt : 2 ^ j < 2 ^ (j + 1) := Nat.pow_lt_pow_right (by decide) (by omega)
 have hs : ∀ i, s.testBit i = if i < j + 1 then (2 ^ j).testBit i else (s / 2 ^ (j + 1)).testBit (i - (j + 1)) := fun i => by
  have := Nat.testBit_two_pow_mul_add (s / 2 ^ (j + 1)) hlt i
  rw [hd] at this
  exact this
 have hs1 : ∀ i, (s - 1).testBit i = if i < j + 1 then (2 ^ j - 1).testBit i else (s / 2 ^ (j + 1)).testBit (i - (j + 1)) := fun i => by
  have := Nat.testBit_two_pow_mul_add (s / 2 ^ (j + 1)) (show 2 ^ j - 1 < 2 ^ (j + 1) by omega) i
  rw [← e1] at this
  exact this
 apply Nat.eq_of_testBit_eq
 intro i
 have e2 : (65536 - s).testBit i = (decide (i < 16) && !(s - 1).testBit i) := by
  have := Nat.testBit_two_pow_sub_succ (x := s - 1) (n := 16) (by show s - 1 < 65536; omega) i
  rw [show s - 1 + 1 = s by omega] at this
  exact this
 rw [Nat.testBit_and, e2, Nat.testBit_two_pow]
 rcases Nat.lt_trichotomy i j with k | k | k
 ·rw [hl.2 i k, decide_eq_false (show ¬ j = i by omega)]; rfl
 ·subst k
  rw [hl.1, hs1 i, if_pos (by omega), Nat.testBit_two_pow_sub_one]
  simp [hj]
 ·rw [hs i, hs1 i, if_neg (by omega), if_neg (by omega), decide_eq_false (show ¬ j = i by omega)]
  cases (s / 2 ^ (j + 1)).testBit (i - (j + 1)) <;> simp
theorem tz_tab : ∀ j, j < 16 → 2 ^ j * 125613361 % 4294967296 / 134217728 < 32 ∧ tzTab.getD (2 ^ j * 125613361 % 4294967296 / 134217728) 0 = j := by decide
theorem tz_low {s : Nat} (h : s < 65536) (h0 : s ≠ 0) : tzIx s < 32 ∧ tzAt s < 16 ∧ LowB s (tzAt s) := by
 have hex : ∃ j, j < 16 ∧ s.testBit j = true := by
  rcases Classical.em (∃ j, j < 16 ∧ s.testBit j = true) with k | k
  ·exact k
  ·exfalso
   apply h0
   apply Nat.eq_of_testBit_eq
   intro i
   rw [Nat.zero_testBit]
   rcases Nat.lt_or_ge i 16 with hi | hi
   ·cases hx : s.testBit i with
    | false => rfl
    | true => exact absurd ⟨i, hi, hx⟩ k
   ·exact Nat.testBit_lt_two_pow (Nat.lt_of_lt_of_le h (Nat.pow_le_pow_right (show 0 < 2 by decide) (by omega : 16 ≤ i)))
 obtain ⟨j, hj, hl⟩ := least_bit s 16 hex
 have e := low_and h hj hl
 have ht := tz_tab j hj
 unfold tzAt tzIx
 rw [e, ht.2]
 exact ⟨ht.1, hj, hl⟩
set_option maxHeartbeats 1000000 in
theorem split_any (w : World) (a : Nat) (h : a ≤ 9223372036854775807) : Calls Tryd.prog 52 #[.int .i64 (a : Nat)] w fun e w' => e = .returned (.tuple #[.int .i64 ((a / 16 : Nat) : Int), .int .i64 ((a % 16 : Nat) : Int)]) ∧ w = w' := by
 go_enter Tryd.func52, Tryd.ntmps52
 go_wp2_with fail
 go_ret2
 exact ⟨by simp, rfl⟩
set_option maxHeartbeats 1000000 in
theorem cost_any (w : World) (n : Nat) (h : n ≤ 1000000000000000000) : Calls Tryd.prog 41 #[.int .i64 (n : Nat)] w fun e w' => e = .returned (.int .i64 (costN n : Nat)) ∧ w = w' := by
 go_enter Tryd.func41, Tryd.ntmps41
 go_wp2_with fail
 go_ret
 exact ⟨by simp [costN]; omega, rfl⟩
set_option maxHeartbeats 1000000 in
theorem row_any (w : World) (f n : Nat) (h : f + n ≤ 16) : Calls Tryd.prog 53 #[.int .i64 (f : Nat), .int .i64 (n : Nat)] w fun e w' => e = .returned (.int .u16 (rowM f n : Nat)) ∧ w = w' := by
 have h1 : n ≤ 16 := by omega
 have h2 : f ≤ 16 := by omega
 go_enter Tryd.func53, Tryd.ntmps53
 go_wp2_with fail
 go_ret
 refine ⟨?_, rfl⟩
 have e1 : (2 : Nat) ^ n ≤ 65536 := Nat.pow_le_pow_right (n := 2) (by decide) h1
 have e3 : 0 < (2 : Nat) ^ n := Nat.pow_pos (by decide)
 have e2 : IntKind.u16.wrap (IntKind.u16.wrap ((2 : Int) ^ n) - 1) = ((2 ^ n - 1 : Nat) : Int) := by
  rw [IntKind.wrap_u16, IntKind.wrap_u16, show ((2 : Int) ^ n) = ((2 ^ n : Nat) : Int) by simp]
  omega
 have e4 : IntKind.u16.wrap (((2 ^ n - 1 : Nat) : Int) * 2 ^ f) = (rowM f n : Nat) := by
  have := rowM_lt h
  unfold rowM at this ⊢
  rw [IntKind.wrap_u16, show ((2 : Int) ^ f) = ((2 ^ f : Nat) : Int) by simp, ← Int.natCast_mul]
  omega
 rw [e2, e4]
 rfl
set_option maxHeartbeats 1000000 in
theorem has_any (w : World) (s r : Nat) (hs : s < 65536) (hr : r < 65536) : Calls Tryd.prog 58 #[.int .u16 (s : Nat), .int .u16 (r : Nat)] w fun e w' => e = .returned (.bool (decide (s &&& r = r))) ∧ w = w' := by
 go_enter Tryd.func58, Tryd.ntmps58
 go_wp2_with fail
 go_ret
 refine ⟨?_, rfl⟩
 rw [u16_and_nat s r hs hr]
 congr 2
 by_cases h : s &&& r = r
 ·rw [h]; simp
 ·simp [h]
  omega
section
variable {w : World} {a : Act} {o : Oper}
theorem run_neg16 (x : Operand) (ho : o.op = .unOp .neg 113 x) (s : Nat) (h0 : 0 < s) (h : s < 65536) (hx : a.eval x = .int .u16 (s : Nat)) : (execOp a.eval o).run Tryd.prog w = .ok (.value (.int .u16 ((65536 - s : Nat) : Int))) w := by
 have hw : IntKind.u16.wrap (-(s : Int)) = ((65536 - s : Nat) : Int) := by rw [IntKind.wrap_u16]; omega
 simp only [execOp, ho, hx]
 simp [go_sem, hw]
theorem run_and16 {t : Nat} (x y : Operand) (ho : o.op = .binOp .and t x y t) (s r : Nat) (hs : s < 65536) (hr : r < 65536) (hx : a.eval x = .int .u16 (s : Nat)) (hy : a.eval y = .int .u16 (r : Nat)) : (execOp a.eval o).run Tryd.prog w = .ok (.value (.int .u16 ((s &&& r : Nat) : Int))) w := by
 simp only [execOp, ho, hx, hy]
 simp [go_sem, u16_and_nat s r hs hr]
theorem run_or16 {t : Nat} (x y : Operand) (ho : o.op = .binOp .or t x y t) (s r : Nat) (hs : s < 65536) (hr : r < 65536) (hx : a.eval x = .int .u16 (s : Nat)) (hy : a.eval y = .int .u16 (r : Nat)) : (execOp a.eval o).run Tryd.prog w = .ok (.value (.int .u16 ((s ||| r : Nat) : Int))) w := by
 simp only [execOp, ho, hx, hy]
 simp [go_sem, u16_or_nat s r hs hr]
theorem run_less16 {t : Nat} (x y : Operand) (ho : o.op = .binOp .andNot t x y t) (s r : Nat) (hs : s < 65536) (hr : r < 65536) (hx : a.eval x = .int .u16 (s : Nat)) (hy : a.eval y = .int .u16 (r : Nat)) : (execOp a.eval o).run Tryd.prog w = .ok (.value (.int .u16 (lessM s r : Nat))) w := by
 simp only [execOp, ho, hx, hy]
 simp [go_sem, u16_andNot_nat s r hs hr, lessM]
theorem run_cv16 (x : Operand) (ho : o.op = .convert 113 138 x) (s : Nat) (h : s < 65536) (hx : a.eval x = .int .u16 (s : Nat)) : (execOp a.eval o).run Tryd.prog w = .ok (.value (.int .u32 (s : Nat))) w := by
 have hr : (convert 113 138 (.int .u16 (s : Nat))).run Tryd.prog w = .ok (.int .u32 (s : Nat)) w := by
  have e : IntKind.u32.wrap (s : Int) = (s : Int) := by rw [IntKind.wrap_u32]; omega
  simp [go_sem, e]
 simp only [execOp, ho, hx, hr, Sem.run_bind, Sem.run_pure, Result.andThen_ok]
theorem run_mul32 (x y : Operand) (ho : o.op = .binOp .mul 138 x y 138) (s : Nat) (hx : a.eval x = .int .u32 (s : Nat)) (hy : a.eval y = .int .u32 125613361) : (execOp a.eval o).run Tryd.prog w = .ok (.value (.int .u32 ((s * 125613361 % 4294967296 : Nat) : Int))) w := by
 have hw : IntKind.u32.wrap ((s : Int) * 125613361) = ((s * 125613361 % 4294967296 : Nat) : Int) := by rw [IntKind.wrap_u32]; omega
 simp only [execOp, ho, hx, hy]
 simp [go_sem, hw]
theorem run_shr27 (x y : Operand) (ho : o.op = .binOp .shr 138 x y 134) (s : Nat) (hx : a.eval x = .int .u32 (s : Nat)) (hy : a.eval y = .int .u64 27) : (execOp a.eval o).run Tryd.prog w = .ok (.value (.int .u32 ((s / 134217728 : Nat) : Int))) w := by
 simp only [execOp, ho, hx, hy]
 simp [go_sem]
theorem run_ixTz (i : Operand) (ho : o.op = .indexAddr 154 (.global 0) i) (j : Nat) (hi : a.eval i = .int .u32 (j : Nat)) (hj : j < 32) : (execOp a.eval o).run Tryd.prog w = .ok (.value (.pointer (some ⟨0, j, none⟩))) w := by
 have e : a.eval (.global 0) = .pointer (some ⟨0, 0, none⟩) := rfl
 obtain ⟨i5, hi5, hsz⟩ := Option.map_eq_some_iff.1 Fr.size5
 simp [execOp, ho, e, hi, Instr.indexAt, asIntOf, run_underlying Tryd.underlying154, Instr.sureAddr, hj, sizeOf, typeInfo, hi5, hsz, Fr.add_none]
theorem run_u8int (x : Operand) (ho : o.op = .convert 5 3 x) (s : Nat) (h : s < 256) (hx : a.eval x = .int .u8 (s : Nat)) : (execOp a.eval o).run Tryd.prog w = .ok (.value (.int .i64 (s : Nat))) w := by
 have hr : (convert 5 3 (.int .u8 (s : Nat))).run Tryd.prog w = .ok (.int .i64 (s : Nat)) w := by
  have e : IntKind.i64.wrap (s : Int) = (s : Int) := by simp [IntKind.wrap, IntKind.signed, IntKind.bits]; omega
  simp [go_sem, e]
 simp only [execOp, ho, hx, hr, Sem.run_bind, Sem.run_pure, Result.andThen_ok]
end
end Go.Proofs.YthgidfoidbgnaaaDoor

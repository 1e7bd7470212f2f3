/- A sum behind its own bytes: the register comes to one and the same word. -/
import Derived.Test.YtkhchfjijglfjaaDoorFlips
namespace Go.Proofs.YtkhchfjijglfjaaDoor.Crc

theorem step_shl (z : BitVec 32) (h : z.toNat < 2 ^ 31) : step (z <<< 1) = z := by
  have h0 : (z <<< 1).getLsbD 0 = false := by simp
  rw [step_even _ h0]
  apply BitVec.eq_of_toNat_eq
  rw [BitVec.toNat_ushiftRight, BitVec.toNat_shiftLeft, Nat.shiftRight_eq_div_pow, Nat.shiftLeft_eq]
  omega
theorem steps_shl_of (k : Nat) : ∀ y : BitVec 32, k ≤ 31 → y.toNat * 2 ^ k < 2 ^ 32 → steps k (y <<< k) = y := by
  induction k with
  | zero => intro y _ _; simp [steps]
  | succ k ih =>
    intro y hk h
    have hp : y.toNat * 2 ^ k < 2 ^ 31 := by
      rw [Nat.pow_succ, ← Nat.mul_assoc] at h
      omega
    have hz : (y <<< k).toNat < 2 ^ 31 := by
      rw [BitVec.toNat_shiftLeft, Nat.shiftLeft_eq, Nat.mod_eq_of_lt (by omega)]
      exact hp
    simp only [steps]
    rw [BitVec.shiftLeft_add, step_shl _ hz]
    exact ih y (by omega) (by omega)

theorem split8 (s : BitVec 32) : s = BitVec.ofNat 32 (s.toNat % 256) ^^^ ((s >>> 8) <<< 8) := by
  apply BitVec.eq_of_getLsbD_eq
  intro i hi
  rw [BitVec.getLsbD_xor, BitVec.getLsbD_shiftLeft, BitVec.getLsbD_ushiftRight, BitVec.getLsbD_ofNat, show (256 : Nat) = 2 ^ 8 from rfl, Nat.testBit_mod_two_pow, BitVec.testBit_toNat]
  by_cases h : i < 8
  · simp [h, hi]
  · have e : 8 + (i - 8) = i := by omega
    simp [h, hi, e]

theorem byte_own (r s : BitVec 32) : byteStep r (s.toNat % 256) = steps 8 (r ^^^ s) ^^^ (s >>> 8) := by
  have hs : steps 8 ((s >>> 8) <<< 8) = s >>> 8 := by
    apply steps_shl_of 8 _ (by decide)
    rw [BitVec.toNat_ushiftRight, Nat.shiftRight_eq_div_pow]
    have := s.isLt
    omega
  unfold byteStep
  have e : r ^^^ s = (r ^^^ BitVec.ofNat 32 (s.toNat % 256)) ^^^ ((s >>> 8) <<< 8) := by
    rw [BitVec.xor_assoc, ← split8 s]
  rw [e, steps_xor 8 (r ^^^ BitVec.ofNat 32 (s.toNat % 256)), hs, BitVec.xor_assoc, BitVec.xor_self, BitVec.xor_zero]

/-- a sum's four bytes, the lowest first -/
def tailOf (s : BitVec 32) : List Nat := [s.toNat % 256, s.toNat / 256 % 256, s.toNat / 65536 % 256, s.toNat / 16777216 % 256]

theorem run_tail (r s : BitVec 32) : run r (tailOf s) = steps 32 (r ^^^ s) := by
  have e1 : s.toNat / 256 = (s >>> 8).toNat := by rw [BitVec.toNat_ushiftRight, Nat.shiftRight_eq_div_pow]
  have e2 : s.toNat / 65536 = (s >>> 8 >>> 8).toNat := by rw [BitVec.toNat_ushiftRight, BitVec.toNat_ushiftRight, Nat.shiftRight_eq_div_pow, Nat.shiftRight_eq_div_pow]; omega
  have e3 : s.toNat / 16777216 = (s >>> 8 >>> 8 >>> 8).toNat := by rw [BitVec.toNat_ushiftRight, BitVec.toNat_ushiftRight, BitVec.toNat_ushiftRight, Nat.shiftRight_eq_div_pow, Nat.shiftRight_eq_div_pow, Nat.shiftRight_eq_div_pow]; omega
  have e4 : s >>> 8 >>> 8 >>> 8 >>> 8 = 0#32 := by
    apply BitVec.eq_of_toNat_eq
    rw [BitVec.toNat_ushiftRight, BitVec.toNat_ushiftRight, BitVec.toNat_ushiftRight, BitVec.toNat_ushiftRight, Nat.shiftRight_eq_div_pow, Nat.shiftRight_eq_div_pow, Nat.shiftRight_eq_div_pow, Nat.shiftRight_eq_div_pow]
    have := s.isLt
    show s.toNat / 2 ^ 8 / 2 ^ 8 / 2 ^ 8 / 2 ^ 8 = 0
    omega
  unfold tailOf
  rw [e1, e2, e3]
  simp only [run_cons, run_nil]
  rw [byte_own r s, byte_own _ (s >>> 8), BitVec.xor_assoc (steps 8 (r ^^^ s)), BitVec.xor_self, BitVec.xor_zero]
  rw [byte_own _ (s >>> 8 >>> 8), BitVec.xor_assoc, BitVec.xor_self, BitVec.xor_zero]
  rw [byte_own _ (s >>> 8 >>> 8 >>> 8), BitVec.xor_assoc, BitVec.xor_self, BitVec.xor_zero, e4, BitVec.xor_zero]
  rw [← steps_add, ← steps_add, ← steps_add]

theorem more_tail (s : BitVec 32) : more s (tailOf s) = 0x2144df1c#32 := by
  unfold more
  rw [run_tail]
  have e : ~~~ s ^^^ s = 0xffffffff#32 := by
    apply BitVec.eq_of_getLsbD_eq
    intro i hi
    have h : ∀ k : Fin 32, (0xffffffff#32).getLsbD k.val = true := by decide
    rw [BitVec.getLsbD_xor, BitVec.getLsbD_not, h ⟨i, hi⟩]
    simp [hi]
  rw [e]
  decide +kernel
end Go.Proofs.YtkhchfjijglfjaaDoor.Crc

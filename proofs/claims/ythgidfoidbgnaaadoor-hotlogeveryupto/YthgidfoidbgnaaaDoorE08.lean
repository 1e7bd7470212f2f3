/- The plain mathematics of CRC-32 over 32-bit words: one shift, four shifts by a table, a byte, rows of bytes; it imports nothing of the program. Words of 32 bits as the walk writes them: the register's operations, behind plain names. -/
import Derived.Laws.BitsAllLaws
namespace Go.Proofs.YthgidfoidbgnaaaDoor.Fr.Crc

/-- one shift by the polynomial -/
def step (r : BitVec 32) : BitVec 32 := if r.getLsbD 0 then (r >>> 1) ^^^ 0xedb88320#32 else r >>> 1
/-- n shifts -/
def steps : Nat → BitVec 32 → BitVec 32
 | 0, r => r
 | n + 1, r => steps n (step r)
/-- a byte -/
def byteStep (r : BitVec 32) (c : Nat) : BitVec 32 := steps 8 (r ^^^ BitVec.ofNat 32 c)
/-- bytes -/
def run (r : BitVec 32) (cs : List Nat) : BitVec 32 := cs.foldl byteStep r
/-- the sum of bytes behind others -/
def more (sum : BitVec 32) (cs : List Nat) : BitVec 32 := ~~~ (run (~~~ sum) cs)

theorem step_xor (a b : BitVec 32) : step (a ^^^ b) = step a ^^^ step b := by
 unfold step
 rw [BitVec.ushiftRight_xor_distrib, BitVec.getLsbD_xor]
 cases a.getLsbD 0 <;> cases b.getLsbD 0 <;> simp
 ·rw [BitVec.xor_assoc]
 ·rw [BitVec.xor_assoc, BitVec.xor_assoc, BitVec.xor_comm (b >>> 1)]
 ·rw [BitVec.xor_assoc, ← BitVec.xor_assoc 0xedb88320#32, BitVec.xor_comm 0xedb88320#32, BitVec.xor_assoc (b >>> 1), BitVec.xor_self, BitVec.xor_zero]

theorem steps_xor (n : Nat) : ∀ a b : BitVec 32, steps n (a ^^^ b) = steps n a ^^^ steps n b := by
 induction n with
 | zero => intro a b; rfl
 | succ n ih => intro a b; simp only [steps]; rw [step_xor, ih]

theorem steps_add (m n : Nat) : ∀ r, steps (m + n) r = steps n (steps m r) := by
 induction m with
 | zero => intro r; simp [steps]
 | succ m ih => intro r; rw [Nat.succ_add]; simp only [steps]; rw [ih]

theorem step_even (y : BitVec 32) (h : y.getLsbD 0 = false) : step y = y >>> 1 := by
 unfold step
 rw [h]
 simp

theorem low_zero (r : BitVec 32) (i j : Nat) (hi : i + j < 4) : ((r &&& 0xfffffff0#32) >>> i).getLsbD j = false := by
 have h : ∀ k : Fin 4, (0xfffffff0#32).getLsbD k.val = false := by decide
 have := h ⟨i + j, hi⟩
 simp only [BitVec.getLsbD_ushiftRight, BitVec.getLsbD_and]
 simp only at this
 rw [this]; simp

theorem steps_high (r : BitVec 32) : steps 4 (r &&& 0xfffffff0#32) = r >>> 4 := by
 have e1 : step (r &&& 0xfffffff0#32) = (r &&& 0xfffffff0#32) >>> 1 := step_even _ (low_zero r 0 0 (by omega))
 have e2 : step ((r &&& 0xfffffff0#32) >>> 1) = (r &&& 0xfffffff0#32) >>> 2 := by
  rw [step_even _ (low_zero r 1 0 (by omega)), ← BitVec.shiftRight_add]
 have e3 : step ((r &&& 0xfffffff0#32) >>> 2) = (r &&& 0xfffffff0#32) >>> 3 := by
  rw [step_even _ (low_zero r 2 0 (by omega)), ← BitVec.shiftRight_add]
 have e4 : step ((r &&& 0xfffffff0#32) >>> 3) = (r &&& 0xfffffff0#32) >>> 4 := by
  rw [step_even _ (low_zero r 3 0 (by omega)), ← BitVec.shiftRight_add]
 simp only [steps]
 rw [e1, e2, e3, e4, BitVec.ushiftRight_and_distrib]
 apply BitVec.eq_of_getLsbD_eq
 intro i hi
 have h : ∀ k : Fin 28, (0xfffffff0#32 >>> 4).getLsbD k.val = true := by decide
 by_cases hk : i < 28
 ·have := h ⟨i, hk⟩
  simp only at this
  rw [BitVec.getLsbD_and, this, Bool.and_true]
 ·rw [BitVec.getLsbD_and, BitVec.getLsbD_ushiftRight, BitVec.getLsbD_of_ge r (4 + i) (by omega)]
  simp

/-- the table of the program -/
def tab : List Nat := [0, 498536548, 997073096, 651767980, 1994146192, 1802195444, 1303535960, 1342533948, 3988292384, 4027552580, 3604390888, 3412177804, 2607071920, 2262029012, 2685067896, 3183342108]

theorem steps_low : ∀ k : Fin 16, steps 4 (BitVec.ofNat 32 k.val) = BitVec.ofNat 32 (tab.getD k.val 0) := by decide +kernel

theorem split_low (r : BitVec 32) : r = BitVec.ofNat 32 (r.toNat % 16) ^^^ (r &&& 0xfffffff0#32) := by
 have e : BitVec.ofNat 32 (r.toNat % 16) = r &&& 0x0000000f#32 := by
  apply BitVec.eq_of_toNat_eq
  rw [BitVec.toNat_ofNat, BitVec.toNat_and]
  have : (0x0000000f#32).toNat = 2 ^ 4 - 1 := by decide
  rw [this, Nat.and_two_pow_sub_one_eq_mod]
  omega
 rw [e]
 apply BitVec.eq_of_getLsbD_eq
 intro i hi
 have h : ∀ k : Fin 32, (0x0000000f#32).getLsbD k.val = !((0xfffffff0#32).getLsbD k.val) := by decide
 have := h ⟨i, hi⟩
 simp only at this
 simp only [BitVec.getLsbD_xor, BitVec.getLsbD_and, this]
 cases r.getLsbD i <;> cases (0xfffffff0#32).getLsbD i <;> rfl

/-- FOUR SHIFTS BY THE TABLE -/
theorem steps_tab (r : BitVec 32) : (r >>> 4) ^^^ BitVec.ofNat 32 (tab.getD (r.toNat % 16) 0) = steps 4 r := by
 have h := steps_low ⟨r.toNat % 16, Nat.mod_lt _ (by decide)⟩
 simp only at h
 rw [← h, ← steps_high r, ← steps_xor, BitVec.xor_comm]
 exact congrArg (steps 4) (split_low r).symm

/-! rows -/
theorem run_snoc (r : BitVec 32) (a : List Nat) (c : Nat) : run r (a ++ [c]) = byteStep (run r a) c := by simp [run]
theorem more_nil (s : BitVec 32) : more s [] = s := by simp [more, run]
end Go.Proofs.YthgidfoidbgnaaaDoor.Fr.Crc

namespace Go.Proofs.YthgidfoidbgnaaaDoor.Fr
namespace Crc

/-- a word as Go's number -/
def U (a : BitVec 32) : Int := (a.toNat : Int)
/-- a word's lowest four bits -/
def low (a : BitVec 32) : Nat := a.toNat % 16
/-- what the table has for them -/
def tabAt (a : BitVec 32) : BitVec 32 := BitVec.ofNat 32 (tab.getD (low a) 0)

theorem U_xor (a b : BitVec 32) : bits .xor .u32 (U a) (U b) = U (a ^^^ b) := by
 unfold U
 rw [u32_xor_nat _ _ a.isLt b.isLt, BitVec.toNat_xor]
theorem U_byte (a : BitVec 32) (c : Nat) : bits .xor .u32 (U a) ((c : Int) % 4294967296) = U (a ^^^ BitVec.ofNat 32 c) := by
 have e : ((c : Int) % 4294967296) = U (BitVec.ofNat 32 c) := by unfold U; rw [BitVec.toNat_ofNat]; omega
 rw [e, U_xor]
theorem U_not (a : BitVec 32) : bits .xor .u32 IntKind.u32.max (U a) = U (~~~ a) := by
 have e : IntKind.u32.max = U (BitVec.allOnes 32) := by decide
 rw [e, U_xor, BitVec.allOnes_xor]
theorem U_shr4 (a : BitVec 32) : U a / (16 : Int) = U (a >>> 4) := by
 unfold U
 rw [BitVec.toNat_ushiftRight, Nat.shiftRight_eq_div_pow]
 omega
theorem U_and15 (a : BitVec 32) : bits .and .u32 (U a) 15 = (low a : Int) := by
 have := u32_and_nat a.toNat 15 a.isLt (by decide)
 unfold U low
 rw [show ((15 : Nat) : Int) = 15 from rfl] at this
 rw [this, show (15 : Nat) = 2 ^ 4 - 1 from rfl, Nat.and_two_pow_sub_one_eq_mod]
theorem low_lt (a : BitVec 32) : (low a : Int) < 16 := by unfold low; omega
theorem low_lt' (a : BitVec 32) : low a < 16 := by unfold low; omega

/-- one byte, as the program takes it -/
def half (r : BitVec 32) : BitVec 32 := r >>> 4 ^^^ tabAt r
theorem half_half (r : BitVec 32) (c : Nat) : half (half (r ^^^ BitVec.ofNat 32 c)) = byteStep r c := by
 have h : ∀ x, half x = steps 4 x := fun x => steps_tab x
 rw [h, h, ← steps_add]
 rfl
end Crc
end Go.Proofs.YthgidfoidbgnaaaDoor.Fr

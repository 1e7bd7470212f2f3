/- Words of 32 bits as the walk writes them: the register's operations, behind plain names. -/
import Derived.Test.YtofocpmpnjjnkaaDoorR08
import Derived.Laws.BitsAllLaws
namespace Go.Proofs.YtofocpmpnjjnkaaDoor.Fr
namespace Crc

/-- a word as Go's number -/
def U (a : BitVec 32) : Int := (a.toNat : Int)
/-- a word's lowest four bits -/
def low (a : BitVec 32) : Nat := a.toNat % 16
/-- what the table has for them -/
def tabAt (a : BitVec 32) : BitVec 32 := BitVec.ofNat 32 (tab.getD (low a) 0)

theorem U_xor (a b : BitVec 32) : bits .xor .u32 (U a) (U b) = U (a ^^^ b) := by
  unfold U
  rw [u32_xor_nat _ _ a.isLt b.isLt, BitVec.toNat_xor]
theorem U_byte (a : BitVec 32) (c : Nat) : bits .xor .u32 (U a) ((c : Int) % 4294967296) = U (a ^^^ BitVec.ofNat 32 c) := by
  have e : ((c : Int) % 4294967296) = U (BitVec.ofNat 32 c) := by unfold U; rw [BitVec.toNat_ofNat]; omega
  rw [e, U_xor]
theorem U_not (a : BitVec 32) : bits .xor .u32 IntKind.u32.max (U a) = U (~~~ a) := by
  have e : IntKind.u32.max = U (BitVec.allOnes 32) := by decide
  rw [e, U_xor, BitVec.allOnes_xor]
theorem U_shr4 (a : BitVec 32) : U a / (16 : Int) = U (a >>> 4) := by
  unfold U
  rw [BitVec.toNat_ushiftRight, Nat.shiftRight_eq_div_pow]
  omega
theorem U_and15 (a : BitVec 32) : bits .and .u32 (U a) 15 = (low a : Int) := by
  have := u32_and_nat a.toNat 15 a.isLt (by decide)
  unfold U low
  rw [show ((15 : Nat) : Int) = 15 from rfl] at this
  rw [this, show (15 : Nat) = 2 ^ 4 - 1 from rfl, Nat.and_two_pow_sub_one_eq_mod]
theorem low_lt (a : BitVec 32) : (low a : Int) < 16 := by unfold low; omega
theorem low_lt' (a : BitVec 32) : low a < 16 := by unfold low; omega

/-- one byte, as the program takes it -/
def half (r : BitVec 32) : BitVec 32 := r >>> 4 ^^^ tabAt r
theorem half_half (r : BitVec 32) (c : Nat) : half (half (r ^^^ BitVec.ofNat 32 c)) = byteStep r c := by
  have h : ∀ x, half x = steps 4 x := fun x => steps_tab x
  rw [h, h, ← steps_add]
  rfl
end Crc
end Go.Proofs.YtofocpmpnjjnkaaDoor.Fr

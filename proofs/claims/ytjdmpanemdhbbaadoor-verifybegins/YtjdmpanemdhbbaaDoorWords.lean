/- Words of 32 bits as the walk writes them. -/
import Derived.Test.YtjdmpanemdhbbaaDoorMath
import Derived.Laws.BitsAllLaws
namespace Go.Proofs.YtjdmpanemdhbbaaDoor
namespace Sha
/-- a word as Go's number -/
def U (a : BitVec 32) : Int := (a.toNat : Int)
theorem U_nonneg (a : BitVec 32) : 0 ≤ U a := by unfold U; omega
theorem U_lt (a : BitVec 32) : U a < 4294967296 := by unfold U; have := a.isLt; omega
theorem U_inj {a b : BitVec 32} : U a = U b ↔ a = b := by
  unfold U
  rw [Int.ofNat_inj]
  exact ⟨fun h => BitVec.eq_of_toNat_eq h, fun h => by rw [h]⟩
theorem U_xor (a b : BitVec 32) : bits .xor .u32 (U a) (U b) = U (a ^^^ b) := by
  unfold U
  rw [u32_xor_nat _ _ a.isLt b.isLt, BitVec.toNat_xor]
theorem U_and (a b : BitVec 32) : bits .and .u32 (U a) (U b) = U (a &&& b) := by
  unfold U
  rw [u32_and_nat _ _ a.isLt b.isLt, BitVec.toNat_and]
theorem U_or (a b : BitVec 32) : bits .or .u32 (U a) (U b) = U (a ||| b) := by
  unfold U
  rw [u32_or_nat _ _ a.isLt b.isLt, BitVec.toNat_or]
theorem U_not (a : BitVec 32) : bits .xor .u32 IntKind.u32.max (U a) = U (~~~ a) := by
  have e : IntKind.u32.max = U (BitVec.allOnes 32) := by decide
  rw [e, U_xor, BitVec.allOnes_xor]
theorem U_add (a b : BitVec 32) : (U a + U b) % (4294967296 : Int) = U (a + b) := by
  unfold U
  rw [BitVec.toNat_add]
  omega
theorem U_shr (a : BitVec 32) (n : Nat) : U a / (2 : Int) ^ n = U (a >>> n) := by
  unfold U
  rw [BitVec.toNat_ushiftRight, Nat.shiftRight_eq_div_pow, Int.natCast_ediv, Int.natCast_pow]
  rfl
theorem U_shl (a : BitVec 32) (n : Nat) : (U a * (2 : Int) ^ n) % (4294967296 : Int) = U (a <<< n) := by
  unfold U
  rw [BitVec.toNat_shiftLeft, Nat.shiftLeft_eq]
  have : ((a.toNat * 2 ^ n : Nat) : Int) = (a.toNat : Int) * 2 ^ n := by rw [Int.natCast_mul, Int.natCast_pow]; rfl
  rw [← this]
  omega
theorem U_byte (c : Nat) : ((c : Int) % (4294967296 : Int)) = U (BitVec.ofNat 32 c) := by unfold U; rw [BitVec.toNat_ofNat]; omega
end Sha
end Go.Proofs.YtjdmpanemdhbbaaDoor

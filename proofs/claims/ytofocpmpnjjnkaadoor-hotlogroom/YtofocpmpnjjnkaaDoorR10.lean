/- Bits that are turned side by side: what they do to the register; a register that is none of zeros never comes to zeros. -/
import Derived.Test.YtofocpmpnjjnkaaDoorR08
namespace Go.Proofs.YtofocpmpnjjnkaaDoor.Fr.Crc

/-! ### the bits of a number, turned from a place on -/
/-- is the bit i of the number turned? (a place behind the last bit has none) -/
def turns (len at_ : Nat) (x : BitVec 32) (i : Nat) : Bool := decide (at_ + i < 8 * len) && x.getLsbD i
/-- the bytes behind i bits -/
def flipTo (at_ : Nat) (x : BitVec 32) (cs : List Nat) : Nat → List Nat
  | 0 => cs
  | i + 1 => if turns cs.length at_ x i then (flipTo at_ x cs i).set ((at_ + i) / 8) ((flipTo at_ x cs i).getD ((at_ + i) / 8) 0 ^^^ 2 ^ ((at_ + i) % 8)) else flipTo at_ x cs i
/-- was one turned yet? -/
def turnedTo (len at_ : Nat) (x : BitVec 32) : Nat → Bool
  | 0 => false
  | i + 1 => if turns len at_ x i then true else turnedTo len at_ x i
/-- those that were turned -/
def mask (len at_ : Nat) (x : BitVec 32) : Nat → BitVec 32
  | 0 => 0#32
  | i + 1 => if turns len at_ x i then mask len at_ x i ^^^ 1#32 <<< i else mask len at_ x i

end Go.Proofs.YtofocpmpnjjnkaaDoor.Fr.Crc

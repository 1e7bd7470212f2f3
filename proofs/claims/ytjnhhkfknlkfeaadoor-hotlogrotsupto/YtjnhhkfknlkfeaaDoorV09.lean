/- Bits that are turned side by side: what they do to the register; a register that is none of zeros never comes to zeros. The walk of crc.More over bytes in memory: the sum of the document, bit by bit; where the bytes and the table lie is what it asks. -/
import Derived.Test.YtjnhhkfknlkfeaaDoorV08
import Derived.Test.YtjnhhkfknlkfeaaDoorRows
import Derived.WalkKit
import Derived.WalkSpells
import Derived.WalkLawsBesides
namespace Go.Proofs.YtjnhhkfknlkfeaaDoor.Fr.Crc

theorem step_inj0 (a : BitVec 32) (h : step a = 0#32) : a = 0#32 := by
  unfold step at h
  cases h0 : a.getLsbD 0
  · rw [h0] at h
    simp only [Bool.false_eq_true, if_false] at h
    apply BitVec.eq_of_getLsbD_eq
    intro i hi
    cases i with
    | zero => rw [h0]; simp
    | succ j =>
      have := congrArg (fun x => x.getLsbD j) h
      simp only [BitVec.getLsbD_ushiftRight] at this
      rw [show 1 + j = j + 1 from Nat.add_comm 1 j] at this
      rw [this]
      simp
  · rw [h0] at h
    simp only [if_true] at h
    have := congrArg (fun x => x.getLsbD 31) h
    simp only [BitVec.getLsbD_xor, BitVec.getLsbD_ushiftRight] at this
    rw [BitVec.getLsbD_of_ge a (1 + 31) (by omega)] at this
    exact absurd this (by decide)
theorem steps_inj0 (n : Nat) : ∀ a, steps n a = 0#32 → a = 0#32 := by
  induction n with
  | zero => intro a h; exact h
  | succ n ih => intro a h; exact step_inj0 a (ih _ h)
theorem run_xor (cs : List Nat) : ∀ a b : BitVec 32, run (a ^^^ b) cs = run a cs ^^^ steps (8 * cs.length) b := by
  induction cs with
  | nil => intro a b; rfl
  | cons c cs ih =>
    intro a b
    rw [run_cons, run_cons]
    have e : byteStep (a ^^^ b) c = byteStep a c ^^^ steps 8 b := by
      unfold byteStep
      rw [← steps_xor, BitVec.xor_assoc, BitVec.xor_assoc, BitVec.xor_comm b]
    rw [e, ih, ← steps_add, List.length_cons, show 8 + 8 * cs.length = 8 * (cs.length + 1) by omega]

theorem ofNat_xor (a b : Nat) : BitVec.ofNat 32 (a ^^^ b) = BitVec.ofNat 32 a ^^^ BitVec.ofNat 32 b := by
  apply BitVec.eq_of_getLsbD_eq
  intro i hi
  simp [BitVec.getLsbD_ofNat]

/-- one byte is turned by x -/
theorem run_set (cs : List Nat) : ∀ (r : BitVec 32) (p : Nat) (x : Nat), p < cs.length →
    run r (cs.set p (cs.getD p 0 ^^^ x)) = run r cs ^^^ steps (8 * (cs.length - p)) (BitVec.ofNat 32 x) := by
  induction cs with
  | nil => intro r p x h; simp at h
  | cons c cs ih =>
    intro r p x h
    cases p with
    | zero =>
      simp only [List.set_cons_zero, List.getD_cons_zero, run_cons]
      have e : byteStep r (c ^^^ x) = byteStep r c ^^^ steps 8 (BitVec.ofNat 32 x) := by
        unfold byteStep
        rw [ofNat_xor, ← BitVec.xor_assoc, steps_xor]
      rw [e, run_xor, ← steps_add, List.length_cons, show 8 + 8 * cs.length = 8 * (cs.length + 1 - 0) by omega]
    | succ p =>
      simp only [List.set_cons_succ, List.getD_cons_succ, run_cons]
      rw [ih _ p x (by simpa using h), List.length_cons, show cs.length - p = cs.length + 1 - (p + 1) by omega]

/-! ### the bits of a number, turned from a place on -/
/-- is the bit i of the number turned? (a place behind the last bit has none) -/
def turns (len at_ : Nat) (x : BitVec 32) (i : Nat) : Bool := decide (at_ + i < 8 * len) && x.getLsbD i
/-- the bytes behind i bits -/
def flipTo (at_ : Nat) (x : BitVec 32) (cs : List Nat) : Nat → List Nat
  | 0 => cs
  | i + 1 => if turns cs.length at_ x i then (flipTo at_ x cs i).set ((at_ + i) / 8) ((flipTo at_ x cs i).getD ((at_ + i) / 8) 0 ^^^ 2 ^ ((at_ + i) % 8)) else flipTo at_ x cs i
/-- was one turned yet? -/
def turnedTo (len at_ : Nat) (x : BitVec 32) : Nat → Bool
  | 0 => false
  | i + 1 => if turns len at_ x i then true else turnedTo len at_ x i
/-- those that were turned -/
def mask (len at_ : Nat) (x : BitVec 32) : Nat → BitVec 32
  | 0 => 0#32
  | i + 1 => if turns len at_ x i then mask len at_ x i ^^^ 1#32 <<< i else mask len at_ x i

end Go.Proofs.YtjnhhkfknlkfeaaDoor.Fr.Crc

namespace Go.Proofs.YtjnhhkfknlkfeaaDoor.Fr
open Go.RowKit

def intOf : Value → Int | .int _ q => q | _ => 0
/-- the table lies in its place -/
def TabIn (w : World) : Prop := ∀ r : BitVec 32, w.cell? ⟨1, Crc.low r, none⟩ = some (.int .u32 (Crc.U (Crc.tabAt r)))
/-- a row of bytes lies in memory -/
def BytesIn (w : World) (b off : Nat) (cs : List Nat) : Prop := (∀ j : Nat, j < cs.length → w.cell? ⟨b, off + j, none⟩ = some (.int .u8 (cs.getD j 0 : Nat))) ∧ ∀ j : Nat, cs.getD j 0 < 256

theorem run_take (s : BitVec 32) (cs : List Nat) (k : Nat) (h : k < cs.length) : Crc.run s (cs.take (k + 1)) = Crc.half (Crc.half (Crc.run s (cs.take k) ^^^ BitVec.ofNat 32 cs[k])) := by
  rw [List.take_succ_eq_append_getElem h, Crc.run_snoc, Crc.half_half]

attribute [local go_sem] Crc.U_byte Crc.U_xor Crc.U_shr4 Crc.U_and15 Crc.low_lt in
set_option maxHeartbeats 400000 in
theorem more_some (s : BitVec 32) (b off cap : Nat) (cs : List Nat) (w : World) (hmax : cs.length ≤ 9223372036854775807)
    (hc : BytesIn w b off cs) (ht : TabIn w) :
    Calls Tryd.prog 91 #[.int .u32 (Crc.U s), .slice (some ⟨b, off, none⟩) cs.length cap] w fun e w' => e = .returned (.int .u32 (Crc.U (Crc.more s cs))) ∧ w' = w := by
  obtain ⟨hc, hb⟩ := hc
  have ht' : ∀ r : BitVec 32, w.cell? ⟨1, Crc.low r, none⟩ = some (.int .u32 (Crc.U (Crc.tabAt r))) := ht
  go_enter Tryd.func91, Tryd.ntmps91
  go_wp2
  go_loop [5, 7, 12] (fun r c i => ∃ k : Nat, k ≤ cs.length ∧ i = .int .i64 k ∧ r = .int .u32 (Crc.U (Crc.run (~~~ s) (cs.take k)))) (fun _ _ i => cs.length - (intOf i).toNat)
  case atStart => exact ⟨0, Nat.zero_le _, rfl, by rw [Crc.U_not]; rfl⟩
  case round =>
    obtain ⟨k, hk, rfl, rfl⟩ := hrel
    by_cases hlt : k < cs.length
    · have hck := hc k hlt
      have hts := run_take (~~~ s) cs k hlt
      have HS : Hid (Crc.run (~~~ s) (cs.take (k + 1)) = Crc.half (Crc.half (Crc.run (~~~ s) (cs.take k) ^^^ BitVec.ofNat 32 cs[k]))) := hts
      clear hc hb hts
      go_wp2
      go_round
      case rel => exact ⟨k + 1, by omega, by go_num, by rw [HS.out]; rfl⟩
      case measure => simp [intOf]; omega
    · go_wp2
      go_ret
      refine ⟨?_, rfl⟩
      rw [Crc.U_not, show k = cs.length by omega, List.take_length]
      rfl
end Go.Proofs.YtjnhhkfknlkfeaaDoor.Fr

/- Bits that are turned side by side: what they do to the register; a register that is none of zeros never comes to zeros. The walk of crc.More over bytes in memory: the sum of the document, bit by bit; where the bytes and the table lie is what it asks. -/
import Derived.Test.YthgidfoidbgnaaaDoorE08
import Derived.Test.YthgidfoidbgnaaaDoorRows
import Derived.WalkKit
import Derived.WalkSpells
import Derived.WalkLawsBesides
namespace Go.Proofs.YthgidfoidbgnaaaDoor.Fr.Crc

/-! ### the bits of a number, turned from a place on -/
end Go.Proofs.YthgidfoidbgnaaaDoor.Fr.Crc

namespace Go.Proofs.YthgidfoidbgnaaaDoor.Fr
open Go.RowKit

def intOf : Value → Int | .int _ q => q | _ => 0
/-- the table lies in its place -/
def TabIn (w : World) : Prop := ∀ r : BitVec 32, w.cell? ⟨1, Crc.low r, none⟩ = some (.int .u32 (Crc.U (Crc.tabAt r)))
/-- a row of bytes lies in memory -/
def BytesIn (w : World) (b off : Nat) (cs : List Nat) : Prop := (∀ j : Nat, j < cs.length → w.cell? ⟨b, off + j, none⟩ = some (.int .u8 (cs.getD j 0 : Nat))) ∧ ∀ j : Nat, cs.getD j 0 < 256

theorem run_take (s : BitVec 32) (cs : List Nat) (k : Nat) (h : k < cs.length) : Crc.run s (cs.take (k + 1)) = Crc.half (Crc.half (Crc.run s (cs.take k) ^^^ BitVec.ofNat 32 cs[k])) := by
 rw [List.take_succ_eq_append_getElem h, Crc.run_snoc, Crc.half_half]

attribute [local go_sem] Crc.U_byte Crc.U_xor Crc.U_shr4 Crc.U_and15 Crc.low_lt in
set_option maxHeartbeats 400000 in
theorem more_some (s : BitVec 32) (b off cap : Nat) (cs : List Nat) (w : World) (hmax : cs.length ≤ 9223372036854775807)
  (hc : BytesIn w b off cs) (ht : TabIn w) :
  Calls Tryd.prog 91 #[.int .u32 (Crc.U s), .slice (some ⟨b, off, none⟩) cs.length cap] w fun e w' => e = .returned (.int .u32 (Crc.U (Crc.more s cs))) ∧ w' = w := by
 obtain ⟨hc, hb⟩ := hc
 have ht' : ∀ r : BitVec 32, w.cell? ⟨1, Crc.low r, none⟩ = some (.int .u32 (Crc.U (Crc.tabAt r))) := ht
 go_enter Tryd.func91, Tryd.ntmps91
 go_wp2
 go_loop [5, 7, 12] (fun r c i => ∃ k : Nat, k ≤ cs.length ∧ i = .int .i64 k ∧ r = .int .u32 (Crc.U (Crc.run (~~~ s) (cs.take k)))) (fun _ _ i => cs.length - (intOf i).toNat)
 case atStart => exact ⟨0, Nat.zero_le _, rfl, by rw [Crc.U_not]; rfl⟩
 case round =>
  obtain ⟨k, hk, rfl, rfl⟩ := hrel
  by_cases hlt : k < cs.length
  ·have hck := hc k hlt
   have hts := run_take (~~~ s) cs k hlt
   have HS : Hid (Crc.run (~~~ s) (cs.take (k + 1)) = Crc.half (Crc.half (Crc.run (~~~ s) (cs.take k) ^^^ BitVec.ofNat 32 cs[k]))) := hts
   clear hc hb hts
   go_wp2
   go_round
   case rel => exact ⟨k + 1, by omega, by go_num, by rw [HS.out]; rfl⟩
   case measure => simp [intOf]; omega
  ·go_wp2
   go_ret
   refine ⟨?_, rfl⟩
   rw [Crc.U_not, show k = cs.length by omega, List.take_length]
   rfl
end Go.Proofs.YthgidfoidbgnaaaDoor.Fr

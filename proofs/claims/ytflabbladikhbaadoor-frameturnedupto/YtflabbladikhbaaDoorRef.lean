/- The walk of the document's own More, bit by bit, over bytes in memory. -/
import Derived.Test.YtflabbladikhbaaDoorMore
namespace Go.Proofs.YtflabbladikhbaaDoor
open Go.RowKit

attribute [local go_sem] Crc.U_byte in
set_option maxHeartbeats 400000 in
theorem ref_some (s : BitVec 32) (b off cap : Nat) (cs : List Nat) (w : World) (hmax : cs.length ≤ 9223372036854775807)
    (hc : BytesIn w b off cs)  :
    Calls Tryd.prog 27 #[.int .u32 (Crc.U s), .slice (some ⟨b, off, none⟩) cs.length cap] w fun e w' => e = .returned (.int .u32 (Crc.U (Crc.more s cs))) ∧ w' = w := by
  obtain ⟨hc, hb⟩ := hc
  go_enter Tryd.func27, Tryd.ntmps27
  go_wp2
  go_loop [5, 6, 7] (fun r i _ => ∃ k : Nat, k ≤ cs.length ∧ i = .int .i64 k ∧ r = .int .u32 (Crc.U (Crc.run (~~~ s) (cs.take k)))) (fun _ i _ => cs.length - (intOf i).toNat)
  case atStart => exact ⟨0, Nat.zero_le _, rfl, by rw [Crc.U_not]; rfl⟩
  case round =>
    obtain ⟨k, hk, rfl, rfl⟩ := hrel
    by_cases hlt : k < cs.length
    · have hck := hc k hlt
      clear hc hb
      go_wp2
      go_loop [5, 7] (fun r i => ∃ m : Nat, m ≤ 8 ∧ i = .int .i64 m ∧ r = .int .u32 (Crc.U (Crc.steps m (Crc.run (~~~ s) (cs.take k) ^^^ BitVec.ofNat 32 cs[k])))) (fun _ i => 8 - (intOf i).toNat)
      case atStart => exact ⟨0, Nat.zero_le _, rfl, rfl⟩
      case round =>
        obtain ⟨m, hm, rfl, rfl⟩ := hrel
        by_cases hmt : m < 8
        · have hss := Crc.steps_succ m (Crc.run (~~~ s) (cs.take k) ^^^ BitVec.ofNat 32 cs[k])
          generalize Crc.steps m (Crc.run (~~~ s) (cs.take k) ^^^ BitVec.ofNat 32 cs[k]) = x at *
          have HS : Hid (Crc.steps (m + 1) (Crc.run (~~~ s) (cs.take k) ^^^ BitVec.ofNat 32 cs[k]) = Crc.step x) := hss
          clear hss hck
          have hbt := Crc.U_mod2 x
          cases hbit : x.getLsbD 0
          · rw [hbit] at hbt
            have HB : Hid (Crc.U x / (2 : Int) = Crc.U (Crc.step x)) := Crc.U_even x hbit
            clear hbit
            go_wp2
            go_round
            case rel => exact ⟨m + 1, by omega, by go_num, by rw [HS.out, HB.out]⟩
            case measure => simp [intOf]; omega
          · rw [hbit] at hbt
            have HB : Hid (bits .xor .u32 (Crc.U x / (2 : Int)) 3988292384 = Crc.U (Crc.step x)) := Crc.U_odd x hbit
            clear hbit
            go_wp2
            go_round
            case rel => exact ⟨m + 1, by omega, by go_num, by rw [HS.out, HB.out]⟩
            case measure => simp [intOf]; omega
        · have e8 : m = 8 := by omega
          subst e8
          go_wp2
          go_round
          case rel => exact ⟨k + 1, by omega, by go_num, by rw [List.take_succ_eq_append_getElem hlt, Crc.run_snoc]; rfl⟩
          case measure => simp [intOf]; omega
    · go_wp2
      go_ret
      refine ⟨?_, rfl⟩
      rw [Crc.U_not, show k = cs.length by omega, List.take_length]
      rfl
end Go.Proofs.YtflabbladikhbaaDoor

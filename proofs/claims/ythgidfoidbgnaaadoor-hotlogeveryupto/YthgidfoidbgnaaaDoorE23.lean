/- Layer 14: the lowest bit, where there is room in a segment. -/
import Derived.Test.YthgidfoidbgnaaaDoorE22
namespace Go.Proofs.YthgidfoidbgnaaaDoor
open Go.RowKit Go.Maps

set_option maxHeartbeats 4000000 in
set_option maxRecDepth 100000 in
theorem tz_any (w : World) (ht : TzIn w) (s : Nat) (hs : s < 65536) (h0 : s ≠ 0) : Calls Tryd.prog 71 #[.int .u16 (s : Nat)] w fun e w' => e = .returned (.int .i64 (tzAt s : Nat)) ∧ w = w' := by
 have h1 := tz_low hs h0
 have e0 : s &&& (65536 - s) < 65536 := Nat.lt_of_le_of_lt Nat.and_le_left hs
 have HT : Hid (TzIn w ∧ tzIx s < 32 ∧ tzAt s < 16 ∧ 0 < s ∧ s < 65536 ∧ 65536 - s < 65536 ∧ s &&& (65536 - s) < 65536) := ⟨ht, h1.1, h1.2.1, by omega, hs, by omega, e0⟩
 have hne : ((s : Int) == 0) = false := by simp; omega
 clear h1 ht e0
 obtain ⟨PQ, HPQ⟩ : ∃ PQ : Ending → World → Prop, Hid (PQ = fun e w' => e = .returned (.int .i64 (tzAt s : Nat)) ∧ w = w') := ⟨_, rfl⟩
 rw [← HPQ.out]
 clear h0 hs
 go_enter Tryd.func71, Tryd.ntmps71
 go_upto_region 3 with fail
 refine wp_region_lit ?_
 refine wl rfl (.int .u16 (s : Nat)) _ (run_mvZ (.tmp 0) rfl (.int .u16 (s : Nat)) rfl) ?_
 refine wl rfl (.int .u16 (s : Nat)) _ (run_mvZ (.tmp 0) rfl (.int .u16 (s : Nat)) rfl) ?_
 refine wl rfl (.int .u16 ((65536 - s : Nat) : Int)) _ (run_neg16 (.tmp 6) rfl s HT.out.2.2.2.1 HT.out.2.2.2.2.1 rfl) ?_
 refine wl rfl (.int .u16 ((s &&& (65536 - s) : Nat) : Int)) _ (run_and16 (.tmp 5) (.tmp 7) rfl s (65536 - s) HT.out.2.2.2.2.1 HT.out.2.2.2.2.2.1 rfl rfl) ?_
 simp only [Act.put, aS, aC, aZ]
 refine wl rfl (.int .u32 ((s &&& (65536 - s) : Nat) : Int)) _ (run_cv16 (.tmp 8) rfl (s &&& (65536 - s)) HT.out.2.2.2.2.2.2 rfl) ?_
 refine wl rfl (.int .u32 (((s &&& (65536 - s)) * 125613361 % 4294967296 : Nat) : Int)) _ (run_mul32 (.tmp 9) (.const (.int .u32 125613361)) rfl (s &&& (65536 - s)) rfl rfl) ?_
 refine wl rfl (.int .u32 (tzIx s : Nat)) _ (run_shr27 (.tmp 10) (.const (.int .u64 27)) rfl ((s &&& (65536 - s)) * 125613361 % 4294967296) rfl rfl) ?_
 refine wl rfl (.pointer (some ⟨0, tzIx s, none⟩)) _ (run_ixTz (.tmp 11) rfl (tzIx s) rfl HT.out.2.1) ?_
 simp only [Act.put, aS, aC, aZ]
 refine wl rfl (.int .u8 (tzAt s : Nat)) _ (run_load1 o5 (.tmp 12) rfl 0 (tzIx s) rfl (.int .u8 (tzAt s : Nat)) (HT.out.1 (tzIx s) HT.out.2.1)) ?_
 refine wl rfl (.int .i64 (tzAt s : Nat)) _ (run_u8int (.tmp 13) rfl (tzAt s) (Nat.lt_trans HT.out.2.2.1 (by decide)) rfl) ?_
 refine wl rfl (.int .i64 (tzAt s : Nat)) _ (run_asZ (.tmp 14) rfl (.int .i64 (tzAt s : Nat)) rfl) ?_
 simp only [Act.put, aS, aC, aZ]
 refine wpList_nil ?_
 go_wp2_with fail
 rw [HPQ.out]
 exact ⟨rfl, rfl⟩
set_option maxHeartbeats 4000000 in
set_option maxRecDepth 100000 in
theorem find_any (w : World) (ht : TzIn w) (s N : Nat) (hs : s < 65536) (hn : N < 16) : Calls Tryd.prog 59 #[.int .u16 (s : Nat), .int .i64 ((N + 1 : Nat) : Int)] w fun e w' => w = w' ∧ ((moves N s = 0 ∧ e = .returned (.tuple #[.int .i64 0, .bool false])) ∨ (moves N s ≠ 0 ∧ e = .returned (.tuple #[.int .i64 (tzAt (moves N s) : Nat), .bool true]))) := by
 have HT : Hid (TzIn w ∧ s < 65536) := ⟨ht, hs⟩
 clear ht hs
 obtain ⟨PQ, HPQ⟩ : ∃ PQ : Ending → World → Prop, Hid (PQ = fun e w' => w = w' ∧ ((moves N s = 0 ∧ e = .returned (.tuple #[.int .i64 0, .bool false])) ∨ (moves N s ≠ 0 ∧ e = .returned (.tuple #[.int .i64 (tzAt (moves N s) : Nat), .bool true])))) := ⟨_, rfl⟩
 rw [← HPQ.out]
 go_enter Tryd.func59, Tryd.ntmps59
 go_wp2_with fail
 go_loopw [0, 8] (fun vs vi W => ∃ i m : Nat, vi = .int .i64 (i : Nat) ∧ vs = .int .u16 (m : Nat) ∧ i ≤ N ∧ Hid (m = moves i s) ∧ w = W) (fun _ vi _ => N - (intOf vi).toNat)
 case atStart => exact ⟨0, s, rfl, rfl, Nat.zero_le _, rfl, rfl⟩
 case round =>
  obtain ⟨i, m, rfl, rfl, hi, HM, rfl⟩ := hrel
  have hm : m < 65536 := by rw [HM.out]; exact moves_lt i s HT.out.2
  by_cases hlt : i < N
  ·have HA : Hid (bits BinOp.and IntKind.u16 (m : Int) ((m : Int) / 2) = ((m &&& (m >>> 1) : Nat) : Int)) := (by
    show bits BinOp.and IntKind.u16 (m : Int) ((m : Int) / (2 : Int)) = ((m &&& (m >>> 1) : Nat) : Int)
    rw [show ((m : Int) / (2 : Int)) = ((m >>> 1 : Nat) : Int) by rw [Nat.shiftRight_eq_div_pow]; simp]
    exact u16_and_nat m (m >>> 1) hm (by rw [Nat.shiftRight_eq_div_pow]; omega))
   go_wp2_with fail
   refine ⟨⟨i + 1, m &&& (m >>> 1), by go_num, by rw [HA.out], by omega, (by show _ = moves (i + 1) s; rw [HM.out]; rfl), by first | rfl | trivial⟩, ?_⟩
   simp [intOf]; omega
  ·have ei : i = N := by omega
   subst ei
   by_cases h0 : m = 0
   ·subst h0
    go_wp2_with fail
    rw [HPQ.out]
    exact ⟨rfl, Or.inl ⟨HM.out.symm, rfl⟩⟩
   ·have hne : ((m : Int) == 0) = false := by simp; omega
    go_upto_region 7 with fail
    refine wp_region_lit ?_
    refine wl rfl (.int .u16 (m : Nat)) _ (run_mvZ (.tmp 0) rfl (.int .u16 (m : Nat)) rfl) ?_
    simp only [Act.put, aS, aC, aZ]
    refine wpList_callW eN71 [.tmp 17] _ rfl rfl [(.int .u16 (m : Nat))] rfl ?_
    refine (tz_any w HT.out.1 m hm h0).mono ?_
    rintro e w_ ⟨rfl, rfl⟩
    refine ⟨_, rfl, ?_⟩
    simp only [Act.put, aS, aC, aZ]
    refine wl rfl (.int .i64 (tzAt m : Nat)) _ (run_asZ (.tmp 18) rfl (.int .i64 (tzAt m : Nat)) rfl) ?_
    refine wl rfl (.bool true) _ (run_asZ (.const (.bool true)) rfl (.bool true) rfl) ?_
    simp only [Act.put, aS, aC, aZ]
    refine wpList_nil ?_
    go_wp2_with fail
    rw [HPQ.out]
    exact ⟨rfl, Or.inr ⟨by rw [← HM.out]; exact h0, by rw [← HM.out]; rfl⟩⟩

end Go.Proofs.YthgidfoidbgnaaaDoor

/- The document's numbers in bytes. -/
import Derived.Test.YtncjmolhofnpbaaR13
namespace Go.Proofs.Ytncjmolhofnpbaa.Fr
open Go.RowKit

set_option maxHeartbeats 400000 in
theorem put_any (v : Value) (cs : List Nat) (n size base : Nat) (w : World) (h : BOwn w base v cs) (hbase : base ≤ w.heap.size) (hs : size ≤ 8) (hsz : cs.length + size ≤ 140737488355328) :
    Calls Try.prog 24 #[v, .int .i64 (n : Nat), .int .i64 (size : Nat)] w fun e w' => ∃ v', e = .returned v' ∧ BOwn w' base v' (cs ++ Frame.be size n) ∧ Below base w w' := by
  have HO : Hid (BOwn w base v cs) := h
  have HB : Hid (base ≤ w.heap.size) := hbase
  clear h hbase
  go_enter Try.func24, Try.ntmps24
  go_wp2
  go_loopw [0, 7] (fun x i W => ∃ s : Nat, ∃ done : List Nat, s ≤ size ∧ i = .int .i64 ((s : Int) - 1) ∧ BOwn W base x (cs ++ done) ∧ done ++ Frame.be s n = Frame.be size n ∧ Below base w W) (fun _ i _ => (intOf i + 1).toNat)
  case atStart => exact ⟨size, [], Nat.le_refl _, rfl, by rw [List.append_nil]; exact HO.out, rfl, Below.refl _ _⟩
  case round =>
    obtain ⟨s, done, hss, rfl, hx, hd, hbl⟩ := hrel
    have HX : Hid (BOwn wr base u0 (cs ++ done)) := hx
    have HD : Hid (done ++ Frame.be s n = Frame.be size n) := hd
    have HBL : Hid (Below base w wr) := hbl
    clear hx hd hbl
    by_cases h0 : s = 0
    · subst h0
      have HE : Hid (cs ++ done = cs ++ Frame.be size n) := by
        have := HD.out
        rw [Frame.be, List.append_nil] at this
        show _ = _
        rw [this]
      go_wp2
      go_ret
      exact ⟨u0, rfl, by rw [← HE.out]; exact HX.out, HBL.out⟩
    · obtain ⟨t, rfl⟩ : ∃ t, s = t + 1 := ⟨s - 1, by omega⟩
      have HL : Hid (done.length + 1 ≤ size) := by
        have := congrArg List.length HD.out
        rw [List.length_append, Frame.be_length, Frame.be_length] at this
        show _ ≤ _
        omega
      rw [show ((t + 1 : Nat) : Int) - 1 = (t : Int) by omega]
      go_wp2_with (first
        | (refine wpList_lit1 (.tmp 19) rfl rfl (n / 256 ^ t % 256) (Nat.mod_lt _ (by decide)) _ rfl (byte_at n t) ?_; intro v1 w1 s1 b1; have B1 : Hid (Below wr.heap.size wr w1) := b1; clear b1)
        | (refine wpList_append (.tmp 14) (.tmp 20) rfl rfl base u0 v1 (cs ++ done) [n / 256 ^ t % 256] rfl (HX.out.later B1.out (Nat.le_refl _)) rfl s1 (by have := HL.out; rw [List.length_append]; simp; omega) (Nat.le_trans HB.out (Nat.le_trans HBL.out.size B1.out.size)) ?_; intro v2 w2 o2 b2; have O2 : Hid (BOwn w2 base v2 (cs ++ (done ++ [n / 256 ^ t % 256]))) := (by rw [← List.append_assoc]; exact o2); have B2 : Hid (Below base w w2) := HBL.out.trans ((B1.out.mono (Nat.le_trans HB.out HBL.out.size)).trans b2); clear o2 b2 s1 B1))
      refine ⟨⟨t, done ++ [n / 256 ^ t % 256], by omega, by go_num, O2.out, append_snoc_be done t n size HD.out, B2.out⟩, ?_⟩
      simp [intOf]
end Go.Proofs.Ytncjmolhofnpbaa.Fr
namespace Go.Proofs.Ytncjmolhofnpbaa
open Go.RowKit
set_option maxHeartbeats 400000 in
theorem get_any (v : Value) (cs : List Nat) (size : Nat) (w : World) (h : SliceIn w v cs) (hl : size ≤ cs.length) (h6 : size ≤ 6) :
    Calls Try.prog 30 #[v, .int .i64 (size : Nat)] w fun e w' => e = .returned (.int .i64 (Fr.Frame.val (cs.take size) : Nat)) ∧ w = w' := by
  have HI : Hid (SliceIn w v cs) := h
  clear h
  have HL : Hid (size ≤ cs.length) := hl
  clear hl
  go_enter Try.func30, Try.ntmps30
  go_wp2
  go_loopw [5, 6] (fun x i W => ∃ k : Nat, k ≤ size ∧ i = .int .i64 (k : Nat) ∧ x = .int .i64 (Fr.Frame.val (cs.take k) : Nat) ∧ w = W) (fun _ i _ => size - (intOf i).toNat)
  case atStart => exact ⟨0, Nat.zero_le _, rfl, rfl, rfl⟩
  case round =>
    obtain ⟨k, hk, rfl, rfl, hw⟩ := hrel
    subst hw
    by_cases hlt : k < size
    · have t1 : decide ((k : Int) < (size : Int)) = true := decide_eq_true (by omega)
      have HV : Hid (Fr.Frame.val (cs.take (k + 1)) = Fr.Frame.val (cs.take k) * 256 + cs.getD k 0) := by
        show _ = _
        have hkc : k < cs.length := by have := HL.out; omega
        rw [Fr.val_take_succ cs k hkc]
        simp [hkc]
      have hb1 : Fr.Frame.val (cs.take k) < 1099511627776 := by
        have q1 := Fr.Frame.val_lt (cs.take k) (fun c hc => SliceIn.lt256 HI.out c (List.mem_of_mem_take hc))
        have q2 : (cs.take k).length ≤ 5 := by rw [List.length_take]; omega
        have q3 : 256 ^ (cs.take k).length ≤ 256 ^ 5 := Nat.pow_le_pow_right (by decide) q2
        omega
      have hb2 : cs.getD k 0 < 256 := Fr.SliceIn.bytes HI.out k
      generalize Fr.Frame.val (cs.take k) = M at HV hb1 ⊢
      go_wp2_with (first
        | (refine Fr.wpList_index (.tmp 14) (.tmp 15) rfl rfl v cs rfl HI.out k (by have := HL.out; omega) _ rfl rfl ?_; intro bb off _ _ hcell; generalize cs.getD k 0 = c at HV hb2 hcell))
      refine ⟨⟨k + 1, by omega, by go_num, by rw [HV.out]; go_num, by first | rfl | trivial⟩, ?_⟩
      simp [intOf]; omega
    · have t1 : decide ((k : Int) < (size : Int)) = false := decide_eq_false (by omega)
      have ek : k = size := by omega
      subst ek
      go_wp2
      go_ret
      exact ⟨rfl, rfl⟩
end Go.Proofs.Ytncjmolhofnpbaa

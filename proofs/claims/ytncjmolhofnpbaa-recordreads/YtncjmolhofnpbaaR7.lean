/- Whether a record may be: the document. -/
import Derived.Test.YtncjmolhofnpbaaR6
namespace Go.Proofs.Ytncjmolhofnpbaa
open Go.RowKit

set_option maxHeartbeats 4000000 in
theorem may_any (r : Rc) (vc : Value) (w : World) (hf : Fits w r vc) : Calls Try.prog 23 #[.agg (rcells r vc).toArray] w fun e w' => e = .returned (.bool (mayB r)) ∧ Below w.heap.size w w' := by
  have HF : Hid (Fits w r vc) := hf
  clear hf
  have H1 := fun W => refName_any r.id HF.out.id W
  obtain ⟨R, hR⟩ : ∃ R, R = mayB r := ⟨_, rfl⟩
  have HR : R = (nameB r.id && inB r.length 512 && (inB r.index 2147483647 && inB r.expiry 1099511627776 && decide (r.cp.length ≤ 8) && r.cp.all pcB)) := hR
  generalize nameB r.id = b0 at H1 HR
  obtain ⟨n, hn⟩ : ∃ n, n = r.cp.length := ⟨_, rfl⟩
  have HN : Hid (n = r.cp.length ∧ n ≤ 9223372036854775807) := ⟨hn, by rw [hn]; obtain ⟨p, c, _, h, _⟩ := HF.out.cp; exact h.2⟩
  rw [← hn] at HR
  have HR : Hid (R = (b0 && inB r.length 512 && (inB r.index 2147483647 && inB r.expiry 1099511627776 && decide (n ≤ 8) && r.cp.all pcB))) := HR
  obtain ⟨b1, hb1⟩ : ∃ b, decide (r.length < 0) = b := ⟨_, rfl⟩
  have HB1 : Hid (decide (r.length < 0) = b1) := hb1
  clear hb1
  obtain ⟨b2, hb2⟩ : ∃ b, decide ((512 : Int) < r.length) = b := ⟨_, rfl⟩
  have HB2 : Hid (decide ((512 : Int) < r.length) = b2) := hb2
  clear hb2
  obtain ⟨b3, hb3⟩ : ∃ b, decide (r.index < 0) = b := ⟨_, rfl⟩
  have HB3 : Hid (decide (r.index < 0) = b3) := hb3
  clear hb3
  obtain ⟨b4, hb4⟩ : ∃ b, decide ((2147483647 : Int) < r.index) = b := ⟨_, rfl⟩
  have HB4 : Hid (decide ((2147483647 : Int) < r.index) = b4) := hb4
  clear hb4
  obtain ⟨b5, hb5⟩ : ∃ b, decide (r.expiry < 0) = b := ⟨_, rfl⟩
  have HB5 : Hid (decide (r.expiry < 0) = b5) := hb5
  clear hb5
  obtain ⟨b6, hb6⟩ : ∃ b, decide ((1099511627776 : Int) < r.expiry) = b := ⟨_, rfl⟩
  have HB6 : Hid (decide ((1099511627776 : Int) < r.expiry) = b6) := hb6
  clear hb6
  obtain ⟨b7, hb7⟩ : ∃ b, decide ((8 : Int) < (n : Int)) = b := ⟨_, rfl⟩
  have HB7 : Hid (decide ((8 : Int) < (n : Int)) = b7) := hb7
  clear hb7
  have H : Hid (∀ W, Calls Try.prog 14 #[str r.id] W fun e w' => e = .returned (.bool b0) ∧ W = w') := H1
  obtain ⟨PQ, HPQ⟩ : ∃ PQ : Ending → World → Prop, Hid (PQ = fun e w' => e = .returned (.bool R) ∧ Below w.heap.size w w') := ⟨_, rfl⟩
  rw [← hR, ← HPQ.out]
  clear H1 hR hn
  have R0 : Hid (Loc w w []) := Loc.nil (Below.refl _ w)
  go_enter Try.func23, Try.ntmps23
  go_upto_region 0 with fail
  refine wp_region_lit ?_
  refine wl rfl (ptr w.heap.size) _ (run_boxA (.tmp 0) rfl (rcells r vc) rfl) ?_
  have k_ := R0.out.box 26 (rcells r vc)
  obtain ⟨w1, hW_⟩ : ∃ W, W = w.alloc (.cells (rcells r vc).toArray 26) := ⟨_, rfl⟩
  obtain ⟨q, hq_⟩ : ∃ q, q = w.heap.size := ⟨_, rfl⟩
  rw [← hW_, ← hq_] at k_
  rw [← hW_, ← hq_]
  clear hq_
  have Rw1 : Hid (Loc w w1 [(q, 26, rcells r vc)]) := k_
  clear k_ hW_ R0
  simp only [Act.put, List.setIfInBounds_toArray, List.set_cons_succ, List.set_cons_zero]
  refine wl rfl (.bool false) _ (run_asZ (.const (.bool false)) rfl (.bool false) rfl) ?_
  simp only [Act.put, List.setIfInBounds_toArray, List.set_cons_succ, List.set_cons_zero]
  refine wpList_nil ?_
  cases b0 with
  | false =>
    go_upto_region 1 with fail
    refine wp_region_lit ?_
    refine wl rfl (.pointer (some ⟨q, 0 + 0, none⟩)) _ (run_fieldOp' f26_0 (.tmp 1) rfl q (0) rfl) ?_
    simp only [Act.put, List.setIfInBounds_toArray, List.set_cons_succ, List.set_cons_zero]
    refine wl rfl (str r.id) _ (run_load1 o9 (.tmp 5) rfl q (0 + 0) rfl (str r.id) ((Rw1.out.at 0 rfl).at 0 _ (rc0 r vc))) ?_
    simp only [Act.put, List.setIfInBounds_toArray, List.set_cons_succ, List.set_cons_zero]
    refine wpList_callW eN14 [.tmp 6] _ rfl rfl [(str r.id)] rfl ?_
    refine (H.out w1).mono ?_
    rintro e w2 ⟨rfl, rfl⟩
    refine ⟨_, rfl, ?_⟩
    simp only [Act.put, List.setIfInBounds_toArray, List.set_cons_succ, List.set_cons_zero]
    refine wl rfl (.bool true) _ (run_not (.tmp 7) 4 rfl false rfl) ?_
    simp only [Act.put, List.setIfInBounds_toArray, List.set_cons_succ, List.set_cons_zero]
    refine wl rfl (.bool true) _ (run_mvZ (.tmp 8) rfl (.bool true) rfl) ?_
    simp only [Act.put, List.setIfInBounds_toArray, List.set_cons_succ, List.set_cons_zero]
    refine wpList_skip (by kernel_rfl) ?_
    simp only [Act.put, List.setIfInBounds_toArray, List.set_cons_succ, List.set_cons_zero]
    refine wpList_skip (by kernel_rfl) ?_
    simp only [Act.put, List.setIfInBounds_toArray, List.set_cons_succ, List.set_cons_zero]
    refine wpList_skip (by kernel_rfl) ?_
    simp only [Act.put, List.setIfInBounds_toArray, List.set_cons_succ, List.set_cons_zero]
    refine wl rfl (.bool true) _ (run_pickZ (.tmp 9) (.const (.bool true)) (.tmp 12) rfl true (.bool true) rfl rfl) ?_
    simp only [Act.put, List.setIfInBounds_toArray, List.set_cons_succ, List.set_cons_zero]
    refine wl rfl (.bool true) _ (run_mvZ (.tmp 13) rfl (.bool true) rfl) ?_
    simp only [Act.put, List.setIfInBounds_toArray, List.set_cons_succ, List.set_cons_zero]
    refine wpList_skip (by kernel_rfl) ?_
    simp only [Act.put, List.setIfInBounds_toArray, List.set_cons_succ, List.set_cons_zero]
    refine wpList_skip (by kernel_rfl) ?_
    simp only [Act.put, List.setIfInBounds_toArray, List.set_cons_succ, List.set_cons_zero]
    refine wpList_skip (by kernel_rfl) ?_
    simp only [Act.put, List.setIfInBounds_toArray, List.set_cons_succ, List.set_cons_zero]
    refine wl rfl (.bool true) _ (run_pickZ (.tmp 14) (.const (.bool true)) (.tmp 17) rfl true (.bool true) rfl rfl) ?_
    simp only [Act.put, List.setIfInBounds_toArray, List.set_cons_succ, List.set_cons_zero]
    refine wl rfl (.bool true) _ (run_mvZ (.tmp 18) rfl (.bool true) rfl) ?_
    simp only [Act.put, List.setIfInBounds_toArray, List.set_cons_succ, List.set_cons_zero]
    refine wpList_skip (by kernel_rfl) ?_
    simp only [Act.put, List.setIfInBounds_toArray, List.set_cons_succ, List.set_cons_zero]
    refine wpList_skip (by kernel_rfl) ?_
    simp only [Act.put, List.setIfInBounds_toArray, List.set_cons_succ, List.set_cons_zero]
    refine wpList_skip (by kernel_rfl) ?_
    simp only [Act.put, List.setIfInBounds_toArray, List.set_cons_succ, List.set_cons_zero]
    refine wl rfl (.bool true) _ (run_pickZ (.tmp 19) (.const (.bool true)) (.tmp 22) rfl true (.bool true) rfl rfl) ?_
    simp only [Act.put, List.setIfInBounds_toArray, List.set_cons_succ, List.set_cons_zero]
    refine wl rfl (.bool true) _ (run_mvZ (.tmp 23) rfl (.bool true) rfl) ?_
    simp only [Act.put, List.setIfInBounds_toArray, List.set_cons_succ, List.set_cons_zero]
    refine wpList_skip (by kernel_rfl) ?_
    simp only [Act.put, List.setIfInBounds_toArray, List.set_cons_succ, List.set_cons_zero]
    refine wpList_skip (by kernel_rfl) ?_
    simp only [Act.put, List.setIfInBounds_toArray, List.set_cons_succ, List.set_cons_zero]
    refine wpList_skip (by kernel_rfl) ?_
    simp only [Act.put, List.setIfInBounds_toArray, List.set_cons_succ, List.set_cons_zero]
    refine wl rfl (.bool true) _ (run_pickZ (.tmp 24) (.const (.bool true)) (.tmp 27) rfl true (.bool true) rfl rfl) ?_
    simp only [Act.put, List.setIfInBounds_toArray, List.set_cons_succ, List.set_cons_zero]
    refine wl rfl (.bool true) _ (run_mvZ (.tmp 28) rfl (.bool true) rfl) ?_
    simp only [Act.put, List.setIfInBounds_toArray, List.set_cons_succ, List.set_cons_zero]
    refine wpList_skip (by kernel_rfl) ?_
    simp only [Act.put, List.setIfInBounds_toArray, List.set_cons_succ, List.set_cons_zero]
    refine wpList_skip (by kernel_rfl) ?_
    simp only [Act.put, List.setIfInBounds_toArray, List.set_cons_succ, List.set_cons_zero]
    refine wpList_skip (by kernel_rfl) ?_
    simp only [Act.put, List.setIfInBounds_toArray, List.set_cons_succ, List.set_cons_zero]
    refine wl rfl (.bool true) _ (run_pickZ (.tmp 29) (.const (.bool true)) (.tmp 32) rfl true (.bool true) rfl rfl) ?_
    simp only [Act.put, List.setIfInBounds_toArray, List.set_cons_succ, List.set_cons_zero]
    refine wl rfl (.bool true) _ (run_mvZ (.tmp 33) rfl (.bool true) rfl) ?_
    simp only [Act.put, List.setIfInBounds_toArray, List.set_cons_succ, List.set_cons_zero]
    refine wpList_skip (by kernel_rfl) ?_
    simp only [Act.put, List.setIfInBounds_toArray, List.set_cons_succ, List.set_cons_zero]
    refine wpList_skip (by kernel_rfl) ?_
    simp only [Act.put, List.setIfInBounds_toArray, List.set_cons_succ, List.set_cons_zero]
    refine wpList_skip (by kernel_rfl) ?_
    simp only [Act.put, List.setIfInBounds_toArray, List.set_cons_succ, List.set_cons_zero]
    refine wl rfl (.bool true) _ (run_pickZ (.tmp 34) (.const (.bool true)) (.tmp 37) rfl true (.bool true) rfl rfl) ?_
    simp only [Act.put, List.setIfInBounds_toArray, List.set_cons_succ, List.set_cons_zero]
    refine wl rfl (.bool true) _ (run_mvZ (.tmp 38) rfl (.bool true) rfl) ?_
    simp only [Act.put, List.setIfInBounds_toArray, List.set_cons_succ, List.set_cons_zero]
    refine wpList_skip (by kernel_rfl) ?_
    simp only [Act.put, List.setIfInBounds_toArray, List.set_cons_succ, List.set_cons_zero]
    refine wpList_skip (by kernel_rfl) ?_
    simp only [Act.put, List.setIfInBounds_toArray, List.set_cons_succ, List.set_cons_zero]
    refine wpList_skip (by kernel_rfl) ?_
    simp only [Act.put, List.setIfInBounds_toArray, List.set_cons_succ, List.set_cons_zero]
    refine wpList_skip (by kernel_rfl) ?_
    simp only [Act.put, List.setIfInBounds_toArray, List.set_cons_succ, List.set_cons_zero]
    refine wl rfl (.bool true) _ (run_pickZ (.tmp 39) (.const (.bool true)) (.tmp 43) rfl true (.bool true) rfl rfl) ?_
    simp only [Act.put, List.setIfInBounds_toArray, List.set_cons_succ, List.set_cons_zero]
    refine wpList_nil ?_
    have er : R = false := (by rw [HR.out]; rfl)
    subst er
    go_wp2_with fail
    rw [HPQ.out]
    exact ⟨rfl, Rw1.out.below⟩
  | true =>
  cases b1 with
  | true =>
    go_upto_region 1 with fail
    refine wp_region_lit ?_
    refine wl rfl (.pointer (some ⟨q, 0 + 0, none⟩)) _ (run_fieldOp' f26_0 (.tmp 1) rfl q (0) rfl) ?_
    simp only [Act.put, List.setIfInBounds_toArray, List.set_cons_succ, List.set_cons_zero]
    refine wl rfl (str r.id) _ (run_load1 o9 (.tmp 5) rfl q (0 + 0) rfl (str r.id) ((Rw1.out.at 0 rfl).at 0 _ (rc0 r vc))) ?_
    simp only [Act.put, List.setIfInBounds_toArray, List.set_cons_succ, List.set_cons_zero]
    refine wpList_callW eN14 [.tmp 6] _ rfl rfl [(str r.id)] rfl ?_
    refine (H.out w1).mono ?_
    rintro e w2 ⟨rfl, rfl⟩
    refine ⟨_, rfl, ?_⟩
    simp only [Act.put, List.setIfInBounds_toArray, List.set_cons_succ, List.set_cons_zero]
    refine wl rfl (.bool false) _ (run_not (.tmp 7) 4 rfl true rfl) ?_
    simp only [Act.put, List.setIfInBounds_toArray, List.set_cons_succ, List.set_cons_zero]
    refine wl rfl (.bool false) _ (run_mvZ (.tmp 8) rfl (.bool false) rfl) ?_
    simp only [Act.put, List.setIfInBounds_toArray, List.set_cons_succ, List.set_cons_zero]
    refine wl (by kernel_rfl) (.pointer (some ⟨q, 0 + 1, none⟩)) _ (run_fieldOp' f26_1 (.tmp 1) rfl q (0) rfl) ?_
    simp only [Act.put, List.setIfInBounds_toArray, List.set_cons_succ, List.set_cons_zero]
    refine wl (by kernel_rfl) (.int .i64 r.length) _ (run_load1 o3 (.tmp 10) rfl q (0 + 1) rfl (.int .i64 r.length) ((Rw1.out.at 0 rfl).at 1 _ (rc1 r vc))) ?_
    simp only [Act.put, List.setIfInBounds_toArray, List.set_cons_succ, List.set_cons_zero]
    refine wl (by kernel_rfl) (.bool true) _ (run_lssZ (.tmp 11) (.const (.int .i64 0)) rfl r.length 0 rfl rfl true HB1.out) ?_
    simp only [Act.put, List.setIfInBounds_toArray, List.set_cons_succ, List.set_cons_zero]
    refine wl rfl (.bool true) _ (run_pickZ (.tmp 9) (.const (.bool true)) (.tmp 12) rfl false (.bool true) rfl rfl) ?_
    simp only [Act.put, List.setIfInBounds_toArray, List.set_cons_succ, List.set_cons_zero]
    refine wl rfl (.bool true) _ (run_mvZ (.tmp 13) rfl (.bool true) rfl) ?_
    simp only [Act.put, List.setIfInBounds_toArray, List.set_cons_succ, List.set_cons_zero]
    refine wpList_skip (by kernel_rfl) ?_
    simp only [Act.put, List.setIfInBounds_toArray, List.set_cons_succ, List.set_cons_zero]
    refine wpList_skip (by kernel_rfl) ?_
    simp only [Act.put, List.setIfInBounds_toArray, List.set_cons_succ, List.set_cons_zero]
    refine wpList_skip (by kernel_rfl) ?_
    simp only [Act.put, List.setIfInBounds_toArray, List.set_cons_succ, List.set_cons_zero]
    refine wl rfl (.bool true) _ (run_pickZ (.tmp 14) (.const (.bool true)) (.tmp 17) rfl true (.bool true) rfl rfl) ?_
    simp only [Act.put, List.setIfInBounds_toArray, List.set_cons_succ, List.set_cons_zero]
    refine wl rfl (.bool true) _ (run_mvZ (.tmp 18) rfl (.bool true) rfl) ?_
    simp only [Act.put, List.setIfInBounds_toArray, List.set_cons_succ, List.set_cons_zero]
    refine wpList_skip (by kernel_rfl) ?_
    simp only [Act.put, List.setIfInBounds_toArray, List.set_cons_succ, List.set_cons_zero]
    refine wpList_skip (by kernel_rfl) ?_
    simp only [Act.put, List.setIfInBounds_toArray, List.set_cons_succ, List.set_cons_zero]
    refine wpList_skip (by kernel_rfl) ?_
    simp only [Act.put, List.setIfInBounds_toArray, List.set_cons_succ, List.set_cons_zero]
    refine wl rfl (.bool true) _ (run_pickZ (.tmp 19) (.const (.bool true)) (.tmp 22) rfl true (.bool true) rfl rfl) ?_
    simp only [Act.put, List.setIfInBounds_toArray, List.set_cons_succ, List.set_cons_zero]
    refine wl rfl (.bool true) _ (run_mvZ (.tmp 23) rfl (.bool true) rfl) ?_
    simp only [Act.put, List.setIfInBounds_toArray, List.set_cons_succ, List.set_cons_zero]
    refine wpList_skip (by kernel_rfl) ?_
    simp only [Act.put, List.setIfInBounds_toArray, List.set_cons_succ, List.set_cons_zero]
    refine wpList_skip (by kernel_rfl) ?_
    simp only [Act.put, List.setIfInBounds_toArray, List.set_cons_succ, List.set_cons_zero]
    refine wpList_skip (by kernel_rfl) ?_
    simp only [Act.put, List.setIfInBounds_toArray, List.set_cons_succ, List.set_cons_zero]
    refine wl rfl (.bool true) _ (run_pickZ (.tmp 24) (.const (.bool true)) (.tmp 27) rfl true (.bool true) rfl rfl) ?_
    simp only [Act.put, List.setIfInBounds_toArray, List.set_cons_succ, List.set_cons_zero]
    refine wl rfl (.bool true) _ (run_mvZ (.tmp 28) rfl (.bool true) rfl) ?_
    simp only [Act.put, List.setIfInBounds_toArray, List.set_cons_succ, List.set_cons_zero]
    refine wpList_skip (by kernel_rfl) ?_
    simp only [Act.put, List.setIfInBounds_toArray, List.set_cons_succ, List.set_cons_zero]
    refine wpList_skip (by kernel_rfl) ?_
    simp only [Act.put, List.setIfInBounds_toArray, List.set_cons_succ, List.set_cons_zero]
    refine wpList_skip (by kernel_rfl) ?_
    simp only [Act.put, List.setIfInBounds_toArray, List.set_cons_succ, List.set_cons_zero]
    refine wl rfl (.bool true) _ (run_pickZ (.tmp 29) (.const (.bool true)) (.tmp 32) rfl true (.bool true) rfl rfl) ?_
    simp only [Act.put, List.setIfInBounds_toArray, List.set_cons_succ, List.set_cons_zero]
    refine wl rfl (.bool true) _ (run_mvZ (.tmp 33) rfl (.bool true) rfl) ?_
    simp only [Act.put, List.setIfInBounds_toArray, List.set_cons_succ, List.set_cons_zero]
    refine wpList_skip (by kernel_rfl) ?_
    simp only [Act.put, List.setIfInBounds_toArray, List.set_cons_succ, List.set_cons_zero]
    refine wpList_skip (by kernel_rfl) ?_
    simp only [Act.put, List.setIfInBounds_toArray, List.set_cons_succ, List.set_cons_zero]
    refine wpList_skip (by kernel_rfl) ?_
    simp only [Act.put, List.setIfInBounds_toArray, List.set_cons_succ, List.set_cons_zero]
    refine wl rfl (.bool true) _ (run_pickZ (.tmp 34) (.const (.bool true)) (.tmp 37) rfl true (.bool true) rfl rfl) ?_
    simp only [Act.put, List.setIfInBounds_toArray, List.set_cons_succ, List.set_cons_zero]
    refine wl rfl (.bool true) _ (run_mvZ (.tmp 38) rfl (.bool true) rfl) ?_
    simp only [Act.put, List.setIfInBounds_toArray, List.set_cons_succ, List.set_cons_zero]
    refine wpList_skip (by kernel_rfl) ?_
    simp only [Act.put, List.setIfInBounds_toArray, List.set_cons_succ, List.set_cons_zero]
    refine wpList_skip (by kernel_rfl) ?_
    simp only [Act.put, List.setIfInBounds_toArray, List.set_cons_succ, List.set_cons_zero]
    refine wpList_skip (by kernel_rfl) ?_
    simp only [Act.put, List.setIfInBounds_toArray, List.set_cons_succ, List.set_cons_zero]
    refine wpList_skip (by kernel_rfl) ?_
    simp only [Act.put, List.setIfInBounds_toArray, List.set_cons_succ, List.set_cons_zero]
    refine wl rfl (.bool true) _ (run_pickZ (.tmp 39) (.const (.bool true)) (.tmp 43) rfl true (.bool true) rfl rfl) ?_
    simp only [Act.put, List.setIfInBounds_toArray, List.set_cons_succ, List.set_cons_zero]
    refine wpList_nil ?_
    have er : R = false := (by have h := of_decide_eq_true HB1.out; rw [HR.out]; simp [inB]; omega)
    subst er
    go_wp2_with fail
    rw [HPQ.out]
    exact ⟨rfl, Rw1.out.below⟩
  | false =>
  cases b2 with
  | true =>
    go_upto_region 1 with fail
    refine wp_region_lit ?_
    refine wl rfl (.pointer (some ⟨q, 0 + 0, none⟩)) _ (run_fieldOp' f26_0 (.tmp 1) rfl q (0) rfl) ?_
    simp only [Act.put, List.setIfInBounds_toArray, List.set_cons_succ, List.set_cons_zero]
    refine wl rfl (str r.id) _ (run_load1 o9 (.tmp 5) rfl q (0 + 0) rfl (str r.id) ((Rw1.out.at 0 rfl).at 0 _ (rc0 r vc))) ?_
    simp only [Act.put, List.setIfInBounds_toArray, List.set_cons_succ, List.set_cons_zero]
    refine wpList_callW eN14 [.tmp 6] _ rfl rfl [(str r.id)] rfl ?_
    refine (H.out w1).mono ?_
    rintro e w2 ⟨rfl, rfl⟩
    refine ⟨_, rfl, ?_⟩
    simp only [Act.put, List.setIfInBounds_toArray, List.set_cons_succ, List.set_cons_zero]
    refine wl rfl (.bool false) _ (run_not (.tmp 7) 4 rfl true rfl) ?_
    simp only [Act.put, List.setIfInBounds_toArray, List.set_cons_succ, List.set_cons_zero]
    refine wl rfl (.bool false) _ (run_mvZ (.tmp 8) rfl (.bool false) rfl) ?_
    simp only [Act.put, List.setIfInBounds_toArray, List.set_cons_succ, List.set_cons_zero]
    refine wl (by kernel_rfl) (.pointer (some ⟨q, 0 + 1, none⟩)) _ (run_fieldOp' f26_1 (.tmp 1) rfl q (0) rfl) ?_
    simp only [Act.put, List.setIfInBounds_toArray, List.set_cons_succ, List.set_cons_zero]
    refine wl (by kernel_rfl) (.int .i64 r.length) _ (run_load1 o3 (.tmp 10) rfl q (0 + 1) rfl (.int .i64 r.length) ((Rw1.out.at 0 rfl).at 1 _ (rc1 r vc))) ?_
    simp only [Act.put, List.setIfInBounds_toArray, List.set_cons_succ, List.set_cons_zero]
    refine wl (by kernel_rfl) (.bool false) _ (run_lssZ (.tmp 11) (.const (.int .i64 0)) rfl r.length 0 rfl rfl false HB1.out) ?_
    simp only [Act.put, List.setIfInBounds_toArray, List.set_cons_succ, List.set_cons_zero]
    refine wl rfl (.bool false) _ (run_pickZ (.tmp 9) (.const (.bool true)) (.tmp 12) rfl false (.bool false) rfl rfl) ?_
    simp only [Act.put, List.setIfInBounds_toArray, List.set_cons_succ, List.set_cons_zero]
    refine wl rfl (.bool false) _ (run_mvZ (.tmp 13) rfl (.bool false) rfl) ?_
    simp only [Act.put, List.setIfInBounds_toArray, List.set_cons_succ, List.set_cons_zero]
    refine wl (by kernel_rfl) (.pointer (some ⟨q, 0 + 1, none⟩)) _ (run_fieldOp' f26_1 (.tmp 1) rfl q (0) rfl) ?_
    simp only [Act.put, List.setIfInBounds_toArray, List.set_cons_succ, List.set_cons_zero]
    refine wl (by kernel_rfl) (.int .i64 r.length) _ (run_load1 o3 (.tmp 15) rfl q (0 + 1) rfl (.int .i64 r.length) ((Rw1.out.at 0 rfl).at 1 _ (rc1 r vc))) ?_
    simp only [Act.put, List.setIfInBounds_toArray, List.set_cons_succ, List.set_cons_zero]
    refine wl (by kernel_rfl) (.bool true) _ (run_gtrZ (.tmp 16) (.const (.int .i64 512)) rfl r.length 512 rfl rfl true HB2.out) ?_
    simp only [Act.put, List.setIfInBounds_toArray, List.set_cons_succ, List.set_cons_zero]
    refine wl rfl (.bool true) _ (run_pickZ (.tmp 14) (.const (.bool true)) (.tmp 17) rfl false (.bool true) rfl rfl) ?_
    simp only [Act.put, List.setIfInBounds_toArray, List.set_cons_succ, List.set_cons_zero]
    refine wl rfl (.bool true) _ (run_mvZ (.tmp 18) rfl (.bool true) rfl) ?_
    simp only [Act.put, List.setIfInBounds_toArray, List.set_cons_succ, List.set_cons_zero]
    refine wpList_skip (by kernel_rfl) ?_
    simp only [Act.put, List.setIfInBounds_toArray, List.set_cons_succ, List.set_cons_zero]
    refine wpList_skip (by kernel_rfl) ?_
    simp only [Act.put, List.setIfInBounds_toArray, List.set_cons_succ, List.set_cons_zero]
    refine wpList_skip (by kernel_rfl) ?_
    simp only [Act.put, List.setIfInBounds_toArray, List.set_cons_succ, List.set_cons_zero]
    refine wl rfl (.bool true) _ (run_pickZ (.tmp 19) (.const (.bool true)) (.tmp 22) rfl true (.bool true) rfl rfl) ?_
    simp only [Act.put, List.setIfInBounds_toArray, List.set_cons_succ, List.set_cons_zero]
    refine wl rfl (.bool true) _ (run_mvZ (.tmp 23) rfl (.bool true) rfl) ?_
    simp only [Act.put, List.setIfInBounds_toArray, List.set_cons_succ, List.set_cons_zero]
    refine wpList_skip (by kernel_rfl) ?_
    simp only [Act.put, List.setIfInBounds_toArray, List.set_cons_succ, List.set_cons_zero]
    refine wpList_skip (by kernel_rfl) ?_
    simp only [Act.put, List.setIfInBounds_toArray, List.set_cons_succ, List.set_cons_zero]
    refine wpList_skip (by kernel_rfl) ?_
    simp only [Act.put, List.setIfInBounds_toArray, List.set_cons_succ, List.set_cons_zero]
    refine wl rfl (.bool true) _ (run_pickZ (.tmp 24) (.const (.bool true)) (.tmp 27) rfl true (.bool true) rfl rfl) ?_
    simp only [Act.put, List.setIfInBounds_toArray, List.set_cons_succ, List.set_cons_zero]
    refine wl rfl (.bool true) _ (run_mvZ (.tmp 28) rfl (.bool true) rfl) ?_
    simp only [Act.put, List.setIfInBounds_toArray, List.set_cons_succ, List.set_cons_zero]
    refine wpList_skip (by kernel_rfl) ?_
    simp only [Act.put, List.setIfInBounds_toArray, List.set_cons_succ, List.set_cons_zero]
    refine wpList_skip (by kernel_rfl) ?_
    simp only [Act.put, List.setIfInBounds_toArray, List.set_cons_succ, List.set_cons_zero]
    refine wpList_skip (by kernel_rfl) ?_
    simp only [Act.put, List.setIfInBounds_toArray, List.set_cons_succ, List.set_cons_zero]
    refine wl rfl (.bool true) _ (run_pickZ (.tmp 29) (.const (.bool true)) (.tmp 32) rfl true (.bool true) rfl rfl) ?_
    simp only [Act.put, List.setIfInBounds_toArray, List.set_cons_succ, List.set_cons_zero]
    refine wl rfl (.bool true) _ (run_mvZ (.tmp 33) rfl (.bool true) rfl) ?_
    simp only [Act.put, List.setIfInBounds_toArray, List.set_cons_succ, List.set_cons_zero]
    refine wpList_skip (by kernel_rfl) ?_
    simp only [Act.put, List.setIfInBounds_toArray, List.set_cons_succ, List.set_cons_zero]
    refine wpList_skip (by kernel_rfl) ?_
    simp only [Act.put, List.setIfInBounds_toArray, List.set_cons_succ, List.set_cons_zero]
    refine wpList_skip (by kernel_rfl) ?_
    simp only [Act.put, List.setIfInBounds_toArray, List.set_cons_succ, List.set_cons_zero]
    refine wl rfl (.bool true) _ (run_pickZ (.tmp 34) (.const (.bool true)) (.tmp 37) rfl true (.bool true) rfl rfl) ?_
    simp only [Act.put, List.setIfInBounds_toArray, List.set_cons_succ, List.set_cons_zero]
    refine wl rfl (.bool true) _ (run_mvZ (.tmp 38) rfl (.bool true) rfl) ?_
    simp only [Act.put, List.setIfInBounds_toArray, List.set_cons_succ, List.set_cons_zero]
    refine wpList_skip (by kernel_rfl) ?_
    simp only [Act.put, List.setIfInBounds_toArray, List.set_cons_succ, List.set_cons_zero]
    refine wpList_skip (by kernel_rfl) ?_
    simp only [Act.put, List.setIfInBounds_toArray, List.set_cons_succ, List.set_cons_zero]
    refine wpList_skip (by kernel_rfl) ?_
    simp only [Act.put, List.setIfInBounds_toArray, List.set_cons_succ, List.set_cons_zero]
    refine wpList_skip (by kernel_rfl) ?_
    simp only [Act.put, List.setIfInBounds_toArray, List.set_cons_succ, List.set_cons_zero]
    refine wl rfl (.bool true) _ (run_pickZ (.tmp 39) (.const (.bool true)) (.tmp 43) rfl true (.bool true) rfl rfl) ?_
    simp only [Act.put, List.setIfInBounds_toArray, List.set_cons_succ, List.set_cons_zero]
    refine wpList_nil ?_
    have er : R = false := (by have h := of_decide_eq_true HB2.out; rw [HR.out]; simp [inB]; omega)
    subst er
    go_wp2_with fail
    rw [HPQ.out]
    exact ⟨rfl, Rw1.out.below⟩
  | false =>
  cases b3 with
  | true =>
    go_upto_region 1 with fail
    refine wp_region_lit ?_
    refine wl rfl (.pointer (some ⟨q, 0 + 0, none⟩)) _ (run_fieldOp' f26_0 (.tmp 1) rfl q (0) rfl) ?_
    simp only [Act.put, List.setIfInBounds_toArray, List.set_cons_succ, List.set_cons_zero]
    refine wl rfl (str r.id) _ (run_load1 o9 (.tmp 5) rfl q (0 + 0) rfl (str r.id) ((Rw1.out.at 0 rfl).at 0 _ (rc0 r vc))) ?_
    simp only [Act.put, List.setIfInBounds_toArray, List.set_cons_succ, List.set_cons_zero]
    refine wpList_callW eN14 [.tmp 6] _ rfl rfl [(str r.id)] rfl ?_
    refine (H.out w1).mono ?_
    rintro e w2 ⟨rfl, rfl⟩
    refine ⟨_, rfl, ?_⟩
    simp only [Act.put, List.setIfInBounds_toArray, List.set_cons_succ, List.set_cons_zero]
    refine wl rfl (.bool false) _ (run_not (.tmp 7) 4 rfl true rfl) ?_
    simp only [Act.put, List.setIfInBounds_toArray, List.set_cons_succ, List.set_cons_zero]
    refine wl rfl (.bool false) _ (run_mvZ (.tmp 8) rfl (.bool false) rfl) ?_
    simp only [Act.put, List.setIfInBounds_toArray, List.set_cons_succ, List.set_cons_zero]
    refine wl (by kernel_rfl) (.pointer (some ⟨q, 0 + 1, none⟩)) _ (run_fieldOp' f26_1 (.tmp 1) rfl q (0) rfl) ?_
    simp only [Act.put, List.setIfInBounds_toArray, List.set_cons_succ, List.set_cons_zero]
    refine wl (by kernel_rfl) (.int .i64 r.length) _ (run_load1 o3 (.tmp 10) rfl q (0 + 1) rfl (.int .i64 r.length) ((Rw1.out.at 0 rfl).at 1 _ (rc1 r vc))) ?_
    simp only [Act.put, List.setIfInBounds_toArray, List.set_cons_succ, List.set_cons_zero]
    refine wl (by kernel_rfl) (.bool false) _ (run_lssZ (.tmp 11) (.const (.int .i64 0)) rfl r.length 0 rfl rfl false HB1.out) ?_
    simp only [Act.put, List.setIfInBounds_toArray, List.set_cons_succ, List.set_cons_zero]
    refine wl rfl (.bool false) _ (run_pickZ (.tmp 9) (.const (.bool true)) (.tmp 12) rfl false (.bool false) rfl rfl) ?_
    simp only [Act.put, List.setIfInBounds_toArray, List.set_cons_succ, List.set_cons_zero]
    refine wl rfl (.bool false) _ (run_mvZ (.tmp 13) rfl (.bool false) rfl) ?_
    simp only [Act.put, List.setIfInBounds_toArray, List.set_cons_succ, List.set_cons_zero]
    refine wl (by kernel_rfl) (.pointer (some ⟨q, 0 + 1, none⟩)) _ (run_fieldOp' f26_1 (.tmp 1) rfl q (0) rfl) ?_
    simp only [Act.put, List.setIfInBounds_toArray, List.set_cons_succ, List.set_cons_zero]
    refine wl (by kernel_rfl) (.int .i64 r.length) _ (run_load1 o3 (.tmp 15) rfl q (0 + 1) rfl (.int .i64 r.length) ((Rw1.out.at 0 rfl).at 1 _ (rc1 r vc))) ?_
    simp only [Act.put, List.setIfInBounds_toArray, List.set_cons_succ, List.set_cons_zero]
    refine wl (by kernel_rfl) (.bool false) _ (run_gtrZ (.tmp 16) (.const (.int .i64 512)) rfl r.length 512 rfl rfl false HB2.out) ?_
    simp only [Act.put, List.setIfInBounds_toArray, List.set_cons_succ, List.set_cons_zero]
    refine wl rfl (.bool false) _ (run_pickZ (.tmp 14) (.const (.bool true)) (.tmp 17) rfl false (.bool false) rfl rfl) ?_
    simp only [Act.put, List.setIfInBounds_toArray, List.set_cons_succ, List.set_cons_zero]
    refine wl rfl (.bool false) _ (run_mvZ (.tmp 18) rfl (.bool false) rfl) ?_
    simp only [Act.put, List.setIfInBounds_toArray, List.set_cons_succ, List.set_cons_zero]
    refine wl (by kernel_rfl) (.pointer (some ⟨q, 0 + 34, none⟩)) _ (run_fieldOp' f26_3 (.tmp 1) rfl q (0) rfl) ?_
    simp only [Act.put, List.setIfInBounds_toArray, List.set_cons_succ, List.set_cons_zero]
    refine wl (by kernel_rfl) (.int .i64 r.index) _ (run_load1 o3 (.tmp 20) rfl q (0 + 34) rfl (.int .i64 r.index) ((Rw1.out.at 0 rfl).at 34 _ (rcB vc HF.out.root 0))) ?_
    simp only [Act.put, List.setIfInBounds_toArray, List.set_cons_succ, List.set_cons_zero]
    refine wl (by kernel_rfl) (.bool true) _ (run_lssZ (.tmp 21) (.const (.int .i64 0)) rfl r.index 0 rfl rfl true HB3.out) ?_
    simp only [Act.put, List.setIfInBounds_toArray, List.set_cons_succ, List.set_cons_zero]
    refine wl rfl (.bool true) _ (run_pickZ (.tmp 19) (.const (.bool true)) (.tmp 22) rfl false (.bool true) rfl rfl) ?_
    simp only [Act.put, List.setIfInBounds_toArray, List.set_cons_succ, List.set_cons_zero]
    refine wl rfl (.bool true) _ (run_mvZ (.tmp 23) rfl (.bool true) rfl) ?_
    simp only [Act.put, List.setIfInBounds_toArray, List.set_cons_succ, List.set_cons_zero]
    refine wpList_skip (by kernel_rfl) ?_
    simp only [Act.put, List.setIfInBounds_toArray, List.set_cons_succ, List.set_cons_zero]
    refine wpList_skip (by kernel_rfl) ?_
    simp only [Act.put, List.setIfInBounds_toArray, List.set_cons_succ, List.set_cons_zero]
    refine wpList_skip (by kernel_rfl) ?_
    simp only [Act.put, List.setIfInBounds_toArray, List.set_cons_succ, List.set_cons_zero]
    refine wl rfl (.bool true) _ (run_pickZ (.tmp 24) (.const (.bool true)) (.tmp 27) rfl true (.bool true) rfl rfl) ?_
    simp only [Act.put, List.setIfInBounds_toArray, List.set_cons_succ, List.set_cons_zero]
    refine wl rfl (.bool true) _ (run_mvZ (.tmp 28) rfl (.bool true) rfl) ?_
    simp only [Act.put, List.setIfInBounds_toArray, List.set_cons_succ, List.set_cons_zero]
    refine wpList_skip (by kernel_rfl) ?_
    simp only [Act.put, List.setIfInBounds_toArray, List.set_cons_succ, List.set_cons_zero]
    refine wpList_skip (by kernel_rfl) ?_
    simp only [Act.put, List.setIfInBounds_toArray, List.set_cons_succ, List.set_cons_zero]
    refine wpList_skip (by kernel_rfl) ?_
    simp only [Act.put, List.setIfInBounds_toArray, List.set_cons_succ, List.set_cons_zero]
    refine wl rfl (.bool true) _ (run_pickZ (.tmp 29) (.const (.bool true)) (.tmp 32) rfl true (.bool true) rfl rfl) ?_
    simp only [Act.put, List.setIfInBounds_toArray, List.set_cons_succ, List.set_cons_zero]
    refine wl rfl (.bool true) _ (run_mvZ (.tmp 33) rfl (.bool true) rfl) ?_
    simp only [Act.put, List.setIfInBounds_toArray, List.set_cons_succ, List.set_cons_zero]
    refine wpList_skip (by kernel_rfl) ?_
    simp only [Act.put, List.setIfInBounds_toArray, List.set_cons_succ, List.set_cons_zero]
    refine wpList_skip (by kernel_rfl) ?_
    simp only [Act.put, List.setIfInBounds_toArray, List.set_cons_succ, List.set_cons_zero]
    refine wpList_skip (by kernel_rfl) ?_
    simp only [Act.put, List.setIfInBounds_toArray, List.set_cons_succ, List.set_cons_zero]
    refine wl rfl (.bool true) _ (run_pickZ (.tmp 34) (.const (.bool true)) (.tmp 37) rfl true (.bool true) rfl rfl) ?_
    simp only [Act.put, List.setIfInBounds_toArray, List.set_cons_succ, List.set_cons_zero]
    refine wl rfl (.bool true) _ (run_mvZ (.tmp 38) rfl (.bool true) rfl) ?_
    simp only [Act.put, List.setIfInBounds_toArray, List.set_cons_succ, List.set_cons_zero]
    refine wpList_skip (by kernel_rfl) ?_
    simp only [Act.put, List.setIfInBounds_toArray, List.set_cons_succ, List.set_cons_zero]
    refine wpList_skip (by kernel_rfl) ?_
    simp only [Act.put, List.setIfInBounds_toArray, List.set_cons_succ, List.set_cons_zero]
    refine wpList_skip (by kernel_rfl) ?_
    simp only [Act.put, List.setIfInBounds_toArray, List.set_cons_succ, List.set_cons_zero]
    refine wpList_skip (by kernel_rfl) ?_
    simp only [Act.put, List.setIfInBounds_toArray, List.set_cons_succ, List.set_cons_zero]
    refine wl rfl (.bool true) _ (run_pickZ (.tmp 39) (.const (.bool true)) (.tmp 43) rfl true (.bool true) rfl rfl) ?_
    simp only [Act.put, List.setIfInBounds_toArray, List.set_cons_succ, List.set_cons_zero]
    refine wpList_nil ?_
    have er : R = false := (by have h := of_decide_eq_true HB3.out; rw [HR.out]; simp [inB]; omega)
    subst er
    go_wp2_with fail
    rw [HPQ.out]
    exact ⟨rfl, Rw1.out.below⟩
  | false =>
  cases b4 with
  | true =>
    go_upto_region 1 with fail
    refine wp_region_lit ?_
    refine wl rfl (.pointer (some ⟨q, 0 + 0, none⟩)) _ (run_fieldOp' f26_0 (.tmp 1) rfl q (0) rfl) ?_
    simp only [Act.put, List.setIfInBounds_toArray, List.set_cons_succ, List.set_cons_zero]
    refine wl rfl (str r.id) _ (run_load1 o9 (.tmp 5) rfl q (0 + 0) rfl (str r.id) ((Rw1.out.at 0 rfl).at 0 _ (rc0 r vc))) ?_
    simp only [Act.put, List.setIfInBounds_toArray, List.set_cons_succ, List.set_cons_zero]
    refine wpList_callW eN14 [.tmp 6] _ rfl rfl [(str r.id)] rfl ?_
    refine (H.out w1).mono ?_
    rintro e w2 ⟨rfl, rfl⟩
    refine ⟨_, rfl, ?_⟩
    simp only [Act.put, List.setIfInBounds_toArray, List.set_cons_succ, List.set_cons_zero]
    refine wl rfl (.bool false) _ (run_not (.tmp 7) 4 rfl true rfl) ?_
    simp only [Act.put, List.setIfInBounds_toArray, List.set_cons_succ, List.set_cons_zero]
    refine wl rfl (.bool false) _ (run_mvZ (.tmp 8) rfl (.bool false) rfl) ?_
    simp only [Act.put, List.setIfInBounds_toArray, List.set_cons_succ, List.set_cons_zero]
    refine wl (by kernel_rfl) (.pointer (some ⟨q, 0 + 1, none⟩)) _ (run_fieldOp' f26_1 (.tmp 1) rfl q (0) rfl) ?_
    simp only [Act.put, List.setIfInBounds_toArray, List.set_cons_succ, List.set_cons_zero]
    refine wl (by kernel_rfl) (.int .i64 r.length) _ (run_load1 o3 (.tmp 10) rfl q (0 + 1) rfl (.int .i64 r.length) ((Rw1.out.at 0 rfl).at 1 _ (rc1 r vc))) ?_
    simp only [Act.put, List.setIfInBounds_toArray, List.set_cons_succ, List.set_cons_zero]
    refine wl (by kernel_rfl) (.bool false) _ (run_lssZ (.tmp 11) (.const (.int .i64 0)) rfl r.length 0 rfl rfl false HB1.out) ?_
    simp only [Act.put, List.setIfInBounds_toArray, List.set_cons_succ, List.set_cons_zero]
    refine wl rfl (.bool false) _ (run_pickZ (.tmp 9) (.const (.bool true)) (.tmp 12) rfl false (.bool false) rfl rfl) ?_
    simp only [Act.put, List.setIfInBounds_toArray, List.set_cons_succ, List.set_cons_zero]
    refine wl rfl (.bool false) _ (run_mvZ (.tmp 13) rfl (.bool false) rfl) ?_
    simp only [Act.put, List.setIfInBounds_toArray, List.set_cons_succ, List.set_cons_zero]
    refine wl (by kernel_rfl) (.pointer (some ⟨q, 0 + 1, none⟩)) _ (run_fieldOp' f26_1 (.tmp 1) rfl q (0) rfl) ?_
    simp only [Act.put, List.setIfInBounds_toArray, List.set_cons_succ, List.set_cons_zero]
    refine wl (by kernel_rfl) (.int .i64 r.length) _ (run_load1 o3 (.tmp 15) rfl q (0 + 1) rfl (.int .i64 r.length) ((Rw1.out.at 0 rfl).at 1 _ (rc1 r vc))) ?_
    simp only [Act.put, List.setIfInBounds_toArray, List.set_cons_succ, List.set_cons_zero]
    refine wl (by kernel_rfl) (.bool false) _ (run_gtrZ (.tmp 16) (.const (.int .i64 512)) rfl r.length 512 rfl rfl false HB2.out) ?_
    simp only [Act.put, List.setIfInBounds_toArray, List.set_cons_succ, List.set_cons_zero]
    refine wl rfl (.bool false) _ (run_pickZ (.tmp 14) (.const (.bool true)) (.tmp 17) rfl false (.bool false) rfl rfl) ?_
    simp only [Act.put, List.setIfInBounds_toArray, List.set_cons_succ, List.set_cons_zero]
    refine wl rfl (.bool false) _ (run_mvZ (.tmp 18) rfl (.bool false) rfl) ?_
    simp only [Act.put, List.setIfInBounds_toArray, List.set_cons_succ, List.set_cons_zero]
    refine wl (by kernel_rfl) (.pointer (some ⟨q, 0 + 34, none⟩)) _ (run_fieldOp' f26_3 (.tmp 1) rfl q (0) rfl) ?_
    simp only [Act.put, List.setIfInBounds_toArray, List.set_cons_succ, List.set_cons_zero]
    refine wl (by kernel_rfl) (.int .i64 r.index) _ (run_load1 o3 (.tmp 20) rfl q (0 + 34) rfl (.int .i64 r.index) ((Rw1.out.at 0 rfl).at 34 _ (rcB vc HF.out.root 0))) ?_
    simp only [Act.put, List.setIfInBounds_toArray, List.set_cons_succ, List.set_cons_zero]
    refine wl (by kernel_rfl) (.bool false) _ (run_lssZ (.tmp 21) (.const (.int .i64 0)) rfl r.index 0 rfl rfl false HB3.out) ?_
    simp only [Act.put, List.setIfInBounds_toArray, List.set_cons_succ, List.set_cons_zero]
    refine wl rfl (.bool false) _ (run_pickZ (.tmp 19) (.const (.bool true)) (.tmp 22) rfl false (.bool false) rfl rfl) ?_
    simp only [Act.put, List.setIfInBounds_toArray, List.set_cons_succ, List.set_cons_zero]
    refine wl rfl (.bool false) _ (run_mvZ (.tmp 23) rfl (.bool false) rfl) ?_
    simp only [Act.put, List.setIfInBounds_toArray, List.set_cons_succ, List.set_cons_zero]
    refine wl (by kernel_rfl) (.pointer (some ⟨q, 0 + 34, none⟩)) _ (run_fieldOp' f26_3 (.tmp 1) rfl q (0) rfl) ?_
    simp only [Act.put, List.setIfInBounds_toArray, List.set_cons_succ, List.set_cons_zero]
    refine wl (by kernel_rfl) (.int .i64 r.index) _ (run_load1 o3 (.tmp 25) rfl q (0 + 34) rfl (.int .i64 r.index) ((Rw1.out.at 0 rfl).at 34 _ (rcB vc HF.out.root 0))) ?_
    simp only [Act.put, List.setIfInBounds_toArray, List.set_cons_succ, List.set_cons_zero]
    refine wl (by kernel_rfl) (.bool true) _ (run_gtrZ (.tmp 26) (.const (.int .i64 2147483647)) rfl r.index 2147483647 rfl rfl true HB4.out) ?_
    simp only [Act.put, List.setIfInBounds_toArray, List.set_cons_succ, List.set_cons_zero]
    refine wl rfl (.bool true) _ (run_pickZ (.tmp 24) (.const (.bool true)) (.tmp 27) rfl false (.bool true) rfl rfl) ?_
    simp only [Act.put, List.setIfInBounds_toArray, List.set_cons_succ, List.set_cons_zero]
    refine wl rfl (.bool true) _ (run_mvZ (.tmp 28) rfl (.bool true) rfl) ?_
    simp only [Act.put, List.setIfInBounds_toArray, List.set_cons_succ, List.set_cons_zero]
    refine wpList_skip (by kernel_rfl) ?_
    simp only [Act.put, List.setIfInBounds_toArray, List.set_cons_succ, List.set_cons_zero]
    refine wpList_skip (by kernel_rfl) ?_
    simp only [Act.put, List.setIfInBounds_toArray, List.set_cons_succ, List.set_cons_zero]
    refine wpList_skip (by kernel_rfl) ?_
    simp only [Act.put, List.setIfInBounds_toArray, List.set_cons_succ, List.set_cons_zero]
    refine wl rfl (.bool true) _ (run_pickZ (.tmp 29) (.const (.bool true)) (.tmp 32) rfl true (.bool true) rfl rfl) ?_
    simp only [Act.put, List.setIfInBounds_toArray, List.set_cons_succ, List.set_cons_zero]
    refine wl rfl (.bool true) _ (run_mvZ (.tmp 33) rfl (.bool true) rfl) ?_
    simp only [Act.put, List.setIfInBounds_toArray, List.set_cons_succ, List.set_cons_zero]
    refine wpList_skip (by kernel_rfl) ?_
    simp only [Act.put, List.setIfInBounds_toArray, List.set_cons_succ, List.set_cons_zero]
    refine wpList_skip (by kernel_rfl) ?_
    simp only [Act.put, List.setIfInBounds_toArray, List.set_cons_succ, List.set_cons_zero]
    refine wpList_skip (by kernel_rfl) ?_
    simp only [Act.put, List.setIfInBounds_toArray, List.set_cons_succ, List.set_cons_zero]
    refine wl rfl (.bool true) _ (run_pickZ (.tmp 34) (.const (.bool true)) (.tmp 37) rfl true (.bool true) rfl rfl) ?_
    simp only [Act.put, List.setIfInBounds_toArray, List.set_cons_succ, List.set_cons_zero]
    refine wl rfl (.bool true) _ (run_mvZ (.tmp 38) rfl (.bool true) rfl) ?_
    simp only [Act.put, List.setIfInBounds_toArray, List.set_cons_succ, List.set_cons_zero]
    refine wpList_skip (by kernel_rfl) ?_
    simp only [Act.put, List.setIfInBounds_toArray, List.set_cons_succ, List.set_cons_zero]
    refine wpList_skip (by kernel_rfl) ?_
    simp only [Act.put, List.setIfInBounds_toArray, List.set_cons_succ, List.set_cons_zero]
    refine wpList_skip (by kernel_rfl) ?_
    simp only [Act.put, List.setIfInBounds_toArray, List.set_cons_succ, List.set_cons_zero]
    refine wpList_skip (by kernel_rfl) ?_
    simp only [Act.put, List.setIfInBounds_toArray, List.set_cons_succ, List.set_cons_zero]
    refine wl rfl (.bool true) _ (run_pickZ (.tmp 39) (.const (.bool true)) (.tmp 43) rfl true (.bool true) rfl rfl) ?_
    simp only [Act.put, List.setIfInBounds_toArray, List.set_cons_succ, List.set_cons_zero]
    refine wpList_nil ?_
    have er : R = false := (by have h := of_decide_eq_true HB4.out; rw [HR.out]; simp [inB]; omega)
    subst er
    go_wp2_with fail
    rw [HPQ.out]
    exact ⟨rfl, Rw1.out.below⟩
  | false =>
  cases b5 with
  | true =>
    go_upto_region 1 with fail
    refine wp_region_lit ?_
    refine wl rfl (.pointer (some ⟨q, 0 + 0, none⟩)) _ (run_fieldOp' f26_0 (.tmp 1) rfl q (0) rfl) ?_
    simp only [Act.put, List.setIfInBounds_toArray, List.set_cons_succ, List.set_cons_zero]
    refine wl rfl (str r.id) _ (run_load1 o9 (.tmp 5) rfl q (0 + 0) rfl (str r.id) ((Rw1.out.at 0 rfl).at 0 _ (rc0 r vc))) ?_
    simp only [Act.put, List.setIfInBounds_toArray, List.set_cons_succ, List.set_cons_zero]
    refine wpList_callW eN14 [.tmp 6] _ rfl rfl [(str r.id)] rfl ?_
    refine (H.out w1).mono ?_
    rintro e w2 ⟨rfl, rfl⟩
    refine ⟨_, rfl, ?_⟩
    simp only [Act.put, List.setIfInBounds_toArray, List.set_cons_succ, List.set_cons_zero]
    refine wl rfl (.bool false) _ (run_not (.tmp 7) 4 rfl true rfl) ?_
    simp only [Act.put, List.setIfInBounds_toArray, List.set_cons_succ, List.set_cons_zero]
    refine wl rfl (.bool false) _ (run_mvZ (.tmp 8) rfl (.bool false) rfl) ?_
    simp only [Act.put, List.setIfInBounds_toArray, List.set_cons_succ, List.set_cons_zero]
    refine wl (by kernel_rfl) (.pointer (some ⟨q, 0 + 1, none⟩)) _ (run_fieldOp' f26_1 (.tmp 1) rfl q (0) rfl) ?_
    simp only [Act.put, List.setIfInBounds_toArray, List.set_cons_succ, List.set_cons_zero]
    refine wl (by kernel_rfl) (.int .i64 r.length) _ (run_load1 o3 (.tmp 10) rfl q (0 + 1) rfl (.int .i64 r.length) ((Rw1.out.at 0 rfl).at 1 _ (rc1 r vc))) ?_
    simp only [Act.put, List.setIfInBounds_toArray, List.set_cons_succ, List.set_cons_zero]
    refine wl (by kernel_rfl) (.bool false) _ (run_lssZ (.tmp 11) (.const (.int .i64 0)) rfl r.length 0 rfl rfl false HB1.out) ?_
    simp only [Act.put, List.setIfInBounds_toArray, List.set_cons_succ, List.set_cons_zero]
    refine wl rfl (.bool false) _ (run_pickZ (.tmp 9) (.const (.bool true)) (.tmp 12) rfl false (.bool false) rfl rfl) ?_
    simp only [Act.put, List.setIfInBounds_toArray, List.set_cons_succ, List.set_cons_zero]
    refine wl rfl (.bool false) _ (run_mvZ (.tmp 13) rfl (.bool false) rfl) ?_
    simp only [Act.put, List.setIfInBounds_toArray, List.set_cons_succ, List.set_cons_zero]
    refine wl (by kernel_rfl) (.pointer (some ⟨q, 0 + 1, none⟩)) _ (run_fieldOp' f26_1 (.tmp 1) rfl q (0) rfl) ?_
    simp only [Act.put, List.setIfInBounds_toArray, List.set_cons_succ, List.set_cons_zero]
    refine wl (by kernel_rfl) (.int .i64 r.length) _ (run_load1 o3 (.tmp 15) rfl q (0 + 1) rfl (.int .i64 r.length) ((Rw1.out.at 0 rfl).at 1 _ (rc1 r vc))) ?_
    simp only [Act.put, List.setIfInBounds_toArray, List.set_cons_succ, List.set_cons_zero]
    refine wl (by kernel_rfl) (.bool false) _ (run_gtrZ (.tmp 16) (.const (.int .i64 512)) rfl r.length 512 rfl rfl false HB2.out) ?_
    simp only [Act.put, List.setIfInBounds_toArray, List.set_cons_succ, List.set_cons_zero]
    refine wl rfl (.bool false) _ (run_pickZ (.tmp 14) (.const (.bool true)) (.tmp 17) rfl false (.bool false) rfl rfl) ?_
    simp only [Act.put, List.setIfInBounds_toArray, List.set_cons_succ, List.set_cons_zero]
    refine wl rfl (.bool false) _ (run_mvZ (.tmp 18) rfl (.bool false) rfl) ?_
    simp only [Act.put, List.setIfInBounds_toArray, List.set_cons_succ, List.set_cons_zero]
    refine wl (by kernel_rfl) (.pointer (some ⟨q, 0 + 34, none⟩)) _ (run_fieldOp' f26_3 (.tmp 1) rfl q (0) rfl) ?_
    simp only [Act.put, List.setIfInBounds_toArray, List.set_cons_succ, List.set_cons_zero]
    refine wl (by kernel_rfl) (.int .i64 r.index) _ (run_load1 o3 (.tmp 20) rfl q (0 + 34) rfl (.int .i64 r.index) ((Rw1.out.at 0 rfl).at 34 _ (rcB vc HF.out.root 0))) ?_
    simp only [Act.put, List.setIfInBounds_toArray, List.set_cons_succ, List.set_cons_zero]
    refine wl (by kernel_rfl) (.bool false) _ (run_lssZ (.tmp 21) (.const (.int .i64 0)) rfl r.index 0 rfl rfl false HB3.out) ?_
    simp only [Act.put, List.setIfInBounds_toArray, List.set_cons_succ, List.set_cons_zero]
    refine wl rfl (.bool false) _ (run_pickZ (.tmp 19) (.const (.bool true)) (.tmp 22) rfl false (.bool false) rfl rfl) ?_
    simp only [Act.put, List.setIfInBounds_toArray, List.set_cons_succ, List.set_cons_zero]
    refine wl rfl (.bool false) _ (run_mvZ (.tmp 23) rfl (.bool false) rfl) ?_
    simp only [Act.put, List.setIfInBounds_toArray, List.set_cons_succ, List.set_cons_zero]
    refine wl (by kernel_rfl) (.pointer (some ⟨q, 0 + 34, none⟩)) _ (run_fieldOp' f26_3 (.tmp 1) rfl q (0) rfl) ?_
    simp only [Act.put, List.setIfInBounds_toArray, List.set_cons_succ, List.set_cons_zero]
    refine wl (by kernel_rfl) (.int .i64 r.index) _ (run_load1 o3 (.tmp 25) rfl q (0 + 34) rfl (.int .i64 r.index) ((Rw1.out.at 0 rfl).at 34 _ (rcB vc HF.out.root 0))) ?_
    simp only [Act.put, List.setIfInBounds_toArray, List.set_cons_succ, List.set_cons_zero]
    refine wl (by kernel_rfl) (.bool false) _ (run_gtrZ (.tmp 26) (.const (.int .i64 2147483647)) rfl r.index 2147483647 rfl rfl false HB4.out) ?_
    simp only [Act.put, List.setIfInBounds_toArray, List.set_cons_succ, List.set_cons_zero]
    refine wl rfl (.bool false) _ (run_pickZ (.tmp 24) (.const (.bool true)) (.tmp 27) rfl false (.bool false) rfl rfl) ?_
    simp only [Act.put, List.setIfInBounds_toArray, List.set_cons_succ, List.set_cons_zero]
    refine wl rfl (.bool false) _ (run_mvZ (.tmp 28) rfl (.bool false) rfl) ?_
    simp only [Act.put, List.setIfInBounds_toArray, List.set_cons_succ, List.set_cons_zero]
    refine wl (by kernel_rfl) (.pointer (some ⟨q, 0 + 35, none⟩)) _ (run_fieldOp' f26_4 (.tmp 1) rfl q (0) rfl) ?_
    simp only [Act.put, List.setIfInBounds_toArray, List.set_cons_succ, List.set_cons_zero]
    refine wl (by kernel_rfl) (.int .i64 r.expiry) _ (run_load1 o3 (.tmp 30) rfl q (0 + 35) rfl (.int .i64 r.expiry) ((Rw1.out.at 0 rfl).at 35 _ (rcB vc HF.out.root 1))) ?_
    simp only [Act.put, List.setIfInBounds_toArray, List.set_cons_succ, List.set_cons_zero]
    refine wl (by kernel_rfl) (.bool true) _ (run_lssZ (.tmp 31) (.const (.int .i64 0)) rfl r.expiry 0 rfl rfl true HB5.out) ?_
    simp only [Act.put, List.setIfInBounds_toArray, List.set_cons_succ, List.set_cons_zero]
    refine wl rfl (.bool true) _ (run_pickZ (.tmp 29) (.const (.bool true)) (.tmp 32) rfl false (.bool true) rfl rfl) ?_
    simp only [Act.put, List.setIfInBounds_toArray, List.set_cons_succ, List.set_cons_zero]
    refine wl rfl (.bool true) _ (run_mvZ (.tmp 33) rfl (.bool true) rfl) ?_
    simp only [Act.put, List.setIfInBounds_toArray, List.set_cons_succ, List.set_cons_zero]
    refine wpList_skip (by kernel_rfl) ?_
    simp only [Act.put, List.setIfInBounds_toArray, List.set_cons_succ, List.set_cons_zero]
    refine wpList_skip (by kernel_rfl) ?_
    simp only [Act.put, List.setIfInBounds_toArray, List.set_cons_succ, List.set_cons_zero]
    refine wpList_skip (by kernel_rfl) ?_
    simp only [Act.put, List.setIfInBounds_toArray, List.set_cons_succ, List.set_cons_zero]
    refine wl rfl (.bool true) _ (run_pickZ (.tmp 34) (.const (.bool true)) (.tmp 37) rfl true (.bool true) rfl rfl) ?_
    simp only [Act.put, List.setIfInBounds_toArray, List.set_cons_succ, List.set_cons_zero]
    refine wl rfl (.bool true) _ (run_mvZ (.tmp 38) rfl (.bool true) rfl) ?_
    simp only [Act.put, List.setIfInBounds_toArray, List.set_cons_succ, List.set_cons_zero]
    refine wpList_skip (by kernel_rfl) ?_
    simp only [Act.put, List.setIfInBounds_toArray, List.set_cons_succ, List.set_cons_zero]
    refine wpList_skip (by kernel_rfl) ?_
    simp only [Act.put, List.setIfInBounds_toArray, List.set_cons_succ, List.set_cons_zero]
    refine wpList_skip (by kernel_rfl) ?_
    simp only [Act.put, List.setIfInBounds_toArray, List.set_cons_succ, List.set_cons_zero]
    refine wpList_skip (by kernel_rfl) ?_
    simp only [Act.put, List.setIfInBounds_toArray, List.set_cons_succ, List.set_cons_zero]
    refine wl rfl (.bool true) _ (run_pickZ (.tmp 39) (.const (.bool true)) (.tmp 43) rfl true (.bool true) rfl rfl) ?_
    simp only [Act.put, List.setIfInBounds_toArray, List.set_cons_succ, List.set_cons_zero]
    refine wpList_nil ?_
    have er : R = false := (by have h := of_decide_eq_true HB5.out; rw [HR.out]; simp [inB]; omega)
    subst er
    go_wp2_with fail
    rw [HPQ.out]
    exact ⟨rfl, Rw1.out.below⟩
  | false =>
  cases b6 with
  | true =>
    go_upto_region 1 with fail
    refine wp_region_lit ?_
    refine wl rfl (.pointer (some ⟨q, 0 + 0, none⟩)) _ (run_fieldOp' f26_0 (.tmp 1) rfl q (0) rfl) ?_
    simp only [Act.put, List.setIfInBounds_toArray, List.set_cons_succ, List.set_cons_zero]
    refine wl rfl (str r.id) _ (run_load1 o9 (.tmp 5) rfl q (0 + 0) rfl (str r.id) ((Rw1.out.at 0 rfl).at 0 _ (rc0 r vc))) ?_
    simp only [Act.put, List.setIfInBounds_toArray, List.set_cons_succ, List.set_cons_zero]
    refine wpList_callW eN14 [.tmp 6] _ rfl rfl [(str r.id)] rfl ?_
    refine (H.out w1).mono ?_
    rintro e w2 ⟨rfl, rfl⟩
    refine ⟨_, rfl, ?_⟩
    simp only [Act.put, List.setIfInBounds_toArray, List.set_cons_succ, List.set_cons_zero]
    refine wl rfl (.bool false) _ (run_not (.tmp 7) 4 rfl true rfl) ?_
    simp only [Act.put, List.setIfInBounds_toArray, List.set_cons_succ, List.set_cons_zero]
    refine wl rfl (.bool false) _ (run_mvZ (.tmp 8) rfl (.bool false) rfl) ?_
    simp only [Act.put, List.setIfInBounds_toArray, List.set_cons_succ, List.set_cons_zero]
    refine wl (by kernel_rfl) (.pointer (some ⟨q, 0 + 1, none⟩)) _ (run_fieldOp' f26_1 (.tmp 1) rfl q (0) rfl) ?_
    simp only [Act.put, List.setIfInBounds_toArray, List.set_cons_succ, List.set_cons_zero]
    refine wl (by kernel_rfl) (.int .i64 r.length) _ (run_load1 o3 (.tmp 10) rfl q (0 + 1) rfl (.int .i64 r.length) ((Rw1.out.at 0 rfl).at 1 _ (rc1 r vc))) ?_
    simp only [Act.put, List.setIfInBounds_toArray, List.set_cons_succ, List.set_cons_zero]
    refine wl (by kernel_rfl) (.bool false) _ (run_lssZ (.tmp 11) (.const (.int .i64 0)) rfl r.length 0 rfl rfl false HB1.out) ?_
    simp only [Act.put, List.setIfInBounds_toArray, List.set_cons_succ, List.set_cons_zero]
    refine wl rfl (.bool false) _ (run_pickZ (.tmp 9) (.const (.bool true)) (.tmp 12) rfl false (.bool false) rfl rfl) ?_
    simp only [Act.put, List.setIfInBounds_toArray, List.set_cons_succ, List.set_cons_zero]
    refine wl rfl (.bool false) _ (run_mvZ (.tmp 13) rfl (.bool false) rfl) ?_
    simp only [Act.put, List.setIfInBounds_toArray, List.set_cons_succ, List.set_cons_zero]
    refine wl (by kernel_rfl) (.pointer (some ⟨q, 0 + 1, none⟩)) _ (run_fieldOp' f26_1 (.tmp 1) rfl q (0) rfl) ?_
    simp only [Act.put, List.setIfInBounds_toArray, List.set_cons_succ, List.set_cons_zero]
    refine wl (by kernel_rfl) (.int .i64 r.length) _ (run_load1 o3 (.tmp 15) rfl q (0 + 1) rfl (.int .i64 r.length) ((Rw1.out.at 0 rfl).at 1 _ (rc1 r vc))) ?_
    simp only [Act.put, List.setIfInBounds_toArray, List.set_cons_succ, List.set_cons_zero]
    refine wl (by kernel_rfl) (.bool false) _ (run_gtrZ (.tmp 16) (.const (.int .i64 512)) rfl r.length 512 rfl rfl false HB2.out) ?_
    simp only [Act.put, List.setIfInBounds_toArray, List.set_cons_succ, List.set_cons_zero]
    refine wl rfl (.bool false) _ (run_pickZ (.tmp 14) (.const (.bool true)) (.tmp 17) rfl false (.bool false) rfl rfl) ?_
    simp only [Act.put, List.setIfInBounds_toArray, List.set_cons_succ, List.set_cons_zero]
    refine wl rfl (.bool false) _ (run_mvZ (.tmp 18) rfl (.bool false) rfl) ?_
    simp only [Act.put, List.setIfInBounds_toArray, List.set_cons_succ, List.set_cons_zero]
    refine wl (by kernel_rfl) (.pointer (some ⟨q, 0 + 34, none⟩)) _ (run_fieldOp' f26_3 (.tmp 1) rfl q (0) rfl) ?_
    simp only [Act.put, List.setIfInBounds_toArray, List.set_cons_succ, List.set_cons_zero]
    refine wl (by kernel_rfl) (.int .i64 r.index) _ (run_load1 o3 (.tmp 20) rfl q (0 + 34) rfl (.int .i64 r.index) ((Rw1.out.at 0 rfl).at 34 _ (rcB vc HF.out.root 0))) ?_
    simp only [Act.put, List.setIfInBounds_toArray, List.set_cons_succ, List.set_cons_zero]
    refine wl (by kernel_rfl) (.bool false) _ (run_lssZ (.tmp 21) (.const (.int .i64 0)) rfl r.index 0 rfl rfl false HB3.out) ?_
    simp only [Act.put, List.setIfInBounds_toArray, List.set_cons_succ, List.set_cons_zero]
    refine wl rfl (.bool false) _ (run_pickZ (.tmp 19) (.const (.bool true)) (.tmp 22) rfl false (.bool false) rfl rfl) ?_
    simp only [Act.put, List.setIfInBounds_toArray, List.set_cons_succ, List.set_cons_zero]
    refine wl rfl (.bool false) _ (run_mvZ (.tmp 23) rfl (.bool false) rfl) ?_
    simp only [Act.put, List.setIfInBounds_toArray, List.set_cons_succ, List.set_cons_zero]
    refine wl (by kernel_rfl) (.pointer (some ⟨q, 0 + 34, none⟩)) _ (run_fieldOp' f26_3 (.tmp 1) rfl q (0) rfl) ?_
    simp only [Act.put, List.setIfInBounds_toArray, List.set_cons_succ, List.set_cons_zero]
    refine wl (by kernel_rfl) (.int .i64 r.index) _ (run_load1 o3 (.tmp 25) rfl q (0 + 34) rfl (.int .i64 r.index) ((Rw1.out.at 0 rfl).at 34 _ (rcB vc HF.out.root 0))) ?_
    simp only [Act.put, List.setIfInBounds_toArray, List.set_cons_succ, List.set_cons_zero]
    refine wl (by kernel_rfl) (.bool false) _ (run_gtrZ (.tmp 26) (.const (.int .i64 2147483647)) rfl r.index 2147483647 rfl rfl false HB4.out) ?_
    simp only [Act.put, List.setIfInBounds_toArray, List.set_cons_succ, List.set_cons_zero]
    refine wl rfl (.bool false) _ (run_pickZ (.tmp 24) (.const (.bool true)) (.tmp 27) rfl false (.bool false) rfl rfl) ?_
    simp only [Act.put, List.setIfInBounds_toArray, List.set_cons_succ, List.set_cons_zero]
    refine wl rfl (.bool false) _ (run_mvZ (.tmp 28) rfl (.bool false) rfl) ?_
    simp only [Act.put, List.setIfInBounds_toArray, List.set_cons_succ, List.set_cons_zero]
    refine wl (by kernel_rfl) (.pointer (some ⟨q, 0 + 35, none⟩)) _ (run_fieldOp' f26_4 (.tmp 1) rfl q (0) rfl) ?_
    simp only [Act.put, List.setIfInBounds_toArray, List.set_cons_succ, List.set_cons_zero]
    refine wl (by kernel_rfl) (.int .i64 r.expiry) _ (run_load1 o3 (.tmp 30) rfl q (0 + 35) rfl (.int .i64 r.expiry) ((Rw1.out.at 0 rfl).at 35 _ (rcB vc HF.out.root 1))) ?_
    simp only [Act.put, List.setIfInBounds_toArray, List.set_cons_succ, List.set_cons_zero]
    refine wl (by kernel_rfl) (.bool false) _ (run_lssZ (.tmp 31) (.const (.int .i64 0)) rfl r.expiry 0 rfl rfl false HB5.out) ?_
    simp only [Act.put, List.setIfInBounds_toArray, List.set_cons_succ, List.set_cons_zero]
    refine wl rfl (.bool false) _ (run_pickZ (.tmp 29) (.const (.bool true)) (.tmp 32) rfl false (.bool false) rfl rfl) ?_
    simp only [Act.put, List.setIfInBounds_toArray, List.set_cons_succ, List.set_cons_zero]
    refine wl rfl (.bool false) _ (run_mvZ (.tmp 33) rfl (.bool false) rfl) ?_
    simp only [Act.put, List.setIfInBounds_toArray, List.set_cons_succ, List.set_cons_zero]
    refine wl (by kernel_rfl) (.pointer (some ⟨q, 0 + 35, none⟩)) _ (run_fieldOp' f26_4 (.tmp 1) rfl q (0) rfl) ?_
    simp only [Act.put, List.setIfInBounds_toArray, List.set_cons_succ, List.set_cons_zero]
    refine wl (by kernel_rfl) (.int .i64 r.expiry) _ (run_load1 o3 (.tmp 35) rfl q (0 + 35) rfl (.int .i64 r.expiry) ((Rw1.out.at 0 rfl).at 35 _ (rcB vc HF.out.root 1))) ?_
    simp only [Act.put, List.setIfInBounds_toArray, List.set_cons_succ, List.set_cons_zero]
    refine wl (by kernel_rfl) (.bool true) _ (run_gtrZ (.tmp 36) (.const (.int .i64 1099511627776)) rfl r.expiry 1099511627776 rfl rfl true HB6.out) ?_
    simp only [Act.put, List.setIfInBounds_toArray, List.set_cons_succ, List.set_cons_zero]
    refine wl rfl (.bool true) _ (run_pickZ (.tmp 34) (.const (.bool true)) (.tmp 37) rfl false (.bool true) rfl rfl) ?_
    simp only [Act.put, List.setIfInBounds_toArray, List.set_cons_succ, List.set_cons_zero]
    refine wl rfl (.bool true) _ (run_mvZ (.tmp 38) rfl (.bool true) rfl) ?_
    simp only [Act.put, List.setIfInBounds_toArray, List.set_cons_succ, List.set_cons_zero]
    refine wpList_skip (by kernel_rfl) ?_
    simp only [Act.put, List.setIfInBounds_toArray, List.set_cons_succ, List.set_cons_zero]
    refine wpList_skip (by kernel_rfl) ?_
    simp only [Act.put, List.setIfInBounds_toArray, List.set_cons_succ, List.set_cons_zero]
    refine wpList_skip (by kernel_rfl) ?_
    simp only [Act.put, List.setIfInBounds_toArray, List.set_cons_succ, List.set_cons_zero]
    refine wpList_skip (by kernel_rfl) ?_
    simp only [Act.put, List.setIfInBounds_toArray, List.set_cons_succ, List.set_cons_zero]
    refine wl rfl (.bool true) _ (run_pickZ (.tmp 39) (.const (.bool true)) (.tmp 43) rfl true (.bool true) rfl rfl) ?_
    simp only [Act.put, List.setIfInBounds_toArray, List.set_cons_succ, List.set_cons_zero]
    refine wpList_nil ?_
    have er : R = false := (by have h := of_decide_eq_true HB6.out; rw [HR.out]; simp [inB]; omega)
    subst er
    go_wp2_with fail
    rw [HPQ.out]
    exact ⟨rfl, Rw1.out.below⟩
  | false =>
  cases b7 with
  | true =>
    go_upto_region 1 with fail
    refine wp_region_lit ?_
    refine wl rfl (.pointer (some ⟨q, 0 + 0, none⟩)) _ (run_fieldOp' f26_0 (.tmp 1) rfl q (0) rfl) ?_
    simp only [Act.put, List.setIfInBounds_toArray, List.set_cons_succ, List.set_cons_zero]
    refine wl rfl (str r.id) _ (run_load1 o9 (.tmp 5) rfl q (0 + 0) rfl (str r.id) ((Rw1.out.at 0 rfl).at 0 _ (rc0 r vc))) ?_
    simp only [Act.put, List.setIfInBounds_toArray, List.set_cons_succ, List.set_cons_zero]
    refine wpList_callW eN14 [.tmp 6] _ rfl rfl [(str r.id)] rfl ?_
    refine (H.out w1).mono ?_
    rintro e w2 ⟨rfl, rfl⟩
    refine ⟨_, rfl, ?_⟩
    simp only [Act.put, List.setIfInBounds_toArray, List.set_cons_succ, List.set_cons_zero]
    refine wl rfl (.bool false) _ (run_not (.tmp 7) 4 rfl true rfl) ?_
    simp only [Act.put, List.setIfInBounds_toArray, List.set_cons_succ, List.set_cons_zero]
    refine wl rfl (.bool false) _ (run_mvZ (.tmp 8) rfl (.bool false) rfl) ?_
    simp only [Act.put, List.setIfInBounds_toArray, List.set_cons_succ, List.set_cons_zero]
    refine wl (by kernel_rfl) (.pointer (some ⟨q, 0 + 1, none⟩)) _ (run_fieldOp' f26_1 (.tmp 1) rfl q (0) rfl) ?_
    simp only [Act.put, List.setIfInBounds_toArray, List.set_cons_succ, List.set_cons_zero]
    refine wl (by kernel_rfl) (.int .i64 r.length) _ (run_load1 o3 (.tmp 10) rfl q (0 + 1) rfl (.int .i64 r.length) ((Rw1.out.at 0 rfl).at 1 _ (rc1 r vc))) ?_
    simp only [Act.put, List.setIfInBounds_toArray, List.set_cons_succ, List.set_cons_zero]
    refine wl (by kernel_rfl) (.bool false) _ (run_lssZ (.tmp 11) (.const (.int .i64 0)) rfl r.length 0 rfl rfl false HB1.out) ?_
    simp only [Act.put, List.setIfInBounds_toArray, List.set_cons_succ, List.set_cons_zero]
    refine wl rfl (.bool false) _ (run_pickZ (.tmp 9) (.const (.bool true)) (.tmp 12) rfl false (.bool false) rfl rfl) ?_
    simp only [Act.put, List.setIfInBounds_toArray, List.set_cons_succ, List.set_cons_zero]
    refine wl rfl (.bool false) _ (run_mvZ (.tmp 13) rfl (.bool false) rfl) ?_
    simp only [Act.put, List.setIfInBounds_toArray, List.set_cons_succ, List.set_cons_zero]
    refine wl (by kernel_rfl) (.pointer (some ⟨q, 0 + 1, none⟩)) _ (run_fieldOp' f26_1 (.tmp 1) rfl q (0) rfl) ?_
    simp only [Act.put, List.setIfInBounds_toArray, List.set_cons_succ, List.set_cons_zero]
    refine wl (by kernel_rfl) (.int .i64 r.length) _ (run_load1 o3 (.tmp 15) rfl q (0 + 1) rfl (.int .i64 r.length) ((Rw1.out.at 0 rfl).at 1 _ (rc1 r vc))) ?_
    simp only [Act.put, List.setIfInBounds_toArray, List.set_cons_succ, List.set_cons_zero]
    refine wl (by kernel_rfl) (.bool false) _ (run_gtrZ (.tmp 16) (.const (.int .i64 512)) rfl r.length 512 rfl rfl false HB2.out) ?_
    simp only [Act.put, List.setIfInBounds_toArray, List.set_cons_succ, List.set_cons_zero]
    refine wl rfl (.bool false) _ (run_pickZ (.tmp 14) (.const (.bool true)) (.tmp 17) rfl false (.bool false) rfl rfl) ?_
    simp only [Act.put, List.setIfInBounds_toArray, List.set_cons_succ, List.set_cons_zero]
    refine wl rfl (.bool false) _ (run_mvZ (.tmp 18) rfl (.bool false) rfl) ?_
    simp only [Act.put, List.setIfInBounds_toArray, List.set_cons_succ, List.set_cons_zero]
    refine wl (by kernel_rfl) (.pointer (some ⟨q, 0 + 34, none⟩)) _ (run_fieldOp' f26_3 (.tmp 1) rfl q (0) rfl) ?_
    simp only [Act.put, List.setIfInBounds_toArray, List.set_cons_succ, List.set_cons_zero]
    refine wl (by kernel_rfl) (.int .i64 r.index) _ (run_load1 o3 (.tmp 20) rfl q (0 + 34) rfl (.int .i64 r.index) ((Rw1.out.at 0 rfl).at 34 _ (rcB vc HF.out.root 0))) ?_
    simp only [Act.put, List.setIfInBounds_toArray, List.set_cons_succ, List.set_cons_zero]
    refine wl (by kernel_rfl) (.bool false) _ (run_lssZ (.tmp 21) (.const (.int .i64 0)) rfl r.index 0 rfl rfl false HB3.out) ?_
    simp only [Act.put, List.setIfInBounds_toArray, List.set_cons_succ, List.set_cons_zero]
    refine wl rfl (.bool false) _ (run_pickZ (.tmp 19) (.const (.bool true)) (.tmp 22) rfl false (.bool false) rfl rfl) ?_
    simp only [Act.put, List.setIfInBounds_toArray, List.set_cons_succ, List.set_cons_zero]
    refine wl rfl (.bool false) _ (run_mvZ (.tmp 23) rfl (.bool false) rfl) ?_
    simp only [Act.put, List.setIfInBounds_toArray, List.set_cons_succ, List.set_cons_zero]
    refine wl (by kernel_rfl) (.pointer (some ⟨q, 0 + 34, none⟩)) _ (run_fieldOp' f26_3 (.tmp 1) rfl q (0) rfl) ?_
    simp only [Act.put, List.setIfInBounds_toArray, List.set_cons_succ, List.set_cons_zero]
    refine wl (by kernel_rfl) (.int .i64 r.index) _ (run_load1 o3 (.tmp 25) rfl q (0 + 34) rfl (.int .i64 r.index) ((Rw1.out.at 0 rfl).at 34 _ (rcB vc HF.out.root 0))) ?_
    simp only [Act.put, List.setIfInBounds_toArray, List.set_cons_succ, List.set_cons_zero]
    refine wl (by kernel_rfl) (.bool false) _ (run_gtrZ (.tmp 26) (.const (.int .i64 2147483647)) rfl r.index 2147483647 rfl rfl false HB4.out) ?_
    simp only [Act.put, List.setIfInBounds_toArray, List.set_cons_succ, List.set_cons_zero]
    refine wl rfl (.bool false) _ (run_pickZ (.tmp 24) (.const (.bool true)) (.tmp 27) rfl false (.bool false) rfl rfl) ?_
    simp only [Act.put, List.setIfInBounds_toArray, List.set_cons_succ, List.set_cons_zero]
    refine wl rfl (.bool false) _ (run_mvZ (.tmp 28) rfl (.bool false) rfl) ?_
    simp only [Act.put, List.setIfInBounds_toArray, List.set_cons_succ, List.set_cons_zero]
    refine wl (by kernel_rfl) (.pointer (some ⟨q, 0 + 35, none⟩)) _ (run_fieldOp' f26_4 (.tmp 1) rfl q (0) rfl) ?_
    simp only [Act.put, List.setIfInBounds_toArray, List.set_cons_succ, List.set_cons_zero]
    refine wl (by kernel_rfl) (.int .i64 r.expiry) _ (run_load1 o3 (.tmp 30) rfl q (0 + 35) rfl (.int .i64 r.expiry) ((Rw1.out.at 0 rfl).at 35 _ (rcB vc HF.out.root 1))) ?_
    simp only [Act.put, List.setIfInBounds_toArray, List.set_cons_succ, List.set_cons_zero]
    refine wl (by kernel_rfl) (.bool false) _ (run_lssZ (.tmp 31) (.const (.int .i64 0)) rfl r.expiry 0 rfl rfl false HB5.out) ?_
    simp only [Act.put, List.setIfInBounds_toArray, List.set_cons_succ, List.set_cons_zero]
    refine wl rfl (.bool false) _ (run_pickZ (.tmp 29) (.const (.bool true)) (.tmp 32) rfl false (.bool false) rfl rfl) ?_
    simp only [Act.put, List.setIfInBounds_toArray, List.set_cons_succ, List.set_cons_zero]
    refine wl rfl (.bool false) _ (run_mvZ (.tmp 33) rfl (.bool false) rfl) ?_
    simp only [Act.put, List.setIfInBounds_toArray, List.set_cons_succ, List.set_cons_zero]
    refine wl (by kernel_rfl) (.pointer (some ⟨q, 0 + 35, none⟩)) _ (run_fieldOp' f26_4 (.tmp 1) rfl q (0) rfl) ?_
    simp only [Act.put, List.setIfInBounds_toArray, List.set_cons_succ, List.set_cons_zero]
    refine wl (by kernel_rfl) (.int .i64 r.expiry) _ (run_load1 o3 (.tmp 35) rfl q (0 + 35) rfl (.int .i64 r.expiry) ((Rw1.out.at 0 rfl).at 35 _ (rcB vc HF.out.root 1))) ?_
    simp only [Act.put, List.setIfInBounds_toArray, List.set_cons_succ, List.set_cons_zero]
    refine wl (by kernel_rfl) (.bool false) _ (run_gtrZ (.tmp 36) (.const (.int .i64 1099511627776)) rfl r.expiry 1099511627776 rfl rfl false HB6.out) ?_
    simp only [Act.put, List.setIfInBounds_toArray, List.set_cons_succ, List.set_cons_zero]
    refine wl rfl (.bool false) _ (run_pickZ (.tmp 34) (.const (.bool true)) (.tmp 37) rfl false (.bool false) rfl rfl) ?_
    simp only [Act.put, List.setIfInBounds_toArray, List.set_cons_succ, List.set_cons_zero]
    refine wl rfl (.bool false) _ (run_mvZ (.tmp 38) rfl (.bool false) rfl) ?_
    simp only [Act.put, List.setIfInBounds_toArray, List.set_cons_succ, List.set_cons_zero]
    refine wl (by kernel_rfl) (.pointer (some ⟨q, 0 + 38, none⟩)) _ (run_fieldOp' f26_7 (.tmp 1) rfl q (0) rfl) ?_
    simp only [Act.put, List.setIfInBounds_toArray, List.set_cons_succ, List.set_cons_zero]
    refine wl (by kernel_rfl) vc _ (run_load1 o24 (.tmp 40) rfl q (0 + 38) rfl vc ((Rw1.out.at 0 rfl).at 38 _ (rcB vc HF.out.root 4))) ?_
    simp only [Act.put, List.setIfInBounds_toArray, List.set_cons_succ, List.set_cons_zero]
    refine wl (by kernel_rfl) (.int .i64 (n : Nat)) _ (run_lenPn HF.out.cp HN.out.1 (.tmp 41) rfl rfl) ?_
    simp only [Act.put, List.setIfInBounds_toArray, List.set_cons_succ, List.set_cons_zero]
    refine wl (by kernel_rfl) (.bool true) _ (run_gtrZ (.tmp 42) (.const (.int .i64 8)) rfl (n : Nat) 8 rfl rfl true HB7.out) ?_
    simp only [Act.put, List.setIfInBounds_toArray, List.set_cons_succ, List.set_cons_zero]
    refine wl rfl (.bool true) _ (run_pickZ (.tmp 39) (.const (.bool true)) (.tmp 43) rfl false (.bool true) rfl rfl) ?_
    simp only [Act.put, List.setIfInBounds_toArray, List.set_cons_succ, List.set_cons_zero]
    refine wpList_nil ?_
    have er : R = false := (by have h := of_decide_eq_true HB7.out; rw [HR.out]; simp [inB]; omega)
    subst er
    go_wp2_with fail
    rw [HPQ.out]
    exact ⟨rfl, Rw1.out.below⟩
  | false =>
    go_upto_region 1 with fail
    refine wp_region_lit ?_
    refine wl rfl (.pointer (some ⟨q, 0 + 0, none⟩)) _ (run_fieldOp' f26_0 (.tmp 1) rfl q (0) rfl) ?_
    simp only [Act.put, List.setIfInBounds_toArray, List.set_cons_succ, List.set_cons_zero]
    refine wl rfl (str r.id) _ (run_load1 o9 (.tmp 5) rfl q (0 + 0) rfl (str r.id) ((Rw1.out.at 0 rfl).at 0 _ (rc0 r vc))) ?_
    simp only [Act.put, List.setIfInBounds_toArray, List.set_cons_succ, List.set_cons_zero]
    refine wpList_callW eN14 [.tmp 6] _ rfl rfl [(str r.id)] rfl ?_
    refine (H.out w1).mono ?_
    rintro e w2 ⟨rfl, rfl⟩
    refine ⟨_, rfl, ?_⟩
    simp only [Act.put, List.setIfInBounds_toArray, List.set_cons_succ, List.set_cons_zero]
    refine wl rfl (.bool false) _ (run_not (.tmp 7) 4 rfl true rfl) ?_
    simp only [Act.put, List.setIfInBounds_toArray, List.set_cons_succ, List.set_cons_zero]
    refine wl rfl (.bool false) _ (run_mvZ (.tmp 8) rfl (.bool false) rfl) ?_
    simp only [Act.put, List.setIfInBounds_toArray, List.set_cons_succ, List.set_cons_zero]
    refine wl (by kernel_rfl) (.pointer (some ⟨q, 0 + 1, none⟩)) _ (run_fieldOp' f26_1 (.tmp 1) rfl q (0) rfl) ?_
    simp only [Act.put, List.setIfInBounds_toArray, List.set_cons_succ, List.set_cons_zero]
    refine wl (by kernel_rfl) (.int .i64 r.length) _ (run_load1 o3 (.tmp 10) rfl q (0 + 1) rfl (.int .i64 r.length) ((Rw1.out.at 0 rfl).at 1 _ (rc1 r vc))) ?_
    simp only [Act.put, List.setIfInBounds_toArray, List.set_cons_succ, List.set_cons_zero]
    refine wl (by kernel_rfl) (.bool false) _ (run_lssZ (.tmp 11) (.const (.int .i64 0)) rfl r.length 0 rfl rfl false HB1.out) ?_
    simp only [Act.put, List.setIfInBounds_toArray, List.set_cons_succ, List.set_cons_zero]
    refine wl rfl (.bool false) _ (run_pickZ (.tmp 9) (.const (.bool true)) (.tmp 12) rfl false (.bool false) rfl rfl) ?_
    simp only [Act.put, List.setIfInBounds_toArray, List.set_cons_succ, List.set_cons_zero]
    refine wl rfl (.bool false) _ (run_mvZ (.tmp 13) rfl (.bool false) rfl) ?_
    simp only [Act.put, List.setIfInBounds_toArray, List.set_cons_succ, List.set_cons_zero]
    refine wl (by kernel_rfl) (.pointer (some ⟨q, 0 + 1, none⟩)) _ (run_fieldOp' f26_1 (.tmp 1) rfl q (0) rfl) ?_
    simp only [Act.put, List.setIfInBounds_toArray, List.set_cons_succ, List.set_cons_zero]
    refine wl (by kernel_rfl) (.int .i64 r.length) _ (run_load1 o3 (.tmp 15) rfl q (0 + 1) rfl (.int .i64 r.length) ((Rw1.out.at 0 rfl).at 1 _ (rc1 r vc))) ?_
    simp only [Act.put, List.setIfInBounds_toArray, List.set_cons_succ, List.set_cons_zero]
    refine wl (by kernel_rfl) (.bool false) _ (run_gtrZ (.tmp 16) (.const (.int .i64 512)) rfl r.length 512 rfl rfl false HB2.out) ?_
    simp only [Act.put, List.setIfInBounds_toArray, List.set_cons_succ, List.set_cons_zero]
    refine wl rfl (.bool false) _ (run_pickZ (.tmp 14) (.const (.bool true)) (.tmp 17) rfl false (.bool false) rfl rfl) ?_
    simp only [Act.put, List.setIfInBounds_toArray, List.set_cons_succ, List.set_cons_zero]
    refine wl rfl (.bool false) _ (run_mvZ (.tmp 18) rfl (.bool false) rfl) ?_
    simp only [Act.put, List.setIfInBounds_toArray, List.set_cons_succ, List.set_cons_zero]
    refine wl (by kernel_rfl) (.pointer (some ⟨q, 0 + 34, none⟩)) _ (run_fieldOp' f26_3 (.tmp 1) rfl q (0) rfl) ?_
    simp only [Act.put, List.setIfInBounds_toArray, List.set_cons_succ, List.set_cons_zero]
    refine wl (by kernel_rfl) (.int .i64 r.index) _ (run_load1 o3 (.tmp 20) rfl q (0 + 34) rfl (.int .i64 r.index) ((Rw1.out.at 0 rfl).at 34 _ (rcB vc HF.out.root 0))) ?_
    simp only [Act.put, List.setIfInBounds_toArray, List.set_cons_succ, List.set_cons_zero]
    refine wl (by kernel_rfl) (.bool false) _ (run_lssZ (.tmp 21) (.const (.int .i64 0)) rfl r.index 0 rfl rfl false HB3.out) ?_
    simp only [Act.put, List.setIfInBounds_toArray, List.set_cons_succ, List.set_cons_zero]
    refine wl rfl (.bool false) _ (run_pickZ (.tmp 19) (.const (.bool true)) (.tmp 22) rfl false (.bool false) rfl rfl) ?_
    simp only [Act.put, List.setIfInBounds_toArray, List.set_cons_succ, List.set_cons_zero]
    refine wl rfl (.bool false) _ (run_mvZ (.tmp 23) rfl (.bool false) rfl) ?_
    simp only [Act.put, List.setIfInBounds_toArray, List.set_cons_succ, List.set_cons_zero]
    refine wl (by kernel_rfl) (.pointer (some ⟨q, 0 + 34, none⟩)) _ (run_fieldOp' f26_3 (.tmp 1) rfl q (0) rfl) ?_
    simp only [Act.put, List.setIfInBounds_toArray, List.set_cons_succ, List.set_cons_zero]
    refine wl (by kernel_rfl) (.int .i64 r.index) _ (run_load1 o3 (.tmp 25) rfl q (0 + 34) rfl (.int .i64 r.index) ((Rw1.out.at 0 rfl).at 34 _ (rcB vc HF.out.root 0))) ?_
    simp only [Act.put, List.setIfInBounds_toArray, List.set_cons_succ, List.set_cons_zero]
    refine wl (by kernel_rfl) (.bool false) _ (run_gtrZ (.tmp 26) (.const (.int .i64 2147483647)) rfl r.index 2147483647 rfl rfl false HB4.out) ?_
    simp only [Act.put, List.setIfInBounds_toArray, List.set_cons_succ, List.set_cons_zero]
    refine wl rfl (.bool false) _ (run_pickZ (.tmp 24) (.const (.bool true)) (.tmp 27) rfl false (.bool false) rfl rfl) ?_
    simp only [Act.put, List.setIfInBounds_toArray, List.set_cons_succ, List.set_cons_zero]
    refine wl rfl (.bool false) _ (run_mvZ (.tmp 28) rfl (.bool false) rfl) ?_
    simp only [Act.put, List.setIfInBounds_toArray, List.set_cons_succ, List.set_cons_zero]
    refine wl (by kernel_rfl) (.pointer (some ⟨q, 0 + 35, none⟩)) _ (run_fieldOp' f26_4 (.tmp 1) rfl q (0) rfl) ?_
    simp only [Act.put, List.setIfInBounds_toArray, List.set_cons_succ, List.set_cons_zero]
    refine wl (by kernel_rfl) (.int .i64 r.expiry) _ (run_load1 o3 (.tmp 30) rfl q (0 + 35) rfl (.int .i64 r.expiry) ((Rw1.out.at 0 rfl).at 35 _ (rcB vc HF.out.root 1))) ?_
    simp only [Act.put, List.setIfInBounds_toArray, List.set_cons_succ, List.set_cons_zero]
    refine wl (by kernel_rfl) (.bool false) _ (run_lssZ (.tmp 31) (.const (.int .i64 0)) rfl r.expiry 0 rfl rfl false HB5.out) ?_
    simp only [Act.put, List.setIfInBounds_toArray, List.set_cons_succ, List.set_cons_zero]
    refine wl rfl (.bool false) _ (run_pickZ (.tmp 29) (.const (.bool true)) (.tmp 32) rfl false (.bool false) rfl rfl) ?_
    simp only [Act.put, List.setIfInBounds_toArray, List.set_cons_succ, List.set_cons_zero]
    refine wl rfl (.bool false) _ (run_mvZ (.tmp 33) rfl (.bool false) rfl) ?_
    simp only [Act.put, List.setIfInBounds_toArray, List.set_cons_succ, List.set_cons_zero]
    refine wl (by kernel_rfl) (.pointer (some ⟨q, 0 + 35, none⟩)) _ (run_fieldOp' f26_4 (.tmp 1) rfl q (0) rfl) ?_
    simp only [Act.put, List.setIfInBounds_toArray, List.set_cons_succ, List.set_cons_zero]
    refine wl (by kernel_rfl) (.int .i64 r.expiry) _ (run_load1 o3 (.tmp 35) rfl q (0 + 35) rfl (.int .i64 r.expiry) ((Rw1.out.at 0 rfl).at 35 _ (rcB vc HF.out.root 1))) ?_
    simp only [Act.put, List.setIfInBounds_toArray, List.set_cons_succ, List.set_cons_zero]
    refine wl (by kernel_rfl) (.bool false) _ (run_gtrZ (.tmp 36) (.const (.int .i64 1099511627776)) rfl r.expiry 1099511627776 rfl rfl false HB6.out) ?_
    simp only [Act.put, List.setIfInBounds_toArray, List.set_cons_succ, List.set_cons_zero]
    refine wl rfl (.bool false) _ (run_pickZ (.tmp 34) (.const (.bool true)) (.tmp 37) rfl false (.bool false) rfl rfl) ?_
    simp only [Act.put, List.setIfInBounds_toArray, List.set_cons_succ, List.set_cons_zero]
    refine wl rfl (.bool false) _ (run_mvZ (.tmp 38) rfl (.bool false) rfl) ?_
    simp only [Act.put, List.setIfInBounds_toArray, List.set_cons_succ, List.set_cons_zero]
    refine wl (by kernel_rfl) (.pointer (some ⟨q, 0 + 38, none⟩)) _ (run_fieldOp' f26_7 (.tmp 1) rfl q (0) rfl) ?_
    simp only [Act.put, List.setIfInBounds_toArray, List.set_cons_succ, List.set_cons_zero]
    refine wl (by kernel_rfl) vc _ (run_load1 o24 (.tmp 40) rfl q (0 + 38) rfl vc ((Rw1.out.at 0 rfl).at 38 _ (rcB vc HF.out.root 4))) ?_
    simp only [Act.put, List.setIfInBounds_toArray, List.set_cons_succ, List.set_cons_zero]
    refine wl (by kernel_rfl) (.int .i64 (n : Nat)) _ (run_lenPn HF.out.cp HN.out.1 (.tmp 41) rfl rfl) ?_
    simp only [Act.put, List.setIfInBounds_toArray, List.set_cons_succ, List.set_cons_zero]
    refine wl (by kernel_rfl) (.bool false) _ (run_gtrZ (.tmp 42) (.const (.int .i64 8)) rfl (n : Nat) 8 rfl rfl false HB7.out) ?_
    simp only [Act.put, List.setIfInBounds_toArray, List.set_cons_succ, List.set_cons_zero]
    refine wl rfl (.bool false) _ (run_pickZ (.tmp 39) (.const (.bool true)) (.tmp 43) rfl false (.bool false) rfl rfl) ?_
    simp only [Act.put, List.setIfInBounds_toArray, List.set_cons_succ, List.set_cons_zero]
    refine wpList_nil ?_
    have HN8 : Hid (n ≤ 8) := (by have := of_decide_eq_false HB7.out; omega : n ≤ 8)
    have HR2 : Hid (R = r.cp.all pcB) := (by
      have h1 := of_decide_eq_false HB1.out
      have h2 := of_decide_eq_false HB2.out
      have h3 := of_decide_eq_false HB3.out
      have h4 := of_decide_eq_false HB4.out
      have h5 := of_decide_eq_false HB5.out
      have h6 := of_decide_eq_false HB6.out
      have h7 := of_decide_eq_false HB7.out
      show R = _
      rw [HR.out]
      have e1 : inB r.length 512 = true := (by simp [inB]; omega)
      have e2 : inB r.index 2147483647 = true := (by simp [inB]; omega)
      have e3 : inB r.expiry 1099511627776 = true := (by simp [inB]; omega)
      have e4 : decide (n ≤ 8) = true := (by simp; omega)
      rw [e1, e2, e3, e4]
      rfl)
    clear HR HB1 HB2 HB3 HB4 HB5 HB6 HB7
    go_upto_region 3 with fail
    refine wp_region_lit ?_
    refine wl rfl (.int .i64 0) _ (run_asZ (.const (.int .i64 0)) rfl (.int .i64 0) rfl) ?_
    simp only [Act.put, List.setIfInBounds_toArray, List.set_cons_succ, List.set_cons_zero]
    refine wpList_nil ?_
    have RX : Hid (Loc w w1 [(q, 26, rcells r vc)]) := Rw1.out
    clear Rw1
    go_wp2_with fail
    go_loopw [3] (fun vk W => ∃ k : Nat, vk = .int .i64 (k : Nat) ∧ k ≤ n ∧ (r.cp.take k).all pcB = true ∧ Loc w W [(q, 26, rcells r vc)]) (fun vk _ => n - (intOf vk).toNat)
    case atStart => exact ⟨0, rfl, Nat.zero_le _, rfl, RX.out⟩
    case round =>
      obtain ⟨k, rfl, hk, ha, hw⟩ := hrel
      have HA : Hid ((r.cp.take k).all pcB = true) := ha
      have Rw1 : Hid (Loc w wr [(q, 26, rcells r vc)]) := hw
      clear ha hw RX
      have h8 : n ≤ 8 := HN8.out
      go_upto_region 4 with fail
      refine wp_region_lit ?_
      refine wl rfl (.int .i64 (k : Nat)) _ (run_mvZ (.tmp 3) rfl (.int .i64 (k : Nat)) rfl) ?_
      simp only [Act.put, List.setIfInBounds_toArray, List.set_cons_succ, List.set_cons_zero]
      refine wl rfl (.pointer (some ⟨q, 0 + 38, none⟩)) _ (run_fieldOp' f26_7 (.tmp 1) rfl q (0) rfl) ?_
      simp only [Act.put, List.setIfInBounds_toArray, List.set_cons_succ, List.set_cons_zero]
      refine wl rfl vc _ (run_load1 o24 (.tmp 46) rfl q (0 + 38) rfl vc ((Rw1.out.at 0 rfl).at 38 _ (rcB vc HF.out.root 4))) ?_
      simp only [Act.put, List.setIfInBounds_toArray, List.set_cons_succ, List.set_cons_zero]
      refine wl rfl (.int .i64 (n : Nat)) _ (run_lenPn HF.out.cp HN.out.1 (.tmp 47) rfl rfl) ?_
      simp only [Act.put, List.setIfInBounds_toArray, List.set_cons_succ, List.set_cons_zero]
      refine wl rfl (.bool (decide ((k : Int) < (n : Int)))) _ (run_lssZ (.tmp 45) (.tmp 48) rfl (k : Nat) (n : Nat) rfl rfl _ rfl) ?_
      simp only [Act.put, List.setIfInBounds_toArray, List.set_cons_succ, List.set_cons_zero]
      refine wpList_nil ?_
      by_cases hlt : k < n
      · have t1 : decide ((k : Int) < (n : Int)) = true := decide_eq_true (by omega)
        rw [t1]
        clear t1
        obtain ⟨p, hp⟩ : ∃ p, r.cp[k]? = some p := ⟨_, List.getElem?_eq_getElem (by rw [← HN.out.1]; exact hlt)⟩
        obtain ⟨b, off, hx, hc⟩ := ix_place (HF.out.cp.later Rw1.out.below) k p hp
        have HX : Hid ((∀ w', (Instr.indexAt 24 vc (.int .i64 (k : Nat))).run Try.prog w' = .ok (.pointer (some ⟨b, off, none⟩)) w') ∧ (∀ j u, (pcells p)[j]? = some u → wr.cell? ⟨b, off + j, none⟩ = some u) ∧ r.cp[k]? = some p) := ⟨hx, hc, hp⟩
        clear hx hc hp
        obtain ⟨d1, hd1⟩ : ∃ b, decide (p.dev < 0) = b := ⟨_, rfl⟩
        have HD1 : Hid (decide (p.dev < 0) = d1) := hd1
        clear hd1
        obtain ⟨d2, hd2⟩ : ∃ b, decide ((12 : Int) ≤ p.dev) = b := ⟨_, rfl⟩
        have HD2 : Hid (decide ((12 : Int) ≤ p.dev) = d2) := hd2
        clear hd2
        obtain ⟨d3, hd3⟩ : ∃ b, decide (p.pl < 0) = b := ⟨_, rfl⟩
        have HD3 : Hid (decide (p.pl < 0) = d3) := hd3
        clear hd3
        obtain ⟨d4, hd4⟩ : ∃ b, decide ((4096 : Int) ≤ p.pl) = b := ⟨_, rfl⟩
        have HD4 : Hid (decide ((4096 : Int) ≤ p.pl) = d4) := hd4
        clear hd4
        obtain ⟨d5, hd5⟩ : ∃ b, decide (p.len < 0) = b := ⟨_, rfl⟩
        have HD5 : Hid (decide (p.len < 0) = d5) := hd5
        clear hd5
        obtain ⟨d6, hd6⟩ : ∃ b, decide ((255 : Int) < p.len) = b := ⟨_, rfl⟩
        have HD6 : Hid (decide ((255 : Int) < p.len) = d6) := hd6
        clear hd6
        go_upto_region 6 with fail
        refine wp_region_lit ?_
        refine wl rfl (.pointer (some ⟨q, 0 + 38, none⟩)) _ (run_fieldOp' f26_7 (.tmp 1) rfl q (0) rfl) ?_
        simp only [Act.put, List.setIfInBounds_toArray, List.set_cons_succ, List.set_cons_zero]
        refine wl rfl vc _ (run_load1 o24 (.tmp 52) rfl q (0 + 38) rfl vc ((Rw1.out.at 0 rfl).at 38 _ (rcB vc HF.out.root 4))) ?_
        simp only [Act.put, List.setIfInBounds_toArray, List.set_cons_succ, List.set_cons_zero]
        refine wl rfl (.int .i64 (k : Nat)) _ (run_mvZ (.tmp 3) rfl (.int .i64 (k : Nat)) rfl) ?_
        simp only [Act.put, List.setIfInBounds_toArray, List.set_cons_succ, List.set_cons_zero]
        refine wl rfl (.pointer (some ⟨b, off, none⟩)) _ (run_idx (.tmp 53) (.tmp 54) rfl vc _ _ rfl rfl HX.out.1) ?_
        simp only [Act.put, List.setIfInBounds_toArray, List.set_cons_succ, List.set_cons_zero]
        refine wl rfl (.agg (pcells p).toArray) _ (run_loadA ag43 (.tmp 55) rfl b (off) rfl (pcells p) rfl HX.out.2.1) ?_
        simp only [Act.put, List.setIfInBounds_toArray, List.set_cons_succ, List.set_cons_zero]
        refine wl rfl (ptr wr.heap.size) _ (run_allocA (pcells ⟨0, 0, 0, false⟩) zero43 rfl) ?_
        have k_ := Rw1.out.box 43 (pcells ⟨0, 0, 0, false⟩)
        obtain ⟨w2, hW_⟩ : ∃ W, W = wr.alloc (.cells (pcells ⟨0, 0, 0, false⟩).toArray 43) := ⟨_, rfl⟩
        obtain ⟨q2, hq_⟩ : ∃ q, q = wr.heap.size := ⟨_, rfl⟩
        rw [← hW_, ← hq_] at k_
        rw [← hW_, ← hq_]
        clear hq_
        have Rw2 : Hid (Loc w w2 [(q, 26, rcells r vc), (q2, 43, pcells ⟨0, 0, 0, false⟩)]) := k_
        clear k_ hW_ Rw1
        simp only [Act.put, List.setIfInBounds_toArray, List.set_cons_succ, List.set_cons_zero]
        refine wlS rfl rfl _ (run_storeL ag43 (.tmp 4) (.tmp 56) rfl Rw2.out 1 rfl (0) rfl (pcells p) rfl rfl (by simp [pcells]) (pcells_one p)).1 ?_
        have k_ := Rw2.out.lay 1 rfl (0) (pcells p)
        rw [splice43] at k_ ⊢
        obtain ⟨w3, hW_⟩ : ∃ W, W = w2.setRow q2 (pcells p).toArray := ⟨_, rfl⟩
        rw [← hW_] at k_ ⊢
        have Rw3 : Hid (Loc w w3 [(q, 26, rcells r vc), (q2, 43, pcells p)]) := k_
        clear k_ hW_ Rw2
        refine wpList_nil ?_
        cases d1 with
        | true =>
          go_upto_region 7 with fail
          refine wp_region_lit ?_
          refine wl rfl (.pointer (some ⟨q2, 0 + 0, none⟩)) _ (run_fieldOp' f43_0 (.tmp 4) rfl q2 (0) rfl) ?_
          simp only [Act.put, List.setIfInBounds_toArray, List.set_cons_succ, List.set_cons_zero]
          refine wl rfl (.int .i64 p.dev) _ (run_load1 o3 (.tmp 57) rfl q2 (0 + 0) rfl (.int .i64 p.dev) ((Rw3.out.at 1 rfl).at 0 _ rfl)) ?_
          simp only [Act.put, List.setIfInBounds_toArray, List.set_cons_succ, List.set_cons_zero]
          refine wl rfl (.bool true) _ (run_lssZ (.tmp 58) (.const (.int .i64 0)) rfl p.dev 0 rfl rfl true HD1.out) ?_
          simp only [Act.put, List.setIfInBounds_toArray, List.set_cons_succ, List.set_cons_zero]
          refine wl rfl (.bool true) _ (run_mvZ (.tmp 59) rfl (.bool true) rfl) ?_
          simp only [Act.put, List.setIfInBounds_toArray, List.set_cons_succ, List.set_cons_zero]
          refine wpList_skip (by kernel_rfl) ?_
          simp only [Act.put, List.setIfInBounds_toArray, List.set_cons_succ, List.set_cons_zero]
          refine wpList_skip (by kernel_rfl) ?_
          simp only [Act.put, List.setIfInBounds_toArray, List.set_cons_succ, List.set_cons_zero]
          refine wpList_skip (by kernel_rfl) ?_
          simp only [Act.put, List.setIfInBounds_toArray, List.set_cons_succ, List.set_cons_zero]
          refine wl rfl (.bool true) _ (run_pickZ (.tmp 60) (.const (.bool true)) (.tmp 63) rfl true (.bool true) rfl rfl) ?_
          simp only [Act.put, List.setIfInBounds_toArray, List.set_cons_succ, List.set_cons_zero]
          refine wl rfl (.bool true) _ (run_mvZ (.tmp 64) rfl (.bool true) rfl) ?_
          simp only [Act.put, List.setIfInBounds_toArray, List.set_cons_succ, List.set_cons_zero]
          refine wpList_skip (by kernel_rfl) ?_
          simp only [Act.put, List.setIfInBounds_toArray, List.set_cons_succ, List.set_cons_zero]
          refine wpList_skip (by kernel_rfl) ?_
          simp only [Act.put, List.setIfInBounds_toArray, List.set_cons_succ, List.set_cons_zero]
          refine wpList_skip (by kernel_rfl) ?_
          simp only [Act.put, List.setIfInBounds_toArray, List.set_cons_succ, List.set_cons_zero]
          refine wl rfl (.bool true) _ (run_pickZ (.tmp 65) (.const (.bool true)) (.tmp 68) rfl true (.bool true) rfl rfl) ?_
          simp only [Act.put, List.setIfInBounds_toArray, List.set_cons_succ, List.set_cons_zero]
          refine wl rfl (.bool true) _ (run_mvZ (.tmp 69) rfl (.bool true) rfl) ?_
          simp only [Act.put, List.setIfInBounds_toArray, List.set_cons_succ, List.set_cons_zero]
          refine wpList_skip (by kernel_rfl) ?_
          simp only [Act.put, List.setIfInBounds_toArray, List.set_cons_succ, List.set_cons_zero]
          refine wpList_skip (by kernel_rfl) ?_
          simp only [Act.put, List.setIfInBounds_toArray, List.set_cons_succ, List.set_cons_zero]
          refine wpList_skip (by kernel_rfl) ?_
          simp only [Act.put, List.setIfInBounds_toArray, List.set_cons_succ, List.set_cons_zero]
          refine wl rfl (.bool true) _ (run_pickZ (.tmp 70) (.const (.bool true)) (.tmp 73) rfl true (.bool true) rfl rfl) ?_
          simp only [Act.put, List.setIfInBounds_toArray, List.set_cons_succ, List.set_cons_zero]
          refine wl rfl (.bool true) _ (run_mvZ (.tmp 74) rfl (.bool true) rfl) ?_
          simp only [Act.put, List.setIfInBounds_toArray, List.set_cons_succ, List.set_cons_zero]
          refine wpList_skip (by kernel_rfl) ?_
          simp only [Act.put, List.setIfInBounds_toArray, List.set_cons_succ, List.set_cons_zero]
          refine wpList_skip (by kernel_rfl) ?_
          simp only [Act.put, List.setIfInBounds_toArray, List.set_cons_succ, List.set_cons_zero]
          refine wpList_skip (by kernel_rfl) ?_
          simp only [Act.put, List.setIfInBounds_toArray, List.set_cons_succ, List.set_cons_zero]
          refine wl rfl (.bool true) _ (run_pickZ (.tmp 75) (.const (.bool true)) (.tmp 78) rfl true (.bool true) rfl rfl) ?_
          simp only [Act.put, List.setIfInBounds_toArray, List.set_cons_succ, List.set_cons_zero]
          refine wl rfl (.bool true) _ (run_mvZ (.tmp 79) rfl (.bool true) rfl) ?_
          simp only [Act.put, List.setIfInBounds_toArray, List.set_cons_succ, List.set_cons_zero]
          refine wpList_skip (by kernel_rfl) ?_
          simp only [Act.put, List.setIfInBounds_toArray, List.set_cons_succ, List.set_cons_zero]
          refine wpList_skip (by kernel_rfl) ?_
          simp only [Act.put, List.setIfInBounds_toArray, List.set_cons_succ, List.set_cons_zero]
          refine wpList_skip (by kernel_rfl) ?_
          simp only [Act.put, List.setIfInBounds_toArray, List.set_cons_succ, List.set_cons_zero]
          refine wl rfl (.bool true) _ (run_pickZ (.tmp 80) (.const (.bool true)) (.tmp 83) rfl true (.bool true) rfl rfl) ?_
          simp only [Act.put, List.setIfInBounds_toArray, List.set_cons_succ, List.set_cons_zero]
          refine wpList_nil ?_
          have h := of_decide_eq_true HD1.out
          have hpb : pcB p = false := (by simp [pcB, inB]; omega)
          have er : R = false := (by rw [HR2.out]; exact all_notP r.cp k p HX.out.2.2 hpb)
          subst er
          clear h hpb
          go_wp2_with fail
          rw [HPQ.out]
          exact ⟨rfl, Rw3.out.below⟩
        | false =>
        cases d2 with
        | true =>
          go_upto_region 7 with fail
          refine wp_region_lit ?_
          refine wl rfl (.pointer (some ⟨q2, 0 + 0, none⟩)) _ (run_fieldOp' f43_0 (.tmp 4) rfl q2 (0) rfl) ?_
          simp only [Act.put, List.setIfInBounds_toArray, List.set_cons_succ, List.set_cons_zero]
          refine wl rfl (.int .i64 p.dev) _ (run_load1 o3 (.tmp 57) rfl q2 (0 + 0) rfl (.int .i64 p.dev) ((Rw3.out.at 1 rfl).at 0 _ rfl)) ?_
          simp only [Act.put, List.setIfInBounds_toArray, List.set_cons_succ, List.set_cons_zero]
          refine wl rfl (.bool false) _ (run_lssZ (.tmp 58) (.const (.int .i64 0)) rfl p.dev 0 rfl rfl false HD1.out) ?_
          simp only [Act.put, List.setIfInBounds_toArray, List.set_cons_succ, List.set_cons_zero]
          refine wl rfl (.bool false) _ (run_mvZ (.tmp 59) rfl (.bool false) rfl) ?_
          simp only [Act.put, List.setIfInBounds_toArray, List.set_cons_succ, List.set_cons_zero]
          refine wl (by kernel_rfl) (.pointer (some ⟨q2, 0 + 0, none⟩)) _ (run_fieldOp' f43_0 (.tmp 4) rfl q2 (0) rfl) ?_
          simp only [Act.put, List.setIfInBounds_toArray, List.set_cons_succ, List.set_cons_zero]
          refine wl (by kernel_rfl) (.int .i64 p.dev) _ (run_load1 o3 (.tmp 61) rfl q2 (0 + 0) rfl (.int .i64 p.dev) ((Rw3.out.at 1 rfl).at 0 _ rfl)) ?_
          simp only [Act.put, List.setIfInBounds_toArray, List.set_cons_succ, List.set_cons_zero]
          refine wl (by kernel_rfl) (.bool true) _ (run_geqZ (.tmp 62) (.const (.int .i64 12)) rfl p.dev 12 rfl rfl true HD2.out) ?_
          simp only [Act.put, List.setIfInBounds_toArray, List.set_cons_succ, List.set_cons_zero]
          refine wl rfl (.bool true) _ (run_pickZ (.tmp 60) (.const (.bool true)) (.tmp 63) rfl false (.bool true) rfl rfl) ?_
          simp only [Act.put, List.setIfInBounds_toArray, List.set_cons_succ, List.set_cons_zero]
          refine wl rfl (.bool true) _ (run_mvZ (.tmp 64) rfl (.bool true) rfl) ?_
          simp only [Act.put, List.setIfInBounds_toArray, List.set_cons_succ, List.set_cons_zero]
          refine wpList_skip (by kernel_rfl) ?_
          simp only [Act.put, List.setIfInBounds_toArray, List.set_cons_succ, List.set_cons_zero]
          refine wpList_skip (by kernel_rfl) ?_
          simp only [Act.put, List.setIfInBounds_toArray, List.set_cons_succ, List.set_cons_zero]
          refine wpList_skip (by kernel_rfl) ?_
          simp only [Act.put, List.setIfInBounds_toArray, List.set_cons_succ, List.set_cons_zero]
          refine wl rfl (.bool true) _ (run_pickZ (.tmp 65) (.const (.bool true)) (.tmp 68) rfl true (.bool true) rfl rfl) ?_
          simp only [Act.put, List.setIfInBounds_toArray, List.set_cons_succ, List.set_cons_zero]
          refine wl rfl (.bool true) _ (run_mvZ (.tmp 69) rfl (.bool true) rfl) ?_
          simp only [Act.put, List.setIfInBounds_toArray, List.set_cons_succ, List.set_cons_zero]
          refine wpList_skip (by kernel_rfl) ?_
          simp only [Act.put, List.setIfInBounds_toArray, List.set_cons_succ, List.set_cons_zero]
          refine wpList_skip (by kernel_rfl) ?_
          simp only [Act.put, List.setIfInBounds_toArray, List.set_cons_succ, List.set_cons_zero]
          refine wpList_skip (by kernel_rfl) ?_
          simp only [Act.put, List.setIfInBounds_toArray, List.set_cons_succ, List.set_cons_zero]
          refine wl rfl (.bool true) _ (run_pickZ (.tmp 70) (.const (.bool true)) (.tmp 73) rfl true (.bool true) rfl rfl) ?_
          simp only [Act.put, List.setIfInBounds_toArray, List.set_cons_succ, List.set_cons_zero]
          refine wl rfl (.bool true) _ (run_mvZ (.tmp 74) rfl (.bool true) rfl) ?_
          simp only [Act.put, List.setIfInBounds_toArray, List.set_cons_succ, List.set_cons_zero]
          refine wpList_skip (by kernel_rfl) ?_
          simp only [Act.put, List.setIfInBounds_toArray, List.set_cons_succ, List.set_cons_zero]
          refine wpList_skip (by kernel_rfl) ?_
          simp only [Act.put, List.setIfInBounds_toArray, List.set_cons_succ, List.set_cons_zero]
          refine wpList_skip (by kernel_rfl) ?_
          simp only [Act.put, List.setIfInBounds_toArray, List.set_cons_succ, List.set_cons_zero]
          refine wl rfl (.bool true) _ (run_pickZ (.tmp 75) (.const (.bool true)) (.tmp 78) rfl true (.bool true) rfl rfl) ?_
          simp only [Act.put, List.setIfInBounds_toArray, List.set_cons_succ, List.set_cons_zero]
          refine wl rfl (.bool true) _ (run_mvZ (.tmp 79) rfl (.bool true) rfl) ?_
          simp only [Act.put, List.setIfInBounds_toArray, List.set_cons_succ, List.set_cons_zero]
          refine wpList_skip (by kernel_rfl) ?_
          simp only [Act.put, List.setIfInBounds_toArray, List.set_cons_succ, List.set_cons_zero]
          refine wpList_skip (by kernel_rfl) ?_
          simp only [Act.put, List.setIfInBounds_toArray, List.set_cons_succ, List.set_cons_zero]
          refine wpList_skip (by kernel_rfl) ?_
          simp only [Act.put, List.setIfInBounds_toArray, List.set_cons_succ, List.set_cons_zero]
          refine wl rfl (.bool true) _ (run_pickZ (.tmp 80) (.const (.bool true)) (.tmp 83) rfl true (.bool true) rfl rfl) ?_
          simp only [Act.put, List.setIfInBounds_toArray, List.set_cons_succ, List.set_cons_zero]
          refine wpList_nil ?_
          have h := of_decide_eq_true HD2.out
          have hpb : pcB p = false := (by simp [pcB, inB]; omega)
          have er : R = false := (by rw [HR2.out]; exact all_notP r.cp k p HX.out.2.2 hpb)
          subst er
          clear h hpb
          go_wp2_with fail
          rw [HPQ.out]
          exact ⟨rfl, Rw3.out.below⟩
        | false =>
        cases d3 with
        | true =>
          go_upto_region 7 with fail
          refine wp_region_lit ?_
          refine wl rfl (.pointer (some ⟨q2, 0 + 0, none⟩)) _ (run_fieldOp' f43_0 (.tmp 4) rfl q2 (0) rfl) ?_
          simp only [Act.put, List.setIfInBounds_toArray, List.set_cons_succ, List.set_cons_zero]
          refine wl rfl (.int .i64 p.dev) _ (run_load1 o3 (.tmp 57) rfl q2 (0 + 0) rfl (.int .i64 p.dev) ((Rw3.out.at 1 rfl).at 0 _ rfl)) ?_
          simp only [Act.put, List.setIfInBounds_toArray, List.set_cons_succ, List.set_cons_zero]
          refine wl rfl (.bool false) _ (run_lssZ (.tmp 58) (.const (.int .i64 0)) rfl p.dev 0 rfl rfl false HD1.out) ?_
          simp only [Act.put, List.setIfInBounds_toArray, List.set_cons_succ, List.set_cons_zero]
          refine wl rfl (.bool false) _ (run_mvZ (.tmp 59) rfl (.bool false) rfl) ?_
          simp only [Act.put, List.setIfInBounds_toArray, List.set_cons_succ, List.set_cons_zero]
          refine wl (by kernel_rfl) (.pointer (some ⟨q2, 0 + 0, none⟩)) _ (run_fieldOp' f43_0 (.tmp 4) rfl q2 (0) rfl) ?_
          simp only [Act.put, List.setIfInBounds_toArray, List.set_cons_succ, List.set_cons_zero]
          refine wl (by kernel_rfl) (.int .i64 p.dev) _ (run_load1 o3 (.tmp 61) rfl q2 (0 + 0) rfl (.int .i64 p.dev) ((Rw3.out.at 1 rfl).at 0 _ rfl)) ?_
          simp only [Act.put, List.setIfInBounds_toArray, List.set_cons_succ, List.set_cons_zero]
          refine wl (by kernel_rfl) (.bool false) _ (run_geqZ (.tmp 62) (.const (.int .i64 12)) rfl p.dev 12 rfl rfl false HD2.out) ?_
          simp only [Act.put, List.setIfInBounds_toArray, List.set_cons_succ, List.set_cons_zero]
          refine wl rfl (.bool false) _ (run_pickZ (.tmp 60) (.const (.bool true)) (.tmp 63) rfl false (.bool false) rfl rfl) ?_
          simp only [Act.put, List.setIfInBounds_toArray, List.set_cons_succ, List.set_cons_zero]
          refine wl rfl (.bool false) _ (run_mvZ (.tmp 64) rfl (.bool false) rfl) ?_
          simp only [Act.put, List.setIfInBounds_toArray, List.set_cons_succ, List.set_cons_zero]
          refine wl (by kernel_rfl) (.pointer (some ⟨q2, 0 + 1, none⟩)) _ (run_fieldOp' f43_1 (.tmp 4) rfl q2 (0) rfl) ?_
          simp only [Act.put, List.setIfInBounds_toArray, List.set_cons_succ, List.set_cons_zero]
          refine wl (by kernel_rfl) (.int .i64 p.pl) _ (run_load1 o3 (.tmp 66) rfl q2 (0 + 1) rfl (.int .i64 p.pl) ((Rw3.out.at 1 rfl).at 1 _ rfl)) ?_
          simp only [Act.put, List.setIfInBounds_toArray, List.set_cons_succ, List.set_cons_zero]
          refine wl (by kernel_rfl) (.bool true) _ (run_lssZ (.tmp 67) (.const (.int .i64 0)) rfl p.pl 0 rfl rfl true HD3.out) ?_
          simp only [Act.put, List.setIfInBounds_toArray, List.set_cons_succ, List.set_cons_zero]
          refine wl rfl (.bool true) _ (run_pickZ (.tmp 65) (.const (.bool true)) (.tmp 68) rfl false (.bool true) rfl rfl) ?_
          simp only [Act.put, List.setIfInBounds_toArray, List.set_cons_succ, List.set_cons_zero]
          refine wl rfl (.bool true) _ (run_mvZ (.tmp 69) rfl (.bool true) rfl) ?_
          simp only [Act.put, List.setIfInBounds_toArray, List.set_cons_succ, List.set_cons_zero]
          refine wpList_skip (by kernel_rfl) ?_
          simp only [Act.put, List.setIfInBounds_toArray, List.set_cons_succ, List.set_cons_zero]
          refine wpList_skip (by kernel_rfl) ?_
          simp only [Act.put, List.setIfInBounds_toArray, List.set_cons_succ, List.set_cons_zero]
          refine wpList_skip (by kernel_rfl) ?_
          simp only [Act.put, List.setIfInBounds_toArray, List.set_cons_succ, List.set_cons_zero]
          refine wl rfl (.bool true) _ (run_pickZ (.tmp 70) (.const (.bool true)) (.tmp 73) rfl true (.bool true) rfl rfl) ?_
          simp only [Act.put, List.setIfInBounds_toArray, List.set_cons_succ, List.set_cons_zero]
          refine wl rfl (.bool true) _ (run_mvZ (.tmp 74) rfl (.bool true) rfl) ?_
          simp only [Act.put, List.setIfInBounds_toArray, List.set_cons_succ, List.set_cons_zero]
          refine wpList_skip (by kernel_rfl) ?_
          simp only [Act.put, List.setIfInBounds_toArray, List.set_cons_succ, List.set_cons_zero]
          refine wpList_skip (by kernel_rfl) ?_
          simp only [Act.put, List.setIfInBounds_toArray, List.set_cons_succ, List.set_cons_zero]
          refine wpList_skip (by kernel_rfl) ?_
          simp only [Act.put, List.setIfInBounds_toArray, List.set_cons_succ, List.set_cons_zero]
          refine wl rfl (.bool true) _ (run_pickZ (.tmp 75) (.const (.bool true)) (.tmp 78) rfl true (.bool true) rfl rfl) ?_
          simp only [Act.put, List.setIfInBounds_toArray, List.set_cons_succ, List.set_cons_zero]
          refine wl rfl (.bool true) _ (run_mvZ (.tmp 79) rfl (.bool true) rfl) ?_
          simp only [Act.put, List.setIfInBounds_toArray, List.set_cons_succ, List.set_cons_zero]
          refine wpList_skip (by kernel_rfl) ?_
          simp only [Act.put, List.setIfInBounds_toArray, List.set_cons_succ, List.set_cons_zero]
          refine wpList_skip (by kernel_rfl) ?_
          simp only [Act.put, List.setIfInBounds_toArray, List.set_cons_succ, List.set_cons_zero]
          refine wpList_skip (by kernel_rfl) ?_
          simp only [Act.put, List.setIfInBounds_toArray, List.set_cons_succ, List.set_cons_zero]
          refine wl rfl (.bool true) _ (run_pickZ (.tmp 80) (.const (.bool true)) (.tmp 83) rfl true (.bool true) rfl rfl) ?_
          simp only [Act.put, List.setIfInBounds_toArray, List.set_cons_succ, List.set_cons_zero]
          refine wpList_nil ?_
          have h := of_decide_eq_true HD3.out
          have hpb : pcB p = false := (by simp [pcB, inB]; omega)
          have er : R = false := (by rw [HR2.out]; exact all_notP r.cp k p HX.out.2.2 hpb)
          subst er
          clear h hpb
          go_wp2_with fail
          rw [HPQ.out]
          exact ⟨rfl, Rw3.out.below⟩
        | false =>
        cases d4 with
        | true =>
          go_upto_region 7 with fail
          refine wp_region_lit ?_
          refine wl rfl (.pointer (some ⟨q2, 0 + 0, none⟩)) _ (run_fieldOp' f43_0 (.tmp 4) rfl q2 (0) rfl) ?_
          simp only [Act.put, List.setIfInBounds_toArray, List.set_cons_succ, List.set_cons_zero]
          refine wl rfl (.int .i64 p.dev) _ (run_load1 o3 (.tmp 57) rfl q2 (0 + 0) rfl (.int .i64 p.dev) ((Rw3.out.at 1 rfl).at 0 _ rfl)) ?_
          simp only [Act.put, List.setIfInBounds_toArray, List.set_cons_succ, List.set_cons_zero]
          refine wl rfl (.bool false) _ (run_lssZ (.tmp 58) (.const (.int .i64 0)) rfl p.dev 0 rfl rfl false HD1.out) ?_
          simp only [Act.put, List.setIfInBounds_toArray, List.set_cons_succ, List.set_cons_zero]
          refine wl rfl (.bool false) _ (run_mvZ (.tmp 59) rfl (.bool false) rfl) ?_
          simp only [Act.put, List.setIfInBounds_toArray, List.set_cons_succ, List.set_cons_zero]
          refine wl (by kernel_rfl) (.pointer (some ⟨q2, 0 + 0, none⟩)) _ (run_fieldOp' f43_0 (.tmp 4) rfl q2 (0) rfl) ?_
          simp only [Act.put, List.setIfInBounds_toArray, List.set_cons_succ, List.set_cons_zero]
          refine wl (by kernel_rfl) (.int .i64 p.dev) _ (run_load1 o3 (.tmp 61) rfl q2 (0 + 0) rfl (.int .i64 p.dev) ((Rw3.out.at 1 rfl).at 0 _ rfl)) ?_
          simp only [Act.put, List.setIfInBounds_toArray, List.set_cons_succ, List.set_cons_zero]
          refine wl (by kernel_rfl) (.bool false) _ (run_geqZ (.tmp 62) (.const (.int .i64 12)) rfl p.dev 12 rfl rfl false HD2.out) ?_
          simp only [Act.put, List.setIfInBounds_toArray, List.set_cons_succ, List.set_cons_zero]
          refine wl rfl (.bool false) _ (run_pickZ (.tmp 60) (.const (.bool true)) (.tmp 63) rfl false (.bool false) rfl rfl) ?_
          simp only [Act.put, List.setIfInBounds_toArray, List.set_cons_succ, List.set_cons_zero]
          refine wl rfl (.bool false) _ (run_mvZ (.tmp 64) rfl (.bool false) rfl) ?_
          simp only [Act.put, List.setIfInBounds_toArray, List.set_cons_succ, List.set_cons_zero]
          refine wl (by kernel_rfl) (.pointer (some ⟨q2, 0 + 1, none⟩)) _ (run_fieldOp' f43_1 (.tmp 4) rfl q2 (0) rfl) ?_
          simp only [Act.put, List.setIfInBounds_toArray, List.set_cons_succ, List.set_cons_zero]
          refine wl (by kernel_rfl) (.int .i64 p.pl) _ (run_load1 o3 (.tmp 66) rfl q2 (0 + 1) rfl (.int .i64 p.pl) ((Rw3.out.at 1 rfl).at 1 _ rfl)) ?_
          simp only [Act.put, List.setIfInBounds_toArray, List.set_cons_succ, List.set_cons_zero]
          refine wl (by kernel_rfl) (.bool false) _ (run_lssZ (.tmp 67) (.const (.int .i64 0)) rfl p.pl 0 rfl rfl false HD3.out) ?_
          simp only [Act.put, List.setIfInBounds_toArray, List.set_cons_succ, List.set_cons_zero]
          refine wl rfl (.bool false) _ (run_pickZ (.tmp 65) (.const (.bool true)) (.tmp 68) rfl false (.bool false) rfl rfl) ?_
          simp only [Act.put, List.setIfInBounds_toArray, List.set_cons_succ, List.set_cons_zero]
          refine wl rfl (.bool false) _ (run_mvZ (.tmp 69) rfl (.bool false) rfl) ?_
          simp only [Act.put, List.setIfInBounds_toArray, List.set_cons_succ, List.set_cons_zero]
          refine wl (by kernel_rfl) (.pointer (some ⟨q2, 0 + 1, none⟩)) _ (run_fieldOp' f43_1 (.tmp 4) rfl q2 (0) rfl) ?_
          simp only [Act.put, List.setIfInBounds_toArray, List.set_cons_succ, List.set_cons_zero]
          refine wl (by kernel_rfl) (.int .i64 p.pl) _ (run_load1 o3 (.tmp 71) rfl q2 (0 + 1) rfl (.int .i64 p.pl) ((Rw3.out.at 1 rfl).at 1 _ rfl)) ?_
          simp only [Act.put, List.setIfInBounds_toArray, List.set_cons_succ, List.set_cons_zero]
          refine wl (by kernel_rfl) (.bool true) _ (run_geqZ (.tmp 72) (.const (.int .i64 4096)) rfl p.pl 4096 rfl rfl true HD4.out) ?_
          simp only [Act.put, List.setIfInBounds_toArray, List.set_cons_succ, List.set_cons_zero]
          refine wl rfl (.bool true) _ (run_pickZ (.tmp 70) (.const (.bool true)) (.tmp 73) rfl false (.bool true) rfl rfl) ?_
          simp only [Act.put, List.setIfInBounds_toArray, List.set_cons_succ, List.set_cons_zero]
          refine wl rfl (.bool true) _ (run_mvZ (.tmp 74) rfl (.bool true) rfl) ?_
          simp only [Act.put, List.setIfInBounds_toArray, List.set_cons_succ, List.set_cons_zero]
          refine wpList_skip (by kernel_rfl) ?_
          simp only [Act.put, List.setIfInBounds_toArray, List.set_cons_succ, List.set_cons_zero]
          refine wpList_skip (by kernel_rfl) ?_
          simp only [Act.put, List.setIfInBounds_toArray, List.set_cons_succ, List.set_cons_zero]
          refine wpList_skip (by kernel_rfl) ?_
          simp only [Act.put, List.setIfInBounds_toArray, List.set_cons_succ, List.set_cons_zero]
          refine wl rfl (.bool true) _ (run_pickZ (.tmp 75) (.const (.bool true)) (.tmp 78) rfl true (.bool true) rfl rfl) ?_
          simp only [Act.put, List.setIfInBounds_toArray, List.set_cons_succ, List.set_cons_zero]
          refine wl rfl (.bool true) _ (run_mvZ (.tmp 79) rfl (.bool true) rfl) ?_
          simp only [Act.put, List.setIfInBounds_toArray, List.set_cons_succ, List.set_cons_zero]
          refine wpList_skip (by kernel_rfl) ?_
          simp only [Act.put, List.setIfInBounds_toArray, List.set_cons_succ, List.set_cons_zero]
          refine wpList_skip (by kernel_rfl) ?_
          simp only [Act.put, List.setIfInBounds_toArray, List.set_cons_succ, List.set_cons_zero]
          refine wpList_skip (by kernel_rfl) ?_
          simp only [Act.put, List.setIfInBounds_toArray, List.set_cons_succ, List.set_cons_zero]
          refine wl rfl (.bool true) _ (run_pickZ (.tmp 80) (.const (.bool true)) (.tmp 83) rfl true (.bool true) rfl rfl) ?_
          simp only [Act.put, List.setIfInBounds_toArray, List.set_cons_succ, List.set_cons_zero]
          refine wpList_nil ?_
          have h := of_decide_eq_true HD4.out
          have hpb : pcB p = false := (by simp [pcB, inB]; omega)
          have er : R = false := (by rw [HR2.out]; exact all_notP r.cp k p HX.out.2.2 hpb)
          subst er
          clear h hpb
          go_wp2_with fail
          rw [HPQ.out]
          exact ⟨rfl, Rw3.out.below⟩
        | false =>
        cases d5 with
        | true =>
          go_upto_region 7 with fail
          refine wp_region_lit ?_
          refine wl rfl (.pointer (some ⟨q2, 0 + 0, none⟩)) _ (run_fieldOp' f43_0 (.tmp 4) rfl q2 (0) rfl) ?_
          simp only [Act.put, List.setIfInBounds_toArray, List.set_cons_succ, List.set_cons_zero]
          refine wl rfl (.int .i64 p.dev) _ (run_load1 o3 (.tmp 57) rfl q2 (0 + 0) rfl (.int .i64 p.dev) ((Rw3.out.at 1 rfl).at 0 _ rfl)) ?_
          simp only [Act.put, List.setIfInBounds_toArray, List.set_cons_succ, List.set_cons_zero]
          refine wl rfl (.bool false) _ (run_lssZ (.tmp 58) (.const (.int .i64 0)) rfl p.dev 0 rfl rfl false HD1.out) ?_
          simp only [Act.put, List.setIfInBounds_toArray, List.set_cons_succ, List.set_cons_zero]
          refine wl rfl (.bool false) _ (run_mvZ (.tmp 59) rfl (.bool false) rfl) ?_
          simp only [Act.put, List.setIfInBounds_toArray, List.set_cons_succ, List.set_cons_zero]
          refine wl (by kernel_rfl) (.pointer (some ⟨q2, 0 + 0, none⟩)) _ (run_fieldOp' f43_0 (.tmp 4) rfl q2 (0) rfl) ?_
          simp only [Act.put, List.setIfInBounds_toArray, List.set_cons_succ, List.set_cons_zero]
          refine wl (by kernel_rfl) (.int .i64 p.dev) _ (run_load1 o3 (.tmp 61) rfl q2 (0 + 0) rfl (.int .i64 p.dev) ((Rw3.out.at 1 rfl).at 0 _ rfl)) ?_
          simp only [Act.put, List.setIfInBounds_toArray, List.set_cons_succ, List.set_cons_zero]
          refine wl (by kernel_rfl) (.bool false) _ (run_geqZ (.tmp 62) (.const (.int .i64 12)) rfl p.dev 12 rfl rfl false HD2.out) ?_
          simp only [Act.put, List.setIfInBounds_toArray, List.set_cons_succ, List.set_cons_zero]
          refine wl rfl (.bool false) _ (run_pickZ (.tmp 60) (.const (.bool true)) (.tmp 63) rfl false (.bool false) rfl rfl) ?_
          simp only [Act.put, List.setIfInBounds_toArray, List.set_cons_succ, List.set_cons_zero]
          refine wl rfl (.bool false) _ (run_mvZ (.tmp 64) rfl (.bool false) rfl) ?_
          simp only [Act.put, List.setIfInBounds_toArray, List.set_cons_succ, List.set_cons_zero]
          refine wl (by kernel_rfl) (.pointer (some ⟨q2, 0 + 1, none⟩)) _ (run_fieldOp' f43_1 (.tmp 4) rfl q2 (0) rfl) ?_
          simp only [Act.put, List.setIfInBounds_toArray, List.set_cons_succ, List.set_cons_zero]
          refine wl (by kernel_rfl) (.int .i64 p.pl) _ (run_load1 o3 (.tmp 66) rfl q2 (0 + 1) rfl (.int .i64 p.pl) ((Rw3.out.at 1 rfl).at 1 _ rfl)) ?_
          simp only [Act.put, List.setIfInBounds_toArray, List.set_cons_succ, List.set_cons_zero]
          refine wl (by kernel_rfl) (.bool false) _ (run_lssZ (.tmp 67) (.const (.int .i64 0)) rfl p.pl 0 rfl rfl false HD3.out) ?_
          simp only [Act.put, List.setIfInBounds_toArray, List.set_cons_succ, List.set_cons_zero]
          refine wl rfl (.bool false) _ (run_pickZ (.tmp 65) (.const (.bool true)) (.tmp 68) rfl false (.bool false) rfl rfl) ?_
          simp only [Act.put, List.setIfInBounds_toArray, List.set_cons_succ, List.set_cons_zero]
          refine wl rfl (.bool false) _ (run_mvZ (.tmp 69) rfl (.bool false) rfl) ?_
          simp only [Act.put, List.setIfInBounds_toArray, List.set_cons_succ, List.set_cons_zero]
          refine wl (by kernel_rfl) (.pointer (some ⟨q2, 0 + 1, none⟩)) _ (run_fieldOp' f43_1 (.tmp 4) rfl q2 (0) rfl) ?_
          simp only [Act.put, List.setIfInBounds_toArray, List.set_cons_succ, List.set_cons_zero]
          refine wl (by kernel_rfl) (.int .i64 p.pl) _ (run_load1 o3 (.tmp 71) rfl q2 (0 + 1) rfl (.int .i64 p.pl) ((Rw3.out.at 1 rfl).at 1 _ rfl)) ?_
          simp only [Act.put, List.setIfInBounds_toArray, List.set_cons_succ, List.set_cons_zero]
          refine wl (by kernel_rfl) (.bool false) _ (run_geqZ (.tmp 72) (.const (.int .i64 4096)) rfl p.pl 4096 rfl rfl false HD4.out) ?_
          simp only [Act.put, List.setIfInBounds_toArray, List.set_cons_succ, List.set_cons_zero]
          refine wl rfl (.bool false) _ (run_pickZ (.tmp 70) (.const (.bool true)) (.tmp 73) rfl false (.bool false) rfl rfl) ?_
          simp only [Act.put, List.setIfInBounds_toArray, List.set_cons_succ, List.set_cons_zero]
          refine wl rfl (.bool false) _ (run_mvZ (.tmp 74) rfl (.bool false) rfl) ?_
          simp only [Act.put, List.setIfInBounds_toArray, List.set_cons_succ, List.set_cons_zero]
          refine wl (by kernel_rfl) (.pointer (some ⟨q2, 0 + 2, none⟩)) _ (run_fieldOp' f43_2 (.tmp 4) rfl q2 (0) rfl) ?_
          simp only [Act.put, List.setIfInBounds_toArray, List.set_cons_succ, List.set_cons_zero]
          refine wl (by kernel_rfl) (.int .i64 p.len) _ (run_load1 o3 (.tmp 76) rfl q2 (0 + 2) rfl (.int .i64 p.len) ((Rw3.out.at 1 rfl).at 2 _ rfl)) ?_
          simp only [Act.put, List.setIfInBounds_toArray, List.set_cons_succ, List.set_cons_zero]
          refine wl (by kernel_rfl) (.bool true) _ (run_lssZ (.tmp 77) (.const (.int .i64 0)) rfl p.len 0 rfl rfl true HD5.out) ?_
          simp only [Act.put, List.setIfInBounds_toArray, List.set_cons_succ, List.set_cons_zero]
          refine wl rfl (.bool true) _ (run_pickZ (.tmp 75) (.const (.bool true)) (.tmp 78) rfl false (.bool true) rfl rfl) ?_
          simp only [Act.put, List.setIfInBounds_toArray, List.set_cons_succ, List.set_cons_zero]
          refine wl rfl (.bool true) _ (run_mvZ (.tmp 79) rfl (.bool true) rfl) ?_
          simp only [Act.put, List.setIfInBounds_toArray, List.set_cons_succ, List.set_cons_zero]
          refine wpList_skip (by kernel_rfl) ?_
          simp only [Act.put, List.setIfInBounds_toArray, List.set_cons_succ, List.set_cons_zero]
          refine wpList_skip (by kernel_rfl) ?_
          simp only [Act.put, List.setIfInBounds_toArray, List.set_cons_succ, List.set_cons_zero]
          refine wpList_skip (by kernel_rfl) ?_
          simp only [Act.put, List.setIfInBounds_toArray, List.set_cons_succ, List.set_cons_zero]
          refine wl rfl (.bool true) _ (run_pickZ (.tmp 80) (.const (.bool true)) (.tmp 83) rfl true (.bool true) rfl rfl) ?_
          simp only [Act.put, List.setIfInBounds_toArray, List.set_cons_succ, List.set_cons_zero]
          refine wpList_nil ?_
          have h := of_decide_eq_true HD5.out
          have hpb : pcB p = false := (by simp [pcB, inB]; omega)
          have er : R = false := (by rw [HR2.out]; exact all_notP r.cp k p HX.out.2.2 hpb)
          subst er
          clear h hpb
          go_wp2_with fail
          rw [HPQ.out]
          exact ⟨rfl, Rw3.out.below⟩
        | false =>
        cases d6 with
        | true =>
          go_upto_region 7 with fail
          refine wp_region_lit ?_
          refine wl rfl (.pointer (some ⟨q2, 0 + 0, none⟩)) _ (run_fieldOp' f43_0 (.tmp 4) rfl q2 (0) rfl) ?_
          simp only [Act.put, List.setIfInBounds_toArray, List.set_cons_succ, List.set_cons_zero]
          refine wl rfl (.int .i64 p.dev) _ (run_load1 o3 (.tmp 57) rfl q2 (0 + 0) rfl (.int .i64 p.dev) ((Rw3.out.at 1 rfl).at 0 _ rfl)) ?_
          simp only [Act.put, List.setIfInBounds_toArray, List.set_cons_succ, List.set_cons_zero]
          refine wl rfl (.bool false) _ (run_lssZ (.tmp 58) (.const (.int .i64 0)) rfl p.dev 0 rfl rfl false HD1.out) ?_
          simp only [Act.put, List.setIfInBounds_toArray, List.set_cons_succ, List.set_cons_zero]
          refine wl rfl (.bool false) _ (run_mvZ (.tmp 59) rfl (.bool false) rfl) ?_
          simp only [Act.put, List.setIfInBounds_toArray, List.set_cons_succ, List.set_cons_zero]
          refine wl (by kernel_rfl) (.pointer (some ⟨q2, 0 + 0, none⟩)) _ (run_fieldOp' f43_0 (.tmp 4) rfl q2 (0) rfl) ?_
          simp only [Act.put, List.setIfInBounds_toArray, List.set_cons_succ, List.set_cons_zero]
          refine wl (by kernel_rfl) (.int .i64 p.dev) _ (run_load1 o3 (.tmp 61) rfl q2 (0 + 0) rfl (.int .i64 p.dev) ((Rw3.out.at 1 rfl).at 0 _ rfl)) ?_
          simp only [Act.put, List.setIfInBounds_toArray, List.set_cons_succ, List.set_cons_zero]
          refine wl (by kernel_rfl) (.bool false) _ (run_geqZ (.tmp 62) (.const (.int .i64 12)) rfl p.dev 12 rfl rfl false HD2.out) ?_
          simp only [Act.put, List.setIfInBounds_toArray, List.set_cons_succ, List.set_cons_zero]
          refine wl rfl (.bool false) _ (run_pickZ (.tmp 60) (.const (.bool true)) (.tmp 63) rfl false (.bool false) rfl rfl) ?_
          simp only [Act.put, List.setIfInBounds_toArray, List.set_cons_succ, List.set_cons_zero]
          refine wl rfl (.bool false) _ (run_mvZ (.tmp 64) rfl (.bool false) rfl) ?_
          simp only [Act.put, List.setIfInBounds_toArray, List.set_cons_succ, List.set_cons_zero]
          refine wl (by kernel_rfl) (.pointer (some ⟨q2, 0 + 1, none⟩)) _ (run_fieldOp' f43_1 (.tmp 4) rfl q2 (0) rfl) ?_
          simp only [Act.put, List.setIfInBounds_toArray, List.set_cons_succ, List.set_cons_zero]
          refine wl (by kernel_rfl) (.int .i64 p.pl) _ (run_load1 o3 (.tmp 66) rfl q2 (0 + 1) rfl (.int .i64 p.pl) ((Rw3.out.at 1 rfl).at 1 _ rfl)) ?_
          simp only [Act.put, List.setIfInBounds_toArray, List.set_cons_succ, List.set_cons_zero]
          refine wl (by kernel_rfl) (.bool false) _ (run_lssZ (.tmp 67) (.const (.int .i64 0)) rfl p.pl 0 rfl rfl false HD3.out) ?_
          simp only [Act.put, List.setIfInBounds_toArray, List.set_cons_succ, List.set_cons_zero]
          refine wl rfl (.bool false) _ (run_pickZ (.tmp 65) (.const (.bool true)) (.tmp 68) rfl false (.bool false) rfl rfl) ?_
          simp only [Act.put, List.setIfInBounds_toArray, List.set_cons_succ, List.set_cons_zero]
          refine wl rfl (.bool false) _ (run_mvZ (.tmp 69) rfl (.bool false) rfl) ?_
          simp only [Act.put, List.setIfInBounds_toArray, List.set_cons_succ, List.set_cons_zero]
          refine wl (by kernel_rfl) (.pointer (some ⟨q2, 0 + 1, none⟩)) _ (run_fieldOp' f43_1 (.tmp 4) rfl q2 (0) rfl) ?_
          simp only [Act.put, List.setIfInBounds_toArray, List.set_cons_succ, List.set_cons_zero]
          refine wl (by kernel_rfl) (.int .i64 p.pl) _ (run_load1 o3 (.tmp 71) rfl q2 (0 + 1) rfl (.int .i64 p.pl) ((Rw3.out.at 1 rfl).at 1 _ rfl)) ?_
          simp only [Act.put, List.setIfInBounds_toArray, List.set_cons_succ, List.set_cons_zero]
          refine wl (by kernel_rfl) (.bool false) _ (run_geqZ (.tmp 72) (.const (.int .i64 4096)) rfl p.pl 4096 rfl rfl false HD4.out) ?_
          simp only [Act.put, List.setIfInBounds_toArray, List.set_cons_succ, List.set_cons_zero]
          refine wl rfl (.bool false) _ (run_pickZ (.tmp 70) (.const (.bool true)) (.tmp 73) rfl false (.bool false) rfl rfl) ?_
          simp only [Act.put, List.setIfInBounds_toArray, List.set_cons_succ, List.set_cons_zero]
          refine wl rfl (.bool false) _ (run_mvZ (.tmp 74) rfl (.bool false) rfl) ?_
          simp only [Act.put, List.setIfInBounds_toArray, List.set_cons_succ, List.set_cons_zero]
          refine wl (by kernel_rfl) (.pointer (some ⟨q2, 0 + 2, none⟩)) _ (run_fieldOp' f43_2 (.tmp 4) rfl q2 (0) rfl) ?_
          simp only [Act.put, List.setIfInBounds_toArray, List.set_cons_succ, List.set_cons_zero]
          refine wl (by kernel_rfl) (.int .i64 p.len) _ (run_load1 o3 (.tmp 76) rfl q2 (0 + 2) rfl (.int .i64 p.len) ((Rw3.out.at 1 rfl).at 2 _ rfl)) ?_
          simp only [Act.put, List.setIfInBounds_toArray, List.set_cons_succ, List.set_cons_zero]
          refine wl (by kernel_rfl) (.bool false) _ (run_lssZ (.tmp 77) (.const (.int .i64 0)) rfl p.len 0 rfl rfl false HD5.out) ?_
          simp only [Act.put, List.setIfInBounds_toArray, List.set_cons_succ, List.set_cons_zero]
          refine wl rfl (.bool false) _ (run_pickZ (.tmp 75) (.const (.bool true)) (.tmp 78) rfl false (.bool false) rfl rfl) ?_
          simp only [Act.put, List.setIfInBounds_toArray, List.set_cons_succ, List.set_cons_zero]
          refine wl rfl (.bool false) _ (run_mvZ (.tmp 79) rfl (.bool false) rfl) ?_
          simp only [Act.put, List.setIfInBounds_toArray, List.set_cons_succ, List.set_cons_zero]
          refine wl (by kernel_rfl) (.pointer (some ⟨q2, 0 + 2, none⟩)) _ (run_fieldOp' f43_2 (.tmp 4) rfl q2 (0) rfl) ?_
          simp only [Act.put, List.setIfInBounds_toArray, List.set_cons_succ, List.set_cons_zero]
          refine wl (by kernel_rfl) (.int .i64 p.len) _ (run_load1 o3 (.tmp 81) rfl q2 (0 + 2) rfl (.int .i64 p.len) ((Rw3.out.at 1 rfl).at 2 _ rfl)) ?_
          simp only [Act.put, List.setIfInBounds_toArray, List.set_cons_succ, List.set_cons_zero]
          refine wl (by kernel_rfl) (.bool true) _ (run_gtrZ (.tmp 82) (.const (.int .i64 255)) rfl p.len 255 rfl rfl true HD6.out) ?_
          simp only [Act.put, List.setIfInBounds_toArray, List.set_cons_succ, List.set_cons_zero]
          refine wl rfl (.bool true) _ (run_pickZ (.tmp 80) (.const (.bool true)) (.tmp 83) rfl false (.bool true) rfl rfl) ?_
          simp only [Act.put, List.setIfInBounds_toArray, List.set_cons_succ, List.set_cons_zero]
          refine wpList_nil ?_
          have h := of_decide_eq_true HD6.out
          have hpb : pcB p = false := (by simp [pcB, inB]; omega)
          have er : R = false := (by rw [HR2.out]; exact all_notP r.cp k p HX.out.2.2 hpb)
          subst er
          clear h hpb
          go_wp2_with fail
          rw [HPQ.out]
          exact ⟨rfl, Rw3.out.below⟩
        | false =>
          go_upto_region 7 with fail
          refine wp_region_lit ?_
          refine wl rfl (.pointer (some ⟨q2, 0 + 0, none⟩)) _ (run_fieldOp' f43_0 (.tmp 4) rfl q2 (0) rfl) ?_
          simp only [Act.put, List.setIfInBounds_toArray, List.set_cons_succ, List.set_cons_zero]
          refine wl rfl (.int .i64 p.dev) _ (run_load1 o3 (.tmp 57) rfl q2 (0 + 0) rfl (.int .i64 p.dev) ((Rw3.out.at 1 rfl).at 0 _ rfl)) ?_
          simp only [Act.put, List.setIfInBounds_toArray, List.set_cons_succ, List.set_cons_zero]
          refine wl rfl (.bool false) _ (run_lssZ (.tmp 58) (.const (.int .i64 0)) rfl p.dev 0 rfl rfl false HD1.out) ?_
          simp only [Act.put, List.setIfInBounds_toArray, List.set_cons_succ, List.set_cons_zero]
          refine wl rfl (.bool false) _ (run_mvZ (.tmp 59) rfl (.bool false) rfl) ?_
          simp only [Act.put, List.setIfInBounds_toArray, List.set_cons_succ, List.set_cons_zero]
          refine wl (by kernel_rfl) (.pointer (some ⟨q2, 0 + 0, none⟩)) _ (run_fieldOp' f43_0 (.tmp 4) rfl q2 (0) rfl) ?_
          simp only [Act.put, List.setIfInBounds_toArray, List.set_cons_succ, List.set_cons_zero]
          refine wl (by kernel_rfl) (.int .i64 p.dev) _ (run_load1 o3 (.tmp 61) rfl q2 (0 + 0) rfl (.int .i64 p.dev) ((Rw3.out.at 1 rfl).at 0 _ rfl)) ?_
          simp only [Act.put, List.setIfInBounds_toArray, List.set_cons_succ, List.set_cons_zero]
          refine wl (by kernel_rfl) (.bool false) _ (run_geqZ (.tmp 62) (.const (.int .i64 12)) rfl p.dev 12 rfl rfl false HD2.out) ?_
          simp only [Act.put, List.setIfInBounds_toArray, List.set_cons_succ, List.set_cons_zero]
          refine wl rfl (.bool false) _ (run_pickZ (.tmp 60) (.const (.bool true)) (.tmp 63) rfl false (.bool false) rfl rfl) ?_
          simp only [Act.put, List.setIfInBounds_toArray, List.set_cons_succ, List.set_cons_zero]
          refine wl rfl (.bool false) _ (run_mvZ (.tmp 64) rfl (.bool false) rfl) ?_
          simp only [Act.put, List.setIfInBounds_toArray, List.set_cons_succ, List.set_cons_zero]
          refine wl (by kernel_rfl) (.pointer (some ⟨q2, 0 + 1, none⟩)) _ (run_fieldOp' f43_1 (.tmp 4) rfl q2 (0) rfl) ?_
          simp only [Act.put, List.setIfInBounds_toArray, List.set_cons_succ, List.set_cons_zero]
          refine wl (by kernel_rfl) (.int .i64 p.pl) _ (run_load1 o3 (.tmp 66) rfl q2 (0 + 1) rfl (.int .i64 p.pl) ((Rw3.out.at 1 rfl).at 1 _ rfl)) ?_
          simp only [Act.put, List.setIfInBounds_toArray, List.set_cons_succ, List.set_cons_zero]
          refine wl (by kernel_rfl) (.bool false) _ (run_lssZ (.tmp 67) (.const (.int .i64 0)) rfl p.pl 0 rfl rfl false HD3.out) ?_
          simp only [Act.put, List.setIfInBounds_toArray, List.set_cons_succ, List.set_cons_zero]
          refine wl rfl (.bool false) _ (run_pickZ (.tmp 65) (.const (.bool true)) (.tmp 68) rfl false (.bool false) rfl rfl) ?_
          simp only [Act.put, List.setIfInBounds_toArray, List.set_cons_succ, List.set_cons_zero]
          refine wl rfl (.bool false) _ (run_mvZ (.tmp 69) rfl (.bool false) rfl) ?_
          simp only [Act.put, List.setIfInBounds_toArray, List.set_cons_succ, List.set_cons_zero]
          refine wl (by kernel_rfl) (.pointer (some ⟨q2, 0 + 1, none⟩)) _ (run_fieldOp' f43_1 (.tmp 4) rfl q2 (0) rfl) ?_
          simp only [Act.put, List.setIfInBounds_toArray, List.set_cons_succ, List.set_cons_zero]
          refine wl (by kernel_rfl) (.int .i64 p.pl) _ (run_load1 o3 (.tmp 71) rfl q2 (0 + 1) rfl (.int .i64 p.pl) ((Rw3.out.at 1 rfl).at 1 _ rfl)) ?_
          simp only [Act.put, List.setIfInBounds_toArray, List.set_cons_succ, List.set_cons_zero]
          refine wl (by kernel_rfl) (.bool false) _ (run_geqZ (.tmp 72) (.const (.int .i64 4096)) rfl p.pl 4096 rfl rfl false HD4.out) ?_
          simp only [Act.put, List.setIfInBounds_toArray, List.set_cons_succ, List.set_cons_zero]
          refine wl rfl (.bool false) _ (run_pickZ (.tmp 70) (.const (.bool true)) (.tmp 73) rfl false (.bool false) rfl rfl) ?_
          simp only [Act.put, List.setIfInBounds_toArray, List.set_cons_succ, List.set_cons_zero]
          refine wl rfl (.bool false) _ (run_mvZ (.tmp 74) rfl (.bool false) rfl) ?_
          simp only [Act.put, List.setIfInBounds_toArray, List.set_cons_succ, List.set_cons_zero]
          refine wl (by kernel_rfl) (.pointer (some ⟨q2, 0 + 2, none⟩)) _ (run_fieldOp' f43_2 (.tmp 4) rfl q2 (0) rfl) ?_
          simp only [Act.put, List.setIfInBounds_toArray, List.set_cons_succ, List.set_cons_zero]
          refine wl (by kernel_rfl) (.int .i64 p.len) _ (run_load1 o3 (.tmp 76) rfl q2 (0 + 2) rfl (.int .i64 p.len) ((Rw3.out.at 1 rfl).at 2 _ rfl)) ?_
          simp only [Act.put, List.setIfInBounds_toArray, List.set_cons_succ, List.set_cons_zero]
          refine wl (by kernel_rfl) (.bool false) _ (run_lssZ (.tmp 77) (.const (.int .i64 0)) rfl p.len 0 rfl rfl false HD5.out) ?_
          simp only [Act.put, List.setIfInBounds_toArray, List.set_cons_succ, List.set_cons_zero]
          refine wl rfl (.bool false) _ (run_pickZ (.tmp 75) (.const (.bool true)) (.tmp 78) rfl false (.bool false) rfl rfl) ?_
          simp only [Act.put, List.setIfInBounds_toArray, List.set_cons_succ, List.set_cons_zero]
          refine wl rfl (.bool false) _ (run_mvZ (.tmp 79) rfl (.bool false) rfl) ?_
          simp only [Act.put, List.setIfInBounds_toArray, List.set_cons_succ, List.set_cons_zero]
          refine wl (by kernel_rfl) (.pointer (some ⟨q2, 0 + 2, none⟩)) _ (run_fieldOp' f43_2 (.tmp 4) rfl q2 (0) rfl) ?_
          simp only [Act.put, List.setIfInBounds_toArray, List.set_cons_succ, List.set_cons_zero]
          refine wl (by kernel_rfl) (.int .i64 p.len) _ (run_load1 o3 (.tmp 81) rfl q2 (0 + 2) rfl (.int .i64 p.len) ((Rw3.out.at 1 rfl).at 2 _ rfl)) ?_
          simp only [Act.put, List.setIfInBounds_toArray, List.set_cons_succ, List.set_cons_zero]
          refine wl (by kernel_rfl) (.bool false) _ (run_gtrZ (.tmp 82) (.const (.int .i64 255)) rfl p.len 255 rfl rfl false HD6.out) ?_
          simp only [Act.put, List.setIfInBounds_toArray, List.set_cons_succ, List.set_cons_zero]
          refine wl rfl (.bool false) _ (run_pickZ (.tmp 80) (.const (.bool true)) (.tmp 83) rfl false (.bool false) rfl rfl) ?_
          simp only [Act.put, List.setIfInBounds_toArray, List.set_cons_succ, List.set_cons_zero]
          refine wpList_nil ?_
          have h1 := of_decide_eq_false HD1.out
          have h2 := of_decide_eq_false HD2.out
          have h3 := of_decide_eq_false HD3.out
          have h4 := of_decide_eq_false HD4.out
          have h5 := of_decide_eq_false HD5.out
          have h6 := of_decide_eq_false HD6.out
          have HPB : Hid (pcB p = true) := (by show pcB p = true; simp [pcB, inB]; omega)
          clear h1 h2 h3 h4 h5 h6
          go_wp2_with fail
          refine ⟨⟨k + 1, by go_num, by omega, by rw [all_snocP r.cp k p HX.out.2.2, HA.out, HPB.out]; rfl, Rw3.out.take 1⟩, ?_⟩
          simp [intOf]; omega
      · have t1 : decide ((k : Int) < (n : Int)) = false := decide_eq_false (by omega)
        rw [t1]
        clear t1
        have ek : k = n := by omega
        have er : R = true := by
          have h2 := HA.out
          rw [ek, HN.out.1, List.take_length] at h2
          rw [HR2.out, h2]
        subst er
        clear ek
        go_wp2_with fail
        rw [HPQ.out]
        exact ⟨rfl, Rw1.out.below⟩

end Go.Proofs.Ytncjmolhofnpbaa

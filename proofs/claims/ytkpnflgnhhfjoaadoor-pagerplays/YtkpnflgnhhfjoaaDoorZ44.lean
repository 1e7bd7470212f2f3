/- PagerPlays, walked. For every number of sectors and every list of calls (Put, Free, Commit, opened anew), a pager answers and reads as the document's pager does behind each of them: the law PagerPlays returns true and changes nothing that was there. Conditions: what is read holds together at most 1048576 values and letters; the table crc.halves starts as the program's text lays it (the card ties it). -/
import Derived.Test.YtkpnflgnhhfjoaaDoorZ42
import Derived.Test.YtkpnflgnhhfjoaaDoorZ43
namespace Go.Proofs.YtkpnflgnhhfjoaaDoor
open Go.RowKit Go.Maps

set_option maxHeartbeats 8000000 in
set_option maxRecDepth 100000 in
theorem pagerPlays_any (w : World) (ht : Fr.TabIn w) (s : Int) (hs : -9223372036854775808 ≤ s ∧ s ≤ 9223372036854775807) (p1 : Option Addr) (n1 cap1 : Nat) (os : List OpD) (hb : OpsIn w (.slice p1 n1 cap1) os) : Calls Tryd.prog 3 #[.int .i64 s, .slice p1 n1 cap1] w fun e w' => e = .returned (.bool true) ∧ Below w.heap.size w w' := by
  have HT : Hid (Fr.TabIn w) := ht
  have HOS : Hid (OpsIn w (.slice p1 n1 cap1) os) := hb
  have HN1 : Hid (n1 ≤ 1048576) := hb.len
  obtain ⟨PQ, hPQ⟩ : ∃ PQ : Ending → World → Prop, PQ = fun (e : Ending) (w' : World) => e = .returned (.bool true) ∧ Below w.heap.size w w' := ⟨_, rfl⟩
  have HPQ : Hid (PQ = fun (e : Ending) (w' : World) => e = .returned (.bool true) ∧ Below w.heap.size w w') := hPQ
  rw [← hPQ]
  obtain ⟨s2, hs2⟩ : ∃ s2 : Int, s2 = if 400 < s then 400 else s := ⟨_, rfl⟩
  have HS2 : Hid (s2 ≤ 400 ∧ -9223372036854775808 ≤ s2 ∧ (400 < s → s2 = 400) ∧ (¬ 400 < s → s2 = s)) := (by
    show s2 ≤ 400 ∧ -9223372036854775808 ≤ s2 ∧ (400 < s → s2 = 400) ∧ (¬ 400 < s → s2 = s)
    rw [hs2]
    split <;> omega)
  clear hPQ ht hb hs2 hs
  go_enter Tryd.func3, Tryd.ntmps3
  go_upto_region 1 with fail
  refine wp_region_lit ?_
  refine wpList_callW eN9 [] _ rfl rfl [] rfl ?_
  refine (shown_any w HT.out).mono ?_
  rintro e W1 ⟨rfl, b_⟩
  refine ⟨_, rfl, ?_⟩
  have HB1 : Hid (Below w.heap.size w W1) := b_
  clear b_
  simp only [Act.put, aS, aC, aZ]
  refine wl rfl (.bool true) _ (run_asZ (.tmp 28) rfl (.bool true) rfl) ?_
  simp only [Act.put, aS, aC, aZ]
  refine wpList_nil ?_
  go_upto_if 30 with fail
  go_cut [0] from 28 (fun s0 W => s0 = .int .i64 s2 ∧ W1 = W)
  case first =>
    by_cases h400 : 400 < s
    · have h1 : decide (400 < s) = true := decide_eq_true h400
      go_wp2_with fail
      go_meet
      case rel => exact ⟨congrArg (Value.int .i64) (HS2.out.2.2.1 h400).symm, rfl⟩
    · have h1 : decide (400 < s) = false := decide_eq_false h400
      go_wp2_with fail
      go_meet
      case rel => exact ⟨congrArg (Value.int .i64) (HS2.out.2.2.2 h400).symm, rfl⟩
  case rest =>
    obtain ⟨rfl, rfl⟩ := hcut
    have hs400 : s2 ≤ 400 := HS2.out.1
    have hslo : -9223372036854775808 ≤ s2 := HS2.out.2.1
    clear HS2
    by_cases hbad : s2 < 1
    · go_upto_region 4 with fail
      refine wp_region_lit ?_
      refine wl rfl (.int .i64 s2) _ (run_mvZ (.tmp 0) rfl (.int .i64 s2) rfl) ?_
      simp only [Act.put, aS, aC, aZ]
      refine wl rfl (.slice (some ⟨W1.heap.size, 0, none⟩) 2 2) _ (run_lit2 (.tmp 32) s2 rfl rfl) ?_
      obtain ⟨q0, hq⟩ : ∃ q, q = W1.heap.size := ⟨_, rfl⟩
      obtain ⟨W2, hw⟩ : ∃ W, W = W1.alloc (.cells #[.int .i64 5, .int .i64 s2] 3) := ⟨_, rfl⟩
      have H2 : Hid (Below W1.heap.size W1 W2 ∧ Row W2 q0 3 [.int .i64 5, .int .i64 s2]) := (by rw [hq, hw]; exact ⟨below_alloc W1 _, Row.new _ _ _⟩)
      rw [← hq, ← hw]
      clear hq hw
      simp only [Act.put, aS, aC, aZ]
      refine wl rfl (.slice (some ⟨W2.heap.size, 0, none⟩) 1 1) _ (run_lit1 (.const (.int .i64 9)) 9 rfl rfl) ?_
      obtain ⟨q1, hq⟩ : ∃ q, q = W2.heap.size := ⟨_, rfl⟩
      obtain ⟨W3, hw⟩ : ∃ W, W = W2.alloc (.cells #[.int .i64 9] 3) := ⟨_, rfl⟩
      have H3 : Hid (Below w.heap.size w W3 ∧ IntsIn W3 (.slice (some ⟨q0, 0, none⟩) 2 2) [5, s2] ∧ IntsIn W3 (.slice (some ⟨q1, 0, none⟩) 1 1) [9]) := (by
        have hb2 : Below W2.heap.size W2 W3 := (by rw [hw]; exact below_alloc W2 _)
        exact ⟨HB1.out.trans ((H2.out.1.trans (hb2.mono H2.out.1.size)).mono HB1.out.size), ints_two (H2.out.2.later hb2 H2.out.2.lt), ints_one (by rw [hq, hw]; exact Row.new _ _ _)⟩)
      rw [← hq, ← hw]
      clear hq hw H2
      simp only [Act.put, aS, aC, aZ]
      refine wl rfl (.agg #[.slice (some ⟨q0, 0, none⟩) 2 2, .slice (some ⟨q1, 0, none⟩) 1 1]) _ (run_bld30 (.tmp 33) (.tmp 34) rfl _ _ _ _ _ _ rfl rfl) ?_
      simp only [Act.put, aS, aC, aZ]
      refine wpList_callW eN10 [.tmp 35] _ rfl rfl [(.agg #[.slice (some ⟨q0, 0, none⟩) 2 2, .slice (some ⟨q1, 0, none⟩) 1 1])] rfl ?_
      refine (newBad_any W3 _ _ [5, s2] [9] H3.out.2.1 H3.out.2.2 (by simp) (by simp) (shapeBad_two s2 hbad)).mono ?_
      rintro e W4 ⟨rfl, b_⟩
      refine ⟨_, rfl, ?_⟩
      have H4 : Hid (Below w.heap.size w W4) := H3.out.1.trans (b_.mono H3.out.1.size)
      clear b_ H3
      simp only [Act.put, aS, aC, aZ]
      refine wl rfl (.tuple #[(.pointer none), (.int .i64 30)]) _ (run_mvZ (.tmp 36) rfl (.tuple #[(.pointer none), (.int .i64 30)]) rfl) ?_
      simp only [Act.put, aS, aC, aZ]
      refine wl rfl (.pointer none) _ (run_extZ (.tmp 31) 0 rfl #[(.pointer none), (.int .i64 30)] rfl (.pointer none) rfl) ?_
      simp only [Act.put, aS, aC, aZ]
      refine wl rfl (.int .i64 30) _ (run_extZ (.tmp 31) 1 rfl #[(.pointer none), (.int .i64 30)] rfl (.int .i64 30) rfl) ?_
      simp only [Act.put, aS, aC, aZ]
      refine wl rfl (.pointer none) _ (run_asZ (.tmp 37) rfl (.pointer none) rfl) ?_
      simp only [Act.put, aS, aC, aZ]
      refine wl rfl (.int .i64 30) _ (run_asZ (.tmp 38) rfl (.int .i64 30) rfl) ?_
      simp only [Act.put, aS, aC, aZ]
      refine wpList_nil ?_
      go_upto_region 5 with fail
      refine wp_region_lit ?_
      refine wl rfl (.bool true) _ (run_mvZ (.tmp 5) rfl (.bool true) rfl) ?_
      simp only [Act.put, aS, aC, aZ]
      refine wl rfl (.bool false) _ (run_not (.tmp 39) 4 rfl true rfl) ?_
      simp only [Act.put, aS, aC, aZ]
      refine wl rfl (.bool false) _ (run_mvZ (.tmp 40) rfl (.bool false) rfl) ?_
      simp only [Act.put, aS, aC, aZ]
      refine wl (by kernel_rfl) (.pointer none) _ (run_mvZ (.tmp 6) rfl (.pointer none) rfl) ?_
      simp only [Act.put, aS, aC, aZ]
      refine wl (by kernel_rfl) (.bool true) _ (run_binOp' (.tmp 42) (.const (.pointer none)) rfl _ _ _ rfl rfl rfl (by kernel_rfl)) ?_
      simp only [Act.put, aS, aC, aZ]
      refine wl (by kernel_rfl) (.int .i64 30) _ (run_mvZ (.tmp 7) rfl (.int .i64 30) rfl) ?_
      simp only [Act.put, aS, aC, aZ]
      refine wl (by kernel_rfl) (.bool true) _ (run_neZ (.tmp 44) (.const (.int .i64 0)) rfl (30) (0) rfl rfl true rfl) ?_
      simp only [Act.put, aS, aC, aZ]
      refine wl (by kernel_rfl) (.bool false) _ (run_neB (.tmp 43) (.tmp 45) rfl true rfl rfl) ?_
      simp only [Act.put, aS, aC, aZ]
      refine wl rfl (.bool false) _ (run_pickZ (.tmp 41) (.const (.bool true)) (.tmp 46) rfl false (.bool false) rfl rfl) ?_
      simp only [Act.put, aS, aC, aZ]
      refine wpList_nil ?_
      go_wp2_with fail
      rw [HPQ.out]
      exact ⟨rfl, H4.out⟩
    obtain ⟨n0, hn0⟩ : ∃ n0 : Nat, s2 = (n0 : Nat) := ⟨s2.toNat, by omega⟩
    subst hn0
    have HN0 : Hid (1 ≤ n0 ∧ n0 ≤ 400) := (by omega : 1 ≤ n0 ∧ n0 ≤ 400)
    clear hbad hs400 hslo
    go_upto_region 4 with fail
    refine wp_region_lit ?_
    refine wl rfl (.int .i64 (n0 : Nat)) _ (run_mvZ (.tmp 0) rfl (.int .i64 (n0 : Nat)) rfl) ?_
    simp only [Act.put, aS, aC, aZ]
    refine wl rfl (.slice (some ⟨W1.heap.size, 0, none⟩) 2 2) _ (run_lit2 (.tmp 32) (n0 : Int) rfl rfl) ?_
    obtain ⟨q0, hq⟩ : ∃ q, q = W1.heap.size := ⟨_, rfl⟩
    obtain ⟨W2, hw⟩ : ∃ W, W = W1.alloc (.cells #[.int .i64 5, .int .i64 (n0 : Int)] 3) := ⟨_, rfl⟩
    have H2 : Hid (Below W1.heap.size W1 W2 ∧ Row W2 q0 3 [.int .i64 5, .int .i64 (n0 : Int)]) := (by rw [hq, hw]; exact ⟨below_alloc W1 _, Row.new _ _ _⟩)
    rw [← hq, ← hw]
    clear hq hw
    simp only [Act.put, aS, aC, aZ]
    refine wl rfl (.slice (some ⟨W2.heap.size, 0, none⟩) 1 1) _ (run_lit1 (.const (.int .i64 9)) 9 rfl rfl) ?_
    obtain ⟨q1, hq⟩ : ∃ q, q = W2.heap.size := ⟨_, rfl⟩
    obtain ⟨W3, hw⟩ : ∃ W, W = W2.alloc (.cells #[.int .i64 9] 3) := ⟨_, rfl⟩
    have H3 : Hid (Below w.heap.size w W3 ∧ IntsIn W3 (.slice (some ⟨q0, 0, none⟩) 2 2) [5, (n0 : Int)] ∧ IntsIn W3 (.slice (some ⟨q1, 0, none⟩) 1 1) [9]) := (by
      have hb2 : Below W2.heap.size W2 W3 := (by rw [hw]; exact below_alloc W2 _)
      exact ⟨HB1.out.trans ((H2.out.1.trans (hb2.mono H2.out.1.size)).mono HB1.out.size), ints_two (H2.out.2.later hb2 H2.out.2.lt), ints_one (by rw [hq, hw]; exact Row.new _ _ _)⟩)
    rw [← hq, ← hw]
    clear hq hw H2
    simp only [Act.put, aS, aC, aZ]
    refine wl rfl (.agg #[.slice (some ⟨q0, 0, none⟩) 2 2, .slice (some ⟨q1, 0, none⟩) 1 1]) _ (run_bld30 (.tmp 33) (.tmp 34) rfl _ _ _ _ _ _ rfl rfl) ?_
    simp only [Act.put, aS, aC, aZ]
    refine wpList_callW eN10 [.tmp 35] _ rfl rfl [(.agg #[.slice (some ⟨q0, 0, none⟩) 2 2, .slice (some ⟨q1, 0, none⟩) 1 1])] rfl ?_
    refine (PlW.new2 H3.out.1 HT.out n0 ⟨HN0.out.1, by have := HN0.out.2; omega⟩ _ _ H3.out.2.1 H3.out.2.2).mono ?_
    rintro e W4 ⟨g, c4, rfl, b_, h_⟩
    refine ⟨_, rfl, ?_⟩
    have H4 : Hid (PlW w W4 c4 g (newPl [5, (n0 : Int)] [9]) [5, n0] [9] 0) := h_
    clear h_ b_ H3 HB1
    simp only [Act.put, aS, aC, aZ]
    refine wl rfl (.tuple #[(ptr g), (.int .i64 0)]) _ (run_mvZ (.tmp 36) rfl (.tuple #[(ptr g), (.int .i64 0)]) rfl) ?_
    simp only [Act.put, aS, aC, aZ]
    refine wl rfl (ptr g) _ (run_extZ (.tmp 31) 0 rfl #[(ptr g), (.int .i64 0)] rfl (ptr g) rfl) ?_
    simp only [Act.put, aS, aC, aZ]
    refine wl rfl (.int .i64 0) _ (run_extZ (.tmp 31) 1 rfl #[(ptr g), (.int .i64 0)] rfl (.int .i64 0) rfl) ?_
    simp only [Act.put, aS, aC, aZ]
    refine wl rfl (ptr g) _ (run_asZ (.tmp 37) rfl (ptr g) rfl) ?_
    simp only [Act.put, aS, aC, aZ]
    refine wl rfl (.int .i64 0) _ (run_asZ (.tmp 38) rfl (.int .i64 0) rfl) ?_
    simp only [Act.put, aS, aC, aZ]
    refine wpList_nil ?_
    go_upto_region 5 with fail
    refine wp_region_lit ?_
    refine wl rfl (.bool true) _ (run_mvZ (.tmp 5) rfl (.bool true) rfl) ?_
    simp only [Act.put, aS, aC, aZ]
    refine wl rfl (.bool false) _ (run_not (.tmp 39) 4 rfl true rfl) ?_
    simp only [Act.put, aS, aC, aZ]
    refine wl rfl (.bool false) _ (run_mvZ (.tmp 40) rfl (.bool false) rfl) ?_
    simp only [Act.put, aS, aC, aZ]
    refine wl (by kernel_rfl) (ptr g) _ (run_mvZ (.tmp 6) rfl (ptr g) rfl) ?_
    simp only [Act.put, aS, aC, aZ]
    refine wl (by kernel_rfl) (.bool false) _ (run_binOp' (.tmp 42) (.const (.pointer none)) rfl _ _ _ rfl rfl rfl (by kernel_rfl)) ?_
    simp only [Act.put, aS, aC, aZ]
    refine wl (by kernel_rfl) (.int .i64 0) _ (run_mvZ (.tmp 7) rfl (.int .i64 0) rfl) ?_
    simp only [Act.put, aS, aC, aZ]
    refine wl (by kernel_rfl) (.bool false) _ (run_neZ (.tmp 44) (.const (.int .i64 0)) rfl (0) (0) rfl rfl false rfl) ?_
    simp only [Act.put, aS, aC, aZ]
    refine wl (by kernel_rfl) (.bool false) _ (run_neB (.tmp 43) (.tmp 45) rfl false rfl rfl) ?_
    simp only [Act.put, aS, aC, aZ]
    refine wl rfl (.bool false) _ (run_pickZ (.tmp 41) (.const (.bool true)) (.tmp 46) rfl false (.bool false) rfl rfl) ?_
    simp only [Act.put, aS, aC, aZ]
    refine wpList_nil ?_
    go_upto_region 7 with fail
    refine wp_region_lit ?_
    refine wl rfl (ptr g) _ (run_mvZ (.tmp 6) rfl (ptr g) rfl) ?_
    simp only [Act.put, aS, aC, aZ]
    refine wl rfl (.bool false) _ (run_binOp' (.tmp 48) (.const (.pointer none)) rfl _ _ _ rfl rfl rfl (by kernel_rfl)) ?_
    simp only [Act.put, aS, aC, aZ]
    refine wpList_nil ?_
    go_upto_region 9 with fail
    refine wp_region_lit ?_
    refine wl rfl (ptr g) _ (run_mvZ (.tmp 6) rfl (ptr g) rfl) ?_
    simp only [Act.put, aS, aC, aZ]
    refine wpList_callW eN11 [.tmp 50, .const (.int .i64 2)] _ rfl rfl [(ptr g), .int .i64 2] rfl ?_
    refine (H4.out.formatNo 2 (pagesD_tape n0)).mono ?_
    rintro e W5 ⟨rfl, h_⟩
    refine ⟨_, rfl, ?_⟩
    have H5 : Hid (PlW w W5 c4 g (newPl [5, (n0 : Int)] [9]) [5, n0] [9] 0) := h_
    clear h_ H4
    simp only [Act.put, aS, aC, aZ]
    refine wl rfl (.int .i64 1) _ (run_asZ (.tmp 51) rfl (.int .i64 1) rfl) ?_
    simp only [Act.put, aS, aC, aZ]
    refine wpList_nil ?_
    go_upto_region 10 with fail
    refine wp_region_lit ?_
    refine wl rfl (ptr g) _ (run_mvZ (.tmp 6) rfl (ptr g) rfl) ?_
    simp only [Act.put, aS, aC, aZ]
    refine wpList_callW eN11 [.tmp 52, .const (.int .i64 9)] _ rfl rfl [(ptr g), .int .i64 9] rfl ?_
    refine (H5.out.formatNo 9 (pagesD_far n0)).mono ?_
    rintro e W6 ⟨rfl, h_⟩
    refine ⟨_, rfl, ?_⟩
    have H6 : Hid (PlW w W6 c4 g (newPl [5, (n0 : Int)] [9]) [5, n0] [9] 0) := h_
    clear h_ H5
    simp only [Act.put, aS, aC, aZ]
    refine wl rfl (.int .i64 1) _ (run_asZ (.tmp 53) rfl (.int .i64 1) rfl) ?_
    simp only [Act.put, aS, aC, aZ]
    refine wpList_nil ?_
    by_cases h10 : n0 < 10
    · go_upto_region 11 with fail
      refine wp_region_lit ?_
      refine wl rfl (ptr g) _ (run_mvZ (.tmp 6) rfl (ptr g) rfl) ?_
      simp only [Act.put, aS, aC, aZ]
      refine wpList_callW eN11 [.tmp 54, .const (.int .i64 1)] _ rfl rfl [(ptr g), .int .i64 1] rfl ?_
      refine (H6.out.formatNo 1 (by rw [pagesD_one]; unfold pagesN; omega)).mono ?_
      rintro e W7 ⟨rfl, h_⟩
      refine ⟨_, rfl, ?_⟩
      have H7 : Hid (Below w.heap.size w W7) := h_.below
      clear h_ H6
      simp only [Act.put, aS, aC, aZ]
      refine wl rfl (.int .i64 1) _ (run_asZ (.tmp 55) rfl (.int .i64 1) rfl) ?_
      simp only [Act.put, aS, aC, aZ]
      refine wpList_nil ?_
      go_upto_region 12 with fail
      refine wp_region_lit ?_
      refine wl rfl (.int .i64 (n0 : Nat)) _ (run_mvZ (.tmp 0) rfl (.int .i64 (n0 : Nat)) rfl) ?_
      simp only [Act.put, aS, aC, aZ]
      refine wpList_callW eN12 [.tmp 57] _ rfl rfl [(.int .i64 (n0 : Nat))] rfl ?_
      refine (rnew_any (fun _ => True) W7 (n0 : Nat) (by have := HN0.out; omega) (fun _ _ => trivial)).mono ?_
      intro e W8 hr
      obtain ⟨rfl, rfl⟩ : e = .returned (.tuple #[.pointer none, .int .i64 1]) ∧ W7 = W8 := (by
        rcases hr with ⟨_, h2, h3⟩ | ⟨h1, _⟩
        · exact ⟨h2, h3⟩
        · omega)
      refine ⟨_, rfl, ?_⟩
      clear hr
      simp only [Act.put, aS, aC, aZ]
      refine wl rfl (.tuple #[(.pointer none), (.int .i64 1)]) _ (run_mvZ (.tmp 58) rfl (.tuple #[(.pointer none), (.int .i64 1)]) rfl) ?_
      simp only [Act.put, aS, aC, aZ]
      refine wl rfl (.pointer none) _ (run_extZ (.tmp 56) 0 rfl #[(.pointer none), (.int .i64 1)] rfl (.pointer none) rfl) ?_
      simp only [Act.put, aS, aC, aZ]
      refine wl rfl (.int .i64 1) _ (run_extZ (.tmp 56) 1 rfl #[(.pointer none), (.int .i64 1)] rfl (.int .i64 1) rfl) ?_
      simp only [Act.put, aS, aC, aZ]
      refine wl rfl (.pointer none) _ (run_asZ (.tmp 59) rfl (.pointer none) rfl) ?_
      simp only [Act.put, aS, aC, aZ]
      refine wl rfl (.int .i64 1) _ (run_asZ (.tmp 60) rfl (.int .i64 1) rfl) ?_
      simp only [Act.put, aS, aC, aZ]
      refine wpList_nil ?_
      go_upto_region 13 with fail
      refine wp_region_lit ?_
      refine wl rfl (.int .i64 1) _ (run_mvZ (.tmp 8) rfl (.int .i64 1) rfl) ?_
      simp only [Act.put, aS, aC, aZ]
      refine wl rfl (.bool false) _ (run_neZ (.tmp 61) (.const (.int .i64 1)) rfl (1) (1) rfl rfl false rfl) ?_
      simp only [Act.put, aS, aC, aZ]
      refine wl rfl (.bool false) _ (run_mvZ (.tmp 62) rfl (.bool false) rfl) ?_
      simp only [Act.put, aS, aC, aZ]
      refine wl (by kernel_rfl) (.int .i64 1) _ (run_mvZ (.tmp 9) rfl (.int .i64 1) rfl) ?_
      simp only [Act.put, aS, aC, aZ]
      refine wl (by kernel_rfl) (.bool false) _ (run_neZ (.tmp 64) (.const (.int .i64 1)) rfl (1) (1) rfl rfl false rfl) ?_
      simp only [Act.put, aS, aC, aZ]
      refine wl rfl (.bool false) _ (run_pickZ (.tmp 63) (.const (.bool true)) (.tmp 65) rfl false (.bool false) rfl rfl) ?_
      simp only [Act.put, aS, aC, aZ]
      refine wl rfl (.bool false) _ (run_mvZ (.tmp 66) rfl (.bool false) rfl) ?_
      simp only [Act.put, aS, aC, aZ]
      refine wl (by kernel_rfl) (.int .i64 1) _ (run_mvZ (.tmp 10) rfl (.int .i64 1) rfl) ?_
      simp only [Act.put, aS, aC, aZ]
      refine wl (by kernel_rfl) (.int .i64 1) _ (run_mvZ (.tmp 12) rfl (.int .i64 1) rfl) ?_
      simp only [Act.put, aS, aC, aZ]
      refine wl (by kernel_rfl) (.bool false) _ (run_neZ (.tmp 68) (.tmp 69) rfl (1) (1) rfl rfl false rfl) ?_
      simp only [Act.put, aS, aC, aZ]
      refine wl rfl (.bool false) _ (run_pickZ (.tmp 67) (.const (.bool true)) (.tmp 70) rfl false (.bool false) rfl rfl) ?_
      simp only [Act.put, aS, aC, aZ]
      refine wpList_nil ?_
      go_wp2_with fail
      rw [HPQ.out]
      exact ⟨rfl, H7.out⟩
    obtain ⟨n, hn⟩ : ∃ n, n = pagesN n0 := ⟨_, rfl⟩
    have HPN : Hid (n = pagesN n0 ∧ 1 ≤ n) := ⟨hn, by rw [hn]; exact (pages_min n0 (by omega)).2⟩
    go_upto_region 11 with fail
    refine wp_region_lit ?_
    refine wl rfl (ptr g) _ (run_mvZ (.tmp 6) rfl (ptr g) rfl) ?_
    simp only [Act.put, aS, aC, aZ]
    refine wpList_callW eN11 [.tmp 54, .const (.int .i64 1)] _ rfl rfl [(ptr g), .int .i64 1] rfl ?_
    refine (PlW.first2 ⟨HN0.out.1, by have := HN0.out.2; omega⟩ HPN.out.1 HPN.out.2 H6.out).mono ?_
    rintro e W7 ⟨rfl, c7, m7, h_, o_, f_⟩
    refine ⟨_, rfl, ?_⟩
    have H7 : Hid (PlW w W7 c7 g m7 [5, n0] [9] 6 ∧ PgO m7 1 n (noHd 1) noneP zX ∧ m7.fuse < 0) := ⟨h_, o_, f_⟩
    clear h_ o_ f_ H6
    simp only [Act.put, aS, aC, aZ]
    refine wl rfl (.int .i64 0) _ (run_asZ (.tmp 55) rfl (.int .i64 0) rfl) ?_
    simp only [Act.put, aS, aC, aZ]
    refine wpList_nil ?_
    go_upto_region 12 with fail
    refine wp_region_lit ?_
    refine wl rfl (.int .i64 (n0 : Nat)) _ (run_mvZ (.tmp 0) rfl (.int .i64 (n0 : Nat)) rfl) ?_
    simp only [Act.put, aS, aC, aZ]
    refine wpList_callW eN12 [.tmp 57] _ rfl rfl [(.int .i64 (n0 : Nat))] rfl ?_
    refine (rnew_any (fun b => W7.heap.size ≤ b) W7 (n0 : Nat) (by have := HN0.out; omega) (fun _ h => h)).mono ?_
    intro e W8 hr
    obtain ⟨gy, rfl, hgy, hb8, hrf⟩ : ∃ gy, e = .returned (.tuple #[ptr gy, .int .i64 0]) ∧ W7.heap.size ≤ gy ∧ Below W7.heap.size W7 W8 ∧ Ref (fun b => W7.heap.size ≤ b) W8 gy n (ref0 n) := (by
      rcases hr with ⟨h1, _⟩ | ⟨_, gy, h2, h3, h4, h5⟩
      · omega
      · rw [(pages_min n0 (by omega)).1, ← hn] at h5
        exact ⟨gy, h2, h3, h4, h5⟩)
    refine ⟨_, rfl, ?_⟩
    have H8 : Hid (PlW w W8 c7 g m7 [5, n0] [9] 6 ∧ PgO m7 1 n (noHd 1) noneP zX ∧ m7.fuse < 0 ∧ Ref (fun b => W7.heap.size ≤ b) W8 gy n (ref0 n) ∧ (∀ b, W7.heap.size ≤ b → w.heap.size ≤ b ∧ (c7 b).1 ≠ 2)) := ⟨H7.out.1.bel hb8, H7.out.2.1, H7.out.2.2, hrf, fun b hb => ⟨Nat.le_trans H7.out.1.below.size hb, H7.out.1.live.2.2 b hb⟩⟩
    clear hr hgy hb8 hrf H7 hn h10
    simp only [Act.put, aS, aC, aZ]
    refine wl rfl (.tuple #[(ptr gy), (.int .i64 0)]) _ (run_mvZ (.tmp 58) rfl (.tuple #[(ptr gy), (.int .i64 0)]) rfl) ?_
    simp only [Act.put, aS, aC, aZ]
    refine wl rfl (ptr gy) _ (run_extZ (.tmp 56) 0 rfl #[(ptr gy), (.int .i64 0)] rfl (ptr gy) rfl) ?_
    simp only [Act.put, aS, aC, aZ]
    refine wl rfl (.int .i64 0) _ (run_extZ (.tmp 56) 1 rfl #[(ptr gy), (.int .i64 0)] rfl (.int .i64 0) rfl) ?_
    simp only [Act.put, aS, aC, aZ]
    refine wl rfl (ptr gy) _ (run_asZ (.tmp 59) rfl (ptr gy) rfl) ?_
    simp only [Act.put, aS, aC, aZ]
    refine wl rfl (.int .i64 0) _ (run_asZ (.tmp 60) rfl (.int .i64 0) rfl) ?_
    simp only [Act.put, aS, aC, aZ]
    refine wpList_nil ?_
    go_upto_region 13 with fail
    refine wp_region_lit ?_
    refine wl rfl (.int .i64 1) _ (run_mvZ (.tmp 8) rfl (.int .i64 1) rfl) ?_
    simp only [Act.put, aS, aC, aZ]
    refine wl rfl (.bool false) _ (run_neZ (.tmp 61) (.const (.int .i64 1)) rfl (1) (1) rfl rfl false rfl) ?_
    simp only [Act.put, aS, aC, aZ]
    refine wl rfl (.bool false) _ (run_mvZ (.tmp 62) rfl (.bool false) rfl) ?_
    simp only [Act.put, aS, aC, aZ]
    refine wl (by kernel_rfl) (.int .i64 1) _ (run_mvZ (.tmp 9) rfl (.int .i64 1) rfl) ?_
    simp only [Act.put, aS, aC, aZ]
    refine wl (by kernel_rfl) (.bool false) _ (run_neZ (.tmp 64) (.const (.int .i64 1)) rfl (1) (1) rfl rfl false rfl) ?_
    simp only [Act.put, aS, aC, aZ]
    refine wl rfl (.bool false) _ (run_pickZ (.tmp 63) (.const (.bool true)) (.tmp 65) rfl false (.bool false) rfl rfl) ?_
    simp only [Act.put, aS, aC, aZ]
    refine wl rfl (.bool false) _ (run_mvZ (.tmp 66) rfl (.bool false) rfl) ?_
    simp only [Act.put, aS, aC, aZ]
    refine wl (by kernel_rfl) (.int .i64 0) _ (run_mvZ (.tmp 10) rfl (.int .i64 0) rfl) ?_
    simp only [Act.put, aS, aC, aZ]
    refine wl (by kernel_rfl) (.int .i64 0) _ (run_mvZ (.tmp 12) rfl (.int .i64 0) rfl) ?_
    simp only [Act.put, aS, aC, aZ]
    refine wl (by kernel_rfl) (.bool false) _ (run_neZ (.tmp 68) (.tmp 69) rfl (0) (0) rfl rfl false rfl) ?_
    simp only [Act.put, aS, aC, aZ]
    refine wl rfl (.bool false) _ (run_pickZ (.tmp 67) (.const (.bool true)) (.tmp 70) rfl false (.bool false) rfl rfl) ?_
    simp only [Act.put, aS, aC, aZ]
    refine wpList_nil ?_
    go_upto_region 15 with fail
    refine wp_region_lit ?_
    refine wl rfl (ptr gy) _ (run_mvZ (.tmp 11) rfl (ptr gy) rfl) ?_
    simp only [Act.put, aS, aC, aZ]
    refine wl rfl (.bool false) _ (run_binOp' (.tmp 72) (.const (.pointer none)) rfl _ _ _ rfl rfl rfl (by kernel_rfl)) ?_
    simp only [Act.put, aS, aC, aZ]
    refine wpList_nil ?_
    go_upto_region 17 with fail
    refine wp_region_lit ?_
    refine wl rfl (ptr g) _ (run_mvZ (.tmp 6) rfl (ptr g) rfl) ?_
    simp only [Act.put, aS, aC, aZ]
    refine wpList_callW eN13 [.tmp 75, .const (.int .i64 1)] _ rfl rfl [(ptr g), .int .i64 1] rfl ?_
    refine (PlW.open2 H8.out.1 (by decide) (L := noHd 1) H8.out.2.1).mono ?_
    rintro e W9 ⟨gp, hgp, rfl, b_, h_⟩
    refine ⟨_, rfl, ?_⟩
    have H9 : Hid (Duo w W9 c7 gp g m7 [5, n0] [9] 1 n (noHd 1) noneP zX (6 + 8 * 0) gy (ref0 n) ∧ m7.fuse < 0) := (by
      have h2 : Ref (SS w c7 gp) W8 gy n (ref0 n) := H8.out.2.2.2.1.mono fun b hb e => ⟨(H8.out.2.2.2.2 b e).1, (H8.out.2.2.2.2 b e).2, fun e2 => by omega⟩
      exact ⟨⟨h_, h2.later b_, Rls.new 1 n zX⟩, H8.out.2.2.1⟩)
    clear h_ b_ hgp H8 HPN
    simp only [Act.put, aS, aC, aZ]
    refine wl rfl (.tuple #[(ptr gp), (.int .i64 0)]) _ (run_mvZ (.tmp 76) rfl (.tuple #[(ptr gp), (.int .i64 0)]) rfl) ?_
    simp only [Act.put, aS, aC, aZ]
    refine wl rfl (ptr gp) _ (run_extZ (.tmp 74) 0 rfl #[(ptr gp), (.int .i64 0)] rfl (ptr gp) rfl) ?_
    simp only [Act.put, aS, aC, aZ]
    refine wl rfl (.int .i64 0) _ (run_extZ (.tmp 74) 1 rfl #[(ptr gp), (.int .i64 0)] rfl (.int .i64 0) rfl) ?_
    simp only [Act.put, aS, aC, aZ]
    refine wl rfl (ptr gp) _ (run_asZ (.tmp 77) rfl (ptr gp) rfl) ?_
    simp only [Act.put, aS, aC, aZ]
    refine wl rfl (.int .i64 0) _ (run_asZ (.tmp 78) rfl (.int .i64 0) rfl) ?_
    simp only [Act.put, aS, aC, aZ]
    refine wpList_nil ?_
    go_upto_region 18 with fail
    refine wp_region_lit ?_
    refine wl rfl (ptr gp) _ (run_mvZ (.tmp 13) rfl (ptr gp) rfl) ?_
    simp only [Act.put, aS, aC, aZ]
    refine wl rfl (.bool false) _ (run_binOp' (.tmp 79) (.const (.pointer none)) rfl _ _ _ rfl rfl rfl (by kernel_rfl)) ?_
    simp only [Act.put, aS, aC, aZ]
    refine wl rfl (.bool false) _ (run_mvZ (.tmp 80) rfl (.bool false) rfl) ?_
    simp only [Act.put, aS, aC, aZ]
    refine wl (by kernel_rfl) (.int .i64 0) _ (run_mvZ (.tmp 14) rfl (.int .i64 0) rfl) ?_
    simp only [Act.put, aS, aC, aZ]
    refine wl (by kernel_rfl) (.bool false) _ (run_neZ (.tmp 82) (.const (.int .i64 0)) rfl (0) (0) rfl rfl false rfl) ?_
    simp only [Act.put, aS, aC, aZ]
    refine wl rfl (.bool false) _ (run_pickZ (.tmp 81) (.const (.bool true)) (.tmp 83) rfl false (.bool false) rfl rfl) ?_
    simp only [Act.put, aS, aC, aZ]
    refine wpList_nil ?_
    go_upto_region 20 with fail
    go_wp2_with fail
    go_loopw [7, 13, 15] (fun v7 v13 v15 W => ∃ (k gp : Nat) (c : Nat → Colour) (m : Pl) (L : Hd) (U : List Nat) (X : Nat → List Nat) (r : RefS), v7 = .int .i64 0 ∧ v13 = ptr gp ∧ v15 = .int .i64 (k : Nat) ∧ k ≤ n1 ∧ Duo w W c gp g m [5, n0] [9] 1 n L U X (6 + 8 * k) gy r ∧ m.fuse < 0) (fun _ _ v15 _ => n1 - (intOf v15).toNat)
    case atStart => exact ⟨0, gp, c7, m7, noHd 1, noneP, zX, ref0 n, rfl, rfl, rfl, Nat.zero_le _, H9.out.1, H9.out.2⟩
    case round =>
      clear H9
      obtain ⟨k, gp, c, m, L, U, X, r, rfl, rfl, rfl, hk, hduo, hfu⟩ := hrel
      obtain ⟨WK, hWK⟩ : ∃ W2 : World, W2 = wr := ⟨_, rfl⟩
      subst hWK
      have HD : Hid (Duo w WK c gp g m [5, n0] [9] 1 n L U X (6 + 8 * k) gy r ∧ m.fuse < 0) := ⟨hduo, hfu⟩
      clear hduo hfu
      have hn1 := HN1.out
      by_cases hlt : k < n1
      · obtain ⟨fb, fo, o, rfl, ho, hoc⟩ := HOS.out.at k hlt
        have HOI : Hid (OpIn w o) := ho
        have HOB : Hid (∀ W, Below w.heap.size w W → SliceIn W o.bv o.b) := fun W hW => (hoc W hW).2
        have HOC : Hid (∀ (j : Nat) v, o.cells[j]? = some v → WK.cell? ⟨fb, fo + k * 4 + j, none⟩ = some v) := (hoc WK HD.out.1.pg.pl.below).1
        clear ho hoc
        have h1 : decide ((k : Int) < (n1 : Int)) = true := decide_eq_true (by omega)
        go_upto_region 21 with fail
        refine wp_region_lit ?_
        refine wl rfl (.int .i64 (k : Nat)) _ (run_mvZ (.tmp 15) rfl (.int .i64 (k : Nat)) rfl) ?_
        simp only [Act.put, aS, aC, aZ]
        refine wl rfl (.slice (some ⟨fb, fo, none⟩) n1 cap1) _ (run_mvZ (.tmp 1) rfl (.slice (some ⟨fb, fo, none⟩) n1 cap1) rfl) ?_
        simp only [Act.put, aS, aC, aZ]
        refine wl rfl (.int .i64 (n1 : Nat)) _ (run_lenZ sl22 (.tmp 86) rfl (some ⟨fb, fo, none⟩) n1 cap1 rfl) ?_
        simp only [Act.put, aS, aC, aZ]
        refine wl rfl (.bool true) _ (run_lssZ (.tmp 85) (.tmp 87) rfl _ _ rfl rfl true h1) ?_
        simp only [Act.put, aS, aC, aZ]
        refine wpList_nil ?_
        clear h1
        go_upto_region 23 with fail
        refine wp_region_lit ?_
        refine wl rfl (.slice (some ⟨fb, fo, none⟩) n1 cap1) _ (run_mvZ (.tmp 1) rfl (.slice (some ⟨fb, fo, none⟩) n1 cap1) rfl) ?_
        simp only [Act.put, aS, aC, aZ]
        refine wl rfl (.int .i64 (k : Nat)) _ (run_mvZ (.tmp 15) rfl (.int .i64 (k : Nat)) rfl) ?_
        simp only [Act.put, aS, aC, aZ]
        refine wl rfl (.pointer (some ⟨fb, fo + k * 4, none⟩)) _ (run_ix22 (.tmp 91) (.tmp 92) rfl fb fo n1 cap1 k rfl rfl hlt) ?_
        simp only [Act.put, aS, aC, aZ]
        refine wl rfl (.agg o.cells.toArray) _ (run_loadA ag40 (.tmp 93) rfl fb (fo + k * 4) rfl o.cells rfl (fun j v hv => HOC.out j v hv)) ?_
        simp only [Act.put, aS, aC, aZ]
        refine wl rfl (ptr WK.heap.size) _ (run_allocA z40 zero40 rfl) ?_
        obtain ⟨bo, hbo⟩ : ∃ q, q = WK.heap.size := ⟨_, rfl⟩
        obtain ⟨u0, hw⟩ : ∃ W, W = WK.alloc (.cells z40.toArray 40) := ⟨_, rfl⟩
        have A0 : Hid (Below WK.heap.size WK u0 ∧ Row u0 bo 40 z40 ∧ WK.heap.size ≤ bo) := (by rw [hbo, hw]; exact ⟨below_alloc WK _, Row.new _ _ _, Nat.le_refl _⟩)
        rw [← hbo, ← hw]
        clear hbo hw
        simp only [Act.put, aS, aC, aZ]
        have hst := run_storeVar ag40 u0 bo 0 40 z40 o.cells rfl A0.out.2.1 (by simp [z40, OpD.cells]) (op_one HOI.out)
        rw [show splice z40 0 o.cells = o.cells from rfl] at hst
        refine wlS rfl rfl _ (run_stV (.tmp 16) (.tmp 94) rfl bo 0 rfl _ rfl hst) ?_
        obtain ⟨W1, hw⟩ : ∃ W, W = u0.setRow bo o.cells.toArray := ⟨_, rfl⟩
        have HA : Hid (Below WK.heap.size WK W1 ∧ Row W1 bo 40 o.cells ∧ WK.heap.size ≤ bo) := (by
          have hc : Ch (· = bo) u0 W1 := hw ▸ (Ch.refl (· = bo) u0).setRow (g := bo) (Or.inl rfl) _
          exact ⟨A0.out.1.trans (hc.below A0.out.1.size fun i hi e => by have := A0.out.2.2; omega), hw ▸ A0.out.2.1.setRow _, A0.out.2.2⟩)
        rw [← hw]
        clear hw hst A0
        refine wpList_nil ?_
        have HR : Hid (Duo w W1 c gp g m [5, n0] [9] 1 n L U X (6 + 8 * k) gy r ∧ m.fuse < 0 ∧ Row W1 bo 40 o.cells ∧ SS w c gp bo) := ⟨HD.out.1.bel HA.out.1, HD.out.2, HA.out.2.1, HD.out.1.pg.fresh HA.out.2.2⟩
        clear HA HD HOC
        go_upto_region 24 with fail
        refine wp_region_lit ?_
        refine wl rfl (.pointer (some ⟨bo, 0 + 0, none⟩)) _ (run_fieldOp' f40_0 (.tmp 16) rfl bo (0) rfl) ?_
        simp only [Act.put, aS, aC, aZ]
        refine wl rfl (.int .i64 o.k) _ (run_load1 o3 (.tmp 95) rfl bo (0 + 0) rfl (.int .i64 o.k) (HR.out.2.2.1.at 0 _ rfl)) ?_
        simp only [Act.put, aS, aC, aZ]
        refine wpList_callW eN14 [.tmp 96] _ rfl rfl [(.int .i64 o.k)] rfl ?_
        refine (kind_any W1 o.k HOI.out.k.1 HOI.out.k.2).mono ?_
        rintro e W_ ⟨rfl, rfl⟩
        refine ⟨_, rfl, ?_⟩
        obtain ⟨kd, hkd⟩ : ∃ kd, kd = kindOf o.k := ⟨_, rfl⟩
        rw [← hkd]
        have hk0 : 0 ≤ kd ∧ kd < 10 := (by rw [hkd]; exact kindOf_lt _)
        clear hkd
        simp only [Act.put, aS, aC, aZ]
        refine wpList_nil ?_
        go_upto_block 2 with fail
        go_cut [7, 13] from 85 to 182 (fun v7 v13 W => ∃ (gp : Nat) (c : Nat → Colour) (m : Pl) (L : Hd) (U : List Nat) (X : Nat → List Nat) (r : RefS), v7 = .int .i64 0 ∧ v13 = ptr gp ∧ Duo w W c gp g m [5, n0] [9] 1 n L U X (6 + 8 * (k + 1)) gy r ∧ m.fuse < 0)
        case first =>
          have hcase : kd = 0 ∨ kd = 1 ∨ kd = 2 ∨ kd = 3 ∨ kd = 4 ∨ kd = 5 ∨ kd = 6 ∨ kd = 7 ∨ kd = 8 ∨ kd = 9 := (by omega)
          clear hk0
          rcases hcase with rfl | rfl | rfl | rfl | rfl | rfl | rfl | rfl | rfl | rfl
          · as_aux_lemma =>
                  obtain ⟨q, er, U2, X2, r2, her, hrel2, hpg, hpr⟩ := put_plan HR.out.1.rel HR.out.1.rf.len HR.out.1.pg.o.us HR.out.1.pos.2 o.b
                  have HPL : Hid (Rls L U2 X2 r2 n ∧ PutP n L U U2 X X2 o.b q er ∧ PutD n r r2 o.b q er) := ⟨hrel2, hpg, hpr⟩
                  clear her hrel2 hpg hpr
                  obtain ⟨v1, W2, hrun, hown, hb2⟩ := run_cpB 38 (HOB.out W1 HR.out.1.pg.pl.below) HOI.out.len
                  go_upto_region 29 with fail
                  refine wp_region_lit ?_
                  refine wl rfl (.slice (some ⟨W1.heap.size, 0, none⟩) 0 0) _ (run_blit0 rfl) ?_
                  have HT3 : Hid (Three w W2 c gp g m [5, n0] [9] 1 n L U X (6 + 8 * k) gy r v1 o.b ∧ Row W2 bo 40 o.cells ∧ SS w c gp bo ∧ m.fuse < 0 ∧ 1 ≤ n ∧ n ≤ 384) := ⟨HR.out.1.three hb2 hown, HR.out.2.2.1.later hb2 HR.out.2.2.1.lt, HR.out.2.2.2, HR.out.2.1, HR.out.1.pos⟩
                  have HSL : Hid (SliceIn W2 v1 o.b) := HT3.out.1.sl (SliceIn.lt256 HOI.out.b) HOI.out.len
                  have HRW : Hid (Row (W1.alloc (.cells #[] 5)) bo 40 o.cells) := HR.out.2.2.1.later (below_alloc W1 _) HR.out.2.2.1.lt
                  obtain ⟨qq, hqq⟩ : ∃ q, q = W1.heap.size := ⟨_, rfl⟩
                  obtain ⟨Wl, hWl⟩ : ∃ W, W = W1.alloc (.cells #[] 5) := ⟨_, rfl⟩
                  rw [← hqq, ← hWl] at hrun
                  rw [← hWl] at HRW
                  rw [← hqq, ← hWl]
                  have HRUN : Hid ((Builtin.append_ #[38, 38] 38 #[.slice (some ⟨qq, 0, none⟩) 0 0, o.bv]).run Tryd.prog Wl = .ok v1 W2) := hrun
                  clear hqq hWl hrun hown hb2
                  simp only [Act.put, aS, aC, aZ]
                  refine wl rfl (.pointer (some ⟨bo, 0 + 2, none⟩)) _ (run_fieldOp' f40_2 (.tmp 16) rfl bo (0) rfl) ?_
                  simp only [Act.put, aS, aC, aZ]
                  refine wl rfl o.bv _ (run_load1 o38 (.tmp 104) rfl bo (0 + 2) rfl o.bv (HRW.out.at 2 _ rfl)) ?_
                  simp only [Act.put, aS, aC, aZ]
                  refine wl rfl v1 W2 (run_append (.tmp 103) (.tmp 105) rfl _ o.bv v1 rfl rfl HRUN.out) ?_
                  clear HRUN HRW HR
                  simp only [Act.put, aS, aC, aZ]
                  refine wl rfl v1 _ (run_asZ (.tmp 106) rfl v1 rfl) ?_
                  simp only [Act.put, aS, aC, aZ]
                  refine wpList_nil ?_
                  go_upto_region 30 with fail
                  refine wp_region_lit ?_
                  refine wl rfl (ptr gp) _ (run_mvZ (.tmp 13) rfl (ptr gp) rfl) ?_
                  simp only [Act.put, aS, aC, aZ]
                  refine wl rfl v1 _ (run_mvZ (.tmp 17) rfl v1 rfl) ?_
                  simp only [Act.put, aS, aC, aZ]
                  refine wpList_callW eN15 [.tmp 108, .tmp 109] _ rfl rfl [(ptr gp), v1] rfl ?_
                  refine (HPL.out.2.1 v1 HT3.out.1.pg (by omega) HSL.out).mono ?_
                  intro e W3 ⟨c3, hs3, ha3⟩
                  obtain ⟨m3, rfl, hf3, hp3⟩ : ∃ m', e = ret2 q er ∧ (m.fuse < 0 → m'.fuse < 0) ∧ PgW w W3 c3 gp g m' [5, n0] [9] 1 n L U2 X2 (6 + 8 * k + 8) := (by
                    rcases ha3 with h | ⟨_, h, _⟩
                    · exact h
                    · have := HT3.out.2.2.2.1; omega)
                  refine ⟨_, rfl, ?_⟩
                  have HT4 : Hid (Three w W3 c3 gp g m3 [5, n0] [9] 1 n L U2 X2 (6 + 8 * k + 8) gy r v1 o.b ∧ Row W3 bo 40 o.cells ∧ m3.fuse < 0 ∧ 1 ≤ n ∧ n ≤ 384) := ⟨HT3.out.1.stp hs3 hp3, row_stp HT3.out.2.1 hs3 HT3.out.2.2.1, hf3 HT3.out.2.2.2.1, HT3.out.2.2.2.2⟩
                  clear hs3 ha3 hf3 hp3 HT3
                  simp only [Act.put, aS, aC, aZ]
                  refine wl rfl (.tuple #[(.int .i64 (q : Nat)), (.int .i64 er)]) _ (run_mvZ (.tmp 110) rfl (.tuple #[(.int .i64 (q : Nat)), (.int .i64 er)]) rfl) ?_
                  simp only [Act.put, aS, aC, aZ]
                  refine wl rfl (.int .i64 (q : Nat)) _ (run_extZ (.tmp 107) 0 rfl #[(.int .i64 (q : Nat)), (.int .i64 er)] rfl (.int .i64 (q : Nat)) rfl) ?_
                  simp only [Act.put, aS, aC, aZ]
                  refine wl rfl (.int .i64 er) _ (run_extZ (.tmp 107) 1 rfl #[(.int .i64 (q : Nat)), (.int .i64 er)] rfl (.int .i64 er) rfl) ?_
                  simp only [Act.put, aS, aC, aZ]
                  refine wl rfl (.int .i64 (q : Nat)) _ (run_asZ (.tmp 111) rfl (.int .i64 (q : Nat)) rfl) ?_
                  simp only [Act.put, aS, aC, aZ]
                  refine wl rfl (.int .i64 er) _ (run_asZ (.tmp 112) rfl (.int .i64 er) rfl) ?_
                  simp only [Act.put, aS, aC, aZ]
                  refine wpList_nil ?_
                  go_upto_region 31 with fail
                  refine wp_region_lit ?_
                  refine wl rfl (ptr gy) _ (run_mvZ (.tmp 11) rfl (ptr gy) rfl) ?_
                  simp only [Act.put, aS, aC, aZ]
                  refine wl rfl (.pointer (some ⟨bo, 0 + 2, none⟩)) _ (run_fieldOp' f40_2 (.tmp 16) rfl bo (0) rfl) ?_
                  simp only [Act.put, aS, aC, aZ]
                  refine wl rfl o.bv _ (run_load1 o38 (.tmp 115) rfl bo (0 + 2) rfl o.bv (HT4.out.2.1.at 2 _ rfl)) ?_
                  simp only [Act.put, aS, aC, aZ]
                  refine wpList_callW eN16 [.tmp 114, .tmp 116] _ rfl rfl [(ptr gy), o.bv] rfl ?_
                  refine (HPL.out.2.2 _ W3 gy o.bv HT4.out.1.rf HT4.out.2.2.2 HT4.out.1.fresh (HT4.out.1.arg HOB.out)).mono ?_
                  rintro e W4 ⟨rfl, hc4, hr4⟩
                  refine ⟨_, rfl, ?_⟩
                  have HT5 : Hid (Three w W4 c3 gp g m3 [5, n0] [9] 1 n L U2 X2 (6 + 8 * k + 8) gy r2 v1 o.b ∧ m3.fuse < 0 ∧ Rls L U2 X2 r2 n) := ⟨HT4.out.1.ref hc4 hr4, HT4.out.2.2.1, HPL.out.1⟩
                  clear hc4 hr4 HT4 HPL
                  simp only [Act.put, aS, aC, aZ]
                  refine wl rfl (.tuple #[(.int .i64 (q : Nat)), (.int .i64 er)]) _ (run_mvZ (.tmp 117) rfl (.tuple #[(.int .i64 (q : Nat)), (.int .i64 er)]) rfl) ?_
                  simp only [Act.put, aS, aC, aZ]
                  refine wl rfl (.int .i64 (q : Nat)) _ (run_extZ (.tmp 113) 0 rfl #[(.int .i64 (q : Nat)), (.int .i64 er)] rfl (.int .i64 (q : Nat)) rfl) ?_
                  simp only [Act.put, aS, aC, aZ]
                  refine wl rfl (.int .i64 er) _ (run_extZ (.tmp 113) 1 rfl #[(.int .i64 (q : Nat)), (.int .i64 er)] rfl (.int .i64 er) rfl) ?_
                  simp only [Act.put, aS, aC, aZ]
                  refine wl rfl (.int .i64 (q : Nat)) _ (run_asZ (.tmp 118) rfl (.int .i64 (q : Nat)) rfl) ?_
                  simp only [Act.put, aS, aC, aZ]
                  refine wl rfl (.int .i64 er) _ (run_asZ (.tmp 119) rfl (.int .i64 er) rfl) ?_
                  simp only [Act.put, aS, aC, aZ]
                  refine wpList_nil ?_
                  have hlen := HOI.out.len
                  go_upto_region 32 with fail
                  go_wp2_with fail
                  go_loopw [22] (fun vj W => ∃ (j : Nat) (b : List Nat), vj = .int .i64 (j : Nat) ∧ j ≤ o.b.length ∧ b.length = o.b.length ∧ Three w W c3 gp g m3 [5, n0] [9] 1 n L U2 X2 (6 + 8 * k + 8) gy r2 v1 b) (fun vj _ => o.b.length - (intOf vj).toNat)
                  case atStart => exact ⟨0, o.b, rfl, Nat.zero_le _, rfl, HT5.out.1⟩
                  case round =>
                    obtain ⟨j, b, rfl, hj, hbl, hth⟩ := hrel
                    obtain ⟨WJ, hWJ⟩ : ∃ W2 : World, W2 = wr := ⟨_, rfl⟩
                    subst hWJ
                    have HJ : Hid (Three w WJ c3 gp g m3 [5, n0] [9] 1 n L U2 X2 (6 + 8 * k + 8) gy r2 v1 b ∧ m3.fuse < 0 ∧ Rls L U2 X2 r2 n) := ⟨hth, HT5.out.2⟩
                    clear hth HT5
                    by_cases hjl : j < o.b.length
                    · go_upto_region 33 with fail
                      refine wp_region_lit ?_
                      refine wl rfl (.int .i64 (j : Nat)) _ (run_mvZ (.tmp 22) rfl (.int .i64 (j : Nat)) rfl) ?_
                      simp only [Act.put, aS, aC, aZ]
                      refine wl rfl v1 _ (run_mvZ (.tmp 17) rfl v1 rfl) ?_
                      simp only [Act.put, aS, aC, aZ]
                      refine wl rfl (.int .i64 (o.b.length : Nat)) _ (run_lenY HSL.out (.tmp 121) rfl rfl) ?_
                      simp only [Act.put, aS, aC, aZ]
                      refine wl rfl (.bool true) _ (run_lssZ (.tmp 120) (.tmp 122) rfl _ _ rfl rfl true (decide_eq_true (by omega))) ?_
                      simp only [Act.put, aS, aC, aZ]
                      refine wpList_nil ?_
                      obtain ⟨qb, cur, hix, hrow, hcur, hset⟩ := HJ.out.1.ix j (by omega)
                      obtain ⟨b2, hb2, hth2⟩ := hset 99
                      have HX : Hid (∀ w', (Instr.indexAt 38 v1 (.int .i64 (j : Nat))).run Tryd.prog w' = .ok (.pointer (some ⟨qb, j, none⟩)) w') := hix
                      have HROW : Hid (Row WJ qb 5 cur ∧ j < cur.length) := ⟨hrow, hcur⟩
                      go_upto_region 35 with fail
                      refine wp_region_lit ?_
                      refine wl rfl v1 _ (run_mvZ (.tmp 17) rfl v1 rfl) ?_
                      simp only [Act.put, aS, aC, aZ]
                      refine wl rfl (.int .i64 (j : Nat)) _ (run_mvZ (.tmp 22) rfl (.int .i64 (j : Nat)) rfl) ?_
                      simp only [Act.put, aS, aC, aZ]
                      refine wl rfl (.pointer (some ⟨qb, j, none⟩)) _ (run_idx (.tmp 126) (.tmp 127) rfl v1 _ _ rfl rfl HX.out) ?_
                      simp only [Act.put, aS, aC, aZ]
                      refine wl_put (t := 5) (by kernel_rfl) (.tmp 128) (.const (.int .u8 99)) rfl rfl rfl qb j 5 cur rfl (.int .u8 99) rfl ⟨rfl, rfl⟩ HROW.out.1 HROW.out.2 ?_
                      obtain ⟨W5, hw5⟩ : ∃ W, W = WJ.setCell ⟨qb, j, none⟩ (.int .u8 99) := ⟨_, rfl⟩
                      rw [show (((99 : Nat) : Int)) = 99 from rfl, ← hw5] at hth2
                      rw [← hw5]
                      have HTN : Hid (Three w W5 c3 gp g m3 [5, n0] [9] 1 n L U2 X2 (6 + 8 * k + 8) gy r2 v1 b2) := hth2
                      clear hw5 hth2 hset hrow hcur hix HX HROW HJ
                      refine wpList_nil ?_
                      go_wp2_with fail
                      refine ⟨⟨j + 1, b2, by go_num, by omega, by omega, HTN.out⟩, ?_⟩
                      simp [intOf]; omega
                    · go_upto_region 33 with fail
                      refine wp_region_lit ?_
                      refine wl rfl (.int .i64 (j : Nat)) _ (run_mvZ (.tmp 22) rfl (.int .i64 (j : Nat)) rfl) ?_
                      simp only [Act.put, aS, aC, aZ]
                      refine wl rfl v1 _ (run_mvZ (.tmp 17) rfl v1 rfl) ?_
                      simp only [Act.put, aS, aC, aZ]
                      refine wl rfl (.int .i64 (o.b.length : Nat)) _ (run_lenY HSL.out (.tmp 121) rfl rfl) ?_
                      simp only [Act.put, aS, aC, aZ]
                      refine wl rfl (.bool false) _ (run_lssZ (.tmp 120) (.tmp 122) rfl _ _ rfl rfl false (decide_eq_false (by omega))) ?_
                      simp only [Act.put, aS, aC, aZ]
                      refine wpList_nil ?_
                      go_upto_region 36 with fail
                      refine wp_region_lit ?_
                      refine wl rfl (.int .i64 (q : Nat)) _ (run_mvZ (.tmp 18) rfl (.int .i64 (q : Nat)) rfl) ?_
                      simp only [Act.put, aS, aC, aZ]
                      refine wl rfl (.int .i64 (q : Nat)) _ (run_mvZ (.tmp 20) rfl (.int .i64 (q : Nat)) rfl) ?_
                      simp only [Act.put, aS, aC, aZ]
                      refine wl rfl (.bool false) _ (run_neZ (.tmp 129) (.tmp 130) rfl ((q : Nat) : Int) ((q : Nat) : Int) rfl rfl false (by simp)) ?_
                      simp only [Act.put, aS, aC, aZ]
                      refine wl rfl (.bool false) _ (run_mvZ (.tmp 131) rfl (.bool false) rfl) ?_
                      simp only [Act.put, aS, aC, aZ]
                      refine wl (by kernel_rfl) (.int .i64 er) _ (run_mvZ (.tmp 19) rfl (.int .i64 er) rfl) ?_
                      simp only [Act.put, aS, aC, aZ]
                      refine wl (by kernel_rfl) (.int .i64 er) _ (run_mvZ (.tmp 21) rfl (.int .i64 er) rfl) ?_
                      simp only [Act.put, aS, aC, aZ]
                      refine wl (by kernel_rfl) (.bool false) _ (run_neZ (.tmp 133) (.tmp 134) rfl er er rfl rfl false (by simp)) ?_
                      simp only [Act.put, aS, aC, aZ]
                      refine wl rfl (.bool false) _ (run_pickZ (.tmp 132) (.const (.bool true)) (.tmp 135) rfl false (.bool false) rfl rfl) ?_
                      simp only [Act.put, aS, aC, aZ]
                      refine wpList_nil ?_
                      have HDU := HJ.out.1.duo HJ.out.2.2
                      go_wp2_with fail
                      go_meet
                      case rel => exact ⟨_, _, _, _, _, _, _, rfl, rfl, HDU.mono (by omega), HJ.out.2.1⟩
          · as_aux_lemma =>
                  obtain ⟨q, er, U2, X2, r2, her, hrel2, hpg, hpr⟩ := put_plan HR.out.1.rel HR.out.1.rf.len HR.out.1.pg.o.us HR.out.1.pos.2 o.b
                  have HPL : Hid (Rls L U2 X2 r2 n ∧ PutP n L U U2 X X2 o.b q er ∧ PutD n r r2 o.b q er) := ⟨hrel2, hpg, hpr⟩
                  clear her hrel2 hpg hpr
                  obtain ⟨v1, W2, hrun, hown, hb2⟩ := run_cpB 38 (HOB.out W1 HR.out.1.pg.pl.below) HOI.out.len
                  go_upto_region 29 with fail
                  refine wp_region_lit ?_
                  refine wl rfl (.slice (some ⟨W1.heap.size, 0, none⟩) 0 0) _ (run_blit0 rfl) ?_
                  have HT3 : Hid (Three w W2 c gp g m [5, n0] [9] 1 n L U X (6 + 8 * k) gy r v1 o.b ∧ Row W2 bo 40 o.cells ∧ SS w c gp bo ∧ m.fuse < 0 ∧ 1 ≤ n ∧ n ≤ 384) := ⟨HR.out.1.three hb2 hown, HR.out.2.2.1.later hb2 HR.out.2.2.1.lt, HR.out.2.2.2, HR.out.2.1, HR.out.1.pos⟩
                  have HSL : Hid (SliceIn W2 v1 o.b) := HT3.out.1.sl (SliceIn.lt256 HOI.out.b) HOI.out.len
                  have HRW : Hid (Row (W1.alloc (.cells #[] 5)) bo 40 o.cells) := HR.out.2.2.1.later (below_alloc W1 _) HR.out.2.2.1.lt
                  obtain ⟨qq, hqq⟩ : ∃ q, q = W1.heap.size := ⟨_, rfl⟩
                  obtain ⟨Wl, hWl⟩ : ∃ W, W = W1.alloc (.cells #[] 5) := ⟨_, rfl⟩
                  rw [← hqq, ← hWl] at hrun
                  rw [← hWl] at HRW
                  rw [← hqq, ← hWl]
                  have HRUN : Hid ((Builtin.append_ #[38, 38] 38 #[.slice (some ⟨qq, 0, none⟩) 0 0, o.bv]).run Tryd.prog Wl = .ok v1 W2) := hrun
                  clear hqq hWl hrun hown hb2
                  simp only [Act.put, aS, aC, aZ]
                  refine wl rfl (.pointer (some ⟨bo, 0 + 2, none⟩)) _ (run_fieldOp' f40_2 (.tmp 16) rfl bo (0) rfl) ?_
                  simp only [Act.put, aS, aC, aZ]
                  refine wl rfl o.bv _ (run_load1 o38 (.tmp 104) rfl bo (0 + 2) rfl o.bv (HRW.out.at 2 _ rfl)) ?_
                  simp only [Act.put, aS, aC, aZ]
                  refine wl rfl v1 W2 (run_append (.tmp 103) (.tmp 105) rfl _ o.bv v1 rfl rfl HRUN.out) ?_
                  clear HRUN HRW HR
                  simp only [Act.put, aS, aC, aZ]
                  refine wl rfl v1 _ (run_asZ (.tmp 106) rfl v1 rfl) ?_
                  simp only [Act.put, aS, aC, aZ]
                  refine wpList_nil ?_
                  go_upto_region 30 with fail
                  refine wp_region_lit ?_
                  refine wl rfl (ptr gp) _ (run_mvZ (.tmp 13) rfl (ptr gp) rfl) ?_
                  simp only [Act.put, aS, aC, aZ]
                  refine wl rfl v1 _ (run_mvZ (.tmp 17) rfl v1 rfl) ?_
                  simp only [Act.put, aS, aC, aZ]
                  refine wpList_callW eN15 [.tmp 108, .tmp 109] _ rfl rfl [(ptr gp), v1] rfl ?_
                  refine (HPL.out.2.1 v1 HT3.out.1.pg (by omega) HSL.out).mono ?_
                  intro e W3 ⟨c3, hs3, ha3⟩
                  obtain ⟨m3, rfl, hf3, hp3⟩ : ∃ m', e = ret2 q er ∧ (m.fuse < 0 → m'.fuse < 0) ∧ PgW w W3 c3 gp g m' [5, n0] [9] 1 n L U2 X2 (6 + 8 * k + 8) := (by
                    rcases ha3 with h | ⟨_, h, _⟩
                    · exact h
                    · have := HT3.out.2.2.2.1; omega)
                  refine ⟨_, rfl, ?_⟩
                  have HT4 : Hid (Three w W3 c3 gp g m3 [5, n0] [9] 1 n L U2 X2 (6 + 8 * k + 8) gy r v1 o.b ∧ Row W3 bo 40 o.cells ∧ m3.fuse < 0 ∧ 1 ≤ n ∧ n ≤ 384) := ⟨HT3.out.1.stp hs3 hp3, row_stp HT3.out.2.1 hs3 HT3.out.2.2.1, hf3 HT3.out.2.2.2.1, HT3.out.2.2.2.2⟩
                  clear hs3 ha3 hf3 hp3 HT3
                  simp only [Act.put, aS, aC, aZ]
                  refine wl rfl (.tuple #[(.int .i64 (q : Nat)), (.int .i64 er)]) _ (run_mvZ (.tmp 110) rfl (.tuple #[(.int .i64 (q : Nat)), (.int .i64 er)]) rfl) ?_
                  simp only [Act.put, aS, aC, aZ]
                  refine wl rfl (.int .i64 (q : Nat)) _ (run_extZ (.tmp 107) 0 rfl #[(.int .i64 (q : Nat)), (.int .i64 er)] rfl (.int .i64 (q : Nat)) rfl) ?_
                  simp only [Act.put, aS, aC, aZ]
                  refine wl rfl (.int .i64 er) _ (run_extZ (.tmp 107) 1 rfl #[(.int .i64 (q : Nat)), (.int .i64 er)] rfl (.int .i64 er) rfl) ?_
                  simp only [Act.put, aS, aC, aZ]
                  refine wl rfl (.int .i64 (q : Nat)) _ (run_asZ (.tmp 111) rfl (.int .i64 (q : Nat)) rfl) ?_
                  simp only [Act.put, aS, aC, aZ]
                  refine wl rfl (.int .i64 er) _ (run_asZ (.tmp 112) rfl (.int .i64 er) rfl) ?_
                  simp only [Act.put, aS, aC, aZ]
                  refine wpList_nil ?_
                  go_upto_region 31 with fail
                  refine wp_region_lit ?_
                  refine wl rfl (ptr gy) _ (run_mvZ (.tmp 11) rfl (ptr gy) rfl) ?_
                  simp only [Act.put, aS, aC, aZ]
                  refine wl rfl (.pointer (some ⟨bo, 0 + 2, none⟩)) _ (run_fieldOp' f40_2 (.tmp 16) rfl bo (0) rfl) ?_
                  simp only [Act.put, aS, aC, aZ]
                  refine wl rfl o.bv _ (run_load1 o38 (.tmp 115) rfl bo (0 + 2) rfl o.bv (HT4.out.2.1.at 2 _ rfl)) ?_
                  simp only [Act.put, aS, aC, aZ]
                  refine wpList_callW eN16 [.tmp 114, .tmp 116] _ rfl rfl [(ptr gy), o.bv] rfl ?_
                  refine (HPL.out.2.2 _ W3 gy o.bv HT4.out.1.rf HT4.out.2.2.2 HT4.out.1.fresh (HT4.out.1.arg HOB.out)).mono ?_
                  rintro e W4 ⟨rfl, hc4, hr4⟩
                  refine ⟨_, rfl, ?_⟩
                  have HT5 : Hid (Three w W4 c3 gp g m3 [5, n0] [9] 1 n L U2 X2 (6 + 8 * k + 8) gy r2 v1 o.b ∧ m3.fuse < 0 ∧ Rls L U2 X2 r2 n) := ⟨HT4.out.1.ref hc4 hr4, HT4.out.2.2.1, HPL.out.1⟩
                  clear hc4 hr4 HT4 HPL
                  simp only [Act.put, aS, aC, aZ]
                  refine wl rfl (.tuple #[(.int .i64 (q : Nat)), (.int .i64 er)]) _ (run_mvZ (.tmp 117) rfl (.tuple #[(.int .i64 (q : Nat)), (.int .i64 er)]) rfl) ?_
                  simp only [Act.put, aS, aC, aZ]
                  refine wl rfl (.int .i64 (q : Nat)) _ (run_extZ (.tmp 113) 0 rfl #[(.int .i64 (q : Nat)), (.int .i64 er)] rfl (.int .i64 (q : Nat)) rfl) ?_
                  simp only [Act.put, aS, aC, aZ]
                  refine wl rfl (.int .i64 er) _ (run_extZ (.tmp 113) 1 rfl #[(.int .i64 (q : Nat)), (.int .i64 er)] rfl (.int .i64 er) rfl) ?_
                  simp only [Act.put, aS, aC, aZ]
                  refine wl rfl (.int .i64 (q : Nat)) _ (run_asZ (.tmp 118) rfl (.int .i64 (q : Nat)) rfl) ?_
                  simp only [Act.put, aS, aC, aZ]
                  refine wl rfl (.int .i64 er) _ (run_asZ (.tmp 119) rfl (.int .i64 er) rfl) ?_
                  simp only [Act.put, aS, aC, aZ]
                  refine wpList_nil ?_
                  have hlen := HOI.out.len
                  go_upto_region 32 with fail
                  go_wp2_with fail
                  go_loopw [22] (fun vj W => ∃ (j : Nat) (b : List Nat), vj = .int .i64 (j : Nat) ∧ j ≤ o.b.length ∧ b.length = o.b.length ∧ Three w W c3 gp g m3 [5, n0] [9] 1 n L U2 X2 (6 + 8 * k + 8) gy r2 v1 b) (fun vj _ => o.b.length - (intOf vj).toNat)
                  case atStart => exact ⟨0, o.b, rfl, Nat.zero_le _, rfl, HT5.out.1⟩
                  case round =>
                    obtain ⟨j, b, rfl, hj, hbl, hth⟩ := hrel
                    obtain ⟨WJ, hWJ⟩ : ∃ W2 : World, W2 = wr := ⟨_, rfl⟩
                    subst hWJ
                    have HJ : Hid (Three w WJ c3 gp g m3 [5, n0] [9] 1 n L U2 X2 (6 + 8 * k + 8) gy r2 v1 b ∧ m3.fuse < 0 ∧ Rls L U2 X2 r2 n) := ⟨hth, HT5.out.2⟩
                    clear hth HT5
                    by_cases hjl : j < o.b.length
                    · go_upto_region 33 with fail
                      refine wp_region_lit ?_
                      refine wl rfl (.int .i64 (j : Nat)) _ (run_mvZ (.tmp 22) rfl (.int .i64 (j : Nat)) rfl) ?_
                      simp only [Act.put, aS, aC, aZ]
                      refine wl rfl v1 _ (run_mvZ (.tmp 17) rfl v1 rfl) ?_
                      simp only [Act.put, aS, aC, aZ]
                      refine wl rfl (.int .i64 (o.b.length : Nat)) _ (run_lenY HSL.out (.tmp 121) rfl rfl) ?_
                      simp only [Act.put, aS, aC, aZ]
                      refine wl rfl (.bool true) _ (run_lssZ (.tmp 120) (.tmp 122) rfl _ _ rfl rfl true (decide_eq_true (by omega))) ?_
                      simp only [Act.put, aS, aC, aZ]
                      refine wpList_nil ?_
                      obtain ⟨qb, cur, hix, hrow, hcur, hset⟩ := HJ.out.1.ix j (by omega)
                      obtain ⟨b2, hb2, hth2⟩ := hset 99
                      have HX : Hid (∀ w', (Instr.indexAt 38 v1 (.int .i64 (j : Nat))).run Tryd.prog w' = .ok (.pointer (some ⟨qb, j, none⟩)) w') := hix
                      have HROW : Hid (Row WJ qb 5 cur ∧ j < cur.length) := ⟨hrow, hcur⟩
                      go_upto_region 35 with fail
                      refine wp_region_lit ?_
                      refine wl rfl v1 _ (run_mvZ (.tmp 17) rfl v1 rfl) ?_
                      simp only [Act.put, aS, aC, aZ]
                      refine wl rfl (.int .i64 (j : Nat)) _ (run_mvZ (.tmp 22) rfl (.int .i64 (j : Nat)) rfl) ?_
                      simp only [Act.put, aS, aC, aZ]
                      refine wl rfl (.pointer (some ⟨qb, j, none⟩)) _ (run_idx (.tmp 126) (.tmp 127) rfl v1 _ _ rfl rfl HX.out) ?_
                      simp only [Act.put, aS, aC, aZ]
                      refine wl_put (t := 5) (by kernel_rfl) (.tmp 128) (.const (.int .u8 99)) rfl rfl rfl qb j 5 cur rfl (.int .u8 99) rfl ⟨rfl, rfl⟩ HROW.out.1 HROW.out.2 ?_
                      obtain ⟨W5, hw5⟩ : ∃ W, W = WJ.setCell ⟨qb, j, none⟩ (.int .u8 99) := ⟨_, rfl⟩
                      rw [show (((99 : Nat) : Int)) = 99 from rfl, ← hw5] at hth2
                      rw [← hw5]
                      have HTN : Hid (Three w W5 c3 gp g m3 [5, n0] [9] 1 n L U2 X2 (6 + 8 * k + 8) gy r2 v1 b2) := hth2
                      clear hw5 hth2 hset hrow hcur hix HX HROW HJ
                      refine wpList_nil ?_
                      go_wp2_with fail
                      refine ⟨⟨j + 1, b2, by go_num, by omega, by omega, HTN.out⟩, ?_⟩
                      simp [intOf]; omega
                    · go_upto_region 33 with fail
                      refine wp_region_lit ?_
                      refine wl rfl (.int .i64 (j : Nat)) _ (run_mvZ (.tmp 22) rfl (.int .i64 (j : Nat)) rfl) ?_
                      simp only [Act.put, aS, aC, aZ]
                      refine wl rfl v1 _ (run_mvZ (.tmp 17) rfl v1 rfl) ?_
                      simp only [Act.put, aS, aC, aZ]
                      refine wl rfl (.int .i64 (o.b.length : Nat)) _ (run_lenY HSL.out (.tmp 121) rfl rfl) ?_
                      simp only [Act.put, aS, aC, aZ]
                      refine wl rfl (.bool false) _ (run_lssZ (.tmp 120) (.tmp 122) rfl _ _ rfl rfl false (decide_eq_false (by omega))) ?_
                      simp only [Act.put, aS, aC, aZ]
                      refine wpList_nil ?_
                      go_upto_region 36 with fail
                      refine wp_region_lit ?_
                      refine wl rfl (.int .i64 (q : Nat)) _ (run_mvZ (.tmp 18) rfl (.int .i64 (q : Nat)) rfl) ?_
                      simp only [Act.put, aS, aC, aZ]
                      refine wl rfl (.int .i64 (q : Nat)) _ (run_mvZ (.tmp 20) rfl (.int .i64 (q : Nat)) rfl) ?_
                      simp only [Act.put, aS, aC, aZ]
                      refine wl rfl (.bool false) _ (run_neZ (.tmp 129) (.tmp 130) rfl ((q : Nat) : Int) ((q : Nat) : Int) rfl rfl false (by simp)) ?_
                      simp only [Act.put, aS, aC, aZ]
                      refine wl rfl (.bool false) _ (run_mvZ (.tmp 131) rfl (.bool false) rfl) ?_
                      simp only [Act.put, aS, aC, aZ]
                      refine wl (by kernel_rfl) (.int .i64 er) _ (run_mvZ (.tmp 19) rfl (.int .i64 er) rfl) ?_
                      simp only [Act.put, aS, aC, aZ]
                      refine wl (by kernel_rfl) (.int .i64 er) _ (run_mvZ (.tmp 21) rfl (.int .i64 er) rfl) ?_
                      simp only [Act.put, aS, aC, aZ]
                      refine wl (by kernel_rfl) (.bool false) _ (run_neZ (.tmp 133) (.tmp 134) rfl er er rfl rfl false (by simp)) ?_
                      simp only [Act.put, aS, aC, aZ]
                      refine wl rfl (.bool false) _ (run_pickZ (.tmp 132) (.const (.bool true)) (.tmp 135) rfl false (.bool false) rfl rfl) ?_
                      simp only [Act.put, aS, aC, aZ]
                      refine wpList_nil ?_
                      have HDU := HJ.out.1.duo HJ.out.2.2
                      go_wp2_with fail
                      go_meet
                      case rel => exact ⟨_, _, _, _, _, _, _, rfl, rfl, HDU.mono (by omega), HJ.out.2.1⟩
          · as_aux_lemma =>
                  obtain ⟨q, er, U2, X2, r2, her, hrel2, hpg, hpr⟩ := put_plan HR.out.1.rel HR.out.1.rf.len HR.out.1.pg.o.us HR.out.1.pos.2 o.b
                  have HPL : Hid (Rls L U2 X2 r2 n ∧ PutP n L U U2 X X2 o.b q er ∧ PutD n r r2 o.b q er) := ⟨hrel2, hpg, hpr⟩
                  clear her hrel2 hpg hpr
                  obtain ⟨v1, W2, hrun, hown, hb2⟩ := run_cpB 38 (HOB.out W1 HR.out.1.pg.pl.below) HOI.out.len
                  go_upto_region 29 with fail
                  refine wp_region_lit ?_
                  refine wl rfl (.slice (some ⟨W1.heap.size, 0, none⟩) 0 0) _ (run_blit0 rfl) ?_
                  have HT3 : Hid (Three w W2 c gp g m [5, n0] [9] 1 n L U X (6 + 8 * k) gy r v1 o.b ∧ Row W2 bo 40 o.cells ∧ SS w c gp bo ∧ m.fuse < 0 ∧ 1 ≤ n ∧ n ≤ 384) := ⟨HR.out.1.three hb2 hown, HR.out.2.2.1.later hb2 HR.out.2.2.1.lt, HR.out.2.2.2, HR.out.2.1, HR.out.1.pos⟩
                  have HSL : Hid (SliceIn W2 v1 o.b) := HT3.out.1.sl (SliceIn.lt256 HOI.out.b) HOI.out.len
                  have HRW : Hid (Row (W1.alloc (.cells #[] 5)) bo 40 o.cells) := HR.out.2.2.1.later (below_alloc W1 _) HR.out.2.2.1.lt
                  obtain ⟨qq, hqq⟩ : ∃ q, q = W1.heap.size := ⟨_, rfl⟩
                  obtain ⟨Wl, hWl⟩ : ∃ W, W = W1.alloc (.cells #[] 5) := ⟨_, rfl⟩
                  rw [← hqq, ← hWl] at hrun
                  rw [← hWl] at HRW
                  rw [← hqq, ← hWl]
                  have HRUN : Hid ((Builtin.append_ #[38, 38] 38 #[.slice (some ⟨qq, 0, none⟩) 0 0, o.bv]).run Tryd.prog Wl = .ok v1 W2) := hrun
                  clear hqq hWl hrun hown hb2
                  simp only [Act.put, aS, aC, aZ]
                  refine wl rfl (.pointer (some ⟨bo, 0 + 2, none⟩)) _ (run_fieldOp' f40_2 (.tmp 16) rfl bo (0) rfl) ?_
                  simp only [Act.put, aS, aC, aZ]
                  refine wl rfl o.bv _ (run_load1 o38 (.tmp 104) rfl bo (0 + 2) rfl o.bv (HRW.out.at 2 _ rfl)) ?_
                  simp only [Act.put, aS, aC, aZ]
                  refine wl rfl v1 W2 (run_append (.tmp 103) (.tmp 105) rfl _ o.bv v1 rfl rfl HRUN.out) ?_
                  clear HRUN HRW HR
                  simp only [Act.put, aS, aC, aZ]
                  refine wl rfl v1 _ (run_asZ (.tmp 106) rfl v1 rfl) ?_
                  simp only [Act.put, aS, aC, aZ]
                  refine wpList_nil ?_
                  go_upto_region 30 with fail
                  refine wp_region_lit ?_
                  refine wl rfl (ptr gp) _ (run_mvZ (.tmp 13) rfl (ptr gp) rfl) ?_
                  simp only [Act.put, aS, aC, aZ]
                  refine wl rfl v1 _ (run_mvZ (.tmp 17) rfl v1 rfl) ?_
                  simp only [Act.put, aS, aC, aZ]
                  refine wpList_callW eN15 [.tmp 108, .tmp 109] _ rfl rfl [(ptr gp), v1] rfl ?_
                  refine (HPL.out.2.1 v1 HT3.out.1.pg (by omega) HSL.out).mono ?_
                  intro e W3 ⟨c3, hs3, ha3⟩
                  obtain ⟨m3, rfl, hf3, hp3⟩ : ∃ m', e = ret2 q er ∧ (m.fuse < 0 → m'.fuse < 0) ∧ PgW w W3 c3 gp g m' [5, n0] [9] 1 n L U2 X2 (6 + 8 * k + 8) := (by
                    rcases ha3 with h | ⟨_, h, _⟩
                    · exact h
                    · have := HT3.out.2.2.2.1; omega)
                  refine ⟨_, rfl, ?_⟩
                  have HT4 : Hid (Three w W3 c3 gp g m3 [5, n0] [9] 1 n L U2 X2 (6 + 8 * k + 8) gy r v1 o.b ∧ Row W3 bo 40 o.cells ∧ m3.fuse < 0 ∧ 1 ≤ n ∧ n ≤ 384) := ⟨HT3.out.1.stp hs3 hp3, row_stp HT3.out.2.1 hs3 HT3.out.2.2.1, hf3 HT3.out.2.2.2.1, HT3.out.2.2.2.2⟩
                  clear hs3 ha3 hf3 hp3 HT3
                  simp only [Act.put, aS, aC, aZ]
                  refine wl rfl (.tuple #[(.int .i64 (q : Nat)), (.int .i64 er)]) _ (run_mvZ (.tmp 110) rfl (.tuple #[(.int .i64 (q : Nat)), (.int .i64 er)]) rfl) ?_
                  simp only [Act.put, aS, aC, aZ]
                  refine wl rfl (.int .i64 (q : Nat)) _ (run_extZ (.tmp 107) 0 rfl #[(.int .i64 (q : Nat)), (.int .i64 er)] rfl (.int .i64 (q : Nat)) rfl) ?_
                  simp only [Act.put, aS, aC, aZ]
                  refine wl rfl (.int .i64 er) _ (run_extZ (.tmp 107) 1 rfl #[(.int .i64 (q : Nat)), (.int .i64 er)] rfl (.int .i64 er) rfl) ?_
                  simp only [Act.put, aS, aC, aZ]
                  refine wl rfl (.int .i64 (q : Nat)) _ (run_asZ (.tmp 111) rfl (.int .i64 (q : Nat)) rfl) ?_
                  simp only [Act.put, aS, aC, aZ]
                  refine wl rfl (.int .i64 er) _ (run_asZ (.tmp 112) rfl (.int .i64 er) rfl) ?_
                  simp only [Act.put, aS, aC, aZ]
                  refine wpList_nil ?_
                  go_upto_region 31 with fail
                  refine wp_region_lit ?_
                  refine wl rfl (ptr gy) _ (run_mvZ (.tmp 11) rfl (ptr gy) rfl) ?_
                  simp only [Act.put, aS, aC, aZ]
                  refine wl rfl (.pointer (some ⟨bo, 0 + 2, none⟩)) _ (run_fieldOp' f40_2 (.tmp 16) rfl bo (0) rfl) ?_
                  simp only [Act.put, aS, aC, aZ]
                  refine wl rfl o.bv _ (run_load1 o38 (.tmp 115) rfl bo (0 + 2) rfl o.bv (HT4.out.2.1.at 2 _ rfl)) ?_
                  simp only [Act.put, aS, aC, aZ]
                  refine wpList_callW eN16 [.tmp 114, .tmp 116] _ rfl rfl [(ptr gy), o.bv] rfl ?_
                  refine (HPL.out.2.2 _ W3 gy o.bv HT4.out.1.rf HT4.out.2.2.2 HT4.out.1.fresh (HT4.out.1.arg HOB.out)).mono ?_
                  rintro e W4 ⟨rfl, hc4, hr4⟩
                  refine ⟨_, rfl, ?_⟩
                  have HT5 : Hid (Three w W4 c3 gp g m3 [5, n0] [9] 1 n L U2 X2 (6 + 8 * k + 8) gy r2 v1 o.b ∧ m3.fuse < 0 ∧ Rls L U2 X2 r2 n) := ⟨HT4.out.1.ref hc4 hr4, HT4.out.2.2.1, HPL.out.1⟩
                  clear hc4 hr4 HT4 HPL
                  simp only [Act.put, aS, aC, aZ]
                  refine wl rfl (.tuple #[(.int .i64 (q : Nat)), (.int .i64 er)]) _ (run_mvZ (.tmp 117) rfl (.tuple #[(.int .i64 (q : Nat)), (.int .i64 er)]) rfl) ?_
                  simp only [Act.put, aS, aC, aZ]
                  refine wl rfl (.int .i64 (q : Nat)) _ (run_extZ (.tmp 113) 0 rfl #[(.int .i64 (q : Nat)), (.int .i64 er)] rfl (.int .i64 (q : Nat)) rfl) ?_
                  simp only [Act.put, aS, aC, aZ]
                  refine wl rfl (.int .i64 er) _ (run_extZ (.tmp 113) 1 rfl #[(.int .i64 (q : Nat)), (.int .i64 er)] rfl (.int .i64 er) rfl) ?_
                  simp only [Act.put, aS, aC, aZ]
                  refine wl rfl (.int .i64 (q : Nat)) _ (run_asZ (.tmp 118) rfl (.int .i64 (q : Nat)) rfl) ?_
                  simp only [Act.put, aS, aC, aZ]
                  refine wl rfl (.int .i64 er) _ (run_asZ (.tmp 119) rfl (.int .i64 er) rfl) ?_
                  simp only [Act.put, aS, aC, aZ]
                  refine wpList_nil ?_
                  have hlen := HOI.out.len
                  go_upto_region 32 with fail
                  go_wp2_with fail
                  go_loopw [22] (fun vj W => ∃ (j : Nat) (b : List Nat), vj = .int .i64 (j : Nat) ∧ j ≤ o.b.length ∧ b.length = o.b.length ∧ Three w W c3 gp g m3 [5, n0] [9] 1 n L U2 X2 (6 + 8 * k + 8) gy r2 v1 b) (fun vj _ => o.b.length - (intOf vj).toNat)
                  case atStart => exact ⟨0, o.b, rfl, Nat.zero_le _, rfl, HT5.out.1⟩
                  case round =>
                    obtain ⟨j, b, rfl, hj, hbl, hth⟩ := hrel
                    obtain ⟨WJ, hWJ⟩ : ∃ W2 : World, W2 = wr := ⟨_, rfl⟩
                    subst hWJ
                    have HJ : Hid (Three w WJ c3 gp g m3 [5, n0] [9] 1 n L U2 X2 (6 + 8 * k + 8) gy r2 v1 b ∧ m3.fuse < 0 ∧ Rls L U2 X2 r2 n) := ⟨hth, HT5.out.2⟩
                    clear hth HT5
                    by_cases hjl : j < o.b.length
                    · go_upto_region 33 with fail
                      refine wp_region_lit ?_
                      refine wl rfl (.int .i64 (j : Nat)) _ (run_mvZ (.tmp 22) rfl (.int .i64 (j : Nat)) rfl) ?_
                      simp only [Act.put, aS, aC, aZ]
                      refine wl rfl v1 _ (run_mvZ (.tmp 17) rfl v1 rfl) ?_
                      simp only [Act.put, aS, aC, aZ]
                      refine wl rfl (.int .i64 (o.b.length : Nat)) _ (run_lenY HSL.out (.tmp 121) rfl rfl) ?_
                      simp only [Act.put, aS, aC, aZ]
                      refine wl rfl (.bool true) _ (run_lssZ (.tmp 120) (.tmp 122) rfl _ _ rfl rfl true (decide_eq_true (by omega))) ?_
                      simp only [Act.put, aS, aC, aZ]
                      refine wpList_nil ?_
                      obtain ⟨qb, cur, hix, hrow, hcur, hset⟩ := HJ.out.1.ix j (by omega)
                      obtain ⟨b2, hb2, hth2⟩ := hset 99
                      have HX : Hid (∀ w', (Instr.indexAt 38 v1 (.int .i64 (j : Nat))).run Tryd.prog w' = .ok (.pointer (some ⟨qb, j, none⟩)) w') := hix
                      have HROW : Hid (Row WJ qb 5 cur ∧ j < cur.length) := ⟨hrow, hcur⟩
                      go_upto_region 35 with fail
                      refine wp_region_lit ?_
                      refine wl rfl v1 _ (run_mvZ (.tmp 17) rfl v1 rfl) ?_
                      simp only [Act.put, aS, aC, aZ]
                      refine wl rfl (.int .i64 (j : Nat)) _ (run_mvZ (.tmp 22) rfl (.int .i64 (j : Nat)) rfl) ?_
                      simp only [Act.put, aS, aC, aZ]
                      refine wl rfl (.pointer (some ⟨qb, j, none⟩)) _ (run_idx (.tmp 126) (.tmp 127) rfl v1 _ _ rfl rfl HX.out) ?_
                      simp only [Act.put, aS, aC, aZ]
                      refine wl_put (t := 5) (by kernel_rfl) (.tmp 128) (.const (.int .u8 99)) rfl rfl rfl qb j 5 cur rfl (.int .u8 99) rfl ⟨rfl, rfl⟩ HROW.out.1 HROW.out.2 ?_
                      obtain ⟨W5, hw5⟩ : ∃ W, W = WJ.setCell ⟨qb, j, none⟩ (.int .u8 99) := ⟨_, rfl⟩
                      rw [show (((99 : Nat) : Int)) = 99 from rfl, ← hw5] at hth2
                      rw [← hw5]
                      have HTN : Hid (Three w W5 c3 gp g m3 [5, n0] [9] 1 n L U2 X2 (6 + 8 * k + 8) gy r2 v1 b2) := hth2
                      clear hw5 hth2 hset hrow hcur hix HX HROW HJ
                      refine wpList_nil ?_
                      go_wp2_with fail
                      refine ⟨⟨j + 1, b2, by go_num, by omega, by omega, HTN.out⟩, ?_⟩
                      simp [intOf]; omega
                    · go_upto_region 33 with fail
                      refine wp_region_lit ?_
                      refine wl rfl (.int .i64 (j : Nat)) _ (run_mvZ (.tmp 22) rfl (.int .i64 (j : Nat)) rfl) ?_
                      simp only [Act.put, aS, aC, aZ]
                      refine wl rfl v1 _ (run_mvZ (.tmp 17) rfl v1 rfl) ?_
                      simp only [Act.put, aS, aC, aZ]
                      refine wl rfl (.int .i64 (o.b.length : Nat)) _ (run_lenY HSL.out (.tmp 121) rfl rfl) ?_
                      simp only [Act.put, aS, aC, aZ]
                      refine wl rfl (.bool false) _ (run_lssZ (.tmp 120) (.tmp 122) rfl _ _ rfl rfl false (decide_eq_false (by omega))) ?_
                      simp only [Act.put, aS, aC, aZ]
                      refine wpList_nil ?_
                      go_upto_region 36 with fail
                      refine wp_region_lit ?_
                      refine wl rfl (.int .i64 (q : Nat)) _ (run_mvZ (.tmp 18) rfl (.int .i64 (q : Nat)) rfl) ?_
                      simp only [Act.put, aS, aC, aZ]
                      refine wl rfl (.int .i64 (q : Nat)) _ (run_mvZ (.tmp 20) rfl (.int .i64 (q : Nat)) rfl) ?_
                      simp only [Act.put, aS, aC, aZ]
                      refine wl rfl (.bool false) _ (run_neZ (.tmp 129) (.tmp 130) rfl ((q : Nat) : Int) ((q : Nat) : Int) rfl rfl false (by simp)) ?_
                      simp only [Act.put, aS, aC, aZ]
                      refine wl rfl (.bool false) _ (run_mvZ (.tmp 131) rfl (.bool false) rfl) ?_
                      simp only [Act.put, aS, aC, aZ]
                      refine wl (by kernel_rfl) (.int .i64 er) _ (run_mvZ (.tmp 19) rfl (.int .i64 er) rfl) ?_
                      simp only [Act.put, aS, aC, aZ]
                      refine wl (by kernel_rfl) (.int .i64 er) _ (run_mvZ (.tmp 21) rfl (.int .i64 er) rfl) ?_
                      simp only [Act.put, aS, aC, aZ]
                      refine wl (by kernel_rfl) (.bool false) _ (run_neZ (.tmp 133) (.tmp 134) rfl er er rfl rfl false (by simp)) ?_
                      simp only [Act.put, aS, aC, aZ]
                      refine wl rfl (.bool false) _ (run_pickZ (.tmp 132) (.const (.bool true)) (.tmp 135) rfl false (.bool false) rfl rfl) ?_
                      simp only [Act.put, aS, aC, aZ]
                      refine wpList_nil ?_
                      have HDU := HJ.out.1.duo HJ.out.2.2
                      go_wp2_with fail
                      go_meet
                      case rel => exact ⟨_, _, _, _, _, _, _, rfl, rfl, HDU.mono (by omega), HJ.out.2.1⟩
          · as_aux_lemma =>
                  obtain ⟨q, er, U2, X2, r2, her, hrel2, hpg, hpr⟩ := put_plan HR.out.1.rel HR.out.1.rf.len HR.out.1.pg.o.us HR.out.1.pos.2 o.b
                  have HPL : Hid (Rls L U2 X2 r2 n ∧ PutP n L U U2 X X2 o.b q er ∧ PutD n r r2 o.b q er) := ⟨hrel2, hpg, hpr⟩
                  clear her hrel2 hpg hpr
                  obtain ⟨v1, W2, hrun, hown, hb2⟩ := run_cpB 38 (HOB.out W1 HR.out.1.pg.pl.below) HOI.out.len
                  go_upto_region 29 with fail
                  refine wp_region_lit ?_
                  refine wl rfl (.slice (some ⟨W1.heap.size, 0, none⟩) 0 0) _ (run_blit0 rfl) ?_
                  have HT3 : Hid (Three w W2 c gp g m [5, n0] [9] 1 n L U X (6 + 8 * k) gy r v1 o.b ∧ Row W2 bo 40 o.cells ∧ SS w c gp bo ∧ m.fuse < 0 ∧ 1 ≤ n ∧ n ≤ 384) := ⟨HR.out.1.three hb2 hown, HR.out.2.2.1.later hb2 HR.out.2.2.1.lt, HR.out.2.2.2, HR.out.2.1, HR.out.1.pos⟩
                  have HSL : Hid (SliceIn W2 v1 o.b) := HT3.out.1.sl (SliceIn.lt256 HOI.out.b) HOI.out.len
                  have HRW : Hid (Row (W1.alloc (.cells #[] 5)) bo 40 o.cells) := HR.out.2.2.1.later (below_alloc W1 _) HR.out.2.2.1.lt
                  obtain ⟨qq, hqq⟩ : ∃ q, q = W1.heap.size := ⟨_, rfl⟩
                  obtain ⟨Wl, hWl⟩ : ∃ W, W = W1.alloc (.cells #[] 5) := ⟨_, rfl⟩
                  rw [← hqq, ← hWl] at hrun
                  rw [← hWl] at HRW
                  rw [← hqq, ← hWl]
                  have HRUN : Hid ((Builtin.append_ #[38, 38] 38 #[.slice (some ⟨qq, 0, none⟩) 0 0, o.bv]).run Tryd.prog Wl = .ok v1 W2) := hrun
                  clear hqq hWl hrun hown hb2
                  simp only [Act.put, aS, aC, aZ]
                  refine wl rfl (.pointer (some ⟨bo, 0 + 2, none⟩)) _ (run_fieldOp' f40_2 (.tmp 16) rfl bo (0) rfl) ?_
                  simp only [Act.put, aS, aC, aZ]
                  refine wl rfl o.bv _ (run_load1 o38 (.tmp 104) rfl bo (0 + 2) rfl o.bv (HRW.out.at 2 _ rfl)) ?_
                  simp only [Act.put, aS, aC, aZ]
                  refine wl rfl v1 W2 (run_append (.tmp 103) (.tmp 105) rfl _ o.bv v1 rfl rfl HRUN.out) ?_
                  clear HRUN HRW HR
                  simp only [Act.put, aS, aC, aZ]
                  refine wl rfl v1 _ (run_asZ (.tmp 106) rfl v1 rfl) ?_
                  simp only [Act.put, aS, aC, aZ]
                  refine wpList_nil ?_
                  go_upto_region 30 with fail
                  refine wp_region_lit ?_
                  refine wl rfl (ptr gp) _ (run_mvZ (.tmp 13) rfl (ptr gp) rfl) ?_
                  simp only [Act.put, aS, aC, aZ]
                  refine wl rfl v1 _ (run_mvZ (.tmp 17) rfl v1 rfl) ?_
                  simp only [Act.put, aS, aC, aZ]
                  refine wpList_callW eN15 [.tmp 108, .tmp 109] _ rfl rfl [(ptr gp), v1] rfl ?_
                  refine (HPL.out.2.1 v1 HT3.out.1.pg (by omega) HSL.out).mono ?_
                  intro e W3 ⟨c3, hs3, ha3⟩
                  obtain ⟨m3, rfl, hf3, hp3⟩ : ∃ m', e = ret2 q er ∧ (m.fuse < 0 → m'.fuse < 0) ∧ PgW w W3 c3 gp g m' [5, n0] [9] 1 n L U2 X2 (6 + 8 * k + 8) := (by
                    rcases ha3 with h | ⟨_, h, _⟩
                    · exact h
                    · have := HT3.out.2.2.2.1; omega)
                  refine ⟨_, rfl, ?_⟩
                  have HT4 : Hid (Three w W3 c3 gp g m3 [5, n0] [9] 1 n L U2 X2 (6 + 8 * k + 8) gy r v1 o.b ∧ Row W3 bo 40 o.cells ∧ m3.fuse < 0 ∧ 1 ≤ n ∧ n ≤ 384) := ⟨HT3.out.1.stp hs3 hp3, row_stp HT3.out.2.1 hs3 HT3.out.2.2.1, hf3 HT3.out.2.2.2.1, HT3.out.2.2.2.2⟩
                  clear hs3 ha3 hf3 hp3 HT3
                  simp only [Act.put, aS, aC, aZ]
                  refine wl rfl (.tuple #[(.int .i64 (q : Nat)), (.int .i64 er)]) _ (run_mvZ (.tmp 110) rfl (.tuple #[(.int .i64 (q : Nat)), (.int .i64 er)]) rfl) ?_
                  simp only [Act.put, aS, aC, aZ]
                  refine wl rfl (.int .i64 (q : Nat)) _ (run_extZ (.tmp 107) 0 rfl #[(.int .i64 (q : Nat)), (.int .i64 er)] rfl (.int .i64 (q : Nat)) rfl) ?_
                  simp only [Act.put, aS, aC, aZ]
                  refine wl rfl (.int .i64 er) _ (run_extZ (.tmp 107) 1 rfl #[(.int .i64 (q : Nat)), (.int .i64 er)] rfl (.int .i64 er) rfl) ?_
                  simp only [Act.put, aS, aC, aZ]
                  refine wl rfl (.int .i64 (q : Nat)) _ (run_asZ (.tmp 111) rfl (.int .i64 (q : Nat)) rfl) ?_
                  simp only [Act.put, aS, aC, aZ]
                  refine wl rfl (.int .i64 er) _ (run_asZ (.tmp 112) rfl (.int .i64 er) rfl) ?_
                  simp only [Act.put, aS, aC, aZ]
                  refine wpList_nil ?_
                  go_upto_region 31 with fail
                  refine wp_region_lit ?_
                  refine wl rfl (ptr gy) _ (run_mvZ (.tmp 11) rfl (ptr gy) rfl) ?_
                  simp only [Act.put, aS, aC, aZ]
                  refine wl rfl (.pointer (some ⟨bo, 0 + 2, none⟩)) _ (run_fieldOp' f40_2 (.tmp 16) rfl bo (0) rfl) ?_
                  simp only [Act.put, aS, aC, aZ]
                  refine wl rfl o.bv _ (run_load1 o38 (.tmp 115) rfl bo (0 + 2) rfl o.bv (HT4.out.2.1.at 2 _ rfl)) ?_
                  simp only [Act.put, aS, aC, aZ]
                  refine wpList_callW eN16 [.tmp 114, .tmp 116] _ rfl rfl [(ptr gy), o.bv] rfl ?_
                  refine (HPL.out.2.2 _ W3 gy o.bv HT4.out.1.rf HT4.out.2.2.2 HT4.out.1.fresh (HT4.out.1.arg HOB.out)).mono ?_
                  rintro e W4 ⟨rfl, hc4, hr4⟩
                  refine ⟨_, rfl, ?_⟩
                  have HT5 : Hid (Three w W4 c3 gp g m3 [5, n0] [9] 1 n L U2 X2 (6 + 8 * k + 8) gy r2 v1 o.b ∧ m3.fuse < 0 ∧ Rls L U2 X2 r2 n) := ⟨HT4.out.1.ref hc4 hr4, HT4.out.2.2.1, HPL.out.1⟩
                  clear hc4 hr4 HT4 HPL
                  simp only [Act.put, aS, aC, aZ]
                  refine wl rfl (.tuple #[(.int .i64 (q : Nat)), (.int .i64 er)]) _ (run_mvZ (.tmp 117) rfl (.tuple #[(.int .i64 (q : Nat)), (.int .i64 er)]) rfl) ?_
                  simp only [Act.put, aS, aC, aZ]
                  refine wl rfl (.int .i64 (q : Nat)) _ (run_extZ (.tmp 113) 0 rfl #[(.int .i64 (q : Nat)), (.int .i64 er)] rfl (.int .i64 (q : Nat)) rfl) ?_
                  simp only [Act.put, aS, aC, aZ]
                  refine wl rfl (.int .i64 er) _ (run_extZ (.tmp 113) 1 rfl #[(.int .i64 (q : Nat)), (.int .i64 er)] rfl (.int .i64 er) rfl) ?_
                  simp only [Act.put, aS, aC, aZ]
                  refine wl rfl (.int .i64 (q : Nat)) _ (run_asZ (.tmp 118) rfl (.int .i64 (q : Nat)) rfl) ?_
                  simp only [Act.put, aS, aC, aZ]
                  refine wl rfl (.int .i64 er) _ (run_asZ (.tmp 119) rfl (.int .i64 er) rfl) ?_
                  simp only [Act.put, aS, aC, aZ]
                  refine wpList_nil ?_
                  have hlen := HOI.out.len
                  go_upto_region 32 with fail
                  go_wp2_with fail
                  go_loopw [22] (fun vj W => ∃ (j : Nat) (b : List Nat), vj = .int .i64 (j : Nat) ∧ j ≤ o.b.length ∧ b.length = o.b.length ∧ Three w W c3 gp g m3 [5, n0] [9] 1 n L U2 X2 (6 + 8 * k + 8) gy r2 v1 b) (fun vj _ => o.b.length - (intOf vj).toNat)
                  case atStart => exact ⟨0, o.b, rfl, Nat.zero_le _, rfl, HT5.out.1⟩
                  case round =>
                    obtain ⟨j, b, rfl, hj, hbl, hth⟩ := hrel
                    obtain ⟨WJ, hWJ⟩ : ∃ W2 : World, W2 = wr := ⟨_, rfl⟩
                    subst hWJ
                    have HJ : Hid (Three w WJ c3 gp g m3 [5, n0] [9] 1 n L U2 X2 (6 + 8 * k + 8) gy r2 v1 b ∧ m3.fuse < 0 ∧ Rls L U2 X2 r2 n) := ⟨hth, HT5.out.2⟩
                    clear hth HT5
                    by_cases hjl : j < o.b.length
                    · go_upto_region 33 with fail
                      refine wp_region_lit ?_
                      refine wl rfl (.int .i64 (j : Nat)) _ (run_mvZ (.tmp 22) rfl (.int .i64 (j : Nat)) rfl) ?_
                      simp only [Act.put, aS, aC, aZ]
                      refine wl rfl v1 _ (run_mvZ (.tmp 17) rfl v1 rfl) ?_
                      simp only [Act.put, aS, aC, aZ]
                      refine wl rfl (.int .i64 (o.b.length : Nat)) _ (run_lenY HSL.out (.tmp 121) rfl rfl) ?_
                      simp only [Act.put, aS, aC, aZ]
                      refine wl rfl (.bool true) _ (run_lssZ (.tmp 120) (.tmp 122) rfl _ _ rfl rfl true (decide_eq_true (by omega))) ?_
                      simp only [Act.put, aS, aC, aZ]
                      refine wpList_nil ?_
                      obtain ⟨qb, cur, hix, hrow, hcur, hset⟩ := HJ.out.1.ix j (by omega)
                      obtain ⟨b2, hb2, hth2⟩ := hset 99
                      have HX : Hid (∀ w', (Instr.indexAt 38 v1 (.int .i64 (j : Nat))).run Tryd.prog w' = .ok (.pointer (some ⟨qb, j, none⟩)) w') := hix
                      have HROW : Hid (Row WJ qb 5 cur ∧ j < cur.length) := ⟨hrow, hcur⟩
                      go_upto_region 35 with fail
                      refine wp_region_lit ?_
                      refine wl rfl v1 _ (run_mvZ (.tmp 17) rfl v1 rfl) ?_
                      simp only [Act.put, aS, aC, aZ]
                      refine wl rfl (.int .i64 (j : Nat)) _ (run_mvZ (.tmp 22) rfl (.int .i64 (j : Nat)) rfl) ?_
                      simp only [Act.put, aS, aC, aZ]
                      refine wl rfl (.pointer (some ⟨qb, j, none⟩)) _ (run_idx (.tmp 126) (.tmp 127) rfl v1 _ _ rfl rfl HX.out) ?_
                      simp only [Act.put, aS, aC, aZ]
                      refine wl_put (t := 5) (by kernel_rfl) (.tmp 128) (.const (.int .u8 99)) rfl rfl rfl qb j 5 cur rfl (.int .u8 99) rfl ⟨rfl, rfl⟩ HROW.out.1 HROW.out.2 ?_
                      obtain ⟨W5, hw5⟩ : ∃ W, W = WJ.setCell ⟨qb, j, none⟩ (.int .u8 99) := ⟨_, rfl⟩
                      rw [show (((99 : Nat) : Int)) = 99 from rfl, ← hw5] at hth2
                      rw [← hw5]
                      have HTN : Hid (Three w W5 c3 gp g m3 [5, n0] [9] 1 n L U2 X2 (6 + 8 * k + 8) gy r2 v1 b2) := hth2
                      clear hw5 hth2 hset hrow hcur hix HX HROW HJ
                      refine wpList_nil ?_
                      go_wp2_with fail
                      refine ⟨⟨j + 1, b2, by go_num, by omega, by omega, HTN.out⟩, ?_⟩
                      simp [intOf]; omega
                    · go_upto_region 33 with fail
                      refine wp_region_lit ?_
                      refine wl rfl (.int .i64 (j : Nat)) _ (run_mvZ (.tmp 22) rfl (.int .i64 (j : Nat)) rfl) ?_
                      simp only [Act.put, aS, aC, aZ]
                      refine wl rfl v1 _ (run_mvZ (.tmp 17) rfl v1 rfl) ?_
                      simp only [Act.put, aS, aC, aZ]
                      refine wl rfl (.int .i64 (o.b.length : Nat)) _ (run_lenY HSL.out (.tmp 121) rfl rfl) ?_
                      simp only [Act.put, aS, aC, aZ]
                      refine wl rfl (.bool false) _ (run_lssZ (.tmp 120) (.tmp 122) rfl _ _ rfl rfl false (decide_eq_false (by omega))) ?_
                      simp only [Act.put, aS, aC, aZ]
                      refine wpList_nil ?_
                      go_upto_region 36 with fail
                      refine wp_region_lit ?_
                      refine wl rfl (.int .i64 (q : Nat)) _ (run_mvZ (.tmp 18) rfl (.int .i64 (q : Nat)) rfl) ?_
                      simp only [Act.put, aS, aC, aZ]
                      refine wl rfl (.int .i64 (q : Nat)) _ (run_mvZ (.tmp 20) rfl (.int .i64 (q : Nat)) rfl) ?_
                      simp only [Act.put, aS, aC, aZ]
                      refine wl rfl (.bool false) _ (run_neZ (.tmp 129) (.tmp 130) rfl ((q : Nat) : Int) ((q : Nat) : Int) rfl rfl false (by simp)) ?_
                      simp only [Act.put, aS, aC, aZ]
                      refine wl rfl (.bool false) _ (run_mvZ (.tmp 131) rfl (.bool false) rfl) ?_
                      simp only [Act.put, aS, aC, aZ]
                      refine wl (by kernel_rfl) (.int .i64 er) _ (run_mvZ (.tmp 19) rfl (.int .i64 er) rfl) ?_
                      simp only [Act.put, aS, aC, aZ]
                      refine wl (by kernel_rfl) (.int .i64 er) _ (run_mvZ (.tmp 21) rfl (.int .i64 er) rfl) ?_
                      simp only [Act.put, aS, aC, aZ]
                      refine wl (by kernel_rfl) (.bool false) _ (run_neZ (.tmp 133) (.tmp 134) rfl er er rfl rfl false (by simp)) ?_
                      simp only [Act.put, aS, aC, aZ]
                      refine wl rfl (.bool false) _ (run_pickZ (.tmp 132) (.const (.bool true)) (.tmp 135) rfl false (.bool false) rfl rfl) ?_
                      simp only [Act.put, aS, aC, aZ]
                      refine wpList_nil ?_
                      have HDU := HJ.out.1.duo HJ.out.2.2
                      go_wp2_with fail
                      go_meet
                      case rel => exact ⟨_, _, _, _, _, _, _, rfl, rfl, HDU.mono (by omega), HJ.out.2.1⟩
          · as_aux_lemma =>
                  obtain ⟨er, U2, r2, hrel2, hpg, hpr⟩ := free_plan HR.out.1.rel HR.out.1.rf.len HR.out.1.pg.o.us HR.out.1.pos.2 HR.out.1.pg.o.out o.N
                  have HPL : Hid (Rls L U2 X r2 n ∧ FreeP n L U U2 X o.N er ∧ FreeD n r r2 o.N er) := ⟨hrel2, hpg, hpr⟩
                  clear hrel2 hpg hpr
                  go_upto_region 39 with fail
                  refine wp_region_lit ?_
                  refine wl rfl (ptr gp) _ (run_mvZ (.tmp 13) rfl (ptr gp) rfl) ?_
                  simp only [Act.put, aS, aC, aZ]
                  refine wl rfl (.pointer (some ⟨bo, 0 + 1, none⟩)) _ (run_fieldOp' f40_1 (.tmp 16) rfl bo (0) rfl) ?_
                  simp only [Act.put, aS, aC, aZ]
                  refine wl rfl (.int .i64 o.N) _ (run_load1 o3 (.tmp 140) rfl bo (0 + 1) rfl (.int .i64 o.N) (HR.out.2.2.1.at 1 _ rfl)) ?_
                  simp only [Act.put, aS, aC, aZ]
                  refine wpList_callW eN17 [.tmp 139, .tmp 141] _ rfl rfl [(ptr gp), (.int .i64 o.N)] rfl ?_
                  refine (HPL.out.2.1 HR.out.1.pg (by omega)).mono ?_
                  rintro e W2 ⟨rfl, hs2, hp2⟩
                  refine ⟨_, rfl, ?_⟩
                  have H2 : Hid (PgW w W2 c gp g m [5, n0] [9] 1 n L U2 X (6 + 8 * k) ∧ Ref (SS w c gp) W2 gy n r ∧ m.fuse < 0 ∧ Row W2 bo 40 o.cells) := ⟨hp2, HR.out.1.rf.ssStp hs2, HR.out.2.1, row_stp HR.out.2.2.1 hs2 HR.out.2.2.2⟩
                  have HPO : Hid (1 ≤ n ∧ n ≤ 384) := HR.out.1.pos
                  clear hs2 hp2 HR
                  simp only [Act.put, aS, aC, aZ]
                  refine wl rfl (.int .i64 er) _ (run_asZ (.tmp 142) rfl (.int .i64 er) rfl) ?_
                  simp only [Act.put, aS, aC, aZ]
                  refine wpList_nil ?_
                  go_upto_region 40 with fail
                  refine wp_region_lit ?_
                  refine wl rfl (ptr gy) _ (run_mvZ (.tmp 11) rfl (ptr gy) rfl) ?_
                  simp only [Act.put, aS, aC, aZ]
                  refine wl rfl (.pointer (some ⟨bo, 0 + 1, none⟩)) _ (run_fieldOp' f40_1 (.tmp 16) rfl bo (0) rfl) ?_
                  simp only [Act.put, aS, aC, aZ]
                  refine wl rfl (.int .i64 o.N) _ (run_load1 o3 (.tmp 144) rfl bo (0 + 1) rfl (.int .i64 o.N) (H2.out.2.2.2.at 1 _ rfl)) ?_
                  simp only [Act.put, aS, aC, aZ]
                  refine wpList_callW eN18 [.tmp 143, .tmp 145] _ rfl rfl [(ptr gy), (.int .i64 o.N)] rfl ?_
                  refine (HPL.out.2.2 _ W2 gy H2.out.2.1 HPO.out).mono ?_
                  rintro e W3 ⟨rfl, hc3, hr3⟩
                  refine ⟨_, rfl, ?_⟩
                  have H3 : Hid (Duo w W3 c gp g m [5, n0] [9] 1 n L U2 X (6 + 8 * k) gy r2 ∧ m.fuse < 0) := ⟨duo_ref H2.out.1 hc3 hr3 HPL.out.1, H2.out.2.2.1⟩
                  clear hc3 hr3 H2
                  simp only [Act.put, aS, aC, aZ]
                  refine wl rfl (.int .i64 er) _ (run_asZ (.tmp 146) rfl (.int .i64 er) rfl) ?_
                  simp only [Act.put, aS, aC, aZ]
                  refine wpList_nil ?_
                  go_upto_region 41 with fail
                  refine wp_region_lit ?_
                  refine wl rfl (.int .i64 er) _ (run_mvZ (.tmp 23) rfl (.int .i64 er) rfl) ?_
                  simp only [Act.put, aS, aC, aZ]
                  refine wl rfl (.int .i64 er) _ (run_mvZ (.tmp 24) rfl (.int .i64 er) rfl) ?_
                  simp only [Act.put, aS, aC, aZ]
                  refine wl rfl (.bool false) _ (run_neZ (.tmp 147) (.tmp 148) rfl er er rfl rfl false (by simp)) ?_
                  simp only [Act.put, aS, aC, aZ]
                  refine wpList_nil ?_
                  go_wp2_with fail
                  go_meet
                  case rel => exact ⟨_, _, _, _, _, _, _, rfl, rfl, H3.out.1.mono (by omega), H3.out.2⟩
          · as_aux_lemma =>
                  obtain ⟨er, L2, r2, her, hrel2, hpg, hpr⟩ := com_plan HR.out.1.rel HR.out.1.rf.len HR.out.1.pos.2 HR.out.1.pg.o.out o.N
                  have HPL : Hid (Rls L2 U X r2 n ∧ ComP n L L2 U X o.N er ∧ ComD n r r2 o.N er) := ⟨hrel2, hpg, hpr⟩
                  clear hrel2 hpg hpr her
                  go_upto_region 44 with fail
                  refine wp_region_lit ?_
                  refine wl rfl (ptr gp) _ (run_mvZ (.tmp 13) rfl (ptr gp) rfl) ?_
                  simp only [Act.put, aS, aC, aZ]
                  refine wl rfl (.pointer (some ⟨bo, 0 + 1, none⟩)) _ (run_fieldOp' f40_1 (.tmp 16) rfl bo (0) rfl) ?_
                  simp only [Act.put, aS, aC, aZ]
                  refine wl rfl (.int .i64 o.N) _ (run_load1 o3 (.tmp 153) rfl bo (0 + 1) rfl (.int .i64 o.N) (HR.out.2.2.1.at 1 _ rfl)) ?_
                  simp only [Act.put, aS, aC, aZ]
                  refine wpList_callW eN19 [.tmp 152, .tmp 154] _ rfl rfl [(ptr gp), (.int .i64 o.N)] rfl ?_
                  refine (HPL.out.2.1 HR.out.1.pg (by omega)).mono ?_
                  intro e W2 ⟨c2, hs2, ha2⟩
                  obtain ⟨m2, rfl, hf2, hp2⟩ : ∃ m', e = .returned (.int .i64 er) ∧ (m.fuse < 0 → m'.fuse < 0) ∧ PgW w W2 c2 gp g m' [5, n0] [9] 1 n L2 U X (6 + 8 * k + 3) := (by
                    rcases ha2 with h | ⟨_, _, h, _⟩
                    · exact h
                    · have := HR.out.2.1; omega)
                  refine ⟨_, rfl, ?_⟩
                  have H2 : Hid (PgW w W2 c2 gp g m2 [5, n0] [9] 1 n L2 U X (6 + 8 * k + 3) ∧ Ref (SS w c2 gp) W2 gy n r ∧ m2.fuse < 0 ∧ Row W2 bo 40 o.cells) := ⟨hp2, HR.out.1.rf.ssStp hs2, hf2 HR.out.2.1, row_stp HR.out.2.2.1 hs2 HR.out.2.2.2⟩
                  have HPO : Hid (1 ≤ n ∧ n ≤ 384) := HR.out.1.pos
                  clear hs2 hp2 ha2 hf2 HR
                  simp only [Act.put, aS, aC, aZ]
                  refine wl rfl (.int .i64 er) _ (run_asZ (.tmp 155) rfl (.int .i64 er) rfl) ?_
                  simp only [Act.put, aS, aC, aZ]
                  refine wpList_nil ?_
                  go_upto_region 45 with fail
                  refine wp_region_lit ?_
                  refine wl rfl (ptr gy) _ (run_mvZ (.tmp 11) rfl (ptr gy) rfl) ?_
                  simp only [Act.put, aS, aC, aZ]
                  refine wl rfl (.pointer (some ⟨bo, 0 + 1, none⟩)) _ (run_fieldOp' f40_1 (.tmp 16) rfl bo (0) rfl) ?_
                  simp only [Act.put, aS, aC, aZ]
                  refine wl rfl (.int .i64 o.N) _ (run_load1 o3 (.tmp 157) rfl bo (0 + 1) rfl (.int .i64 o.N) (H2.out.2.2.2.at 1 _ rfl)) ?_
                  simp only [Act.put, aS, aC, aZ]
                  refine wpList_callW eN20 [.tmp 156, .tmp 158] _ rfl rfl [(ptr gy), (.int .i64 o.N)] rfl ?_
                  refine (HPL.out.2.2 _ W2 gy H2.out.2.1 HPO.out (fun _ hb => H2.out.1.fresh hb)).mono ?_
                  rintro e W3 ⟨rfl, hc3, hr3⟩
                  refine ⟨_, rfl, ?_⟩
                  have H3 : Hid (Duo w W3 c2 gp g m2 [5, n0] [9] 1 n L2 U X (6 + 8 * k + 3) gy r2 ∧ m2.fuse < 0) := ⟨duo_ref1 H2.out.1 hc3 hr3 HPL.out.1, H2.out.2.2.1⟩
                  clear hc3 hr3 H2
                  simp only [Act.put, aS, aC, aZ]
                  refine wl rfl (.int .i64 er) _ (run_asZ (.tmp 159) rfl (.int .i64 er) rfl) ?_
                  simp only [Act.put, aS, aC, aZ]
                  refine wpList_nil ?_
                  go_upto_region 46 with fail
                  refine wp_region_lit ?_
                  refine wl rfl (.int .i64 er) _ (run_mvZ (.tmp 25) rfl (.int .i64 er) rfl) ?_
                  simp only [Act.put, aS, aC, aZ]
                  refine wl rfl (.int .i64 er) _ (run_mvZ (.tmp 26) rfl (.int .i64 er) rfl) ?_
                  simp only [Act.put, aS, aC, aZ]
                  refine wl rfl (.bool false) _ (run_neZ (.tmp 160) (.tmp 161) rfl er er rfl rfl false (by simp)) ?_
                  simp only [Act.put, aS, aC, aZ]
                  refine wpList_nil ?_
                  go_wp2_with fail
                  go_meet
                  case rel => exact ⟨_, _, _, _, _, _, _, rfl, rfl, H3.out.1.mono (by omega), H3.out.2⟩
          · as_aux_lemma =>
                  go_upto_region 49 with fail
                  refine wp_region_lit ?_
                  refine wl rfl (ptr g) _ (run_mvZ (.tmp 6) rfl (ptr g) rfl) ?_
                  simp only [Act.put, aS, aC, aZ]
                  refine wpList_callW eN13 [.tmp 166, .const (.int .i64 1)] _ rfl rfl [(ptr g), .int .i64 1] rfl ?_
                  refine (PlW.open2 HR.out.1.pg.pl (by omega) (HR.out.1.pg.o.c.opened HR.out.1.pg.o.on)).mono ?_
                  rintro e W2 ⟨gq, hgq, rfl, b_, h_⟩
                  refine ⟨_, rfl, ?_⟩
                  have H2 : Hid (PgW w W2 c gq g m [5, n0] [9] 1 n L L.used X (6 + 8 * k) ∧ Ref (SS w c gq) W2 gy n r ∧ m.fuse < 0 ∧ Rls L L.used X r.dropped n) := ⟨h_, duo_open HR.out.1 hgq b_, HR.out.2.1, HR.out.1.rel.drop⟩
                  have HPO : Hid (1 ≤ n ∧ n ≤ 384) := HR.out.1.pos
                  clear hgq b_ h_ HR
                  simp only [Act.put, aS, aC, aZ]
                  refine wl rfl (.tuple #[(ptr gq), (.int .i64 0)]) _ (run_mvZ (.tmp 167) rfl (.tuple #[(ptr gq), (.int .i64 0)]) rfl) ?_
                  simp only [Act.put, aS, aC, aZ]
                  refine wl rfl (ptr gq) _ (run_extZ (.tmp 165) 0 rfl #[(ptr gq), (.int .i64 0)] rfl (ptr gq) rfl) ?_
                  simp only [Act.put, aS, aC, aZ]
                  refine wl rfl (.int .i64 0) _ (run_extZ (.tmp 165) 1 rfl #[(ptr gq), (.int .i64 0)] rfl (.int .i64 0) rfl) ?_
                  simp only [Act.put, aS, aC, aZ]
                  refine wl rfl (ptr gq) _ (run_asZ (.tmp 168) rfl (ptr gq) rfl) ?_
                  simp only [Act.put, aS, aC, aZ]
                  refine wl rfl (.int .i64 0) _ (run_asZ (.tmp 169) rfl (.int .i64 0) rfl) ?_
                  simp only [Act.put, aS, aC, aZ]
                  refine wpList_nil ?_
                  go_upto_region 50 with fail
                  refine wp_region_lit ?_
                  refine wl rfl (ptr gy) _ (run_mvZ (.tmp 11) rfl (ptr gy) rfl) ?_
                  simp only [Act.put, aS, aC, aZ]
                  refine wpList_callW eN21 [.tmp 170] _ rfl rfl [(ptr gy)] rfl ?_
                  refine (rdrop_any _ W2 gy n r H2.out.2.1 HPO.out (fun _ hb => H2.out.1.fresh hb)).mono ?_
                  rintro e W3 ⟨rfl, hc3, hr3⟩
                  refine ⟨_, rfl, ?_⟩
                  have H3 : Hid (Duo w W3 c gq g m [5, n0] [9] 1 n L L.used X (6 + 8 * k) gy r.dropped ∧ m.fuse < 0) := ⟨duo_ref1 H2.out.1 hc3 hr3 H2.out.2.2.2, H2.out.2.2.1⟩
                  clear hc3 hr3 H2
                  simp only [Act.put, aS, aC, aZ]
                  refine wpList_nil ?_
                  go_upto_region 51 with fail
                  refine wp_region_lit ?_
                  refine wl rfl (ptr gq) _ (run_mvZ (.tmp 13) rfl (ptr gq) rfl) ?_
                  simp only [Act.put, aS, aC, aZ]
                  refine wl rfl (.bool false) _ (run_binOp' (.tmp 172) (.const (.pointer none)) rfl _ _ _ rfl rfl rfl (by kernel_rfl)) ?_
                  simp only [Act.put, aS, aC, aZ]
                  refine wl rfl (.bool false) _ (run_mvZ (.tmp 173) rfl (.bool false) rfl) ?_
                  simp only [Act.put, aS, aC, aZ]
                  refine wl (by kernel_rfl) (.int .i64 0) _ (run_mvZ (.tmp 7) rfl (.int .i64 0) rfl) ?_
                  simp only [Act.put, aS, aC, aZ]
                  refine wl (by kernel_rfl) (.bool false) _ (run_neZ (.tmp 175) (.const (.int .i64 0)) rfl (0) (0) rfl rfl false rfl) ?_
                  simp only [Act.put, aS, aC, aZ]
                  refine wl rfl (.bool false) _ (run_pickZ (.tmp 174) (.const (.bool true)) (.tmp 176) rfl false (.bool false) rfl rfl) ?_
                  simp only [Act.put, aS, aC, aZ]
                  refine wpList_nil ?_
                  go_wp2_with fail
                  go_meet
                  case rel => exact ⟨_, _, _, _, _, _, _, rfl, rfl, H3.out.1.mono (by omega), H3.out.2⟩
          · as_aux_lemma =>
                  go_wp2_with fail
                  go_meet
                  case rel => exact ⟨_, _, _, _, _, _, _, rfl, rfl, HR.out.1.mono (by omega), HR.out.2.1⟩
          · as_aux_lemma =>
                  go_wp2_with fail
                  go_meet
                  case rel => exact ⟨_, _, _, _, _, _, _, rfl, rfl, HR.out.1.mono (by omega), HR.out.2.1⟩
          · as_aux_lemma =>
                  go_wp2_with fail
                  go_meet
                  case rel => exact ⟨_, _, _, _, _, _, _, rfl, rfl, HR.out.1.mono (by omega), HR.out.2.1⟩
        case rest =>
          clear hk0 HR
          obtain ⟨gp, c, m, L, U, X, r, rfl, rfl, hduo, hfu⟩ := hcut
          have HD : Hid (Duo w wc c gp g m [5, n0] [9] 1 n L U X (6 + 8 * (k + 1)) gy r ∧ m.fuse < 0) := ⟨hduo, hfu⟩
          clear hduo hfu
          go_upto_region 53 with fail
          refine wp_region_lit ?_
          refine wl rfl (ptr gp) _ (run_mvZ (.tmp 13) rfl (ptr gp) rfl) ?_
          simp only [Act.put, aS, aC, aZ]
          refine wl rfl (ptr gy) _ (run_mvZ (.tmp 11) rfl (ptr gy) rfl) ?_
          simp only [Act.put, aS, aC, aZ]
          refine wpList_callW eN22 [.tmp 178, .tmp 179] _ rfl rfl [(ptr gp), (ptr gy)] rfl ?_
          refine (alike_any HD.out.1.pg (by omega) _ gy r HD.out.1.rf).mono ?_
          intro e W6 ⟨b6, he6, hb6, ht6, _⟩
          obtain rfl : b6 = true := ht6 HD.out.1.rel
          obtain rfl := he6
          refine ⟨_, rfl, ?_⟩
          have H6 : Hid (Duo w W6 c gp g m [5, n0] [9] 1 n L U X (6 + 8 * (k + 1)) gy r ∧ m.fuse < 0) := ⟨HD.out.1.bel hb6, HD.out.2⟩
          clear hb6 ht6 HD
          simp only [Act.put, aS, aC, aZ]
          refine wl rfl (.bool true) _ (run_asZ (.tmp 180) rfl (.bool true) rfl) ?_
          simp only [Act.put, aS, aC, aZ]
          refine wpList_nil ?_
          go_upto_region 54 with fail
          refine wp_region_lit ?_
          refine wl rfl (.bool true) _ (run_mvZ (.tmp 27) rfl (.bool true) rfl) ?_
          simp only [Act.put, aS, aC, aZ]
          refine wl rfl (.bool false) _ (run_not (.tmp 181) 4 rfl true rfl) ?_
          simp only [Act.put, aS, aC, aZ]
          refine wpList_nil ?_
          go_wp2_with fail
          refine ⟨⟨k + 1, gp, c, m, L, U, X, r, rfl, rfl, by go_num, by omega, H6.out.1, H6.out.2⟩, ?_⟩
          simp [intOf]; omega
      · have h1 : decide ((k : Int) < (n1 : Int)) = false := decide_eq_false (by omega)
        go_upto_region 21 with fail
        refine wp_region_lit ?_
        refine wl rfl (.int .i64 (k : Nat)) _ (run_mvZ (.tmp 15) rfl (.int .i64 (k : Nat)) rfl) ?_
        simp only [Act.put, aS, aC, aZ]
        refine wl rfl (.slice p1 n1 cap1) _ (run_mvZ (.tmp 1) rfl (.slice p1 n1 cap1) rfl) ?_
        simp only [Act.put, aS, aC, aZ]
        refine wl rfl (.int .i64 (n1 : Nat)) _ (run_lenZ sl22 (.tmp 86) rfl p1 n1 cap1 rfl) ?_
        simp only [Act.put, aS, aC, aZ]
        refine wl rfl (.bool false) _ (run_lssZ (.tmp 85) (.tmp 87) rfl _ _ rfl rfl false h1) ?_
        simp only [Act.put, aS, aC, aZ]
        refine wpList_nil ?_
        clear h1
        go_wp2_with fail
        rw [HPQ.out]
        exact ⟨rfl, HD.out.1.pg.pl.below⟩

end Go.Proofs.YtkpnflgnhhfjoaaDoor

namespace Go.Proofs.YtkpnflgnhhfjoaaDoor.pagerPlaysUpto
open Go.ChangeShapes Go.WideShapes Go.ChangeAt Go.RowKit

set_option maxRecDepth 100000 in
/-- WHAT THE WALK GIVES, FOR EVERY ARGUMENT AND EVERY WORLD THAT HOLDS THE TABLE -/
theorem contract (H : Type) (enc : TypeId × Value → H) (W : World) (base : Nat) (args : Array Value) (ds gs : List (DataW H)) (before : List MemPlace)
    (hval : ∀ (j : Nat) t v, Tryd.f3.params[j]? = some t → args[j]? = some v → Value.okWide Tryd.prog W .any base t v)
    (hW : DataW.Whole enc Tryd.prog Tryd.f3.params.toList Rows.pagerPlaysSpec.vars false W args.toList ds gs before)
    (hk : Rows.uptoSmall H (ds ++ gs) = true)
    (hL : laidMetH Tryd.prog Rows.pagerPlaysUptoRow.laid W) :
    Calls Tryd.prog 3 args W fun e W' => ∃ v, e = .returned v ∧ Rows.pagerPlaysSpec.post enc Tryd.prog Tryd.f3 false true false false W args v W' := by
  have hW' := hW
  obtain ⟨p, q, hA0, hV, rfl, hfz, hnd⟩ := hW
  have hA : DataW.TrodAll enc Tryd.prog W 0 (fun _ => true) true Tryd.f3.params.toList args.toList ds p := hA0
  rw [Tryd.params3] at hA hval
  obtain ⟨v0, vs0, d0, ds0, p0, q0, hargs, rfl, rfl, h0, r0⟩ := trodAll_cons hA
  obtain ⟨v1, vs1, d1, ds1, p1, q1, rfl, rfl, rfl, h1, r1⟩ := trodAll_cons r0
  obtain ⟨rfl, rfl, rfl⟩ := trodAll_nil r1
  obtain rfl : args = #[v0, v1] := by cases args; simp_all
  obtain ⟨rfl, rfl⟩ := trodVars_none hV
  obtain ⟨a0, rfl, rfl, rfl, w0⟩ := open_int Tryd.underlying3 (hval 0 3 v0 rfl rfl) h0
  have b0 : -9223372036854775808 ≤ a0 ∧ a0 ≤ 9223372036854775807 := by
    simpa [Lit.wf, IntKind.min, IntKind.max, IntKind.signed, IntKind.bits] using w0
  have lt1 : ∀ x ∈ p1, x.block < W.heap.size := by obtain ⟨m, hm⟩ := h1; exact DataW.trod_lt m _ _ _ hm
  clear hA0
  have hbk : Rows.uptoBulkAll [(.lit (.int .i64 a0) : DataW H), d1] ≤ 1048576 := of_decide_eq_true hk
  simp only [Rows.uptoBulkAll] at hbk
  obtain ⟨os, hos⟩ := open_ops (hval 1 22 v1 rfl rfl) h1 (by omega)
  obtain ⟨p1, cap1, hv1, _, _⟩ := id hos
  subst hv1
  have walk := pagerPlays_any W (tabIn_of hL) a0 b0 p1 os.length cap1 os hos
  refine walk.mono fun e W' ⟨he, bel⟩ => ?_
  subst he
  exact ⟨_, rfl, _, _, _, [], _, [], hW', trodAll_mk1 (shut_bool Tryd.underlying4 _), (trodAll_cons_mk (shut_int Tryd.underlying3 w0) (trodAll_cons_mk (Below.trod laidOut (by kernel_rfl) (of_decide_eq_true (by kernel_rfl)) h1 bel lt1) trodAll_mk0)), rfl, bel.frame _, fun h => by cases h⟩

theorem laid_met (os : Os) : laidMet Tryd.prog Rows.pagerPlaysUptoRow.laid ((laidOn (World.holding Tryd.prog os ⟨#[], #[], []⟩)).forCall (fun _ _ => 0) ⟨#[], #[.int .i64 0, .slice none 0 0], []⟩).memory :=
  laidMet_of_run' 8 (by kernel_rfl) (by kernel_rfl)
theorem reads (os : Os) {H : Type} (enc : TypeId × Value → H) : ∃ places, DataW.whole enc Tryd.prog ((laidOn (World.holding Tryd.prog os ⟨#[], #[], []⟩)).forCall (fun _ _ => 0) ⟨#[], #[.int .i64 0, .slice none 0 0], []⟩).memory Tryd.f3.params.toList Rows.pagerPlaysSpec.vars false #[Value.int .i64 0, .slice none 0 0].toList 8 = some ([.lit (.int .i64 0), .nil], [], places) :=
  ⟨[], by kernel_rfl⟩

set_option maxRecDepth 100000 in
theorem lifted (os : Os) (started : os.Started) (H : Type) (enc : TypeId × Value → H) (F : Stop.Interp) :
    ReturnsInHanded {} Tryd.checked os 3 .any ((Rows.OpenSpec.upto Rows.pagerPlaysSpec).preRow enc Tryd.prog Tryd.f3 Rows.pagerPlaysUptoRow.domain false Rows.pagerPlaysUptoRow.laid) (((Rows.OpenSpec.upto Rows.pagerPlaysSpec).at F).post enc Tryd.prog Tryd.f3 false true false false) := by
  obtain ⟨places, hx⟩ := reads os enc
  refine returnsInHanded_of_row (C := Tryd.checked) (s := Rows.OpenSpec.upto Rows.pagerPlaysSpec) own started (by kernel_rfl) Tryd.func3
    (witness_row_at (enc := enc) (C := Tryd.checked) false (laidOn (World.holding Tryd.prog os ⟨#[], #[], []⟩)) #[.int .i64 0, .slice none 0 0] rfl (by kernel_rfl) (by kernel_rfl) (by kernel_rfl)
      (OpenSpec.preRow_of_cond 8 hx (by kernel_rfl) (fun k hk => by cases hk; kernel_rfl) (by kernel_rfl) (laid_met os))) ?_
  intro W base args ds gs before hval hW _ hcond _ hL _ _
  exact contract H enc W base args ds gs before hval hW (hcond _ rfl) hL

theorem said : Rows.PagerPlaysUptoSaid :=
  OpenClaim.holds_of_cond 3 Tryd.f3 rfl rfl rfl rfl rfl rfl rfl ⟨rfl, rfl, rfl, rfl, rfl⟩ rfl rfl rfl rfl rfl (by kernel_rfl) Tryd.func3 (by kernel_rfl)
    (of_decide_eq_true (by kernel_rfl)) (by unfold Func.isWrapper; first | (rw [if_pos (by decide +kernel)]; kernel_rfl) | (rw [if_neg (by decide +kernel)]; exact ⟨rfl, rfl⟩))
    (fun os started H enc _ F => by rw [OpenClaim.pre_eq_preRow]; exact lifted os started H enc F)

theorem plain (f : FuncId) (fn : Func) (hf : Tryd.pinned.checked.prog.funcNamed "muniment/munimentlaw09.PagerPlays" = some f) (hfn : Tryd.pinned.checked.prog.funcs[f]? = some fn) :
    false = Tryd.pinned.checked.prog.looks [] ∧ ∀ (j : Nat) t, fn.params[j]? = some t → Tryd.pinned.checked.prog.wantsStandIn t = false := by
  obtain rfl : f = 3 := Option.some.inj ((show Tryd.prog.funcNamed "muniment/munimentlaw09.PagerPlays" = some 3 by kernel_rfl).symm.trans hf) |>.symm
  obtain rfl : fn = Tryd.f3 := (Option.some.inj (Tryd.func3.symm.trans hfn)).symm
  refine ⟨by kernel_rfl, fun j t ht => ?_⟩
  rw [Tryd.params3] at ht
  have hm := Array.mem_of_getElem? ht
  have : t = 3 ∨ t = 22 := by simpa using hm
  rcases this with rfl | rfl
  · exact (show Tryd.prog.wantsStandIn 3 = false by kernel_rfl)
  · exact (show Tryd.prog.wantsStandIn 22 = false by kernel_rfl)

end Go.Proofs.YtkpnflgnhhfjoaaDoor.pagerPlaysUpto
namespace Go.Proofs.YtkpnflgnhhfjoaaDoor
/-- THE CARD -/
theorem pagerPlaysUpto_card : Rows.PagerPlaysUptoCardSaid :=
  Claim7.holds_tied_plain_at .later [] _ _ _ _ pagerPlaysUpto.said (fun _ h => by cases h) (by kernel_rfl) (fun _ h => by cases h) pagerPlaysUpto_row_tie rfl ⟨rfl, rfl⟩ (by kernel_rfl) rfl pagerPlaysUpto.plain (by kernel_rfl)
end Go.Proofs.YtkpnflgnhhfjoaaDoor

/- Comparing; the closure of what is due. -/
import Derived.Test.YtobolkllplmmcabT6
namespace Go.Proofs.Ytobolkllplmmcab
open Go.RowKit

set_option maxHeartbeats 4000000 in
set_option maxRecDepth 100000 in
theorem cmpZ_any (x y : Int) (w : World) : Calls Try.prog 15 #[.int .i64 x, .int .i64 y] w fun e w' => e = .returned (.int .i64 (cmpZ x y)) ∧ w' = w := by
  obtain ⟨S, hS⟩ : ∃ S, S = cmpZ x y := ⟨_, rfl⟩
  rw [← hS]
  obtain ⟨PQ, hPQ⟩ : ∃ PQ : Ending → World → Prop, PQ = fun (e : Ending) (w' : World) => e = .returned (.int .i64 S) ∧ w' = w := ⟨_, rfl⟩
  have HPQ : Hid (PQ = fun (e : Ending) (w' : World) => e = .returned (.int .i64 S) ∧ w' = w) := hPQ
  rw [← hPQ]
  clear hPQ
  by_cases h1 : x < y
  · have HC : Hid (decide (x < y) = true ∧ True) := ⟨decide_eq_true h1, trivial⟩
    have HS : Hid (S = -1) := by rw [hS, cmpZ, if_pos h1]; exact rfl
    clear hS h1
    go_enter Try.func15, Try.ntmps15
    go_upto_region 0 with fail
    refine wp_region_lit ?_
    refine wl rfl (.int .i64 0) _ (run_asZ (.const (.int .i64 0)) rfl (.int .i64 0) rfl) ?_
    simp only [Act.put, List.setIfInBounds_toArray, List.set_cons_succ, List.set_cons_zero]
    refine wpList_nil ?_
    go_upto_region 1 with fail
    refine wp_region_lit ?_
    refine wl rfl (.int .i64 x) _ (run_mvZ (.tmp 0) rfl (.int .i64 x) rfl) ?_
    simp only [Act.put, List.setIfInBounds_toArray, List.set_cons_succ, List.set_cons_zero]
    refine wpList_callW eN31 [.tmp 7] _ rfl rfl [(.int .i64 x)] rfl ?_
    refine (isnan_int x w).mono ?_
    rintro e w ⟨rfl, rfl⟩
    refine ⟨_, rfl, ?_⟩
    simp only [Act.put, List.setIfInBounds_toArray, List.set_cons_succ, List.set_cons_zero]
    refine wl rfl (.bool false) _ (run_asZ (.tmp 8) rfl (.bool false) rfl) ?_
    simp only [Act.put, List.setIfInBounds_toArray, List.set_cons_succ, List.set_cons_zero]
    refine wpList_nil ?_
    go_upto_region 2 with fail
    refine wp_region_lit ?_
    refine wl rfl (.int .i64 y) _ (run_mvZ (.tmp 1) rfl (.int .i64 y) rfl) ?_
    simp only [Act.put, List.setIfInBounds_toArray, List.set_cons_succ, List.set_cons_zero]
    refine wpList_callW eN31 [.tmp 9] _ rfl rfl [(.int .i64 y)] rfl ?_
    refine (isnan_int y w).mono ?_
    rintro e w ⟨rfl, rfl⟩
    refine ⟨_, rfl, ?_⟩
    simp only [Act.put, List.setIfInBounds_toArray, List.set_cons_succ, List.set_cons_zero]
    refine wl rfl (.bool false) _ (run_asZ (.tmp 10) rfl (.bool false) rfl) ?_
    simp only [Act.put, List.setIfInBounds_toArray, List.set_cons_succ, List.set_cons_zero]
    refine wpList_nil ?_
    go_upto_region 3 with fail
    refine wp_region_lit ?_
    refine wl rfl (.bool false) _ (run_mvZ (.tmp 5) rfl (.bool false) rfl) ?_
    simp only [Act.put, List.setIfInBounds_toArray, List.set_cons_succ, List.set_cons_zero]
    refine wpList_nil ?_
    go_upto_region 7 with fail
    refine wp_region_lit ?_
    refine wl rfl (.bool false) _ (run_mvZ (.tmp 6) rfl (.bool false) rfl) ?_
    simp only [Act.put, List.setIfInBounds_toArray, List.set_cons_succ, List.set_cons_zero]
    refine wpList_nil ?_
    go_upto_region 9 with fail
    refine wp_region_lit ?_
    refine wl rfl (.int .i64 x) _ (run_mvZ (.tmp 0) rfl (.int .i64 x) rfl) ?_
    simp only [Act.put, List.setIfInBounds_toArray, List.set_cons_succ, List.set_cons_zero]
    refine wl rfl (.int .i64 y) _ (run_mvZ (.tmp 1) rfl (.int .i64 y) rfl) ?_
    simp only [Act.put, List.setIfInBounds_toArray, List.set_cons_succ, List.set_cons_zero]
    refine wl rfl (.bool true) _ (run_lssZ (.tmp 14) (.tmp 15) rfl x y rfl rfl true HC.out.1) ?_
    simp only [Act.put, List.setIfInBounds_toArray, List.set_cons_succ, List.set_cons_zero]
    refine wpList_nil ?_
    go_upto_region 10 with fail
    refine wp_region_lit ?_
    refine wl rfl (.int .i64 (-1)) _ (run_asZ (.const (.int .i64 (-1))) rfl (.int .i64 (-1)) rfl) ?_
    simp only [Act.put, List.setIfInBounds_toArray, List.set_cons_succ, List.set_cons_zero]
    refine wpList_nil ?_
    go_wp2_with fail
    first | (rw [HPQ.out, HS.out]; exact ⟨rfl, rfl⟩) | (go_ret; rw [HPQ.out, HS.out]; exact ⟨rfl, rfl⟩)
  by_cases h2 : y < x
  · have HC : Hid (decide (x < y) = false ∧ decide (y < x) = true) := ⟨decide_eq_false h1, decide_eq_true h2⟩
    have HS : Hid (S = 1) := by rw [hS, cmpZ, if_neg h1, if_pos h2]; exact rfl
    clear hS h1 h2
    go_enter Try.func15, Try.ntmps15
    go_upto_region 0 with fail
    refine wp_region_lit ?_
    refine wl rfl (.int .i64 0) _ (run_asZ (.const (.int .i64 0)) rfl (.int .i64 0) rfl) ?_
    simp only [Act.put, List.setIfInBounds_toArray, List.set_cons_succ, List.set_cons_zero]
    refine wpList_nil ?_
    go_upto_region 1 with fail
    refine wp_region_lit ?_
    refine wl rfl (.int .i64 x) _ (run_mvZ (.tmp 0) rfl (.int .i64 x) rfl) ?_
    simp only [Act.put, List.setIfInBounds_toArray, List.set_cons_succ, List.set_cons_zero]
    refine wpList_callW eN31 [.tmp 7] _ rfl rfl [(.int .i64 x)] rfl ?_
    refine (isnan_int x w).mono ?_
    rintro e w ⟨rfl, rfl⟩
    refine ⟨_, rfl, ?_⟩
    simp only [Act.put, List.setIfInBounds_toArray, List.set_cons_succ, List.set_cons_zero]
    refine wl rfl (.bool false) _ (run_asZ (.tmp 8) rfl (.bool false) rfl) ?_
    simp only [Act.put, List.setIfInBounds_toArray, List.set_cons_succ, List.set_cons_zero]
    refine wpList_nil ?_
    go_upto_region 2 with fail
    refine wp_region_lit ?_
    refine wl rfl (.int .i64 y) _ (run_mvZ (.tmp 1) rfl (.int .i64 y) rfl) ?_
    simp only [Act.put, List.setIfInBounds_toArray, List.set_cons_succ, List.set_cons_zero]
    refine wpList_callW eN31 [.tmp 9] _ rfl rfl [(.int .i64 y)] rfl ?_
    refine (isnan_int y w).mono ?_
    rintro e w ⟨rfl, rfl⟩
    refine ⟨_, rfl, ?_⟩
    simp only [Act.put, List.setIfInBounds_toArray, List.set_cons_succ, List.set_cons_zero]
    refine wl rfl (.bool false) _ (run_asZ (.tmp 10) rfl (.bool false) rfl) ?_
    simp only [Act.put, List.setIfInBounds_toArray, List.set_cons_succ, List.set_cons_zero]
    refine wpList_nil ?_
    go_upto_region 3 with fail
    refine wp_region_lit ?_
    refine wl rfl (.bool false) _ (run_mvZ (.tmp 5) rfl (.bool false) rfl) ?_
    simp only [Act.put, List.setIfInBounds_toArray, List.set_cons_succ, List.set_cons_zero]
    refine wpList_nil ?_
    go_upto_region 7 with fail
    refine wp_region_lit ?_
    refine wl rfl (.bool false) _ (run_mvZ (.tmp 6) rfl (.bool false) rfl) ?_
    simp only [Act.put, List.setIfInBounds_toArray, List.set_cons_succ, List.set_cons_zero]
    refine wpList_nil ?_
    go_upto_region 9 with fail
    refine wp_region_lit ?_
    refine wl rfl (.int .i64 x) _ (run_mvZ (.tmp 0) rfl (.int .i64 x) rfl) ?_
    simp only [Act.put, List.setIfInBounds_toArray, List.set_cons_succ, List.set_cons_zero]
    refine wl rfl (.int .i64 y) _ (run_mvZ (.tmp 1) rfl (.int .i64 y) rfl) ?_
    simp only [Act.put, List.setIfInBounds_toArray, List.set_cons_succ, List.set_cons_zero]
    refine wl rfl (.bool false) _ (run_lssZ (.tmp 14) (.tmp 15) rfl x y rfl rfl false HC.out.1) ?_
    simp only [Act.put, List.setIfInBounds_toArray, List.set_cons_succ, List.set_cons_zero]
    refine wpList_nil ?_
    go_upto_region 11 with fail
    refine wp_region_lit ?_
    refine wl rfl (.int .i64 x) _ (run_mvZ (.tmp 0) rfl (.int .i64 x) rfl) ?_
    simp only [Act.put, List.setIfInBounds_toArray, List.set_cons_succ, List.set_cons_zero]
    refine wl rfl (.int .i64 y) _ (run_mvZ (.tmp 1) rfl (.int .i64 y) rfl) ?_
    simp only [Act.put, List.setIfInBounds_toArray, List.set_cons_succ, List.set_cons_zero]
    refine wl rfl (.bool true) _ (run_gtrZ (.tmp 17) (.tmp 18) rfl x y rfl rfl true HC.out.2) ?_
    simp only [Act.put, List.setIfInBounds_toArray, List.set_cons_succ, List.set_cons_zero]
    refine wpList_nil ?_
    go_upto_region 12 with fail
    refine wp_region_lit ?_
    refine wl rfl (.int .i64 1) _ (run_asZ (.const (.int .i64 1)) rfl (.int .i64 1) rfl) ?_
    simp only [Act.put, List.setIfInBounds_toArray, List.set_cons_succ, List.set_cons_zero]
    refine wpList_nil ?_
    go_wp2_with fail
    first | (rw [HPQ.out, HS.out]; exact ⟨rfl, rfl⟩) | (go_ret; rw [HPQ.out, HS.out]; exact ⟨rfl, rfl⟩)
  have HC : Hid (decide (x < y) = false ∧ decide (y < x) = false) := ⟨decide_eq_false h1, decide_eq_false h2⟩
  have HS : Hid (S = 0) := by rw [hS, cmpZ, if_neg h1, if_neg h2]; exact rfl
  clear hS h1 h2
  go_enter Try.func15, Try.ntmps15
  go_upto_region 0 with fail
  refine wp_region_lit ?_
  refine wl rfl (.int .i64 0) _ (run_asZ (.const (.int .i64 0)) rfl (.int .i64 0) rfl) ?_
  simp only [Act.put, List.setIfInBounds_toArray, List.set_cons_succ, List.set_cons_zero]
  refine wpList_nil ?_
  go_upto_region 1 with fail
  refine wp_region_lit ?_
  refine wl rfl (.int .i64 x) _ (run_mvZ (.tmp 0) rfl (.int .i64 x) rfl) ?_
  simp only [Act.put, List.setIfInBounds_toArray, List.set_cons_succ, List.set_cons_zero]
  refine wpList_callW eN31 [.tmp 7] _ rfl rfl [(.int .i64 x)] rfl ?_
  refine (isnan_int x w).mono ?_
  rintro e w ⟨rfl, rfl⟩
  refine ⟨_, rfl, ?_⟩
  simp only [Act.put, List.setIfInBounds_toArray, List.set_cons_succ, List.set_cons_zero]
  refine wl rfl (.bool false) _ (run_asZ (.tmp 8) rfl (.bool false) rfl) ?_
  simp only [Act.put, List.setIfInBounds_toArray, List.set_cons_succ, List.set_cons_zero]
  refine wpList_nil ?_
  go_upto_region 2 with fail
  refine wp_region_lit ?_
  refine wl rfl (.int .i64 y) _ (run_mvZ (.tmp 1) rfl (.int .i64 y) rfl) ?_
  simp only [Act.put, List.setIfInBounds_toArray, List.set_cons_succ, List.set_cons_zero]
  refine wpList_callW eN31 [.tmp 9] _ rfl rfl [(.int .i64 y)] rfl ?_
  refine (isnan_int y w).mono ?_
  rintro e w ⟨rfl, rfl⟩
  refine ⟨_, rfl, ?_⟩
  simp only [Act.put, List.setIfInBounds_toArray, List.set_cons_succ, List.set_cons_zero]
  refine wl rfl (.bool false) _ (run_asZ (.tmp 10) rfl (.bool false) rfl) ?_
  simp only [Act.put, List.setIfInBounds_toArray, List.set_cons_succ, List.set_cons_zero]
  refine wpList_nil ?_
  go_upto_region 3 with fail
  refine wp_region_lit ?_
  refine wl rfl (.bool false) _ (run_mvZ (.tmp 5) rfl (.bool false) rfl) ?_
  simp only [Act.put, List.setIfInBounds_toArray, List.set_cons_succ, List.set_cons_zero]
  refine wpList_nil ?_
  go_upto_region 7 with fail
  refine wp_region_lit ?_
  refine wl rfl (.bool false) _ (run_mvZ (.tmp 6) rfl (.bool false) rfl) ?_
  simp only [Act.put, List.setIfInBounds_toArray, List.set_cons_succ, List.set_cons_zero]
  refine wpList_nil ?_
  go_upto_region 9 with fail
  refine wp_region_lit ?_
  refine wl rfl (.int .i64 x) _ (run_mvZ (.tmp 0) rfl (.int .i64 x) rfl) ?_
  simp only [Act.put, List.setIfInBounds_toArray, List.set_cons_succ, List.set_cons_zero]
  refine wl rfl (.int .i64 y) _ (run_mvZ (.tmp 1) rfl (.int .i64 y) rfl) ?_
  simp only [Act.put, List.setIfInBounds_toArray, List.set_cons_succ, List.set_cons_zero]
  refine wl rfl (.bool false) _ (run_lssZ (.tmp 14) (.tmp 15) rfl x y rfl rfl false HC.out.1) ?_
  simp only [Act.put, List.setIfInBounds_toArray, List.set_cons_succ, List.set_cons_zero]
  refine wpList_nil ?_
  go_upto_region 11 with fail
  refine wp_region_lit ?_
  refine wl rfl (.int .i64 x) _ (run_mvZ (.tmp 0) rfl (.int .i64 x) rfl) ?_
  simp only [Act.put, List.setIfInBounds_toArray, List.set_cons_succ, List.set_cons_zero]
  refine wl rfl (.int .i64 y) _ (run_mvZ (.tmp 1) rfl (.int .i64 y) rfl) ?_
  simp only [Act.put, List.setIfInBounds_toArray, List.set_cons_succ, List.set_cons_zero]
  refine wl rfl (.bool false) _ (run_gtrZ (.tmp 17) (.tmp 18) rfl x y rfl rfl false HC.out.2) ?_
  simp only [Act.put, List.setIfInBounds_toArray, List.set_cons_succ, List.set_cons_zero]
  refine wpList_nil ?_
  go_upto_region 13 with fail
  refine wp_region_lit ?_
  refine wl rfl (.int .i64 0) _ (run_asZ (.const (.int .i64 0)) rfl (.int .i64 0) rfl) ?_
  simp only [Act.put, List.setIfInBounds_toArray, List.set_cons_succ, List.set_cons_zero]
  refine wpList_nil ?_
  go_wp2_with fail
  first | (rw [HPQ.out, HS.out]; exact ⟨rfl, rfl⟩) | (go_ret; rw [HPQ.out, HS.out]; exact ⟨rfl, rfl⟩)
set_option maxHeartbeats 4000000 in
set_option maxRecDepth 100000 in
theorem cmpS_any (x y : ByteArray) (w : World) : Calls Try.prog 16 #[.string x, .string y] w fun e w' => e = .returned (.int .i64 (cmpS x y)) ∧ w' = w := by
  obtain ⟨S, hS⟩ : ∃ S, S = cmpS x y := ⟨_, rfl⟩
  rw [← hS]
  obtain ⟨PQ, hPQ⟩ : ∃ PQ : Ending → World → Prop, PQ = fun (e : Ending) (w' : World) => e = .returned (.int .i64 S) ∧ w' = w := ⟨_, rfl⟩
  have HPQ : Hid (PQ = fun (e : Ending) (w' : World) => e = .returned (.int .i64 S) ∧ w' = w) := hPQ
  rw [← hPQ]
  clear hPQ
  by_cases h1 : sl x y
  · have HC : Hid (decide (sl x y) = true ∧ True) := ⟨decide_eq_true h1, trivial⟩
    have HS : Hid (S = -1) := by rw [hS, cmpS, if_pos h1]; exact rfl
    clear hS h1
    go_enter Try.func16, Try.ntmps16
    go_upto_region 0 with fail
    refine wp_region_lit ?_
    refine wl rfl (.int .i64 0) _ (run_asZ (.const (.int .i64 0)) rfl (.int .i64 0) rfl) ?_
    simp only [Act.put, List.setIfInBounds_toArray, List.set_cons_succ, List.set_cons_zero]
    refine wpList_nil ?_
    go_upto_region 1 with fail
    refine wp_region_lit ?_
    refine wl rfl (.string x) _ (run_mvZ (.tmp 0) rfl (.string x) rfl) ?_
    simp only [Act.put, List.setIfInBounds_toArray, List.set_cons_succ, List.set_cons_zero]
    refine wpList_callW eN32 [.tmp 7] _ rfl rfl [(.string x)] rfl ?_
    refine (isnan_str x w).mono ?_
    rintro e w ⟨rfl, rfl⟩
    refine ⟨_, rfl, ?_⟩
    simp only [Act.put, List.setIfInBounds_toArray, List.set_cons_succ, List.set_cons_zero]
    refine wl rfl (.bool false) _ (run_asZ (.tmp 8) rfl (.bool false) rfl) ?_
    simp only [Act.put, List.setIfInBounds_toArray, List.set_cons_succ, List.set_cons_zero]
    refine wpList_nil ?_
    go_upto_region 2 with fail
    refine wp_region_lit ?_
    refine wl rfl (.string y) _ (run_mvZ (.tmp 1) rfl (.string y) rfl) ?_
    simp only [Act.put, List.setIfInBounds_toArray, List.set_cons_succ, List.set_cons_zero]
    refine wpList_callW eN32 [.tmp 9] _ rfl rfl [(.string y)] rfl ?_
    refine (isnan_str y w).mono ?_
    rintro e w ⟨rfl, rfl⟩
    refine ⟨_, rfl, ?_⟩
    simp only [Act.put, List.setIfInBounds_toArray, List.set_cons_succ, List.set_cons_zero]
    refine wl rfl (.bool false) _ (run_asZ (.tmp 10) rfl (.bool false) rfl) ?_
    simp only [Act.put, List.setIfInBounds_toArray, List.set_cons_succ, List.set_cons_zero]
    refine wpList_nil ?_
    go_upto_region 3 with fail
    refine wp_region_lit ?_
    refine wl rfl (.bool false) _ (run_mvZ (.tmp 5) rfl (.bool false) rfl) ?_
    simp only [Act.put, List.setIfInBounds_toArray, List.set_cons_succ, List.set_cons_zero]
    refine wpList_nil ?_
    go_upto_region 7 with fail
    refine wp_region_lit ?_
    refine wl rfl (.bool false) _ (run_mvZ (.tmp 6) rfl (.bool false) rfl) ?_
    simp only [Act.put, List.setIfInBounds_toArray, List.set_cons_succ, List.set_cons_zero]
    refine wpList_nil ?_
    go_upto_region 9 with fail
    refine wp_region_lit ?_
    refine wl rfl (.string x) _ (run_mvZ (.tmp 0) rfl (.string x) rfl) ?_
    simp only [Act.put, List.setIfInBounds_toArray, List.set_cons_succ, List.set_cons_zero]
    refine wl rfl (.string y) _ (run_mvZ (.tmp 1) rfl (.string y) rfl) ?_
    simp only [Act.put, List.setIfInBounds_toArray, List.set_cons_succ, List.set_cons_zero]
    refine wl rfl (.bool true) _ (run_lssS (.tmp 14) (.tmp 15) rfl x y rfl rfl true HC.out.1) ?_
    simp only [Act.put, List.setIfInBounds_toArray, List.set_cons_succ, List.set_cons_zero]
    refine wpList_nil ?_
    go_upto_region 10 with fail
    refine wp_region_lit ?_
    refine wl rfl (.int .i64 (-1)) _ (run_asZ (.const (.int .i64 (-1))) rfl (.int .i64 (-1)) rfl) ?_
    simp only [Act.put, List.setIfInBounds_toArray, List.set_cons_succ, List.set_cons_zero]
    refine wpList_nil ?_
    go_wp2_with fail
    first | (rw [HPQ.out, HS.out]; exact ⟨rfl, rfl⟩) | (go_ret; rw [HPQ.out, HS.out]; exact ⟨rfl, rfl⟩)
  by_cases h2 : sl y x
  · have HC : Hid (decide (sl x y) = false ∧ decide (sl y x) = true) := ⟨decide_eq_false h1, decide_eq_true h2⟩
    have HS : Hid (S = 1) := by rw [hS, cmpS, if_neg h1, if_pos h2]; exact rfl
    clear hS h1 h2
    go_enter Try.func16, Try.ntmps16
    go_upto_region 0 with fail
    refine wp_region_lit ?_
    refine wl rfl (.int .i64 0) _ (run_asZ (.const (.int .i64 0)) rfl (.int .i64 0) rfl) ?_
    simp only [Act.put, List.setIfInBounds_toArray, List.set_cons_succ, List.set_cons_zero]
    refine wpList_nil ?_
    go_upto_region 1 with fail
    refine wp_region_lit ?_
    refine wl rfl (.string x) _ (run_mvZ (.tmp 0) rfl (.string x) rfl) ?_
    simp only [Act.put, List.setIfInBounds_toArray, List.set_cons_succ, List.set_cons_zero]
    refine wpList_callW eN32 [.tmp 7] _ rfl rfl [(.string x)] rfl ?_
    refine (isnan_str x w).mono ?_
    rintro e w ⟨rfl, rfl⟩
    refine ⟨_, rfl, ?_⟩
    simp only [Act.put, List.setIfInBounds_toArray, List.set_cons_succ, List.set_cons_zero]
    refine wl rfl (.bool false) _ (run_asZ (.tmp 8) rfl (.bool false) rfl) ?_
    simp only [Act.put, List.setIfInBounds_toArray, List.set_cons_succ, List.set_cons_zero]
    refine wpList_nil ?_
    go_upto_region 2 with fail
    refine wp_region_lit ?_
    refine wl rfl (.string y) _ (run_mvZ (.tmp 1) rfl (.string y) rfl) ?_
    simp only [Act.put, List.setIfInBounds_toArray, List.set_cons_succ, List.set_cons_zero]
    refine wpList_callW eN32 [.tmp 9] _ rfl rfl [(.string y)] rfl ?_
    refine (isnan_str y w).mono ?_
    rintro e w ⟨rfl, rfl⟩
    refine ⟨_, rfl, ?_⟩
    simp only [Act.put, List.setIfInBounds_toArray, List.set_cons_succ, List.set_cons_zero]
    refine wl rfl (.bool false) _ (run_asZ (.tmp 10) rfl (.bool false) rfl) ?_
    simp only [Act.put, List.setIfInBounds_toArray, List.set_cons_succ, List.set_cons_zero]
    refine wpList_nil ?_
    go_upto_region 3 with fail
    refine wp_region_lit ?_
    refine wl rfl (.bool false) _ (run_mvZ (.tmp 5) rfl (.bool false) rfl) ?_
    simp only [Act.put, List.setIfInBounds_toArray, List.set_cons_succ, List.set_cons_zero]
    refine wpList_nil ?_
    go_upto_region 7 with fail
    refine wp_region_lit ?_
    refine wl rfl (.bool false) _ (run_mvZ (.tmp 6) rfl (.bool false) rfl) ?_
    simp only [Act.put, List.setIfInBounds_toArray, List.set_cons_succ, List.set_cons_zero]
    refine wpList_nil ?_
    go_upto_region 9 with fail
    refine wp_region_lit ?_
    refine wl rfl (.string x) _ (run_mvZ (.tmp 0) rfl (.string x) rfl) ?_
    simp only [Act.put, List.setIfInBounds_toArray, List.set_cons_succ, List.set_cons_zero]
    refine wl rfl (.string y) _ (run_mvZ (.tmp 1) rfl (.string y) rfl) ?_
    simp only [Act.put, List.setIfInBounds_toArray, List.set_cons_succ, List.set_cons_zero]
    refine wl rfl (.bool false) _ (run_lssS (.tmp 14) (.tmp 15) rfl x y rfl rfl false HC.out.1) ?_
    simp only [Act.put, List.setIfInBounds_toArray, List.set_cons_succ, List.set_cons_zero]
    refine wpList_nil ?_
    go_upto_region 11 with fail
    refine wp_region_lit ?_
    refine wl rfl (.string x) _ (run_mvZ (.tmp 0) rfl (.string x) rfl) ?_
    simp only [Act.put, List.setIfInBounds_toArray, List.set_cons_succ, List.set_cons_zero]
    refine wl rfl (.string y) _ (run_mvZ (.tmp 1) rfl (.string y) rfl) ?_
    simp only [Act.put, List.setIfInBounds_toArray, List.set_cons_succ, List.set_cons_zero]
    refine wl rfl (.bool true) _ (run_gtrS (.tmp 17) (.tmp 18) rfl x y rfl rfl true HC.out.2) ?_
    simp only [Act.put, List.setIfInBounds_toArray, List.set_cons_succ, List.set_cons_zero]
    refine wpList_nil ?_
    go_upto_region 12 with fail
    refine wp_region_lit ?_
    refine wl rfl (.int .i64 1) _ (run_asZ (.const (.int .i64 1)) rfl (.int .i64 1) rfl) ?_
    simp only [Act.put, List.setIfInBounds_toArray, List.set_cons_succ, List.set_cons_zero]
    refine wpList_nil ?_
    go_wp2_with fail
    first | (rw [HPQ.out, HS.out]; exact ⟨rfl, rfl⟩) | (go_ret; rw [HPQ.out, HS.out]; exact ⟨rfl, rfl⟩)
  have HC : Hid (decide (sl x y) = false ∧ decide (sl y x) = false) := ⟨decide_eq_false h1, decide_eq_false h2⟩
  have HS : Hid (S = 0) := by rw [hS, cmpS, if_neg h1, if_neg h2]; exact rfl
  clear hS h1 h2
  go_enter Try.func16, Try.ntmps16
  go_upto_region 0 with fail
  refine wp_region_lit ?_
  refine wl rfl (.int .i64 0) _ (run_asZ (.const (.int .i64 0)) rfl (.int .i64 0) rfl) ?_
  simp only [Act.put, List.setIfInBounds_toArray, List.set_cons_succ, List.set_cons_zero]
  refine wpList_nil ?_
  go_upto_region 1 with fail
  refine wp_region_lit ?_
  refine wl rfl (.string x) _ (run_mvZ (.tmp 0) rfl (.string x) rfl) ?_
  simp only [Act.put, List.setIfInBounds_toArray, List.set_cons_succ, List.set_cons_zero]
  refine wpList_callW eN32 [.tmp 7] _ rfl rfl [(.string x)] rfl ?_
  refine (isnan_str x w).mono ?_
  rintro e w ⟨rfl, rfl⟩
  refine ⟨_, rfl, ?_⟩
  simp only [Act.put, List.setIfInBounds_toArray, List.set_cons_succ, List.set_cons_zero]
  refine wl rfl (.bool false) _ (run_asZ (.tmp 8) rfl (.bool false) rfl) ?_
  simp only [Act.put, List.setIfInBounds_toArray, List.set_cons_succ, List.set_cons_zero]
  refine wpList_nil ?_
  go_upto_region 2 with fail
  refine wp_region_lit ?_
  refine wl rfl (.string y) _ (run_mvZ (.tmp 1) rfl (.string y) rfl) ?_
  simp only [Act.put, List.setIfInBounds_toArray, List.set_cons_succ, List.set_cons_zero]
  refine wpList_callW eN32 [.tmp 9] _ rfl rfl [(.string y)] rfl ?_
  refine (isnan_str y w).mono ?_
  rintro e w ⟨rfl, rfl⟩
  refine ⟨_, rfl, ?_⟩
  simp only [Act.put, List.setIfInBounds_toArray, List.set_cons_succ, List.set_cons_zero]
  refine wl rfl (.bool false) _ (run_asZ (.tmp 10) rfl (.bool false) rfl) ?_
  simp only [Act.put, List.setIfInBounds_toArray, List.set_cons_succ, List.set_cons_zero]
  refine wpList_nil ?_
  go_upto_region 3 with fail
  refine wp_region_lit ?_
  refine wl rfl (.bool false) _ (run_mvZ (.tmp 5) rfl (.bool false) rfl) ?_
  simp only [Act.put, List.setIfInBounds_toArray, List.set_cons_succ, List.set_cons_zero]
  refine wpList_nil ?_
  go_upto_region 7 with fail
  refine wp_region_lit ?_
  refine wl rfl (.bool false) _ (run_mvZ (.tmp 6) rfl (.bool false) rfl) ?_
  simp only [Act.put, List.setIfInBounds_toArray, List.set_cons_succ, List.set_cons_zero]
  refine wpList_nil ?_
  go_upto_region 9 with fail
  refine wp_region_lit ?_
  refine wl rfl (.string x) _ (run_mvZ (.tmp 0) rfl (.string x) rfl) ?_
  simp only [Act.put, List.setIfInBounds_toArray, List.set_cons_succ, List.set_cons_zero]
  refine wl rfl (.string y) _ (run_mvZ (.tmp 1) rfl (.string y) rfl) ?_
  simp only [Act.put, List.setIfInBounds_toArray, List.set_cons_succ, List.set_cons_zero]
  refine wl rfl (.bool false) _ (run_lssS (.tmp 14) (.tmp 15) rfl x y rfl rfl false HC.out.1) ?_
  simp only [Act.put, List.setIfInBounds_toArray, List.set_cons_succ, List.set_cons_zero]
  refine wpList_nil ?_
  go_upto_region 11 with fail
  refine wp_region_lit ?_
  refine wl rfl (.string x) _ (run_mvZ (.tmp 0) rfl (.string x) rfl) ?_
  simp only [Act.put, List.setIfInBounds_toArray, List.set_cons_succ, List.set_cons_zero]
  refine wl rfl (.string y) _ (run_mvZ (.tmp 1) rfl (.string y) rfl) ?_
  simp only [Act.put, List.setIfInBounds_toArray, List.set_cons_succ, List.set_cons_zero]
  refine wl rfl (.bool false) _ (run_gtrS (.tmp 17) (.tmp 18) rfl x y rfl rfl false HC.out.2) ?_
  simp only [Act.put, List.setIfInBounds_toArray, List.set_cons_succ, List.set_cons_zero]
  refine wpList_nil ?_
  go_upto_region 13 with fail
  refine wp_region_lit ?_
  refine wl rfl (.int .i64 0) _ (run_asZ (.const (.int .i64 0)) rfl (.int .i64 0) rfl) ?_
  simp only [Act.put, List.setIfInBounds_toArray, List.set_cons_succ, List.set_cons_zero]
  refine wpList_nil ?_
  go_wp2_with fail
  first | (rw [HPQ.out, HS.out]; exact ⟨rfl, rfl⟩) | (go_ret; rw [HPQ.out, HS.out]; exact ⟨rfl, rfl⟩)
set_option maxHeartbeats 4000000 in
set_option maxRecDepth 100000 in
theorem closure_any (l : List Rv) (vl : Value) (q : Nat) (w : World) (hb : w.cell? ⟨q, 0, none⟩ = some vl) (hin : RsIn w vl l) (i j : Nat) (hi : i < l.length) (hj : j < l.length) : Calls Try.prog 14 #[.int .i64 (i : Nat), .int .i64 (j : Nat), ptr q] w fun e w' => e = .returned (.int .i64 (cmpI (l.map (·.r)) i j)) ∧ ∃ n, w' = w.drewN n := by
  obtain ⟨x, hx⟩ : ∃ x, l[i]? = some x := ⟨_, List.getElem?_eq_getElem hi⟩
  obtain ⟨y, hy⟩ : ∃ x, l[j]? = some x := ⟨_, List.getElem?_eq_getElem hj⟩
  obtain ⟨S, hS⟩ : ∃ S, S = cmpI (l.map (·.r)) i j := ⟨_, rfl⟩
  rw [← hS]
  have hS2 : S = if cmpZ x.r.expiry y.r.expiry ≠ 0 then cmpZ x.r.expiry y.r.expiry else if cmpS x.r.id y.r.id ≠ 0 then cmpS x.r.id y.r.id else cmpZ i j := by
    have e1 : (l.map (·.r)).getD i rz = x.r := by rw [List.getD_eq_getElem?_getD, List.getElem?_map, hx]; rfl
    have e2 : (l.map (·.r)).getD j rz = y.r := by rw [List.getD_eq_getElem?_getD, List.getElem?_map, hy]; rfl
    rw [hS, cmpI, e1, e2]
  clear hS
  obtain ⟨b1, o1, hx1, hx2, _⟩ := ix_rec hin i x hx
  obtain ⟨b2, o2, hy1, hy2, _⟩ := ix_rec hin j y hy
  have kx := hin.ok x (List.mem_of_getElem? hx)
  have ky := hin.ok y (List.mem_of_getElem? hy)
  have HB : Hid (∀ n, (w.drewN n).cell? ⟨q, 0, none⟩ = some vl) := fun _ => hb
  have HX : Hid ((∀ w', (Instr.indexAt 40 vl (.int .i64 (i : Nat))).run Try.prog w' = .ok (.pointer (some ⟨b1, o1, none⟩)) w') ∧ (∀ n, (w.drewN n).cell? ⟨b1, o1 + 35, none⟩ = some (.int .i64 x.r.expiry)) ∧ ∀ n, (w.drewN n).cell? ⟨b1, o1 + 0, none⟩ = some (.string x.r.id)) := ⟨hx1, fun _ => hx2 35 _ (rcB _ kx.root 1), fun _ => hx2 0 _ (rc0 _ _)⟩
  have HY : Hid ((∀ w', (Instr.indexAt 40 vl (.int .i64 (j : Nat))).run Try.prog w' = .ok (.pointer (some ⟨b2, o2, none⟩)) w') ∧ (∀ n, (w.drewN n).cell? ⟨b2, o2 + 35, none⟩ = some (.int .i64 y.r.expiry)) ∧ ∀ n, (w.drewN n).cell? ⟨b2, o2 + 0, none⟩ = some (.string y.r.id)) := ⟨hy1, fun _ => hy2 35 _ (rcB _ ky.root 1), fun _ => hy2 0 _ (rc0 _ _)⟩
  clear hx1 hx2 hy1 hy2 kx ky hx hy hin hb hi hj
  obtain ⟨ex, hex⟩ : ∃ z, z = x.r.expiry := ⟨_, rfl⟩
  obtain ⟨ey, hey⟩ : ∃ z, z = y.r.expiry := ⟨_, rfl⟩
  obtain ⟨sx, hsx⟩ : ∃ z, z = x.r.id := ⟨_, rfl⟩
  obtain ⟨sy, hsy⟩ : ∃ z, z = y.r.id := ⟨_, rfl⟩
  rw [← hex, ← hsx] at HX
  rw [← hey, ← hsy] at HY
  rw [← hex, ← hey, ← hsx, ← hsy] at hS2
  clear hex hey hsx hsy
  obtain ⟨c1, hc1⟩ : ∃ z, z = cmpZ ex ey := ⟨_, rfl⟩
  obtain ⟨c2, hc2⟩ : ∃ z, z = cmpS sx sy := ⟨_, rfl⟩
  obtain ⟨c3, hc3⟩ : ∃ z, z = cmpZ i j := ⟨_, rfl⟩
  rw [← hc1, ← hc2, ← hc3] at hS2
  have H1 : Hid (∀ U, Calls Try.prog 15 #[.int .i64 ex, .int .i64 ey] U fun e w' => e = .returned (.int .i64 c1) ∧ w' = U) := fun U => hc1 ▸ cmpZ_any ex ey U
  have H2 : Hid (∀ U, Calls Try.prog 16 #[.string sx, .string sy] U fun e w' => e = .returned (.int .i64 c2) ∧ w' = U) := fun U => hc2 ▸ cmpS_any sx sy U
  have H3 : Hid (∀ U, Calls Try.prog 15 #[.int .i64 (i : Nat), .int .i64 (j : Nat)] U fun e w' => e = .returned (.int .i64 c3) ∧ w' = U) := fun U => hc3 ▸ cmpZ_any i j U
  clear hc1 hc2 hc3
  obtain ⟨PQ, hPQ⟩ : ∃ PQ : Ending → World → Prop, PQ = fun (e : Ending) (w' : World) => e = .returned (.int .i64 S) ∧ ∃ n, w' = w.drewN n := ⟨_, rfl⟩
  have HPQ : Hid (PQ = fun (e : Ending) (w' : World) => e = .returned (.int .i64 S) ∧ ∃ n, w' = w.drewN n) := hPQ
  rw [← hPQ]
  clear hPQ
  by_cases h1 : c1 = 0
  · by_cases h2 : c2 = 0
    · have HD : Hid ((!decide (c1 = 0)) = false ∧ (!decide (c2 = 0)) = false) := ⟨by simp [h1], by simp [h2]⟩
      have HS : Hid (S = c3) := by rw [hS2, if_neg (by simp [h1]), if_neg (by simp [h2])]; exact rfl
      clear hS2 h1 h2
      go_enter Try.func14, Try.ntmps14
      go_upto_region 0 with fail
      refine wp_region_lit ?_
      refine wl rfl (.int .i64 0) _ (run_asZ (.const (.int .i64 0)) rfl (.int .i64 0) rfl) ?_
      simp only [Act.put, List.setIfInBounds_toArray, List.set_cons_succ, List.set_cons_zero]
      refine wpList_nil ?_
      go_upto_region 1 with fail
      refine wp_region_held (S := fun X => X = w.drewN 1) (by kernel_rfl) ?_
      show wpAnyH _ _ _ _ _ 12 (Array.replicate 12 false) _ _
      obtain ⟨X, hX⟩ : ∃ X : World, X = { w with drawn := w.drawn + 1 } := ⟨_, rfl⟩
      rw [← hX]
      have HU : Hid (X = w.drewN 1) := hX
      clear hX
      refine takeH (i := 0) (some 8) rfl rfl (by kernel_rfl) (by kernel_rfl) (by kernel_rfl) (fun _ _ _ h => h) (gRun rfl vl fun _ h => run_load1 o37 (.tmp 2) rfl q (0) rfl vl (h ▸ HB.out 1)) HU.out ?_
      simp only [Act.put, List.setIfInBounds_toArray, List.set_cons_succ, List.set_cons_zero]
      refine takeH (i := 1) (some 9) rfl rfl (by kernel_rfl) (by kernel_rfl) (by kernel_rfl) (fun _ _ _ h => h) (gRun rfl (.int .i64 (i : Nat)) fun _ h => run_mvZ (.tmp 0) rfl (.int .i64 (i : Nat)) rfl) HU.out ?_
      simp only [Act.put, List.setIfInBounds_toArray, List.set_cons_succ, List.set_cons_zero]
      refine takeH (i := 2) (some 10) rfl rfl (by kernel_rfl) (by kernel_rfl) (by kernel_rfl) (fun _ _ _ h => h) (gRun rfl (.pointer (some ⟨b1, o1, none⟩)) fun _ h => run_idx (.tmp 8) (.tmp 9) rfl vl _ _ rfl rfl HX.out.1) HU.out ?_
      simp only [Act.put, List.setIfInBounds_toArray, List.set_cons_succ, List.set_cons_zero]
      refine takeH (i := 3) (some 11) rfl rfl (by kernel_rfl) (by kernel_rfl) (by kernel_rfl) (fun _ _ _ h => h) (gRun rfl (.pointer (some ⟨b1, o1 + 35, none⟩)) fun _ h => run_fieldOp' f26_4 (.tmp 10) rfl b1 (o1) rfl) HU.out ?_
      simp only [Act.put, List.setIfInBounds_toArray, List.set_cons_succ, List.set_cons_zero]
      refine takeH (i := 4) (some 12) rfl rfl (by kernel_rfl) (by kernel_rfl) (by kernel_rfl) (fun _ _ _ h => h) (gRun rfl (.int .i64 ex) fun _ h => run_load1 o3 (.tmp 11) rfl b1 (o1 + 35) rfl (.int .i64 ex) (h ▸ HX.out.2.1 1)) HU.out ?_
      simp only [Act.put, List.setIfInBounds_toArray, List.set_cons_succ, List.set_cons_zero]
      refine takeH (i := 5) (some 13) rfl rfl (by kernel_rfl) (by kernel_rfl) (by kernel_rfl) (fun _ _ _ h => h) (gRun rfl vl fun _ h => run_load1 o37 (.tmp 2) rfl q (0) rfl vl (h ▸ HB.out 1)) HU.out ?_
      simp only [Act.put, List.setIfInBounds_toArray, List.set_cons_succ, List.set_cons_zero]
      refine takeH (i := 6) (some 14) rfl rfl (by kernel_rfl) (by kernel_rfl) (by kernel_rfl) (fun _ _ _ h => h) (gRun rfl (.int .i64 (j : Nat)) fun _ h => run_mvZ (.tmp 1) rfl (.int .i64 (j : Nat)) rfl) HU.out ?_
      simp only [Act.put, List.setIfInBounds_toArray, List.set_cons_succ, List.set_cons_zero]
      refine takeH (i := 7) (some 15) rfl rfl (by kernel_rfl) (by kernel_rfl) (by kernel_rfl) (fun _ _ _ h => h) (gRun rfl (.pointer (some ⟨b2, o2, none⟩)) fun _ h => run_idx (.tmp 13) (.tmp 14) rfl vl _ _ rfl rfl HY.out.1) HU.out ?_
      simp only [Act.put, List.setIfInBounds_toArray, List.set_cons_succ, List.set_cons_zero]
      refine takeH (i := 8) (some 16) rfl rfl (by kernel_rfl) (by kernel_rfl) (by kernel_rfl) (fun _ _ _ h => h) (gRun rfl (.pointer (some ⟨b2, o2 + 35, none⟩)) fun _ h => run_fieldOp' f26_4 (.tmp 15) rfl b2 (o2) rfl) HU.out ?_
      simp only [Act.put, List.setIfInBounds_toArray, List.set_cons_succ, List.set_cons_zero]
      refine takeH (i := 9) (some 17) rfl rfl (by kernel_rfl) (by kernel_rfl) (by kernel_rfl) (fun _ _ _ h => h) (gRun rfl (.int .i64 ey) fun _ h => run_load1 o3 (.tmp 16) rfl b2 (o2 + 35) rfl (.int .i64 ey) (h ▸ HY.out.2.1 1)) HU.out ?_
      simp only [Act.put, List.setIfInBounds_toArray, List.set_cons_succ, List.set_cons_zero]
      refine oneH (i := 10) (by kernel_rfl) ?_
      refine opCallG (some 18) rfl rfl rfl 15 _ (run_call eN27 [.tmp 12, .tmp 17] _ rfl [(.int .i64 ex), (.int .i64 ey)] rfl) ?_
      refine (H1.out _).mono ?_
      rintro e X ⟨rfl, rfl⟩
      refine ⟨_, rfl, ?_⟩
      refine ⟨HU.out, ?_⟩
      simp only [Act.put, List.setIfInBounds_toArray, List.set_cons_succ, List.set_cons_zero]
      refine takeH (i := 11) (some 6) rfl rfl (by kernel_rfl) (by kernel_rfl) (by kernel_rfl) (fun _ _ _ h => h) (gRun rfl (.int .i64 c1) fun _ h => run_asZ (.tmp 18) rfl (.int .i64 c1) rfl) HU.out ?_
      simp only [Act.put, List.setIfInBounds_toArray, List.set_cons_succ, List.set_cons_zero]
      refine wpAnyH_done (by kernel_rfl) ?_ _
      go_upto_region 2 with fail
      refine wp_region_lit ?_
      refine wl rfl (.int .i64 c1) _ (run_mvZ (.tmp 6) rfl (.int .i64 c1) rfl) ?_
      simp only [Act.put, List.setIfInBounds_toArray, List.set_cons_succ, List.set_cons_zero]
      refine wl rfl (.bool false) _ (run_neZ (.tmp 19) (.const (.int .i64 0)) rfl c1 0 rfl rfl false HD.out.1) ?_
      simp only [Act.put, List.setIfInBounds_toArray, List.set_cons_succ, List.set_cons_zero]
      refine wpList_nil ?_
      go_upto_region 4 with fail
      refine wp_region_held (S := fun X => X = w.drewN 2) (by kernel_rfl) ?_
      show wpAnyH _ _ _ _ _ 12 (Array.replicate 12 false) _ _
      obtain ⟨Y, hX⟩ : ∃ Y : World, Y = { X with drawn := X.drawn + 1 } := ⟨_, rfl⟩
      rw [← hX]
      have HV : Hid (Y = w.drewN 2) := by rw [hX, HU.out]; exact rfl
      clear hX
      refine takeH (i := 0) (some 22) rfl rfl (by kernel_rfl) (by kernel_rfl) (by kernel_rfl) (fun _ _ _ h => h) (gRun rfl vl fun _ h => run_load1 o37 (.tmp 2) rfl q (0) rfl vl (h ▸ HB.out 2)) HV.out ?_
      simp only [Act.put, List.setIfInBounds_toArray, List.set_cons_succ, List.set_cons_zero]
      refine takeH (i := 1) (some 23) rfl rfl (by kernel_rfl) (by kernel_rfl) (by kernel_rfl) (fun _ _ _ h => h) (gRun rfl (.int .i64 (i : Nat)) fun _ h => run_mvZ (.tmp 0) rfl (.int .i64 (i : Nat)) rfl) HV.out ?_
      simp only [Act.put, List.setIfInBounds_toArray, List.set_cons_succ, List.set_cons_zero]
      refine takeH (i := 2) (some 24) rfl rfl (by kernel_rfl) (by kernel_rfl) (by kernel_rfl) (fun _ _ _ h => h) (gRun rfl (.pointer (some ⟨b1, o1, none⟩)) fun _ h => run_idx (.tmp 22) (.tmp 23) rfl vl _ _ rfl rfl HX.out.1) HV.out ?_
      simp only [Act.put, List.setIfInBounds_toArray, List.set_cons_succ, List.set_cons_zero]
      refine takeH (i := 3) (some 25) rfl rfl (by kernel_rfl) (by kernel_rfl) (by kernel_rfl) (fun _ _ _ h => h) (gRun rfl (.pointer (some ⟨b1, o1 + 0, none⟩)) fun _ h => run_fieldOp' f26_0 (.tmp 24) rfl b1 (o1) rfl) HV.out ?_
      simp only [Act.put, List.setIfInBounds_toArray, List.set_cons_succ, List.set_cons_zero]
      refine takeH (i := 4) (some 26) rfl rfl (by kernel_rfl) (by kernel_rfl) (by kernel_rfl) (fun _ _ _ h => h) (gRun rfl (.string sx) fun _ h => run_load1 o9 (.tmp 25) rfl b1 (o1 + 0) rfl (.string sx) (h ▸ HX.out.2.2 2)) HV.out ?_
      simp only [Act.put, List.setIfInBounds_toArray, List.set_cons_succ, List.set_cons_zero]
      refine takeH (i := 5) (some 27) rfl rfl (by kernel_rfl) (by kernel_rfl) (by kernel_rfl) (fun _ _ _ h => h) (gRun rfl vl fun _ h => run_load1 o37 (.tmp 2) rfl q (0) rfl vl (h ▸ HB.out 2)) HV.out ?_
      simp only [Act.put, List.setIfInBounds_toArray, List.set_cons_succ, List.set_cons_zero]
      refine takeH (i := 6) (some 28) rfl rfl (by kernel_rfl) (by kernel_rfl) (by kernel_rfl) (fun _ _ _ h => h) (gRun rfl (.int .i64 (j : Nat)) fun _ h => run_mvZ (.tmp 1) rfl (.int .i64 (j : Nat)) rfl) HV.out ?_
      simp only [Act.put, List.setIfInBounds_toArray, List.set_cons_succ, List.set_cons_zero]
      refine takeH (i := 7) (some 29) rfl rfl (by kernel_rfl) (by kernel_rfl) (by kernel_rfl) (fun _ _ _ h => h) (gRun rfl (.pointer (some ⟨b2, o2, none⟩)) fun _ h => run_idx (.tmp 27) (.tmp 28) rfl vl _ _ rfl rfl HY.out.1) HV.out ?_
      simp only [Act.put, List.setIfInBounds_toArray, List.set_cons_succ, List.set_cons_zero]
      refine takeH (i := 8) (some 30) rfl rfl (by kernel_rfl) (by kernel_rfl) (by kernel_rfl) (fun _ _ _ h => h) (gRun rfl (.pointer (some ⟨b2, o2 + 0, none⟩)) fun _ h => run_fieldOp' f26_0 (.tmp 29) rfl b2 (o2) rfl) HV.out ?_
      simp only [Act.put, List.setIfInBounds_toArray, List.set_cons_succ, List.set_cons_zero]
      refine takeH (i := 9) (some 31) rfl rfl (by kernel_rfl) (by kernel_rfl) (by kernel_rfl) (fun _ _ _ h => h) (gRun rfl (.string sy) fun _ h => run_load1 o9 (.tmp 30) rfl b2 (o2 + 0) rfl (.string sy) (h ▸ HY.out.2.2 2)) HV.out ?_
      simp only [Act.put, List.setIfInBounds_toArray, List.set_cons_succ, List.set_cons_zero]
      refine oneH (i := 10) (by kernel_rfl) ?_
      refine opCallG (some 32) rfl rfl rfl 16 _ (run_call eN28 [.tmp 26, .tmp 31] _ rfl [(.string sx), (.string sy)] rfl) ?_
      refine (H2.out _).mono ?_
      rintro e Y ⟨rfl, rfl⟩
      refine ⟨_, rfl, ?_⟩
      refine ⟨HV.out, ?_⟩
      simp only [Act.put, List.setIfInBounds_toArray, List.set_cons_succ, List.set_cons_zero]
      refine takeH (i := 11) (some 7) rfl rfl (by kernel_rfl) (by kernel_rfl) (by kernel_rfl) (fun _ _ _ h => h) (gRun rfl (.int .i64 c2) fun _ h => run_asZ (.tmp 32) rfl (.int .i64 c2) rfl) HV.out ?_
      simp only [Act.put, List.setIfInBounds_toArray, List.set_cons_succ, List.set_cons_zero]
      refine wpAnyH_done (by kernel_rfl) ?_ _
      go_upto_region 5 with fail
      refine wp_region_lit ?_
      refine wl rfl (.int .i64 c2) _ (run_mvZ (.tmp 7) rfl (.int .i64 c2) rfl) ?_
      simp only [Act.put, List.setIfInBounds_toArray, List.set_cons_succ, List.set_cons_zero]
      refine wl rfl (.bool false) _ (run_neZ (.tmp 33) (.const (.int .i64 0)) rfl c2 0 rfl rfl false HD.out.2) ?_
      simp only [Act.put, List.setIfInBounds_toArray, List.set_cons_succ, List.set_cons_zero]
      refine wpList_nil ?_
      go_upto_region 7 with fail
      refine wp_region_lit ?_
      refine wl rfl (.int .i64 (i : Nat)) _ (run_mvZ (.tmp 0) rfl (.int .i64 (i : Nat)) rfl) ?_
      simp only [Act.put, List.setIfInBounds_toArray, List.set_cons_succ, List.set_cons_zero]
      refine wl rfl (.int .i64 (j : Nat)) _ (run_mvZ (.tmp 1) rfl (.int .i64 (j : Nat)) rfl) ?_
      simp only [Act.put, List.setIfInBounds_toArray, List.set_cons_succ, List.set_cons_zero]
      refine wpList_callW eN27 [.tmp 36, .tmp 37] _ rfl rfl [(.int .i64 (i : Nat)), (.int .i64 (j : Nat))] rfl ?_
      refine (H3.out _).mono ?_
      rintro e Y ⟨rfl, rfl⟩
      refine ⟨_, rfl, ?_⟩
      simp only [Act.put, List.setIfInBounds_toArray, List.set_cons_succ, List.set_cons_zero]
      refine wl rfl (.int .i64 c3) _ (run_asZ (.tmp 38) rfl (.int .i64 c3) rfl) ?_
      simp only [Act.put, List.setIfInBounds_toArray, List.set_cons_succ, List.set_cons_zero]
      refine wpList_nil ?_
      go_wp2_with fail
      first | (rw [HPQ.out, HS.out]; exact ⟨rfl, 2, HV.out⟩) | (go_ret; rw [HPQ.out, HS.out]; exact ⟨rfl, 2, HV.out⟩)
    · have HD : Hid ((!decide (c1 = 0)) = false ∧ (!decide (c2 = 0)) = true) := ⟨by simp [h1], by simp [h2]⟩
      have HS : Hid (S = c2) := by rw [hS2, if_neg (by simp [h1]), if_pos h2]; exact rfl
      clear hS2 h1 h2
      go_enter Try.func14, Try.ntmps14
      go_upto_region 0 with fail
      refine wp_region_lit ?_
      refine wl rfl (.int .i64 0) _ (run_asZ (.const (.int .i64 0)) rfl (.int .i64 0) rfl) ?_
      simp only [Act.put, List.setIfInBounds_toArray, List.set_cons_succ, List.set_cons_zero]
      refine wpList_nil ?_
      go_upto_region 1 with fail
      refine wp_region_held (S := fun X => X = w.drewN 1) (by kernel_rfl) ?_
      show wpAnyH _ _ _ _ _ 12 (Array.replicate 12 false) _ _
      obtain ⟨X, hX⟩ : ∃ X : World, X = { w with drawn := w.drawn + 1 } := ⟨_, rfl⟩
      rw [← hX]
      have HU : Hid (X = w.drewN 1) := hX
      clear hX
      refine takeH (i := 0) (some 8) rfl rfl (by kernel_rfl) (by kernel_rfl) (by kernel_rfl) (fun _ _ _ h => h) (gRun rfl vl fun _ h => run_load1 o37 (.tmp 2) rfl q (0) rfl vl (h ▸ HB.out 1)) HU.out ?_
      simp only [Act.put, List.setIfInBounds_toArray, List.set_cons_succ, List.set_cons_zero]
      refine takeH (i := 1) (some 9) rfl rfl (by kernel_rfl) (by kernel_rfl) (by kernel_rfl) (fun _ _ _ h => h) (gRun rfl (.int .i64 (i : Nat)) fun _ h => run_mvZ (.tmp 0) rfl (.int .i64 (i : Nat)) rfl) HU.out ?_
      simp only [Act.put, List.setIfInBounds_toArray, List.set_cons_succ, List.set_cons_zero]
      refine takeH (i := 2) (some 10) rfl rfl (by kernel_rfl) (by kernel_rfl) (by kernel_rfl) (fun _ _ _ h => h) (gRun rfl (.pointer (some ⟨b1, o1, none⟩)) fun _ h => run_idx (.tmp 8) (.tmp 9) rfl vl _ _ rfl rfl HX.out.1) HU.out ?_
      simp only [Act.put, List.setIfInBounds_toArray, List.set_cons_succ, List.set_cons_zero]
      refine takeH (i := 3) (some 11) rfl rfl (by kernel_rfl) (by kernel_rfl) (by kernel_rfl) (fun _ _ _ h => h) (gRun rfl (.pointer (some ⟨b1, o1 + 35, none⟩)) fun _ h => run_fieldOp' f26_4 (.tmp 10) rfl b1 (o1) rfl) HU.out ?_
      simp only [Act.put, List.setIfInBounds_toArray, List.set_cons_succ, List.set_cons_zero]
      refine takeH (i := 4) (some 12) rfl rfl (by kernel_rfl) (by kernel_rfl) (by kernel_rfl) (fun _ _ _ h => h) (gRun rfl (.int .i64 ex) fun _ h => run_load1 o3 (.tmp 11) rfl b1 (o1 + 35) rfl (.int .i64 ex) (h ▸ HX.out.2.1 1)) HU.out ?_
      simp only [Act.put, List.setIfInBounds_toArray, List.set_cons_succ, List.set_cons_zero]
      refine takeH (i := 5) (some 13) rfl rfl (by kernel_rfl) (by kernel_rfl) (by kernel_rfl) (fun _ _ _ h => h) (gRun rfl vl fun _ h => run_load1 o37 (.tmp 2) rfl q (0) rfl vl (h ▸ HB.out 1)) HU.out ?_
      simp only [Act.put, List.setIfInBounds_toArray, List.set_cons_succ, List.set_cons_zero]
      refine takeH (i := 6) (some 14) rfl rfl (by kernel_rfl) (by kernel_rfl) (by kernel_rfl) (fun _ _ _ h => h) (gRun rfl (.int .i64 (j : Nat)) fun _ h => run_mvZ (.tmp 1) rfl (.int .i64 (j : Nat)) rfl) HU.out ?_
      simp only [Act.put, List.setIfInBounds_toArray, List.set_cons_succ, List.set_cons_zero]
      refine takeH (i := 7) (some 15) rfl rfl (by kernel_rfl) (by kernel_rfl) (by kernel_rfl) (fun _ _ _ h => h) (gRun rfl (.pointer (some ⟨b2, o2, none⟩)) fun _ h => run_idx (.tmp 13) (.tmp 14) rfl vl _ _ rfl rfl HY.out.1) HU.out ?_
      simp only [Act.put, List.setIfInBounds_toArray, List.set_cons_succ, List.set_cons_zero]
      refine takeH (i := 8) (some 16) rfl rfl (by kernel_rfl) (by kernel_rfl) (by kernel_rfl) (fun _ _ _ h => h) (gRun rfl (.pointer (some ⟨b2, o2 + 35, none⟩)) fun _ h => run_fieldOp' f26_4 (.tmp 15) rfl b2 (o2) rfl) HU.out ?_
      simp only [Act.put, List.setIfInBounds_toArray, List.set_cons_succ, List.set_cons_zero]
      refine takeH (i := 9) (some 17) rfl rfl (by kernel_rfl) (by kernel_rfl) (by kernel_rfl) (fun _ _ _ h => h) (gRun rfl (.int .i64 ey) fun _ h => run_load1 o3 (.tmp 16) rfl b2 (o2 + 35) rfl (.int .i64 ey) (h ▸ HY.out.2.1 1)) HU.out ?_
      simp only [Act.put, List.setIfInBounds_toArray, List.set_cons_succ, List.set_cons_zero]
      refine oneH (i := 10) (by kernel_rfl) ?_
      refine opCallG (some 18) rfl rfl rfl 15 _ (run_call eN27 [.tmp 12, .tmp 17] _ rfl [(.int .i64 ex), (.int .i64 ey)] rfl) ?_
      refine (H1.out _).mono ?_
      rintro e X ⟨rfl, rfl⟩
      refine ⟨_, rfl, ?_⟩
      refine ⟨HU.out, ?_⟩
      simp only [Act.put, List.setIfInBounds_toArray, List.set_cons_succ, List.set_cons_zero]
      refine takeH (i := 11) (some 6) rfl rfl (by kernel_rfl) (by kernel_rfl) (by kernel_rfl) (fun _ _ _ h => h) (gRun rfl (.int .i64 c1) fun _ h => run_asZ (.tmp 18) rfl (.int .i64 c1) rfl) HU.out ?_
      simp only [Act.put, List.setIfInBounds_toArray, List.set_cons_succ, List.set_cons_zero]
      refine wpAnyH_done (by kernel_rfl) ?_ _
      go_upto_region 2 with fail
      refine wp_region_lit ?_
      refine wl rfl (.int .i64 c1) _ (run_mvZ (.tmp 6) rfl (.int .i64 c1) rfl) ?_
      simp only [Act.put, List.setIfInBounds_toArray, List.set_cons_succ, List.set_cons_zero]
      refine wl rfl (.bool false) _ (run_neZ (.tmp 19) (.const (.int .i64 0)) rfl c1 0 rfl rfl false HD.out.1) ?_
      simp only [Act.put, List.setIfInBounds_toArray, List.set_cons_succ, List.set_cons_zero]
      refine wpList_nil ?_
      go_upto_region 4 with fail
      refine wp_region_held (S := fun X => X = w.drewN 2) (by kernel_rfl) ?_
      show wpAnyH _ _ _ _ _ 12 (Array.replicate 12 false) _ _
      obtain ⟨Y, hX⟩ : ∃ Y : World, Y = { X with drawn := X.drawn + 1 } := ⟨_, rfl⟩
      rw [← hX]
      have HV : Hid (Y = w.drewN 2) := by rw [hX, HU.out]; exact rfl
      clear hX
      refine takeH (i := 0) (some 22) rfl rfl (by kernel_rfl) (by kernel_rfl) (by kernel_rfl) (fun _ _ _ h => h) (gRun rfl vl fun _ h => run_load1 o37 (.tmp 2) rfl q (0) rfl vl (h ▸ HB.out 2)) HV.out ?_
      simp only [Act.put, List.setIfInBounds_toArray, List.set_cons_succ, List.set_cons_zero]
      refine takeH (i := 1) (some 23) rfl rfl (by kernel_rfl) (by kernel_rfl) (by kernel_rfl) (fun _ _ _ h => h) (gRun rfl (.int .i64 (i : Nat)) fun _ h => run_mvZ (.tmp 0) rfl (.int .i64 (i : Nat)) rfl) HV.out ?_
      simp only [Act.put, List.setIfInBounds_toArray, List.set_cons_succ, List.set_cons_zero]
      refine takeH (i := 2) (some 24) rfl rfl (by kernel_rfl) (by kernel_rfl) (by kernel_rfl) (fun _ _ _ h => h) (gRun rfl (.pointer (some ⟨b1, o1, none⟩)) fun _ h => run_idx (.tmp 22) (.tmp 23) rfl vl _ _ rfl rfl HX.out.1) HV.out ?_
      simp only [Act.put, List.setIfInBounds_toArray, List.set_cons_succ, List.set_cons_zero]
      refine takeH (i := 3) (some 25) rfl rfl (by kernel_rfl) (by kernel_rfl) (by kernel_rfl) (fun _ _ _ h => h) (gRun rfl (.pointer (some ⟨b1, o1 + 0, none⟩)) fun _ h => run_fieldOp' f26_0 (.tmp 24) rfl b1 (o1) rfl) HV.out ?_
      simp only [Act.put, List.setIfInBounds_toArray, List.set_cons_succ, List.set_cons_zero]
      refine takeH (i := 4) (some 26) rfl rfl (by kernel_rfl) (by kernel_rfl) (by kernel_rfl) (fun _ _ _ h => h) (gRun rfl (.string sx) fun _ h => run_load1 o9 (.tmp 25) rfl b1 (o1 + 0) rfl (.string sx) (h ▸ HX.out.2.2 2)) HV.out ?_
      simp only [Act.put, List.setIfInBounds_toArray, List.set_cons_succ, List.set_cons_zero]
      refine takeH (i := 5) (some 27) rfl rfl (by kernel_rfl) (by kernel_rfl) (by kernel_rfl) (fun _ _ _ h => h) (gRun rfl vl fun _ h => run_load1 o37 (.tmp 2) rfl q (0) rfl vl (h ▸ HB.out 2)) HV.out ?_
      simp only [Act.put, List.setIfInBounds_toArray, List.set_cons_succ, List.set_cons_zero]
      refine takeH (i := 6) (some 28) rfl rfl (by kernel_rfl) (by kernel_rfl) (by kernel_rfl) (fun _ _ _ h => h) (gRun rfl (.int .i64 (j : Nat)) fun _ h => run_mvZ (.tmp 1) rfl (.int .i64 (j : Nat)) rfl) HV.out ?_
      simp only [Act.put, List.setIfInBounds_toArray, List.set_cons_succ, List.set_cons_zero]
      refine takeH (i := 7) (some 29) rfl rfl (by kernel_rfl) (by kernel_rfl) (by kernel_rfl) (fun _ _ _ h => h) (gRun rfl (.pointer (some ⟨b2, o2, none⟩)) fun _ h => run_idx (.tmp 27) (.tmp 28) rfl vl _ _ rfl rfl HY.out.1) HV.out ?_
      simp only [Act.put, List.setIfInBounds_toArray, List.set_cons_succ, List.set_cons_zero]
      refine takeH (i := 8) (some 30) rfl rfl (by kernel_rfl) (by kernel_rfl) (by kernel_rfl) (fun _ _ _ h => h) (gRun rfl (.pointer (some ⟨b2, o2 + 0, none⟩)) fun _ h => run_fieldOp' f26_0 (.tmp 29) rfl b2 (o2) rfl) HV.out ?_
      simp only [Act.put, List.setIfInBounds_toArray, List.set_cons_succ, List.set_cons_zero]
      refine takeH (i := 9) (some 31) rfl rfl (by kernel_rfl) (by kernel_rfl) (by kernel_rfl) (fun _ _ _ h => h) (gRun rfl (.string sy) fun _ h => run_load1 o9 (.tmp 30) rfl b2 (o2 + 0) rfl (.string sy) (h ▸ HY.out.2.2 2)) HV.out ?_
      simp only [Act.put, List.setIfInBounds_toArray, List.set_cons_succ, List.set_cons_zero]
      refine oneH (i := 10) (by kernel_rfl) ?_
      refine opCallG (some 32) rfl rfl rfl 16 _ (run_call eN28 [.tmp 26, .tmp 31] _ rfl [(.string sx), (.string sy)] rfl) ?_
      refine (H2.out _).mono ?_
      rintro e Y ⟨rfl, rfl⟩
      refine ⟨_, rfl, ?_⟩
      refine ⟨HV.out, ?_⟩
      simp only [Act.put, List.setIfInBounds_toArray, List.set_cons_succ, List.set_cons_zero]
      refine takeH (i := 11) (some 7) rfl rfl (by kernel_rfl) (by kernel_rfl) (by kernel_rfl) (fun _ _ _ h => h) (gRun rfl (.int .i64 c2) fun _ h => run_asZ (.tmp 32) rfl (.int .i64 c2) rfl) HV.out ?_
      simp only [Act.put, List.setIfInBounds_toArray, List.set_cons_succ, List.set_cons_zero]
      refine wpAnyH_done (by kernel_rfl) ?_ _
      go_upto_region 5 with fail
      refine wp_region_lit ?_
      refine wl rfl (.int .i64 c2) _ (run_mvZ (.tmp 7) rfl (.int .i64 c2) rfl) ?_
      simp only [Act.put, List.setIfInBounds_toArray, List.set_cons_succ, List.set_cons_zero]
      refine wl rfl (.bool true) _ (run_neZ (.tmp 33) (.const (.int .i64 0)) rfl c2 0 rfl rfl true HD.out.2) ?_
      simp only [Act.put, List.setIfInBounds_toArray, List.set_cons_succ, List.set_cons_zero]
      refine wpList_nil ?_
      go_upto_region 6 with fail
      refine wp_region_lit ?_
      refine wl rfl (.int .i64 c2) _ (run_mvZ (.tmp 7) rfl (.int .i64 c2) rfl) ?_
      simp only [Act.put, List.setIfInBounds_toArray, List.set_cons_succ, List.set_cons_zero]
      refine wl rfl (.int .i64 c2) _ (run_asZ (.tmp 35) rfl (.int .i64 c2) rfl) ?_
      simp only [Act.put, List.setIfInBounds_toArray, List.set_cons_succ, List.set_cons_zero]
      refine wpList_nil ?_
      go_wp2_with fail
      first | (rw [HPQ.out, HS.out]; exact ⟨rfl, 2, HV.out⟩) | (go_ret; rw [HPQ.out, HS.out]; exact ⟨rfl, 2, HV.out⟩)
  · have HD : Hid ((!decide (c1 = 0)) = true ∧ True) := ⟨by simp [h1], trivial⟩
    have HS : Hid (S = c1) := by rw [hS2, if_pos h1]; exact rfl
    clear hS2 h1
    go_enter Try.func14, Try.ntmps14
    go_upto_region 0 with fail
    refine wp_region_lit ?_
    refine wl rfl (.int .i64 0) _ (run_asZ (.const (.int .i64 0)) rfl (.int .i64 0) rfl) ?_
    simp only [Act.put, List.setIfInBounds_toArray, List.set_cons_succ, List.set_cons_zero]
    refine wpList_nil ?_
    go_upto_region 1 with fail
    refine wp_region_held (S := fun X => X = w.drewN 1) (by kernel_rfl) ?_
    show wpAnyH _ _ _ _ _ 12 (Array.replicate 12 false) _ _
    obtain ⟨X, hX⟩ : ∃ X : World, X = { w with drawn := w.drawn + 1 } := ⟨_, rfl⟩
    rw [← hX]
    have HU : Hid (X = w.drewN 1) := hX
    clear hX
    refine takeH (i := 0) (some 8) rfl rfl (by kernel_rfl) (by kernel_rfl) (by kernel_rfl) (fun _ _ _ h => h) (gRun rfl vl fun _ h => run_load1 o37 (.tmp 2) rfl q (0) rfl vl (h ▸ HB.out 1)) HU.out ?_
    simp only [Act.put, List.setIfInBounds_toArray, List.set_cons_succ, List.set_cons_zero]
    refine takeH (i := 1) (some 9) rfl rfl (by kernel_rfl) (by kernel_rfl) (by kernel_rfl) (fun _ _ _ h => h) (gRun rfl (.int .i64 (i : Nat)) fun _ h => run_mvZ (.tmp 0) rfl (.int .i64 (i : Nat)) rfl) HU.out ?_
    simp only [Act.put, List.setIfInBounds_toArray, List.set_cons_succ, List.set_cons_zero]
    refine takeH (i := 2) (some 10) rfl rfl (by kernel_rfl) (by kernel_rfl) (by kernel_rfl) (fun _ _ _ h => h) (gRun rfl (.pointer (some ⟨b1, o1, none⟩)) fun _ h => run_idx (.tmp 8) (.tmp 9) rfl vl _ _ rfl rfl HX.out.1) HU.out ?_
    simp only [Act.put, List.setIfInBounds_toArray, List.set_cons_succ, List.set_cons_zero]
    refine takeH (i := 3) (some 11) rfl rfl (by kernel_rfl) (by kernel_rfl) (by kernel_rfl) (fun _ _ _ h => h) (gRun rfl (.pointer (some ⟨b1, o1 + 35, none⟩)) fun _ h => run_fieldOp' f26_4 (.tmp 10) rfl b1 (o1) rfl) HU.out ?_
    simp only [Act.put, List.setIfInBounds_toArray, List.set_cons_succ, List.set_cons_zero]
    refine takeH (i := 4) (some 12) rfl rfl (by kernel_rfl) (by kernel_rfl) (by kernel_rfl) (fun _ _ _ h => h) (gRun rfl (.int .i64 ex) fun _ h => run_load1 o3 (.tmp 11) rfl b1 (o1 + 35) rfl (.int .i64 ex) (h ▸ HX.out.2.1 1)) HU.out ?_
    simp only [Act.put, List.setIfInBounds_toArray, List.set_cons_succ, List.set_cons_zero]
    refine takeH (i := 5) (some 13) rfl rfl (by kernel_rfl) (by kernel_rfl) (by kernel_rfl) (fun _ _ _ h => h) (gRun rfl vl fun _ h => run_load1 o37 (.tmp 2) rfl q (0) rfl vl (h ▸ HB.out 1)) HU.out ?_
    simp only [Act.put, List.setIfInBounds_toArray, List.set_cons_succ, List.set_cons_zero]
    refine takeH (i := 6) (some 14) rfl rfl (by kernel_rfl) (by kernel_rfl) (by kernel_rfl) (fun _ _ _ h => h) (gRun rfl (.int .i64 (j : Nat)) fun _ h => run_mvZ (.tmp 1) rfl (.int .i64 (j : Nat)) rfl) HU.out ?_
    simp only [Act.put, List.setIfInBounds_toArray, List.set_cons_succ, List.set_cons_zero]
    refine takeH (i := 7) (some 15) rfl rfl (by kernel_rfl) (by kernel_rfl) (by kernel_rfl) (fun _ _ _ h => h) (gRun rfl (.pointer (some ⟨b2, o2, none⟩)) fun _ h => run_idx (.tmp 13) (.tmp 14) rfl vl _ _ rfl rfl HY.out.1) HU.out ?_
    simp only [Act.put, List.setIfInBounds_toArray, List.set_cons_succ, List.set_cons_zero]
    refine takeH (i := 8) (some 16) rfl rfl (by kernel_rfl) (by kernel_rfl) (by kernel_rfl) (fun _ _ _ h => h) (gRun rfl (.pointer (some ⟨b2, o2 + 35, none⟩)) fun _ h => run_fieldOp' f26_4 (.tmp 15) rfl b2 (o2) rfl) HU.out ?_
    simp only [Act.put, List.setIfInBounds_toArray, List.set_cons_succ, List.set_cons_zero]
    refine takeH (i := 9) (some 17) rfl rfl (by kernel_rfl) (by kernel_rfl) (by kernel_rfl) (fun _ _ _ h => h) (gRun rfl (.int .i64 ey) fun _ h => run_load1 o3 (.tmp 16) rfl b2 (o2 + 35) rfl (.int .i64 ey) (h ▸ HY.out.2.1 1)) HU.out ?_
    simp only [Act.put, List.setIfInBounds_toArray, List.set_cons_succ, List.set_cons_zero]
    refine oneH (i := 10) (by kernel_rfl) ?_
    refine opCallG (some 18) rfl rfl rfl 15 _ (run_call eN27 [.tmp 12, .tmp 17] _ rfl [(.int .i64 ex), (.int .i64 ey)] rfl) ?_
    refine (H1.out _).mono ?_
    rintro e X ⟨rfl, rfl⟩
    refine ⟨_, rfl, ?_⟩
    refine ⟨HU.out, ?_⟩
    simp only [Act.put, List.setIfInBounds_toArray, List.set_cons_succ, List.set_cons_zero]
    refine takeH (i := 11) (some 6) rfl rfl (by kernel_rfl) (by kernel_rfl) (by kernel_rfl) (fun _ _ _ h => h) (gRun rfl (.int .i64 c1) fun _ h => run_asZ (.tmp 18) rfl (.int .i64 c1) rfl) HU.out ?_
    simp only [Act.put, List.setIfInBounds_toArray, List.set_cons_succ, List.set_cons_zero]
    refine wpAnyH_done (by kernel_rfl) ?_ _
    go_upto_region 2 with fail
    refine wp_region_lit ?_
    refine wl rfl (.int .i64 c1) _ (run_mvZ (.tmp 6) rfl (.int .i64 c1) rfl) ?_
    simp only [Act.put, List.setIfInBounds_toArray, List.set_cons_succ, List.set_cons_zero]
    refine wl rfl (.bool true) _ (run_neZ (.tmp 19) (.const (.int .i64 0)) rfl c1 0 rfl rfl true HD.out.1) ?_
    simp only [Act.put, List.setIfInBounds_toArray, List.set_cons_succ, List.set_cons_zero]
    refine wpList_nil ?_
    go_upto_region 3 with fail
    refine wp_region_lit ?_
    refine wl rfl (.int .i64 c1) _ (run_mvZ (.tmp 6) rfl (.int .i64 c1) rfl) ?_
    simp only [Act.put, List.setIfInBounds_toArray, List.set_cons_succ, List.set_cons_zero]
    refine wl rfl (.int .i64 c1) _ (run_asZ (.tmp 21) rfl (.int .i64 c1) rfl) ?_
    simp only [Act.put, List.setIfInBounds_toArray, List.set_cons_succ, List.set_cons_zero]
    refine wpList_nil ?_
    go_wp2_with fail
    first | (rw [HPQ.out, HS.out]; exact ⟨rfl, 1, HU.out⟩) | (go_ret; rw [HPQ.out, HS.out]; exact ⟨rfl, 1, HU.out⟩)

end Go.Proofs.Ytobolkllplmmcab

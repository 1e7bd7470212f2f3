/- What an object costs; how many sectors count; what a shape holds. -/
import Derived.Test.YtbmlbnbhjligdaaI2
namespace Go.Proofs.Ytbmlbnbhjligdaa
open Go.RowKit Go.MapKept

def costZ (n : Int) : Int := if n < 0 ∨ 512 < n then 0 else 1 + (n + 63) / 64
set_option maxHeartbeats 1000000 in
set_option maxRecDepth 100000 in
theorem cost_any (w : World) (n : Int) (h0 : -9223372036854775808 ≤ n ∧ n ≤ 9223372036854775807) : Calls Try.prog 14 #[.int .i64 n] w fun e w' => e = .returned (.int .i64 (costZ n)) ∧ w' = w := by
  obtain ⟨r, hr⟩ : ∃ r, r = costZ n := ⟨_, rfl⟩
  have HR : Hid (r = costZ n) := hr
  rw [← hr]
  clear hr
  by_cases h1 : n < 0
  · have t1 : decide (n < 0) = true := by simpa using h1
    obtain rfl : r = 0 := by rw [HR.out]; unfold costZ; rw [if_pos (Or.inl h1)]
    go_enter Try.func14, Try.ntmps14
    go_wp2
    go_ret
    exact ⟨rfl, rfl⟩
  · have t1 : decide (n < 0) = false := by simpa using h1
    by_cases h2 : 512 < n
    · have t2 : decide (512 < n) = true := by simpa using h2
      obtain rfl : r = 0 := by rw [HR.out]; unfold costZ; rw [if_pos (Or.inr h2)]
      go_enter Try.func14, Try.ntmps14
      go_wp2
      go_ret
      exact ⟨rfl, rfl⟩
    · have t2 : decide (512 < n) = false := by simpa using h2
      have hr : r = 1 + (n + 63) / 64 := by rw [HR.out]; unfold costZ; rw [if_neg (by omega)]
      have hd : Int.tdiv (n + 63) 64 = (n + 63) / 64 := Int.tdiv_eq_ediv_of_nonneg (by omega)
      have HD : Hid (Int.tdiv (n + 63) 64 = r - 1) := by show _ = _; rw [hd]; omega
      have hb : 1 ≤ r ∧ r ≤ 9 := by omega
      clear hr hd
      go_enter Try.func14, Try.ntmps14
      go_wp2_with (first
        | (refine wl rfl _ _ (run_subZ (.tmp 10) (.const (.int .i64 1)) rfl _ _ (n + 63) rfl rfl (by omega) (by omega) (by omega)) ?_)
        | (refine wl rfl _ _ (run_quoZ (.tmp 11) (.const (.int .i64 64)) rfl (n + 63) 64 (r - 1) rfl rfl (by decide) HD.out (by omega) (by omega)) ?_)
        | (refine wl rfl _ _ (run_addZ (.const (.int .i64 1)) (.tmp 12) rfl 1 (r - 1) r rfl rfl (by omega) (by omega) (by omega)) ?_))
      go_ret
      exact ⟨rfl, rfl⟩
set_option maxHeartbeats 1000000 in
set_option maxRecDepth 100000 in
theorem refCost_any (w : World) (n : Int) (h0 : -9223372036854775808 ≤ n ∧ n ≤ 9223372036854775807) : Calls Try.prog 15 #[.int .i64 n] w fun e w' => e = .returned (.int .i64 (costZ n)) ∧ w' = w := by
  obtain ⟨r, hr⟩ : ∃ r, r = costZ n := ⟨_, rfl⟩
  have HR : Hid (r = costZ n) := hr
  rw [← hr]
  clear hr
  by_cases h1 : n < 0
  · have t1 : decide (n < 0) = true := by simpa using h1
    obtain rfl : r = 0 := by rw [HR.out]; unfold costZ; rw [if_pos (Or.inl h1)]
    go_enter Try.func15, Try.ntmps15
    go_wp2
    go_ret
    exact ⟨rfl, rfl⟩
  · have t1 : decide (n < 0) = false := by simpa using h1
    by_cases h2 : 512 < n
    · have t2 : decide (512 < n) = true := by simpa using h2
      obtain rfl : r = 0 := by rw [HR.out]; unfold costZ; rw [if_pos (Or.inr h2)]
      go_enter Try.func15, Try.ntmps15
      go_wp2
      go_ret
      exact ⟨rfl, rfl⟩
    · have t2 : decide (512 < n) = false := by simpa using h2
      have hr : r = 1 + (n + 63) / 64 := by rw [HR.out]; unfold costZ; rw [if_neg (by omega)]
      have HE : Hid (r = 1 + (n + 63) / 64) := hr
      clear hr HR
      go_enter Try.func15, Try.ntmps15
      go_wp2
      go_loopw [0, 3] (fun vl vn W => ∃ k : Nat, vl = .int .i64 (n - 64 * (k : Int)) ∧ vn = .int .i64 ((k : Int) + 1) ∧ k ≤ 8 ∧ (k = 0 ∨ 0 < n - 64 * (k : Int) + 64) ∧ W = w) (fun vl _ _ => (intOf vl).toNat)
      case atStart => exact ⟨0, by congr 1; omega, rfl, by omega, Or.inl rfl, rfl⟩
      case round =>
        obtain ⟨k, rfl, rfl, hk, hk2, rfl⟩ := hrel
        by_cases hz : 0 < n - 64 * (k : Int)
        · have t3 : decide (0 < n - 64 * (k : Int)) = true := by simpa using hz
          go_wp2_with (first
            | (refine wl rfl _ _ (run_addZ (.tmp 12) (.const (.int .i64 1)) rfl _ 1 (((k + 1 : Nat) : Int) + 1) rfl rfl (by omega) (by omega) (by omega)) ?_)
            | (refine wl rfl _ _ (run_subZ (.tmp 14) (.const (.int .i64 64)) rfl _ 64 (n - 64 * ((k + 1 : Nat) : Int)) rfl rfl (by omega) (by omega) (by omega)) ?_))
          refine ⟨⟨k + 1, rfl, rfl, by omega, Or.inr (by omega), by first | rfl | trivial⟩, ?_⟩
          simp [intOf]; omega
        · have t3 : decide (0 < n - 64 * (k : Int)) = false := by simpa using hz
          obtain rfl : r = (k : Int) + 1 := by rw [HE.out]; omega
          go_wp2
          go_ret
          exact ⟨rfl, rfl⟩
end Go.Proofs.Ytbmlbnbhjligdaa

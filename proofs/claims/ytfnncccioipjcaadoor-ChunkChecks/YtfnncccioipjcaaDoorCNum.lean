/- chunk's count, size and numbers. -/
import Derived.Test.YtfnncccioipjcaaDoorMem
import Derived.Test.YtfnncccioipjcaaDoorCMath
namespace Go.Proofs.YtfnncccioipjcaaDoor
open Go.RowKit

theorem count_any (L : Int) (hl : -9223372036854775808 ≤ L) (hm : L ≤ 9223372036854775807) (W : World) : Calls Tryd.prog 37 #[.int .i64 L] W fun e w' => e = .returned (.int .i64 (Cut.count L.toNat : Nat)) ∧ W = w' := by
  by_cases h : L < 1
  · have HC : Hid (Cut.count L.toNat = 0) := by
      show _ = _
      rw [show L.toNat = 0 by omega]
      rfl
    go_enter Tryd.func37, Tryd.ntmps37
    go_wp2
    go_ret
    exact ⟨by rw [HC.out]; rfl, rfl⟩
  · have HC : Hid ((Cut.count L.toNat : Int) = (L - 1) / 64 + 1) := by
      show _ = _
      unfold Cut.count
      omega
    go_enter Tryd.func37, Tryd.ntmps37
    go_wp2
    go_ret
    exact ⟨by rw [HC.out]; rfl, rfl⟩
theorem size_any (i L : Int) (h0 : 0 ≤ i) (h1 : i * 64 < L) (hm : L ≤ 9223372036854775807) (W : World) : Calls Tryd.prog 45 #[.int .i64 i, .int .i64 L] W fun e w' => e = .returned (.int .i64 (min 64 (L - i * 64))) ∧ W = w' := by
  go_enter Tryd.func45, Tryd.ntmps45
  go_wp2
  · go_ret
    exact ⟨congrArg (fun z => Ending.returned (.int .i64 z)) (show L - i * 64 = min 64 (L - i * 64) by omega), rfl⟩
  · go_ret
    exact ⟨congrArg (fun z => Ending.returned (.int .i64 z)) (show 64 = min 64 (L - i * 64) by omega), rfl⟩
theorem numbers_any (i L : Int) (hl : -9223372036854775808 ≤ L) (hm : L ≤ 9223372036854775807) (W : World) : Calls Tryd.prog 40 #[.int .i64 i, .int .i64 L] W fun e w' => e = .returned (.bool (decide (0 ≤ i ∧ i < (Cut.count L.toNat : Nat)))) ∧ W = w' := by
  have HC := count_any L hl hm W
  generalize Cut.count L.toNat = c at HC ⊢
  by_cases h : 0 ≤ i
  · have h' : decide (0 ≤ i) = true := decide_eq_true h
    go_enter Tryd.func40, Tryd.ntmps40
    go_wp2_with (go_at_call 37; refine HC.mono ?_; rintro e w' ⟨rfl, rfl⟩)
    go_ret
    exact ⟨congrArg (fun z => Ending.returned (.bool z)) (by simp [h]), rfl⟩
  · have h' : decide (0 ≤ i) = false := decide_eq_false h
    go_enter Tryd.func40, Tryd.ntmps40
    go_wp2
    go_ret
    exact ⟨congrArg (fun z => Ending.returned (.bool z)) (by simp), rfl⟩
end Go.Proofs.YtfnncccioipjcaaDoor

/- The form's own reach, of rows. -/
import Derived.Test.YtcjanjofjnedbaaS10
namespace Go.Proofs.Ytcjanjofjnedbaa
open Go.RowKit

theorem len_fits {L : List (List Nat)} {l : List Nat} (h : L.length = 0 ∨ ∃ n ∈ l, L.length ≤ n) (hk : ∀ n ∈ l, n ≤ 140737488351232) : L.length ≤ 140737488355328 := by
  rcases h with h | ⟨n, hn, h⟩
  · omega
  · have := hk n hn
    omega
theorem row_fits {L : List (List Nat)} {l : List Nat} (h : ∀ i, i < L.length → (L.getD i []).length = 0 ∨ ∃ n ∈ l, (L.getD i []).length ≤ n) (hk : ∀ n ∈ l, n ≤ 140737488351232) (i : Nat) : (L.getD i []).length ≤ 140737488355328 := by
  by_cases hi : i < L.length
  · rcases h i hi with h | ⟨n, hn, h⟩
    · omega
    · have := hk n hn
      omega
  · rw [List.getD_eq_getElem?_getD, List.getElem?_eq_none (by omega)]
    simp
end Go.Proofs.Ytcjanjofjnedbaa

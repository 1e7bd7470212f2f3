/- Plain mathematics of what is held: the steps down a way, and what follows of other leaves and other beginnings. -/
import Derived.Test.YtjdmpanemdhbbaaDoorVMath
namespace Go.Proofs.YtjdmpanemdhbbaaDoor
namespace Tree
theorem up_some_len {x y : List Nat} {m n : Nat} {r : List (List Nat)} (h2 : 2 ≤ n) (h : up x m n r = some y) : r.length ≠ 0 := fun e => by rw [up_none _ _ _ _ h2 e] at h; cases h
theorem up_some_one {x y : List Nat} {m n : Nat} {r : List (List Nat)} (h2 : n < 2) (h : up x m n r = some y) : y = x ∧ r.length = 0 := by
  rw [up_one _ _ _ _ h2] at h
  by_cases hr : r.length = 0
  · rw [if_pos hr] at h
    exact ⟨(Option.some.inj h).symm, hr⟩
  · rw [if_neg hr] at h; cases h
theorem up_some_low {x y : List Nat} {m n : Nat} {r : List (List Nat)} (h2 : 2 ≤ n) (h : up x m n r = some y) (hm : m < half n) : ∃ z, up x m (half n) (othersOf r) = some z ∧ y = node z (lastOf r) := by
  rw [up_low _ _ _ _ h2 (up_some_len h2 h) hm] at h
  obtain ⟨z, hz, e⟩ := Option.map_eq_some_iff.1 h
  exact ⟨z, hz, e.symm⟩
theorem up_some_high {x y : List Nat} {m n : Nat} {r : List (List Nat)} (h2 : 2 ≤ n) (h : up x m n r = some y) (hm : ¬ m < half n) : ∃ z, up x (m - half n) (n - half n) (othersOf r) = some z ∧ y = node (lastOf r) z := by
  rw [up_high _ _ _ _ h2 (up_some_len h2 h) hm] at h
  obtain ⟨z, hz, e⟩ := Option.map_eq_some_iff.1 h
  exact ⟨z, hz, e.symm⟩
theorem two_some_len {a : List Nat} {y : List Nat × List Nat} {m n : Nat} {r : List (List Nat)} {whole : Bool} (hm : ¬ (m = n ∧ whole = true)) (h : two m n a r whole = some y) : r.length ≠ 0 := fun e => by rw [two_none _ _ _ _ _ hm e] at h; cases h
theorem two_some_whole {a : List Nat} {y : List Nat × List Nat} {m n : Nat} {r : List (List Nat)} (hm : m = n) (h : two m n a r true = some y) : y = (a, a) ∧ r.length = 0 := by
  rw [two_whole _ _ _ _ hm] at h
  by_cases hr : r.length = 0
  · rw [if_pos hr] at h
    exact ⟨(Option.some.inj h).symm, hr⟩
  · rw [if_neg hr] at h; cases h
theorem two_some_part {a : List Nat} {y : List Nat × List Nat} {m n : Nat} {r : List (List Nat)} (hm : m = n) (h : two m n a r false = some y) : y = (lastOf r, lastOf r) ∧ r.length = 1 := by
  rw [two_part' _ _ _ _ hm (two_some_len (by simp) h)] at h
  by_cases hr : r.length = 1
  · rw [if_pos hr] at h
    exact ⟨(Option.some.inj h).symm, hr⟩
  · rw [if_neg hr] at h; cases h
theorem two_some_low {a : List Nat} {y : List Nat × List Nat} {m n : Nat} {r : List (List Nat)} {whole : Bool} (h2 : 2 ≤ n) (hn : m ≠ n) (h : two m n a r whole = some y) (hm : m ≤ half n) : ∃ z, two m (half n) a (othersOf r) whole = some z ∧ y = (z.1, node z.2 (lastOf r)) := by
  rw [two_low _ _ _ _ _ h2 hn (two_some_len (fun h => hn h.1) h) hm] at h
  obtain ⟨z, hz, e⟩ := Option.map_eq_some_iff.1 h
  exact ⟨z, hz, e.symm⟩
theorem two_some_high {a : List Nat} {y : List Nat × List Nat} {m n : Nat} {r : List (List Nat)} {whole : Bool} (h2 : 2 ≤ n) (hn : m ≠ n) (h : two m n a r whole = some y) (hm : ¬ m ≤ half n) : ∃ z, two (m - half n) (n - half n) a (othersOf r) false = some z ∧ y = (node (lastOf r) z.1, node (lastOf r) z.2) := by
  rw [two_high _ _ _ _ _ h2 hn (two_some_len (fun h => hn h.1) h) hm] at h
  obtain ⟨z, hz, e⟩ := Option.map_eq_some_iff.1 h
  exact ⟨z, hz, e.symm⟩
theorem incl_ne (l : List (List Nat)) (m : Nat) (h : 2 ≤ l.length) : (incl l m).length ≠ 0 := by
  by_cases hm : m < half l.length
  · rw [incl_low l m h hm]; simp
  · rw [incl_high l m h hm]; simp
theorem part_ne (l : List (List Nat)) (m : Nat) (w : Bool) (hm : m < l.length) (h1 : 1 ≤ m) : (part l m w).length ≠ 0 := by
  by_cases hk : m ≤ half l.length
  · rw [part_low l m w (by omega) (by omega) hk]; simp
  · rw [part_high l m w (by omega) (by omega) hk]; simp

/-! what is held, of the proofs of a tree -/
theorem inclOk_incl (l : List (List Nat)) (m n : Nat) (hn : l.length = n) (hm : m < n) (root' : List Nat) : inclOk (l.getD m []) m n (incl l m) root' = decide (root l = root') := by
  unfold inclOk
  rw [decide_eq_true (by omega), Bool.true_and, Int.toNat_natCast, Int.toNat_natCast, up_incl n l m hn hm]
  simp
theorem inclOk_len (l : List (List Nat)) (m n : Nat) (hn : l.length = n) (hm : m < n) (r : List (List Nat)) (hr : r.length ≠ (incl l m).length) (x root' : List Nat) : inclOk x m n r root' = false := by
  unfold inclOk
  rw [decide_eq_true (by omega), Bool.true_and, Int.toNat_natCast, Int.toNat_natCast]
  refine decide_eq_false fun h => hr (up_len n _ _ _ _ m _ _ h (up_incl n l m hn hm))
theorem consOk_part (l : List (List Nat)) (m n : Nat) (hn : l.length = n) (hm : m ≤ n) (h1 : 1 ≤ m) (b : List Nat) : consOk m n (root (l.take m)) b (part l m true) = decide (root l = b) := by
  unfold consOk
  rw [decide_eq_true (by omega), Bool.true_and, if_neg (by omega), Int.toNat_natCast, Int.toNat_natCast, two_part n l m _ true hn h1 hm (fun _ => rfl)]
  simp
theorem consOk_zero (l : List (List Nat)) (n : Nat) (hn : l.length = n) : consOk (0 : Nat) n (root []) (root l) [] = true := by
  unfold consOk
  rw [decide_eq_true (by omega), Bool.true_and, if_pos (by rfl), root_nil]
  by_cases h0 : n = 0
  · rw [root_none l (by omega)]
    simp
  · simp [show 0 < n by omega]
theorem consOk_len (l : List (List Nat)) (m n : Nat) (hn : l.length = n) (hm : m ≤ n) (h1 : 1 ≤ m) (r : List (List Nat)) (hr : r.length ≠ (part l m true).length) (a b : List Nat) : consOk m n a b r = false := by
  unfold consOk
  rw [decide_eq_true (by omega), Bool.true_and, if_neg (by omega), Int.toNat_natCast, Int.toNat_natCast]
  refine decide_eq_false fun h => hr (two_len n m _ _ _ _ _ _ true h (two_part n l m (root (l.take m)) true hn h1 hm (fun _ => rfl)))
theorem inclOk_spec {leaf root' : List Nat} {m n : Int} {r : List (List Nat)} (h : inclOk leaf m n r root' = true) : (0 ≤ m ∧ m < n) ∧ up leaf m.toNat n.toNat r = some root' := by
  unfold inclOk at h
  rw [Bool.and_eq_true] at h
  exact ⟨of_decide_eq_true h.1, of_decide_eq_true h.2⟩
theorem consOk_spec {a b : List Nat} {m n : Int} {r : List (List Nat)} (h : consOk m n a b r = true) : (0 ≤ m ∧ m ≤ n) ∧ (m = 0 → a = Sha.sha []) ∧ (m ≠ 0 → two m.toNat n.toNat a r true = some (a, b)) := by
  unfold consOk at h
  rw [Bool.and_eq_true] at h
  refine ⟨of_decide_eq_true h.1, fun hm => ?_, fun hm => ?_⟩
  · have h2 := h.2
    rw [if_pos hm, Bool.and_eq_true, Bool.and_eq_true] at h2
    exact of_decide_eq_true h2.2.1
  · have h2 := h.2
    rw [if_neg hm] at h2
    exact of_decide_eq_true h2
end Tree
end Go.Proofs.YtjdmpanemdhbbaaDoor

/- Plain mathematics of trees of hashes (no program): roots, proofs, and the roots of the full trees that leaves make when they come one by one. -/
import Derived.Test.YtjdmpanemdhbbaaDoorMath
namespace Go.Proofs.YtjdmpanemdhbbaaDoor
namespace Tree

def leaf (b : List Nat) : List Nat := Sha.sha (0 :: b)
def node (l r : List Nat) : List Nat := Sha.sha (1 :: (l ++ r))

/-- the greatest power of two below n, two or more -/
def half (n : Nat) : Nat := 2 ^ Nat.log2 (n - 1)
theorem half_pos (n : Nat) : 0 < half n := Nat.pow_pos (by decide)
theorem half_lt (n : Nat) (h : 2 ≤ n) : half n < n := by
  have := Nat.log2_self_le (n := n - 1) (by omega)
  unfold half
  omega
theorem half_ge (n : Nat) (h : 2 ≤ n) : n ≤ 2 * half n := by
  have := Nat.lt_log2_self (n := n - 1)
  unfold half
  rw [Nat.pow_succ] at this
  omega
/-- a power of two below n that is not less than the rest is the one -/
theorem pow_one (a b n : Nat) (ha : 2 ^ a < n) (ha' : n ≤ 2 * 2 ^ a) (hb : 2 ^ b < n) (hb' : n ≤ 2 * 2 ^ b) : a = b := by
  rcases Nat.lt_trichotomy a b with h | h | h
  · have := Nat.pow_le_pow_right (n := 2) (by decide) (show a + 1 ≤ b from h)
    rw [Nat.pow_succ] at this
    omega
  · exact h
  · have := Nat.pow_le_pow_right (n := 2) (by decide) (show b + 1 ≤ a from h)
    rw [Nat.pow_succ] at this
    omega
theorem half_is (e n : Nat) (h : 2 ^ e < n) (h' : n ≤ 2 * 2 ^ e) : half n = 2 ^ e := by
  have h1 := Nat.pow_pos (n := e) (show 0 < 2 by decide)
  have h2 : 2 ≤ n := by omega
  have := pow_one _ _ n (half_lt n h2) (half_ge n h2) h h'
  unfold half
  rw [this]

def root (l : List (List Nat)) : List Nat :=
  if _h0 : l.length = 0 then Sha.sha [] else if _h1 : l.length = 1 then l.getD 0 [] else node (root (l.take (half l.length))) (root (l.drop (half l.length)))
termination_by l.length
decreasing_by
  · have := half_lt l.length (by omega)
    simp only [List.length_take]
    omega
  · have := half_pos l.length
    simp only [List.length_drop]
    omega
theorem root_nil : root [] = Sha.sha [] := by rw [root]; simp
theorem root_none (l : List (List Nat)) (h : l.length = 0) : root l = Sha.sha [] := by rw [root]; simp [h]
theorem root_one (l : List (List Nat)) (h : l.length = 1) : root l = l.getD 0 [] := by rw [root]; simp [h]
theorem root_single (x : List Nat) : root [x] = x := by rw [root_one _ rfl]; rfl
theorem root_two (l : List (List Nat)) (h : 2 ≤ l.length) : root l = node (root (l.take (half l.length))) (root (l.drop (half l.length))) := by
  rw [root, dif_neg (by omega), dif_neg (by omega)]
/-- of two parts -/
theorem root_parts (a b : List (List Nat)) (e : Nat) (ha : a.length = 2 ^ e) (hb : 0 < b.length) (hb' : b.length ≤ 2 ^ e) : root (a ++ b) = node (root a) (root b) := by
  have h1 := Nat.pow_pos (n := e) (show 0 < 2 by decide)
  have hl : (a ++ b).length = 2 ^ e + b.length := by rw [List.length_append, ha]
  have hh := half_is e (a ++ b).length (by omega) (by omega)
  rw [root_two _ (by omega), hh, ← ha, List.take_left, List.drop_left]

def incl (l : List (List Nat)) (m : Nat) : List (List Nat) :=
  if _h : l.length < 2 then [] else
    if m < half l.length then incl (l.take (half l.length)) m ++ [root (l.drop (half l.length))]
    else incl (l.drop (half l.length)) (m - half l.length) ++ [root (l.take (half l.length))]
termination_by l.length
decreasing_by
  · have := half_lt l.length (by omega)
    simp only [List.length_take]
    omega
  · have := half_pos l.length
    simp only [List.length_drop]
    omega
theorem incl_one (l : List (List Nat)) (m : Nat) (h : l.length < 2) : incl l m = [] := by rw [incl]; simp [h]
theorem incl_low (l : List (List Nat)) (m : Nat) (h : 2 ≤ l.length) (hm : m < half l.length) : incl l m = incl (l.take (half l.length)) m ++ [root (l.drop (half l.length))] := by
  rw [incl, dif_neg (by omega), if_pos hm]
theorem incl_high (l : List (List Nat)) (m : Nat) (h : 2 ≤ l.length) (hm : ¬ m < half l.length) : incl l m = incl (l.drop (half l.length)) (m - half l.length) ++ [root (l.take (half l.length))] := by
  rw [incl, dif_neg (by omega), if_neg hm]

def part (l : List (List Nat)) (m : Nat) (whole : Bool) : List (List Nat) :=
  if m = l.length then (if whole then [] else [root l]) else if _h : l.length < 2 then [] else
    if m ≤ half l.length then part (l.take (half l.length)) m whole ++ [root (l.drop (half l.length))]
    else part (l.drop (half l.length)) (m - half l.length) false ++ [root (l.take (half l.length))]
termination_by l.length
decreasing_by
  · have := half_lt l.length (by omega)
    simp only [List.length_take]
    omega
  · have := half_pos l.length
    simp only [List.length_drop]
    omega
theorem part_all (l : List (List Nat)) (m : Nat) (whole : Bool) (h : m = l.length) : part l m whole = if whole then [] else [root l] := by rw [part, if_pos h]
theorem part_low (l : List (List Nat)) (m : Nat) (whole : Bool) (h : 2 ≤ l.length) (hn : m ≠ l.length) (hm : m ≤ half l.length) : part l m whole = part (l.take (half l.length)) m whole ++ [root (l.drop (half l.length))] := by
  rw [part, if_neg hn, dif_neg (by omega), if_pos hm]
theorem part_high (l : List (List Nat)) (m : Nat) (whole : Bool) (h : 2 ≤ l.length) (hn : m ≠ l.length) (hm : ¬ m ≤ half l.length) : part l m whole = part (l.drop (half l.length)) (m - half l.length) false ++ [root (l.take (half l.length))] := by
  rw [part, if_neg hn, dif_neg (by omega), if_neg hm]

/-- how many hashes a proof has at the most -/
theorem incl_length (e : Nat) : ∀ (l : List (List Nat)) (m : Nat), l.length ≤ 2 ^ e → (incl l m).length ≤ e := by
  induction e with
  | zero =>
    intro l m h
    rw [incl_one l m (by simpa using Nat.lt_succ_of_le h)]
    simp
  | succ e ih =>
    intro l m h
    by_cases h2 : 2 ≤ l.length
    · have h3 : half l.length ≤ 2 ^ e := by
        unfold half
        refine Nat.pow_le_pow_right (by decide) ?_
        have := (Nat.log2_lt (n := l.length - 1) (k := e + 1) (by omega)).2 (by omega)
        omega
      have h4 := half_ge l.length h2
      by_cases hm : m < half l.length
      · have := ih (l.take (half l.length)) m (by simp; omega)
        rw [incl_low l m h2 hm]
        simp
        omega
      · have := ih (l.drop (half l.length)) (m - half l.length) (by simp; omega)
        rw [incl_high l m h2 hm]
        simp
        omega
    · rw [incl_one l m (by omega)]
      simp
theorem part_length (e : Nat) : ∀ (l : List (List Nat)) (m : Nat) (whole : Bool), l.length ≤ 2 ^ e → (part l m whole).length ≤ e + 1 := by
  induction e with
  | zero =>
    intro l m whole h
    rw [part]
    split
    · split <;> simp
    · rw [dif_pos (by simp at h; omega)]
      simp
  | succ e ih =>
    intro l m whole h
    by_cases hn : m = l.length
    · rw [part_all l m whole hn]
      split <;> simp
    · by_cases h2 : 2 ≤ l.length
      · have h3 : half l.length ≤ 2 ^ e := by
          unfold half
          refine Nat.pow_le_pow_right (by decide) ?_
          have := (Nat.log2_lt (n := l.length - 1) (k := e + 1) (by omega)).2 (by omega)
          omega
        have h4 := half_ge l.length h2
        by_cases hm : m ≤ half l.length
        · have := ih (l.take (half l.length)) m whole (by simp; omega)
          rw [part_low l m whole h2 hn hm]
          simp
          omega
        · have := ih (l.drop (half l.length)) (m - half l.length) false (by simp; omega)
          rw [part_high l m whole h2 hn hm]
          simp
          omega
      · rw [part, if_neg hn, dif_pos (by omega)]
        simp

/-- the roots of the full trees, the greatest first -/
def peaks (l : List (List Nat)) : List (List Nat) :=
  if _h : l.length = 0 then [] else root (l.take (2 ^ Nat.log2 l.length)) :: peaks (l.drop (2 ^ Nat.log2 l.length))
termination_by l.length
decreasing_by
  have := Nat.pow_pos (n := Nat.log2 l.length) (show 0 < 2 by decide)
  simp only [List.length_drop]
  omega
theorem peaks_none (l : List (List Nat)) (h : l.length = 0) : peaks l = [] := by rw [peaks, dif_pos h]
theorem peaks_some (l : List (List Nat)) (h : l.length ≠ 0) : peaks l = root (l.take (2 ^ Nat.log2 l.length)) :: peaks (l.drop (2 ^ Nat.log2 l.length)) := by rw [peaks, dif_neg h]
theorem log2_is (a n : Nat) (h : 2 ^ a ≤ n) (h' : n < 2 ^ (a + 1)) : Nat.log2 n = a := by
  have hn : n ≠ 0 := by have := Nat.pow_pos (n := a) (show 0 < 2 by decide); omega
  have h1 := (Nat.le_log2 hn).2 h
  have h2 := (Nat.log2_lt hn).2 h'
  omega
/-- a full tree that is less than all that is there -/
theorem peaks_behind (j : Nat) : ∀ (n : Nat) (a d : List (List Nat)), a.length = n → 2 ^ (j + 1) ∣ a.length → d.length = 2 ^ j → peaks (a ++ d) = peaks a ++ [root d] := by
  intro n
  induction n using Nat.strongRecOn with
  | _ n ih =>
    intro a d hn hd hl
    have hj := Nat.pow_pos (n := j) (show 0 < 2 by decide)
    by_cases h0 : a.length = 0
    · have ha : a = [] := List.length_eq_zero_iff.1 h0
      subst ha
      rw [List.nil_append, peaks_none [] rfl, List.nil_append, peaks_some d (by omega), hl, Nat.log2_two_pow, ← hl, List.take_length, List.drop_length, peaks_none [] rfl]
    · obtain ⟨q, hq⟩ := hd
      have hA1 := Nat.log2_self_le h0
      have hA2 := Nat.lt_log2_self (n := a.length)
      generalize hA : Nat.log2 a.length = A at *
      have hq0 : 0 < q := by
        rcases Nat.eq_zero_or_pos q with h | h
        · rw [h, Nat.mul_zero] at hq; exact absurd hq h0
        · exact h
      have hge : 2 ^ (j + 1) ≤ a.length := by rw [hq]; exact Nat.le_mul_of_pos_right _ hq0
      have hjA : j + 1 ≤ A := by
        rcases Nat.lt_or_ge A (j + 1) with h | h
        · have := Nat.pow_le_pow_right (n := 2) (by decide) (show A + 1 ≤ j + 1 from h)
          omega
        · exact h
      obtain ⟨c, hc⟩ : ∃ c, A = j + 1 + c := ⟨A - (j + 1), by omega⟩
      have hA2' : 2 ^ (A + 1) = 2 ^ (j + 1) * (2 * 2 ^ c) := by rw [hc, show j + 1 + c + 1 = (j + 1) + (c + 1) by omega, Nat.pow_add, Nat.pow_succ 2 c]; rw [Nat.mul_comm 2 (2 ^ c)]
      have hA1' : 2 ^ A = 2 ^ (j + 1) * 2 ^ c := by rw [hc, Nat.pow_add]
      have hqlt : q < 2 * 2 ^ c := by
        rw [hA2', hq] at hA2
        exact Nat.lt_of_mul_lt_mul_left hA2
      have hmul : 2 ^ (j + 1) * (q + 1) ≤ 2 ^ (j + 1) * (2 * 2 ^ c) := Nat.mul_le_mul_left _ hqlt
      have hpj : 2 ^ (j + 1) = 2 * 2 ^ j := by rw [Nat.pow_succ]; omega
      rw [Nat.mul_add, Nat.mul_one, ← hq, ← hA2'] at hmul
      have hlog : Nat.log2 (a ++ d).length = A := by
        refine log2_is A _ ?_ ?_
        · rw [List.length_append]; omega
        · rw [List.length_append, hl]; omega
      rw [peaks_some (a ++ d) (by rw [List.length_append]; omega), hlog, peaks_some a h0, hA, List.take_append_of_le_length hA1, List.drop_append_of_le_length hA1]
      have hdrop : (a.drop (2 ^ A)).length = a.length - 2 ^ A := List.length_drop
      have hAp : 0 < 2 ^ A := Nat.pow_pos (by decide)
      have hlt : a.length - 2 ^ A < n := by rw [← hn]; exact Nat.sub_lt (by omega) hAp
      rw [ih (a.length - 2 ^ A) hlt (a.drop (2 ^ A)) d hdrop (by rw [hdrop, hq, hA1', ← Nat.mul_sub]; exact Nat.dvd_mul_right _ _) hl]
      rfl
/-- nodes from the right -/
def fold : List (List Nat) → List Nat
  | [] => Sha.sha []
  | [x] => x
  | x :: y :: xs => node x (fold (y :: xs))
theorem fold_cons (x : List Nat) (xs : List (List Nat)) (h : xs ≠ []) : fold (x :: xs) = node x (fold xs) := by
  cases xs with
  | nil => exact absurd rfl h
  | cons y ys => rfl
theorem peaks_ne (l : List (List Nat)) (h : l.length ≠ 0) : peaks l ≠ [] := by rw [peaks_some l h]; simp
theorem fold_peaks : ∀ (n : Nat) (l : List (List Nat)), l.length = n → fold (peaks l) = root l := by
  intro n
  induction n using Nat.strongRecOn with
  | _ n ih =>
    intro l hn
    by_cases h0 : l.length = 0
    · rw [peaks_none l h0, root_none l h0]
      rfl
    · have h1 := Nat.log2_self_le h0
      have h2 := Nat.lt_log2_self (n := l.length)
      have hp := Nat.pow_pos (n := Nat.log2 l.length) (show 0 < 2 by decide)
      rw [peaks_some l h0]
      generalize Nat.log2 l.length = A at *
      by_cases hd : l.length = 2 ^ A
      · rw [peaks_none (l.drop (2 ^ A)) (by rw [List.length_drop]; omega), List.take_of_length_le (by omega)]
        rfl
      · have hdl : (l.drop (2 ^ A)).length = l.length - 2 ^ A := List.length_drop
        rw [fold_cons _ _ (peaks_ne _ (by omega)), ih (l.length - 2 ^ A) (by omega) _ hdl]
        have hpow : 2 ^ (A + 1) = 2 * 2 ^ A := by rw [Nat.pow_succ]; omega
        rw [← root_parts (l.take (2 ^ A)) (l.drop (2 ^ A)) A (by rw [List.length_take]; omega) (by omega) (by omega), List.take_append_drop]
/-- how many -/
theorem peaks_length (e : Nat) : ∀ l : List (List Nat), l.length < 2 ^ e → (peaks l).length ≤ e := by
  induction e with
  | zero =>
    intro l h
    rw [peaks_none l (by simpa using h)]
    simp
  | succ e ih =>
    intro l h
    by_cases h0 : l.length = 0
    · rw [peaks_none l h0]
      simp
    · have h1 := Nat.log2_self_le h0
      have h2 := Nat.lt_log2_self (n := l.length)
      have h3 := (Nat.log2_lt h0).2 h
      have h4 := Nat.pow_le_pow_right (n := 2) (by decide) (show Nat.log2 l.length ≤ e by omega)
      rw [Nat.pow_succ] at h2
      rw [peaks_some l h0]
      have := ih (l.drop (2 ^ Nat.log2 l.length)) (by rw [List.length_drop]; omega)
      simp only [List.length_cons]
      omega

/-- two rows of one length with one root that are unlike: their first parts are unlike, or their others -/
theorem root_len1 (a b : List (List Nat)) (h : a.length = b.length) (h2 : a.length < 2) (hr : root a = root b) : a = b := by
  rcases Nat.lt_or_ge a.length 1 with h1 | h1
  · have ha : a = [] := List.length_eq_zero_iff.1 (by omega)
    have hb : b = [] := List.length_eq_zero_iff.1 (by omega)
    rw [ha, hb]
  · have ha : a.length = 1 := by omega
    have hb : b.length = 1 := by omega
    obtain ⟨x, rfl⟩ := List.length_eq_one_iff.1 ha
    obtain ⟨y, rfl⟩ := List.length_eq_one_iff.1 hb
    rw [root_single, root_single] at hr
    rw [hr]
end Tree
end Go.Proofs.YtjdmpanemdhbbaaDoor

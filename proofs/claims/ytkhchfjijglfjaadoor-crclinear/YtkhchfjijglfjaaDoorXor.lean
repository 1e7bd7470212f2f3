/- Rows that are made byte by byte out of three: their sums go together. -/
import Derived.Test.YtkhchfjijglfjaaDoorFlips
namespace Go.Proofs.YtkhchfjijglfjaaDoor.Crc

/-- the row behind k rounds -/
def xorTo (a b c : List Nat) (n k : Nat) : List Nat := (List.range n).map fun j => if j < k then a.getD j 0 ^^^ b.getD j 0 ^^^ c.getD j 0 else 0

theorem xorTo_length (a b c : List Nat) (n k : Nat) : (xorTo a b c n k).length = n := by simp [xorTo]
theorem xorTo_zero (a b c : List Nat) (n : Nat) : xorTo a b c n 0 = List.replicate n 0 := by
  apply List.ext_getElem
  · simp [xorTo]
  · intro i h1 h2
    simp [xorTo]
theorem xorTo_succ (a b c : List Nat) (n k : Nat) : (xorTo a b c n k).set k (a.getD k 0 ^^^ b.getD k 0 ^^^ c.getD k 0) = xorTo a b c n (k + 1) := by
  apply List.ext_getElem
  · simp [xorTo]
  · intro i h1 h2
    rw [List.getElem_set]
    by_cases h : k = i
    · subst h
      simp [xorTo]
    · rw [if_neg h]
      simp only [xorTo, List.getElem_map, List.getElem_range]
      by_cases h3 : i < k
      · rw [if_pos h3, if_pos (by omega)]
      · rw [if_neg h3, if_neg (by omega)]
theorem xorTo_lt (a b c : List Nat) (ha : ∀ j : Nat, a.getD j 0 < 256) (hb : ∀ j : Nat, b.getD j 0 < 256) (hc : ∀ j : Nat, c.getD j 0 < 256) (n k j : Nat) : (xorTo a b c n k).getD j 0 < 256 := by
  by_cases hj : j < n
  · have e : (xorTo a b c n k).getD j 0 = if j < k then a.getD j 0 ^^^ b.getD j 0 ^^^ c.getD j 0 else 0 := by
      rw [List.getD_eq_getElem?_getD, List.getElem?_eq_getElem (by rw [xorTo_length]; exact hj)]
      simp [xorTo]
    rw [e]
    split
    · exact Nat.xor_lt_two_pow (n := 8) (Nat.xor_lt_two_pow (n := 8) (ha j) (hb j)) (hc j)
    · decide
  · rw [List.getD_eq_getElem?_getD, List.getElem?_eq_none (by rw [xorTo_length]; omega)]
    decide

theorem run_three (n : Nat) : ∀ (a b c : List Nat) (r s t : BitVec 32), n ≤ a.length → n ≤ b.length → n ≤ c.length →
    run (r ^^^ s ^^^ t) (xorTo a b c n n) = run r (a.take n) ^^^ run s (b.take n) ^^^ run t (c.take n) := by
  induction n with
  | zero => intro a b c r s t _ _ _; simp [xorTo, run_nil]
  | succ n ih =>
    intro a b c r s t ha hb hc
    have e : xorTo a b c (n + 1) (n + 1) = xorTo a b c n n ++ [a.getD n 0 ^^^ b.getD n 0 ^^^ c.getD n 0] := by
      unfold xorTo
      rw [List.range_succ, List.map_append]
      congr 1
      · apply List.map_congr_left
        intro j hj
        have := List.mem_range.1 hj
        rw [if_pos (by omega), if_pos this]
      · simp
    have t1 : ∀ l : List Nat, n + 1 ≤ l.length → l.take (n + 1) = l.take n ++ [l.getD n 0] := by
      intro l hl
      rw [List.take_succ_eq_append_getElem (by omega), List.getD_eq_getElem?_getD, List.getElem?_eq_getElem (by omega)]
      rfl
    rw [e, t1 a ha, t1 b hb, t1 c hc, run_snoc, run_snoc, run_snoc, run_snoc, ih a b c r s t (by omega) (by omega) (by omega)]
    unfold byteStep
    rw [ofNat_xor, ofNat_xor, ← steps_xor, ← steps_xor]
    generalize run r (a.take n) = x
    generalize run s (b.take n) = y
    generalize run t (c.take n) = z
    generalize BitVec.ofNat 32 (a.getD n 0) = p
    generalize BitVec.ofNat 32 (b.getD n 0) = q
    generalize BitVec.ofNat 32 (c.getD n 0) = u
    congr 1
    apply BitVec.eq_of_getLsbD_eq
    intro i _
    simp only [BitVec.getLsbD_xor]
    cases x.getLsbD i <;> cases y.getLsbD i <;> cases z.getLsbD i <;> cases p.getLsbD i <;> cases q.getLsbD i <;> cases u.getLsbD i <;> rfl

theorem more_three (n : Nat) (a b c : List Nat) (s : BitVec 32) (ha : n ≤ a.length) (hb : n ≤ b.length) (hc : n ≤ c.length) :
    more s (xorTo a b c n n) = more s (a.take n) ^^^ more s (b.take n) ^^^ more s (c.take n) := by
  have h := run_three n a b c (~~~ s) (~~~ s) (~~~ s) ha hb hc
  rw [BitVec.xor_self, BitVec.zero_xor] at h
  unfold more
  rw [h]
  generalize run (~~~ s) (a.take n) = x
  generalize run (~~~ s) (b.take n) = y
  generalize run (~~~ s) (c.take n) = z
  apply BitVec.eq_of_getLsbD_eq
  intro i hi
  simp only [BitVec.getLsbD_xor, BitVec.getLsbD_not]
  simp only [hi, decide_true, Bool.true_and]
  cases x.getLsbD i <;> cases y.getLsbD i <;> cases z.getLsbD i <;> rfl
end Go.Proofs.YtkhchfjijglfjaaDoor.Crc

/- Plain mathematics of proofs held: the way up of a leaf, the two ways of a beginning. -/
import Derived.Test.YtjdmpanemdhbbaaDoorTMath
namespace Go.Proofs.YtjdmpanemdhbbaaDoor
namespace Tree

/-- the last of a row -/
def lastOf (r : List (List Nat)) : List Nat := r.getD (r.length - 1) []
/-- and the others -/
def othersOf (r : List (List Nat)) : List (List Nat) := r.take (r.length - 1)
theorem others_length (r : List (List Nat)) : (othersOf r).length = r.length - 1 := by simp [othersOf]
theorem lastOf_append (r : List (List Nat)) (x : List Nat) : lastOf (r ++ [x]) = x := by simp [lastOf]
theorem othersOf_append (r : List (List Nat)) (x : List Nat) : othersOf (r ++ [x]) = r := by simp [othersOf]

/-- the way up -/
def up (x : List Nat) (m n : Nat) (row : List (List Nat)) : Option (List Nat) :=
  if _h : n < 2 then (if row.length = 0 then some x else none)
  else if row.length = 0 then none
  else if m < half n then (up x m (half n) (othersOf row)).map fun h => node h (lastOf row)
  else (up x (m - half n) (n - half n) (othersOf row)).map fun h => node (lastOf row) h
termination_by n
decreasing_by
  · exact half_lt n (by omega)
  · have := half_pos n
    omega
theorem up_one (x : List Nat) (m n : Nat) (row : List (List Nat)) (h : n < 2) : up x m n row = if row.length = 0 then some x else none := by rw [up, dif_pos h]
theorem up_none (x : List Nat) (m n : Nat) (row : List (List Nat)) (h : 2 ≤ n) (hr : row.length = 0) : up x m n row = none := by rw [up, dif_neg (by omega), if_pos hr]
theorem up_low (x : List Nat) (m n : Nat) (row : List (List Nat)) (h : 2 ≤ n) (hr : row.length ≠ 0) (hm : m < half n) : up x m n row = (up x m (half n) (othersOf row)).map fun h => node h (lastOf row) := by rw [up, dif_neg (by omega), if_neg hr, if_pos hm]
theorem up_high (x : List Nat) (m n : Nat) (row : List (List Nat)) (h : 2 ≤ n) (hr : row.length ≠ 0) (hm : ¬ m < half n) : up x m n row = (up x (m - half n) (n - half n) (othersOf row)).map fun h => node (lastOf row) h := by rw [up, dif_neg (by omega), if_neg hr, if_neg hm]

/-- the two ways -/
def two (m n : Nat) (a : List Nat) (row : List (List Nat)) (whole : Bool) : Option (List Nat × List Nat) :=
  if m = n ∧ whole = true then (if row.length = 0 then some (a, a) else none)
  else if row.length = 0 then none
  else if m = n then (if row.length = 1 then some (lastOf row, lastOf row) else none)
  else if _h : n < 2 then none
  else if m ≤ half n then (two m (half n) a (othersOf row) whole).map fun w => (w.1, node w.2 (lastOf row))
  else (two (m - half n) (n - half n) a (othersOf row) false).map fun w => (node (lastOf row) w.1, node (lastOf row) w.2)
termination_by n
decreasing_by
  · exact half_lt n (by omega)
  · have := half_pos n
    omega
theorem two_whole (m n : Nat) (a : List Nat) (row : List (List Nat)) (h : m = n) : two m n a row true = if row.length = 0 then some (a, a) else none := by rw [two, if_pos ⟨h, rfl⟩]
theorem two_none (m n : Nat) (a : List Nat) (row : List (List Nat)) (whole : Bool) (h : ¬ (m = n ∧ whole = true)) (hr : row.length = 0) : two m n a row whole = none := by rw [two, if_neg h, if_pos hr]
theorem two_part' (m n : Nat) (a : List Nat) (row : List (List Nat)) (h : m = n) (hr : row.length ≠ 0) : two m n a row false = if row.length = 1 then some (lastOf row, lastOf row) else none := by rw [two, if_neg (by simp), if_neg hr, if_pos h]
theorem two_low (m n : Nat) (a : List Nat) (row : List (List Nat)) (whole : Bool) (h : 2 ≤ n) (hn : m ≠ n) (hr : row.length ≠ 0) (hm : m ≤ half n) : two m n a row whole = (two m (half n) a (othersOf row) whole).map fun w => (w.1, node w.2 (lastOf row)) := by
  rw [two, if_neg (fun h => hn h.1), if_neg hr, if_neg hn, dif_neg (by omega), if_pos hm]
theorem two_high (m n : Nat) (a : List Nat) (row : List (List Nat)) (whole : Bool) (h : 2 ≤ n) (hn : m ≠ n) (hr : row.length ≠ 0) (hm : ¬ m ≤ half n) : two m n a row whole = (two (m - half n) (n - half n) a (othersOf row) false).map fun w => (node (lastOf row) w.1, node (lastOf row) w.2) := by
  rw [two, if_neg (fun h => hn h.1), if_neg hr, if_neg hn, dif_neg (by omega), if_neg hm]

/-- held: what the program and the document answer -/
def inclOk (leaf : List Nat) (m n : Int) (row : List (List Nat)) (root : List Nat) : Bool := decide (0 ≤ m ∧ m < n) && decide (up leaf m.toNat n.toNat row = some root)
def consOk (m n : Int) (a b : List Nat) (row : List (List Nat)) : Bool := decide (0 ≤ m ∧ m ≤ n) && (if m = 0 then decide (row.length = 0) && (decide (a = Sha.sha []) && (decide (0 < n) || decide (b = a))) else decide (two m.toNat n.toNat a row true = some (a, b)))

theorem take_half_length (l : List (List Nat)) (h : 2 ≤ l.length) : (l.take (half l.length)).length = half l.length := by
  have := half_lt l.length h
  rw [List.length_take]
  omega
theorem drop_half_length (l : List (List Nat)) : (l.drop (half l.length)).length = l.length - half l.length := List.length_drop
theorem getD_take (l : List (List Nat)) (k m : Nat) (h : m < k) : (l.take k).getD m [] = l.getD m [] := by simp [List.getD_eq_getElem?_getD, h]
theorem getD_drop (l : List (List Nat)) (k m : Nat) (h : k ≤ m) : (l.drop k).getD (m - k) [] = l.getD m [] := by simp [List.getD_eq_getElem?_getD, List.getElem?_drop, show k + (m - k) = m by omega]

/-- what is proved is held -/
theorem up_incl : ∀ (n : Nat) (l : List (List Nat)) (m : Nat), l.length = n → m < n → up (l.getD m []) m n (incl l m) = some (root l) := by
  intro n
  induction n using Nat.strongRecOn with
  | _ n ih =>
    intro l m hn hm
    by_cases h2 : 2 ≤ n
    · have hlt := half_lt n h2
      have hpos := half_pos n
      have hl := take_half_length l (by omega)
      have hd := drop_half_length l
      rw [hn] at hl hd
      by_cases hlow : m < half n
      · rw [incl_low l m (by omega) (by rw [hn]; exact hlow), hn, up_low _ _ _ _ h2 (by simp) hlow, lastOf_append, othersOf_append]
        have := ih (half n) hlt (l.take (half n)) m hl hlow
        rw [getD_take l _ m hlow] at this
        rw [this, root_two l (by omega), hn]
        rfl
      · rw [incl_high l m (by omega) (by rw [hn]; exact hlow), hn, up_high _ _ _ _ h2 (by simp) hlow, lastOf_append, othersOf_append]
        have := ih (n - half n) (by omega) (l.drop (half n)) (m - half n) hd (by omega)
        rw [getD_drop l _ m (by omega)] at this
        rw [this, root_two l (by omega), hn]
        rfl
    · rw [incl_one l m (by omega), up_one _ _ _ _ (by omega), root_one l (by omega), show m = 0 by omega]
      rfl
theorem root_take (l : List (List Nat)) (m : Nat) (h : half l.length < m) (hm : m ≤ l.length) (h2 : 2 ≤ l.length) : root (l.take m) = node (root (l.take (half l.length))) (root ((l.drop (half l.length)).take (m - half l.length))) := by
  have hlen : (l.take m).length = m := by rw [List.length_take]; omega
  have hge := half_ge l.length h2
  have hh : half m = half l.length := by
    show half m = 2 ^ Nat.log2 (l.length - 1)
    refine half_is _ m ?_ ?_
    · exact h
    · have : m ≤ 2 * half l.length := by omega
      exact this
  have hpos := half_pos l.length
  rw [root_two (l.take m) (by omega), hlen, hh, List.take_take, Nat.min_eq_left (by omega), List.drop_take]
/-- what is proved is held -/
theorem two_part : ∀ (n : Nat) (l : List (List Nat)) (m : Nat) (a : List Nat) (whole : Bool), l.length = n → 1 ≤ m → m ≤ n → (whole = true → a = root (l.take m)) → two m n a (part l m whole) whole = some (root (l.take m), root l) := by
  intro n
  induction n using Nat.strongRecOn with
  | _ n ih =>
    intro l m a whole hn h1 hm ha
    by_cases hall : m = n
    · have ht : l.take m = l := List.take_of_length_le (by omega)
      rw [part_all l m whole (by omega), ht]
      cases whole with
      | true =>
        have := ha rfl
        rw [ht] at this
        rw [two_whole _ _ _ _ hall, this]
        rfl
      | false =>
        rw [two_part' _ _ _ _ hall (by simp)]
        rfl
    · have h2 : 2 ≤ n := by omega
      have hlt := half_lt n h2
      have hpos := half_pos n
      have hl := take_half_length l (by omega)
      have hd := drop_half_length l
      rw [hn] at hl hd
      by_cases hlow : m ≤ half n
      · rw [part_low l m whole (by omega) (by omega) (by rw [hn]; exact hlow), hn, two_low _ _ _ _ _ h2 hall (by simp) hlow, lastOf_append, othersOf_append]
        have ht : (l.take (half n)).take m = l.take m := by rw [List.take_take, Nat.min_eq_left hlow]
        have := ih (half n) hlt (l.take (half n)) m a whole hl h1 hlow (by rw [ht]; exact ha)
        rw [this, ht, root_two l (by omega), hn]
        rfl
      · rw [part_high l m whole (by omega) (by omega) (by rw [hn]; exact hlow), hn, two_high _ _ _ _ _ h2 hall (by simp) hlow, lastOf_append, othersOf_append]
        have := ih (n - half n) (by omega) (l.drop (half n)) (m - half n) a false hd (by omega) (by omega) (by intro h; cases h)
        have hr := root_take l m (by rw [hn]; omega) (by omega) (by omega)
        rw [hn] at hr
        rw [this, hr, root_two l (by omega), hn]
        rfl

/-- the row of a way has one length -/
theorem up_len : ∀ (n : Nat) (x y x' y' : List Nat) (m : Nat) (r r' : List (List Nat)), up x m n r = some y → up x' m n r' = some y' → r.length = r'.length := by
  intro n
  induction n using Nat.strongRecOn with
  | _ n ih =>
    intro x y x' y' m r r' h h'
    by_cases h2 : 2 ≤ n
    · have hlt := half_lt n h2
      have hpos := half_pos n
      have hr : r.length ≠ 0 := fun e => by rw [up_none _ _ _ _ h2 e] at h; cases h
      have hr' : r'.length ≠ 0 := fun e => by rw [up_none _ _ _ _ h2 e] at h'; cases h'
      have e := others_length r
      have e' := others_length r'
      by_cases hlow : m < half n
      · rw [up_low _ _ _ _ h2 hr hlow] at h
        rw [up_low _ _ _ _ h2 hr' hlow] at h'
        obtain ⟨z, hz, _⟩ := Option.map_eq_some_iff.1 h
        obtain ⟨z', hz', _⟩ := Option.map_eq_some_iff.1 h'
        have := ih _ hlt _ _ _ _ _ _ _ hz hz'
        omega
      · rw [up_high _ _ _ _ h2 hr hlow] at h
        rw [up_high _ _ _ _ h2 hr' hlow] at h'
        obtain ⟨z, hz, _⟩ := Option.map_eq_some_iff.1 h
        obtain ⟨z', hz', _⟩ := Option.map_eq_some_iff.1 h'
        have := ih _ (by omega) _ _ _ _ _ _ _ hz hz'
        omega
    · rw [up_one _ _ _ _ (by omega)] at h h'
      by_cases hr : r.length = 0
      · by_cases hr' : r'.length = 0
        · omega
        · rw [if_neg hr'] at h'; cases h'
      · rw [if_neg hr] at h; cases h
theorem two_len : ∀ (n : Nat) (m : Nat) (a a' : List Nat) (y y' : List Nat × List Nat) (r r' : List (List Nat)) (whole : Bool), two m n a r whole = some y → two m n a' r' whole = some y' → r.length = r'.length := by
  intro n
  induction n using Nat.strongRecOn with
  | _ n ih =>
    intro m a a' y y' r r' whole h h'
    by_cases hw : m = n ∧ whole = true
    · obtain ⟨hm, rfl⟩ := hw
      rw [two_whole _ _ _ _ hm] at h h'
      by_cases hr : r.length = 0
      · by_cases hr' : r'.length = 0
        · omega
        · rw [if_neg hr'] at h'; cases h'
      · rw [if_neg hr] at h; cases h
    · have hr : r.length ≠ 0 := fun e => by rw [two_none _ _ _ _ _ hw e] at h; cases h
      have hr' : r'.length ≠ 0 := fun e => by rw [two_none _ _ _ _ _ hw e] at h'; cases h'
      have e := others_length r
      have e' := others_length r'
      by_cases hm : m = n
      · have : whole = false := by cases whole <;> simp_all
        subst this
        rw [two_part' _ _ _ _ hm hr] at h
        rw [two_part' _ _ _ _ hm hr'] at h'
        by_cases h1 : r.length = 1
        · by_cases h1' : r'.length = 1
          · omega
          · rw [if_neg h1'] at h'; cases h'
        · rw [if_neg h1] at h; cases h
      · by_cases h2 : 2 ≤ n
        · have hlt := half_lt n h2
          have hpos := half_pos n
          by_cases hlow : m ≤ half n
          · rw [two_low _ _ _ _ _ h2 hm hr hlow] at h
            rw [two_low _ _ _ _ _ h2 hm hr' hlow] at h'
            obtain ⟨z, hz, _⟩ := Option.map_eq_some_iff.1 h
            obtain ⟨z', hz', _⟩ := Option.map_eq_some_iff.1 h'
            have := ih _ hlt _ _ _ _ _ _ _ _ hz hz'
            omega
          · rw [two_high _ _ _ _ _ h2 hm hr hlow] at h
            rw [two_high _ _ _ _ _ h2 hm hr' hlow] at h'
            obtain ⟨z, hz, _⟩ := Option.map_eq_some_iff.1 h
            obtain ⟨z', hz', _⟩ := Option.map_eq_some_iff.1 h'
            have := ih _ (by omega) _ _ _ _ _ _ _ _ hz hz'
            omega
        · rw [two, if_neg hw, if_neg hr, if_neg hm, dif_pos (by omega)] at h
          cases h
end Tree
end Go.Proofs.YtjdmpanemdhbbaaDoor

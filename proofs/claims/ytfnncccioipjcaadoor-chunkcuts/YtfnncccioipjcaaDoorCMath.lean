/- Bytes cut into chunks of 64, plainly: how many, each of them, all together. -/
import Derived.Test.YtfnncccioipjcaaDoorVMath2
namespace Go.Proofs.YtfnncccioipjcaaDoor
namespace Cut

/-- how many chunks so many bytes have -/
def count (n : Nat) : Nat := (n + 63) / 64
theorem count_pos (n : Nat) (h : 1 ≤ n) : count n = (n - 1) / 64 + 1 := by unfold count; omega
theorem count_zero : count 0 = 0 := by decide
theorem count_le (n : Nat) : count n ≤ n := by unfold count; omega
theorem count_mul (n : Nat) : n ≤ count n * 64 := by unfold count; omega
theorem lt_count (n i : Nat) : i < count n ↔ i * 64 < n := by unfold count; omega
/-- the chunk i -/
def piece (b : List Nat) (i : Nat) : List Nat := (b.drop (i * 64)).take 64
theorem piece_length (b : List Nat) (i : Nat) : (piece b i).length = min 64 (b.length - i * 64) := by simp [piece]
theorem piece_pos (b : List Nat) (i : Nat) (h : i < count b.length) : 1 ≤ (piece b i).length := by
  rw [piece_length]; have := (lt_count _ _).1 h; omega
theorem piece_le (b : List Nat) (i : Nat) : (piece b i).length ≤ 64 := by rw [piece_length]; omega
theorem piece_full (b : List Nat) (i : Nat) (h : i + 1 < count b.length) : (piece b i).length = 64 := by
  rw [piece_length]; have := (lt_count _ _).1 h; omega
theorem piece_mem (b : List Nat) (i : Nat) : ∀ c ∈ piece b i, c ∈ b := fun _ hc => List.mem_of_mem_drop (List.mem_of_mem_take hc)
/-- the first k chunks -/
def cutTo (b : List Nat) (k : Nat) : List (List Nat) := (List.range k).map (piece b)
theorem cutTo_length (b : List Nat) (k : Nat) : (cutTo b k).length = k := by simp [cutTo]
theorem cutTo_succ (b : List Nat) (k : Nat) : cutTo b (k + 1) = cutTo b k ++ [piece b k] := by simp [cutTo, List.range_succ]
theorem cutTo_getD (b : List Nat) (k i : Nat) (h : i < k) : (cutTo b k).getD i [] = piece b i := by
  simp [cutTo, List.getD_eq_getElem?_getD, h]
theorem cutTo_flat (b : List Nat) (k : Nat) : (cutTo b k).flatten = b.take (k * 64) := by
  induction k with
  | zero => simp [cutTo]
  | succ k ih =>
    rw [cutTo_succ, List.flatten_append, ih]
    simp only [List.flatten_cons, List.flatten_nil, List.append_nil]
    rw [show (k + 1) * 64 = k * 64 + 64 by omega, List.take_add]
    rfl
def cut (b : List Nat) : List (List Nat) := cutTo b (count b.length)
theorem cut_length (b : List Nat) : (cut b).length = count b.length := cutTo_length _ _
theorem cut_getD (b : List Nat) (i : Nat) (h : i < count b.length) : (cut b).getD i [] = piece b i := cutTo_getD _ _ _ h
theorem cut_flat (b : List Nat) : (cut b).flatten = b := by
  unfold cut
  rw [cutTo_flat, List.take_of_length_le (count_mul _)]
theorem cutTo_mem (b : List Nat) (k : Nat) : ∀ c ∈ cutTo b k, ∃ i, i < k ∧ c = piece b i := by
  intro c hc
  obtain ⟨i, hi, rfl⟩ := List.mem_map.1 hc
  exact ⟨i, List.mem_range.1 hi, rfl⟩
theorem cut_inj (a b : List Nat) (hl : a.length = b.length) (h : ∀ i, i < count a.length → piece a i = piece b i) : a = b := by
  rw [← cut_flat a, ← cut_flat b]
  unfold cut cutTo
  rw [← hl]
  congr 1
  exact List.map_congr_left fun i hi => h i (List.mem_range.1 hi)

/-- the hashes of the first k chunks -/
def lvTo (b : List Nat) (k : Nat) : List (List Nat) := (List.range k).map fun i => Tree.leaf (piece b i)
theorem lvTo_length (b : List Nat) (k : Nat) : (lvTo b k).length = k := by simp [lvTo]
theorem lvTo_succ (b : List Nat) (k : Nat) : lvTo b (k + 1) = lvTo b k ++ [Tree.leaf (piece b k)] := by simp [lvTo, List.range_succ]
theorem lvTo_getD (b : List Nat) (k i : Nat) (h : i < k) : (lvTo b k).getD i [] = Tree.leaf (piece b i) := by
  simp [lvTo, List.getD_eq_getElem?_getD, h]
def leaves (b : List Nat) : List (List Nat) := lvTo b (count b.length)
theorem leaves_length (b : List Nat) : (leaves b).length = count b.length := lvTo_length _ _
theorem leaves_getD (b : List Nat) (i : Nat) (h : i < count b.length) : (leaves b).getD i [] = Tree.leaf (piece b i) := lvTo_getD _ _ _ h
theorem lvTo_lvs (b : List Nat) (k n : Nat) (h : k ≤ n) : lvTo b k = ((cutTo b n).take k).map Tree.leaf := by
  unfold lvTo cutTo
  rw [← List.map_take, List.take_range, List.map_map, Nat.min_eq_left h]
  rfl
def root (b : List Nat) : List Nat := Tree.root (leaves b)

/-- P7.3, plainly -/
def check (c : List Nat) (i length : Int) (row : List (List Nat)) (r : List Nat) : Bool :=
  decide (0 ≤ i ∧ i < (count length.toNat : Nat)) && (decide ((c.length : Int) = min 64 (length - i * 64)) && Tree.inclOk (Tree.leaf c) i (count length.toNat : Nat) row r)
theorem check_own (b : List Nat) (i : Nat) (h : i < count b.length) : check (piece b i) i b.length (Tree.incl (leaves b) i) (root b) = true := by
  have h1 : Tree.inclOk (Tree.leaf (piece b i)) i (count b.length : Nat) (Tree.incl (leaves b) i) (root b) = true := by
    rw [← leaves_getD b i h, Tree.inclOk_incl (leaves b) i _ (leaves_length b) h]
    exact decide_eq_true rfl
  have h2 := (lt_count b.length i).1 h
  have h3 : ((piece b i).length : Int) = min 64 ((b.length : Int) - i * 64) := by rw [piece_length]; omega
  unfold check
  rw [Int.toNat_natCast, h1, decide_eq_true h3, decide_eq_true ⟨by omega, by omega⟩]
  rfl
theorem check_len (b c : List Nat) (i : Nat) (h : i < count b.length) (hc : c.length ≠ (piece b i).length) (row : List (List Nat)) (r : List Nat) : check c i b.length row r = false := by
  have h2 := (lt_count b.length i).1 h
  have h3 : ¬ ((c.length : Int) = min 64 ((b.length : Int) - i * 64)) := by rw [piece_length] at hc; omega
  unfold check
  rw [decide_eq_false h3]
  simp
theorem check_none (n : Nat) (row : List (List Nat)) (r : List Nat) : check [] 0 n row r = false := by
  unfold check
  rcases Nat.lt_or_ge 0 n with h | h
  · have h3 : ¬ ((([] : List Nat).length : Int) = min 64 ((n : Int) - 0 * 64)) := by simp; omega
    rw [decide_eq_false h3]
    simp
  · obtain rfl : n = 0 := by omega
    simp [count]
end Cut
end Go.Proofs.YtfnncccioipjcaaDoor

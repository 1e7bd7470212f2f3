/- One leaf more: the carry. -/
import Derived.Test.YtmjbjepmnjocjaaDoorTMem
namespace Go.Proofs.YtmjbjepmnjocjaaDoor
namespace Tree
theorem add_step (A Bs : List (List Nat)) (x : List Nat) (j q : Nat) (hA : A.length = (2 * q + 1) * 2 ^ j) (hB : Bs.length + 1 = 2 ^ j) :
    ∃ A' C, A = A' ++ C ∧ C.length = 2 ^ j ∧ A'.length = q * 2 ^ (j + 1) ∧ peaks A = peaks A' ++ [root C] ∧ root ((C ++ Bs) ++ [x]) = node (root C) (root (Bs ++ [x])) ∧ (C ++ Bs).length + 1 = 2 ^ (j + 1) := by
  have h1 : q * 2 ^ (j + 1) + 2 ^ j = (2 * q + 1) * 2 ^ j := by rw [Nat.pow_succ, Nat.add_mul, Nat.one_mul, Nat.mul_comm 2 q, Nat.mul_assoc, Nat.mul_comm 2 (2 ^ j)]
  have hl1 : (A.take (q * 2 ^ (j + 1))).length = q * 2 ^ (j + 1) := by rw [List.length_take]; omega
  have hl2 : (A.drop (q * 2 ^ (j + 1))).length = 2 ^ j := by rw [List.length_drop]; omega
  refine ⟨A.take (q * 2 ^ (j + 1)), A.drop (q * 2 ^ (j + 1)), (List.take_append_drop _ _).symm, hl2, hl1, ?_, ?_, ?_⟩
  · have := peaks_behind j _ (A.take (q * 2 ^ (j + 1))) (A.drop (q * 2 ^ (j + 1))) rfl ⟨q, by rw [hl1, Nat.mul_comm]⟩ hl2
    rwa [List.take_append_drop] at this
  · rw [List.append_assoc]
    exact root_parts _ _ j hl2 (by simp) (by simp; omega)
  · rw [List.length_append, hl2, Nat.pow_succ]
    omega
theorem add_end (A Bs : List (List Nat)) (x : List Nat) (j q : Nat) (hA : A.length = (2 * q) * 2 ^ j) (hB : Bs.length + 1 = 2 ^ j) : peaks ((A ++ Bs) ++ [x]) = peaks A ++ [root (Bs ++ [x])] := by
  rw [List.append_assoc]
  refine peaks_behind j _ A (Bs ++ [x]) rfl ⟨q, ?_⟩ (by simp; omega)
  rw [hA, Nat.pow_succ, Nat.mul_comm 2 q, Nat.mul_assoc, Nat.mul_comm q, Nat.mul_comm 2]
theorem fold_drop (ps : List (List Nat)) (j : Nat) (h : j + 1 < ps.length) : fold (ps.drop j) = node (ps.getD j []) (fold (ps.drop (j + 1))) := by
  rw [List.drop_eq_getElem_cons (by omega), fold_cons _ _ (by
    intro e
    have := congrArg List.length e
    simp at this
    omega)]
  simp [show j < ps.length by omega]
theorem fold_last (ps : List (List Nat)) (j : Nat) (h : j + 1 = ps.length) : fold (ps.drop j) = ps.getD j [] := by
  rw [List.drop_eq_getElem_cons (by omega), List.drop_of_length_le (by omega)]
  simp [show j < ps.length by omega, fold]
end Tree
theorem peaks_all : ∀ (n : Nat) (hs : List (List Nat)), hs.length = n → AllH hs → AllH (Tree.peaks hs) := by
  intro n
  induction n using Nat.strongRecOn with
  | _ n ih =>
    intro hs hn ha
    by_cases h0 : hs.length = 0
    · rw [Tree.peaks_none hs h0]
      exact AllH.nil
    · have hp := Nat.pow_pos (n := Nat.log2 hs.length) (show 0 < 2 by decide)
      rw [Tree.peaks_some hs h0]
      intro x hx
      rcases List.mem_cons.1 hx with rfl | hx
      · exact (ha.take _).root
      · exact ih (hs.length - 2 ^ Nat.log2 hs.length) (by omega) (hs.drop (2 ^ Nat.log2 hs.length)) List.length_drop (ha.drop _) x hx
theorem AllH.peaks {hs : List (List Nat)} (h : AllH hs) : AllH (Tree.peaks hs) := peaks_all _ hs rfl h
end Go.Proofs.YtmjbjepmnjocjaaDoor

/- Numbers that the statements reckon: the negative made plain, the rest of a division; what the proofs of a tree answer. -/
import Derived.Test.YtjdmpanemdhbbaaDoorRows6
import Derived.Test.YtjdmpanemdhbbaaDoorInclB
import Derived.Test.YtjdmpanemdhbbaaDoorVMath2
namespace Go.Proofs.YtjdmpanemdhbbaaDoor
open Go.RowKit
section
variable {w : World} {ops : Array Oper} {rest : List Oper} {o : Oper} {a : Act} {Q : Exit → Act → World → Prop}
theorem wl_neg (x : Operand) (hgd : Region.wanted o (yielded ops a.tmps) = true) (ho : o.op = .unOp .neg 3 x) (K : Int) (hx : a.eval x = .int .i64 K) (M : Nat) (hK : -K = (M : Int)) (hM : M ≤ 9223372036854775807)
    (h : wpList Tryd.prog ops Q rest (a.put o.dst (.int .i64 (M : Nat))) w) : wpList Tryd.prog ops Q (o :: rest) a w := by
  refine wl hgd _ w ?_ h
  have e : IntKind.i64.wrap (-K) = (M : Int) := by
    rw [IntKind.wrap_i64]
    omega
  simp only [execOp, ho, hx]
  simp [go_sem, e]
theorem wl_rem (x y : Operand) (hgd : Region.wanted o (yielded ops a.tmps) = true) (ho : o.op = .binOp .rem 3 x y 3) (A B : Nat) (hx : a.eval x = .int .i64 (A : Nat)) (hy : a.eval y = .int .i64 (B : Nat)) (hB : 0 < B)
    (h : wpList Tryd.prog ops Q rest (a.put o.dst (.int .i64 ((A % B : Nat) : Int))) w) : wpList Tryd.prog ops Q (o :: rest) a w := by
  refine wl hgd _ w ?_ h
  have hB0 : ¬ B = 0 := by omega
  have e : (A : Int).tmod (B : Int) = (A : Int) % (B : Int) := Int.tmod_eq_emod_of_nonneg (by omega)
  simp only [execOp, ho, hx, hy]
  simp [go_sem, hB0, e]
end
theorem inclAns_nat (hs : List (List Nat)) (m : Nat) (h : m < hs.length) : inclAns hs m = Tree.incl hs m ∧ inclErr hs m = 0 := by
  unfold inclAns inclErr
  refine ⟨?_, if_pos (by omega)⟩
  rw [if_pos (by omega)]
  rfl
theorem consAns_nat (hs : List (List Nat)) (m : Nat) (h : m ≤ hs.length) (h1 : 1 ≤ m) : consAns hs m = Tree.part hs m true := by
  unfold consAns
  rw [if_pos (by omega)]
  rfl
theorem consErr_nat (hs : List (List Nat)) (m : Nat) (h : m ≤ hs.length) : consErr hs m = 0 := by
  unfold consErr
  rw [if_pos (by omega)]
theorem consOk_ans (hs : List (List Nat)) (m n : Nat) (hn : hs.length = n) (h : m ≤ n) : Tree.consOk m n (Tree.root (hs.take m)) (Tree.root hs) (consAns hs m) = true := by
  by_cases h0 : m = 0
  · subst h0
    have e : consAns hs (0 : Nat) = [] := by unfold consAns; rw [if_neg (by omega)]
    rw [e, List.take_zero]
    exact Tree.consOk_zero hs n hn
  · rw [consAns_nat hs m (by omega) (by omega), Tree.consOk_part hs m n hn h (by omega)]
    exact decide_eq_true rfl
theorem leafs_length (L : List (List Nat)) : (L.map Tree.leaf).length = L.length := List.length_map ..
end Go.Proofs.YtjdmpanemdhbbaaDoor

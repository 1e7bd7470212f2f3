/- What 'shown' wants: constants, a row of three, the document's small examples. -/
import Derived.Test.YtmjbjepmnjocjaaDoorAdd
import Derived.Lib.SlBytesConst
namespace Go.Proofs.YtmjbjepmnjocjaaDoor
open Go.RowKit

theorem const_slice (w : World) (y : Nat) (hy : y < 256) (fz : Nat × Nat) : SliceIn (w.alloc (.cells (bcells [y]).toArray 5 fz)) (.slice (some ⟨w.heap.size, 0, none⟩) 1 1) [y] := by
  refine ⟨_, 1, rfl, ⟨Nat.le_refl _, by simp⟩, Or.inr ⟨w.heap.size, 0, rfl, fun j hj => ?_, lt256 [y] (by simpa using hy)⟩⟩
  have e : ∀ o : Obj, (w.alloc o).heap[w.heap.size]? = some o := fun o => by
    show (w.heap.push o)[w.heap.size]? = _
    simp
  unfold World.cell?
  rw [e]
  simp at hj
  subst hj
  simp [bcells]
section
variable {w : World} {ops : Array Oper} {rest : List Oper} {a : Act} {Q : Exit → Act → World → Prop}
theorem wl_const1 {o1 o2 : Oper} (d1 d2 : Tmp) (hg1 : o1.guard = none) (hg2 : o2.guard = none) (hd1 : o1.dst = some d1) (hd2 : o2.dst = some d2) (y : Nat) (hy : y < 256) (Y : Int) (hY : Y = (y : Int)) (ho1 : o1.op = .buildSlice 22 1 #[(0, .const (.int .u8 Y))]) (ho2 : o2.op = .convert 22 22 (.tmp d1)) (hx : ∀ v, (a.put (some d1) v).eval (.tmp d1) = v)
    (h : ∀ w', SliceIn w' (.slice (some ⟨w.heap.size, 0, none⟩) 1 1) [y] → Below w.heap.size w w' → wpList Tryd.prog ops Q rest ((a.put (some d1) (.slice (some ⟨w.heap.size, 0, none⟩) 1 1)).put (some d2) (.slice (some ⟨w.heap.size, 0, none⟩) 1 1)) w') : wpList Tryd.prog ops Q (o1 :: o2 :: rest) a w := by
  subst hY
  refine wl (by simp [Region.wanted, hg1]) (.slice (some ⟨w.heap.size, 0, none⟩) 1 1) (w.alloc (.cells (bcells [y]).toArray 5)) (by simp only [execOp, ho1, List.map_toArray, List.map_cons, List.map_nil, Act.eval, run_blit1, Sem.run_bind, Sem.run_pure, Result.andThen_ok]) ?_
  rw [hd1]
  have hc := Lib.run_convert_bytes_const (P := Tryd.prog) w 22 5 (bcells [y]).toArray 1 1 Tryd.underlying22 Tryd.underlying5
  refine wl (by simp [Region.wanted, hg2]) (.slice (some ⟨w.heap.size, 0, none⟩) 1 1) (w.alloc (.cells (bcells [y]).toArray 5 ((bcells [y]).toArray.size, (bcells [y]).toArray.size + 1))) (by simp only [execOp, ho2, hx, hc, Sem.run_bind, Sem.run_pure, Result.andThen_ok]) ?_
  rw [hd2]
  exact h _ (const_slice w y hy _) (below_alloc w _)
theorem wl_hlit3 {o : Oper} (x y z : Operand) (hgd : Region.wanted o (yielded ops a.tmps) = true) (ho : o.op = .buildSlice 24 3 #[(0, x), (1, y), (2, z)]) (h1 h2 h3 : List Nat) (i1 : IsH h1) (i2 : IsH h2) (i3 : IsH h3) (hx : a.eval x = hv h1) (hy : a.eval y = hv h2) (hz : a.eval z = hv h3)
    (h : ∀ v' w', HIn w' v' [h1, h2, h3] → Below w.heap.size w w' → wpList Tryd.prog ops Q rest (a.put o.dst v') w') : wpList Tryd.prog ops Q (o :: rest) a w := by
  have ha : AllH [h1, h2, h3] := fun u hu => by
    rcases List.mem_cons.1 hu with rfl | hu
    · exact i1
    rcases List.mem_cons.1 hu with rfl | hu
    · exact i2
    rw [List.mem_singleton.1 hu]
    exact i3
  have hr : (Instr.buildSlice 24 3 #[(0, hv h1), (1, hv h2), (2, hv h3)]).run Tryd.prog w = .ok (.slice (some ⟨w.heap.size, 0, none⟩) 3 3) (w.alloc (.cells (bcells [h1, h2, h3].flatten).toArray 27)) := run_hlit [h1, h2, h3] ha (by simp) (by simp) #[(0, hv h1), (1, hv h2), (2, hv h3)] rfl w
  exact wl hgd (.slice (some ⟨w.heap.size, 0, none⟩) 3 3) (w.alloc (.cells (bcells [h1, h2, h3].flatten).toArray 27)) (by simp only [execOp, ho, List.map_toArray, List.map_cons, List.map_nil, hx, hy, hz, hr, Sem.run_bind, Sem.run_pure, Result.andThen_ok]) (h _ _ (hlit_own w w.heap.size (Nat.le_refl _) [h1, h2, h3] ha (by simp)).hin (below_alloc w _))
end
theorem Kept.below {g B : Nat} {k : Option Nat} {w w' : World} (h : Kept g k w w') (hg : B ≤ g) (hk : ∀ i, k = some i → B ≤ i) (hB : B ≤ w.heap.size) : Below B w w' :=
  ⟨h.os, h.tape, h.output, h.size, fun i hi => h.block i (by omega) (by omega) (fun e => by have := hk i e; omega)⟩

/-! the document's small examples -/
theorem half3 : Tree.half 3 = 2 := by decide
theorem half2 : Tree.half 2 = 1 := by decide
theorem root_ab (a b : List Nat) : Tree.root [a, b] = Tree.node a b := by
  rw [Tree.root_two _ (by simp)]
  show Tree.node (Tree.root ([a, b].take (Tree.half 2))) (Tree.root ([a, b].drop (Tree.half 2))) = _
  rw [half2]
  show Tree.node (Tree.root [a]) (Tree.root [b]) = _
  rw [Tree.root_single, Tree.root_single]
theorem root_abc (a b c : List Nat) : Tree.root [a, b, c] = Tree.node (Tree.node a b) c := by
  rw [Tree.root_two _ (by simp)]
  show Tree.node (Tree.root ([a, b, c].take (Tree.half 3))) (Tree.root ([a, b, c].drop (Tree.half 3))) = _
  rw [half3]
  show Tree.node (Tree.root [a, b]) (Tree.root [c]) = _
  rw [Tree.root_single, root_ab]
theorem incl_abc (a b c : List Nat) : inclAns [a, b, c] 2 = [Tree.node a b] ∧ inclErr [a, b, c] 2 = 0 := by
  refine ⟨?_, rfl⟩
  show Tree.incl [a, b, c] 2 = _
  have e : [a, b, c].length = 3 := rfl
  rw [Tree.incl_high _ _ (by simp) (by rw [e, half3]; decide), e, half3]
  show Tree.incl [c] 0 ++ [Tree.root [a, b]] = _
  rw [Tree.incl_one _ _ (by simp), root_ab]
  rfl
theorem cons_abc (a b c : List Nat) : consAns [a, b, c] 1 = [b, c] ∧ consErr [a, b, c] 1 = 0 := by
  refine ⟨?_, rfl⟩
  show Tree.part [a, b, c] 1 true = _
  have e : [a, b, c].length = 3 := rfl
  rw [Tree.part_low _ _ _ (by simp) (by simp) (by rw [e, half3]; decide), e, half3]
  show Tree.part [a, b] 1 true ++ [Tree.root [c]] = _
  have e2 : [a, b].length = 2 := rfl
  rw [Tree.part_low _ _ _ (by simp) (by simp) (by rw [e2, half2]; decide), e2, half2]
  show (Tree.part [a] 1 true ++ [Tree.root [b]]) ++ [Tree.root [c]] = _
  rw [Tree.part_all [a] 1 true rfl, Tree.root_single b, Tree.root_single c]
  rfl
theorem sha_none0 : (Sha.sha []).getD 0 0 = 227 ∧ (Sha.sha []).getD 31 0 = 85 := by decide +kernel

/-- what is held ahead of the Grow -/
structure ShIn (w W : World) (ga gb gc gn : Nat) (a b c : List Nat) : Prop where
  a : HIs W ga a
  b : HIs W gb b
  c : HIs W gc c
  n : HIs W gn (Sha.sha [])
  bl : Below w.heap.size w W
theorem ShIn.next {w W W' : World} {ga gb gc gn : Nat} {a b c : List Nat} (h : ShIn w W ga gb gc gn a b c) (hb : Below W.heap.size W W') : ShIn w W' ga gb gc gn a b c :=
  ⟨h.a.next hb, h.b.next hb, h.c.next hb, h.n.next hb, below_append h.bl hb⟩

end Go.Proofs.YtmjbjepmnjocjaaDoor

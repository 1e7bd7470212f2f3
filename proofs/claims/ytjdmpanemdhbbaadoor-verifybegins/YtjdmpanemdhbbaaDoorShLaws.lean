/- The document's examples, as the statements show them. -/
import Derived.Test.YtjdmpanemdhbbaaDoorDraw
namespace Go.Proofs.YtjdmpanemdhbbaaDoor
open Go.RowKit

/-- a literal with one byte -/
def lit (k : Nat) : List Nat := k :: List.replicate 31 0
theorem lit_isH (k : Nat) (h : k < 256) : IsH (lit k) := ⟨by simp [lit], fun c hc => by
  rcases List.mem_cons.1 hc with rfl | hc
  · exact h
  · have := (List.mem_replicate.1 hc).2
    omega⟩
theorem lit_none : decide (lit 1 = Sha.sha []) = false := by
  refine decide_eq_false fun h => ?_
  have h0 : (lit 1).getD 0 0 = (Sha.sha []).getD 0 0 := by rw [h]
  have h1 : (Sha.sha []).getD 0 0 = 227 := by decide +kernel
  rw [h1] at h0
  exact absurd h0 (by decide)
theorem run_lit (k : Nat) (w : World) : (Instr.build 23 #[(0, .int .u8 (k : Nat))]).run Tryd.prog w = .ok (hv (lit k)) w := by kernel_rfl
section
variable {w : World} {ops : Array Oper} {rest : List Oper} {o : Oper} {a : Act} {Q : Exit → Act → World → Prop}
theorem wl_lit (k : Nat) (K : Int) (hK : K = (k : Int)) (hgd : Region.wanted o (yielded ops a.tmps) = true) (ho : o.op = .build 23 #[(0, .const (.int .u8 K))]) (h : wpList Tryd.prog ops Q rest (a.put o.dst (hv (lit k))) w) : wpList Tryd.prog ops Q (o :: rest) a w := by
  subst hK
  exact wl hgd _ w (by simp only [execOp, ho, List.map_toArray, List.map_cons, List.map_nil, Act.eval, run_lit, Sem.run_bind, Sem.run_pure, Result.andThen_ok]) h
end
namespace Tree
theorem halfTwo : half 2 = 1 := by decide
theorem halfThree : half 3 = 2 := by decide
theorem halfFour : half 4 = 2 := by decide
theorem up_at1 (x : List Nat) (m : Nat) : up x m 1 [] = some x := by rw [up_one _ _ _ _ (by decide)]; rfl
theorem s1 (x : List Nat) : inclOk x 0 1 [] x = true := by
  show (decide _ && decide (up x 0 1 [] = some x)) = true
  rw [up_at1]; simp
theorem s2 (x y : List Nat) : inclOk x 0 1 [y] x = false := by
  show (decide _ && decide (up x 0 1 [y] = some x)) = false
  rw [up_one _ _ _ _ (by decide)]; simp
theorem s3 (z u : List Nat) : inclOk z 2 3 [u] (node u z) = true := by
  show (decide _ && decide (up z 2 3 [u] = some (node u z))) = true
  rw [up_high _ _ _ _ (by decide) (by simp) (by rw [halfThree]; decide), halfThree]
  show (decide _ && decide ((up z 0 1 []).map (fun h => node u h) = some (node u z))) = true
  rw [up_at1]; simp
theorem s4 (x y z : List Nat) : inclOk x 0 3 [y, z] (node (node x y) z) = true := by
  show (decide _ && decide (up x 0 3 [y, z] = some (node (node x y) z))) = true
  rw [up_low _ _ _ _ (by decide) (by simp) (by rw [halfThree]; decide), halfThree]
  show (decide _ && decide ((up x 0 2 [y]).map (fun h => node h z) = some (node (node x y) z))) = true
  rw [up_low _ _ _ _ (by decide) (by simp) (by rw [halfTwo]; decide), halfTwo]
  show (decide _ && decide (((up x 0 1 []).map (fun h => node h y)).map (fun h => node h z) = some (node (node x y) z))) = true
  rw [up_at1]; simp
theorem s5 (x : List Nat) : inclOk x (-1) 1 [] x = false := by
  unfold inclOk; simp
theorem s6 (x : List Nat) : inclOk x 1 1 [] x = false := by
  unfold inclOk; simp
theorem c1 (u z : List Nat) : consOk 2 3 u (node u z) [z] = true := by
  show (decide _ && decide (two 2 3 u [z] true = some (u, node u z))) = true
  rw [two_low _ _ _ _ _ (by decide) (by decide) (by simp) (by rw [halfThree]; decide), halfThree]
  show (decide _ && decide ((two 2 2 u [] true).map (fun w => (w.1, node w.2 z)) = some (u, node u z))) = true
  rw [two_whole _ _ _ _ rfl]; simp
theorem c2 (u z q : List Nat) : consOk 3 4 (node u z) (node u (node z q)) [z, q, u] = true := by
  show (decide _ && decide (two 3 4 (node u z) [z, q, u] true = some (node u z, node u (node z q)))) = true
  rw [two_high _ _ _ _ _ (by decide) (by decide) (by simp) (by rw [halfFour]; decide), halfFour]
  show (decide _ && decide ((two 1 2 (node u z) [z, q] false).map (fun w => (node u w.1, node u w.2)) = some (node u z, node u (node z q)))) = true
  rw [two_low _ _ _ _ _ (by decide) (by decide) (by simp) (by rw [halfTwo]; decide), halfTwo]
  show (decide _ && decide (((two 1 1 (node u z) [z] false).map (fun w => (w.1, node w.2 q))).map (fun w => (node u w.1, node u w.2)) = some (node u z, node u (node z q)))) = true
  rw [two_part' _ _ _ _ rfl (by simp)]
  simp [lastOf]
theorem c3 (x : List Nat) : consOk 3 3 x x [] = true := by
  show (decide _ && decide (two 3 3 x [] true = some (x, x))) = true
  rw [two_whole _ _ _ _ rfl]; simp
theorem c4 (x y : List Nat) : consOk 4 3 x y [] = false := by
  unfold consOk; simp
theorem c5 (x : List Nat) : consOk 0 3 (Sha.sha []) x [] = true := by
  unfold consOk; simp
theorem c6 (x y : List Nat) (h : decide (x = Sha.sha []) = false) : consOk 0 3 x y [] = false := by
  unfold consOk; rw [h]; simp
end Tree
/-- what the examples read -/
structure Sh (w W : World) (g1 g2 g3 g4 g5 : Nat) (x y z q u : List Nat) : Prop where
  x : HIs W g1 x
  y : HIs W g2 y
  z : HIs W g3 z
  q : HIs W g4 q
  u : HIs W g5 u
  b : Below w.heap.size w W
theorem Sh.next {w W W' : World} {g1 g2 g3 g4 g5 : Nat} {x y z q u : List Nat} (h : Sh w W g1 g2 g3 g4 g5 x y z q u) (hb : Below W.heap.size W W') : Sh w W' g1 g2 g3 g4 g5 x y z q u :=
  ⟨h.x.next hb, h.y.next hb, h.z.next hb, h.q.next hb, h.u.next hb, below_append h.b hb⟩

end Go.Proofs.YtjdmpanemdhbbaaDoor

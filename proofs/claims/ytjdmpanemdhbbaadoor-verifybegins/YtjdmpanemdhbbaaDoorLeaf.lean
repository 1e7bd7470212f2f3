/- The walks of tree.Leaf and of the document's Leaf. -/
import Derived.Test.YtjdmpanemdhbbaaDoorTLaws
namespace Go.Proofs.YtjdmpanemdhbbaaDoor
open Go.RowKit

theorem lt256 (cs : List Nat) (h : ∀ c ∈ cs, c < 256) (j : Nat) : cs.getD j 0 < 256 := by
  by_cases hj : j < cs.length
  · simpa [hj] using h _ (List.getElem_mem hj)
  · simp [hj]
theorem lit_slice (w : World) (cs : List Nat) (h : ∀ c ∈ cs, c < 256) (hl : cs.length < 100) : SliceIn (w.alloc (.cells (bcells cs).toArray 5)) (.slice (some ⟨w.heap.size, 0, none⟩) cs.length cs.length) cs :=
  ⟨_, _, rfl, ⟨Nat.le_refl _, by omega⟩, Or.inr ⟨w.heap.size, 0, rfl, fun j hj => by rw [Nat.zero_add]; exact (Row.new w 5 (bcells cs)).at j _ (bcells_at cs j hj), lt256 cs h⟩⟩
theorem run_blit1 (y : Nat) (w : World) : (Instr.buildSlice 57 1 #[(0, .int .u8 (y : Nat))]).run Tryd.prog w = .ok (.slice (some ⟨w.heap.size, 0, none⟩) 1 1) (w.alloc (.cells (bcells [y]).toArray 5)) := by kernel_rfl
theorem run_blit2 (x y : Nat) (w : World) : (Instr.buildSlice 57 2 #[(0, .int .u8 (x : Nat)), (1, .int .u8 (y : Nat))]).run Tryd.prog w = .ok (.slice (some ⟨w.heap.size, 0, none⟩) 2 2) (w.alloc (.cells (bcells [x, y]).toArray 5)) := by kernel_rfl
theorem blit_own (w : World) (base : Nat) (hb : base ≤ w.heap.size) (cs : List Nat) (hl : cs.length < 100) : BOwn (w.alloc (.cells (bcells cs).toArray 5)) base (.slice (some ⟨w.heap.size, 0, none⟩) cs.length cs.length) cs := by
  refine ⟨by rw [bcells_length, Nat.mul_one], Or.inr ⟨w.heap.size, cs.length, (bcells cs).toArray, rfl, hb, ?_, Nat.le_refl _, by unfold maxLen; omega, by simp [bcells_length], ?_⟩⟩
  · show (w.heap.push _)[w.heap.size]? = _
    simp
  · rw [List.take_of_length_le (by simp [bcells_length])]
section
variable {w : World} {ops : Array Oper} {rest : List Oper} {o : Oper} {a : Act} {Q : Exit → Act → World → Prop}
/-- a literal of one byte -/
theorem wl_blit1 (x : Operand) (hgd : Region.wanted o (yielded ops a.tmps) = true) (ho : o.op = .buildSlice 57 1 #[(0, x)]) (y : Nat) (hy : y < 256) (X : Int) (hx : a.eval x = .int .u8 X) (hX : X = (y : Int))
    (h : ∀ w', SliceIn w' (.slice (some ⟨w.heap.size, 0, none⟩) 1 1) [y] → BOwn w' w.heap.size (.slice (some ⟨w.heap.size, 0, none⟩) 1 1) [y] → Below w.heap.size w w' → wpList Tryd.prog ops Q rest (a.put o.dst (.slice (some ⟨w.heap.size, 0, none⟩) 1 1)) w') : wpList Tryd.prog ops Q (o :: rest) a w := by
  subst hX
  refine wl hgd _ _ (by simp only [execOp, ho, List.map_toArray, List.map_cons, List.map_nil, hx, run_blit1, Sem.run_bind, Sem.run_pure, Result.andThen_ok]) (h _ (lit_slice w [y] (by simpa using hy) (by simp)) (blit_own w _ (Nat.le_refl _) [y] (by simp)) (below_alloc w _))
theorem wl_blit2 (x z : Operand) (hgd : Region.wanted o (yielded ops a.tmps) = true) (ho : o.op = .buildSlice 57 2 #[(0, x), (1, z)]) (y y' : Nat) (hy : y < 256) (hy' : y' < 256) (X Z : Int) (hx : a.eval x = .int .u8 X) (hX : X = (y : Int)) (hz : a.eval z = .int .u8 Z) (hZ : Z = (y' : Int))
    (h : ∀ w', SliceIn w' (.slice (some ⟨w.heap.size, 0, none⟩) 2 2) [y, y'] → Below w.heap.size w w' → wpList Tryd.prog ops Q rest (a.put o.dst (.slice (some ⟨w.heap.size, 0, none⟩) 2 2)) w') : wpList Tryd.prog ops Q (o :: rest) a w := by
  subst hX hZ
  refine wl hgd _ _ (by simp only [execOp, ho, List.map_toArray, List.map_cons, List.map_nil, hx, hz, run_blit2, Sem.run_bind, Sem.run_pure, Result.andThen_ok]) (h _ (lit_slice w [y, y'] (by simp; omega) (by simp)) (below_alloc w _))
/-- bytes behind bytes of the call's own -/
theorem wl_bappend (sv x : Operand) (hgd : o.guard = none) (ho : o.op = .call { callee := .builtin .append, args := #[sv, x], argTypes := #[57, 57] })
    (base : Nat) (v vx : Value) (cs ys : List Nat) (hs : a.eval sv = v) (hown : BOwn w base v cs) (hx : a.eval x = vx) (hin : SliceIn w vx ys)
    (hsz : cs.length + ys.length ≤ 140737488355328) (hbase : base ≤ w.heap.size)
    (h : ∀ v' w', BOwn w' base v' (cs ++ ys) → Below base w w' → wpList Tryd.prog ops Q rest (a.put o.dst v') w') : wpList Tryd.prog ops Q (o :: rest) a w :=
  wpList_append_bytes sv x hgd ho base v vx cs ys hs hown hx hin hsz hbase h
end
theorem SliceIn.mem {w : World} {v : Value} {cs : List Nat} (h : SliceIn w v cs) : ∀ c ∈ cs, c < 256 := by
  intro c hc
  obtain ⟨j, hj, rfl⟩ := List.getElem_of_mem hc
  simpa [hj] using h.bytes j

set_option maxHeartbeats 1000000 in
set_option maxRecDepth 100000 in
theorem refLeaf_any (v : Value) (cs : List Nat) (w : World) (h : SliceIn w v cs) (hlen : cs.length + 1024 ≤ 140737488355328) :
    Calls Tryd.prog 29 #[v] w fun e w' => e = .returned (hv (Tree.leaf cs)) ∧ Below w.heap.size w w' := by
  obtain ⟨g0, hg0⟩ : ∃ g0, g0 = w.heap.size := ⟨_, rfl⟩
  have G0 : Hid (g0 = w.heap.size) := hg0
  go_enter Tryd.func29, Tryd.ntmps29
  go_upto_region 0 with fail
  refine wp_region_lit ?_
  refine wl_alloc rfl rfl ?_
  rw [← hg0]
  intro w1 r1 s1 b1
  refine wpList_nil ?_
  have R1 : Hid (HIs w1 g0 noH ∧ Below w.heap.size w w1) := ⟨r1, hg0 ▸ b1⟩
  clear r1 s1 b1 hg0
  go_wp2_with (first
    | (refine wl_blit1 (.const (.int .u8 0)) rfl rfl 0 (by decide) _ rfl rfl ?_; intro w3 _ s3 b3; have R3 : Hid (HIs w3 g0 noH ∧ Below w.heap.size w w3 ∧ BOwn w3 w1.heap.size (.slice (some ⟨w1.heap.size, 0, none⟩) 1 1) [0] ∧ Below w1.heap.size w1 w3) := ⟨R1.out.1.next b3, below_append R1.out.2 b3, s3, b3⟩; clear s3 b3)
    | (refine wl_bappend (.tmp 3) (.tmp 4) rfl rfl w1.heap.size _ v [0] cs rfl R3.out.2.2.1 rfl (h.later R3.out.2.1) (by simp; omega) R3.out.2.2.2.size ?_; intro v4 w4 o4 b4; have R4 : Hid (HIs w4 g0 noH ∧ Below w.heap.size w w4 ∧ SliceIn w4 v4 (0 :: cs)) := ⟨R1.out.1.next (R3.out.2.2.2.trans b4), below_append R1.out.2 (R3.out.2.2.2.trans b4), o4.slice (lt256 _ (fun c hc => by rcases List.mem_cons.1 hc with rfl | hc; (decide); (exact h.mem c hc)))⟩; clear o4 b4 R3)
    | (go_at_call 34; refine (refSum_any v4 (0 :: cs) w4 R4.out.2.2 (by simp; omega)).mono ?_; rintro e w6 ⟨rfl, b6⟩; rw [show (Value.agg (bcells (Sha.sha (0 :: cs))).toArray) = hv (Tree.leaf cs) from rfl]; have R6 : Hid (HIs w6 g0 noH ∧ Below w.heap.size w w6) := ⟨R4.out.1.next b6, below_append R4.out.2.1 b6⟩; clear b6 R4)
    | (refine wl_store (.tmp 2) (.tmp 6) rfl rfl rfl g0 rfl noH (Tree.leaf cs) (leaf_isH _) rfl R6.out.1 ?_; intro w7 r7 o7 s7; have R7 : Hid (HIs w7 g0 (Tree.leaf cs) ∧ Below w.heap.size w w7) := ⟨r7, R6.out.2.trans (o7.below (Nat.le_of_eq G0.out.symm) R6.out.2.size)⟩; clear r7 o7 s7 R6))
  exact bodyPost_ret (results_H Tryd.results29 _ _ g0 rfl _ R7.out.1) rfl ⟨rfl, R7.out.2⟩
end Go.Proofs.YtjdmpanemdhbbaaDoor

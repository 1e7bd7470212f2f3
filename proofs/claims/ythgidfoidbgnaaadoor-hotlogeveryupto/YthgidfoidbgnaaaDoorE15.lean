/- Numbers read: the program's and the document's. -/
import Derived.Test.YthgidfoidbgnaaaDoorE14
namespace Go.Proofs.YthgidfoidbgnaaaDoor.Fr
open Go.RowKit

theorem sub_h {w : World} {v : Value} {cs : List Nat} (h : SliceIn w v cs) (n : Nat) (hn : n ≤ cs.length) : ∃ v', (∀ w', (Instr.slice 28 v none (some (.int .i64 (n : Nat))) (some (.int .i64 (n : Nat)))).run Tryd.prog w' = .ok v' w') ∧ SliceIn w v' (cs.take n) := by
 obtain ⟨v', hr, hs⟩ := run_sub h (lo := none) (hi := some (.int .i64 (n : Nat))) (mx := some (.int .i64 (n : Nat))) (l := 0) (h := n) ⟨Or.inl ⟨rfl, rfl⟩, Or.inr ⟨_, rfl, rfl, Or.inr rfl⟩, Nat.zero_le _, hn⟩
 exact ⟨v', hr, hs⟩
theorem sub_l {w : World} {v : Value} {cs : List Nat} (h : SliceIn w v cs) (n : Nat) (hn : n ≤ cs.length) : ∃ v', (∀ w', (Instr.slice 28 v (some (.int .i64 (n : Nat))) none none).run Tryd.prog w' = .ok v' w') ∧ SliceIn w v' (cs.drop n) := by
 obtain ⟨v', hr, hs⟩ := run_sub h (lo := some (.int .i64 (n : Nat))) (hi := none) (mx := none) (l := n) (h := cs.length) ⟨Or.inr ⟨_, rfl, rfl⟩, Or.inl ⟨rfl, rfl, rfl⟩, hn, Nat.le_refl _⟩
 exact ⟨v', hr, by rw [take_all_drop] at hs; exact hs⟩
theorem sub_lh {w : World} {v : Value} {cs : List Nat} (h : SliceIn w v cs) (l n : Nat) (hl : l ≤ n) (hn : n ≤ cs.length) : ∃ v', (∀ w', (Instr.slice 28 v (some (.int .i64 (l : Nat))) (some (.int .i64 (n : Nat))) (some (.int .i64 (n : Nat)))).run Tryd.prog w' = .ok v' w') ∧ SliceIn w v' ((cs.take n).drop l) :=
 run_sub h ⟨Or.inr ⟨_, rfl, rfl⟩, Or.inr ⟨_, rfl, rfl, Or.inr rfl⟩, hl, hn⟩

/-- what Take reads -/
def TakeS (w : World) (va vb : Value) (xs ys : List Nat) (W : World) : Prop := SliceIn W va xs ∧ SliceIn W vb ys ∧ Below w.heap.size w W

set_option maxHeartbeats 400000 in
theorem take_yes (v : Value) (cs : List Nat) (size : Nat) (w : World) (h : SliceIn w v cs) (h1 : 1 ≤ size) (h8 : size ≤ 8) (hl : size ≤ cs.length) (hsz : cs.length ≤ 281474976710656) :
  Calls Tryd.prog 80 #[v, .int .i64 (size : Nat)] w fun e w' => ∃ v', e = .returned (.tuple #[.int .u64 (Frame.val (cs.take size) : Nat), v', .int .i64 0]) ∧ BOwn w' w.heap.size v' (cs.drop size) ∧ Below w.heap.size w w' := by
 obtain ⟨va, ra, sa⟩ := sub_h h size hl
 obtain ⟨vb, rb, sb⟩ := sub_l h size hl
 have HA : Hid (∀ w', (Instr.slice 28 v none (some (.int .i64 (size : Nat))) (some (.int .i64 (size : Nat)))).run Tryd.prog w' = .ok va w') := ra
 have HBr : Hid (∀ w', (Instr.slice 28 v (some (.int .i64 (size : Nat))) none none).run Tryd.prog w' = .ok vb w') := rb
 have HSa : Hid (SliceIn w va (cs.take size)) := sa
 have HSb : Hid (SliceIn w vb (cs.drop size)) := sb
 clear ra rb sa sb
 go_enter Tryd.func80, Tryd.ntmps80
 go_wp2_with (first
  | (go_at_call 92; refine (sizeHolds_yes _ _ (by omega) (by omega)).mono ?_; rintro e w' ⟨rfl, rfl⟩)
  | (refine wpList_len (.tmp 12) rfl rfl v cs rfl h ?_))
 refine wp_region_held (S := TakeS w va vb (cs.take size) (cs.drop size)) (by kernel_rfl) ?_
 show wpAnyH _ _ _ _ _ 12 (Array.replicate 12 false) _ _
 have hS : TakeS w va vb (cs.take size) (cs.drop size) { w with drawn := w.drawn + 1 } := ⟨HSa.out.later (below_drawn w _), HSb.out.later (below_drawn w _), below_drawn w _⟩
 refine tH 0 16 rfl rfl (yMove rfl (.tmp 0) rfl v rfl) hS ?_
 refine tH 1 17 rfl rfl (yMove rfl (.tmp 1) rfl (.int .i64 (size : Nat)) rfl) hS ?_
 refine tH 2 18 rfl rfl (yMove rfl (.tmp 1) rfl (.int .i64 (size : Nat)) rfl) hS ?_
 refine tH 3 19 rfl rfl (ySub rfl (.tmp 16) none (some (.tmp 17)) (some (.tmp 18)) rfl v va rfl HA.out) hS ?_
 simp only [Act.put, aS, aC, aZ]
 refine tH 5 21 rfl rfl (yMove rfl (.tmp 0) rfl v rfl) hS ?_
 refine tH 6 22 rfl rfl (yMove rfl (.tmp 1) rfl (.int .i64 (size : Nat)) rfl) hS ?_
 refine tH 7 23 rfl rfl (ySub rfl (.tmp 21) (some (.tmp 22)) none none rfl v vb rfl HBr.out) hS ?_
 simp only [Act.put, aS, aC, aZ]
 refine oneH (i := 4) (by kernel_rfl) ?_
 refine opCallA (some 20) rfl rfl rfl 94 _ (run_call en23 [.tmp 19] _ rfl [va] rfl) ?_
 refine (value_any va (cs.take size) _ hS.1 (by simp; omega)).mono ?_
 rintro e w1 ⟨rfl, hw1⟩
 rw [← hw1]
 refine ⟨_, rfl, hS, ?_⟩
 clear hw1
 simp only [Act.put, aS, aC, aZ]
 refine oneH (i := 8) (by kernel_rfl) ?_
 refine opCallA (some 24) rfl rfl rfl 93 _ (run_call en24 [.tmp 23] _ rfl [vb] rfl) ?_
 refine (told_any vb (cs.drop size) _ hS.2.1 (by simp; omega)).mono ?_
 rintro e w2 ⟨v2, rfl, o2, b2⟩
 have hS2 : TakeS w va vb (cs.take size) (cs.drop size) w2 := ⟨hS.1.later b2, hS.2.1.later b2, below_append hS.2.2 b2⟩
 have O2 : Hid (BOwn w2 w.heap.size v2 (cs.drop size)) := o2.weaken hS.2.2.size
 refine ⟨_, rfl, hS2, ?_⟩
 clear hS o2 b2
 simp only [Act.put, aS, aC, aZ]
 refine tH 9 4 rfl rfl (yAssign rfl (.tmp 20) rfl (.int .u64 (Frame.val (cs.take size) : Nat)) rfl) hS2 ?_
 refine tH 10 5 rfl rfl (yAssign rfl (.tmp 24) rfl v2 rfl) hS2 ?_
 refine tH 11 6 rfl rfl (yAssign rfl (.const (.int .i64 0)) rfl (.int .i64 0) rfl) hS2 ?_
 simp only [Act.put, aS, aC, aZ]
 refine wpAnyH_done (by kernel_rfl) ?_ _
 have B2 : Hid (Below w.heap.size w w2) := hS2.2.2
 clear hS2
 go_wp2
 go_ret3
 exact ⟨v2, rfl, O2.out, B2.out⟩
/-! the document's own -/
end Go.Proofs.YthgidfoidbgnaaaDoor.Fr

/- The law TreeHashes, walked out of its callees' contracts. -/
import Derived.Test.YtmjbjepmnjocjaaDoorShown
namespace Go.Proofs.YtmjbjepmnjocjaaDoor
open Go.RowKit

structure HaS (w : World) (g7 g8 g9 g10 : Nat) (x y : List Nat) (W : World) : Prop where
  h7 : HIs W g7 x
  h8 : HIs W g8 x
  h9 : HIs W g9 y
  h10 : HIs W g10 y
  bl : Below w.heap.size w W
theorem HaS.next {w W W' : World} {g7 g8 g9 g10 : Nat} {x y : List Nat} (h : HaS w g7 g8 g9 g10 x y W) (hb : Below W.heap.size W W') : HaS w g7 g8 g9 g10 x y W' :=
  ⟨h.h7.next hb, h.h8.next hb, h.h9.next hb, h.h10.next hb, below_append h.bl hb⟩
set_option maxHeartbeats 4000000 in
set_option maxRecDepth 100000 in
theorem treeHashes_any (vb vl : Value) (bs ls : List Nat) (w : World) (hb : SliceIn w vb bs) (hl : SliceIn w vl ls) (ht : TabIn w) (hst : StartIn w) (hbl : bs.length ≤ 1048576) (hll : ls.length ≤ 1048576) :
    Calls Tryd.prog 3 #[vb, vl] w fun e w' => e = .returned (.bool true) ∧ Below w.heap.size w w' := by
  go_enter Tryd.func3, Tryd.ntmps3
  go_wp2_with fail
  refine (shown_any w ht hst).mono ?_
  rintro e w1 ⟨rfl, b1⟩
  have R1 : Hid (Below w.heap.size w w1) := b1
  clear b1
  go_wp2_with fail
  refine (leaves_any vl ls w1 (hl.later R1.out) (by omega)).mono ?_
  rintro e w2 ⟨vh, rfl, o2, b2⟩
  have R2 : Hid (HIn w2 vh (lv ls ls.length) ∧ Below w.heap.size w w2) := ⟨o2.hin, below_append R1.out b2⟩
  clear o2 b2 R1
  go_wp2_with fail
  refine (leaf_any vb bs w2 (hb.later R2.out.2) (ht.later R2.out.2) (hst.later R2.out.2) (by omega)).mono ?_
  rintro e w3 ⟨rfl, b3⟩
  have R3 : Hid (HIn w3 vh (lv ls ls.length) ∧ Below w.heap.size w w3 ∧ IsH (Tree.leaf bs)) := ⟨R2.out.1.later b3, below_append R2.out.2 b3, leaf_isH _⟩
  clear b3 R2
  obtain ⟨x, hx⟩ : ∃ x, x = Tree.leaf bs := ⟨_, rfl⟩
  rw [← hx] at R3 ⊢
  have HX : Hid (Tree.leaf bs = x) := hx.symm
  clear hx
  go_wp2_with ((first
    | (refine wl_new rfl rfl rfl rfl rfl (.tmp 15) rfl x R3.out.2.2 (fun _ => rfl) (fun _ => rfl) ?_; intro w4 r4 s4 b4; have R4 : Hid (HIn w4 vh (lv ls ls.length) ∧ Below w.heap.size w w4 ∧ HIs w4 w3.heap.size x) := ⟨R3.out.1.later b4, below_append R3.out.2.1 b4, r4⟩; clear r4 s4 b4)); try simp only [Act.put, List.setIfInBounds_toArray, List.set_cons_succ, List.set_cons_zero])
  generalize w3.heap.size = g7 at R4 ⊢
  refine (refLeaf_any vb bs w4 (hb.later R4.out.2.1) (by omega)).mono ?_
  rintro e w5 ⟨rfl, b5⟩
  rw [HX.out]
  have R5 : Hid (HIn w5 vh (lv ls ls.length) ∧ Below w.heap.size w w5 ∧ HIs w5 g7 x) := ⟨R4.out.1.later b5, below_append R4.out.2.1 b5, R4.out.2.2.next b5⟩
  clear b5 R4 R3
  go_wp2_with ((first
    | (refine wl_new rfl rfl rfl rfl rfl (.tmp 17) rfl x R5.out.2.2.1 (fun _ => rfl) (fun _ => rfl) ?_; intro w6 r6 s6 b6; have R6 : Hid (HIn w6 vh (lv ls ls.length) ∧ Below w.heap.size w w6 ∧ HIs w6 g7 x ∧ HIs w6 w5.heap.size x) := ⟨R5.out.1.later b6, below_append R5.out.2.1 b6, R5.out.2.2.next b6, r6⟩; clear r6 s6 b6)); try simp only [Act.put, List.setIfInBounds_toArray, List.set_cons_succ, List.set_cons_zero])
  generalize w5.heap.size = g8 at R6 ⊢
  refine (root_any _ vh (lv ls ls.length) w6 rfl (by rw [lv_length]; omega) R6.out.1 (ht.later R6.out.2.1) (hst.later R6.out.2.1)).mono ?_
  rintro e w7 ⟨rfl, b7⟩
  have R7 : Hid (HIn w7 vh (lv ls ls.length) ∧ Below w.heap.size w w7 ∧ HIs w7 g7 x ∧ HIs w7 g8 x ∧ IsH (Tree.root (lv ls ls.length))) := ⟨R6.out.1.later b7, below_append R6.out.2.1 b7, R6.out.2.2.1.next b7, R6.out.2.2.2.next b7, (lv_all _ _).root⟩
  clear b7 R6 R5
  obtain ⟨y, hy⟩ : ∃ y, y = Tree.root (lv ls ls.length) := ⟨_, rfl⟩
  rw [← hy] at R7 ⊢
  have HY : Hid (Tree.root (lv ls ls.length) = y) := hy.symm
  clear hy
  go_wp2_with ((first
    | (refine wl_new rfl rfl rfl rfl rfl (.tmp 19) rfl y R7.out.2.2.2.2 (fun _ => rfl) (fun _ => rfl) ?_; intro w8 r8 s8 b8; have R8 : Hid (HIn w8 vh (lv ls ls.length) ∧ Below w.heap.size w w8 ∧ HIs w8 g7 x ∧ HIs w8 g8 x ∧ HIs w8 w7.heap.size y) := ⟨R7.out.1.later b8, below_append R7.out.2.1 b8, R7.out.2.2.1.next b8, R7.out.2.2.2.1.next b8, r8⟩; clear r8 s8 b8)); try simp only [Act.put, List.setIfInBounds_toArray, List.set_cons_succ, List.set_cons_zero])
  generalize w7.heap.size = g9 at R8 ⊢
  refine (refRoot_any _ vh (lv ls ls.length) w8 rfl (by rw [lv_length]; omega) R8.out.1).mono ?_
  rintro e w9 ⟨rfl, b9⟩
  rw [HY.out]
  have R9 : Hid (Below w.heap.size w w9 ∧ HIs w9 g7 x ∧ HIs w9 g8 x ∧ HIs w9 g9 y) := ⟨below_append R8.out.2.1 b9, R8.out.2.2.1.next b9, R8.out.2.2.2.1.next b9, R8.out.2.2.2.2.next b9⟩
  clear b9 R8 R7
  go_wp2_with ((first
    | (refine wl_new rfl rfl rfl rfl rfl (.tmp 21) rfl y R9.out.2.2.2.1 (fun _ => rfl) (fun _ => rfl) ?_; intro w10 r10 s10 b10; have R10 : Hid (HaS w g7 g8 g9 w9.heap.size x y w10) := ⟨R9.out.2.1.next b10, R9.out.2.2.1.next b10, R9.out.2.2.2.next b10, r10, below_append R9.out.1 b10⟩; clear r10 s10 b10)); try simp only [Act.put, List.setIfInBounds_toArray, List.set_cons_succ, List.set_cons_zero])
  generalize w9.heap.size = g10 at R10 ⊢
  clear R9
  refine wp_region_held (S := HaS w g7 g8 g9 g10 x y) (by kernel_rfl) ?_
  show wpAnyH _ _ _ _ _ 21 (Array.replicate 21 false) _ _
  have hS : HaS w g7 g8 g9 g10 x y { w10 with drawn := w10.drawn + 1 } := R10.out.next (below_drawn w10 _)
  clear R10
  have HH : Hid (IsH x ∧ IsH y) := ⟨hS.h7.1, hS.h9.1⟩
  refine takeH (i := 0) (some 22) rfl rfl (by kernel_rfl) (by kernel_rfl) (by kernel_rfl) (fun _ _ _ h => h) (yMoveW rfl (.tmp 5) rfl (.bool true) rfl) hS ?_
  simp only [Act.put, List.setIfInBounds_toArray, List.set_cons_succ, List.set_cons_zero]
  refine takeH (i := 1) (some 23) rfl rfl (by kernel_rfl) (by kernel_rfl) (by kernel_rfl) (fun _ _ _ h => h) (yMoveW rfl (.tmp 22) rfl (.bool true) rfl) hS ?_
  simp only [Act.put, List.setIfInBounds_toArray, List.set_cons_succ, List.set_cons_zero]
  refine takeH (i := 2) (some 24) rfl rfl (by kernel_rfl) (by kernel_rfl) (by kernel_rfl) (fun _ _ _ h => h) (yRunW rfl (hv (x)) (fun W hW => rx_load (.tmp 7) rfl (.pointer (some ⟨g7, 0, none⟩)) rfl (x) (hW.h7.at))) hS ?_
  simp only [Act.put, List.setIfInBounds_toArray, List.set_cons_succ, List.set_cons_zero]
  refine takeH (i := 3) (some 25) rfl rfl (by kernel_rfl) (by kernel_rfl) (by kernel_rfl) (fun _ _ _ h => h) (yRunW rfl (hv (x)) (fun W hW => rx_load (.tmp 8) rfl (.pointer (some ⟨g8, 0, none⟩)) rfl (x) (hW.h8.at))) hS ?_
  simp only [Act.put, List.setIfInBounds_toArray, List.set_cons_succ, List.set_cons_zero]
  refine takeH (i := 4) (some 26) rfl rfl (by kernel_rfl) (by kernel_rfl) (by kernel_rfl) (fun _ _ _ h => h) (yRunW rfl (.bool true) (fun _ _ => rx_same (.tmp 24) (.tmp 25) rfl (x) (HH.out.1) rfl rfl)) hS ?_
  simp only [Act.put, List.setIfInBounds_toArray, List.set_cons_succ, List.set_cons_zero]
  refine takeH (i := 5) (some 27) rfl rfl (by kernel_rfl) (by kernel_rfl) (by kernel_rfl) (fun _ _ _ h => h) (yPickW rfl (.tmp 23) (.tmp 26) _ rfl rfl (.bool true) rfl) hS ?_
  simp only [Act.put, List.setIfInBounds_toArray, List.set_cons_succ, List.set_cons_zero]
  refine takeH (i := 6) (some 28) rfl rfl (by kernel_rfl) (by kernel_rfl) (by kernel_rfl) (fun _ _ _ h => h) (yMoveW rfl (.tmp 27) rfl (.bool true) rfl) hS ?_
  simp only [Act.put, List.setIfInBounds_toArray, List.set_cons_succ, List.set_cons_zero]
  refine takeH (i := 7) (some 29) rfl rfl (by kernel_rfl) (by kernel_rfl) (by kernel_rfl) (fun _ _ _ h => h) (yRunW rfl (hv (y)) (fun W hW => rx_load (.tmp 9) rfl (.pointer (some ⟨g9, 0, none⟩)) rfl (y) (hW.h9.at))) hS ?_
  simp only [Act.put, List.setIfInBounds_toArray, List.set_cons_succ, List.set_cons_zero]
  refine takeH (i := 8) (some 30) rfl rfl (by kernel_rfl) (by kernel_rfl) (by kernel_rfl) (fun _ _ _ h => h) (yRunW rfl (hv (y)) (fun W hW => rx_load (.tmp 10) rfl (.pointer (some ⟨g10, 0, none⟩)) rfl (y) (hW.h10.at))) hS ?_
  simp only [Act.put, List.setIfInBounds_toArray, List.set_cons_succ, List.set_cons_zero]
  refine takeH (i := 9) (some 31) rfl rfl (by kernel_rfl) (by kernel_rfl) (by kernel_rfl) (fun _ _ _ h => h) (yRunW rfl (.bool true) (fun _ _ => rx_same (.tmp 29) (.tmp 30) rfl (y) (HH.out.2) rfl rfl)) hS ?_
  simp only [Act.put, List.setIfInBounds_toArray, List.set_cons_succ, List.set_cons_zero]
  refine takeH (i := 10) (some 32) rfl rfl (by kernel_rfl) (by kernel_rfl) (by kernel_rfl) (fun _ _ _ h => h) (yPickW rfl (.tmp 28) (.tmp 31) _ rfl rfl (.bool true) rfl) hS ?_
  simp only [Act.put, List.setIfInBounds_toArray, List.set_cons_succ, List.set_cons_zero]
  refine takeH (i := 11) (some 33) rfl rfl (by kernel_rfl) (by kernel_rfl) (by kernel_rfl) (fun _ _ _ h => h) (yMoveW rfl (.tmp 32) rfl (.bool true) rfl) hS ?_
  simp only [Act.put, List.setIfInBounds_toArray, List.set_cons_succ, List.set_cons_zero]
  refine takeH (i := 12) (some 34) rfl rfl (by kernel_rfl) (by kernel_rfl) (by kernel_rfl) (fun _ _ _ h => h) (yRunW rfl (hv (x)) (fun W hW => rx_load (.tmp 7) rfl (.pointer (some ⟨g7, 0, none⟩)) rfl (x) (hW.h7.at))) hS ?_
  simp only [Act.put, List.setIfInBounds_toArray, List.set_cons_succ, List.set_cons_zero]
  refine takeH (i := 13) (some 35) rfl rfl (by kernel_rfl) (by kernel_rfl) (by kernel_rfl) (fun _ _ _ h => h) (yRunW rfl (hv (y)) (fun W hW => rx_load (.tmp 9) rfl (.pointer (some ⟨g9, 0, none⟩)) rfl (y) (hW.h9.at))) hS ?_
  simp only [Act.put, List.setIfInBounds_toArray, List.set_cons_succ, List.set_cons_zero]
  refine takeH (i := 15) (some 37) rfl rfl (by kernel_rfl) (by kernel_rfl) (by kernel_rfl) (fun _ _ _ h => h) (yRunW rfl (hv (x)) (fun W hW => rx_load (.tmp 8) rfl (.pointer (some ⟨g8, 0, none⟩)) rfl (x) (hW.h8.at))) hS ?_
  simp only [Act.put, List.setIfInBounds_toArray, List.set_cons_succ, List.set_cons_zero]
  refine takeH (i := 16) (some 38) rfl rfl (by kernel_rfl) (by kernel_rfl) (by kernel_rfl) (fun _ _ _ h => h) (yRunW rfl (hv (y)) (fun W hW => rx_load (.tmp 10) rfl (.pointer (some ⟨g10, 0, none⟩)) rfl (y) (hW.h10.at))) hS ?_
  simp only [Act.put, List.setIfInBounds_toArray, List.set_cons_succ, List.set_cons_zero]
  refine oneH (i := 14) (by kernel_rfl) ?_
  refine opCallW (some 36) rfl rfl rfl 14 _ (run_call en14 [.tmp 34, .tmp 35] _ rfl [hv x, hv y] rfl) ?_
  refine (node_any x y HH.out.1 HH.out.2 _ (ht.later hS.bl) (hst.later hS.bl)).mono ?_
  rintro e w11 ⟨rfl, bb⟩
  have hS' : HaS w g7 g8 g9 g10 x y w11 := hS.next bb
  refine ⟨_, rfl, hS', ?_⟩
  clear hS bb
  have hS := hS'
  clear hS'
  simp only [Act.put, List.setIfInBounds_toArray, List.set_cons_succ, List.set_cons_zero]
  refine oneH (i := 17) (by kernel_rfl) ?_
  refine opCallW (some 39) rfl rfl rfl 15 _ (run_call en15 [.tmp 37, .tmp 38] _ rfl [hv x, hv y] rfl) ?_
  refine (refNode_any x y HH.out.1 HH.out.2 _).mono ?_
  rintro e w12 ⟨rfl, bb⟩
  have hS' : HaS w g7 g8 g9 g10 x y w12 := hS.next bb
  refine ⟨_, rfl, hS', ?_⟩
  clear hS bb
  have hS := hS'
  clear hS'
  simp only [Act.put, List.setIfInBounds_toArray, List.set_cons_succ, List.set_cons_zero]
  refine takeH (i := 18) (some 40) rfl rfl (by kernel_rfl) (by kernel_rfl) (by kernel_rfl) (fun _ _ _ h => h) (yRunW rfl (.bool true) (fun _ _ => rx_same (.tmp 36) (.tmp 39) rfl (Tree.node x y) (node_isH _ _) rfl rfl)) hS ?_
  simp only [Act.put, List.setIfInBounds_toArray, List.set_cons_succ, List.set_cons_zero]
  refine takeH (i := 19) (some 41) rfl rfl (by kernel_rfl) (by kernel_rfl) (by kernel_rfl) (fun _ _ _ h => h) (yPickW rfl (.tmp 33) (.tmp 40) _ rfl rfl (.bool true) rfl) hS ?_
  simp only [Act.put, List.setIfInBounds_toArray, List.set_cons_succ, List.set_cons_zero]
  refine takeH (i := 20) (some 4) rfl rfl (by kernel_rfl) (by kernel_rfl) (by kernel_rfl) (fun _ _ _ h => h) (yAssign rfl (.tmp 41) rfl (.bool true) rfl) hS ?_
  simp only [Act.put, List.setIfInBounds_toArray, List.set_cons_succ, List.set_cons_zero]
  refine wpAnyH_done (by kernel_rfl) ?_ _
  have HB9 : Hid (Below w.heap.size w w12) := hS.bl
  clear hS
  go_wp2_with fail
  go_ret
  exact ⟨rfl, HB9.out⟩
end Go.Proofs.YtmjbjepmnjocjaaDoor

/- verify.Consistency: any numbers. -/
import Derived.Test.YtjdmpanemdhbbaaDoorTwo
import Derived.Test.YtjdmpanemdhbbaaDoorDraw
namespace Go.Proofs.YtjdmpanemdhbbaaDoor
open Go.RowKit

theorem consOk_bad {a b : List Nat} {m n : Int} {row : List (List Nat)} (h : m < 0 ∨ n < m) : Tree.consOk m n a b row = false := by
  unfold Tree.consOk
  rw [decide_eq_false (by omega), Bool.false_and]
theorem consOk_good {a b : List Nat} {m n : Nat} {row : List (List Nat)} (h : m ≤ n) (h1 : 1 ≤ m) : Tree.consOk m n a b row = decide (Tree.two m n a row true = some (a, b)) := by
  unfold Tree.consOk
  rw [decide_eq_true (by omega), Bool.true_and, if_neg (by omega), Int.toNat_natCast, Int.toNat_natCast]
theorem consOk_no {a b : List Nat} {m n : Nat} {row : List (List Nat)} (h : m ≤ n) (h1 : 1 ≤ m) (hu : Tree.two m n a row true = none) : Tree.consOk m n a b row = false := by rw [consOk_good h h1, hu]; rfl
theorem consOk_yes {a b x y : List Nat} {m n : Nat} {row : List (List Nat)} (h : m ≤ n) (h1 : 1 ≤ m) (hu : Tree.two m n a row true = some (x, y)) : Tree.consOk m n a b row = (decide (x = a) && decide (y = b)) := by
  rw [consOk_good h h1, hu]
  simp
theorem consOk_at0 {a b : List Nat} {n : Int} {row : List (List Nat)} (h : 0 ≤ n) : Tree.consOk 0 n a b row = (decide (row.length = 0) && (decide (a = Sha.sha []) && (decide (0 < n) || decide (b = a)))) := by
  unfold Tree.consOk
  rw [decide_eq_true (by omega), Bool.true_and, if_pos rfl]

set_option maxHeartbeats 1000000 in
theorem vcons_bad (a b : List Nat) (m n : Int) (v : Value) (row : List (List Nat)) (w : World) (ha : IsH a) (hb : IsH b) (hm : m < 0 ∨ n < m) :
    Calls Tryd.prog 13 #[.int .i64 m, .int .i64 n, hv a, hv b, v] w fun e w' => e = .returned (.bool (Tree.consOk m n a b row)) ∧ Below w.heap.size w w' := by
  have HU : Hid (Tree.consOk m n a b row = false) := consOk_bad hm
  have HH : Hid (IsH a ∧ IsH b) := ⟨ha, hb⟩
  clear ha hb
  obtain ⟨B, hB⟩ : ∃ B, B = w.heap.size := ⟨_, rfl⟩
  have HB : Hid (B = w.heap.size) := hB
  clear hB
  by_cases h0 : m < 0
  · clear hm
    go_enter Tryd.func13, Tryd.ntmps13
    go_wp2_with (first
      | (refine wl_box (.tmp 2) rfl rfl a HH.out.1 rfl ?_; rw [← HB.out]; intro w1 r1 s1 b1; have R1 : Hid (HIs w1 B a ∧ Below w.heap.size w w1 ∧ w1.heap.size = B + 1) := ⟨r1, HB.out ▸ b1, s1⟩; clear r1 s1 b1)
      | (refine wl_box (.tmp 3) rfl rfl b HH.out.2 rfl ?_; rw [R1.out.2.2]; intro w2 r2 s2 b2; have R2 : Hid (HIs w2 B a ∧ HIs w2 (B + 1) b ∧ Below w.heap.size w w2 ∧ w2.heap.size = B + 2) := ⟨R1.out.1.next (R1.out.2.2 ▸ b2), r2, below_append R1.out.2.1 (R1.out.2.2 ▸ b2), s2⟩; clear r2 s2 b2))
    go_ret
    exact ⟨by rw [HU.out]; rfl, R2.out.2.2.1⟩
  · have h1 : n < m := by omega
    clear hm
    go_enter Tryd.func13, Tryd.ntmps13
    go_wp2_with (first
      | (refine wl_box (.tmp 2) rfl rfl a HH.out.1 rfl ?_; rw [← HB.out]; intro w1 r1 s1 b1; have R1 : Hid (HIs w1 B a ∧ Below w.heap.size w w1 ∧ w1.heap.size = B + 1) := ⟨r1, HB.out ▸ b1, s1⟩; clear r1 s1 b1)
      | (refine wl_box (.tmp 3) rfl rfl b HH.out.2 rfl ?_; rw [R1.out.2.2]; intro w2 r2 s2 b2; have R2 : Hid (HIs w2 B a ∧ HIs w2 (B + 1) b ∧ Below w.heap.size w w2 ∧ w2.heap.size = B + 2) := ⟨R1.out.1.next (R1.out.2.2 ▸ b2), r2, below_append R1.out.2.1 (R1.out.2.2 ▸ b2), s2⟩; clear r2 s2 b2))
    go_ret
    exact ⟨by rw [HU.out]; rfl, R2.out.2.2.1⟩

set_option maxHeartbeats 2000000 in
set_option maxRecDepth 100000 in
theorem vcons_0A (a b : List Nat) (n : Int) (v : Value) (row : List (List Nat)) (w : World) (ha : IsH a) (hb : IsH b) (h : HIn w v row) (_ht : TabIn w) (_hst : StartIn w) (hn : 0 ≤ n) (hk : row.length ≠ 0) :
    Calls Tryd.prog 13 #[.int .i64 0, .int .i64 n, hv a, hv b, v] w fun e w' => e = .returned (.bool (Tree.consOk 0 n a b row)) ∧ Below w.heap.size w w' := by
  have HH : Hid (IsH a ∧ IsH b) := ⟨ha, hb⟩
  have HU : Hid (Tree.consOk 0 n a b row = false) := by
    show _ = _
    rw [consOk_at0 hn, decide_eq_false hk]
    rfl
  obtain ⟨k, hk'⟩ : ∃ k, row.length = k := ⟨_, rfl⟩
  have HK : Hid (row.length = k) := hk'
  have HK0 : Hid (decide (((k : Nat) : Int) = 0) = false) := by
    show _ = _
    rw [decide_eq_false (by omega)]
  have HF : Hid (True) := trivial
  have hn' : ¬ n < 0 := by omega
  clear ha hb hk hk' hn
  obtain ⟨B, hB⟩ : ∃ B, B = w.heap.size := ⟨_, rfl⟩
  have HB : Hid (B = w.heap.size) := hB
  clear hB
  go_enter Tryd.func13, Tryd.ntmps13
  go_wp2_with (first
    | (refine wl_box (.tmp 2) rfl rfl a HH.out.1 rfl ?_; rw [← HB.out]; intro w1 r1 s1 b1; have R1 : Hid (HIs w1 B a ∧ Below w.heap.size w w1 ∧ w1.heap.size = B + 1) := ⟨r1, HB.out ▸ b1, s1⟩; clear r1 s1 b1)
    | (refine wl_box (.tmp 3) rfl rfl b HH.out.2 rfl ?_; rw [R1.out.2.2]; intro w2 r2 s2 b2; have R2 : Hid (HIs w2 B a ∧ HIs w2 (B + 1) b ∧ Below w.heap.size w w2 ∧ w2.heap.size = B + 2) := ⟨R1.out.1.next (R1.out.2.2 ▸ b2), r2, below_append R1.out.2.1 (R1.out.2.2 ▸ b2), s2⟩; clear r2 s2 b2))
  have hS : Below w2.heap.size w2 { w2 with drawn := w2.drawn + 1 } := below_drawn w2 _
  refine wp_region_held (S := fun W => Below w2.heap.size w2 W) (by kernel_rfl) ?_
  show wpAnyH _ _ _ _ _ 18 (Array.replicate 18 false) _ _
  refine takeH (i := 0) (some 23) rfl rfl (by kernel_rfl) (by kernel_rfl) (by kernel_rfl) (fun _ _ _ h => h) (yMoveW rfl (.tmp 4) rfl (v) rfl) hS ?_
  simp only [Act.put, List.setIfInBounds_toArray, List.set_cons_succ, List.set_cons_zero]
  refine takeH (i := 1) (some 24) rfl rfl (by kernel_rfl) (by kernel_rfl) (by kernel_rfl) (fun _ _ _ h => h) (yLen rfl (.tmp 23) rfl v row rfl _ (h) k HK.out) hS ?_
  simp only [Act.put, List.setIfInBounds_toArray, List.set_cons_succ, List.set_cons_zero]
  refine takeH (i := 2) (some 25) rfl rfl (by kernel_rfl) (by kernel_rfl) (by kernel_rfl) (fun _ _ _ h => h) (yEqI rfl (.tmp 24) (.const (.int .i64 0)) rfl ((k : Nat) : Int) 0 rfl rfl false HK0.out) hS ?_
  simp only [Act.put, List.setIfInBounds_toArray, List.set_cons_succ, List.set_cons_zero]
  refine takeH (i := 3) (some 26) rfl rfl (by kernel_rfl) (by kernel_rfl) (by kernel_rfl) (fun _ _ _ h => h) (yMoveW rfl (.tmp 25) rfl (.bool false) rfl) hS ?_
  simp only [Act.put, List.setIfInBounds_toArray, List.set_cons_succ, List.set_cons_zero]
  refine takeH (i := 4) (some 27) rfl rfl (by kernel_rfl) (by kernel_rfl) (by kernel_rfl) (fun _ _ _ h => h) (yOff rfl) hS ?_
  simp only [Act.put, List.setIfInBounds_toArray, List.set_cons_succ, List.set_cons_zero]
  refine takeH (i := 5) (some 28) rfl rfl (by kernel_rfl) (by kernel_rfl) (by kernel_rfl) (fun _ _ _ h => h) (yOff rfl) hS ?_
  simp only [Act.put, List.setIfInBounds_toArray, List.set_cons_succ, List.set_cons_zero]
  refine takeH (i := 6) (some 29) rfl rfl (by kernel_rfl) (by kernel_rfl) (by kernel_rfl) (fun _ _ _ h => h) (yOff rfl) hS ?_
  simp only [Act.put, List.setIfInBounds_toArray, List.set_cons_succ, List.set_cons_zero]
  refine takeH (i := 7) (some 30) rfl rfl (by kernel_rfl) (by kernel_rfl) (by kernel_rfl) (fun _ _ _ h => h) (yPickF rfl (.tmp 26) _ (.const (.bool false)) rfl rfl (.bool false) rfl) hS ?_
  simp only [Act.put, List.setIfInBounds_toArray, List.set_cons_succ, List.set_cons_zero]
  refine takeH (i := 8) (some 31) rfl rfl (by kernel_rfl) (by kernel_rfl) (by kernel_rfl) (fun _ _ _ h => h) (yMoveW rfl (.tmp 30) rfl (.bool false) rfl) hS ?_
  simp only [Act.put, List.setIfInBounds_toArray, List.set_cons_succ, List.set_cons_zero]
  refine takeH (i := 9) (some 32) rfl rfl (by kernel_rfl) (by kernel_rfl) (by kernel_rfl) (fun _ _ _ h => h) (yOff rfl) hS ?_
  simp only [Act.put, List.setIfInBounds_toArray, List.set_cons_succ, List.set_cons_zero]
  refine takeH (i := 10) (some 33) rfl rfl (by kernel_rfl) (by kernel_rfl) (by kernel_rfl) (fun _ _ _ h => h) (yOff rfl) hS ?_
  simp only [Act.put, List.setIfInBounds_toArray, List.set_cons_succ, List.set_cons_zero]
  refine takeH (i := 11) (some 34) rfl rfl (by kernel_rfl) (by kernel_rfl) (by kernel_rfl) (fun _ _ _ h => h) (yOff rfl) hS ?_
  simp only [Act.put, List.setIfInBounds_toArray, List.set_cons_succ, List.set_cons_zero]
  refine takeH (i := 12) (some 35) rfl rfl (by kernel_rfl) (by kernel_rfl) (by kernel_rfl) (fun _ _ _ h => h) (yOff rfl) hS ?_
  simp only [Act.put, List.setIfInBounds_toArray, List.set_cons_succ, List.set_cons_zero]
  refine takeH (i := 13) (some 36) rfl rfl (by kernel_rfl) (by kernel_rfl) (by kernel_rfl) (fun _ _ _ h => h) (yOff rfl) hS ?_
  simp only [Act.put, List.setIfInBounds_toArray, List.set_cons_succ, List.set_cons_zero]
  refine takeH (i := 14) (some 37) rfl rfl (by kernel_rfl) (by kernel_rfl) (by kernel_rfl) (fun _ _ _ h => h) (yOff rfl) hS ?_
  simp only [Act.put, List.setIfInBounds_toArray, List.set_cons_succ, List.set_cons_zero]
  refine takeH (i := 15) (some 38) rfl rfl (by kernel_rfl) (by kernel_rfl) (by kernel_rfl) (fun _ _ _ h => h) (yOff rfl) hS ?_
  simp only [Act.put, List.setIfInBounds_toArray, List.set_cons_succ, List.set_cons_zero]
  refine takeH (i := 16) (some 39) rfl rfl (by kernel_rfl) (by kernel_rfl) (by kernel_rfl) (fun _ _ _ h => h) (yPickF rfl (.tmp 31) _ (.const (.bool false)) rfl rfl (.bool false) rfl) hS ?_
  simp only [Act.put, List.setIfInBounds_toArray, List.set_cons_succ, List.set_cons_zero]
  refine takeH (i := 17) (some 10) rfl rfl (by kernel_rfl) (by kernel_rfl) (by kernel_rfl) (fun _ _ _ h => h) (yAssign rfl (.tmp 39) rfl (.bool false) rfl) hS ?_
  simp only [Act.put, List.setIfInBounds_toArray, List.set_cons_succ, List.set_cons_zero]
  refine wpAnyH_done (by kernel_rfl) ?_ _
  have HB9 : Hid (Below w.heap.size w _) := below_append R2.out.2.2.1 hS
  clear hS
  go_wp2_with fail
  go_ret
  exact ⟨by rw [HU.out]; rfl, HB9.out⟩
set_option maxHeartbeats 2000000 in
set_option maxRecDepth 100000 in
theorem vcons_0B (a b : List Nat) (n : Int) (v : Value) (row : List (List Nat)) (w : World) (ha : IsH a) (hb : IsH b) (h : HIn w v row) (ht : TabIn w) (hst : StartIn w) (hn : 0 ≤ n) (hk : row.length = 0) (hA : decide (a = Sha.sha []) = false) :
    Calls Tryd.prog 13 #[.int .i64 0, .int .i64 n, hv a, hv b, v] w fun e w' => e = .returned (.bool (Tree.consOk 0 n a b row)) ∧ Below w.heap.size w w' := by
  have HH : Hid (IsH a ∧ IsH b) := ⟨ha, hb⟩
  have HU : Hid (Tree.consOk 0 n a b row = false) := by
    show _ = _
    rw [consOk_at0 hn, decide_eq_true hk, hA]
    rfl
  obtain ⟨k, hk'⟩ : ∃ k, row.length = k := ⟨_, rfl⟩
  have HK : Hid (row.length = k) := hk'
  have HK0 : Hid (decide (((k : Nat) : Int) = 0) = true) := by
    show _ = _
    rw [decide_eq_true (by omega)]
  have HF : Hid (True ∧ decide (a = Sha.sha []) = false) := ⟨trivial, hA⟩
  have hn' : ¬ n < 0 := by omega
  clear ha hb hk hk' hA hn
  obtain ⟨B, hB⟩ : ∃ B, B = w.heap.size := ⟨_, rfl⟩
  have HB : Hid (B = w.heap.size) := hB
  clear hB
  go_enter Tryd.func13, Tryd.ntmps13
  go_wp2_with (first
    | (refine wl_box (.tmp 2) rfl rfl a HH.out.1 rfl ?_; rw [← HB.out]; intro w1 r1 s1 b1; have R1 : Hid (HIs w1 B a ∧ Below w.heap.size w w1 ∧ w1.heap.size = B + 1) := ⟨r1, HB.out ▸ b1, s1⟩; clear r1 s1 b1)
    | (refine wl_box (.tmp 3) rfl rfl b HH.out.2 rfl ?_; rw [R1.out.2.2]; intro w2 r2 s2 b2; have R2 : Hid (HIs w2 B a ∧ HIs w2 (B + 1) b ∧ Below w.heap.size w w2 ∧ w2.heap.size = B + 2) := ⟨R1.out.1.next (R1.out.2.2 ▸ b2), r2, below_append R1.out.2.1 (R1.out.2.2 ▸ b2), s2⟩; clear r2 s2 b2))
  have hS : Below w2.heap.size w2 { w2 with drawn := w2.drawn + 1 } := below_drawn w2 _
  refine wp_region_held (S := fun W => Below w2.heap.size w2 W) (by kernel_rfl) ?_
  show wpAnyH _ _ _ _ _ 18 (Array.replicate 18 false) _ _
  refine takeH (i := 0) (some 23) rfl rfl (by kernel_rfl) (by kernel_rfl) (by kernel_rfl) (fun _ _ _ h => h) (yMoveW rfl (.tmp 4) rfl (v) rfl) hS ?_
  simp only [Act.put, List.setIfInBounds_toArray, List.set_cons_succ, List.set_cons_zero]
  refine takeH (i := 1) (some 24) rfl rfl (by kernel_rfl) (by kernel_rfl) (by kernel_rfl) (fun _ _ _ h => h) (yLen rfl (.tmp 23) rfl v row rfl _ (h) k HK.out) hS ?_
  simp only [Act.put, List.setIfInBounds_toArray, List.set_cons_succ, List.set_cons_zero]
  refine takeH (i := 2) (some 25) rfl rfl (by kernel_rfl) (by kernel_rfl) (by kernel_rfl) (fun _ _ _ h => h) (yEqI rfl (.tmp 24) (.const (.int .i64 0)) rfl ((k : Nat) : Int) 0 rfl rfl true HK0.out) hS ?_
  simp only [Act.put, List.setIfInBounds_toArray, List.set_cons_succ, List.set_cons_zero]
  refine takeH (i := 3) (some 26) rfl rfl (by kernel_rfl) (by kernel_rfl) (by kernel_rfl) (fun _ _ _ h => h) (yMoveW rfl (.tmp 25) rfl (.bool true) rfl) hS ?_
  simp only [Act.put, List.setIfInBounds_toArray, List.set_cons_succ, List.set_cons_zero]
  refine takeH (i := 4) (some 27) rfl rfl (by kernel_rfl) (by kernel_rfl) (by kernel_rfl) (fun _ _ _ h => h) (yRunW rfl (hv a) (fun W hW => rx_load (.tmp 7) rfl (.pointer (some ⟨B, 0, none⟩)) rfl a ((R2.out.1.next hW).at))) hS ?_
  simp only [Act.put, List.setIfInBounds_toArray, List.set_cons_succ, List.set_cons_zero]
  refine oneH (i := 5) (by kernel_rfl) ?_
  refine opCallW (some 28) rfl rfl rfl 16 _ (run_call en16' [.const (.slice none 0 0)] _ rfl [(.slice none 0 0)] rfl) ?_
  refine (root_any 0 (.slice none 0 0) [] _ rfl (by decide) (HIn.nil _) (ht.later (below_append R2.out.2.2.1 hS)) (hst.later (below_append R2.out.2.2.1 hS))).mono ?_
  rintro e v1 ⟨rfl, bb⟩
  rw [Tree.root_nil]
  have hS' : Below w2.heap.size w2 v1 := below_append hS bb
  refine ⟨_, rfl, hS', ?_⟩
  clear hS bb
  have hS := hS'
  clear hS'
  simp only [Act.put, List.setIfInBounds_toArray, List.set_cons_succ, List.set_cons_zero]
  refine takeH (i := 6) (some 29) rfl rfl (by kernel_rfl) (by kernel_rfl) (by kernel_rfl) (fun _ _ _ h => h) (yRunW rfl (.bool false) (fun _ _ => rx_eqB (.tmp 27) (.tmp 28) rfl a (Sha.sha []) HH.out.1 (sha_isH _) rfl rfl false HF.out.2)) hS ?_
  simp only [Act.put, List.setIfInBounds_toArray, List.set_cons_succ, List.set_cons_zero]
  refine takeH (i := 7) (some 30) rfl rfl (by kernel_rfl) (by kernel_rfl) (by kernel_rfl) (fun _ _ _ h => h) (yPickW rfl (.tmp 26) (.tmp 29) _ rfl rfl (.bool false) rfl) hS ?_
  simp only [Act.put, List.setIfInBounds_toArray, List.set_cons_succ, List.set_cons_zero]
  refine takeH (i := 8) (some 31) rfl rfl (by kernel_rfl) (by kernel_rfl) (by kernel_rfl) (fun _ _ _ h => h) (yMoveW rfl (.tmp 30) rfl (.bool false) rfl) hS ?_
  simp only [Act.put, List.setIfInBounds_toArray, List.set_cons_succ, List.set_cons_zero]
  refine takeH (i := 9) (some 32) rfl rfl (by kernel_rfl) (by kernel_rfl) (by kernel_rfl) (fun _ _ _ h => h) (yOff rfl) hS ?_
  simp only [Act.put, List.setIfInBounds_toArray, List.set_cons_succ, List.set_cons_zero]
  refine takeH (i := 10) (some 33) rfl rfl (by kernel_rfl) (by kernel_rfl) (by kernel_rfl) (fun _ _ _ h => h) (yOff rfl) hS ?_
  simp only [Act.put, List.setIfInBounds_toArray, List.set_cons_succ, List.set_cons_zero]
  refine takeH (i := 11) (some 34) rfl rfl (by kernel_rfl) (by kernel_rfl) (by kernel_rfl) (fun _ _ _ h => h) (yOff rfl) hS ?_
  simp only [Act.put, List.setIfInBounds_toArray, List.set_cons_succ, List.set_cons_zero]
  refine takeH (i := 12) (some 35) rfl rfl (by kernel_rfl) (by kernel_rfl) (by kernel_rfl) (fun _ _ _ h => h) (yOff rfl) hS ?_
  simp only [Act.put, List.setIfInBounds_toArray, List.set_cons_succ, List.set_cons_zero]
  refine takeH (i := 13) (some 36) rfl rfl (by kernel_rfl) (by kernel_rfl) (by kernel_rfl) (fun _ _ _ h => h) (yOff rfl) hS ?_
  simp only [Act.put, List.setIfInBounds_toArray, List.set_cons_succ, List.set_cons_zero]
  refine takeH (i := 14) (some 37) rfl rfl (by kernel_rfl) (by kernel_rfl) (by kernel_rfl) (fun _ _ _ h => h) (yOff rfl) hS ?_
  simp only [Act.put, List.setIfInBounds_toArray, List.set_cons_succ, List.set_cons_zero]
  refine takeH (i := 15) (some 38) rfl rfl (by kernel_rfl) (by kernel_rfl) (by kernel_rfl) (fun _ _ _ h => h) (yOff rfl) hS ?_
  simp only [Act.put, List.setIfInBounds_toArray, List.set_cons_succ, List.set_cons_zero]
  refine takeH (i := 16) (some 39) rfl rfl (by kernel_rfl) (by kernel_rfl) (by kernel_rfl) (fun _ _ _ h => h) (yPickF rfl (.tmp 31) _ (.const (.bool false)) rfl rfl (.bool false) rfl) hS ?_
  simp only [Act.put, List.setIfInBounds_toArray, List.set_cons_succ, List.set_cons_zero]
  refine takeH (i := 17) (some 10) rfl rfl (by kernel_rfl) (by kernel_rfl) (by kernel_rfl) (fun _ _ _ h => h) (yAssign rfl (.tmp 39) rfl (.bool false) rfl) hS ?_
  simp only [Act.put, List.setIfInBounds_toArray, List.set_cons_succ, List.set_cons_zero]
  refine wpAnyH_done (by kernel_rfl) ?_ _
  have HB9 : Hid (Below w.heap.size w _) := below_append R2.out.2.2.1 hS
  clear hS
  go_wp2_with fail
  go_ret
  exact ⟨by rw [HU.out]; rfl, HB9.out⟩
set_option maxHeartbeats 2000000 in
set_option maxRecDepth 100000 in
theorem vcons_0C (a b : List Nat) (n : Int) (v : Value) (row : List (List Nat)) (w : World) (ha : IsH a) (hb : IsH b) (h : HIn w v row) (ht : TabIn w) (hst : StartIn w) (hn : 0 ≤ n) (hk : row.length = 0) (hA : decide (a = Sha.sha []) = true) (hN : decide (0 < n) = true) :
    Calls Tryd.prog 13 #[.int .i64 0, .int .i64 n, hv a, hv b, v] w fun e w' => e = .returned (.bool (Tree.consOk 0 n a b row)) ∧ Below w.heap.size w w' := by
  have HH : Hid (IsH a ∧ IsH b) := ⟨ha, hb⟩
  have HU : Hid (Tree.consOk 0 n a b row = true) := by
    show _ = _
    rw [consOk_at0 hn, decide_eq_true hk, hA, hN]
    rfl
  obtain ⟨k, hk'⟩ : ∃ k, row.length = k := ⟨_, rfl⟩
  have HK : Hid (row.length = k) := hk'
  have HK0 : Hid (decide (((k : Nat) : Int) = 0) = true) := by
    show _ = _
    rw [decide_eq_true (by omega)]
  have HF : Hid (True ∧ decide (a = Sha.sha []) = true ∧ decide (0 < n) = true) := ⟨trivial, hA, hN⟩
  have hn' : ¬ n < 0 := by omega
  clear ha hb hk hk' hA hN hn
  obtain ⟨B, hB⟩ : ∃ B, B = w.heap.size := ⟨_, rfl⟩
  have HB : Hid (B = w.heap.size) := hB
  clear hB
  go_enter Tryd.func13, Tryd.ntmps13
  go_wp2_with (first
    | (refine wl_box (.tmp 2) rfl rfl a HH.out.1 rfl ?_; rw [← HB.out]; intro w1 r1 s1 b1; have R1 : Hid (HIs w1 B a ∧ Below w.heap.size w w1 ∧ w1.heap.size = B + 1) := ⟨r1, HB.out ▸ b1, s1⟩; clear r1 s1 b1)
    | (refine wl_box (.tmp 3) rfl rfl b HH.out.2 rfl ?_; rw [R1.out.2.2]; intro w2 r2 s2 b2; have R2 : Hid (HIs w2 B a ∧ HIs w2 (B + 1) b ∧ Below w.heap.size w w2 ∧ w2.heap.size = B + 2) := ⟨R1.out.1.next (R1.out.2.2 ▸ b2), r2, below_append R1.out.2.1 (R1.out.2.2 ▸ b2), s2⟩; clear r2 s2 b2))
  have hS : Below w2.heap.size w2 { w2 with drawn := w2.drawn + 1 } := below_drawn w2 _
  refine wp_region_held (S := fun W => Below w2.heap.size w2 W) (by kernel_rfl) ?_
  show wpAnyH _ _ _ _ _ 18 (Array.replicate 18 false) _ _
  refine takeH (i := 0) (some 23) rfl rfl (by kernel_rfl) (by kernel_rfl) (by kernel_rfl) (fun _ _ _ h => h) (yMoveW rfl (.tmp 4) rfl (v) rfl) hS ?_
  simp only [Act.put, List.setIfInBounds_toArray, List.set_cons_succ, List.set_cons_zero]
  refine takeH (i := 1) (some 24) rfl rfl (by kernel_rfl) (by kernel_rfl) (by kernel_rfl) (fun _ _ _ h => h) (yLen rfl (.tmp 23) rfl v row rfl _ (h) k HK.out) hS ?_
  simp only [Act.put, List.setIfInBounds_toArray, List.set_cons_succ, List.set_cons_zero]
  refine takeH (i := 2) (some 25) rfl rfl (by kernel_rfl) (by kernel_rfl) (by kernel_rfl) (fun _ _ _ h => h) (yEqI rfl (.tmp 24) (.const (.int .i64 0)) rfl ((k : Nat) : Int) 0 rfl rfl true HK0.out) hS ?_
  simp only [Act.put, List.setIfInBounds_toArray, List.set_cons_succ, List.set_cons_zero]
  refine takeH (i := 3) (some 26) rfl rfl (by kernel_rfl) (by kernel_rfl) (by kernel_rfl) (fun _ _ _ h => h) (yMoveW rfl (.tmp 25) rfl (.bool true) rfl) hS ?_
  simp only [Act.put, List.setIfInBounds_toArray, List.set_cons_succ, List.set_cons_zero]
  refine takeH (i := 4) (some 27) rfl rfl (by kernel_rfl) (by kernel_rfl) (by kernel_rfl) (fun _ _ _ h => h) (yRunW rfl (hv a) (fun W hW => rx_load (.tmp 7) rfl (.pointer (some ⟨B, 0, none⟩)) rfl a ((R2.out.1.next hW).at))) hS ?_
  simp only [Act.put, List.setIfInBounds_toArray, List.set_cons_succ, List.set_cons_zero]
  refine oneH (i := 5) (by kernel_rfl) ?_
  refine opCallW (some 28) rfl rfl rfl 16 _ (run_call en16' [.const (.slice none 0 0)] _ rfl [(.slice none 0 0)] rfl) ?_
  refine (root_any 0 (.slice none 0 0) [] _ rfl (by decide) (HIn.nil _) (ht.later (below_append R2.out.2.2.1 hS)) (hst.later (below_append R2.out.2.2.1 hS))).mono ?_
  rintro e v1 ⟨rfl, bb⟩
  rw [Tree.root_nil]
  have hS' : Below w2.heap.size w2 v1 := below_append hS bb
  refine ⟨_, rfl, hS', ?_⟩
  clear hS bb
  have hS := hS'
  clear hS'
  simp only [Act.put, List.setIfInBounds_toArray, List.set_cons_succ, List.set_cons_zero]
  refine takeH (i := 6) (some 29) rfl rfl (by kernel_rfl) (by kernel_rfl) (by kernel_rfl) (fun _ _ _ h => h) (yRunW rfl (.bool true) (fun _ _ => rx_eqB (.tmp 27) (.tmp 28) rfl a (Sha.sha []) HH.out.1 (sha_isH _) rfl rfl true HF.out.2.1)) hS ?_
  simp only [Act.put, List.setIfInBounds_toArray, List.set_cons_succ, List.set_cons_zero]
  refine takeH (i := 7) (some 30) rfl rfl (by kernel_rfl) (by kernel_rfl) (by kernel_rfl) (fun _ _ _ h => h) (yPickW rfl (.tmp 26) (.tmp 29) _ rfl rfl (.bool true) rfl) hS ?_
  simp only [Act.put, List.setIfInBounds_toArray, List.set_cons_succ, List.set_cons_zero]
  refine takeH (i := 8) (some 31) rfl rfl (by kernel_rfl) (by kernel_rfl) (by kernel_rfl) (fun _ _ _ h => h) (yMoveW rfl (.tmp 30) rfl (.bool true) rfl) hS ?_
  simp only [Act.put, List.setIfInBounds_toArray, List.set_cons_succ, List.set_cons_zero]
  refine takeH (i := 9) (some 32) rfl rfl (by kernel_rfl) (by kernel_rfl) (by kernel_rfl) (fun _ _ _ h => h) (yMoveW rfl (.tmp 1) rfl (.int .i64 n) rfl) hS ?_
  simp only [Act.put, List.setIfInBounds_toArray, List.set_cons_succ, List.set_cons_zero]
  refine takeH (i := 10) (some 33) rfl rfl (by kernel_rfl) (by kernel_rfl) (by kernel_rfl) (fun _ _ _ h => h) (yGtrI rfl (.tmp 32) (.const (.int .i64 0)) rfl n 0 rfl rfl true HF.out.2.2) hS ?_
  simp only [Act.put, List.setIfInBounds_toArray, List.set_cons_succ, List.set_cons_zero]
  refine takeH (i := 11) (some 34) rfl rfl (by kernel_rfl) (by kernel_rfl) (by kernel_rfl) (fun _ _ _ h => h) (yMoveW rfl (.tmp 33) rfl (.bool true) rfl) hS ?_
  simp only [Act.put, List.setIfInBounds_toArray, List.set_cons_succ, List.set_cons_zero]
  refine takeH (i := 12) (some 35) rfl rfl (by kernel_rfl) (by kernel_rfl) (by kernel_rfl) (fun _ _ _ h => h) (yOff rfl) hS ?_
  simp only [Act.put, List.setIfInBounds_toArray, List.set_cons_succ, List.set_cons_zero]
  refine takeH (i := 13) (some 36) rfl rfl (by kernel_rfl) (by kernel_rfl) (by kernel_rfl) (fun _ _ _ h => h) (yOff rfl) hS ?_
  simp only [Act.put, List.setIfInBounds_toArray, List.set_cons_succ, List.set_cons_zero]
  refine takeH (i := 14) (some 37) rfl rfl (by kernel_rfl) (by kernel_rfl) (by kernel_rfl) (fun _ _ _ h => h) (yOff rfl) hS ?_
  simp only [Act.put, List.setIfInBounds_toArray, List.set_cons_succ, List.set_cons_zero]
  refine takeH (i := 15) (some 38) rfl rfl (by kernel_rfl) (by kernel_rfl) (by kernel_rfl) (fun _ _ _ h => h) (yPickW rfl (.tmp 34) (.const (.bool true)) _ rfl rfl (.bool true) rfl) hS ?_
  simp only [Act.put, List.setIfInBounds_toArray, List.set_cons_succ, List.set_cons_zero]
  refine takeH (i := 16) (some 39) rfl rfl (by kernel_rfl) (by kernel_rfl) (by kernel_rfl) (fun _ _ _ h => h) (yPickW rfl (.tmp 31) (.tmp 38) _ rfl rfl (.bool true) rfl) hS ?_
  simp only [Act.put, List.setIfInBounds_toArray, List.set_cons_succ, List.set_cons_zero]
  refine takeH (i := 17) (some 10) rfl rfl (by kernel_rfl) (by kernel_rfl) (by kernel_rfl) (fun _ _ _ h => h) (yAssign rfl (.tmp 39) rfl (.bool true) rfl) hS ?_
  simp only [Act.put, List.setIfInBounds_toArray, List.set_cons_succ, List.set_cons_zero]
  refine wpAnyH_done (by kernel_rfl) ?_ _
  have HB9 : Hid (Below w.heap.size w _) := below_append R2.out.2.2.1 hS
  clear hS
  go_wp2_with fail
  go_ret
  exact ⟨by rw [HU.out]; rfl, HB9.out⟩
set_option maxHeartbeats 2000000 in
set_option maxRecDepth 100000 in
theorem vcons_0D1 (a b : List Nat) (n : Int) (v : Value) (row : List (List Nat)) (w : World) (ha : IsH a) (hb : IsH b) (h : HIn w v row) (ht : TabIn w) (hst : StartIn w) (hn : 0 ≤ n) (hk : row.length = 0) (hA : decide (a = Sha.sha []) = true) (hN : decide (0 < n) = false) (hBA : decide (b = a) = true) :
    Calls Tryd.prog 13 #[.int .i64 0, .int .i64 n, hv a, hv b, v] w fun e w' => e = .returned (.bool (Tree.consOk 0 n a b row)) ∧ Below w.heap.size w w' := by
  have HH : Hid (IsH a ∧ IsH b) := ⟨ha, hb⟩
  have HU : Hid (Tree.consOk 0 n a b row = true) := by
    show _ = _
    rw [consOk_at0 hn, decide_eq_true hk, hA, hN, hBA]
    rfl
  obtain ⟨k, hk'⟩ : ∃ k, row.length = k := ⟨_, rfl⟩
  have HK : Hid (row.length = k) := hk'
  have HK0 : Hid (decide (((k : Nat) : Int) = 0) = true) := by
    show _ = _
    rw [decide_eq_true (by omega)]
  have HF : Hid (True ∧ decide (a = Sha.sha []) = true ∧ decide (0 < n) = false ∧ decide (b = a) = true) := ⟨trivial, hA, hN, hBA⟩
  have hn' : ¬ n < 0 := by omega
  clear ha hb hk hk' hA hN hBA hn
  obtain ⟨B, hB⟩ : ∃ B, B = w.heap.size := ⟨_, rfl⟩
  have HB : Hid (B = w.heap.size) := hB
  clear hB
  go_enter Tryd.func13, Tryd.ntmps13
  go_wp2_with (first
    | (refine wl_box (.tmp 2) rfl rfl a HH.out.1 rfl ?_; rw [← HB.out]; intro w1 r1 s1 b1; have R1 : Hid (HIs w1 B a ∧ Below w.heap.size w w1 ∧ w1.heap.size = B + 1) := ⟨r1, HB.out ▸ b1, s1⟩; clear r1 s1 b1)
    | (refine wl_box (.tmp 3) rfl rfl b HH.out.2 rfl ?_; rw [R1.out.2.2]; intro w2 r2 s2 b2; have R2 : Hid (HIs w2 B a ∧ HIs w2 (B + 1) b ∧ Below w.heap.size w w2 ∧ w2.heap.size = B + 2) := ⟨R1.out.1.next (R1.out.2.2 ▸ b2), r2, below_append R1.out.2.1 (R1.out.2.2 ▸ b2), s2⟩; clear r2 s2 b2))
  have hS : Below w2.heap.size w2 { w2 with drawn := w2.drawn + 1 } := below_drawn w2 _
  refine wp_region_held (S := fun W => Below w2.heap.size w2 W) (by kernel_rfl) ?_
  show wpAnyH _ _ _ _ _ 18 (Array.replicate 18 false) _ _
  refine takeH (i := 0) (some 23) rfl rfl (by kernel_rfl) (by kernel_rfl) (by kernel_rfl) (fun _ _ _ h => h) (yMoveW rfl (.tmp 4) rfl (v) rfl) hS ?_
  simp only [Act.put, List.setIfInBounds_toArray, List.set_cons_succ, List.set_cons_zero]
  refine takeH (i := 1) (some 24) rfl rfl (by kernel_rfl) (by kernel_rfl) (by kernel_rfl) (fun _ _ _ h => h) (yLen rfl (.tmp 23) rfl v row rfl _ (h) k HK.out) hS ?_
  simp only [Act.put, List.setIfInBounds_toArray, List.set_cons_succ, List.set_cons_zero]
  refine takeH (i := 2) (some 25) rfl rfl (by kernel_rfl) (by kernel_rfl) (by kernel_rfl) (fun _ _ _ h => h) (yEqI rfl (.tmp 24) (.const (.int .i64 0)) rfl ((k : Nat) : Int) 0 rfl rfl true HK0.out) hS ?_
  simp only [Act.put, List.setIfInBounds_toArray, List.set_cons_succ, List.set_cons_zero]
  refine takeH (i := 3) (some 26) rfl rfl (by kernel_rfl) (by kernel_rfl) (by kernel_rfl) (fun _ _ _ h => h) (yMoveW rfl (.tmp 25) rfl (.bool true) rfl) hS ?_
  simp only [Act.put, List.setIfInBounds_toArray, List.set_cons_succ, List.set_cons_zero]
  refine takeH (i := 4) (some 27) rfl rfl (by kernel_rfl) (by kernel_rfl) (by kernel_rfl) (fun _ _ _ h => h) (yRunW rfl (hv a) (fun W hW => rx_load (.tmp 7) rfl (.pointer (some ⟨B, 0, none⟩)) rfl a ((R2.out.1.next hW).at))) hS ?_
  simp only [Act.put, List.setIfInBounds_toArray, List.set_cons_succ, List.set_cons_zero]
  refine oneH (i := 5) (by kernel_rfl) ?_
  refine opCallW (some 28) rfl rfl rfl 16 _ (run_call en16' [.const (.slice none 0 0)] _ rfl [(.slice none 0 0)] rfl) ?_
  refine (root_any 0 (.slice none 0 0) [] _ rfl (by decide) (HIn.nil _) (ht.later (below_append R2.out.2.2.1 hS)) (hst.later (below_append R2.out.2.2.1 hS))).mono ?_
  rintro e v1 ⟨rfl, bb⟩
  rw [Tree.root_nil]
  have hS' : Below w2.heap.size w2 v1 := below_append hS bb
  refine ⟨_, rfl, hS', ?_⟩
  clear hS bb
  have hS := hS'
  clear hS'
  simp only [Act.put, List.setIfInBounds_toArray, List.set_cons_succ, List.set_cons_zero]
  refine takeH (i := 6) (some 29) rfl rfl (by kernel_rfl) (by kernel_rfl) (by kernel_rfl) (fun _ _ _ h => h) (yRunW rfl (.bool true) (fun _ _ => rx_eqB (.tmp 27) (.tmp 28) rfl a (Sha.sha []) HH.out.1 (sha_isH _) rfl rfl true HF.out.2.1)) hS ?_
  simp only [Act.put, List.setIfInBounds_toArray, List.set_cons_succ, List.set_cons_zero]
  refine takeH (i := 7) (some 30) rfl rfl (by kernel_rfl) (by kernel_rfl) (by kernel_rfl) (fun _ _ _ h => h) (yPickW rfl (.tmp 26) (.tmp 29) _ rfl rfl (.bool true) rfl) hS ?_
  simp only [Act.put, List.setIfInBounds_toArray, List.set_cons_succ, List.set_cons_zero]
  refine takeH (i := 8) (some 31) rfl rfl (by kernel_rfl) (by kernel_rfl) (by kernel_rfl) (fun _ _ _ h => h) (yMoveW rfl (.tmp 30) rfl (.bool true) rfl) hS ?_
  simp only [Act.put, List.setIfInBounds_toArray, List.set_cons_succ, List.set_cons_zero]
  refine takeH (i := 9) (some 32) rfl rfl (by kernel_rfl) (by kernel_rfl) (by kernel_rfl) (fun _ _ _ h => h) (yMoveW rfl (.tmp 1) rfl (.int .i64 n) rfl) hS ?_
  simp only [Act.put, List.setIfInBounds_toArray, List.set_cons_succ, List.set_cons_zero]
  refine takeH (i := 10) (some 33) rfl rfl (by kernel_rfl) (by kernel_rfl) (by kernel_rfl) (fun _ _ _ h => h) (yGtrI rfl (.tmp 32) (.const (.int .i64 0)) rfl n 0 rfl rfl false HF.out.2.2.1) hS ?_
  simp only [Act.put, List.setIfInBounds_toArray, List.set_cons_succ, List.set_cons_zero]
  refine takeH (i := 11) (some 34) rfl rfl (by kernel_rfl) (by kernel_rfl) (by kernel_rfl) (fun _ _ _ h => h) (yMoveW rfl (.tmp 33) rfl (.bool false) rfl) hS ?_
  simp only [Act.put, List.setIfInBounds_toArray, List.set_cons_succ, List.set_cons_zero]
  refine takeH (i := 12) (some 35) rfl rfl (by kernel_rfl) (by kernel_rfl) (by kernel_rfl) (fun _ _ _ h => h) (yRunW rfl (hv b) (fun W hW => rx_load (.tmp 8) rfl (.pointer (some ⟨(B + 1), 0, none⟩)) rfl b ((R2.out.2.1.next hW).at))) hS ?_
  simp only [Act.put, List.setIfInBounds_toArray, List.set_cons_succ, List.set_cons_zero]
  refine takeH (i := 13) (some 36) rfl rfl (by kernel_rfl) (by kernel_rfl) (by kernel_rfl) (fun _ _ _ h => h) (yRunW rfl (hv a) (fun W hW => rx_load (.tmp 7) rfl (.pointer (some ⟨B, 0, none⟩)) rfl a ((R2.out.1.next hW).at))) hS ?_
  simp only [Act.put, List.setIfInBounds_toArray, List.set_cons_succ, List.set_cons_zero]
  refine takeH (i := 14) (some 37) rfl rfl (by kernel_rfl) (by kernel_rfl) (by kernel_rfl) (fun _ _ _ h => h) (yRunW rfl (.bool true) (fun _ _ => rx_eqB (.tmp 35) (.tmp 36) rfl b a HH.out.2 HH.out.1 rfl rfl true HF.out.2.2.2)) hS ?_
  simp only [Act.put, List.setIfInBounds_toArray, List.set_cons_succ, List.set_cons_zero]
  refine takeH (i := 15) (some 38) rfl rfl (by kernel_rfl) (by kernel_rfl) (by kernel_rfl) (fun _ _ _ h => h) (yPickF rfl (.tmp 34) _ (.tmp 37) rfl rfl (.bool true) rfl) hS ?_
  simp only [Act.put, List.setIfInBounds_toArray, List.set_cons_succ, List.set_cons_zero]
  refine takeH (i := 16) (some 39) rfl rfl (by kernel_rfl) (by kernel_rfl) (by kernel_rfl) (fun _ _ _ h => h) (yPickW rfl (.tmp 31) (.tmp 38) _ rfl rfl (.bool true) rfl) hS ?_
  simp only [Act.put, List.setIfInBounds_toArray, List.set_cons_succ, List.set_cons_zero]
  refine takeH (i := 17) (some 10) rfl rfl (by kernel_rfl) (by kernel_rfl) (by kernel_rfl) (fun _ _ _ h => h) (yAssign rfl (.tmp 39) rfl (.bool true) rfl) hS ?_
  simp only [Act.put, List.setIfInBounds_toArray, List.set_cons_succ, List.set_cons_zero]
  refine wpAnyH_done (by kernel_rfl) ?_ _
  have HB9 : Hid (Below w.heap.size w _) := below_append R2.out.2.2.1 hS
  clear hS
  go_wp2_with fail
  go_ret
  exact ⟨by rw [HU.out]; rfl, HB9.out⟩
set_option maxHeartbeats 2000000 in
set_option maxRecDepth 100000 in
theorem vcons_0D2 (a b : List Nat) (n : Int) (v : Value) (row : List (List Nat)) (w : World) (ha : IsH a) (hb : IsH b) (h : HIn w v row) (ht : TabIn w) (hst : StartIn w) (hn : 0 ≤ n) (hk : row.length = 0) (hA : decide (a = Sha.sha []) = true) (hN : decide (0 < n) = false) (hBA : decide (b = a) = false) :
    Calls Tryd.prog 13 #[.int .i64 0, .int .i64 n, hv a, hv b, v] w fun e w' => e = .returned (.bool (Tree.consOk 0 n a b row)) ∧ Below w.heap.size w w' := by
  have HH : Hid (IsH a ∧ IsH b) := ⟨ha, hb⟩
  have HU : Hid (Tree.consOk 0 n a b row = false) := by
    show _ = _
    rw [consOk_at0 hn, decide_eq_true hk, hA, hN, hBA]
    rfl
  obtain ⟨k, hk'⟩ : ∃ k, row.length = k := ⟨_, rfl⟩
  have HK : Hid (row.length = k) := hk'
  have HK0 : Hid (decide (((k : Nat) : Int) = 0) = true) := by
    show _ = _
    rw [decide_eq_true (by omega)]
  have HF : Hid (True ∧ decide (a = Sha.sha []) = true ∧ decide (0 < n) = false ∧ decide (b = a) = false) := ⟨trivial, hA, hN, hBA⟩
  have hn' : ¬ n < 0 := by omega
  clear ha hb hk hk' hA hN hBA hn
  obtain ⟨B, hB⟩ : ∃ B, B = w.heap.size := ⟨_, rfl⟩
  have HB : Hid (B = w.heap.size) := hB
  clear hB
  go_enter Tryd.func13, Tryd.ntmps13
  go_wp2_with (first
    | (refine wl_box (.tmp 2) rfl rfl a HH.out.1 rfl ?_; rw [← HB.out]; intro w1 r1 s1 b1; have R1 : Hid (HIs w1 B a ∧ Below w.heap.size w w1 ∧ w1.heap.size = B + 1) := ⟨r1, HB.out ▸ b1, s1⟩; clear r1 s1 b1)
    | (refine wl_box (.tmp 3) rfl rfl b HH.out.2 rfl ?_; rw [R1.out.2.2]; intro w2 r2 s2 b2; have R2 : Hid (HIs w2 B a ∧ HIs w2 (B + 1) b ∧ Below w.heap.size w w2 ∧ w2.heap.size = B + 2) := ⟨R1.out.1.next (R1.out.2.2 ▸ b2), r2, below_append R1.out.2.1 (R1.out.2.2 ▸ b2), s2⟩; clear r2 s2 b2))
  have hS : Below w2.heap.size w2 { w2 with drawn := w2.drawn + 1 } := below_drawn w2 _
  refine wp_region_held (S := fun W => Below w2.heap.size w2 W) (by kernel_rfl) ?_
  show wpAnyH _ _ _ _ _ 18 (Array.replicate 18 false) _ _
  refine takeH (i := 0) (some 23) rfl rfl (by kernel_rfl) (by kernel_rfl) (by kernel_rfl) (fun _ _ _ h => h) (yMoveW rfl (.tmp 4) rfl (v) rfl) hS ?_
  simp only [Act.put, List.setIfInBounds_toArray, List.set_cons_succ, List.set_cons_zero]
  refine takeH (i := 1) (some 24) rfl rfl (by kernel_rfl) (by kernel_rfl) (by kernel_rfl) (fun _ _ _ h => h) (yLen rfl (.tmp 23) rfl v row rfl _ (h) k HK.out) hS ?_
  simp only [Act.put, List.setIfInBounds_toArray, List.set_cons_succ, List.set_cons_zero]
  refine takeH (i := 2) (some 25) rfl rfl (by kernel_rfl) (by kernel_rfl) (by kernel_rfl) (fun _ _ _ h => h) (yEqI rfl (.tmp 24) (.const (.int .i64 0)) rfl ((k : Nat) : Int) 0 rfl rfl true HK0.out) hS ?_
  simp only [Act.put, List.setIfInBounds_toArray, List.set_cons_succ, List.set_cons_zero]
  refine takeH (i := 3) (some 26) rfl rfl (by kernel_rfl) (by kernel_rfl) (by kernel_rfl) (fun _ _ _ h => h) (yMoveW rfl (.tmp 25) rfl (.bool true) rfl) hS ?_
  simp only [Act.put, List.setIfInBounds_toArray, List.set_cons_succ, List.set_cons_zero]
  refine takeH (i := 4) (some 27) rfl rfl (by kernel_rfl) (by kernel_rfl) (by kernel_rfl) (fun _ _ _ h => h) (yRunW rfl (hv a) (fun W hW => rx_load (.tmp 7) rfl (.pointer (some ⟨B, 0, none⟩)) rfl a ((R2.out.1.next hW).at))) hS ?_
  simp only [Act.put, List.setIfInBounds_toArray, List.set_cons_succ, List.set_cons_zero]
  refine oneH (i := 5) (by kernel_rfl) ?_
  refine opCallW (some 28) rfl rfl rfl 16 _ (run_call en16' [.const (.slice none 0 0)] _ rfl [(.slice none 0 0)] rfl) ?_
  refine (root_any 0 (.slice none 0 0) [] _ rfl (by decide) (HIn.nil _) (ht.later (below_append R2.out.2.2.1 hS)) (hst.later (below_append R2.out.2.2.1 hS))).mono ?_
  rintro e v1 ⟨rfl, bb⟩
  rw [Tree.root_nil]
  have hS' : Below w2.heap.size w2 v1 := below_append hS bb
  refine ⟨_, rfl, hS', ?_⟩
  clear hS bb
  have hS := hS'
  clear hS'
  simp only [Act.put, List.setIfInBounds_toArray, List.set_cons_succ, List.set_cons_zero]
  refine takeH (i := 6) (some 29) rfl rfl (by kernel_rfl) (by kernel_rfl) (by kernel_rfl) (fun _ _ _ h => h) (yRunW rfl (.bool true) (fun _ _ => rx_eqB (.tmp 27) (.tmp 28) rfl a (Sha.sha []) HH.out.1 (sha_isH _) rfl rfl true HF.out.2.1)) hS ?_
  simp only [Act.put, List.setIfInBounds_toArray, List.set_cons_succ, List.set_cons_zero]
  refine takeH (i := 7) (some 30) rfl rfl (by kernel_rfl) (by kernel_rfl) (by kernel_rfl) (fun _ _ _ h => h) (yPickW rfl (.tmp 26) (.tmp 29) _ rfl rfl (.bool true) rfl) hS ?_
  simp only [Act.put, List.setIfInBounds_toArray, List.set_cons_succ, List.set_cons_zero]
  refine takeH (i := 8) (some 31) rfl rfl (by kernel_rfl) (by kernel_rfl) (by kernel_rfl) (fun _ _ _ h => h) (yMoveW rfl (.tmp 30) rfl (.bool true) rfl) hS ?_
  simp only [Act.put, List.setIfInBounds_toArray, List.set_cons_succ, List.set_cons_zero]
  refine takeH (i := 9) (some 32) rfl rfl (by kernel_rfl) (by kernel_rfl) (by kernel_rfl) (fun _ _ _ h => h) (yMoveW rfl (.tmp 1) rfl (.int .i64 n) rfl) hS ?_
  simp only [Act.put, List.setIfInBounds_toArray, List.set_cons_succ, List.set_cons_zero]
  refine takeH (i := 10) (some 33) rfl rfl (by kernel_rfl) (by kernel_rfl) (by kernel_rfl) (fun _ _ _ h => h) (yGtrI rfl (.tmp 32) (.const (.int .i64 0)) rfl n 0 rfl rfl false HF.out.2.2.1) hS ?_
  simp only [Act.put, List.setIfInBounds_toArray, List.set_cons_succ, List.set_cons_zero]
  refine takeH (i := 11) (some 34) rfl rfl (by kernel_rfl) (by kernel_rfl) (by kernel_rfl) (fun _ _ _ h => h) (yMoveW rfl (.tmp 33) rfl (.bool false) rfl) hS ?_
  simp only [Act.put, List.setIfInBounds_toArray, List.set_cons_succ, List.set_cons_zero]
  refine takeH (i := 12) (some 35) rfl rfl (by kernel_rfl) (by kernel_rfl) (by kernel_rfl) (fun _ _ _ h => h) (yRunW rfl (hv b) (fun W hW => rx_load (.tmp 8) rfl (.pointer (some ⟨(B + 1), 0, none⟩)) rfl b ((R2.out.2.1.next hW).at))) hS ?_
  simp only [Act.put, List.setIfInBounds_toArray, List.set_cons_succ, List.set_cons_zero]
  refine takeH (i := 13) (some 36) rfl rfl (by kernel_rfl) (by kernel_rfl) (by kernel_rfl) (fun _ _ _ h => h) (yRunW rfl (hv a) (fun W hW => rx_load (.tmp 7) rfl (.pointer (some ⟨B, 0, none⟩)) rfl a ((R2.out.1.next hW).at))) hS ?_
  simp only [Act.put, List.setIfInBounds_toArray, List.set_cons_succ, List.set_cons_zero]
  refine takeH (i := 14) (some 37) rfl rfl (by kernel_rfl) (by kernel_rfl) (by kernel_rfl) (fun _ _ _ h => h) (yRunW rfl (.bool false) (fun _ _ => rx_eqB (.tmp 35) (.tmp 36) rfl b a HH.out.2 HH.out.1 rfl rfl false HF.out.2.2.2)) hS ?_
  simp only [Act.put, List.setIfInBounds_toArray, List.set_cons_succ, List.set_cons_zero]
  refine takeH (i := 15) (some 38) rfl rfl (by kernel_rfl) (by kernel_rfl) (by kernel_rfl) (fun _ _ _ h => h) (yPickF rfl (.tmp 34) _ (.tmp 37) rfl rfl (.bool false) rfl) hS ?_
  simp only [Act.put, List.setIfInBounds_toArray, List.set_cons_succ, List.set_cons_zero]
  refine takeH (i := 16) (some 39) rfl rfl (by kernel_rfl) (by kernel_rfl) (by kernel_rfl) (fun _ _ _ h => h) (yPickW rfl (.tmp 31) (.tmp 38) _ rfl rfl (.bool false) rfl) hS ?_
  simp only [Act.put, List.setIfInBounds_toArray, List.set_cons_succ, List.set_cons_zero]
  refine takeH (i := 17) (some 10) rfl rfl (by kernel_rfl) (by kernel_rfl) (by kernel_rfl) (fun _ _ _ h => h) (yAssign rfl (.tmp 39) rfl (.bool false) rfl) hS ?_
  simp only [Act.put, List.setIfInBounds_toArray, List.set_cons_succ, List.set_cons_zero]
  refine wpAnyH_done (by kernel_rfl) ?_ _
  have HB9 : Hid (Below w.heap.size w _) := below_append R2.out.2.2.1 hS
  clear hS
  go_wp2_with fail
  go_ret
  exact ⟨by rw [HU.out]; rfl, HB9.out⟩
theorem vcons_0 (a b : List Nat) (n : Int) (v : Value) (row : List (List Nat)) (w : World) (ha : IsH a) (hb : IsH b) (h : HIn w v row) (ht : TabIn w) (hst : StartIn w) (hn : 0 ≤ n) :
    Calls Tryd.prog 13 #[.int .i64 0, .int .i64 n, hv a, hv b, v] w fun e w' => e = .returned (.bool (Tree.consOk 0 n a b row)) ∧ Below w.heap.size w w' := by
  by_cases hk : row.length = 0
  · cases hA : decide (a = Sha.sha []) with
    | false => exact vcons_0B a b n v row w ha hb h ht hst hn hk hA
    | true =>
      cases hN : decide (0 < n) with
      | true => exact vcons_0C a b n v row w ha hb h ht hst hn hk hA hN
      | false =>
        cases hBA : decide (b = a) with
        | true => exact vcons_0D1 a b n v row w ha hb h ht hst hn hk hA hN hBA
        | false => exact vcons_0D2 a b n v row w ha hb h ht hst hn hk hA hN hBA
  · exact vcons_0A a b n v row w ha hb h ht hst hn hk
set_option maxHeartbeats 4000000 in
set_option maxRecDepth 100000 in
theorem vcons_good (a b : List Nat) (m n : Nat) (v : Value) (row : List (List Nat)) (w : World) (ha : IsH a) (hb : IsH b) (h : HIn w v row) (ht : TabIn w) (hst : StartIn w) (h1 : 1 ≤ m) (hm : m ≤ n) (hn : n ≤ 9223372036854775807) :
    Calls Tryd.prog 13 #[.int .i64 (m : Nat), .int .i64 (n : Nat), hv a, hv b, v] w fun e w' => e = .returned (.bool (Tree.consOk m n a b row)) ∧ Below w.heap.size w w' := by
  have HH : Hid (IsH a ∧ IsH b) := ⟨ha, hb⟩
  have h0 : ¬ (m : Int) < 0 := by omega
  have h2 : ¬ (n : Int) < (m : Int) := by omega
  have h3 : ((m : Int) == 0) = false := by simp; omega
  have h3' : ¬ ((m : Int) = 0) := by omega
  clear ha hb
  obtain ⟨B, hB⟩ : ∃ B, B = w.heap.size := ⟨_, rfl⟩
  have HB : Hid (B = w.heap.size) := hB
  clear hB
  go_enter Tryd.func13, Tryd.ntmps13
  go_wp2_with (first
    | (refine wl_box (.tmp 2) rfl rfl a HH.out.1 rfl ?_; rw [← HB.out]; intro w1 r1 s1 b1; have R1 : Hid (HIs w1 B a ∧ Below w.heap.size w w1 ∧ w1.heap.size = B + 1) := ⟨r1, HB.out ▸ b1, s1⟩; clear r1 s1 b1)
    | (refine wl_box (.tmp 3) rfl rfl b HH.out.2 rfl ?_; rw [R1.out.2.2]; intro w2 r2 s2 b2; have R2 : Hid (HIs w2 B a ∧ HIs w2 (B + 1) b ∧ Below w.heap.size w w2 ∧ w2.heap.size = B + 2) := ⟨R1.out.1.next (R1.out.2.2 ▸ b2), r2, below_append R1.out.2.1 (R1.out.2.2 ▸ b2), s2⟩; clear r2 s2 b2)
    | (refine wl_alloc1 .nilFunc zeroF rfl rfl rfl ?_; rw [R2.out.2.2.2]; intro w3 r3 s3 b3; have R3 : Hid (HIs w3 B a ∧ HIs w3 (B + 1) b ∧ Below w.heap.size w w3 ∧ Row w3 (B + 2) 50 [.nilFunc]) := ⟨R2.out.1.next (R2.out.2.2.2 ▸ b3), R2.out.2.1.next (R2.out.2.2.2 ▸ b3), below_append R2.out.2.2.1 (R2.out.2.2.2 ▸ b3), r3⟩; clear r3 s3 b3)
    | (refine wl_makeFunc (.func 27) (.tmp 7) (.tmp 11) rfl rfl (pt B) (pt (B + 2)) rfl rfl ?_)
    | (refine wl_store1 sizeF (.tmp 11) (.tmp 40) rfl rfl rfl (B + 2) 50 .nilFunc rfl (fv27 B (B + 2)) rfl ⟨rfl, rfl⟩ R3.out.2.2.2 ?_; intro w4 r4 o4 s4; have R4 : Hid (HIs w4 B a ∧ HIs w4 (B + 1) b ∧ Below w.heap.size w w4 ∧ Row w4 (B + 2) 50 [fv27 B (B + 2)]) := ⟨R3.out.1.other o4 (by omega), R3.out.2.1.other o4 (by omega), R3.out.2.2.1.trans (o4.below (by rw [← HB.out]; omega) R3.out.2.2.1.size), r4⟩; clear r4 o4 s4)
    | (refine wl_load1 oneF (.tmp 11) rfl rfl (B + 2) 0 rfl (.func (.func 27) #[] #[.pointer (some ⟨B, 0, none⟩), .pointer (some ⟨B + 2, 0, none⟩)]) (R4.out.2.2.2.at 0 _ rfl) ?_))
  refine (two1_any B (B + 2) a n m true v row w4 h1 hn hm (h.later R4.out.2.2.1) (ht.later R4.out.2.2.1) (hst.later R4.out.2.2.1) R4.out.1 R4.out.2.2.2).mono ?_
  rcases hO : Tree.two m n a row true with _ | ⟨x, y⟩
  · intro e w5 t5
    obtain ⟨x, y, rfl, hq, b5⟩ := t5.no
    have HU : Hid (Tree.consOk m n a b row = false) := consOk_no hm h1 hO
    have R5 : Hid (Below w.heap.size w w5 ∧ IsH x ∧ IsH y ∧ HIs w5 B a ∧ HIs w5 (B + 1) b) := ⟨below_append R4.out.2.2.1 b5, hq.1, hq.2, R4.out.1.next b5, R4.out.2.1.next b5⟩
    clear t5 hq b5 hO
    go_wp2_with (first
      | (refine wl_newW rfl rfl rfl rfl rfl (.tmp 47) rfl x y R5.out.2.1 R5.out.2.2.1 (fun _ => rfl) (fun _ => rfl) ?_; intro w6 r6 s6 b6; have R6 : Hid (Below w.heap.size w w6 ∧ HIs w6 B a ∧ HIs w6 (B + 1) b ∧ WIs w6 w5.heap.size x y) := ⟨below_append R5.out.1 b6, R5.out.2.2.2.1.next b6, R5.out.2.2.2.2.next b6, r6⟩; clear r6 s6 b6))
    go_ret
    exact ⟨by rw [HU.out]; rfl, R6.out.1⟩
  · intro e w5 t5
    obtain ⟨rfl, hq, b5⟩ := t5.yes
    obtain ⟨xa, hxa⟩ : ∃ xa, decide (x = a) = xa := ⟨_, rfl⟩
    obtain ⟨yb, hyb⟩ : ∃ yb, decide (y = b) = yb := ⟨_, rfl⟩
    have HU : Hid (Tree.consOk m n a b row = (xa && yb)) := by show _ = _; rw [consOk_yes hm h1 hO, hxa, hyb]
    have R5 : Hid (Below w.heap.size w w5 ∧ IsH x ∧ IsH y ∧ HIs w5 B a ∧ HIs w5 (B + 1) b) := ⟨below_append R4.out.2.2.1 b5, hq.1, hq.2, R4.out.1.next b5, R4.out.2.1.next b5⟩
    have HXA : Hid (decide (x = a) = xa) := hxa
    have HYB : Hid (decide (y = b) = yb) := hyb
    clear t5 hq b5 hO hxa hyb
    cases xa with
    | true =>
      go_wp2_with (first
        | (refine wl_newW rfl rfl rfl rfl rfl (.tmp 47) rfl x y R5.out.2.1 R5.out.2.2.1 (fun _ => rfl) (fun _ => rfl) ?_; intro w6 r6 s6 b6; have R6 : Hid (Below w.heap.size w w6 ∧ HIs w6 B a ∧ HIs w6 (B + 1) b ∧ WIs w6 w5.heap.size x y) := ⟨below_append R5.out.1 b6, R5.out.2.2.2.1.next b6, R5.out.2.2.2.2.next b6, r6⟩; clear r6 s6 b6)
        | (refine wl_field f52_0 (.tmp 12) rfl rfl w5.heap.size 0 rfl ?_)
        | (refine wl_field f52_1 (.tmp 12) rfl rfl w5.heap.size 0 rfl ?_)
        | (refine wl_load (.tmp 51) rfl rfl _ rfl x R6.out.2.2.2.old ?_)
        | (refine wl_load (.tmp 58) rfl rfl _ rfl y R6.out.2.2.2.new ?_)
        | (refine wl_load (.tmp 57) rfl rfl _ rfl y R6.out.2.2.2.new ?_)
        | (refine wl_load (.tmp 7) rfl rfl _ rfl a R6.out.2.1.at ?_)
        | (refine wl_load (.tmp 8) rfl rfl _ rfl b R6.out.2.2.1.at ?_)
        | (refine wl_eq (.tmp 52) (.tmp 53) rfl rfl x a R5.out.2.1 HH.out.1 rfl rfl ?_; rw [HXA.out])
        | (refine wl_eq (.tmp 58) (.tmp 59) rfl rfl y b R5.out.2.2.1 HH.out.2 rfl rfl ?_; rw [HYB.out]))
      go_ret
      exact ⟨by rw [HU.out]; rfl, R6.out.1⟩
    | false =>
      go_wp2_with (first
        | (refine wl_newW rfl rfl rfl rfl rfl (.tmp 47) rfl x y R5.out.2.1 R5.out.2.2.1 (fun _ => rfl) (fun _ => rfl) ?_; intro w6 r6 s6 b6; have R6 : Hid (Below w.heap.size w w6 ∧ HIs w6 B a ∧ HIs w6 (B + 1) b ∧ WIs w6 w5.heap.size x y) := ⟨below_append R5.out.1 b6, R5.out.2.2.2.1.next b6, R5.out.2.2.2.2.next b6, r6⟩; clear r6 s6 b6)
        | (refine wl_field f52_0 (.tmp 12) rfl rfl w5.heap.size 0 rfl ?_)
        | (refine wl_field f52_1 (.tmp 12) rfl rfl w5.heap.size 0 rfl ?_)
        | (refine wl_load (.tmp 51) rfl rfl _ rfl x R6.out.2.2.2.old ?_)
        | (refine wl_load (.tmp 58) rfl rfl _ rfl y R6.out.2.2.2.new ?_)
        | (refine wl_load (.tmp 57) rfl rfl _ rfl y R6.out.2.2.2.new ?_)
        | (refine wl_load (.tmp 7) rfl rfl _ rfl a R6.out.2.1.at ?_)
        | (refine wl_load (.tmp 8) rfl rfl _ rfl b R6.out.2.2.1.at ?_)
        | (refine wl_eq (.tmp 52) (.tmp 53) rfl rfl x a R5.out.2.1 HH.out.1 rfl rfl ?_; rw [HXA.out])
        | (refine wl_eq (.tmp 58) (.tmp 59) rfl rfl y b R5.out.2.2.1 HH.out.2 rfl rfl ?_; rw [HYB.out]))
      go_ret
      exact ⟨by rw [HU.out]; rfl, R6.out.1⟩
theorem vcons_any (a b : List Nat) (m n : Int) (v : Value) (row : List (List Nat)) (w : World) (ha : IsH a) (hb : IsH b) (h : HIn w v row) (ht : TabIn w) (hst : StartIn w) (hn : n ≤ 9223372036854775807) :
    Calls Tryd.prog 13 #[.int .i64 m, .int .i64 n, hv a, hv b, v] w fun e w' => e = .returned (.bool (Tree.consOk m n a b row)) ∧ Below w.heap.size w w' := by
  by_cases hm : m < 0 ∨ n < m
  · exact vcons_bad a b m n v row w ha hb hm
  · obtain ⟨k, rfl⟩ : ∃ k : Nat, m = (k : Int) := ⟨m.toNat, by omega⟩
    obtain ⟨j, rfl⟩ : ∃ j : Nat, n = (j : Int) := ⟨n.toNat, by omega⟩
    by_cases h0 : k = 0
    · subst h0
      exact vcons_0 a b j v row w ha hb h ht hst (by omega)
    · exact vcons_good a b k j v row w ha hb h ht hst (by omega) (by omega) (by omega)
end Go.Proofs.YtjdmpanemdhbbaaDoor

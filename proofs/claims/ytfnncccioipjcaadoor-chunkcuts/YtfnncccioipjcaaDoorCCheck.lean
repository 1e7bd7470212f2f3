/- chunk's Check. -/
import Derived.Test.YtfnncccioipjcaaDoorCLeaves
import Derived.Test.YtfnncccioipjcaaDoorDraw
namespace Go.Proofs.YtfnncccioipjcaaDoor
open Go.RowKit

theorem en46 : EntersF 46 := enters Tryd.func46 (by kernel_rfl) (by kernel_rfl)
theorem en37 : EntersF 37 := enters Tryd.func37 (by kernel_rfl) (by kernel_rfl)
theorem en16c : EntersF 16 := enters Tryd.func16 (by kernel_rfl) (by kernel_rfl)
def checkS (w : World) (g0 : Nat) (root : List Nat) (W : World) : Prop := HIs W g0 root ∧ Below w.heap.size w W
set_option maxHeartbeats 2000000 in
set_option maxRecDepth 100000 in
theorem ccheck_any (v p : Value) (cs : List Nat) (i L : Int) (row : List (List Nat)) (root : List Nat) (w : World) (h : SliceIn w v cs) (hp : HIn w p row) (hr : IsH root) (ht : TabIn w) (hst : StartIn w) (hl : -9223372036854775808 ≤ L) (hm : L ≤ 9223372036854775807) :
    Calls Tryd.prog 25 #[v, .int .i64 i, .int .i64 L, p, hv root] w fun e w' => e = .returned (.bool (Cut.check cs i L row root)) ∧ Below w.heap.size w w' := by
  obtain ⟨N, hN⟩ : ∃ N, cs.length = N := ⟨_, rfl⟩
  have HN : Hid (cs.length = N) := hN
  obtain ⟨g0, hg0⟩ : ∃ g0, g0 = w.heap.size := ⟨_, rfl⟩
  have G0 : Hid (g0 = w.heap.size) := hg0
  obtain ⟨n, hn⟩ : ∃ n, Cut.count L.toNat = n := ⟨_, rfl⟩
  have HQ : Hid (∀ W, Calls Tryd.prog 40 #[.int .i64 i, .int .i64 L] W fun e w' => e = .returned (.bool (decide (0 ≤ i ∧ i < (n : Nat)))) ∧ W = w') := fun W => hn ▸ numbers_any i L hl hm W
  have HC : Hid (∀ W, Calls Tryd.prog 37 #[.int .i64 L] W fun e w' => e = .returned (.int .i64 (n : Nat)) ∧ W = w') := fun W => hn ▸ count_any L hl hm W
  have hcm : (n : Int) ≤ 9223372036854775807 := by rw [← hn]; have := Cut.count_le L.toNat; omega
  have HA : Hid (Cut.check cs i L row root = (decide (0 ≤ i ∧ i < (n : Nat)) && (decide ((N : Int) = min 64 (L - i * 64)) && Tree.inclOk (Tree.leaf cs) i (n : Nat) row root))) := by
    show _ = _
    unfold Cut.check
    rw [hn, hN]
  by_cases hi : 0 ≤ i ∧ i < (n : Nat)
  · have hi' : i * 64 < L := by
      have := (Cut.lt_count L.toNat i.toNat).1 (by omega)
      omega
    have HZ : Hid (∀ W, Calls Tryd.prog 45 #[.int .i64 i, .int .i64 L] W fun e w' => e = .returned (.int .i64 (min 64 (L - i * 64))) ∧ W = w') := fun W => size_any i L hi.1 hi' hm W
    rw [decide_eq_true hi] at HQ HA
    by_cases hk : (N : Int) = min 64 (L - i * 64)
    · have HN64 : Hid (cs.length < 1152921504606846000) := by show _ < _; omega
      rw [← hk] at HZ
      rw [decide_eq_true hk, Bool.true_and, Bool.true_and] at HA
      have HAE : Hid (Tree.inclOk (Tree.leaf cs) i (n : Nat) row root = Cut.check cs i L row root) := HA.out.symm
      have HLF : Hid (IsH (Tree.leaf cs)) := leaf_isH cs
      generalize hlf : Tree.leaf cs = lf at HAE HLF
      have HLE : Hid (Tree.leaf cs = lf) := hlf
      clear hlf hk hi' hN hn HA hi
      generalize Cut.check cs i L row root = ans at HAE ⊢
      go_enter Tryd.func25, Tryd.ntmps25
      go_wp2_with (first
        | (refine wl_box (.tmp 4) rfl rfl root hr rfl ?_; rw [← hg0]; intro w1 r1 s1 b1; have R1 : Hid (checkS w g0 root w1) := ⟨r1, hg0 ▸ b1⟩; clear r1 s1 b1 hg0)
        | (go_at_call 40; refine (HQ.out w1).mono ?_; rintro e w' ⟨rfl, rfl⟩)
        | (refine wl_blenN (.tmp 16) rfl rfl v cs rfl h N HN.out ?_)
        | (go_at_call 45; refine (HZ.out w1).mono ?_; rintro e w' ⟨rfl, rfl⟩))
      refine wp_region_held (S := checkS w g0 root) (by kernel_rfl) ?_
      show wpAnyH _ _ _ _ _ 9 (Array.replicate 9 false) _ _
      have hS : checkS w g0 root { w1 with drawn := w1.drawn + 1 } := ⟨R1.out.1, below_append R1.out.2 (below_drawn w1 _)⟩
      refine takeH (i := 0) (some 23) rfl rfl (by kernel_rfl) (by kernel_rfl) (by kernel_rfl) (fun _ _ _ h => h) (yMove rfl (.tmp 0) rfl (v) rfl) hS ?_
      simp only [Act.put, List.setIfInBounds_toArray, List.set_cons_succ, List.set_cons_zero]
      refine takeH (i := 2) (some 25) rfl rfl (by kernel_rfl) (by kernel_rfl) (by kernel_rfl) (fun _ _ _ h => h) (yMove rfl (.tmp 1) rfl (.int .i64 i) rfl) hS ?_
      simp only [Act.put, List.setIfInBounds_toArray, List.set_cons_succ, List.set_cons_zero]
      refine takeH (i := 3) (some 26) rfl rfl (by kernel_rfl) (by kernel_rfl) (by kernel_rfl) (fun _ _ _ h => h) (yMove rfl (.tmp 2) rfl (.int .i64 L) rfl) hS ?_
      simp only [Act.put, List.setIfInBounds_toArray, List.set_cons_succ, List.set_cons_zero]
      refine takeH (i := 5) (some 28) rfl rfl (by kernel_rfl) (by kernel_rfl) (by kernel_rfl) (fun _ _ _ h => h) (yMove rfl (.tmp 3) rfl (p) rfl) hS ?_
      simp only [Act.put, List.setIfInBounds_toArray, List.set_cons_succ, List.set_cons_zero]
      refine takeH (i := 6) (some 29) rfl rfl (by kernel_rfl) (by kernel_rfl) (by kernel_rfl) (fun _ _ _ h => h) (yLoad rfl (.tmp 9) rfl (.pointer (some ⟨g0, 0, none⟩)) rfl root (fun _ h => h.1.at)) hS ?_
      simp only [Act.put, List.setIfInBounds_toArray, List.set_cons_succ, List.set_cons_zero]
      refine oneH (i := 1) (by kernel_rfl) ?_
      refine opCallA (some 24) rfl rfl rfl 46 _ (run_call en46 [.tmp 23] _ rfl [v] rfl) ?_
      refine (leaf_any v cs _ (h.later hS.2) (ht.later hS.2) (hst.later hS.2) HN64.out).mono ?_
      rintro e w2 ⟨rfl, b2⟩
      have hS2 : checkS w g0 root w2 := ⟨hS.1.next b2, below_append hS.2 b2⟩
      refine ⟨_, rfl, hS2, ?_⟩
      rw [HLE.out]
      clear hS b2
      simp only [Act.put, List.setIfInBounds_toArray, List.set_cons_succ, List.set_cons_zero]
      refine oneH (i := 4) (by kernel_rfl) ?_
      refine opCallA (some 27) rfl rfl rfl 37 _ (run_call en37 [.tmp 26] _ rfl [.int .i64 L] rfl) ?_
      refine (HC.out _).mono ?_
      rintro e w' ⟨rfl, rfl⟩
      refine ⟨_, rfl, hS2, ?_⟩
      simp only [Act.put, List.setIfInBounds_toArray, List.set_cons_succ, List.set_cons_zero]
      refine oneH (i := 7) (by kernel_rfl) ?_
      refine opCallA (some 30) rfl rfl rfl 16 _ (run_call en16c [.tmp 24, .tmp 25, .tmp 27, .tmp 28, .tmp 29] _ rfl [hv lf, .int .i64 i, .int .i64 (n : Nat), p, hv root] rfl) ?_
      refine (vincl_any lf root i (n : Nat) p row _ HLF.out hr (hp.later hS2.2) (ht.later hS2.2) (hst.later hS2.2) hcm).mono ?_
      rintro e w3 ⟨rfl, b3⟩
      have hS3 : checkS w g0 root w3 := ⟨hS2.1.next b3, below_append hS2.2 b3⟩
      refine ⟨_, rfl, hS3, ?_⟩
      rw [HAE.out]
      clear hS2 b3
      simp only [Act.put, List.setIfInBounds_toArray, List.set_cons_succ, List.set_cons_zero]
      refine takeH (i := 8) (some 10) rfl rfl (by kernel_rfl) (by kernel_rfl) (by kernel_rfl) (fun _ _ _ h => h) (yAssign rfl (.tmp 30) rfl (.bool ans) rfl) hS3 ?_
      simp only [Act.put, List.setIfInBounds_toArray, List.set_cons_succ, List.set_cons_zero]
      refine wpAnyH_done (by kernel_rfl) ?_ _
      have R3 : Hid (Below w.heap.size w w3) := hS3.2
      clear hS3
      go_wp2_with fail
      go_ret
      exact ⟨rfl, R3.out⟩
    · rw [decide_eq_false hk, Bool.true_and, Bool.false_and] at HA
      generalize min 64 (L - i * 64) = K at HZ hk
      clear hi' hN hn hi
      generalize Cut.check cs i L row root = ans at HA ⊢
      go_enter Tryd.func25, Tryd.ntmps25
      go_wp2_with (first
        | (refine wl_box (.tmp 4) rfl rfl root hr rfl ?_; rw [← hg0]; intro w1 r1 s1 b1; have R1 : Hid (checkS w g0 root w1) := ⟨r1, hg0 ▸ b1⟩; clear r1 s1 b1 hg0)
        | (go_at_call 40; refine (HQ.out w1).mono ?_; rintro e w' ⟨rfl, rfl⟩)
        | (refine wl_blenN (.tmp 16) rfl rfl v cs rfl h N HN.out ?_)
        | (go_at_call 45; refine (HZ.out w1).mono ?_; rintro e w' ⟨rfl, rfl⟩))
      go_ret
      exact ⟨by rw [HA.out]; rfl, R1.out.2⟩
  · rw [decide_eq_false hi, Bool.false_and] at HA
    rw [decide_eq_false hi] at HQ
    clear hN hn hi
    generalize Cut.check cs i L row root = ans at HA ⊢
    go_enter Tryd.func25, Tryd.ntmps25
    go_wp2_with (first
      | (refine wl_box (.tmp 4) rfl rfl root hr rfl ?_; rw [← hg0]; intro w1 r1 s1 b1; have R1 : Hid (checkS w g0 root w1) := ⟨r1, hg0 ▸ b1⟩; clear r1 s1 b1 hg0)
      | (go_at_call 40; refine (HQ.out w1).mono ?_; rintro e w' ⟨rfl, rfl⟩))
    go_ret
    exact ⟨by rw [HA.out]; rfl, R1.out.2⟩
end Go.Proofs.YtfnncccioipjcaaDoor

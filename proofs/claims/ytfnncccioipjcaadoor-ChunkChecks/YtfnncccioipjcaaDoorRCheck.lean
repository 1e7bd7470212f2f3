/- The document's Check. -/
import Derived.Test.YtfnncccioipjcaaDoorCCheck
namespace Go.Proofs.YtfnncccioipjcaaDoor
open Go.RowKit

section
variable {w w0 : World} {ops : Array Oper} {rest : List Oper} {o : Oper} {a : Act} {Q : Exit → Act → World → Prop}
theorem rx_eqI {t : Nat} (x y : Operand) (ho : o.op = .binOp .eql t x y t) (z z' : Int) (hx : a.eval x = .int .i64 z) (hy : a.eval y = .int .i64 z') (b : Bool) (hb : decide (z = z') = b) : (execOp a.eval o).run Tryd.prog w = .ok (.value (.bool b)) w := by
  subst hb
  simp only [execOp, ho, hx, hy]
  by_cases h : z = z'
  · subst h; simp [go_sem]
  · simp [go_sem, h]
theorem rx_subI (x y : Operand) (ho : o.op = .binOp .sub 3 x y 3) (z z' r : Int) (hx : a.eval x = .int .i64 z) (hy : a.eval y = .int .i64 z') (hr : z - z' = r) (h0 : -9223372036854775808 ≤ r) (h1 : r ≤ 9223372036854775807) : (execOp a.eval o).run Tryd.prog w = .ok (.value (.int .i64 r)) w := by
  have e : IntKind.i64.wrap (z - z') = r := by rw [IntKind.wrap_i64]; omega
  simp only [execOp, ho, hx, hy]
  simp [go_sem, e]
theorem rx_addI (x y : Operand) (ho : o.op = .binOp .add 3 x y 3) (z z' r : Int) (hx : a.eval x = .int .i64 z) (hy : a.eval y = .int .i64 z') (hr : z + z' = r) (h0 : -9223372036854775808 ≤ r) (h1 : r ≤ 9223372036854775807) : (execOp a.eval o).run Tryd.prog w = .ok (.value (.int .i64 r)) w := by
  have e : IntKind.i64.wrap (z + z') = r := by rw [IntKind.wrap_i64]; omega
  simp only [execOp, ho, hx, hy]
  simp [go_sem, e]
theorem rx_blen (x : Operand) (ho : o.op = .call { callee := .builtin .len, args := #[x], argTypes := #[39] }) (v : Value) (cs : List Nat) (hx : a.eval x = v) (hin : SliceIn w0 v cs) (N : Nat) (hN : cs.length = N) : (execOp a.eval o).run Tryd.prog w = .ok (.value (.int .i64 (N : Nat))) w := by
  subst hN
  obtain ⟨p, cap, rfl, hl, _⟩ := hin
  have hr : (Builtin.len_ #[39] o.type #[.slice p cs.length cap]).run Tryd.prog w = .ok (goInt cs.length) w := run_len_slice w _ _ _ _ _ under22
  simp only [execOp, ho, resolve, invoke, builtin, Sem.run_bind, Sem.run_pure, Result.andThen_ok, List.map_toArray, List.map_cons, List.map_nil, hx, hr]
  rfl
end
theorem en27c : EntersF 27 := enters Tryd.func27 (by kernel_rfl) (by kernel_rfl)
theorem en47c : EntersF 47 := enters Tryd.func47 (by kernel_rfl) (by kernel_rfl)

set_option maxHeartbeats 2000000 in
set_option maxRecDepth 100000 in
theorem rcheck_last_eq (v p : Value) (cs : List Nat) (i L : Int) (row : List (List Nat)) (root : List Nat) (w : World) (h : SliceIn w v cs) (hp : HIn w p row) (hr : IsH root) (hm : L ≤ 9223372036854775807)
    (n N : Nat) (K : Int) (h1 : 1 ≤ L) (h0 : 0 ≤ i) (hin : i < (n : Nat)) (HNE : Hid ((L - 1) / 64 + 1 = (n : Int))) (hcm : (n : Int) ≤ 9223372036854775807) (hcm' : ((n : Int) - 1) * 64 < L) (HN : Hid (cs.length = N)) (hN64 : N ≤ 64) (HZ : Hid (decide (i = (n : Int) - 1) = true)) (HK : Hid (L - ((n : Int) - 1) * 64 = K)) (hk0 : 0 ≤ K) (hk1 : K ≤ 64) (HE : Hid (decide ((N : Int) = K) = true)) :
    Calls Tryd.prog 26 #[v, .int .i64 i, .int .i64 L, p, hv root] w fun e w' => e = .returned (.bool (Tree.inclOk (Tree.leaf cs) i (n : Nat) row root)) ∧ Below w.heap.size w w' := by
  obtain ⟨g0, hg0⟩ : ∃ g0, g0 = w.heap.size := ⟨_, rfl⟩
  have G0 : Hid (g0 = w.heap.size) := hg0
  have hd1 : decide (L < 1) = false := by simpa using h1
  have hd0 : decide (i < 0) = false := by simpa using h0
  have HLF : Hid (IsH (Tree.leaf cs)) := leaf_isH cs
  generalize hlf : Tree.leaf cs = lf at HLF ⊢
  have HLE : Hid (Tree.leaf cs = lf) := hlf
  clear hlf
  generalize ha : Tree.inclOk lf i (n : Nat) row root = ans
  have HAE : Hid (Tree.inclOk lf i (n : Nat) row root = ans) := ha
  clear ha
  go_enter Tryd.func26, Tryd.ntmps26
  go_wp2_with (first
    | (refine wl_box (.tmp 4) rfl rfl root hr rfl ?_; rw [← hg0]; intro w1 r1 s1 b1; have R1 : Hid (checkS w g0 root w1) := ⟨r1, hg0 ▸ b1⟩; clear r1 s1 b1 hg0)
    | (refine wl rfl _ w1 (rx_addI (.tmp 21) (.const (.int .i64 1)) rfl ((L - 1) / 64) 1 (n : Int) rfl rfl HNE.out (by omega) hcm) ?_)
    | (refine wl rfl _ w1 (rx_eqI (.tmp 26) (.tmp 28) rfl i ((n : Int) - 1) rfl rfl true HZ.out) ?_)
    | (refine wl rfl _ w1 (rx_subI (.tmp 30) (.tmp 33) rfl L (((n : Int) - 1) * 64) K rfl rfl HK.out (by omega) (by omega)) ?_))
  refine wp_region_held (S := checkS w g0 root) (by kernel_rfl) ?_
  show wpAnyH _ _ _ _ _ 14 (Array.replicate 14 false) _ _
  have hS : checkS w g0 root { w1 with drawn := w1.drawn + 1 } := ⟨R1.out.1, below_append R1.out.2 (below_drawn w1 _)⟩
  refine takeH (i := 0) (some 35) rfl rfl (by kernel_rfl) (by kernel_rfl) (by kernel_rfl) (fun _ _ _ h => h) (yMove rfl (.tmp 0) rfl (v) rfl) hS ?_
  simp only [Act.put, List.setIfInBounds_toArray, List.set_cons_succ, List.set_cons_zero]
  refine takeH (i := 1) (some 36) rfl rfl (by kernel_rfl) (by kernel_rfl) (by kernel_rfl) (fun _ _ _ h => h) (yRunW rfl _ (fun _ _ => rx_blen (.tmp 35) rfl v cs rfl h N HN.out)) hS ?_
  simp only [Act.put, List.setIfInBounds_toArray, List.set_cons_succ, List.set_cons_zero]
  refine takeH (i := 2) (some 37) rfl rfl (by kernel_rfl) (by kernel_rfl) (by kernel_rfl) (fun _ _ _ h => h) (yMove rfl (.tmp 12) rfl (.int .i64 K) rfl) hS ?_
  simp only [Act.put, List.setIfInBounds_toArray, List.set_cons_succ, List.set_cons_zero]
  refine takeH (i := 3) (some 38) rfl rfl (by kernel_rfl) (by kernel_rfl) (by kernel_rfl) (fun _ _ _ h => h) (yEqI rfl (.tmp 36) (.tmp 37) rfl (N : Int) K rfl rfl true HE.out) hS ?_
  simp only [Act.put, List.setIfInBounds_toArray, List.set_cons_succ, List.set_cons_zero]
  refine takeH (i := 4) (some 39) rfl rfl (by kernel_rfl) (by kernel_rfl) (by kernel_rfl) (fun _ _ _ h => h) (yMove rfl (.tmp 38) rfl (.bool true) rfl) hS ?_
  simp only [Act.put, List.setIfInBounds_toArray, List.set_cons_succ, List.set_cons_zero]
  refine takeH (i := 5) (some 40) rfl rfl (by kernel_rfl) (by kernel_rfl) (by kernel_rfl) (fun _ _ _ h => h) (yMoveW rfl (.tmp 0) rfl (v) rfl) hS ?_
  simp only [Act.put, List.setIfInBounds_toArray, List.set_cons_succ, List.set_cons_zero]
  refine takeH (i := 7) (some 42) rfl rfl (by kernel_rfl) (by kernel_rfl) (by kernel_rfl) (fun _ _ _ h => h) (yMoveW rfl (.tmp 1) rfl (.int .i64 i) rfl) hS ?_
  simp only [Act.put, List.setIfInBounds_toArray, List.set_cons_succ, List.set_cons_zero]
  refine takeH (i := 8) (some 43) rfl rfl (by kernel_rfl) (by kernel_rfl) (by kernel_rfl) (fun _ _ _ h => h) (yMoveW rfl (.tmp 11) rfl (.int .i64 (n : Nat)) rfl) hS ?_
  simp only [Act.put, List.setIfInBounds_toArray, List.set_cons_succ, List.set_cons_zero]
  refine takeH (i := 9) (some 44) rfl rfl (by kernel_rfl) (by kernel_rfl) (by kernel_rfl) (fun _ _ _ h => h) (yMoveW rfl (.tmp 3) rfl (p) rfl) hS ?_
  simp only [Act.put, List.setIfInBounds_toArray, List.set_cons_succ, List.set_cons_zero]
  refine takeH (i := 10) (some 45) rfl rfl (by kernel_rfl) (by kernel_rfl) (by kernel_rfl) (fun _ _ _ h => h) (yRunW rfl _ (fun _ hW => rx_load (.tmp 9) rfl (.pointer (some ⟨g0, 0, none⟩)) rfl root hW.1.at)) hS ?_
  simp only [Act.put, List.setIfInBounds_toArray, List.set_cons_succ, List.set_cons_zero]
  refine oneH (i := 6) (by kernel_rfl) ?_
  refine opCallW (some 41) rfl rfl rfl 27 _ (run_call en27c [.tmp 40] _ rfl [v] rfl) ?_
  refine (refLeaf_any v cs _ (h.later hS.2) (by rw [HN.out]; omega)).mono ?_
  rintro e w2 ⟨rfl, b2⟩
  have hS2 : checkS w g0 root w2 := ⟨hS.1.next b2, below_append hS.2 b2⟩
  refine ⟨_, rfl, hS2, ?_⟩
  rw [HLE.out]
  clear hS b2
  simp only [Act.put, List.setIfInBounds_toArray, List.set_cons_succ, List.set_cons_zero]
  refine oneH (i := 11) (by kernel_rfl) ?_
  refine opCallW (some 46) rfl rfl rfl 47 _ (run_call en47c [.tmp 41, .tmp 42, .tmp 43, .tmp 44, .tmp 45] _ rfl [hv lf, .int .i64 i, .int .i64 (n : Nat), p, hv root] rfl) ?_
  refine (rincl_any lf root i (n : Nat) p row _ HLF.out hr (hp.later hS2.2) hcm).mono ?_
  rintro e w3 ⟨rfl, b3⟩
  have hS3 : checkS w g0 root w3 := ⟨hS2.1.next b3, below_append hS2.2 b3⟩
  refine ⟨_, rfl, hS3, ?_⟩
  rw [HAE.out]
  clear hS2 b3
  simp only [Act.put, List.setIfInBounds_toArray, List.set_cons_succ, List.set_cons_zero]
  refine takeH (i := 12) (some 47) rfl rfl (by kernel_rfl) (by kernel_rfl) (by kernel_rfl) (fun _ _ _ h => h) (yPickW rfl (.tmp 39) (.tmp 46) (.const (.bool false)) rfl rfl (.bool ans) rfl) hS3 ?_
  simp only [Act.put, List.setIfInBounds_toArray, List.set_cons_succ, List.set_cons_zero]
  refine takeH (i := 13) (some 10) rfl rfl (by kernel_rfl) (by kernel_rfl) (by kernel_rfl) (fun _ _ _ h => h) (yAssign rfl (.tmp 47) rfl (.bool ans) rfl) hS3 ?_
  simp only [Act.put, List.setIfInBounds_toArray, List.set_cons_succ, List.set_cons_zero]
  refine wpAnyH_done (by kernel_rfl) ?_ _
  have R3 : Hid (Below w.heap.size w w3) := hS3.2
  clear hS3
  go_wp2_with fail
  go_ret
  exact ⟨rfl, R3.out⟩

set_option maxHeartbeats 2000000 in
set_option maxRecDepth 100000 in
theorem rcheck_last_ne (v p : Value) (cs : List Nat) (i L : Int) (_row : List (List Nat)) (root : List Nat) (w : World) (h : SliceIn w v cs) (hr : IsH root) (hm : L ≤ 9223372036854775807)
    (n N : Nat) (K : Int) (h1 : 1 ≤ L) (h0 : 0 ≤ i) (hin : i < (n : Nat)) (HNE : Hid ((L - 1) / 64 + 1 = (n : Int))) (hcm : (n : Int) ≤ 9223372036854775807) (hcm' : ((n : Int) - 1) * 64 < L) (HN : Hid (cs.length = N)) (HZ : Hid (decide (i = (n : Int) - 1) = true)) (HK : Hid (L - ((n : Int) - 1) * 64 = K)) (hk0 : 0 ≤ K) (hk1 : K ≤ 64) (HE : Hid (decide ((N : Int) = K) = false)) :
    Calls Tryd.prog 26 #[v, .int .i64 i, .int .i64 L, p, hv root] w fun e w' => e = .returned (.bool false) ∧ Below w.heap.size w w' := by
  obtain ⟨g0, hg0⟩ : ∃ g0, g0 = w.heap.size := ⟨_, rfl⟩
  have G0 : Hid (g0 = w.heap.size) := hg0
  have hd1 : decide (L < 1) = false := by simpa using h1
  have hd0 : decide (i < 0) = false := by simpa using h0
  go_enter Tryd.func26, Tryd.ntmps26
  go_wp2_with (first
    | (refine wl_box (.tmp 4) rfl rfl root hr rfl ?_; rw [← hg0]; intro w1 r1 s1 b1; have R1 : Hid (checkS w g0 root w1) := ⟨r1, hg0 ▸ b1⟩; clear r1 s1 b1 hg0)
    | (refine wl rfl _ w1 (rx_addI (.tmp 21) (.const (.int .i64 1)) rfl ((L - 1) / 64) 1 (n : Int) rfl rfl HNE.out (by omega) hcm) ?_)
    | (refine wl rfl _ w1 (rx_eqI (.tmp 26) (.tmp 28) rfl i ((n : Int) - 1) rfl rfl true HZ.out) ?_)
    | (refine wl rfl _ w1 (rx_subI (.tmp 30) (.tmp 33) rfl L (((n : Int) - 1) * 64) K rfl rfl HK.out (by omega) (by omega)) ?_))
  refine wp_region_held (S := checkS w g0 root) (by kernel_rfl) ?_
  show wpAnyH _ _ _ _ _ 14 (Array.replicate 14 false) _ _
  have hS : checkS w g0 root { w1 with drawn := w1.drawn + 1 } := ⟨R1.out.1, below_append R1.out.2 (below_drawn w1 _)⟩
  refine takeH (i := 0) (some 35) rfl rfl (by kernel_rfl) (by kernel_rfl) (by kernel_rfl) (fun _ _ _ h => h) (yMove rfl (.tmp 0) rfl (v) rfl) hS ?_
  simp only [Act.put, List.setIfInBounds_toArray, List.set_cons_succ, List.set_cons_zero]
  refine takeH (i := 1) (some 36) rfl rfl (by kernel_rfl) (by kernel_rfl) (by kernel_rfl) (fun _ _ _ h => h) (yRunW rfl _ (fun _ _ => rx_blen (.tmp 35) rfl v cs rfl h N HN.out)) hS ?_
  simp only [Act.put, List.setIfInBounds_toArray, List.set_cons_succ, List.set_cons_zero]
  refine takeH (i := 2) (some 37) rfl rfl (by kernel_rfl) (by kernel_rfl) (by kernel_rfl) (fun _ _ _ h => h) (yMove rfl (.tmp 12) rfl (.int .i64 K) rfl) hS ?_
  simp only [Act.put, List.setIfInBounds_toArray, List.set_cons_succ, List.set_cons_zero]
  refine takeH (i := 3) (some 38) rfl rfl (by kernel_rfl) (by kernel_rfl) (by kernel_rfl) (fun _ _ _ h => h) (yEqI rfl (.tmp 36) (.tmp 37) rfl (N : Int) K rfl rfl false HE.out) hS ?_
  simp only [Act.put, List.setIfInBounds_toArray, List.set_cons_succ, List.set_cons_zero]
  refine takeH (i := 4) (some 39) rfl rfl (by kernel_rfl) (by kernel_rfl) (by kernel_rfl) (fun _ _ _ h => h) (yMove rfl (.tmp 38) rfl (.bool false) rfl) hS ?_
  simp only [Act.put, List.setIfInBounds_toArray, List.set_cons_succ, List.set_cons_zero]
  refine takeH (i := 5) (some 40) rfl rfl (by kernel_rfl) (by kernel_rfl) (by kernel_rfl) (fun _ _ _ h => h) (yOff rfl) hS ?_
  simp only [Act.put, List.setIfInBounds_toArray, List.set_cons_succ, List.set_cons_zero]
  refine takeH (i := 6) (some 41) rfl rfl (by kernel_rfl) (by kernel_rfl) (by kernel_rfl) (fun _ _ _ h => h) (yOff rfl) hS ?_
  simp only [Act.put, List.setIfInBounds_toArray, List.set_cons_succ, List.set_cons_zero]
  refine takeH (i := 7) (some 42) rfl rfl (by kernel_rfl) (by kernel_rfl) (by kernel_rfl) (fun _ _ _ h => h) (yOff rfl) hS ?_
  simp only [Act.put, List.setIfInBounds_toArray, List.set_cons_succ, List.set_cons_zero]
  refine takeH (i := 8) (some 43) rfl rfl (by kernel_rfl) (by kernel_rfl) (by kernel_rfl) (fun _ _ _ h => h) (yOff rfl) hS ?_
  simp only [Act.put, List.setIfInBounds_toArray, List.set_cons_succ, List.set_cons_zero]
  refine takeH (i := 9) (some 44) rfl rfl (by kernel_rfl) (by kernel_rfl) (by kernel_rfl) (fun _ _ _ h => h) (yOff rfl) hS ?_
  simp only [Act.put, List.setIfInBounds_toArray, List.set_cons_succ, List.set_cons_zero]
  refine takeH (i := 10) (some 45) rfl rfl (by kernel_rfl) (by kernel_rfl) (by kernel_rfl) (fun _ _ _ h => h) (yOff rfl) hS ?_
  simp only [Act.put, List.setIfInBounds_toArray, List.set_cons_succ, List.set_cons_zero]
  refine takeH (i := 11) (some 46) rfl rfl (by kernel_rfl) (by kernel_rfl) (by kernel_rfl) (fun _ _ _ h => h) (yOff rfl) hS ?_
  simp only [Act.put, List.setIfInBounds_toArray, List.set_cons_succ, List.set_cons_zero]
  refine takeH (i := 12) (some 47) rfl rfl (by kernel_rfl) (by kernel_rfl) (by kernel_rfl) (fun _ _ _ h => h) (yPickF rfl (.tmp 39) (.tmp 46) (.const (.bool false)) rfl rfl (.bool false) rfl) hS ?_
  simp only [Act.put, List.setIfInBounds_toArray, List.set_cons_succ, List.set_cons_zero]
  refine takeH (i := 13) (some 10) rfl rfl (by kernel_rfl) (by kernel_rfl) (by kernel_rfl) (fun _ _ _ h => h) (yAssign rfl (.tmp 47) rfl (.bool false) rfl) hS ?_
  simp only [Act.put, List.setIfInBounds_toArray, List.set_cons_succ, List.set_cons_zero]
  refine wpAnyH_done (by kernel_rfl) ?_ _
  have R3 := hS.2
  clear hS
  generalize ({ w1 with drawn := w1.drawn + 1 } : World) = w3 at R3 ⊢
  have R3' : Hid (Below w.heap.size w w3) := R3
  clear R3
  go_wp2_with fail
  go_ret
  exact ⟨rfl, R3'.out⟩

set_option maxHeartbeats 2000000 in
set_option maxRecDepth 100000 in
theorem rcheck_mid_eq (v p : Value) (cs : List Nat) (i L : Int) (row : List (List Nat)) (root : List Nat) (w : World) (h : SliceIn w v cs) (hp : HIn w p row) (hr : IsH root) (hm : L ≤ 9223372036854775807)
    (n N : Nat) (K : Int) (h1 : 1 ≤ L) (h0 : 0 ≤ i) (hin : i < (n : Nat)) (HNE : Hid ((L - 1) / 64 + 1 = (n : Int))) (hcm : (n : Int) ≤ 9223372036854775807) (_hcm' : ((n : Int) - 1) * 64 < L) (HN : Hid (cs.length = N)) (hN64 : N ≤ 64) (HZ : Hid (decide (i = (n : Int) - 1) = false)) (HK : Hid (64 = K)) (_hk0 : 0 ≤ K) (_hk1 : K ≤ 64) (HE : Hid (decide ((N : Int) = K) = true)) :
    Calls Tryd.prog 26 #[v, .int .i64 i, .int .i64 L, p, hv root] w fun e w' => e = .returned (.bool (Tree.inclOk (Tree.leaf cs) i (n : Nat) row root)) ∧ Below w.heap.size w w' := by
  obtain ⟨g0, hg0⟩ : ∃ g0, g0 = w.heap.size := ⟨_, rfl⟩
  have G0 : Hid (g0 = w.heap.size) := hg0
  have hd1 : decide (L < 1) = false := by simpa using h1
  have hd0 : decide (i < 0) = false := by simpa using h0
  have HLF : Hid (IsH (Tree.leaf cs)) := leaf_isH cs
  generalize hlf : Tree.leaf cs = lf at HLF ⊢
  have HLE : Hid (Tree.leaf cs = lf) := hlf
  clear hlf
  generalize ha : Tree.inclOk lf i (n : Nat) row root = ans
  have HAE : Hid (Tree.inclOk lf i (n : Nat) row root = ans) := ha
  clear ha
  go_enter Tryd.func26, Tryd.ntmps26
  go_wp2_with (first
    | (refine wl_box (.tmp 4) rfl rfl root hr rfl ?_; rw [← hg0]; intro w1 r1 s1 b1; have R1 : Hid (checkS w g0 root w1) := ⟨r1, hg0 ▸ b1⟩; clear r1 s1 b1 hg0)
    | (refine wl rfl _ w1 (rx_addI (.tmp 21) (.const (.int .i64 1)) rfl ((L - 1) / 64) 1 (n : Int) rfl rfl HNE.out (by omega) hcm) ?_)
    | (refine wl rfl _ w1 (rx_eqI (.tmp 26) (.tmp 28) rfl i ((n : Int) - 1) rfl rfl false HZ.out) ?_))
  rw [HK.out]
  refine wp_region_held (S := checkS w g0 root) (by kernel_rfl) ?_
  show wpAnyH _ _ _ _ _ 14 (Array.replicate 14 false) _ _
  have hS : checkS w g0 root { w1 with drawn := w1.drawn + 1 } := ⟨R1.out.1, below_append R1.out.2 (below_drawn w1 _)⟩
  refine takeH (i := 0) (some 35) rfl rfl (by kernel_rfl) (by kernel_rfl) (by kernel_rfl) (fun _ _ _ h => h) (yMove rfl (.tmp 0) rfl (v) rfl) hS ?_
  simp only [Act.put, List.setIfInBounds_toArray, List.set_cons_succ, List.set_cons_zero]
  refine takeH (i := 1) (some 36) rfl rfl (by kernel_rfl) (by kernel_rfl) (by kernel_rfl) (fun _ _ _ h => h) (yRunW rfl _ (fun _ _ => rx_blen (.tmp 35) rfl v cs rfl h N HN.out)) hS ?_
  simp only [Act.put, List.setIfInBounds_toArray, List.set_cons_succ, List.set_cons_zero]
  refine takeH (i := 2) (some 37) rfl rfl (by kernel_rfl) (by kernel_rfl) (by kernel_rfl) (fun _ _ _ h => h) (yMove rfl (.tmp 12) rfl (.int .i64 K) rfl) hS ?_
  simp only [Act.put, List.setIfInBounds_toArray, List.set_cons_succ, List.set_cons_zero]
  refine takeH (i := 3) (some 38) rfl rfl (by kernel_rfl) (by kernel_rfl) (by kernel_rfl) (fun _ _ _ h => h) (yEqI rfl (.tmp 36) (.tmp 37) rfl (N : Int) K rfl rfl true HE.out) hS ?_
  simp only [Act.put, List.setIfInBounds_toArray, List.set_cons_succ, List.set_cons_zero]
  refine takeH (i := 4) (some 39) rfl rfl (by kernel_rfl) (by kernel_rfl) (by kernel_rfl) (fun _ _ _ h => h) (yMove rfl (.tmp 38) rfl (.bool true) rfl) hS ?_
  simp only [Act.put, List.setIfInBounds_toArray, List.set_cons_succ, List.set_cons_zero]
  refine takeH (i := 5) (some 40) rfl rfl (by kernel_rfl) (by kernel_rfl) (by kernel_rfl) (fun _ _ _ h => h) (yMoveW rfl (.tmp 0) rfl (v) rfl) hS ?_
  simp only [Act.put, List.setIfInBounds_toArray, List.set_cons_succ, List.set_cons_zero]
  refine takeH (i := 7) (some 42) rfl rfl (by kernel_rfl) (by kernel_rfl) (by kernel_rfl) (fun _ _ _ h => h) (yMoveW rfl (.tmp 1) rfl (.int .i64 i) rfl) hS ?_
  simp only [Act.put, List.setIfInBounds_toArray, List.set_cons_succ, List.set_cons_zero]
  refine takeH (i := 8) (some 43) rfl rfl (by kernel_rfl) (by kernel_rfl) (by kernel_rfl) (fun _ _ _ h => h) (yMoveW rfl (.tmp 11) rfl (.int .i64 (n : Nat)) rfl) hS ?_
  simp only [Act.put, List.setIfInBounds_toArray, List.set_cons_succ, List.set_cons_zero]
  refine takeH (i := 9) (some 44) rfl rfl (by kernel_rfl) (by kernel_rfl) (by kernel_rfl) (fun _ _ _ h => h) (yMoveW rfl (.tmp 3) rfl (p) rfl) hS ?_
  simp only [Act.put, List.setIfInBounds_toArray, List.set_cons_succ, List.set_cons_zero]
  refine takeH (i := 10) (some 45) rfl rfl (by kernel_rfl) (by kernel_rfl) (by kernel_rfl) (fun _ _ _ h => h) (yRunW rfl _ (fun _ hW => rx_load (.tmp 9) rfl (.pointer (some ⟨g0, 0, none⟩)) rfl root hW.1.at)) hS ?_
  simp only [Act.put, List.setIfInBounds_toArray, List.set_cons_succ, List.set_cons_zero]
  refine oneH (i := 6) (by kernel_rfl) ?_
  refine opCallW (some 41) rfl rfl rfl 27 _ (run_call en27c [.tmp 40] _ rfl [v] rfl) ?_
  refine (refLeaf_any v cs _ (h.later hS.2) (by rw [HN.out]; omega)).mono ?_
  rintro e w2 ⟨rfl, b2⟩
  have hS2 : checkS w g0 root w2 := ⟨hS.1.next b2, below_append hS.2 b2⟩
  refine ⟨_, rfl, hS2, ?_⟩
  rw [HLE.out]
  clear hS b2
  simp only [Act.put, List.setIfInBounds_toArray, List.set_cons_succ, List.set_cons_zero]
  refine oneH (i := 11) (by kernel_rfl) ?_
  refine opCallW (some 46) rfl rfl rfl 47 _ (run_call en47c [.tmp 41, .tmp 42, .tmp 43, .tmp 44, .tmp 45] _ rfl [hv lf, .int .i64 i, .int .i64 (n : Nat), p, hv root] rfl) ?_
  refine (rincl_any lf root i (n : Nat) p row _ HLF.out hr (hp.later hS2.2) hcm).mono ?_
  rintro e w3 ⟨rfl, b3⟩
  have hS3 : checkS w g0 root w3 := ⟨hS2.1.next b3, below_append hS2.2 b3⟩
  refine ⟨_, rfl, hS3, ?_⟩
  rw [HAE.out]
  clear hS2 b3
  simp only [Act.put, List.setIfInBounds_toArray, List.set_cons_succ, List.set_cons_zero]
  refine takeH (i := 12) (some 47) rfl rfl (by kernel_rfl) (by kernel_rfl) (by kernel_rfl) (fun _ _ _ h => h) (yPickW rfl (.tmp 39) (.tmp 46) (.const (.bool false)) rfl rfl (.bool ans) rfl) hS3 ?_
  simp only [Act.put, List.setIfInBounds_toArray, List.set_cons_succ, List.set_cons_zero]
  refine takeH (i := 13) (some 10) rfl rfl (by kernel_rfl) (by kernel_rfl) (by kernel_rfl) (fun _ _ _ h => h) (yAssign rfl (.tmp 47) rfl (.bool ans) rfl) hS3 ?_
  simp only [Act.put, List.setIfInBounds_toArray, List.set_cons_succ, List.set_cons_zero]
  refine wpAnyH_done (by kernel_rfl) ?_ _
  have R3 : Hid (Below w.heap.size w w3) := hS3.2
  clear hS3
  go_wp2_with fail
  go_ret
  exact ⟨rfl, R3.out⟩

set_option maxHeartbeats 2000000 in
set_option maxRecDepth 100000 in
theorem rcheck_mid_ne (v p : Value) (cs : List Nat) (i L : Int) (_row : List (List Nat)) (root : List Nat) (w : World) (h : SliceIn w v cs) (hr : IsH root) (hm : L ≤ 9223372036854775807)
    (n N : Nat) (K : Int) (h1 : 1 ≤ L) (h0 : 0 ≤ i) (hin : i < (n : Nat)) (HNE : Hid ((L - 1) / 64 + 1 = (n : Int))) (hcm : (n : Int) ≤ 9223372036854775807) (_hcm' : ((n : Int) - 1) * 64 < L) (HN : Hid (cs.length = N)) (HZ : Hid (decide (i = (n : Int) - 1) = false)) (HK : Hid (64 = K)) (_hk0 : 0 ≤ K) (_hk1 : K ≤ 64) (HE : Hid (decide ((N : Int) = K) = false)) :
    Calls Tryd.prog 26 #[v, .int .i64 i, .int .i64 L, p, hv root] w fun e w' => e = .returned (.bool false) ∧ Below w.heap.size w w' := by
  obtain ⟨g0, hg0⟩ : ∃ g0, g0 = w.heap.size := ⟨_, rfl⟩
  have G0 : Hid (g0 = w.heap.size) := hg0
  have hd1 : decide (L < 1) = false := by simpa using h1
  have hd0 : decide (i < 0) = false := by simpa using h0
  go_enter Tryd.func26, Tryd.ntmps26
  go_wp2_with (first
    | (refine wl_box (.tmp 4) rfl rfl root hr rfl ?_; rw [← hg0]; intro w1 r1 s1 b1; have R1 : Hid (checkS w g0 root w1) := ⟨r1, hg0 ▸ b1⟩; clear r1 s1 b1 hg0)
    | (refine wl rfl _ w1 (rx_addI (.tmp 21) (.const (.int .i64 1)) rfl ((L - 1) / 64) 1 (n : Int) rfl rfl HNE.out (by omega) hcm) ?_)
    | (refine wl rfl _ w1 (rx_eqI (.tmp 26) (.tmp 28) rfl i ((n : Int) - 1) rfl rfl false HZ.out) ?_))
  rw [HK.out]
  refine wp_region_held (S := checkS w g0 root) (by kernel_rfl) ?_
  show wpAnyH _ _ _ _ _ 14 (Array.replicate 14 false) _ _
  have hS : checkS w g0 root { w1 with drawn := w1.drawn + 1 } := ⟨R1.out.1, below_append R1.out.2 (below_drawn w1 _)⟩
  refine takeH (i := 0) (some 35) rfl rfl (by kernel_rfl) (by kernel_rfl) (by kernel_rfl) (fun _ _ _ h => h) (yMove rfl (.tmp 0) rfl (v) rfl) hS ?_
  simp only [Act.put, List.setIfInBounds_toArray, List.set_cons_succ, List.set_cons_zero]
  refine takeH (i := 1) (some 36) rfl rfl (by kernel_rfl) (by kernel_rfl) (by kernel_rfl) (fun _ _ _ h => h) (yRunW rfl _ (fun _ _ => rx_blen (.tmp 35) rfl v cs rfl h N HN.out)) hS ?_
  simp only [Act.put, List.setIfInBounds_toArray, List.set_cons_succ, List.set_cons_zero]
  refine takeH (i := 2) (some 37) rfl rfl (by kernel_rfl) (by kernel_rfl) (by kernel_rfl) (fun _ _ _ h => h) (yMove rfl (.tmp 12) rfl (.int .i64 K) rfl) hS ?_
  simp only [Act.put, List.setIfInBounds_toArray, List.set_cons_succ, List.set_cons_zero]
  refine takeH (i := 3) (some 38) rfl rfl (by kernel_rfl) (by kernel_rfl) (by kernel_rfl) (fun _ _ _ h => h) (yEqI rfl (.tmp 36) (.tmp 37) rfl (N : Int) K rfl rfl false HE.out) hS ?_
  simp only [Act.put, List.setIfInBounds_toArray, List.set_cons_succ, List.set_cons_zero]
  refine takeH (i := 4) (some 39) rfl rfl (by kernel_rfl) (by kernel_rfl) (by kernel_rfl) (fun _ _ _ h => h) (yMove rfl (.tmp 38) rfl (.bool false) rfl) hS ?_
  simp only [Act.put, List.setIfInBounds_toArray, List.set_cons_succ, List.set_cons_zero]
  refine takeH (i := 5) (some 40) rfl rfl (by kernel_rfl) (by kernel_rfl) (by kernel_rfl) (fun _ _ _ h => h) (yOff rfl) hS ?_
  simp only [Act.put, List.setIfInBounds_toArray, List.set_cons_succ, List.set_cons_zero]
  refine takeH (i := 6) (some 41) rfl rfl (by kernel_rfl) (by kernel_rfl) (by kernel_rfl) (fun _ _ _ h => h) (yOff rfl) hS ?_
  simp only [Act.put, List.setIfInBounds_toArray, List.set_cons_succ, List.set_cons_zero]
  refine takeH (i := 7) (some 42) rfl rfl (by kernel_rfl) (by kernel_rfl) (by kernel_rfl) (fun _ _ _ h => h) (yOff rfl) hS ?_
  simp only [Act.put, List.setIfInBounds_toArray, List.set_cons_succ, List.set_cons_zero]
  refine takeH (i := 8) (some 43) rfl rfl (by kernel_rfl) (by kernel_rfl) (by kernel_rfl) (fun _ _ _ h => h) (yOff rfl) hS ?_
  simp only [Act.put, List.setIfInBounds_toArray, List.set_cons_succ, List.set_cons_zero]
  refine takeH (i := 9) (some 44) rfl rfl (by kernel_rfl) (by kernel_rfl) (by kernel_rfl) (fun _ _ _ h => h) (yOff rfl) hS ?_
  simp only [Act.put, List.setIfInBounds_toArray, List.set_cons_succ, List.set_cons_zero]
  refine takeH (i := 10) (some 45) rfl rfl (by kernel_rfl) (by kernel_rfl) (by kernel_rfl) (fun _ _ _ h => h) (yOff rfl) hS ?_
  simp only [Act.put, List.setIfInBounds_toArray, List.set_cons_succ, List.set_cons_zero]
  refine takeH (i := 11) (some 46) rfl rfl (by kernel_rfl) (by kernel_rfl) (by kernel_rfl) (fun _ _ _ h => h) (yOff rfl) hS ?_
  simp only [Act.put, List.setIfInBounds_toArray, List.set_cons_succ, List.set_cons_zero]
  refine takeH (i := 12) (some 47) rfl rfl (by kernel_rfl) (by kernel_rfl) (by kernel_rfl) (fun _ _ _ h => h) (yPickF rfl (.tmp 39) (.tmp 46) (.const (.bool false)) rfl rfl (.bool false) rfl) hS ?_
  simp only [Act.put, List.setIfInBounds_toArray, List.set_cons_succ, List.set_cons_zero]
  refine takeH (i := 13) (some 10) rfl rfl (by kernel_rfl) (by kernel_rfl) (by kernel_rfl) (fun _ _ _ h => h) (yAssign rfl (.tmp 47) rfl (.bool false) rfl) hS ?_
  simp only [Act.put, List.setIfInBounds_toArray, List.set_cons_succ, List.set_cons_zero]
  refine wpAnyH_done (by kernel_rfl) ?_ _
  have R3 := hS.2
  clear hS
  generalize ({ w1 with drawn := w1.drawn + 1 } : World) = w3 at R3 ⊢
  have R3' : Hid (Below w.heap.size w w3) := R3
  clear R3
  go_wp2_with fail
  go_ret
  exact ⟨rfl, R3'.out⟩

set_option maxHeartbeats 2000000 in
set_option maxRecDepth 100000 in
theorem rcheck_any (v p : Value) (cs : List Nat) (i L : Int) (row : List (List Nat)) (root : List Nat) (w : World) (h : SliceIn w v cs) (hp : HIn w p row) (hr : IsH root) (hm : L ≤ 9223372036854775807) :
    Calls Tryd.prog 26 #[v, .int .i64 i, .int .i64 L, p, hv root] w fun e w' => e = .returned (.bool (Cut.check cs i L row root)) ∧ Below w.heap.size w w' := by
  obtain ⟨N, hN⟩ : ∃ N, cs.length = N := ⟨_, rfl⟩
  obtain ⟨n, hn⟩ : ∃ n, Cut.count L.toNat = n := ⟨_, rfl⟩
  have hnn : n = (L.toNat + 63) / 64 := by rw [← hn]; rfl
  have HA : Cut.check cs i L row root = (decide (0 ≤ i ∧ i < (n : Nat)) && (decide ((N : Int) = min 64 (L - i * 64)) && Tree.inclOk (Tree.leaf cs) i (n : Nat) row root)) := by
    unfold Cut.check
    rw [hn, hN]
  by_cases h1 : 1 ≤ L
  · have hNE : (L - 1) / 64 + 1 = (n : Int) := by omega
    by_cases h0 : 0 ≤ i
    · by_cases hin : i < (n : Nat)
      · rw [decide_eq_true ⟨h0, hin⟩, Bool.true_and] at HA
        have hK : ∃ K, K = min 64 (L - i * 64) := ⟨_, rfl⟩
        obtain ⟨K, hK⟩ := hK
        rw [← hK] at HA
        by_cases hz : i = (n : Int) - 1
        · have hKz : L - ((n : Int) - 1) * 64 = K := by omega
          by_cases he : (N : Int) = K
          · rw [HA, decide_eq_true he, Bool.true_and]
            exact rcheck_last_eq v p cs i L row root w h hp hr hm n N K h1 h0 hin hNE (by omega) (by omega) hN (by omega) (decide_eq_true hz) hKz (by omega) (by omega) (decide_eq_true he)
          · rw [HA, decide_eq_false he, Bool.false_and]
            exact rcheck_last_ne v p cs i L row root w h hr hm n N K h1 h0 hin hNE (by omega) (by omega) hN (decide_eq_true hz) hKz (by omega) (by omega) (decide_eq_false he)
        · have hKz : 64 = K := by omega
          by_cases he : (N : Int) = K
          · rw [HA, decide_eq_true he, Bool.true_and]
            exact rcheck_mid_eq v p cs i L row root w h hp hr hm n N K h1 h0 hin hNE (by omega) (by omega) hN (by omega) (decide_eq_false hz) hKz (by omega) (by omega) (decide_eq_true he)
          · rw [HA, decide_eq_false he, Bool.false_and]
            exact rcheck_mid_ne v p cs i L row root w h hr hm n N K h1 h0 hin hNE (by omega) (by omega) hN (decide_eq_false hz) hKz (by omega) (by omega) (decide_eq_false he)
      · rw [HA, decide_eq_false (by omega), Bool.false_and]
        have HNE : Hid ((L - 1) / 64 + 1 = (n : Int)) := hNE
        have hd1 : decide (L < 1) = false := by simpa using h1
        have hd0 : decide (i < 0) = false := by simpa using h0
        have hge : (n : Int) ≤ i := by omega
        have hcm : (n : Int) ≤ 9223372036854775807 := by omega
        obtain ⟨g0, hg0⟩ : ∃ g0, g0 = w.heap.size := ⟨_, rfl⟩
        clear hN hn hnn hNE hin HA
        go_enter Tryd.func26, Tryd.ntmps26
        go_wp2_with (first
          | (refine wl_box (.tmp 4) rfl rfl root hr rfl ?_; rw [← hg0]; intro w1 r1 s1 b1; have R1 : Hid (checkS w g0 root w1) := ⟨r1, hg0 ▸ b1⟩; clear r1 s1 b1 hg0)
          | (refine wl rfl _ w1 (rx_addI (.tmp 21) (.const (.int .i64 1)) rfl ((L - 1) / 64) 1 (n : Int) rfl rfl HNE.out (by omega) hcm) ?_))
        go_ret
        exact ⟨rfl, R1.out.2⟩
    · rw [HA, decide_eq_false (by omega), Bool.false_and]
      have hd1 : decide (L < 1) = false := by simpa using h1
      have hd0 : decide (i < 0) = true := by simpa using h0
      obtain ⟨g0, hg0⟩ : ∃ g0, g0 = w.heap.size := ⟨_, rfl⟩
      clear hN hn hnn hNE HA
      go_enter Tryd.func26, Tryd.ntmps26
      go_wp2_with (first
        | (refine wl_box (.tmp 4) rfl rfl root hr rfl ?_; rw [← hg0]; intro w1 r1 s1 b1; have R1 : Hid (checkS w g0 root w1) := ⟨r1, hg0 ▸ b1⟩; clear r1 s1 b1 hg0))
      go_ret
      exact ⟨rfl, R1.out.2⟩
  · rw [HA, decide_eq_false (by omega), Bool.false_and]
    have hd1 : decide (L < 1) = true := by simpa using h1
    obtain ⟨g0, hg0⟩ : ∃ g0, g0 = w.heap.size := ⟨_, rfl⟩
    clear hN hn hnn HA
    go_enter Tryd.func26, Tryd.ntmps26
    go_wp2_with (first
      | (refine wl_box (.tmp 4) rfl rfl root hr rfl ?_; rw [← hg0]; intro w1 r1 s1 b1; have R1 : Hid (checkS w g0 root w1) := ⟨r1, hg0 ▸ b1⟩; clear r1 s1 b1 hg0))
    go_ret
    exact ⟨rfl, R1.out.2⟩
end Go.Proofs.YtfnncccioipjcaaDoor

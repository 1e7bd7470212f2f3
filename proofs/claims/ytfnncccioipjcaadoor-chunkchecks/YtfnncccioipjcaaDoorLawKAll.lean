/- For every bytes, numbers, proof and root, chunk.Check answers what the document's own Check answers: the law ChunkChecks returns true and changes nothing that was there. Condition: the tables sha.start and sha.constants start as the program's text lays them (the card ties them). -/
import Derived.Test.YtfnncccioipjcaaDoorCCheck
import Derived.Test.YtfnncccioipjcaaDoorCShown
import Derived.Test.YtfnncccioipjcaaDoorOpenC
namespace Go.Proofs.YtfnncccioipjcaaDoor
open Go.RowKit

section
variable {w w0 : World} {ops : Array Oper} {rest : List Oper} {o : Oper} {a : Act} {Q : Exit → Act → World → Prop}
theorem rx_eqI {t : Nat} (x y : Operand) (ho : o.op = .binOp .eql t x y t) (z z' : Int) (hx : a.eval x = .int .i64 z) (hy : a.eval y = .int .i64 z') (b : Bool) (hb : decide (z = z') = b) : (execOp a.eval o).run Tryd.prog w = .ok (.value (.bool b)) w := by
  subst hb
  simp only [execOp, ho, hx, hy]
  by_cases h : z = z'
  · subst h; simp [go_sem]
  · simp [go_sem, h]
theorem rx_subI (x y : Operand) (ho : o.op = .binOp .sub 3 x y 3) (z z' r : Int) (hx : a.eval x = .int .i64 z) (hy : a.eval y = .int .i64 z') (hr : z - z' = r) (h0 : -9223372036854775808 ≤ r) (h1 : r ≤ 9223372036854775807) : (execOp a.eval o).run Tryd.prog w = .ok (.value (.int .i64 r)) w := by
  have e : IntKind.i64.wrap (z - z') = r := by rw [IntKind.wrap_i64]; omega
  simp only [execOp, ho, hx, hy]
  simp [go_sem, e]
theorem rx_addI (x y : Operand) (ho : o.op = .binOp .add 3 x y 3) (z z' r : Int) (hx : a.eval x = .int .i64 z) (hy : a.eval y = .int .i64 z') (hr : z + z' = r) (h0 : -9223372036854775808 ≤ r) (h1 : r ≤ 9223372036854775807) : (execOp a.eval o).run Tryd.prog w = .ok (.value (.int .i64 r)) w := by
  have e : IntKind.i64.wrap (z + z') = r := by rw [IntKind.wrap_i64]; omega
  simp only [execOp, ho, hx, hy]
  simp [go_sem, e]
theorem rx_blen (x : Operand) (ho : o.op = .call { callee := .builtin .len, args := #[x], argTypes := #[39] }) (v : Value) (cs : List Nat) (hx : a.eval x = v) (hin : SliceIn w0 v cs) (N : Nat) (hN : cs.length = N) : (execOp a.eval o).run Tryd.prog w = .ok (.value (.int .i64 (N : Nat))) w := by
  subst hN
  obtain ⟨p, cap, rfl, hl, _⟩ := hin
  have hr : (Builtin.len_ #[39] o.type #[.slice p cs.length cap]).run Tryd.prog w = .ok (goInt cs.length) w := run_len_slice w _ _ _ _ _ under22
  simp only [execOp, ho, resolve, invoke, builtin, Sem.run_bind, Sem.run_pure, Result.andThen_ok, List.map_toArray, List.map_cons, List.map_nil, hx, hr]
  rfl
end
theorem en27c : EntersF 27 := enters Tryd.func27 (by kernel_rfl) (by kernel_rfl)
theorem en47c : EntersF 47 := enters Tryd.func47 (by kernel_rfl) (by kernel_rfl)

set_option maxHeartbeats 2000000 in
set_option maxRecDepth 100000 in
theorem rcheck_last_eq (v p : Value) (cs : List Nat) (i L : Int) (row : List (List Nat)) (root : List Nat) (w : World) (h : SliceIn w v cs) (hp : HIn w p row) (hr : IsH root) (hm : L ≤ 9223372036854775807)
    (n N : Nat) (K : Int) (h1 : 1 ≤ L) (h0 : 0 ≤ i) (hin : i < (n : Nat)) (HNE : Hid ((L - 1) / 64 + 1 = (n : Int))) (hcm : (n : Int) ≤ 9223372036854775807) (hcm' : ((n : Int) - 1) * 64 < L) (HN : Hid (cs.length = N)) (hN64 : N ≤ 64) (HZ : Hid (decide (i = (n : Int) - 1) = true)) (HK : Hid (L - ((n : Int) - 1) * 64 = K)) (hk0 : 0 ≤ K) (hk1 : K ≤ 64) (HE : Hid (decide ((N : Int) = K) = true)) :
    Calls Tryd.prog 26 #[v, .int .i64 i, .int .i64 L, p, hv root] w fun e w' => e = .returned (.bool (Tree.inclOk (Tree.leaf cs) i (n : Nat) row root)) ∧ Below w.heap.size w w' := by
  obtain ⟨g0, hg0⟩ : ∃ g0, g0 = w.heap.size := ⟨_, rfl⟩
  have G0 : Hid (g0 = w.heap.size) := hg0
  have hd1 : decide (L < 1) = false := by simpa using h1
  have hd0 : decide (i < 0) = false := by simpa using h0
  have HLF : Hid (IsH (Tree.leaf cs)) := leaf_isH cs
  generalize hlf : Tree.leaf cs = lf at HLF ⊢
  have HLE : Hid (Tree.leaf cs = lf) := hlf
  clear hlf
  generalize ha : Tree.inclOk lf i (n : Nat) row root = ans
  have HAE : Hid (Tree.inclOk lf i (n : Nat) row root = ans) := ha
  clear ha
  go_enter Tryd.func26, Tryd.ntmps26
  go_wp2_with (first
    | (refine wl_box (.tmp 4) rfl rfl root hr rfl ?_; rw [← hg0]; intro w1 r1 s1 b1; have R1 : Hid (checkS w g0 root w1) := ⟨r1, hg0 ▸ b1⟩; clear r1 s1 b1 hg0)
    | (refine wl rfl _ w1 (rx_addI (.tmp 21) (.const (.int .i64 1)) rfl ((L - 1) / 64) 1 (n : Int) rfl rfl HNE.out (by omega) hcm) ?_)
    | (refine wl rfl _ w1 (rx_eqI (.tmp 26) (.tmp 28) rfl i ((n : Int) - 1) rfl rfl true HZ.out) ?_)
    | (refine wl rfl _ w1 (rx_subI (.tmp 30) (.tmp 33) rfl L (((n : Int) - 1) * 64) K rfl rfl HK.out (by omega) (by omega)) ?_))
  refine wp_region_held (S := checkS w g0 root) (by kernel_rfl) ?_
  show wpAnyH _ _ _ _ _ 14 (Array.replicate 14 false) _ _
  have hS : checkS w g0 root { w1 with drawn := w1.drawn + 1 } := ⟨R1.out.1, below_append R1.out.2 (below_drawn w1 _)⟩
  refine takeH (i := 0) (some 35) rfl rfl (by kernel_rfl) (by kernel_rfl) (by kernel_rfl) (fun _ _ _ h => h) (yMove rfl (.tmp 0) rfl (v) rfl) hS ?_
  simp only [Act.put, List.setIfInBounds_toArray, List.set_cons_succ, List.set_cons_zero]
  refine takeH (i := 1) (some 36) rfl rfl (by kernel_rfl) (by kernel_rfl) (by kernel_rfl) (fun _ _ _ h => h) (yRunW rfl _ (fun _ _ => rx_blen (.tmp 35) rfl v cs rfl h N HN.out)) hS ?_
  simp only [Act.put, List.setIfInBounds_toArray, List.set_cons_succ, List.set_cons_zero]
  refine takeH (i := 2) (some 37) rfl rfl (by kernel_rfl) (by kernel_rfl) (by kernel_rfl) (fun _ _ _ h => h) (yMove rfl (.tmp 12) rfl (.int .i64 K) rfl) hS ?_
  simp only [Act.put, List.setIfInBounds_toArray, List.set_cons_succ, List.set_cons_zero]
  refine takeH (i := 3) (some 38) rfl rfl (by kernel_rfl) (by kernel_rfl) (by kernel_rfl) (fun _ _ _ h => h) (yEqI rfl (.tmp 36) (.tmp 37) rfl (N : Int) K rfl rfl true HE.out) hS ?_
  simp only [Act.put, List.setIfInBounds_toArray, List.set_cons_succ, List.set_cons_zero]
  refine takeH (i := 4) (some 39) rfl rfl (by kernel_rfl) (by kernel_rfl) (by kernel_rfl) (fun _ _ _ h => h) (yMove rfl (.tmp 38) rfl (.bool true) rfl) hS ?_
  simp only [Act.put, List.setIfInBounds_toArray, List.set_cons_succ, List.set_cons_zero]
  refine takeH (i := 5) (some 40) rfl rfl (by kernel_rfl) (by kernel_rfl) (by kernel_rfl) (fun _ _ _ h => h) (yMoveW rfl (.tmp 0) rfl (v) rfl) hS ?_
  simp only [Act.put, List.setIfInBounds_toArray, List.set_cons_succ, List.set_cons_zero]
  refine takeH (i := 7) (some 42) rfl rfl (by kernel_rfl) (by kernel_rfl) (by kernel_rfl) (fun _ _ _ h => h) (yMoveW rfl (.tmp 1) rfl (.int .i64 i) rfl) hS ?_
  simp only [Act.put, List.setIfInBounds_toArray, List.set_cons_succ, List.set_cons_zero]
  refine takeH (i := 8) (some 43) rfl rfl (by kernel_rfl) (by kernel_rfl) (by kernel_rfl) (fun _ _ _ h => h) (yMoveW rfl (.tmp 11) rfl (.int .i64 (n : Nat)) rfl) hS ?_
  simp only [Act.put, List.setIfInBounds_toArray, List.set_cons_succ, List.set_cons_zero]
  refine takeH (i := 9) (some 44) rfl rfl (by kernel_rfl) (by kernel_rfl) (by kernel_rfl) (fun _ _ _ h => h) (yMoveW rfl (.tmp 3) rfl (p) rfl) hS ?_
  simp only [Act.put, List.setIfInBounds_toArray, List.set_cons_succ, List.set_cons_zero]
  refine takeH (i := 10) (some 45) rfl rfl (by kernel_rfl) (by kernel_rfl) (by kernel_rfl) (fun _ _ _ h => h) (yRunW rfl _ (fun _ hW => rx_load (.tmp 9) rfl (.pointer (some ⟨g0, 0, none⟩)) rfl root hW.1.at)) hS ?_
  simp only [Act.put, List.setIfInBounds_toArray, List.set_cons_succ, List.set_cons_zero]
  refine oneH (i := 6) (by kernel_rfl) ?_
  refine opCallW (some 41) rfl rfl rfl 27 _ (run_call en27c [.tmp 40] _ rfl [v] rfl) ?_
  refine (refLeaf_any v cs _ (h.later hS.2) (by rw [HN.out]; omega)).mono ?_
  rintro e w2 ⟨rfl, b2⟩
  have hS2 : checkS w g0 root w2 := ⟨hS.1.next b2, below_append hS.2 b2⟩
  refine ⟨_, rfl, hS2, ?_⟩
  rw [HLE.out]
  clear hS b2
  simp only [Act.put, List.setIfInBounds_toArray, List.set_cons_succ, List.set_cons_zero]
  refine oneH (i := 11) (by kernel_rfl) ?_
  refine opCallW (some 46) rfl rfl rfl 47 _ (run_call en47c [.tmp 41, .tmp 42, .tmp 43, .tmp 44, .tmp 45] _ rfl [hv lf, .int .i64 i, .int .i64 (n : Nat), p, hv root] rfl) ?_
  refine (rincl_any lf root i (n : Nat) p row _ HLF.out hr (hp.later hS2.2) hcm).mono ?_
  rintro e w3 ⟨rfl, b3⟩
  have hS3 : checkS w g0 root w3 := ⟨hS2.1.next b3, below_append hS2.2 b3⟩
  refine ⟨_, rfl, hS3, ?_⟩
  rw [HAE.out]
  clear hS2 b3
  simp only [Act.put, List.setIfInBounds_toArray, List.set_cons_succ, List.set_cons_zero]
  refine takeH (i := 12) (some 47) rfl rfl (by kernel_rfl) (by kernel_rfl) (by kernel_rfl) (fun _ _ _ h => h) (yPickW rfl (.tmp 39) (.tmp 46) (.const (.bool false)) rfl rfl (.bool ans) rfl) hS3 ?_
  simp only [Act.put, List.setIfInBounds_toArray, List.set_cons_succ, List.set_cons_zero]
  refine takeH (i := 13) (some 10) rfl rfl (by kernel_rfl) (by kernel_rfl) (by kernel_rfl) (fun _ _ _ h => h) (yAssign rfl (.tmp 47) rfl (.bool ans) rfl) hS3 ?_
  simp only [Act.put, List.setIfInBounds_toArray, List.set_cons_succ, List.set_cons_zero]
  refine wpAnyH_done (by kernel_rfl) ?_ _
  have R3 : Hid (Below w.heap.size w w3) := hS3.2
  clear hS3
  go_wp2_with fail
  go_ret
  exact ⟨rfl, R3.out⟩

set_option maxHeartbeats 2000000 in
set_option maxRecDepth 100000 in
theorem rcheck_last_ne (v p : Value) (cs : List Nat) (i L : Int) (_row : List (List Nat)) (root : List Nat) (w : World) (h : SliceIn w v cs) (hr : IsH root) (hm : L ≤ 9223372036854775807)
    (n N : Nat) (K : Int) (h1 : 1 ≤ L) (h0 : 0 ≤ i) (hin : i < (n : Nat)) (HNE : Hid ((L - 1) / 64 + 1 = (n : Int))) (hcm : (n : Int) ≤ 9223372036854775807) (hcm' : ((n : Int) - 1) * 64 < L) (HN : Hid (cs.length = N)) (HZ : Hid (decide (i = (n : Int) - 1) = true)) (HK : Hid (L - ((n : Int) - 1) * 64 = K)) (hk0 : 0 ≤ K) (hk1 : K ≤ 64) (HE : Hid (decide ((N : Int) = K) = false)) :
    Calls Tryd.prog 26 #[v, .int .i64 i, .int .i64 L, p, hv root] w fun e w' => e = .returned (.bool false) ∧ Below w.heap.size w w' := by
  obtain ⟨g0, hg0⟩ : ∃ g0, g0 = w.heap.size := ⟨_, rfl⟩
  have G0 : Hid (g0 = w.heap.size) := hg0
  have hd1 : decide (L < 1) = false := by simpa using h1
  have hd0 : decide (i < 0) = false := by simpa using h0
  go_enter Tryd.func26, Tryd.ntmps26
  go_wp2_with (first
    | (refine wl_box (.tmp 4) rfl rfl root hr rfl ?_; rw [← hg0]; intro w1 r1 s1 b1; have R1 : Hid (checkS w g0 root w1) := ⟨r1, hg0 ▸ b1⟩; clear r1 s1 b1 hg0)
    | (refine wl rfl _ w1 (rx_addI (.tmp 21) (.const (.int .i64 1)) rfl ((L - 1) / 64) 1 (n : Int) rfl rfl HNE.out (by omega) hcm) ?_)
    | (refine wl rfl _ w1 (rx_eqI (.tmp 26) (.tmp 28) rfl i ((n : Int) - 1) rfl rfl true HZ.out) ?_)
    | (refine wl rfl _ w1 (rx_subI (.tmp 30) (.tmp 33) rfl L (((n : Int) - 1) * 64) K rfl rfl HK.out (by omega) (by omega)) ?_))
  refine wp_region_held (S := checkS w g0 root) (by kernel_rfl) ?_
  show wpAnyH _ _ _ _ _ 14 (Array.replicate 14 false) _ _
  have hS : checkS w g0 root { w1 with drawn := w1.drawn + 1 } := ⟨R1.out.1, below_append R1.out.2 (below_drawn w1 _)⟩
  refine takeH (i := 0) (some 35) rfl rfl (by kernel_rfl) (by kernel_rfl) (by kernel_rfl) (fun _ _ _ h => h) (yMove rfl (.tmp 0) rfl (v) rfl) hS ?_
  simp only [Act.put, List.setIfInBounds_toArray, List.set_cons_succ, List.set_cons_zero]
  refine takeH (i := 1) (some 36) rfl rfl (by kernel_rfl) (by kernel_rfl) (by kernel_rfl) (fun _ _ _ h => h) (yRunW rfl _ (fun _ _ => rx_blen (.tmp 35) rfl v cs rfl h N HN.out)) hS ?_
  simp only [Act.put, List.setIfInBounds_toArray, List.set_cons_succ, List.set_cons_zero]
  refine takeH (i := 2) (some 37) rfl rfl (by kernel_rfl) (by kernel_rfl) (by kernel_rfl) (fun _ _ _ h => h) (yMove rfl (.tmp 12) rfl (.int .i64 K) rfl) hS ?_
  simp only [Act.put, List.setIfInBounds_toArray, List.set_cons_succ, List.set_cons_zero]
  refine takeH (i := 3) (some 38) rfl rfl (by kernel_rfl) (by kernel_rfl) (by kernel_rfl) (fun _ _ _ h => h) (yEqI rfl (.tmp 36) (.tmp 37) rfl (N : Int) K rfl rfl false HE.out) hS ?_
  simp only [Act.put, List.setIfInBounds_toArray, List.set_cons_succ, List.set_cons_zero]
  refine takeH (i := 4) (some 39) rfl rfl (by kernel_rfl) (by kernel_rfl) (by kernel_rfl) (fun _ _ _ h => h) (yMove rfl (.tmp 38) rfl (.bool false) rfl) hS ?_
  simp only [Act.put, List.setIfInBounds_toArray, List.set_cons_succ, List.set_cons_zero]
  refine takeH (i := 5) (some 40) rfl rfl (by kernel_rfl) (by kernel_rfl) (by kernel_rfl) (fun _ _ _ h => h) (yOff rfl) hS ?_
  simp only [Act.put, List.setIfInBounds_toArray, List.set_cons_succ, List.set_cons_zero]
  refine takeH (i := 6) (some 41) rfl rfl (by kernel_rfl) (by kernel_rfl) (by kernel_rfl) (fun _ _ _ h => h) (yOff rfl) hS ?_
  simp only [Act.put, List.setIfInBounds_toArray, List.set_cons_succ, List.set_cons_zero]
  refine takeH (i := 7) (some 42) rfl rfl (by kernel_rfl) (by kernel_rfl) (by kernel_rfl) (fun _ _ _ h => h) (yOff rfl) hS ?_
  simp only [Act.put, List.setIfInBounds_toArray, List.set_cons_succ, List.set_cons_zero]
  refine takeH (i := 8) (some 43) rfl rfl (by kernel_rfl) (by kernel_rfl) (by kernel_rfl) (fun _ _ _ h => h) (yOff rfl) hS ?_
  simp only [Act.put, List.setIfInBounds_toArray, List.set_cons_succ, List.set_cons_zero]
  refine takeH (i := 9) (some 44) rfl rfl (by kernel_rfl) (by kernel_rfl) (by kernel_rfl) (fun _ _ _ h => h) (yOff rfl) hS ?_
  simp only [Act.put, List.setIfInBounds_toArray, List.set_cons_succ, List.set_cons_zero]
  refine takeH (i := 10) (some 45) rfl rfl (by kernel_rfl) (by kernel_rfl) (by kernel_rfl) (fun _ _ _ h => h) (yOff rfl) hS ?_
  simp only [Act.put, List.setIfInBounds_toArray, List.set_cons_succ, List.set_cons_zero]
  refine takeH (i := 11) (some 46) rfl rfl (by kernel_rfl) (by kernel_rfl) (by kernel_rfl) (fun _ _ _ h => h) (yOff rfl) hS ?_
  simp only [Act.put, List.setIfInBounds_toArray, List.set_cons_succ, List.set_cons_zero]
  refine takeH (i := 12) (some 47) rfl rfl (by kernel_rfl) (by kernel_rfl) (by kernel_rfl) (fun _ _ _ h => h) (yPickF rfl (.tmp 39) (.tmp 46) (.const (.bool false)) rfl rfl (.bool false) rfl) hS ?_
  simp only [Act.put, List.setIfInBounds_toArray, List.set_cons_succ, List.set_cons_zero]
  refine takeH (i := 13) (some 10) rfl rfl (by kernel_rfl) (by kernel_rfl) (by kernel_rfl) (fun _ _ _ h => h) (yAssign rfl (.tmp 47) rfl (.bool false) rfl) hS ?_
  simp only [Act.put, List.setIfInBounds_toArray, List.set_cons_succ, List.set_cons_zero]
  refine wpAnyH_done (by kernel_rfl) ?_ _
  have R3 := hS.2
  clear hS
  generalize ({ w1 with drawn := w1.drawn + 1 } : World) = w3 at R3 ⊢
  have R3' : Hid (Below w.heap.size w w3) := R3
  clear R3
  go_wp2_with fail
  go_ret
  exact ⟨rfl, R3'.out⟩

set_option maxHeartbeats 2000000 in
set_option maxRecDepth 100000 in
theorem rcheck_mid_eq (v p : Value) (cs : List Nat) (i L : Int) (row : List (List Nat)) (root : List Nat) (w : World) (h : SliceIn w v cs) (hp : HIn w p row) (hr : IsH root) (hm : L ≤ 9223372036854775807)
    (n N : Nat) (K : Int) (h1 : 1 ≤ L) (h0 : 0 ≤ i) (hin : i < (n : Nat)) (HNE : Hid ((L - 1) / 64 + 1 = (n : Int))) (hcm : (n : Int) ≤ 9223372036854775807) (_hcm' : ((n : Int) - 1) * 64 < L) (HN : Hid (cs.length = N)) (hN64 : N ≤ 64) (HZ : Hid (decide (i = (n : Int) - 1) = false)) (HK : Hid (64 = K)) (_hk0 : 0 ≤ K) (_hk1 : K ≤ 64) (HE : Hid (decide ((N : Int) = K) = true)) :
    Calls Tryd.prog 26 #[v, .int .i64 i, .int .i64 L, p, hv root] w fun e w' => e = .returned (.bool (Tree.inclOk (Tree.leaf cs) i (n : Nat) row root)) ∧ Below w.heap.size w w' := by
  obtain ⟨g0, hg0⟩ : ∃ g0, g0 = w.heap.size := ⟨_, rfl⟩
  have G0 : Hid (g0 = w.heap.size) := hg0
  have hd1 : decide (L < 1) = false := by simpa using h1
  have hd0 : decide (i < 0) = false := by simpa using h0
  have HLF : Hid (IsH (Tree.leaf cs)) := leaf_isH cs
  generalize hlf : Tree.leaf cs = lf at HLF ⊢
  have HLE : Hid (Tree.leaf cs = lf) := hlf
  clear hlf
  generalize ha : Tree.inclOk lf i (n : Nat) row root = ans
  have HAE : Hid (Tree.inclOk lf i (n : Nat) row root = ans) := ha
  clear ha
  go_enter Tryd.func26, Tryd.ntmps26
  go_wp2_with (first
    | (refine wl_box (.tmp 4) rfl rfl root hr rfl ?_; rw [← hg0]; intro w1 r1 s1 b1; have R1 : Hid (checkS w g0 root w1) := ⟨r1, hg0 ▸ b1⟩; clear r1 s1 b1 hg0)
    | (refine wl rfl _ w1 (rx_addI (.tmp 21) (.const (.int .i64 1)) rfl ((L - 1) / 64) 1 (n : Int) rfl rfl HNE.out (by omega) hcm) ?_)
    | (refine wl rfl _ w1 (rx_eqI (.tmp 26) (.tmp 28) rfl i ((n : Int) - 1) rfl rfl false HZ.out) ?_))
  rw [HK.out]
  refine wp_region_held (S := checkS w g0 root) (by kernel_rfl) ?_
  show wpAnyH _ _ _ _ _ 14 (Array.replicate 14 false) _ _
  have hS : checkS w g0 root { w1 with drawn := w1.drawn + 1 } := ⟨R1.out.1, below_append R1.out.2 (below_drawn w1 _)⟩
  refine takeH (i := 0) (some 35) rfl rfl (by kernel_rfl) (by kernel_rfl) (by kernel_rfl) (fun _ _ _ h => h) (yMove rfl (.tmp 0) rfl (v) rfl) hS ?_
  simp only [Act.put, List.setIfInBounds_toArray, List.set_cons_succ, List.set_cons_zero]
  refine takeH (i := 1) (some 36) rfl rfl (by kernel_rfl) (by kernel_rfl) (by kernel_rfl) (fun _ _ _ h => h) (yRunW rfl _ (fun _ _ => rx_blen (.tmp 35) rfl v cs rfl h N HN.out)) hS ?_
  simp only [Act.put, List.setIfInBounds_toArray, List.set_cons_succ, List.set_cons_zero]
  refine takeH (i := 2) (some 37) rfl rfl (by kernel_rfl) (by kernel_rfl) (by kernel_rfl) (fun _ _ _ h => h) (yMove rfl (.tmp 12) rfl (.int .i64 K) rfl) hS ?_
  simp only [Act.put, List.setIfInBounds_toArray, List.set_cons_succ, List.set_cons_zero]
  refine takeH (i := 3) (some 38) rfl rfl (by kernel_rfl) (by kernel_rfl) (by kernel_rfl) (fun _ _ _ h => h) (yEqI rfl (.tmp 36) (.tmp 37) rfl (N : Int) K rfl rfl true HE.out) hS ?_
  simp only [Act.put, List.setIfInBounds_toArray, List.set_cons_succ, List.set_cons_zero]
  refine takeH (i := 4) (some 39) rfl rfl (by kernel_rfl) (by kernel_rfl) (by kernel_rfl) (fun _ _ _ h => h) (yMove rfl (.tmp 38) rfl (.bool true) rfl) hS ?_
  simp only [Act.put, List.setIfInBounds_toArray, List.set_cons_succ, List.set_cons_zero]
  refine takeH (i := 5) (some 40) rfl rfl (by kernel_rfl) (by kernel_rfl) (by kernel_rfl) (fun _ _ _ h => h) (yMoveW rfl (.tmp 0) rfl (v) rfl) hS ?_
  simp only [Act.put, List.setIfInBounds_toArray, List.set_cons_succ, List.set_cons_zero]
  refine takeH (i := 7) (some 42) rfl rfl (by kernel_rfl) (by kernel_rfl) (by kernel_rfl) (fun _ _ _ h => h) (yMoveW rfl (.tmp 1) rfl (.int .i64 i) rfl) hS ?_
  simp only [Act.put, List.setIfInBounds_toArray, List.set_cons_succ, List.set_cons_zero]
  refine takeH (i := 8) (some 43) rfl rfl (by kernel_rfl) (by kernel_rfl) (by kernel_rfl) (fun _ _ _ h => h) (yMoveW rfl (.tmp 11) rfl (.int .i64 (n : Nat)) rfl) hS ?_
  simp only [Act.put, List.setIfInBounds_toArray, List.set_cons_succ, List.set_cons_zero]
  refine takeH (i := 9) (some 44) rfl rfl (by kernel_rfl) (by kernel_rfl) (by kernel_rfl) (fun _ _ _ h => h) (yMoveW rfl (.tmp 3) rfl (p) rfl) hS ?_
  simp only [Act.put, List.setIfInBounds_toArray, List.set_cons_succ, List.set_cons_zero]
  refine takeH (i := 10) (some 45) rfl rfl (by kernel_rfl) (by kernel_rfl) (by kernel_rfl) (fun _ _ _ h => h) (yRunW rfl _ (fun _ hW => rx_load (.tmp 9) rfl (.pointer (some ⟨g0, 0, none⟩)) rfl root hW.1.at)) hS ?_
  simp only [Act.put, List.setIfInBounds_toArray, List.set_cons_succ, List.set_cons_zero]
  refine oneH (i := 6) (by kernel_rfl) ?_
  refine opCallW (some 41) rfl rfl rfl 27 _ (run_call en27c [.tmp 40] _ rfl [v] rfl) ?_
  refine (refLeaf_any v cs _ (h.later hS.2) (by rw [HN.out]; omega)).mono ?_
  rintro e w2 ⟨rfl, b2⟩
  have hS2 : checkS w g0 root w2 := ⟨hS.1.next b2, below_append hS.2 b2⟩
  refine ⟨_, rfl, hS2, ?_⟩
  rw [HLE.out]
  clear hS b2
  simp only [Act.put, List.setIfInBounds_toArray, List.set_cons_succ, List.set_cons_zero]
  refine oneH (i := 11) (by kernel_rfl) ?_
  refine opCallW (some 46) rfl rfl rfl 47 _ (run_call en47c [.tmp 41, .tmp 42, .tmp 43, .tmp 44, .tmp 45] _ rfl [hv lf, .int .i64 i, .int .i64 (n : Nat), p, hv root] rfl) ?_
  refine (rincl_any lf root i (n : Nat) p row _ HLF.out hr (hp.later hS2.2) hcm).mono ?_
  rintro e w3 ⟨rfl, b3⟩
  have hS3 : checkS w g0 root w3 := ⟨hS2.1.next b3, below_append hS2.2 b3⟩
  refine ⟨_, rfl, hS3, ?_⟩
  rw [HAE.out]
  clear hS2 b3
  simp only [Act.put, List.setIfInBounds_toArray, List.set_cons_succ, List.set_cons_zero]
  refine takeH (i := 12) (some 47) rfl rfl (by kernel_rfl) (by kernel_rfl) (by kernel_rfl) (fun _ _ _ h => h) (yPickW rfl (.tmp 39) (.tmp 46) (.const (.bool false)) rfl rfl (.bool ans) rfl) hS3 ?_
  simp only [Act.put, List.setIfInBounds_toArray, List.set_cons_succ, List.set_cons_zero]
  refine takeH (i := 13) (some 10) rfl rfl (by kernel_rfl) (by kernel_rfl) (by kernel_rfl) (fun _ _ _ h => h) (yAssign rfl (.tmp 47) rfl (.bool ans) rfl) hS3 ?_
  simp only [Act.put, List.setIfInBounds_toArray, List.set_cons_succ, List.set_cons_zero]
  refine wpAnyH_done (by kernel_rfl) ?_ _
  have R3 : Hid (Below w.heap.size w w3) := hS3.2
  clear hS3
  go_wp2_with fail
  go_ret
  exact ⟨rfl, R3.out⟩

set_option maxHeartbeats 2000000 in
set_option maxRecDepth 100000 in
theorem rcheck_mid_ne (v p : Value) (cs : List Nat) (i L : Int) (_row : List (List Nat)) (root : List Nat) (w : World) (h : SliceIn w v cs) (hr : IsH root) (hm : L ≤ 9223372036854775807)
    (n N : Nat) (K : Int) (h1 : 1 ≤ L) (h0 : 0 ≤ i) (hin : i < (n : Nat)) (HNE : Hid ((L - 1) / 64 + 1 = (n : Int))) (hcm : (n : Int) ≤ 9223372036854775807) (_hcm' : ((n : Int) - 1) * 64 < L) (HN : Hid (cs.length = N)) (HZ : Hid (decide (i = (n : Int) - 1) = false)) (HK : Hid (64 = K)) (_hk0 : 0 ≤ K) (_hk1 : K ≤ 64) (HE : Hid (decide ((N : Int) = K) = false)) :
    Calls Tryd.prog 26 #[v, .int .i64 i, .int .i64 L, p, hv root] w fun e w' => e = .returned (.bool false) ∧ Below w.heap.size w w' := by
  obtain ⟨g0, hg0⟩ : ∃ g0, g0 = w.heap.size := ⟨_, rfl⟩
  have G0 : Hid (g0 = w.heap.size) := hg0
  have hd1 : decide (L < 1) = false := by simpa using h1
  have hd0 : decide (i < 0) = false := by simpa using h0
  go_enter Tryd.func26, Tryd.ntmps26
  go_wp2_with (first
    | (refine wl_box (.tmp 4) rfl rfl root hr rfl ?_; rw [← hg0]; intro w1 r1 s1 b1; have R1 : Hid (checkS w g0 root w1) := ⟨r1, hg0 ▸ b1⟩; clear r1 s1 b1 hg0)
    | (refine wl rfl _ w1 (rx_addI (.tmp 21) (.const (.int .i64 1)) rfl ((L - 1) / 64) 1 (n : Int) rfl rfl HNE.out (by omega) hcm) ?_)
    | (refine wl rfl _ w1 (rx_eqI (.tmp 26) (.tmp 28) rfl i ((n : Int) - 1) rfl rfl false HZ.out) ?_))
  rw [HK.out]
  refine wp_region_held (S := checkS w g0 root) (by kernel_rfl) ?_
  show wpAnyH _ _ _ _ _ 14 (Array.replicate 14 false) _ _
  have hS : checkS w g0 root { w1 with drawn := w1.drawn + 1 } := ⟨R1.out.1, below_append R1.out.2 (below_drawn w1 _)⟩
  refine takeH (i := 0) (some 35) rfl rfl (by kernel_rfl) (by kernel_rfl) (by kernel_rfl) (fun _ _ _ h => h) (yMove rfl (.tmp 0) rfl (v) rfl) hS ?_
  simp only [Act.put, List.setIfInBounds_toArray, List.set_cons_succ, List.set_cons_zero]
  refine takeH (i := 1) (some 36) rfl rfl (by kernel_rfl) (by kernel_rfl) (by kernel_rfl) (fun _ _ _ h => h) (yRunW rfl _ (fun _ _ => rx_blen (.tmp 35) rfl v cs rfl h N HN.out)) hS ?_
  simp only [Act.put, List.setIfInBounds_toArray, List.set_cons_succ, List.set_cons_zero]
  refine takeH (i := 2) (some 37) rfl rfl (by kernel_rfl) (by kernel_rfl) (by kernel_rfl) (fun _ _ _ h => h) (yMove rfl (.tmp 12) rfl (.int .i64 K) rfl) hS ?_
  simp only [Act.put, List.setIfInBounds_toArray, List.set_cons_succ, List.set_cons_zero]
  refine takeH (i := 3) (some 38) rfl rfl (by kernel_rfl) (by kernel_rfl) (by kernel_rfl) (fun _ _ _ h => h) (yEqI rfl (.tmp 36) (.tmp 37) rfl (N : Int) K rfl rfl false HE.out) hS ?_
  simp only [Act.put, List.setIfInBounds_toArray, List.set_cons_succ, List.set_cons_zero]
  refine takeH (i := 4) (some 39) rfl rfl (by kernel_rfl) (by kernel_rfl) (by kernel_rfl) (fun _ _ _ h => h) (yMove rfl (.tmp 38) rfl (.bool false) rfl) hS ?_
  simp only [Act.put, List.setIfInBounds_toArray, List.set_cons_succ, List.set_cons_zero]
  refine takeH (i := 5) (some 40) rfl rfl (by kernel_rfl) (by kernel_rfl) (by kernel_rfl) (fun _ _ _ h => h) (yOff rfl) hS ?_
  simp only [Act.put, List.setIfInBounds_toArray, List.set_cons_succ, List.set_cons_zero]
  refine takeH (i := 6) (some 41) rfl rfl (by kernel_rfl) (by kernel_rfl) (by kernel_rfl) (fun _ _ _ h => h) (yOff rfl) hS ?_
  simp only [Act.put, List.setIfInBounds_toArray, List.set_cons_succ, List.set_cons_zero]
  refine takeH (i := 7) (some 42) rfl rfl (by kernel_rfl) (by kernel_rfl) (by kernel_rfl) (fun _ _ _ h => h) (yOff rfl) hS ?_
  simp only [Act.put, List.setIfInBounds_toArray, List.set_cons_succ, List.set_cons_zero]
  refine takeH (i := 8) (some 43) rfl rfl (by kernel_rfl) (by kernel_rfl) (by kernel_rfl) (fun _ _ _ h => h) (yOff rfl) hS ?_
  simp only [Act.put, List.setIfInBounds_toArray, List.set_cons_succ, List.set_cons_zero]
  refine takeH (i := 9) (some 44) rfl rfl (by kernel_rfl) (by kernel_rfl) (by kernel_rfl) (fun _ _ _ h => h) (yOff rfl) hS ?_
  simp only [Act.put, List.setIfInBounds_toArray, List.set_cons_succ, List.set_cons_zero]
  refine takeH (i := 10) (some 45) rfl rfl (by kernel_rfl) (by kernel_rfl) (by kernel_rfl) (fun _ _ _ h => h) (yOff rfl) hS ?_
  simp only [Act.put, List.setIfInBounds_toArray, List.set_cons_succ, List.set_cons_zero]
  refine takeH (i := 11) (some 46) rfl rfl (by kernel_rfl) (by kernel_rfl) (by kernel_rfl) (fun _ _ _ h => h) (yOff rfl) hS ?_
  simp only [Act.put, List.setIfInBounds_toArray, List.set_cons_succ, List.set_cons_zero]
  refine takeH (i := 12) (some 47) rfl rfl (by kernel_rfl) (by kernel_rfl) (by kernel_rfl) (fun _ _ _ h => h) (yPickF rfl (.tmp 39) (.tmp 46) (.const (.bool false)) rfl rfl (.bool false) rfl) hS ?_
  simp only [Act.put, List.setIfInBounds_toArray, List.set_cons_succ, List.set_cons_zero]
  refine takeH (i := 13) (some 10) rfl rfl (by kernel_rfl) (by kernel_rfl) (by kernel_rfl) (fun _ _ _ h => h) (yAssign rfl (.tmp 47) rfl (.bool false) rfl) hS ?_
  simp only [Act.put, List.setIfInBounds_toArray, List.set_cons_succ, List.set_cons_zero]
  refine wpAnyH_done (by kernel_rfl) ?_ _
  have R3 := hS.2
  clear hS
  generalize ({ w1 with drawn := w1.drawn + 1 } : World) = w3 at R3 ⊢
  have R3' : Hid (Below w.heap.size w w3) := R3
  clear R3
  go_wp2_with fail
  go_ret
  exact ⟨rfl, R3'.out⟩

set_option maxHeartbeats 2000000 in
set_option maxRecDepth 100000 in
theorem rcheck_any (v p : Value) (cs : List Nat) (i L : Int) (row : List (List Nat)) (root : List Nat) (w : World) (h : SliceIn w v cs) (hp : HIn w p row) (hr : IsH root) (hm : L ≤ 9223372036854775807) :
    Calls Tryd.prog 26 #[v, .int .i64 i, .int .i64 L, p, hv root] w fun e w' => e = .returned (.bool (Cut.check cs i L row root)) ∧ Below w.heap.size w w' := by
  obtain ⟨N, hN⟩ : ∃ N, cs.length = N := ⟨_, rfl⟩
  obtain ⟨n, hn⟩ : ∃ n, Cut.count L.toNat = n := ⟨_, rfl⟩
  have hnn : n = (L.toNat + 63) / 64 := by rw [← hn]; rfl
  have HA : Cut.check cs i L row root = (decide (0 ≤ i ∧ i < (n : Nat)) && (decide ((N : Int) = min 64 (L - i * 64)) && Tree.inclOk (Tree.leaf cs) i (n : Nat) row root)) := by
    unfold Cut.check
    rw [hn, hN]
  by_cases h1 : 1 ≤ L
  · have hNE : (L - 1) / 64 + 1 = (n : Int) := by omega
    by_cases h0 : 0 ≤ i
    · by_cases hin : i < (n : Nat)
      · rw [decide_eq_true ⟨h0, hin⟩, Bool.true_and] at HA
        have hK : ∃ K, K = min 64 (L - i * 64) := ⟨_, rfl⟩
        obtain ⟨K, hK⟩ := hK
        rw [← hK] at HA
        by_cases hz : i = (n : Int) - 1
        · have hKz : L - ((n : Int) - 1) * 64 = K := by omega
          by_cases he : (N : Int) = K
          · rw [HA, decide_eq_true he, Bool.true_and]
            exact rcheck_last_eq v p cs i L row root w h hp hr hm n N K h1 h0 hin hNE (by omega) (by omega) hN (by omega) (decide_eq_true hz) hKz (by omega) (by omega) (decide_eq_true he)
          · rw [HA, decide_eq_false he, Bool.false_and]
            exact rcheck_last_ne v p cs i L row root w h hr hm n N K h1 h0 hin hNE (by omega) (by omega) hN (decide_eq_true hz) hKz (by omega) (by omega) (decide_eq_false he)
        · have hKz : 64 = K := by omega
          by_cases he : (N : Int) = K
          · rw [HA, decide_eq_true he, Bool.true_and]
            exact rcheck_mid_eq v p cs i L row root w h hp hr hm n N K h1 h0 hin hNE (by omega) (by omega) hN (by omega) (decide_eq_false hz) hKz (by omega) (by omega) (decide_eq_true he)
          · rw [HA, decide_eq_false he, Bool.false_and]
            exact rcheck_mid_ne v p cs i L row root w h hr hm n N K h1 h0 hin hNE (by omega) (by omega) hN (decide_eq_false hz) hKz (by omega) (by omega) (decide_eq_false he)
      · rw [HA, decide_eq_false (by omega), Bool.false_and]
        have HNE : Hid ((L - 1) / 64 + 1 = (n : Int)) := hNE
        have hd1 : decide (L < 1) = false := by simpa using h1
        have hd0 : decide (i < 0) = false := by simpa using h0
        have hge : (n : Int) ≤ i := by omega
        have hcm : (n : Int) ≤ 9223372036854775807 := by omega
        obtain ⟨g0, hg0⟩ : ∃ g0, g0 = w.heap.size := ⟨_, rfl⟩
        clear hN hn hnn hNE hin HA
        go_enter Tryd.func26, Tryd.ntmps26
        go_wp2_with (first
          | (refine wl_box (.tmp 4) rfl rfl root hr rfl ?_; rw [← hg0]; intro w1 r1 s1 b1; have R1 : Hid (checkS w g0 root w1) := ⟨r1, hg0 ▸ b1⟩; clear r1 s1 b1 hg0)
          | (refine wl rfl _ w1 (rx_addI (.tmp 21) (.const (.int .i64 1)) rfl ((L - 1) / 64) 1 (n : Int) rfl rfl HNE.out (by omega) hcm) ?_))
        go_ret
        exact ⟨rfl, R1.out.2⟩
    · rw [HA, decide_eq_false (by omega), Bool.false_and]
      have hd1 : decide (L < 1) = false := by simpa using h1
      have hd0 : decide (i < 0) = true := by simpa using h0
      obtain ⟨g0, hg0⟩ : ∃ g0, g0 = w.heap.size := ⟨_, rfl⟩
      clear hN hn hnn hNE HA
      go_enter Tryd.func26, Tryd.ntmps26
      go_wp2_with (first
        | (refine wl_box (.tmp 4) rfl rfl root hr rfl ?_; rw [← hg0]; intro w1 r1 s1 b1; have R1 : Hid (checkS w g0 root w1) := ⟨r1, hg0 ▸ b1⟩; clear r1 s1 b1 hg0))
      go_ret
      exact ⟨rfl, R1.out.2⟩
  · rw [HA, decide_eq_false (by omega), Bool.false_and]
    have hd1 : decide (L < 1) = true := by simpa using h1
    obtain ⟨g0, hg0⟩ : ∃ g0, g0 = w.heap.size := ⟨_, rfl⟩
    clear hN hn hnn HA
    go_enter Tryd.func26, Tryd.ntmps26
    go_wp2_with (first
      | (refine wl_box (.tmp 4) rfl rfl root hr rfl ?_; rw [← hg0]; intro w1 r1 s1 b1; have R1 : Hid (checkS w g0 root w1) := ⟨r1, hg0 ▸ b1⟩; clear r1 s1 b1 hg0))
    go_ret
    exact ⟨rfl, R1.out.2⟩
end Go.Proofs.YtfnncccioipjcaaDoor

namespace Go.Proofs.YtfnncccioipjcaaDoor
open Go.RowKit

def HeldIs (w : World) (g : Nat) (i n : Int) (v : Value) (r : List Nat) : Prop := IsH r ∧ Row w g 45 (heldCells i n v r)
theorem HeldIs.next {w w' : World} {g : Nat} {i n : Int} {v : Value} {r : List Nat} (h : HeldIs w g i n v r) (hb : Below w.heap.size w w') : HeldIs w' g i n v r := ⟨h.1, h.2.later hb h.2.lt⟩
theorem f45_0 : FieldAt 45 0 0 := fun w g off => by kernel_rfl
theorem f45_1 : FieldAt 45 1 1 := fun w g off => by kernel_rfl
theorem f45_2 : FieldAt 45 2 2 := fun w g off => by kernel_rfl
theorem f45_3 : FieldAt 45 3 3 := fun w g off => by kernel_rfl
section
variable {w : World} {g : Nat} {i n : Int} {r : List Nat} {v : Value}
theorem HeldIs.fi (h : HeldIs w g i n v r) : w.cell? ⟨g, 0 + 0, none⟩ = some (.int .i64 i) := h.2.at 0 _ rfl
theorem HeldIs.fn (h : HeldIs w g i n v r) : w.cell? ⟨g, 0 + 1, none⟩ = some (.int .i64 n) := h.2.at 1 _ rfl
theorem HeldIs.fv (h : HeldIs w g i n v r) : w.cell? ⟨g, 0 + 2, none⟩ = some v := h.2.at 2 _ rfl
theorem HeldIs.fr (h : HeldIs w g i n v r) : HAt w (.pointer (some ⟨g, 0 + 3, none⟩)) r := ⟨h.1, g, 0 + 3, rfl, fun j hj => h.2.at _ _ (by
  unfold heldCells
  rw [show 0 + 3 + j = j + 1 + 1 + 1 by omega, List.getElem?_cons_succ, List.getElem?_cons_succ, List.getElem?_cons_succ]
  exact bcells_at r j (by rw [h.1.1]; exact hj))⟩
end
section
variable {w : World} {ops : Array Oper} {rest : List Oper} {o : Oper} {a : Act} {Q : Exit → Act → World → Prop}
theorem wl_fieldC {T i k : Nat} (hf : FieldAt T i k) (x : Operand) (hgd : Region.wanted o (yielded ops a.tmps) = true) (ho : o.op = .fieldAddr T x i) (g off : Nat) (hx : a.eval x = .pointer (some ⟨g, off, none⟩))
    (h : wpList Tryd.prog ops Q rest (a.put o.dst (.pointer (some ⟨g, off + k, none⟩))) w) : wpList Tryd.prog ops Q (o :: rest) a w :=
  wl hgd _ _ (by simp only [execOp, ho, hx, hf w g off, Sem.run_bind, Sem.run_pure, Result.andThen_ok]) h
end
set_option maxHeartbeats 8000000 in
set_option maxRecDepth 100000 in
theorem chunkChecks_any (vc v : Value) (cs : List Nat) (i n : Int) (row : List (List Nat)) (r : List Nat) (w : World) (hc : SliceIn w vc cs) (h : HIn w v row) (hr : IsH r) (ht : TabIn w) (hst : StartIn w) (hn0 : -9223372036854775808 ≤ n) (hn : n ≤ 9223372036854775807) :
    Calls Tryd.prog 5 #[vc, heldV i n v r] w fun e w' => e = .returned (.bool true) ∧ Below w.heap.size w w' := by
  obtain ⟨g, hg⟩ : ∃ g, g = w.heap.size := ⟨_, rfl⟩
  obtain ⟨b, hb⟩ : ∃ b, Cut.check cs i n row r = b := ⟨_, rfl⟩
  have HB : Hid (Cut.check cs i n row r = b) := hb
  clear hb
  go_enter Tryd.func5, Tryd.ntmps5
  go_wp2_with ((first
    | (refine wpList_box (.tmp 1) rfl rfl (heldCells i n v r) rfl ?_; rw [← hg]; intro w1 r1 s1 b1; have R1 : Hid (HeldIs w1 g i n v r ∧ Below w.heap.size w w1) := ⟨⟨hr, r1⟩, hg ▸ b1⟩; clear r1 s1 b1 hg)
    | (go_at_call 18; refine (cshown_any w1 (ht.later R1.out.2) (hst.later R1.out.2)).mono ?_; rintro e w2 ⟨rfl, b2⟩; have R2 : Hid (HeldIs w2 g i n v r ∧ Below w.heap.size w w2) := ⟨R1.out.1.next b2, below_append R1.out.2 b2⟩; clear b2)
    | (refine wl_fieldC f45_0 (.tmp 3) rfl rfl g 0 rfl ?_)
    | (refine wl_fieldC f45_1 (.tmp 3) rfl rfl g 0 rfl ?_)
    | (refine wl_fieldC f45_2 (.tmp 3) rfl rfl g 0 rfl ?_)
    | (refine wl_fieldC f45_3 (.tmp 3) rfl rfl g 0 rfl ?_)
    | (refine wl_load1 one3 (.tmp 10) rfl rfl g (0 + 0) rfl (.int .i64 i) R2.out.1.fi ?_)
    | (refine wl_load1 one3 (.tmp 12) rfl rfl g (0 + 1) rfl (.int .i64 n) R2.out.1.fn ?_)
    | (refine wl_load1 one24 (.tmp 14) rfl rfl g (0 + 2) rfl v R2.out.1.fv ?_)
    | (refine wl_load (.tmp 16) rfl rfl _ rfl r R2.out.1.fr ?_)
    | (go_at_call 25; refine (ccheck_any vc v cs i n row r w2 (hc.later R2.out.2) (h.later R2.out.2) hr (ht.later R2.out.2) (hst.later R2.out.2) hn0 hn).mono ?_; rw [HB.out]; rintro e w3 ⟨rfl, b3⟩; have R3 : Hid (HeldIs w3 g i n v r ∧ Below w.heap.size w w3) := ⟨R2.out.1.next b3, below_append R2.out.2 b3⟩; clear b3)
    | (refine wl_load1 one3 (.tmp 20) rfl rfl g (0 + 0) rfl (.int .i64 i) R3.out.1.fi ?_)
    | (refine wl_load1 one3 (.tmp 22) rfl rfl g (0 + 1) rfl (.int .i64 n) R3.out.1.fn ?_)
    | (refine wl_load1 one24 (.tmp 24) rfl rfl g (0 + 2) rfl v R3.out.1.fv ?_)
    | (refine wl_load (.tmp 26) rfl rfl _ rfl r R3.out.1.fr ?_)
    | (go_at_call 26; refine (rcheck_any vc v cs i n row r w3 (hc.later R3.out.2) (h.later R3.out.2) hr hn).mono ?_; rw [HB.out]; rintro e w4 ⟨rfl, b4⟩; have R4 : Hid (Below w.heap.size w w4) := below_append R3.out.2 b4; clear b4)); try simp only [Act.put, List.setIfInBounds_toArray, List.set_cons_succ, List.set_cons_zero])
  go_ret
  exact ⟨by cases b <;> rfl, R4.out⟩
end Go.Proofs.YtfnncccioipjcaaDoor

namespace Go.Proofs.YtfnncccioipjcaaDoor.chunkChecks
open Go.ChangeShapes Go.WideShapes Go.ChangeAt Go.RowKit

set_option maxRecDepth 100000 in
/-- WHAT THE WALK GIVES, FOR EVERY ARGUMENT AND EVERY WORLD THAT HOLDS THE TABLE -/
theorem contract (H : Type) (enc : TypeId × Value → H) (W : World) (base : Nat) (args : Array Value) (ds gs : List (DataW H)) (before : List MemPlace)
    (hval : ∀ (j : Nat) t v, Tryd.f5.params[j]? = some t → args[j]? = some v → Value.okWide Tryd.prog W .any base t v)
    (hW : DataW.Whole enc Tryd.prog Tryd.f5.params.toList Rows.chunkChecksSpec.vars false W args.toList ds gs before)
    (hL : laidMetH Tryd.prog Rows.chunkChecksRow.laid W) :
    Calls Tryd.prog 5 args W fun e W' => ∃ v, e = .returned v ∧ Rows.chunkChecksSpec.post enc Tryd.prog Tryd.f5 false true false false W args v W' := by
  have hW' := hW
  obtain ⟨p, q, hA0, hV, rfl, hfz, hnd⟩ := hW
  have hA : DataW.TrodAll enc Tryd.prog W 0 (fun _ => true) true Tryd.f5.params.toList args.toList ds p := hA0
  rw [Tryd.params5] at hA hval
  obtain ⟨v0, vs0, d0, ds0, p0, q0, hargs, rfl, rfl, h0, r0⟩ := trodAll_cons hA
  obtain ⟨v1, vs1, d1, ds1, p1, q1, rfl, rfl, rfl, h1, r1⟩ := trodAll_cons r0
  obtain ⟨rfl, rfl, rfl⟩ := trodAll_nil r1
  obtain rfl : args = #[v0, v1] := by cases args; simp_all
  obtain ⟨rfl, rfl⟩ := trodVars_none hV
  have lt0 : ∀ x ∈ p0, x.block < W.heap.size := by obtain ⟨m, hm⟩ := h0; exact DataW.trod_lt m _ _ _ hm
  obtain ⟨cs0, hs0, hd0⟩ := open_bytes (hval 0 39 v0 rfl rfl) h0
  have lt1 : ∀ x ∈ p1, x.block < W.heap.size := by obtain ⟨m, hm⟩ := h1; exact DataW.trod_lt m _ _ _ hm
  obtain ⟨i1, n1, vp1, hs1, x1, rfl, hx1, hin1, bi1, bn1⟩ := open_held (hval 1 45 v1 rfl rfl) h1
  clear hA0
  have walk := chunkChecks_any v0 vp1 cs0 i1 n1 hs1 x1 W hs0 hin1 hx1 (tabs_of hL).2 (tabs_of hL).1 bn1.1 bn1.2
  refine walk.mono fun e W' ⟨he, bel⟩ => ?_
  subst he
  exact ⟨_, rfl, _, _, _, [], _, [], hW', trodAll_mk1 (shut_bool Tryd.underlying4 _), (trodAll_cons_mk (Below.trod laidOut (by kernel_rfl) (of_decide_eq_true (by kernel_rfl)) h0 bel lt0) (trodAll_cons_mk (Below.trod laidOut (by kernel_rfl) (of_decide_eq_true (by kernel_rfl)) h1 bel lt1) trodAll_mk0)), rfl, bel.frame _, fun h => by cases h⟩

theorem laid_met (os : Os) : laidMet Tryd.prog Rows.chunkChecksRow.laid ((laidOn (World.holding Tryd.prog os ⟨#[], #[], []⟩)).forCall (fun _ _ => 0) ⟨#[], #[.slice none 0 0, .agg (heldCells 0 0 (.slice none 0 0) noH).toArray], []⟩).memory :=
  laidMet_of_run' 8 (by kernel_rfl) (by kernel_rfl)
theorem reads (os : Os) {H : Type} (enc : TypeId × Value → H) : ∃ places, DataW.whole enc Tryd.prog ((laidOn (World.holding Tryd.prog os ⟨#[], #[], []⟩)).forCall (fun _ _ => 0) ⟨#[], #[.slice none 0 0, .agg (heldCells 0 0 (.slice none 0 0) noH).toArray], []⟩).memory Tryd.f5.params.toList Rows.chunkChecksSpec.vars false #[Value.slice none 0 0, .agg (heldCells 0 0 (.slice none 0 0) noH).toArray].toList 8 = some ([.nil, .agg [.lit (.int .i64 0), .lit (.int .i64 0), .nil, .agg (List.replicate 32 (.lit (.int .u8 0)))]], [], places) :=
  ⟨[], by kernel_rfl⟩

set_option maxRecDepth 100000 in
theorem lifted (os : Os) (started : os.Started) (H : Type) (enc : TypeId × Value → H) (F : Stop.Interp) :
    ReturnsInHanded {} Tryd.checked os 5 .any ((OpenSpec.ofChange Rows.chunkChecksSpec).preRow enc Tryd.prog Tryd.f5 Rows.chunkChecksRow.domain false Rows.chunkChecksRow.laid) (((OpenSpec.ofChange Rows.chunkChecksSpec).at F).post enc Tryd.prog Tryd.f5 false true false false) := by
  obtain ⟨places, hx⟩ := reads os enc
  refine returnsInHanded_of_row (C := Tryd.checked) (s := OpenSpec.ofChange Rows.chunkChecksSpec) own started (by kernel_rfl) Tryd.func5
    (witness_row_at (enc := enc) (C := Tryd.checked) false (laidOn (World.holding Tryd.prog os ⟨#[], #[], []⟩)) #[.slice none 0 0, .agg (heldCells 0 0 (.slice none 0 0) noH).toArray] rfl (by kernel_rfl) (by kernel_rfl) (by kernel_rfl)
      (OpenSpec.preRow_of_cond 8 hx (by kernel_rfl) (fun k hk => by cases hk) (by kernel_rfl) (laid_met os))) ?_
  intro W base args ds gs before hval hW _ _ _ hL _ _
  exact contract H enc W base args ds gs before hval hW hL

theorem said : Rows.ChunkChecksSaid :=
  OpenClaim.holds_of_cond 5 Tryd.f5 rfl rfl rfl rfl rfl rfl rfl ⟨rfl, rfl, rfl, rfl, rfl⟩ rfl rfl rfl rfl rfl (by kernel_rfl) Tryd.func5 (by kernel_rfl)
    (of_decide_eq_true (by kernel_rfl)) (by unfold Func.isWrapper; first | (rw [if_pos (by decide +kernel)]; kernel_rfl) | (rw [if_neg (by decide +kernel)]; exact ⟨rfl, rfl⟩))
    (fun os started H enc _ F => by rw [OpenClaim.pre_eq_preRow]; exact lifted os started H enc F)

theorem plain (f : FuncId) (fn : Func) (hf : Tryd.pinned.checked.prog.funcNamed "muniment/munimentlaw07.ChunkChecks" = some f) (hfn : Tryd.pinned.checked.prog.funcs[f]? = some fn) :
    false = Tryd.pinned.checked.prog.looks [] ∧ ∀ (j : Nat) t, fn.params[j]? = some t → Tryd.pinned.checked.prog.wantsStandIn t = false := by
  obtain rfl : f = 5 := Option.some.inj ((show Tryd.prog.funcNamed "muniment/munimentlaw07.ChunkChecks" = some 5 by kernel_rfl).symm.trans hf) |>.symm
  obtain rfl : fn = Tryd.f5 := (Option.some.inj (Tryd.func5.symm.trans hfn)).symm
  refine ⟨by kernel_rfl, fun j t ht => ?_⟩
  rw [Tryd.params5] at ht
  have hm := Array.mem_of_getElem? ht
  have : t = 39 ∨ t = 45 := by simpa using hm
  rcases this with rfl | rfl
  · exact (show Tryd.prog.wantsStandIn 39 = false by kernel_rfl)
  · exact (show Tryd.prog.wantsStandIn 45 = false by kernel_rfl)

end Go.Proofs.YtfnncccioipjcaaDoor.chunkChecks
namespace Go.Proofs.YtfnncccioipjcaaDoor
/-- THE CARD -/
theorem chunkChecks_card : Rows.ChunkChecksCardSaid :=
  Claim7.holds_tied_plain_at .later [] _ _ _ _ chunkChecks.said (fun _ h => by cases h) (by kernel_rfl) (fun _ h => by cases h) chunkChecks_row_tie rfl ⟨rfl, rfl⟩ (by kernel_rfl) rfl chunkChecks.plain (by kernel_rfl)
end Go.Proofs.YtfnncccioipjcaaDoor

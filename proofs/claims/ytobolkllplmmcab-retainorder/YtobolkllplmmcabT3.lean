/- Deletions. -/
import Derived.Test.YtobolkllplmmcabT2
namespace Go.Proofs.Ytobolkllplmmcab
open Go.RowKit

theorem Rok.del {r : Rc} {vc : Value} (h : Rok r vc) : Rok { r with gone := true, cp := [] } (.slice none 0 0) := ⟨h.root, h.bytes, ⟨_, _, _, rfl⟩⟩
theorem run_res1 {fn : Func} {p : Tmp} {v : Value} (h : fn.results = #[.tmp p]) {tmps : Array Value} {w : World} (hp : tmps.getD p undef = v) : (results fn tmps).run Try.prog w = .ok v w := by
  subst hp
  simp [results, h]
set_option maxHeartbeats 4000000 in
set_option maxRecDepth 100000 in
theorem refusal_any (r : Rc) (vc : Value) (n : Int) (w : World) (hf : Rok r vc) : Calls Try.prog 12 #[.agg (rcells r vc).toArray, .int .i64 n] w fun e w' => e = .returned (.int .i64 (refS r n)) ∧ Below w.heap.size w w' := by
  have HF : Hid (Rok r vc) := hf
  clear hf
  obtain ⟨S, hS⟩ : ∃ S, S = refS r n := ⟨_, rfl⟩
  rw [← hS]
  obtain ⟨PQ, hPQ⟩ : ∃ PQ : Ending → World → Prop, PQ = fun (e : Ending) (w' : World) => e = .returned (.int .i64 S) ∧ Below w.heap.size w w' := ⟨_, rfl⟩
  have HPQ : Hid (PQ = fun (e : Ending) (w' : World) => e = .returned (.int .i64 S) ∧ Below w.heap.size w w') := hPQ
  rw [← hPQ]
  clear hPQ
  by_cases h1 : r.gone = true
  · have HG : Hid (r.gone = true) := h1
    have HS : Hid (S = 213) := by rw [hS, refS, if_pos h1]; exact rfl
    clear hS h1
    have R0 : Hid (Loc w w []) := Loc.nil (Below.refl _ w)
    go_enter Try.func12, Try.ntmps12
    go_upto_region 0 with fail
    refine wp_region_lit ?_
    refine wl rfl (ptr w.heap.size) _ (run_boxA (.tmp 0) rfl (rcells r vc) rfl) ?_
    have k_ := R0.out.box 26 (rcells r vc)
    obtain ⟨w1, hW_⟩ : ∃ W, W = w.alloc (.cells (rcells r vc).toArray 26) := ⟨_, rfl⟩
    obtain ⟨q1, hq_⟩ : ∃ q, q = w.heap.size := ⟨_, rfl⟩
    rw [← hW_, ← hq_] at k_
    rw [← hW_, ← hq_]
    clear hq_
    have Rw1 : Hid (Loc w w1 [(q1, 26, rcells r vc)]) := k_
    clear k_ hW_ R0
    simp only [Act.put, List.setIfInBounds_toArray, List.set_cons_succ, List.set_cons_zero]
    refine wl rfl (.int .i64 0) _ (run_asZ (.const (.int .i64 0)) rfl (.int .i64 0) rfl) ?_
    simp only [Act.put, List.setIfInBounds_toArray, List.set_cons_succ, List.set_cons_zero]
    refine wpList_nil ?_
    go_upto_region 1 with fail
    refine wp_region_lit ?_
    refine wl rfl (.pointer (some ⟨q1, 0 + 37, none⟩)) _ (run_fieldOp' f26_6 (.tmp 2) rfl q1 (0) rfl) ?_
    simp only [Act.put, List.setIfInBounds_toArray, List.set_cons_succ, List.set_cons_zero]
    refine wl rfl (.bool true) _ (run_load1 o4 (.tmp 5) rfl q1 (0 + 37) rfl (.bool true) (Rw1.out.fld 0 rfl (HF.out).root 3 _ (by rw [← HG.out]; rfl))) ?_
    simp only [Act.put, List.setIfInBounds_toArray, List.set_cons_succ, List.set_cons_zero]
    refine wpList_nil ?_
    go_upto_region 2 with fail
    refine wp_region_lit ?_
    refine wl rfl (.int .i64 213) _ (run_asZ (.const (.int .i64 213)) rfl (.int .i64 213) rfl) ?_
    simp only [Act.put, List.setIfInBounds_toArray, List.set_cons_succ, List.set_cons_zero]
    refine wpList_nil ?_
    go_wp2_with fail
    first | (rw [HPQ.out, HS.out]; exact ⟨rfl, Rw1.out.below⟩) | (go_ret; rw [HPQ.out, HS.out]; exact ⟨rfl, Rw1.out.below⟩)
  have HG : Hid (r.gone = false) := eq_false_of_ne_true h1
  by_cases h2 : r.hold = true
  · have HQ : Hid (r.hold = true) := h2
    have HS : Hid (S = 214) := by rw [hS, refS, if_neg h1, if_pos h2]; exact rfl
    clear hS h1 h2
    have R0 : Hid (Loc w w []) := Loc.nil (Below.refl _ w)
    go_enter Try.func12, Try.ntmps12
    go_upto_region 0 with fail
    refine wp_region_lit ?_
    refine wl rfl (ptr w.heap.size) _ (run_boxA (.tmp 0) rfl (rcells r vc) rfl) ?_
    have k_ := R0.out.box 26 (rcells r vc)
    obtain ⟨w1, hW_⟩ : ∃ W, W = w.alloc (.cells (rcells r vc).toArray 26) := ⟨_, rfl⟩
    obtain ⟨q1, hq_⟩ : ∃ q, q = w.heap.size := ⟨_, rfl⟩
    rw [← hW_, ← hq_] at k_
    rw [← hW_, ← hq_]
    clear hq_
    have Rw1 : Hid (Loc w w1 [(q1, 26, rcells r vc)]) := k_
    clear k_ hW_ R0
    simp only [Act.put, List.setIfInBounds_toArray, List.set_cons_succ, List.set_cons_zero]
    refine wl rfl (.int .i64 0) _ (run_asZ (.const (.int .i64 0)) rfl (.int .i64 0) rfl) ?_
    simp only [Act.put, List.setIfInBounds_toArray, List.set_cons_succ, List.set_cons_zero]
    refine wpList_nil ?_
    go_upto_region 1 with fail
    refine wp_region_lit ?_
    refine wl rfl (.pointer (some ⟨q1, 0 + 37, none⟩)) _ (run_fieldOp' f26_6 (.tmp 2) rfl q1 (0) rfl) ?_
    simp only [Act.put, List.setIfInBounds_toArray, List.set_cons_succ, List.set_cons_zero]
    refine wl rfl (.bool false) _ (run_load1 o4 (.tmp 5) rfl q1 (0 + 37) rfl (.bool false) (Rw1.out.fld 0 rfl (HF.out).root 3 _ (by rw [← HG.out]; rfl))) ?_
    simp only [Act.put, List.setIfInBounds_toArray, List.set_cons_succ, List.set_cons_zero]
    refine wpList_nil ?_
    go_upto_region 3 with fail
    refine wp_region_lit ?_
    refine wl rfl (.pointer (some ⟨q1, 0 + 36, none⟩)) _ (run_fieldOp' f26_5 (.tmp 2) rfl q1 (0) rfl) ?_
    simp only [Act.put, List.setIfInBounds_toArray, List.set_cons_succ, List.set_cons_zero]
    refine wl rfl (.bool true) _ (run_load1 o4 (.tmp 7) rfl q1 (0 + 36) rfl (.bool true) (Rw1.out.fld 0 rfl (HF.out).root 2 _ (by rw [← HQ.out]; rfl))) ?_
    simp only [Act.put, List.setIfInBounds_toArray, List.set_cons_succ, List.set_cons_zero]
    refine wl rfl (.bool true) _ (run_mvZ (.tmp 8) rfl (.bool true) rfl) ?_
    simp only [Act.put, List.setIfInBounds_toArray, List.set_cons_succ, List.set_cons_zero]
    refine wpList_skip (by kernel_rfl) ?_
    simp only [Act.put, List.setIfInBounds_toArray, List.set_cons_succ, List.set_cons_zero]
    refine wpList_skip (by kernel_rfl) ?_
    simp only [Act.put, List.setIfInBounds_toArray, List.set_cons_succ, List.set_cons_zero]
    refine wpList_skip (by kernel_rfl) ?_
    simp only [Act.put, List.setIfInBounds_toArray, List.set_cons_succ, List.set_cons_zero]
    refine wpList_skip (by kernel_rfl) ?_
    simp only [Act.put, List.setIfInBounds_toArray, List.set_cons_succ, List.set_cons_zero]
    refine wl rfl (.bool true) _ (run_pickZ (.tmp 9) (.const (.bool true)) (.tmp 13) rfl true (.bool true) rfl rfl) ?_
    simp only [Act.put, List.setIfInBounds_toArray, List.set_cons_succ, List.set_cons_zero]
    refine wpList_nil ?_
    go_upto_region 4 with fail
    refine wp_region_lit ?_
    refine wl rfl (.int .i64 214) _ (run_asZ (.const (.int .i64 214)) rfl (.int .i64 214) rfl) ?_
    simp only [Act.put, List.setIfInBounds_toArray, List.set_cons_succ, List.set_cons_zero]
    refine wpList_nil ?_
    go_wp2_with fail
    first | (rw [HPQ.out, HS.out]; exact ⟨rfl, Rw1.out.below⟩) | (go_ret; rw [HPQ.out, HS.out]; exact ⟨rfl, Rw1.out.below⟩)
  have HQ : Hid (r.hold = false) := eq_false_of_ne_true h2
  by_cases h3 : n < r.expiry
  · have HC : Hid (decide (n < r.expiry) = true) := decide_eq_true h3
    have HS : Hid (S = 214) := by rw [hS, refS, if_neg h1, if_neg h2, if_pos h3]; exact rfl
    clear hS h1 h2 h3
    have R0 : Hid (Loc w w []) := Loc.nil (Below.refl _ w)
    go_enter Try.func12, Try.ntmps12
    go_upto_region 0 with fail
    refine wp_region_lit ?_
    refine wl rfl (ptr w.heap.size) _ (run_boxA (.tmp 0) rfl (rcells r vc) rfl) ?_
    have k_ := R0.out.box 26 (rcells r vc)
    obtain ⟨w1, hW_⟩ : ∃ W, W = w.alloc (.cells (rcells r vc).toArray 26) := ⟨_, rfl⟩
    obtain ⟨q1, hq_⟩ : ∃ q, q = w.heap.size := ⟨_, rfl⟩
    rw [← hW_, ← hq_] at k_
    rw [← hW_, ← hq_]
    clear hq_
    have Rw1 : Hid (Loc w w1 [(q1, 26, rcells r vc)]) := k_
    clear k_ hW_ R0
    simp only [Act.put, List.setIfInBounds_toArray, List.set_cons_succ, List.set_cons_zero]
    refine wl rfl (.int .i64 0) _ (run_asZ (.const (.int .i64 0)) rfl (.int .i64 0) rfl) ?_
    simp only [Act.put, List.setIfInBounds_toArray, List.set_cons_succ, List.set_cons_zero]
    refine wpList_nil ?_
    go_upto_region 1 with fail
    refine wp_region_lit ?_
    refine wl rfl (.pointer (some ⟨q1, 0 + 37, none⟩)) _ (run_fieldOp' f26_6 (.tmp 2) rfl q1 (0) rfl) ?_
    simp only [Act.put, List.setIfInBounds_toArray, List.set_cons_succ, List.set_cons_zero]
    refine wl rfl (.bool false) _ (run_load1 o4 (.tmp 5) rfl q1 (0 + 37) rfl (.bool false) (Rw1.out.fld 0 rfl (HF.out).root 3 _ (by rw [← HG.out]; rfl))) ?_
    simp only [Act.put, List.setIfInBounds_toArray, List.set_cons_succ, List.set_cons_zero]
    refine wpList_nil ?_
    go_upto_region 3 with fail
    refine wp_region_lit ?_
    refine wl rfl (.pointer (some ⟨q1, 0 + 36, none⟩)) _ (run_fieldOp' f26_5 (.tmp 2) rfl q1 (0) rfl) ?_
    simp only [Act.put, List.setIfInBounds_toArray, List.set_cons_succ, List.set_cons_zero]
    refine wl rfl (.bool false) _ (run_load1 o4 (.tmp 7) rfl q1 (0 + 36) rfl (.bool false) (Rw1.out.fld 0 rfl (HF.out).root 2 _ (by rw [← HQ.out]; rfl))) ?_
    simp only [Act.put, List.setIfInBounds_toArray, List.set_cons_succ, List.set_cons_zero]
    refine wl rfl (.bool false) _ (run_mvZ (.tmp 8) rfl (.bool false) rfl) ?_
    simp only [Act.put, List.setIfInBounds_toArray, List.set_cons_succ, List.set_cons_zero]
    refine wl (by kernel_rfl) (.pointer (some ⟨q1, 0 + 35, none⟩)) _ (run_fieldOp' f26_4 (.tmp 2) rfl q1 (0) rfl) ?_
    simp only [Act.put, List.setIfInBounds_toArray, List.set_cons_succ, List.set_cons_zero]
    refine wl (by kernel_rfl) (.int .i64 r.expiry) _ (run_load1 o3 (.tmp 10) rfl q1 (0 + 35) rfl (.int .i64 r.expiry) (Rw1.out.fld 0 rfl (HF.out).root 1 _ rfl)) ?_
    simp only [Act.put, List.setIfInBounds_toArray, List.set_cons_succ, List.set_cons_zero]
    refine wl (by kernel_rfl) (.int .i64 n) _ (run_mvZ (.tmp 1) rfl (.int .i64 n) rfl) ?_
    simp only [Act.put, List.setIfInBounds_toArray, List.set_cons_succ, List.set_cons_zero]
    refine wl (by kernel_rfl) (.bool true) _ (run_gtrZ (.tmp 11) (.tmp 12) rfl r.expiry n rfl rfl true HC.out) ?_
    simp only [Act.put, List.setIfInBounds_toArray, List.set_cons_succ, List.set_cons_zero]
    refine wl rfl (.bool true) _ (run_pickZ (.tmp 9) (.const (.bool true)) (.tmp 13) rfl false (.bool true) rfl rfl) ?_
    simp only [Act.put, List.setIfInBounds_toArray, List.set_cons_succ, List.set_cons_zero]
    refine wpList_nil ?_
    go_upto_region 4 with fail
    refine wp_region_lit ?_
    refine wl rfl (.int .i64 214) _ (run_asZ (.const (.int .i64 214)) rfl (.int .i64 214) rfl) ?_
    simp only [Act.put, List.setIfInBounds_toArray, List.set_cons_succ, List.set_cons_zero]
    refine wpList_nil ?_
    go_wp2_with fail
    first | (rw [HPQ.out, HS.out]; exact ⟨rfl, Rw1.out.below⟩) | (go_ret; rw [HPQ.out, HS.out]; exact ⟨rfl, Rw1.out.below⟩)
  have HC : Hid (decide (n < r.expiry) = false) := decide_eq_false h3
  have HS : Hid (S = 0) := by rw [hS, refS, if_neg h1, if_neg h2, if_neg h3]; exact rfl
  clear hS h1 h2 h3
  have R0 : Hid (Loc w w []) := Loc.nil (Below.refl _ w)
  go_enter Try.func12, Try.ntmps12
  go_upto_region 0 with fail
  refine wp_region_lit ?_
  refine wl rfl (ptr w.heap.size) _ (run_boxA (.tmp 0) rfl (rcells r vc) rfl) ?_
  have k_ := R0.out.box 26 (rcells r vc)
  obtain ⟨w1, hW_⟩ : ∃ W, W = w.alloc (.cells (rcells r vc).toArray 26) := ⟨_, rfl⟩
  obtain ⟨q1, hq_⟩ : ∃ q, q = w.heap.size := ⟨_, rfl⟩
  rw [← hW_, ← hq_] at k_
  rw [← hW_, ← hq_]
  clear hq_
  have Rw1 : Hid (Loc w w1 [(q1, 26, rcells r vc)]) := k_
  clear k_ hW_ R0
  simp only [Act.put, List.setIfInBounds_toArray, List.set_cons_succ, List.set_cons_zero]
  refine wl rfl (.int .i64 0) _ (run_asZ (.const (.int .i64 0)) rfl (.int .i64 0) rfl) ?_
  simp only [Act.put, List.setIfInBounds_toArray, List.set_cons_succ, List.set_cons_zero]
  refine wpList_nil ?_
  go_upto_region 1 with fail
  refine wp_region_lit ?_
  refine wl rfl (.pointer (some ⟨q1, 0 + 37, none⟩)) _ (run_fieldOp' f26_6 (.tmp 2) rfl q1 (0) rfl) ?_
  simp only [Act.put, List.setIfInBounds_toArray, List.set_cons_succ, List.set_cons_zero]
  refine wl rfl (.bool false) _ (run_load1 o4 (.tmp 5) rfl q1 (0 + 37) rfl (.bool false) (Rw1.out.fld 0 rfl (HF.out).root 3 _ (by rw [← HG.out]; rfl))) ?_
  simp only [Act.put, List.setIfInBounds_toArray, List.set_cons_succ, List.set_cons_zero]
  refine wpList_nil ?_
  go_upto_region 3 with fail
  refine wp_region_lit ?_
  refine wl rfl (.pointer (some ⟨q1, 0 + 36, none⟩)) _ (run_fieldOp' f26_5 (.tmp 2) rfl q1 (0) rfl) ?_
  simp only [Act.put, List.setIfInBounds_toArray, List.set_cons_succ, List.set_cons_zero]
  refine wl rfl (.bool false) _ (run_load1 o4 (.tmp 7) rfl q1 (0 + 36) rfl (.bool false) (Rw1.out.fld 0 rfl (HF.out).root 2 _ (by rw [← HQ.out]; rfl))) ?_
  simp only [Act.put, List.setIfInBounds_toArray, List.set_cons_succ, List.set_cons_zero]
  refine wl rfl (.bool false) _ (run_mvZ (.tmp 8) rfl (.bool false) rfl) ?_
  simp only [Act.put, List.setIfInBounds_toArray, List.set_cons_succ, List.set_cons_zero]
  refine wl (by kernel_rfl) (.pointer (some ⟨q1, 0 + 35, none⟩)) _ (run_fieldOp' f26_4 (.tmp 2) rfl q1 (0) rfl) ?_
  simp only [Act.put, List.setIfInBounds_toArray, List.set_cons_succ, List.set_cons_zero]
  refine wl (by kernel_rfl) (.int .i64 r.expiry) _ (run_load1 o3 (.tmp 10) rfl q1 (0 + 35) rfl (.int .i64 r.expiry) (Rw1.out.fld 0 rfl (HF.out).root 1 _ rfl)) ?_
  simp only [Act.put, List.setIfInBounds_toArray, List.set_cons_succ, List.set_cons_zero]
  refine wl (by kernel_rfl) (.int .i64 n) _ (run_mvZ (.tmp 1) rfl (.int .i64 n) rfl) ?_
  simp only [Act.put, List.setIfInBounds_toArray, List.set_cons_succ, List.set_cons_zero]
  refine wl (by kernel_rfl) (.bool false) _ (run_gtrZ (.tmp 11) (.tmp 12) rfl r.expiry n rfl rfl false HC.out) ?_
  simp only [Act.put, List.setIfInBounds_toArray, List.set_cons_succ, List.set_cons_zero]
  refine wl rfl (.bool false) _ (run_pickZ (.tmp 9) (.const (.bool true)) (.tmp 13) rfl false (.bool false) rfl rfl) ?_
  simp only [Act.put, List.setIfInBounds_toArray, List.set_cons_succ, List.set_cons_zero]
  refine wpList_nil ?_
  go_upto_region 5 with fail
  refine wp_region_lit ?_
  refine wl rfl (.int .i64 0) _ (run_asZ (.const (.int .i64 0)) rfl (.int .i64 0) rfl) ?_
  simp only [Act.put, List.setIfInBounds_toArray, List.set_cons_succ, List.set_cons_zero]
  refine wpList_nil ?_
  go_wp2_with fail
  first | (rw [HPQ.out, HS.out]; exact ⟨rfl, Rw1.out.below⟩) | (go_ret; rw [HPQ.out, HS.out]; exact ⟨rfl, Rw1.out.below⟩)
set_option maxHeartbeats 4000000 in
set_option maxRecDepth 100000 in
theorem delete_any (r : Rc) (vc : Value) (n : Int) (w : World) (hf : Fits w r vc) (hz : r.cp.length * 32 ≤ 140737488355328) : Calls Try.prog 8 #[.agg (rcells r vc).toArray, .int .i64 n] w fun e w' => ∃ v', e = .returned (.tuple #[.agg (rcells (delS r n).1 v').toArray, .int .i64 (delS r n).2]) ∧ Below w.heap.size w w' ∧ POwn w' w.heap.size v' (delS r n).1.cp := by
  have HF : Hid (Fits w r vc ∧ r.cp.length * 32 ≤ 140737488355328) := ⟨hf, hz⟩
  clear hf hz
  obtain ⟨S, hS⟩ : ∃ S, S = delS r n := ⟨_, rfl⟩
  rw [← hS]
  obtain ⟨PQ, hPQ⟩ : ∃ PQ : Ending → World → Prop, PQ = fun (e : Ending) (w' : World) => ∃ v', e = .returned (.tuple #[.agg (rcells S.1 v').toArray, .int .i64 S.2]) ∧ Below w.heap.size w w' ∧ POwn w' w.heap.size v' S.1.cp := ⟨_, rfl⟩
  have HPQ : Hid (PQ = fun (e : Ending) (w' : World) => ∃ v', e = .returned (.tuple #[.agg (rcells S.1 v').toArray, .int .i64 S.2]) ∧ Below w.heap.size w w' ∧ POwn w' w.heap.size v' S.1.cp) := hPQ
  rw [← hPQ]
  clear hPQ
  obtain ⟨er, her⟩ : ∃ er, er = refS r n := ⟨_, rfl⟩
  rw [delS, ← her] at hS
  have HCall : Hid (∀ W, Calls Try.prog 12 #[.agg (rcells r vc).toArray, .int .i64 n] W fun e w' => e = .returned (.int .i64 er) ∧ Below W.heap.size W w') := by rw [her]; exact fun W => refusal_any r vc n W HF.out.1.rok
  by_cases h1 : er = 0
  · have HC : Hid ((!decide (er = 0)) = false) := by subst h1; exact rfl
    have HS : Hid (S = ({ r with gone := true, cp := [] }, 0)) := by rw [hS, if_pos h1]; exact rfl
    clear hS h1 her
    have R0 : Hid (Loc w w []) := Loc.nil (Below.refl _ w)
    go_enter Try.func8, Try.ntmps8
    go_upto_region 0 with fail
    refine wp_region_lit ?_
    refine wl rfl (ptr w.heap.size) _ (run_boxA (.tmp 0) rfl (rcells r vc) rfl) ?_
    have k_ := R0.out.box 26 (rcells r vc)
    obtain ⟨w1, hW_⟩ : ∃ W, W = w.alloc (.cells (rcells r vc).toArray 26) := ⟨_, rfl⟩
    obtain ⟨q1, hq_⟩ : ∃ q, q = w.heap.size := ⟨_, rfl⟩
    rw [← hW_, ← hq_] at k_
    rw [← hW_, ← hq_]
    clear hq_
    have Rw1 : Hid (Loc w w1 [(q1, 26, rcells r vc)]) := k_
    clear k_ hW_ R0
    simp only [Act.put, List.setIfInBounds_toArray, List.set_cons_succ, List.set_cons_zero]
    refine wl rfl (ptr w1.heap.size) _ (run_allocA (rcells rz (.slice none 0 0)) zero26 rfl) ?_
    have k_ := Rw1.out.box 26 (rcells rz (.slice none 0 0))
    have hB_ := below_alloc w1 (.cells (rcells rz (.slice none 0 0)).toArray 26)
    obtain ⟨w2, hW_⟩ : ∃ U_ : World, U_ = w1.alloc (.cells (rcells rz (.slice none 0 0)).toArray 26) := ⟨_, rfl⟩
    obtain ⟨q2, hq_⟩ : ∃ q, q = w1.heap.size := ⟨_, rfl⟩
    rw [← hW_, ← hq_] at k_
    rw [← hW_] at hB_
    rw [← hW_, ← hq_]
    clear hq_
    have Rw2 : Hid (Loc w w2 [(q1, 26, rcells r vc), (q2, 26, rcells rz (.slice none 0 0))]) := k_
    clear k_ hW_ Rw1
    clear hB_
    simp only [Act.put, List.setIfInBounds_toArray, List.set_cons_succ, List.set_cons_zero]
    refine wl rfl (.int .i64 0) _ (run_asZ (.const (.int .i64 0)) rfl (.int .i64 0) rfl) ?_
    simp only [Act.put, List.setIfInBounds_toArray, List.set_cons_succ, List.set_cons_zero]
    refine wpList_nil ?_
    go_upto_region 1 with fail
    refine wp_region_lit ?_
    refine wl rfl (.agg (rcells r vc).toArray) _ (run_loadA ag26 (.tmp 2) rfl q1 (0) rfl (rcells r vc) (HF.out.1.rok).len (Rw2.out.rows 0 rfl)) ?_
    simp only [Act.put, List.setIfInBounds_toArray, List.set_cons_succ, List.set_cons_zero]
    refine wl rfl (.int .i64 n) _ (run_mvZ (.tmp 1) rfl (.int .i64 n) rfl) ?_
    simp only [Act.put, List.setIfInBounds_toArray, List.set_cons_succ, List.set_cons_zero]
    refine wpList_callW eN24 [.tmp 7, .tmp 8] _ rfl rfl [(.agg (rcells r vc).toArray), (.int .i64 n)] rfl ?_
    refine (HCall.out w2).mono ?_
    rintro e w3 ⟨rfl, b_⟩
    refine ⟨_, rfl, ?_⟩
    have Rw3 : Hid (Loc w w3 [(q1, 26, rcells r vc), (q2, 26, rcells rz (.slice none 0 0))]) := Rw2.out.later b_
    clear Rw2 b_
    simp only [Act.put, List.setIfInBounds_toArray, List.set_cons_succ, List.set_cons_zero]
    refine wl rfl (.int .i64 er) _ (run_asZ (.tmp 9) rfl (.int .i64 er) rfl) ?_
    simp only [Act.put, List.setIfInBounds_toArray, List.set_cons_succ, List.set_cons_zero]
    refine wpList_nil ?_
    go_upto_region 2 with fail
    refine wp_region_lit ?_
    refine wl rfl (.int .i64 er) _ (run_mvZ (.tmp 6) rfl (.int .i64 er) rfl) ?_
    simp only [Act.put, List.setIfInBounds_toArray, List.set_cons_succ, List.set_cons_zero]
    refine wl rfl (.bool false) _ (run_neZ (.tmp 10) (.const (.int .i64 0)) rfl er 0 rfl rfl false HC.out) ?_
    simp only [Act.put, List.setIfInBounds_toArray, List.set_cons_succ, List.set_cons_zero]
    refine wpList_nil ?_
    go_upto_region 4 with fail
    refine wp_region_lit ?_
    refine wl rfl (.pointer (some ⟨q1, 0 + 37, none⟩)) _ (run_fieldOp' f26_6 (.tmp 2) rfl q1 (0) rfl) ?_
    simp only [Act.put, List.setIfInBounds_toArray, List.set_cons_succ, List.set_cons_zero]
    obtain ⟨k_, hC_⟩ := Rw3.out.putf 0 rfl 37 (.bool true) (rcells { r with gone := true } vc) (set37 r vc HF.out.1.root _)
    have hR_ := Rw3.out.at 0 rfl
    refine wlS rfl rfl _ (run_putRow s4 (.tmp 14) (.const (.bool true)) rfl q1 (0 + 37) 26 (rcells r vc) rfl (.bool true) rfl ⟨rfl, rfl⟩ hR_ (by rw [(HF.out.1.rok).len]; decide)) ?_
    obtain ⟨w4, hW_⟩ : ∃ U_ : World, U_ = w3.setCell ⟨q1, 0 + 37, none⟩ (.bool true) := ⟨_, rfl⟩
    rw [← hW_] at k_ hC_ ⊢
    have Rw4 : Hid (Loc w w4 [(q1, 26, rcells { r with gone := true } vc), (q2, 26, rcells rz (.slice none 0 0))]) := k_
    clear k_ hW_ Rw3
    clear hC_ hR_
    refine wl rfl (.pointer (some ⟨q1, 0 + 38, none⟩)) _ (run_fieldOp' f26_7 (.tmp 2) rfl q1 (0) rfl) ?_
    simp only [Act.put, List.setIfInBounds_toArray, List.set_cons_succ, List.set_cons_zero]
    obtain ⟨k_, hC_⟩ := Rw4.out.putf 0 rfl 38 (.slice none 0 0) (rcells { r with gone := true, cp := [] } (.slice none 0 0)) (set38 { r with gone := true } vc (.slice none 0 0) HF.out.1.root [])
    have hR_ := Rw4.out.at 0 rfl
    refine wlS rfl rfl _ (run_putRow s24 (.tmp 15) (.const (.slice none 0 0)) rfl q1 (0 + 38) 26 (rcells { r with gone := true } vc) rfl (.slice none 0 0) rfl ⟨rfl, rfl⟩ hR_ (by rw [(HF.out.1.rok.gone _).len]; decide)) ?_
    obtain ⟨w5, hW_⟩ : ∃ U_ : World, U_ = w4.setCell ⟨q1, 0 + 38, none⟩ (.slice none 0 0) := ⟨_, rfl⟩
    rw [← hW_] at k_ hC_ ⊢
    have Rw5 : Hid (Loc w w5 [(q1, 26, rcells { r with gone := true, cp := [] } (.slice none 0 0)), (q2, 26, rcells rz (.slice none 0 0))]) := k_
    clear k_ hW_ Rw4
    clear hC_ hR_
    refine wpList_nil ?_
    go_upto_region 5 with fail
    refine wp_region_lit ?_
    refine wl rfl (.agg (rcells { r with gone := true, cp := [] } (.slice none 0 0)).toArray) _ (run_loadA ag26 (.tmp 2) rfl q1 (0) rfl (rcells { r with gone := true, cp := [] } (.slice none 0 0)) (HF.out.1.rok.del).len (Rw5.out.rows 0 rfl)) ?_
    simp only [Act.put, List.setIfInBounds_toArray, List.set_cons_succ, List.set_cons_zero]
    obtain ⟨hst_, k_, hC_⟩ := Rw5.out.st26 1 rfl (Rok.nil).len (rcells { r with gone := true, cp := [] } (.slice none 0 0)) (HF.out.1.rok.del).len (HF.out.1.rok.del).one
    have hR_ := Rw5.out.at 1 rfl
    refine wlS rfl rfl _ (run_stV (.tmp 4) (.tmp 16) rfl q2 0 rfl _ rfl hst_) ?_
    obtain ⟨w6, hW_⟩ : ∃ U_ : World, U_ = w5.setRow q2 (rcells { r with gone := true, cp := [] } (.slice none 0 0)).toArray := ⟨_, rfl⟩
    rw [← hW_] at k_ hC_ ⊢
    clear hst_
    have Rw6 : Hid (Loc w w6 [(q1, 26, rcells { r with gone := true, cp := [] } (.slice none 0 0)), (q2, 26, rcells { r with gone := true, cp := [] } (.slice none 0 0))]) := k_
    clear k_ hW_ Rw5
    clear hC_ hR_
    refine wl rfl (.int .i64 0) _ (run_asZ (.const (.int .i64 0)) rfl (.int .i64 0) rfl) ?_
    simp only [Act.put, List.setIfInBounds_toArray, List.set_cons_succ, List.set_cons_zero]
    refine wpList_nil ?_
    go_wp2_with fail
    rw [HPQ.out, HS.out]
    exact bodyPost_ret (results_cell_tmp ag26 Try.results8 _ _ q2 26 rfl (rcells { r with gone := true, cp := [] } (.slice none 0 0)) (HF.out.1.rok.del).len (Rw6.out.at 1 rfl)) rfl ⟨(.slice none 0 0), rfl, Rw6.out.below, POwn.nil _ _⟩
  have HC : Hid ((!decide (er = 0)) = true) := by rw [decide_eq_false h1]; exact rfl
  have HS : Hid (S = (rz, er)) := by rw [hS, if_neg h1]; exact rfl
  clear hS h1 her
  have R0 : Hid (Loc w w []) := Loc.nil (Below.refl _ w)
  go_enter Try.func8, Try.ntmps8
  go_upto_region 0 with fail
  refine wp_region_lit ?_
  refine wl rfl (ptr w.heap.size) _ (run_boxA (.tmp 0) rfl (rcells r vc) rfl) ?_
  have k_ := R0.out.box 26 (rcells r vc)
  obtain ⟨w1, hW_⟩ : ∃ W, W = w.alloc (.cells (rcells r vc).toArray 26) := ⟨_, rfl⟩
  obtain ⟨q1, hq_⟩ : ∃ q, q = w.heap.size := ⟨_, rfl⟩
  rw [← hW_, ← hq_] at k_
  rw [← hW_, ← hq_]
  clear hq_
  have Rw1 : Hid (Loc w w1 [(q1, 26, rcells r vc)]) := k_
  clear k_ hW_ R0
  simp only [Act.put, List.setIfInBounds_toArray, List.set_cons_succ, List.set_cons_zero]
  refine wl rfl (ptr w1.heap.size) _ (run_allocA (rcells rz (.slice none 0 0)) zero26 rfl) ?_
  have k_ := Rw1.out.box 26 (rcells rz (.slice none 0 0))
  have hB_ := below_alloc w1 (.cells (rcells rz (.slice none 0 0)).toArray 26)
  obtain ⟨w2, hW_⟩ : ∃ U_ : World, U_ = w1.alloc (.cells (rcells rz (.slice none 0 0)).toArray 26) := ⟨_, rfl⟩
  obtain ⟨q2, hq_⟩ : ∃ q, q = w1.heap.size := ⟨_, rfl⟩
  rw [← hW_, ← hq_] at k_
  rw [← hW_] at hB_
  rw [← hW_, ← hq_]
  clear hq_
  have Rw2 : Hid (Loc w w2 [(q1, 26, rcells r vc), (q2, 26, rcells rz (.slice none 0 0))]) := k_
  clear k_ hW_ Rw1
  clear hB_
  simp only [Act.put, List.setIfInBounds_toArray, List.set_cons_succ, List.set_cons_zero]
  refine wl rfl (.int .i64 0) _ (run_asZ (.const (.int .i64 0)) rfl (.int .i64 0) rfl) ?_
  simp only [Act.put, List.setIfInBounds_toArray, List.set_cons_succ, List.set_cons_zero]
  refine wpList_nil ?_
  go_upto_region 1 with fail
  refine wp_region_lit ?_
  refine wl rfl (.agg (rcells r vc).toArray) _ (run_loadA ag26 (.tmp 2) rfl q1 (0) rfl (rcells r vc) (HF.out.1.rok).len (Rw2.out.rows 0 rfl)) ?_
  simp only [Act.put, List.setIfInBounds_toArray, List.set_cons_succ, List.set_cons_zero]
  refine wl rfl (.int .i64 n) _ (run_mvZ (.tmp 1) rfl (.int .i64 n) rfl) ?_
  simp only [Act.put, List.setIfInBounds_toArray, List.set_cons_succ, List.set_cons_zero]
  refine wpList_callW eN24 [.tmp 7, .tmp 8] _ rfl rfl [(.agg (rcells r vc).toArray), (.int .i64 n)] rfl ?_
  refine (HCall.out w2).mono ?_
  rintro e w3 ⟨rfl, b_⟩
  refine ⟨_, rfl, ?_⟩
  have Rw3 : Hid (Loc w w3 [(q1, 26, rcells r vc), (q2, 26, rcells rz (.slice none 0 0))]) := Rw2.out.later b_
  clear Rw2 b_
  simp only [Act.put, List.setIfInBounds_toArray, List.set_cons_succ, List.set_cons_zero]
  refine wl rfl (.int .i64 er) _ (run_asZ (.tmp 9) rfl (.int .i64 er) rfl) ?_
  simp only [Act.put, List.setIfInBounds_toArray, List.set_cons_succ, List.set_cons_zero]
  refine wpList_nil ?_
  go_upto_region 2 with fail
  refine wp_region_lit ?_
  refine wl rfl (.int .i64 er) _ (run_mvZ (.tmp 6) rfl (.int .i64 er) rfl) ?_
  simp only [Act.put, List.setIfInBounds_toArray, List.set_cons_succ, List.set_cons_zero]
  refine wl rfl (.bool true) _ (run_neZ (.tmp 10) (.const (.int .i64 0)) rfl er 0 rfl rfl true HC.out) ?_
  simp only [Act.put, List.setIfInBounds_toArray, List.set_cons_succ, List.set_cons_zero]
  refine wpList_nil ?_
  go_upto_region 3 with fail
  refine wp_region_lit ?_
  refine wl rfl (.agg (rcells rz (.slice none 0 0)).toArray) _ (run_bld26 rfl) ?_
  simp only [Act.put, List.setIfInBounds_toArray, List.set_cons_succ, List.set_cons_zero]
  refine wl rfl (.int .i64 er) _ (run_mvZ (.tmp 6) rfl (.int .i64 er) rfl) ?_
  simp only [Act.put, List.setIfInBounds_toArray, List.set_cons_succ, List.set_cons_zero]
  obtain ⟨hst_, k_, hC_⟩ := Rw3.out.st26 1 rfl (Rok.nil).len (rcells rz (.slice none 0 0)) (Rok.nil).len (Rok.nil).one
  have hR_ := Rw3.out.at 1 rfl
  refine wlS rfl rfl _ (run_stV (.tmp 4) (.tmp 12) rfl q2 0 rfl _ rfl hst_) ?_
  obtain ⟨we, hW_⟩ : ∃ U_ : World, U_ = w3.setRow q2 (rcells rz (.slice none 0 0)).toArray := ⟨_, rfl⟩
  rw [← hW_] at k_ hC_ ⊢
  clear hst_
  have Rwe : Hid (Loc w we [(q1, 26, rcells r vc), (q2, 26, rcells rz (.slice none 0 0))]) := k_
  clear k_ hW_ Rw3
  clear hC_ hR_
  refine wl rfl (.int .i64 er) _ (run_asZ (.tmp 13) rfl (.int .i64 er) rfl) ?_
  simp only [Act.put, List.setIfInBounds_toArray, List.set_cons_succ, List.set_cons_zero]
  refine wpList_nil ?_
  go_wp2_with fail
  rw [HPQ.out, HS.out]
  exact bodyPost_ret (results_cell_tmp ag26 Try.results8 _ _ q2 26 rfl (rcells rz (.slice none 0 0)) (Rok.nil).len (Rwe.out.at 1 rfl)) rfl ⟨(.slice none 0 0), rfl, Rwe.out.below, POwn.nil _ _⟩
/-- which of three -/
def kindS (n : Int) : Int := (if n < 0 then -(n + 1) else n) % 3
end Go.Proofs.Ytobolkllplmmcab

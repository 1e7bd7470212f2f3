/- Records with places of their own. -/
import Derived.Test.YtobolkllplmmcabT0
namespace Go.Proofs.Ytobolkllplmmcab
open Go.RowKit

set_option maxHeartbeats 4000000 in
set_option maxRecDepth 100000 in
theorem apart_any (r : Rc) (vc : Value) (w : World) (hf : Fits w r vc) (hz : r.cp.length * 32 ≤ 140737488355328) : Calls Try.prog 11 #[.agg (rcells r vc).toArray] w fun e w' => ∃ v', e = .returned (.agg (rcells r v').toArray) ∧ Below w.heap.size w w' ∧ POwn w' w.heap.size v' r.cp := by
  have HF : Hid (Fits w r vc ∧ r.cp.length * 32 ≤ 140737488355328) := ⟨hf, hz⟩
  clear hf hz
  obtain ⟨PQ, hPQ⟩ : ∃ PQ : Ending → World → Prop, PQ = fun (e : Ending) (w' : World) => ∃ v', e = .returned (.agg (rcells r v').toArray) ∧ Below w.heap.size w w' ∧ POwn w' w.heap.size v' r.cp := ⟨_, rfl⟩
  have HPQ : Hid (PQ = fun (e : Ending) (w' : World) => ∃ v', e = .returned (.agg (rcells r v').toArray) ∧ Below w.heap.size w w' ∧ POwn w' w.heap.size v' r.cp) := hPQ
  rw [← hPQ]
  clear hPQ
  have R0 : Hid (Loc w w []) := Loc.nil (Below.refl _ w)
  go_enter Try.func11, Try.ntmps11
  go_upto_region 0 with fail
  refine wp_region_lit ?_
  refine wl rfl (ptr w.heap.size) _ (run_boxA (.tmp 0) rfl (rcells r vc) rfl) ?_
  have k_ := R0.out.box 26 (rcells r vc)
  obtain ⟨w1, hW_⟩ : ∃ W, W = w.alloc (.cells (rcells r vc).toArray 26) := ⟨_, rfl⟩
  obtain ⟨q1, hq_⟩ : ∃ q, q = w.heap.size := ⟨_, rfl⟩
  rw [← hW_, ← hq_] at k_
  rw [← hW_, ← hq_]
  clear hq_
  have Rw1 : Hid (Loc w w1 [(q1, 26, rcells r vc)]) := k_
  clear k_ hW_ R0
  simp only [Act.put, List.setIfInBounds_toArray, List.set_cons_succ, List.set_cons_zero]
  refine wl rfl (ptr w1.heap.size) _ (run_allocA (rcells rz (.slice none 0 0)) zero26 rfl) ?_
  have k_ := Rw1.out.box 26 (rcells rz (.slice none 0 0))
  have hB_ := below_alloc w1 (.cells (rcells rz (.slice none 0 0)).toArray 26)
  obtain ⟨w2, hW_⟩ : ∃ U_ : World, U_ = w1.alloc (.cells (rcells rz (.slice none 0 0)).toArray 26) := ⟨_, rfl⟩
  obtain ⟨q2, hq_⟩ : ∃ q, q = w1.heap.size := ⟨_, rfl⟩
  rw [← hW_, ← hq_] at k_
  rw [← hW_] at hB_
  rw [← hW_, ← hq_]
  clear hq_
  have Rw2 : Hid (Loc w w2 [(q1, 26, rcells r vc), (q2, 26, rcells rz (.slice none 0 0))]) := k_
  clear k_ hW_ Rw1
  clear hB_
  simp only [Act.put, List.setIfInBounds_toArray, List.set_cons_succ, List.set_cons_zero]
  refine wpList_nil ?_
  have HO : Hid (POwn w2 w.heap.size (.slice none 0 0) []) := POwn.nil _ _
  go_upto_region 1 with fail
  refine wp_region_lit ?_
  refine wl rfl (.pointer (some ⟨q1, 0 + 38, none⟩)) _ (run_fieldOp' f26_7 (.tmp 1) rfl q1 (0) rfl) ?_
  simp only [Act.put, List.setIfInBounds_toArray, List.set_cons_succ, List.set_cons_zero]
  refine wl rfl vc _ (run_load1 o24 (.tmp 3) rfl q1 (0 + 38) rfl vc (Rw2.out.fld 0 rfl (HF.out.1.rok).root 4 _ rfl)) ?_
  simp only [Act.put, List.setIfInBounds_toArray, List.set_cons_succ, List.set_cons_zero]
  obtain ⟨v1, w4, hr_, o_, g_⟩ := run_pappI w.heap.size 24 (.slice none 0 0) vc [] r.cp HO.out (HF.out.1.cp.later Rw2.out.below) (by have := HF.out.2; simpa using this) Rw2.out.below.size
  refine wl rfl v1 _ (run_append (.const (.slice none 0 0)) (.tmp 4) rfl (.slice none 0 0) vc v1 rfl rfl hr_) ?_
  have R4 : Hid (Loc w w4 [(q1, 26, rcells r vc), (q2, 26, rcells rz (.slice none 0 0))]) := Rw2.out.grow HO.out g_ (Nat.le_refl _) rfl
  clear Rw2 hr_ g_ HO
  have HO : Hid (POwn w4 w.heap.size v1 r.cp) := o_
  clear o_
  simp only [Act.put, List.setIfInBounds_toArray, List.set_cons_succ, List.set_cons_zero]
  refine wl rfl (.pointer (some ⟨q1, 0 + 38, none⟩)) _ (run_fieldOp' f26_7 (.tmp 1) rfl q1 (0) rfl) ?_
  simp only [Act.put, List.setIfInBounds_toArray, List.set_cons_succ, List.set_cons_zero]
  obtain ⟨k_, hC_⟩ := R4.out.putf 0 rfl 38 v1 (rcells r v1) (set38 r vc v1 HF.out.1.root r.cp)
  have hR_ := R4.out.at 0 rfl
  refine wlS rfl rfl _ (run_putRow s24 (.tmp 6) (.tmp 5) rfl q1 (0 + 38) 26 (rcells r vc) rfl v1 rfl (slice_one HO.out.isSl) hR_ (by rw [(HF.out.1.rok).len]; decide)) ?_
  obtain ⟨w5, hW_⟩ : ∃ U_ : World, U_ = w4.setCell ⟨q1, 0 + 38, none⟩ v1 := ⟨_, rfl⟩
  rw [← hW_] at k_ hC_ ⊢
  have HOx : Hid (POwn w5 w.heap.size v1 r.cp) := HO.out.off hR_ (by decide) hC_
  clear HO
  have HO := HOx
  clear HOx
  have Rw5 : Hid (Loc w w5 [(q1, 26, rcells r v1), (q2, 26, rcells rz (.slice none 0 0))]) := k_
  clear k_ hW_ R4
  clear hC_ hR_
  refine wpList_nil ?_
  go_upto_region 2 with fail
  refine wp_region_lit ?_
  refine wl rfl (.agg (rcells r v1).toArray) _ (run_loadA ag26 (.tmp 1) rfl q1 (0) rfl (rcells r v1) ((HF.out.1.rok.cp HO.out.isSl)).len (Rw5.out.rows 0 rfl)) ?_
  simp only [Act.put, List.setIfInBounds_toArray, List.set_cons_succ, List.set_cons_zero]
  obtain ⟨hst_, k_, hC_⟩ := Rw5.out.st26 1 rfl (Rok.nil).len (rcells r v1) ((HF.out.1.rok.cp HO.out.isSl)).len ((HF.out.1.rok.cp HO.out.isSl)).one
  have hR_ := Rw5.out.at 1 rfl
  refine wlS rfl rfl _ (run_stV (.tmp 2) (.tmp 7) rfl q2 0 rfl _ rfl hst_) ?_
  obtain ⟨w6, hW_⟩ : ∃ U_ : World, U_ = w5.setRow q2 (rcells r v1).toArray := ⟨_, rfl⟩
  rw [← hW_] at k_ hC_ ⊢
  clear hst_
  have HOx : Hid (POwn w6 w.heap.size v1 r.cp) := HO.out.off hR_ (by decide) hC_
  clear HO
  have HO := HOx
  clear HOx
  have Rw6 : Hid (Loc w w6 [(q1, 26, rcells r v1), (q2, 26, rcells r v1)]) := k_
  clear k_ hW_ Rw5
  clear hC_ hR_
  refine wpList_nil ?_
  go_wp2_with fail
  rw [HPQ.out]
  exact bodyPost_ret (results_cell ag26 Try.results11 _ _ q2 26 rfl (rcells r v1) (HF.out.1.rok.cp HO.out.isSl).len (Rw6.out.at 1 rfl)) rfl ⟨v1, rfl, Rw6.out.below, HO.out⟩
set_option maxHeartbeats 4000000 in
set_option maxRecDepth 100000 in
theorem copied_any (r : Rc) (vc : Value) (w : World) (hf : Fits w r vc) (hz : r.cp.length * 32 ≤ 140737488355328) : Calls Try.prog 5 #[.agg (rcells r vc).toArray] w fun e w' => ∃ v', e = .returned (.agg (rcells r v').toArray) ∧ Below w.heap.size w w' ∧ POwn w' w.heap.size v' r.cp := by
  have HF : Hid (Fits w r vc ∧ r.cp.length * 32 ≤ 140737488355328) := ⟨hf, hz⟩
  clear hf hz
  obtain ⟨PQ, hPQ⟩ : ∃ PQ : Ending → World → Prop, PQ = fun (e : Ending) (w' : World) => ∃ v', e = .returned (.agg (rcells r v').toArray) ∧ Below w.heap.size w w' ∧ POwn w' w.heap.size v' r.cp := ⟨_, rfl⟩
  have HPQ : Hid (PQ = fun (e : Ending) (w' : World) => ∃ v', e = .returned (.agg (rcells r v').toArray) ∧ Below w.heap.size w w' ∧ POwn w' w.heap.size v' r.cp) := hPQ
  rw [← hPQ]
  clear hPQ
  have R0 : Hid (Loc w w []) := Loc.nil (Below.refl _ w)
  go_enter Try.func5, Try.ntmps5
  go_upto_region 0 with fail
  refine wp_region_lit ?_
  refine wl rfl (ptr w.heap.size) _ (run_boxA (.tmp 0) rfl (rcells r vc) rfl) ?_
  have k_ := R0.out.box 26 (rcells r vc)
  obtain ⟨w1, hW_⟩ : ∃ W, W = w.alloc (.cells (rcells r vc).toArray 26) := ⟨_, rfl⟩
  obtain ⟨q1, hq_⟩ : ∃ q, q = w.heap.size := ⟨_, rfl⟩
  rw [← hW_, ← hq_] at k_
  rw [← hW_, ← hq_]
  clear hq_
  have Rw1 : Hid (Loc w w1 [(q1, 26, rcells r vc)]) := k_
  clear k_ hW_ R0
  simp only [Act.put, List.setIfInBounds_toArray, List.set_cons_succ, List.set_cons_zero]
  refine wl rfl (ptr w1.heap.size) _ (run_allocA (rcells rz (.slice none 0 0)) zero26 rfl) ?_
  have k_ := Rw1.out.box 26 (rcells rz (.slice none 0 0))
  have hB_ := below_alloc w1 (.cells (rcells rz (.slice none 0 0)).toArray 26)
  obtain ⟨w2, hW_⟩ : ∃ U_ : World, U_ = w1.alloc (.cells (rcells rz (.slice none 0 0)).toArray 26) := ⟨_, rfl⟩
  obtain ⟨q2, hq_⟩ : ∃ q, q = w1.heap.size := ⟨_, rfl⟩
  rw [← hW_, ← hq_] at k_
  rw [← hW_] at hB_
  rw [← hW_, ← hq_]
  clear hq_
  have Rw2 : Hid (Loc w w2 [(q1, 26, rcells r vc), (q2, 26, rcells rz (.slice none 0 0))]) := k_
  clear k_ hW_ Rw1
  clear hB_
  simp only [Act.put, List.setIfInBounds_toArray, List.set_cons_succ, List.set_cons_zero]
  refine wpList_nil ?_
  go_upto_region 1 with fail
  refine wp_region_lit ?_
  refine wl rfl (.slice (some ⟨w2.heap.size, 0, none⟩) 0 0) _ (run_lit0P rfl) ?_
  have k_ := Rw2.out.later (below_alloc w2 (.cells #[] 36))
  have o_ := POwn.lit0 w2 w.heap.size Rw2.out.below.size
  obtain ⟨w3, hW_⟩ : ∃ U_ : World, U_ = w2.alloc (.cells #[] 36) := ⟨_, rfl⟩
  obtain ⟨vl, hv_⟩ : ∃ v : Value, v = .slice (some ⟨w2.heap.size, 0, none⟩) 0 0 := ⟨_, rfl⟩
  rw [← hW_] at k_
  rw [← hW_, ← hv_] at o_
  rw [← hW_, ← hv_]
  have HO : Hid (POwn w3 w.heap.size vl []) := o_
  clear o_ hv_
  have Rw3 : Hid (Loc w w3 [(q1, 26, rcells r vc), (q2, 26, rcells rz (.slice none 0 0))]) := k_
  clear k_ hW_ Rw2
  simp only [Act.put, List.setIfInBounds_toArray, List.set_cons_succ, List.set_cons_zero]
  refine wl rfl (.pointer (some ⟨q1, 0 + 38, none⟩)) _ (run_fieldOp' f26_7 (.tmp 1) rfl q1 (0) rfl) ?_
  simp only [Act.put, List.setIfInBounds_toArray, List.set_cons_succ, List.set_cons_zero]
  refine wl rfl vc _ (run_load1 o24 (.tmp 4) rfl q1 (0 + 38) rfl vc (Rw3.out.fld 0 rfl (HF.out.1.rok).root 4 _ rfl)) ?_
  simp only [Act.put, List.setIfInBounds_toArray, List.set_cons_succ, List.set_cons_zero]
  obtain ⟨v1, w4, hr_, o_, g_⟩ := run_pappI w.heap.size 24 (vl) vc [] r.cp HO.out (HF.out.1.cp.later Rw3.out.below) (by have := HF.out.2; simpa using this) Rw3.out.below.size
  refine wl rfl v1 _ (run_append (.tmp 3) (.tmp 5) rfl (vl) vc v1 rfl rfl hr_) ?_
  have R4 : Hid (Loc w w4 [(q1, 26, rcells r vc), (q2, 26, rcells rz (.slice none 0 0))]) := Rw3.out.grow HO.out g_ (Nat.le_refl _) rfl
  clear Rw3 hr_ g_ HO
  have HO : Hid (POwn w4 w.heap.size v1 r.cp) := o_
  clear o_
  simp only [Act.put, List.setIfInBounds_toArray, List.set_cons_succ, List.set_cons_zero]
  refine wl rfl (.pointer (some ⟨q1, 0 + 38, none⟩)) _ (run_fieldOp' f26_7 (.tmp 1) rfl q1 (0) rfl) ?_
  simp only [Act.put, List.setIfInBounds_toArray, List.set_cons_succ, List.set_cons_zero]
  obtain ⟨k_, hC_⟩ := R4.out.putf 0 rfl 38 v1 (rcells r v1) (set38 r vc v1 HF.out.1.root r.cp)
  have hR_ := R4.out.at 0 rfl
  refine wlS rfl rfl _ (run_putRow s24 (.tmp 7) (.tmp 6) rfl q1 (0 + 38) 26 (rcells r vc) rfl v1 rfl (slice_one HO.out.isSl) hR_ (by rw [(HF.out.1.rok).len]; decide)) ?_
  obtain ⟨w5, hW_⟩ : ∃ U_ : World, U_ = w4.setCell ⟨q1, 0 + 38, none⟩ v1 := ⟨_, rfl⟩
  rw [← hW_] at k_ hC_ ⊢
  have HOx : Hid (POwn w5 w.heap.size v1 r.cp) := HO.out.off hR_ (by decide) hC_
  clear HO
  have HO := HOx
  clear HOx
  have Rw5 : Hid (Loc w w5 [(q1, 26, rcells r v1), (q2, 26, rcells rz (.slice none 0 0))]) := k_
  clear k_ hW_ R4
  clear hC_ hR_
  refine wpList_nil ?_
  go_upto_region 2 with fail
  refine wp_region_lit ?_
  refine wl rfl (.agg (rcells r v1).toArray) _ (run_loadA ag26 (.tmp 1) rfl q1 (0) rfl (rcells r v1) ((HF.out.1.rok.cp HO.out.isSl)).len (Rw5.out.rows 0 rfl)) ?_
  simp only [Act.put, List.setIfInBounds_toArray, List.set_cons_succ, List.set_cons_zero]
  obtain ⟨hst_, k_, hC_⟩ := Rw5.out.st26 1 rfl (Rok.nil).len (rcells r v1) ((HF.out.1.rok.cp HO.out.isSl)).len ((HF.out.1.rok.cp HO.out.isSl)).one
  have hR_ := Rw5.out.at 1 rfl
  refine wlS rfl rfl _ (run_stV (.tmp 2) (.tmp 8) rfl q2 0 rfl _ rfl hst_) ?_
  obtain ⟨w6, hW_⟩ : ∃ U_ : World, U_ = w5.setRow q2 (rcells r v1).toArray := ⟨_, rfl⟩
  rw [← hW_] at k_ hC_ ⊢
  clear hst_
  have HOx : Hid (POwn w6 w.heap.size v1 r.cp) := HO.out.off hR_ (by decide) hC_
  clear HO
  have HO := HOx
  clear HOx
  have Rw6 : Hid (Loc w w6 [(q1, 26, rcells r v1), (q2, 26, rcells r v1)]) := k_
  clear k_ hW_ Rw5
  clear hC_ hR_
  refine wpList_nil ?_
  go_wp2_with fail
  rw [HPQ.out]
  exact bodyPost_ret (results_cell ag26 Try.results5 _ _ q2 26 rfl (rcells r v1) (HF.out.1.rok.cp HO.out.isSl).len (Rw6.out.at 1 rfl)) rfl ⟨v1, rfl, Rw6.out.below, HO.out⟩
end Go.Proofs.Ytobolkllplmmcab

/- RetainLocks, RetainHolds, RetainDeletes. -/
import Derived.Test.YtobolkllplmmcaaT13
namespace Go.Proofs.Ytobolkllplmmcaa
open Go.RowKit

theorem lock_cp (r : Rc) (u : Int) : (lockS r u).1.cp.length ≤ r.cp.length := by
  unfold lockS
  split
  · exact Nat.zero_le _
  · split
    · exact Nat.zero_le _
    · exact Nat.le_refl _
theorem hold_cp (r : Rc) (b : Bool) : (holdS r b).1.cp.length ≤ r.cp.length := by
  unfold holdS
  split
  · exact Nat.zero_le _
  · exact Nat.le_refl _
theorem del_cp (r : Rc) (n : Int) : (delS r n).1.cp.length ≤ r.cp.length := by
  unfold delS
  split
  · exact Nat.zero_le _
  · exact Nat.zero_le _
theorem rz_root : rz.root.length = 32 ∧ ∀ c ∈ rz.root, c < 256 := ⟨rfl, rz_fine.2⟩
theorem lock_root {r : Rc} (h : r.root.length = 32 ∧ ∀ c ∈ r.root, c < 256) (u : Int) : (lockS r u).1.root.length = 32 ∧ ∀ c ∈ (lockS r u).1.root, c < 256 := by
  unfold lockS
  split
  · exact rz_root
  · split
    · exact rz_root
    · exact h
theorem hold_root {r : Rc} (h : r.root.length = 32 ∧ ∀ c ∈ r.root, c < 256) (b : Bool) : (holdS r b).1.root.length = 32 ∧ ∀ c ∈ (holdS r b).1.root, c < 256 := by
  unfold holdS
  split
  · exact rz_root
  · exact h
theorem del_root {r : Rc} (h : r.root.length = 32 ∧ ∀ c ∈ r.root, c < 256) (n : Int) : (delS r n).1.root.length = 32 ∧ ∀ c ∈ (delS r n).1.root, c < 256 := by
  unfold delS
  split
  · exact h
  · exact rz_root
theorem POwn.fitR {w : World} {base : Nat} {v : Value} {r : Rc} (h : POwn w base v r.cp) (hk : r.root.length = 32 ∧ ∀ c ∈ r.root, c < 256) (hl : r.cp.length ≤ 9223372036854775807) : Fits w r v := h.fit ⟨hk.1, hk.2, h.isSl⟩ hl
set_option maxHeartbeats 4000000 in
set_option maxRecDepth 100000 in
theorem locks_any (r : Rc) (vc : Value) (u : Int) (w : World) (hf : Fits w r vc) (hz : (r.cp.length + 1) * 32 ≤ 140737488355328) : Calls Try.prog 3 #[.agg (rcells r vc).toArray, .int .i64 u] w fun e w' => e = .returned (.bool true) ∧ Below w.heap.size w w' := by
  obtain ⟨R1, hR1⟩ : ∃ z, z = (lockS r u).1 := ⟨_, rfl⟩
  obtain ⟨er, her⟩ : ∃ z, z = (lockS r u).2 := ⟨_, rfl⟩
  have hz0 : r.cp.length * 32 ≤ 140737488355328 := by omega
  have HC1 : Hid (∀ (U : World) (vx : Value), Fits U r vx → Calls Try.prog 11 #[.agg (rcells r vx).toArray, .int .i64 u] U fun e w' => ∃ v', e = .returned (.tuple #[.agg (rcells R1 v').toArray, .int .i64 er]) ∧ Below U.heap.size U w' ∧ POwn w' U.heap.size v' R1.cp) := fun U vx h => hR1 ▸ her ▸ lock_any r vx u U h hz0
  have HC2 : Hid (∀ (U : World) (vx : Value), Fits U r vx → Calls Try.prog 12 #[.agg (rcells r vx).toArray, .int .i64 u] U fun e w' => ∃ v', e = .returned (.tuple #[.agg (rcells R1 v').toArray, .int .i64 er]) ∧ Below U.heap.size U w' ∧ POwn w' U.heap.size v' R1.cp) := fun U vx h => hR1 ▸ her ▸ rlock_any r vx u U h hz0
  have HR1 : Hid ((R1.root.length = 32 ∧ ∀ c ∈ R1.root, c < 256) ∧ R1.cp.length ≤ r.cp.length) := ⟨hR1 ▸ lock_root ⟨hf.root, hf.bytes⟩ u, hR1 ▸ lock_cp r u⟩
  have HF : Hid (Fits w r vc ∧ (r.cp.length + 1) * 32 ≤ 140737488355328) := ⟨hf, hz⟩
  clear hf hz hz0 hR1 her
  obtain ⟨PQ, hPQ⟩ : ∃ PQ : Ending → World → Prop, PQ = fun (e : Ending) (w' : World) => e = .returned (.bool true) ∧ Below w.heap.size w w' := ⟨_, rfl⟩
  have HPQ : Hid (PQ = fun (e : Ending) (w' : World) => e = .returned (.bool true) ∧ Below w.heap.size w w') := hPQ
  rw [← hPQ]
  clear hPQ
  have R0 : Hid (Loc w w []) := Loc.nil (Below.refl _ w)
  go_enter Try.func3, Try.ntmps3
  go_upto_region 0 with fail
  refine wp_region_lit ?_
  refine wl rfl (ptr w.heap.size) _ (run_boxA (.tmp 0) rfl (rcells r vc) rfl) ?_
  have k_ := R0.out.box 26 (rcells r vc)
  obtain ⟨w1, hW_⟩ : ∃ W, W = w.alloc (.cells (rcells r vc).toArray 26) := ⟨_, rfl⟩
  obtain ⟨q1, hq_⟩ : ∃ q, q = w.heap.size := ⟨_, rfl⟩
  rw [← hW_, ← hq_] at k_
  rw [← hW_, ← hq_]
  clear hq_
  have Rw1 : Hid (Loc w w1 [(q1, 26, rcells r vc)]) := k_
  clear k_ hW_ R0
  simp only [Act.put, List.setIfInBounds_toArray, List.set_cons_succ, List.set_cons_zero]
  refine wl rfl (.bool false) _ (run_asZ (.const (.bool false)) rfl (.bool false) rfl) ?_
  simp only [Act.put, List.setIfInBounds_toArray, List.set_cons_succ, List.set_cons_zero]
  refine wpList_nil ?_
  go_upto_region 1 with fail
  refine wp_region_lit ?_
  refine wpList_callW eN9 [] _ rfl rfl [] rfl ?_
  refine (shown_any w1).mono ?_
  rintro e w2 ⟨rfl, b_⟩
  refine ⟨_, rfl, ?_⟩
  have Rw2 : Hid (Loc w w2 [(q1, 26, rcells r vc)]) := Rw1.out.later b_
  clear Rw1 b_
  simp only [Act.put, List.setIfInBounds_toArray, List.set_cons_succ, List.set_cons_zero]
  refine wl rfl (.bool true) _ (run_asZ (.tmp 11) rfl (.bool true) rfl) ?_
  simp only [Act.put, List.setIfInBounds_toArray, List.set_cons_succ, List.set_cons_zero]
  refine wpList_nil ?_
  go_upto_region 2 with fail
  refine wp_region_lit ?_
  refine wl rfl (.bool true) _ (run_mvZ (.tmp 5) rfl (.bool true) rfl) ?_
  simp only [Act.put, List.setIfInBounds_toArray, List.set_cons_succ, List.set_cons_zero]
  refine wl rfl (.bool false) _ (run_not (.tmp 12) 4 rfl true rfl) ?_
  simp only [Act.put, List.setIfInBounds_toArray, List.set_cons_succ, List.set_cons_zero]
  refine wpList_nil ?_
  go_upto_region 4 with fail
  refine wp_region_lit ?_
  refine wl rfl (.agg (rcells r vc).toArray) _ (run_loadA ag26 (.tmp 2) rfl q1 (0) rfl (rcells r vc) (HF.out.1.rok).len (Rw2.out.rows 0 rfl)) ?_
  simp only [Act.put, List.setIfInBounds_toArray, List.set_cons_succ, List.set_cons_zero]
  refine wpList_callW eN10 [.tmp 14] _ rfl rfl [(.agg (rcells r vc).toArray)] rfl ?_
  refine (copied_any r vc w2 (HF.out.1.later Rw2.out.below) (by have := HF.out.2; omega)).mono ?_
  rintro e w3 ⟨v1, rfl, b_, o_⟩
  refine ⟨_, rfl, ?_⟩
  have H1 : Hid (POwn w3 w.heap.size v1 r.cp) := o_.weaken Rw2.out.below.size
  clear o_
  have Rw3 : Hid (Loc w w3 [(q1, 26, rcells r vc)]) := Rw2.out.later b_
  clear Rw2 b_
  simp only [Act.put, List.setIfInBounds_toArray, List.set_cons_succ, List.set_cons_zero]
  refine wl rfl (ptr w3.heap.size) _ (run_allocA (rcells rz (.slice none 0 0)) zero26 rfl) ?_
  have k_ := Rw3.out.box 26 (rcells rz (.slice none 0 0))
  have hB_ := below_alloc w3 (.cells (rcells rz (.slice none 0 0)).toArray 26)
  obtain ⟨w4, hW_⟩ : ∃ U_ : World, U_ = w3.alloc (.cells (rcells rz (.slice none 0 0)).toArray 26) := ⟨_, rfl⟩
  obtain ⟨q2, hq_⟩ : ∃ q, q = w3.heap.size := ⟨_, rfl⟩
  rw [← hW_, ← hq_] at k_
  rw [← hW_] at hB_
  rw [← hW_, ← hq_]
  clear hq_
  have H1x : Hid (POwn w4 w.heap.size v1 r.cp) := H1.out.later hB_
  clear H1
  have H1 := H1x
  clear H1x
  have Rw4 : Hid (Loc w w4 [(q1, 26, rcells r vc), (q2, 26, rcells rz (.slice none 0 0))]) := k_
  clear k_ hW_ Rw3
  clear hB_
  simp only [Act.put, List.setIfInBounds_toArray, List.set_cons_succ, List.set_cons_zero]
  obtain ⟨hst_, k_, hC_⟩ := Rw4.out.st26 1 rfl (Rok.nil).len (rcells r v1) ((HF.out.1.rok.cp H1.out.isSl)).len ((HF.out.1.rok.cp H1.out.isSl)).one
  have hR_ := Rw4.out.at 1 rfl
  refine wlS rfl rfl _ (run_stV (.tmp 6) (.tmp 15) rfl q2 0 rfl _ rfl hst_) ?_
  obtain ⟨w5, hW_⟩ : ∃ U_ : World, U_ = w4.setRow q2 (rcells r v1).toArray := ⟨_, rfl⟩
  rw [← hW_] at k_ hC_ ⊢
  clear hst_
  have H1x : Hid (POwn w5 w.heap.size v1 r.cp) := H1.out.off hR_ (by decide) hC_
  clear H1
  have H1 := H1x
  clear H1x
  have Rw5 : Hid (Loc w w5 [(q1, 26, rcells r vc), (q2, 26, rcells r v1)]) := k_
  clear k_ hW_ Rw4
  clear hC_ hR_
  refine wpList_nil ?_
  go_upto_region 5 with fail
  refine wp_region_lit ?_
  refine wl rfl (.agg (rcells r v1).toArray) _ (run_loadA ag26 (.tmp 6) rfl q2 (0) rfl (rcells r v1) ((HF.out.1.rok.cp H1.out.isSl)).len (Rw5.out.rows 1 rfl)) ?_
  simp only [Act.put, List.setIfInBounds_toArray, List.set_cons_succ, List.set_cons_zero]
  refine wl rfl (.int .i64 u) _ (run_mvZ (.tmp 1) rfl (.int .i64 u) rfl) ?_
  simp only [Act.put, List.setIfInBounds_toArray, List.set_cons_succ, List.set_cons_zero]
  refine wpList_callW eN11 [.tmp 17, .tmp 18] _ rfl rfl [(.agg (rcells r v1).toArray), (.int .i64 u)] rfl ?_
  refine (HC1.out w5 v1 (H1.out.fit (HF.out.1.rok.cp H1.out.isSl) (by have := HF.out.2; omega))).mono ?_
  rintro e w6 ⟨v2, rfl, b_, o_⟩
  refine ⟨_, rfl, ?_⟩
  obtain ⟨bs, hbs⟩ : ∃ z, z = w5.heap.size := ⟨_, rfl⟩
  rw [← hbs] at o_
  have HBS : Hid (w.heap.size ≤ bs ∧ ∀ b, v1.ownBlock = some b → b < bs) := ⟨by rw [hbs]; exact Rw5.out.below.size, fun b hb => by rw [hbs]; exact (H1.out.lt b hb).2⟩
  clear hbs
  have H1x : Hid (POwn w6 w.heap.size v1 r.cp) := H1.out.later b_
  clear H1
  have H1 := H1x
  clear H1x
  have H2 : Hid (POwn w6 bs v2 R1.cp) := o_
  clear o_
  have Rw6 : Hid (Loc w w6 [(q1, 26, rcells r vc), (q2, 26, rcells r v1)]) := Rw5.out.later b_
  clear Rw5 b_
  simp only [Act.put, List.setIfInBounds_toArray, List.set_cons_succ, List.set_cons_zero]
  refine wl rfl (.tuple #[(.agg (rcells R1 v2).toArray), (.int .i64 er)]) _ (run_mvZ (.tmp 19) rfl (.tuple #[(.agg (rcells R1 v2).toArray), (.int .i64 er)]) rfl) ?_
  simp only [Act.put, List.setIfInBounds_toArray, List.set_cons_succ, List.set_cons_zero]
  refine wl rfl (.agg (rcells R1 v2).toArray) _ (run_extZ (.tmp 16) 0 rfl #[(.agg (rcells R1 v2).toArray), (.int .i64 er)] rfl (.agg (rcells R1 v2).toArray) rfl) ?_
  simp only [Act.put, List.setIfInBounds_toArray, List.set_cons_succ, List.set_cons_zero]
  refine wl rfl (.int .i64 er) _ (run_extZ (.tmp 16) 1 rfl #[(.agg (rcells R1 v2).toArray), (.int .i64 er)] rfl (.int .i64 er) rfl) ?_
  simp only [Act.put, List.setIfInBounds_toArray, List.set_cons_succ, List.set_cons_zero]
  refine wl rfl (ptr w6.heap.size) _ (run_allocA (rcells rz (.slice none 0 0)) zero26 rfl) ?_
  have k_ := Rw6.out.box 26 (rcells rz (.slice none 0 0))
  have hB_ := below_alloc w6 (.cells (rcells rz (.slice none 0 0)).toArray 26)
  obtain ⟨w7, hW_⟩ : ∃ U_ : World, U_ = w6.alloc (.cells (rcells rz (.slice none 0 0)).toArray 26) := ⟨_, rfl⟩
  obtain ⟨q3, hq_⟩ : ∃ q, q = w6.heap.size := ⟨_, rfl⟩
  rw [← hW_, ← hq_] at k_
  rw [← hW_] at hB_
  rw [← hW_, ← hq_]
  clear hq_
  have H1x : Hid (POwn w7 w.heap.size v1 r.cp) := H1.out.later hB_
  clear H1
  have H1 := H1x
  clear H1x
  have H2x : Hid (POwn w7 bs v2 R1.cp) := H2.out.later hB_
  clear H2
  have H2 := H2x
  clear H2x
  have Rw7 : Hid (Loc w w7 [(q1, 26, rcells r vc), (q2, 26, rcells r v1), (q3, 26, rcells rz (.slice none 0 0))]) := k_
  clear k_ hW_ Rw6
  clear hB_
  simp only [Act.put, List.setIfInBounds_toArray, List.set_cons_succ, List.set_cons_zero]
  obtain ⟨hst_, k_, hC_⟩ := Rw7.out.st26 2 rfl (Rok.nil).len (rcells R1 v2) ((show Rok R1 v2 from ⟨HR1.out.1.1, HR1.out.1.2, H2.out.isSl⟩)).len ((show Rok R1 v2 from ⟨HR1.out.1.1, HR1.out.1.2, H2.out.isSl⟩)).one
  have hR_ := Rw7.out.at 2 rfl
  refine wlS rfl rfl _ (run_stV (.tmp 7) (.tmp 20) rfl q3 0 rfl _ rfl hst_) ?_
  obtain ⟨w8, hW_⟩ : ∃ U_ : World, U_ = w7.setRow q3 (rcells R1 v2).toArray := ⟨_, rfl⟩
  rw [← hW_] at k_ hC_ ⊢
  clear hst_
  have H1x : Hid (POwn w8 w.heap.size v1 r.cp) := H1.out.off hR_ (by decide) hC_
  clear H1
  have H1 := H1x
  clear H1x
  have H2x : Hid (POwn w8 bs v2 R1.cp) := H2.out.off hR_ (by decide) hC_
  clear H2
  have H2 := H2x
  clear H2x
  have Rw8 : Hid (Loc w w8 [(q1, 26, rcells r vc), (q2, 26, rcells r v1), (q3, 26, rcells R1 v2)]) := k_
  clear k_ hW_ Rw7
  clear hC_ hR_
  refine wl rfl (.int .i64 er) _ (run_asZ (.tmp 21) rfl (.int .i64 er) rfl) ?_
  simp only [Act.put, List.setIfInBounds_toArray, List.set_cons_succ, List.set_cons_zero]
  refine wpList_nil ?_
  go_upto_region 6 with fail
  refine wp_region_lit ?_
  refine wl rfl (.agg (rcells r vc).toArray) _ (run_loadA ag26 (.tmp 2) rfl q1 (0) rfl (rcells r vc) (HF.out.1.rok).len (Rw8.out.rows 0 rfl)) ?_
  simp only [Act.put, List.setIfInBounds_toArray, List.set_cons_succ, List.set_cons_zero]
  refine wl rfl (.int .i64 u) _ (run_mvZ (.tmp 1) rfl (.int .i64 u) rfl) ?_
  simp only [Act.put, List.setIfInBounds_toArray, List.set_cons_succ, List.set_cons_zero]
  refine wpList_callW eN12 [.tmp 23, .tmp 24] _ rfl rfl [(.agg (rcells r vc).toArray), (.int .i64 u)] rfl ?_
  refine (HC2.out w8 vc (HF.out.1.later Rw8.out.below)).mono ?_
  rintro e w9 ⟨v3, rfl, b_, o_⟩
  refine ⟨_, rfl, ?_⟩
  have H1x : Hid (POwn w9 w.heap.size v1 r.cp) := H1.out.later b_
  clear H1
  have H1 := H1x
  clear H1x
  have H2x : Hid (POwn w9 bs v2 R1.cp) := H2.out.later b_
  clear H2
  have H2 := H2x
  clear H2x
  have H3 : Hid (POwn w9 w.heap.size v3 R1.cp) := o_.weaken Rw8.out.below.size
  clear o_
  have Rw9 : Hid (Loc w w9 [(q1, 26, rcells r vc), (q2, 26, rcells r v1), (q3, 26, rcells R1 v2)]) := Rw8.out.later b_
  clear Rw8 b_
  simp only [Act.put, List.setIfInBounds_toArray, List.set_cons_succ, List.set_cons_zero]
  refine wl rfl (.tuple #[(.agg (rcells R1 v3).toArray), (.int .i64 er)]) _ (run_mvZ (.tmp 25) rfl (.tuple #[(.agg (rcells R1 v3).toArray), (.int .i64 er)]) rfl) ?_
  simp only [Act.put, List.setIfInBounds_toArray, List.set_cons_succ, List.set_cons_zero]
  refine wl rfl (.agg (rcells R1 v3).toArray) _ (run_extZ (.tmp 22) 0 rfl #[(.agg (rcells R1 v3).toArray), (.int .i64 er)] rfl (.agg (rcells R1 v3).toArray) rfl) ?_
  simp only [Act.put, List.setIfInBounds_toArray, List.set_cons_succ, List.set_cons_zero]
  refine wl rfl (.int .i64 er) _ (run_extZ (.tmp 22) 1 rfl #[(.agg (rcells R1 v3).toArray), (.int .i64 er)] rfl (.int .i64 er) rfl) ?_
  simp only [Act.put, List.setIfInBounds_toArray, List.set_cons_succ, List.set_cons_zero]
  refine wl rfl (ptr w9.heap.size) _ (run_allocA (rcells rz (.slice none 0 0)) zero26 rfl) ?_
  have k_ := Rw9.out.box 26 (rcells rz (.slice none 0 0))
  have hB_ := below_alloc w9 (.cells (rcells rz (.slice none 0 0)).toArray 26)
  obtain ⟨w10, hW_⟩ : ∃ U_ : World, U_ = w9.alloc (.cells (rcells rz (.slice none 0 0)).toArray 26) := ⟨_, rfl⟩
  obtain ⟨q4, hq_⟩ : ∃ q, q = w9.heap.size := ⟨_, rfl⟩
  rw [← hW_, ← hq_] at k_
  rw [← hW_] at hB_
  rw [← hW_, ← hq_]
  clear hq_
  have H1x : Hid (POwn w10 w.heap.size v1 r.cp) := H1.out.later hB_
  clear H1
  have H1 := H1x
  clear H1x
  have H2x : Hid (POwn w10 bs v2 R1.cp) := H2.out.later hB_
  clear H2
  have H2 := H2x
  clear H2x
  have H3x : Hid (POwn w10 w.heap.size v3 R1.cp) := H3.out.later hB_
  clear H3
  have H3 := H3x
  clear H3x
  have Rw10 : Hid (Loc w w10 [(q1, 26, rcells r vc), (q2, 26, rcells r v1), (q3, 26, rcells R1 v2), (q4, 26, rcells rz (.slice none 0 0))]) := k_
  clear k_ hW_ Rw9
  clear hB_
  simp only [Act.put, List.setIfInBounds_toArray, List.set_cons_succ, List.set_cons_zero]
  obtain ⟨hst_, k_, hC_⟩ := Rw10.out.st26 3 rfl (Rok.nil).len (rcells R1 v3) ((show Rok R1 v3 from ⟨HR1.out.1.1, HR1.out.1.2, H3.out.isSl⟩)).len ((show Rok R1 v3 from ⟨HR1.out.1.1, HR1.out.1.2, H3.out.isSl⟩)).one
  have hR_ := Rw10.out.at 3 rfl
  refine wlS rfl rfl _ (run_stV (.tmp 9) (.tmp 26) rfl q4 0 rfl _ rfl hst_) ?_
  obtain ⟨w11, hW_⟩ : ∃ U_ : World, U_ = w10.setRow q4 (rcells R1 v3).toArray := ⟨_, rfl⟩
  rw [← hW_] at k_ hC_ ⊢
  clear hst_
  have H1x : Hid (POwn w11 w.heap.size v1 r.cp) := H1.out.off hR_ (by decide) hC_
  clear H1
  have H1 := H1x
  clear H1x
  have H2x : Hid (POwn w11 bs v2 R1.cp) := H2.out.off hR_ (by decide) hC_
  clear H2
  have H2 := H2x
  clear H2x
  have H3x : Hid (POwn w11 w.heap.size v3 R1.cp) := H3.out.off hR_ (by decide) hC_
  clear H3
  have H3 := H3x
  clear H3x
  have Rw11 : Hid (Loc w w11 [(q1, 26, rcells r vc), (q2, 26, rcells r v1), (q3, 26, rcells R1 v2), (q4, 26, rcells R1 v3)]) := k_
  clear k_ hW_ Rw10
  clear hC_ hR_
  refine wl rfl (.int .i64 er) _ (run_asZ (.tmp 27) rfl (.int .i64 er) rfl) ?_
  simp only [Act.put, List.setIfInBounds_toArray, List.set_cons_succ, List.set_cons_zero]
  refine wpList_nil ?_
  go_upto_region 7 with fail
  refine wp_region_lit ?_
  refine wl rfl (.int .i64 er) _ (run_mvZ (.tmp 8) rfl (.int .i64 er) rfl) ?_
  simp only [Act.put, List.setIfInBounds_toArray, List.set_cons_succ, List.set_cons_zero]
  refine wl rfl (.int .i64 er) _ (run_mvZ (.tmp 10) rfl (.int .i64 er) rfl) ?_
  simp only [Act.put, List.setIfInBounds_toArray, List.set_cons_succ, List.set_cons_zero]
  refine wl rfl (.bool false) _ (run_neZ (.tmp 28) (.tmp 29) rfl er er rfl rfl false (by simp)) ?_
  simp only [Act.put, List.setIfInBounds_toArray, List.set_cons_succ, List.set_cons_zero]
  refine wl rfl (.bool false) _ (run_mvZ (.tmp 30) rfl (.bool false) rfl) ?_
  simp only [Act.put, List.setIfInBounds_toArray, List.set_cons_succ, List.set_cons_zero]
  refine wl (by kernel_rfl) (.agg (rcells R1 v2).toArray) _ (run_loadA ag26 (.tmp 7) rfl q3 (0) rfl (rcells R1 v2) ((show Rok R1 v2 from ⟨HR1.out.1.1, HR1.out.1.2, H2.out.isSl⟩)).len (Rw11.out.rows 2 rfl)) ?_
  simp only [Act.put, List.setIfInBounds_toArray, List.set_cons_succ, List.set_cons_zero]
  refine wl (by kernel_rfl) (.agg (rcells R1 v3).toArray) _ (run_loadA ag26 (.tmp 9) rfl q4 (0) rfl (rcells R1 v3) ((show Rok R1 v3 from ⟨HR1.out.1.1, HR1.out.1.2, H3.out.isSl⟩)).len (Rw11.out.rows 3 rfl)) ?_
  simp only [Act.put, List.setIfInBounds_toArray, List.set_cons_succ, List.set_cons_zero]
  refine wpList_callW eN13 [.tmp 32, .tmp 33] _ (by kernel_rfl) rfl [(.agg (rcells R1 v2).toArray), (.agg (rcells R1 v3).toArray)] rfl ?_
  refine (same_yes R1 v2 v3 w11 (H2.out.fitR HR1.out.1 (by have := HF.out.2; have := HR1.out.2; omega)) (H3.out.fitR HR1.out.1 (by have := HF.out.2; have := HR1.out.2; omega))).mono ?_
  rintro e w12 ⟨rfl, b_⟩
  refine ⟨_, rfl, ?_⟩
  have H1x : Hid (POwn w12 w.heap.size v1 r.cp) := H1.out.later b_
  clear H1
  have H1 := H1x
  clear H1x
  have H2x : Hid (POwn w12 bs v2 R1.cp) := H2.out.later b_
  clear H2
  have H2 := H2x
  clear H2x
  have H3x : Hid (POwn w12 w.heap.size v3 R1.cp) := H3.out.later b_
  clear H3
  have H3 := H3x
  clear H3x
  have Rw12 : Hid (Loc w w12 [(q1, 26, rcells r vc), (q2, 26, rcells r v1), (q3, 26, rcells R1 v2), (q4, 26, rcells R1 v3)]) := Rw11.out.later b_
  clear Rw11 b_
  simp only [Act.put, List.setIfInBounds_toArray, List.set_cons_succ, List.set_cons_zero]
  refine wl (by kernel_rfl) (.bool false) _ (run_not (.tmp 34) 4 rfl true rfl) ?_
  simp only [Act.put, List.setIfInBounds_toArray, List.set_cons_succ, List.set_cons_zero]
  refine wl rfl (.bool false) _ (run_pickZ (.tmp 31) (.const (.bool true)) (.tmp 35) rfl false (.bool false) rfl rfl) ?_
  simp only [Act.put, List.setIfInBounds_toArray, List.set_cons_succ, List.set_cons_zero]
  refine wpList_nil ?_
  go_upto_region 9 with fail
  refine wp_region_lit ?_
  refine wl rfl (.agg (rcells R1 v2).toArray) _ (run_loadA ag26 (.tmp 7) rfl q3 (0) rfl (rcells R1 v2) ((show Rok R1 v2 from ⟨HR1.out.1.1, HR1.out.1.2, H2.out.isSl⟩)).len (Rw12.out.rows 2 rfl)) ?_
  simp only [Act.put, List.setIfInBounds_toArray, List.set_cons_succ, List.set_cons_zero]
  refine wpList_callW eN14 [.tmp 37] _ rfl rfl [(.agg (rcells R1 v2).toArray)] rfl ?_
  refine (spoil_any R1 v2 R1.cp.length 0 w12 (show Rok R1 v2 from ⟨HR1.out.1.1, HR1.out.1.2, H2.out.isSl⟩) (H2.out.weaken (Nat.zero_le _)).pn (by have := HF.out.2; have := HR1.out.2; omega) (Nat.zero_le _)).mono ?_
  rintro e w13 ⟨rfl, g_⟩
  refine ⟨_, rfl, ?_⟩
  have H1x : Hid (POwn w13 w.heap.size v1 r.cp) := H1.out.keep fun b hb _ hlt => g_.block b hlt fun e_ => by have h1 := HBS.out.2 b hb; have h2 := (H2.out.lt b e_.symm).1; omega
  clear H1
  have H1 := H1x
  clear H1x
  have Rw13 : Hid (Loc w w13 [(q1, 26, rcells r vc), (q2, 26, rcells r v1), (q3, 26, rcells R1 v2), (q4, 26, rcells R1 v3)]) := Rw12.out.grow H2.out g_ HBS.out.1 rfl
  clear Rw12 H2 H3 g_
  simp only [Act.put, List.setIfInBounds_toArray, List.set_cons_succ, List.set_cons_zero]
  refine wpList_nil ?_
  go_upto_region 10 with fail
  refine wp_region_lit ?_
  refine wl rfl (.bool true) _ (run_mvZ (.tmp 5) rfl (.bool true) rfl) ?_
  simp only [Act.put, List.setIfInBounds_toArray, List.set_cons_succ, List.set_cons_zero]
  refine wl rfl (.bool true) _ (run_mvZ (.tmp 39) rfl (.bool true) rfl) ?_
  simp only [Act.put, List.setIfInBounds_toArray, List.set_cons_succ, List.set_cons_zero]
  refine wl (by kernel_rfl) (.agg (rcells r v1).toArray) _ (run_loadA ag26 (.tmp 6) rfl q2 (0) rfl (rcells r v1) ((HF.out.1.rok.cp H1.out.isSl)).len (Rw13.out.rows 1 rfl)) ?_
  simp only [Act.put, List.setIfInBounds_toArray, List.set_cons_succ, List.set_cons_zero]
  refine wl (by kernel_rfl) (.agg (rcells r vc).toArray) _ (run_loadA ag26 (.tmp 2) rfl q1 (0) rfl (rcells r vc) (HF.out.1.rok).len (Rw13.out.rows 0 rfl)) ?_
  simp only [Act.put, List.setIfInBounds_toArray, List.set_cons_succ, List.set_cons_zero]
  refine wpList_callW eN13 [.tmp 41, .tmp 42] _ (by kernel_rfl) rfl [(.agg (rcells r v1).toArray), (.agg (rcells r vc).toArray)] rfl ?_
  refine (same_yes r v1 vc w13 (H1.out.fit (HF.out.1.rok.cp H1.out.isSl) (by have := HF.out.2; omega)) (HF.out.1.later Rw13.out.below)).mono ?_
  rintro e w14 ⟨rfl, b_⟩
  refine ⟨_, rfl, ?_⟩
  have H1x : Hid (POwn w14 w.heap.size v1 r.cp) := H1.out.later b_
  clear H1
  have H1 := H1x
  clear H1x
  have Rw14 : Hid (Loc w w14 [(q1, 26, rcells r vc), (q2, 26, rcells r v1), (q3, 26, rcells R1 v2), (q4, 26, rcells R1 v3)]) := Rw13.out.later b_
  clear Rw13 b_
  simp only [Act.put, List.setIfInBounds_toArray, List.set_cons_succ, List.set_cons_zero]
  refine wl rfl (.bool true) _ (run_pickZ (.tmp 40) (.tmp 43) (.const (.bool false)) rfl true (.bool true) rfl rfl) ?_
  simp only [Act.put, List.setIfInBounds_toArray, List.set_cons_succ, List.set_cons_zero]
  refine wl rfl (.bool true) _ (run_asZ (.tmp 44) rfl (.bool true) rfl) ?_
  simp only [Act.put, List.setIfInBounds_toArray, List.set_cons_succ, List.set_cons_zero]
  refine wpList_nil ?_
  go_wp2_with fail
  first | (rw [HPQ.out]; exact ⟨rfl, Rw14.out.below⟩) | (go_ret; rw [HPQ.out]; exact ⟨rfl, Rw14.out.below⟩)
set_option maxHeartbeats 4000000 in
set_option maxRecDepth 100000 in
theorem holds_any (r : Rc) (vc : Value) (b : Bool) (w : World) (hf : Fits w r vc) (hz : (r.cp.length + 1) * 32 ≤ 140737488355328) : Calls Try.prog 4 #[.agg (rcells r vc).toArray, .bool b] w fun e w' => e = .returned (.bool true) ∧ Below w.heap.size w w' := by
  obtain ⟨R1, hR1⟩ : ∃ z, z = (holdS r b).1 := ⟨_, rfl⟩
  obtain ⟨er, her⟩ : ∃ z, z = (holdS r b).2 := ⟨_, rfl⟩
  have hz0 : r.cp.length * 32 ≤ 140737488355328 := by omega
  have HC1 : Hid (∀ (U : World) (vx : Value), Fits U r vx → Calls Try.prog 15 #[.agg (rcells r vx).toArray, .bool b] U fun e w' => ∃ v', e = .returned (.tuple #[.agg (rcells R1 v').toArray, .int .i64 er]) ∧ Below U.heap.size U w' ∧ POwn w' U.heap.size v' R1.cp) := fun U vx h => hR1 ▸ her ▸ hold_any r vx b U h hz0
  have HC2 : Hid (∀ (U : World) (vx : Value), Fits U r vx → Calls Try.prog 16 #[.agg (rcells r vx).toArray, .bool b] U fun e w' => ∃ v', e = .returned (.tuple #[.agg (rcells R1 v').toArray, .int .i64 er]) ∧ Below U.heap.size U w' ∧ POwn w' U.heap.size v' R1.cp) := fun U vx h => hR1 ▸ her ▸ rhold_any r vx b U h hz0
  have HR1 : Hid ((R1.root.length = 32 ∧ ∀ c ∈ R1.root, c < 256) ∧ R1.cp.length ≤ r.cp.length) := ⟨hR1 ▸ hold_root ⟨hf.root, hf.bytes⟩ b, hR1 ▸ hold_cp r b⟩
  have HF : Hid (Fits w r vc ∧ (r.cp.length + 1) * 32 ≤ 140737488355328) := ⟨hf, hz⟩
  clear hf hz hz0 hR1 her
  obtain ⟨PQ, hPQ⟩ : ∃ PQ : Ending → World → Prop, PQ = fun (e : Ending) (w' : World) => e = .returned (.bool true) ∧ Below w.heap.size w w' := ⟨_, rfl⟩
  have HPQ : Hid (PQ = fun (e : Ending) (w' : World) => e = .returned (.bool true) ∧ Below w.heap.size w w') := hPQ
  rw [← hPQ]
  clear hPQ
  have R0 : Hid (Loc w w []) := Loc.nil (Below.refl _ w)
  go_enter Try.func4, Try.ntmps4
  go_upto_region 0 with fail
  refine wp_region_lit ?_
  refine wl rfl (ptr w.heap.size) _ (run_boxA (.tmp 0) rfl (rcells r vc) rfl) ?_
  have k_ := R0.out.box 26 (rcells r vc)
  obtain ⟨w1, hW_⟩ : ∃ W, W = w.alloc (.cells (rcells r vc).toArray 26) := ⟨_, rfl⟩
  obtain ⟨q1, hq_⟩ : ∃ q, q = w.heap.size := ⟨_, rfl⟩
  rw [← hW_, ← hq_] at k_
  rw [← hW_, ← hq_]
  clear hq_
  have Rw1 : Hid (Loc w w1 [(q1, 26, rcells r vc)]) := k_
  clear k_ hW_ R0
  simp only [Act.put, List.setIfInBounds_toArray, List.set_cons_succ, List.set_cons_zero]
  refine wl rfl (.bool false) _ (run_asZ (.const (.bool false)) rfl (.bool false) rfl) ?_
  simp only [Act.put, List.setIfInBounds_toArray, List.set_cons_succ, List.set_cons_zero]
  refine wpList_nil ?_
  go_upto_region 1 with fail
  refine wp_region_lit ?_
  refine wpList_callW eN9 [] _ rfl rfl [] rfl ?_
  refine (shown_any w1).mono ?_
  rintro e w2 ⟨rfl, b_⟩
  refine ⟨_, rfl, ?_⟩
  have Rw2 : Hid (Loc w w2 [(q1, 26, rcells r vc)]) := Rw1.out.later b_
  clear Rw1 b_
  simp only [Act.put, List.setIfInBounds_toArray, List.set_cons_succ, List.set_cons_zero]
  refine wl rfl (.bool true) _ (run_asZ (.tmp 11) rfl (.bool true) rfl) ?_
  simp only [Act.put, List.setIfInBounds_toArray, List.set_cons_succ, List.set_cons_zero]
  refine wpList_nil ?_
  go_upto_region 2 with fail
  refine wp_region_lit ?_
  refine wl rfl (.bool true) _ (run_mvZ (.tmp 5) rfl (.bool true) rfl) ?_
  simp only [Act.put, List.setIfInBounds_toArray, List.set_cons_succ, List.set_cons_zero]
  refine wl rfl (.bool false) _ (run_not (.tmp 12) 4 rfl true rfl) ?_
  simp only [Act.put, List.setIfInBounds_toArray, List.set_cons_succ, List.set_cons_zero]
  refine wpList_nil ?_
  go_upto_region 4 with fail
  refine wp_region_lit ?_
  refine wl rfl (.agg (rcells r vc).toArray) _ (run_loadA ag26 (.tmp 2) rfl q1 (0) rfl (rcells r vc) (HF.out.1.rok).len (Rw2.out.rows 0 rfl)) ?_
  simp only [Act.put, List.setIfInBounds_toArray, List.set_cons_succ, List.set_cons_zero]
  refine wpList_callW eN10 [.tmp 14] _ rfl rfl [(.agg (rcells r vc).toArray)] rfl ?_
  refine (copied_any r vc w2 (HF.out.1.later Rw2.out.below) (by have := HF.out.2; omega)).mono ?_
  rintro e w3 ⟨v1, rfl, b_, o_⟩
  refine ⟨_, rfl, ?_⟩
  have H1 : Hid (POwn w3 w.heap.size v1 r.cp) := o_.weaken Rw2.out.below.size
  clear o_
  have Rw3 : Hid (Loc w w3 [(q1, 26, rcells r vc)]) := Rw2.out.later b_
  clear Rw2 b_
  simp only [Act.put, List.setIfInBounds_toArray, List.set_cons_succ, List.set_cons_zero]
  refine wl rfl (ptr w3.heap.size) _ (run_allocA (rcells rz (.slice none 0 0)) zero26 rfl) ?_
  have k_ := Rw3.out.box 26 (rcells rz (.slice none 0 0))
  have hB_ := below_alloc w3 (.cells (rcells rz (.slice none 0 0)).toArray 26)
  obtain ⟨w4, hW_⟩ : ∃ U_ : World, U_ = w3.alloc (.cells (rcells rz (.slice none 0 0)).toArray 26) := ⟨_, rfl⟩
  obtain ⟨q2, hq_⟩ : ∃ q, q = w3.heap.size := ⟨_, rfl⟩
  rw [← hW_, ← hq_] at k_
  rw [← hW_] at hB_
  rw [← hW_, ← hq_]
  clear hq_
  have H1x : Hid (POwn w4 w.heap.size v1 r.cp) := H1.out.later hB_
  clear H1
  have H1 := H1x
  clear H1x
  have Rw4 : Hid (Loc w w4 [(q1, 26, rcells r vc), (q2, 26, rcells rz (.slice none 0 0))]) := k_
  clear k_ hW_ Rw3
  clear hB_
  simp only [Act.put, List.setIfInBounds_toArray, List.set_cons_succ, List.set_cons_zero]
  obtain ⟨hst_, k_, hC_⟩ := Rw4.out.st26 1 rfl (Rok.nil).len (rcells r v1) ((HF.out.1.rok.cp H1.out.isSl)).len ((HF.out.1.rok.cp H1.out.isSl)).one
  have hR_ := Rw4.out.at 1 rfl
  refine wlS rfl rfl _ (run_stV (.tmp 6) (.tmp 15) rfl q2 0 rfl _ rfl hst_) ?_
  obtain ⟨w5, hW_⟩ : ∃ U_ : World, U_ = w4.setRow q2 (rcells r v1).toArray := ⟨_, rfl⟩
  rw [← hW_] at k_ hC_ ⊢
  clear hst_
  have H1x : Hid (POwn w5 w.heap.size v1 r.cp) := H1.out.off hR_ (by decide) hC_
  clear H1
  have H1 := H1x
  clear H1x
  have Rw5 : Hid (Loc w w5 [(q1, 26, rcells r vc), (q2, 26, rcells r v1)]) := k_
  clear k_ hW_ Rw4
  clear hC_ hR_
  refine wpList_nil ?_
  go_upto_region 5 with fail
  refine wp_region_lit ?_
  refine wl rfl (.agg (rcells r v1).toArray) _ (run_loadA ag26 (.tmp 6) rfl q2 (0) rfl (rcells r v1) ((HF.out.1.rok.cp H1.out.isSl)).len (Rw5.out.rows 1 rfl)) ?_
  simp only [Act.put, List.setIfInBounds_toArray, List.set_cons_succ, List.set_cons_zero]
  refine wl rfl (.bool b) _ (run_mvZ (.tmp 1) rfl (.bool b) rfl) ?_
  simp only [Act.put, List.setIfInBounds_toArray, List.set_cons_succ, List.set_cons_zero]
  refine wpList_callW eN15 [.tmp 17, .tmp 18] _ rfl rfl [(.agg (rcells r v1).toArray), (.bool b)] rfl ?_
  refine (HC1.out w5 v1 (H1.out.fit (HF.out.1.rok.cp H1.out.isSl) (by have := HF.out.2; omega))).mono ?_
  rintro e w6 ⟨v2, rfl, b_, o_⟩
  refine ⟨_, rfl, ?_⟩
  obtain ⟨bs, hbs⟩ : ∃ z, z = w5.heap.size := ⟨_, rfl⟩
  rw [← hbs] at o_
  have HBS : Hid (w.heap.size ≤ bs ∧ ∀ b, v1.ownBlock = some b → b < bs) := ⟨by rw [hbs]; exact Rw5.out.below.size, fun b hb => by rw [hbs]; exact (H1.out.lt b hb).2⟩
  clear hbs
  have H1x : Hid (POwn w6 w.heap.size v1 r.cp) := H1.out.later b_
  clear H1
  have H1 := H1x
  clear H1x
  have H2 : Hid (POwn w6 bs v2 R1.cp) := o_
  clear o_
  have Rw6 : Hid (Loc w w6 [(q1, 26, rcells r vc), (q2, 26, rcells r v1)]) := Rw5.out.later b_
  clear Rw5 b_
  simp only [Act.put, List.setIfInBounds_toArray, List.set_cons_succ, List.set_cons_zero]
  refine wl rfl (.tuple #[(.agg (rcells R1 v2).toArray), (.int .i64 er)]) _ (run_mvZ (.tmp 19) rfl (.tuple #[(.agg (rcells R1 v2).toArray), (.int .i64 er)]) rfl) ?_
  simp only [Act.put, List.setIfInBounds_toArray, List.set_cons_succ, List.set_cons_zero]
  refine wl rfl (.agg (rcells R1 v2).toArray) _ (run_extZ (.tmp 16) 0 rfl #[(.agg (rcells R1 v2).toArray), (.int .i64 er)] rfl (.agg (rcells R1 v2).toArray) rfl) ?_
  simp only [Act.put, List.setIfInBounds_toArray, List.set_cons_succ, List.set_cons_zero]
  refine wl rfl (.int .i64 er) _ (run_extZ (.tmp 16) 1 rfl #[(.agg (rcells R1 v2).toArray), (.int .i64 er)] rfl (.int .i64 er) rfl) ?_
  simp only [Act.put, List.setIfInBounds_toArray, List.set_cons_succ, List.set_cons_zero]
  refine wl rfl (ptr w6.heap.size) _ (run_allocA (rcells rz (.slice none 0 0)) zero26 rfl) ?_
  have k_ := Rw6.out.box 26 (rcells rz (.slice none 0 0))
  have hB_ := below_alloc w6 (.cells (rcells rz (.slice none 0 0)).toArray 26)
  obtain ⟨w7, hW_⟩ : ∃ U_ : World, U_ = w6.alloc (.cells (rcells rz (.slice none 0 0)).toArray 26) := ⟨_, rfl⟩
  obtain ⟨q3, hq_⟩ : ∃ q, q = w6.heap.size := ⟨_, rfl⟩
  rw [← hW_, ← hq_] at k_
  rw [← hW_] at hB_
  rw [← hW_, ← hq_]
  clear hq_
  have H1x : Hid (POwn w7 w.heap.size v1 r.cp) := H1.out.later hB_
  clear H1
  have H1 := H1x
  clear H1x
  have H2x : Hid (POwn w7 bs v2 R1.cp) := H2.out.later hB_
  clear H2
  have H2 := H2x
  clear H2x
  have Rw7 : Hid (Loc w w7 [(q1, 26, rcells r vc), (q2, 26, rcells r v1), (q3, 26, rcells rz (.slice none 0 0))]) := k_
  clear k_ hW_ Rw6
  clear hB_
  simp only [Act.put, List.setIfInBounds_toArray, List.set_cons_succ, List.set_cons_zero]
  obtain ⟨hst_, k_, hC_⟩ := Rw7.out.st26 2 rfl (Rok.nil).len (rcells R1 v2) ((show Rok R1 v2 from ⟨HR1.out.1.1, HR1.out.1.2, H2.out.isSl⟩)).len ((show Rok R1 v2 from ⟨HR1.out.1.1, HR1.out.1.2, H2.out.isSl⟩)).one
  have hR_ := Rw7.out.at 2 rfl
  refine wlS rfl rfl _ (run_stV (.tmp 7) (.tmp 20) rfl q3 0 rfl _ rfl hst_) ?_
  obtain ⟨w8, hW_⟩ : ∃ U_ : World, U_ = w7.setRow q3 (rcells R1 v2).toArray := ⟨_, rfl⟩
  rw [← hW_] at k_ hC_ ⊢
  clear hst_
  have H1x : Hid (POwn w8 w.heap.size v1 r.cp) := H1.out.off hR_ (by decide) hC_
  clear H1
  have H1 := H1x
  clear H1x
  have H2x : Hid (POwn w8 bs v2 R1.cp) := H2.out.off hR_ (by decide) hC_
  clear H2
  have H2 := H2x
  clear H2x
  have Rw8 : Hid (Loc w w8 [(q1, 26, rcells r vc), (q2, 26, rcells r v1), (q3, 26, rcells R1 v2)]) := k_
  clear k_ hW_ Rw7
  clear hC_ hR_
  refine wl rfl (.int .i64 er) _ (run_asZ (.tmp 21) rfl (.int .i64 er) rfl) ?_
  simp only [Act.put, List.setIfInBounds_toArray, List.set_cons_succ, List.set_cons_zero]
  refine wpList_nil ?_
  go_upto_region 6 with fail
  refine wp_region_lit ?_
  refine wl rfl (.agg (rcells r vc).toArray) _ (run_loadA ag26 (.tmp 2) rfl q1 (0) rfl (rcells r vc) (HF.out.1.rok).len (Rw8.out.rows 0 rfl)) ?_
  simp only [Act.put, List.setIfInBounds_toArray, List.set_cons_succ, List.set_cons_zero]
  refine wl rfl (.bool b) _ (run_mvZ (.tmp 1) rfl (.bool b) rfl) ?_
  simp only [Act.put, List.setIfInBounds_toArray, List.set_cons_succ, List.set_cons_zero]
  refine wpList_callW eN16 [.tmp 23, .tmp 24] _ rfl rfl [(.agg (rcells r vc).toArray), (.bool b)] rfl ?_
  refine (HC2.out w8 vc (HF.out.1.later Rw8.out.below)).mono ?_
  rintro e w9 ⟨v3, rfl, b_, o_⟩
  refine ⟨_, rfl, ?_⟩
  have H1x : Hid (POwn w9 w.heap.size v1 r.cp) := H1.out.later b_
  clear H1
  have H1 := H1x
  clear H1x
  have H2x : Hid (POwn w9 bs v2 R1.cp) := H2.out.later b_
  clear H2
  have H2 := H2x
  clear H2x
  have H3 : Hid (POwn w9 w.heap.size v3 R1.cp) := o_.weaken Rw8.out.below.size
  clear o_
  have Rw9 : Hid (Loc w w9 [(q1, 26, rcells r vc), (q2, 26, rcells r v1), (q3, 26, rcells R1 v2)]) := Rw8.out.later b_
  clear Rw8 b_
  simp only [Act.put, List.setIfInBounds_toArray, List.set_cons_succ, List.set_cons_zero]
  refine wl rfl (.tuple #[(.agg (rcells R1 v3).toArray), (.int .i64 er)]) _ (run_mvZ (.tmp 25) rfl (.tuple #[(.agg (rcells R1 v3).toArray), (.int .i64 er)]) rfl) ?_
  simp only [Act.put, List.setIfInBounds_toArray, List.set_cons_succ, List.set_cons_zero]
  refine wl rfl (.agg (rcells R1 v3).toArray) _ (run_extZ (.tmp 22) 0 rfl #[(.agg (rcells R1 v3).toArray), (.int .i64 er)] rfl (.agg (rcells R1 v3).toArray) rfl) ?_
  simp only [Act.put, List.setIfInBounds_toArray, List.set_cons_succ, List.set_cons_zero]
  refine wl rfl (.int .i64 er) _ (run_extZ (.tmp 22) 1 rfl #[(.agg (rcells R1 v3).toArray), (.int .i64 er)] rfl (.int .i64 er) rfl) ?_
  simp only [Act.put, List.setIfInBounds_toArray, List.set_cons_succ, List.set_cons_zero]
  refine wl rfl (ptr w9.heap.size) _ (run_allocA (rcells rz (.slice none 0 0)) zero26 rfl) ?_
  have k_ := Rw9.out.box 26 (rcells rz (.slice none 0 0))
  have hB_ := below_alloc w9 (.cells (rcells rz (.slice none 0 0)).toArray 26)
  obtain ⟨w10, hW_⟩ : ∃ U_ : World, U_ = w9.alloc (.cells (rcells rz (.slice none 0 0)).toArray 26) := ⟨_, rfl⟩
  obtain ⟨q4, hq_⟩ : ∃ q, q = w9.heap.size := ⟨_, rfl⟩
  rw [← hW_, ← hq_] at k_
  rw [← hW_] at hB_
  rw [← hW_, ← hq_]
  clear hq_
  have H1x : Hid (POwn w10 w.heap.size v1 r.cp) := H1.out.later hB_
  clear H1
  have H1 := H1x
  clear H1x
  have H2x : Hid (POwn w10 bs v2 R1.cp) := H2.out.later hB_
  clear H2
  have H2 := H2x
  clear H2x
  have H3x : Hid (POwn w10 w.heap.size v3 R1.cp) := H3.out.later hB_
  clear H3
  have H3 := H3x
  clear H3x
  have Rw10 : Hid (Loc w w10 [(q1, 26, rcells r vc), (q2, 26, rcells r v1), (q3, 26, rcells R1 v2), (q4, 26, rcells rz (.slice none 0 0))]) := k_
  clear k_ hW_ Rw9
  clear hB_
  simp only [Act.put, List.setIfInBounds_toArray, List.set_cons_succ, List.set_cons_zero]
  obtain ⟨hst_, k_, hC_⟩ := Rw10.out.st26 3 rfl (Rok.nil).len (rcells R1 v3) ((show Rok R1 v3 from ⟨HR1.out.1.1, HR1.out.1.2, H3.out.isSl⟩)).len ((show Rok R1 v3 from ⟨HR1.out.1.1, HR1.out.1.2, H3.out.isSl⟩)).one
  have hR_ := Rw10.out.at 3 rfl
  refine wlS rfl rfl _ (run_stV (.tmp 9) (.tmp 26) rfl q4 0 rfl _ rfl hst_) ?_
  obtain ⟨w11, hW_⟩ : ∃ U_ : World, U_ = w10.setRow q4 (rcells R1 v3).toArray := ⟨_, rfl⟩
  rw [← hW_] at k_ hC_ ⊢
  clear hst_
  have H1x : Hid (POwn w11 w.heap.size v1 r.cp) := H1.out.off hR_ (by decide) hC_
  clear H1
  have H1 := H1x
  clear H1x
  have H2x : Hid (POwn w11 bs v2 R1.cp) := H2.out.off hR_ (by decide) hC_
  clear H2
  have H2 := H2x
  clear H2x
  have H3x : Hid (POwn w11 w.heap.size v3 R1.cp) := H3.out.off hR_ (by decide) hC_
  clear H3
  have H3 := H3x
  clear H3x
  have Rw11 : Hid (Loc w w11 [(q1, 26, rcells r vc), (q2, 26, rcells r v1), (q3, 26, rcells R1 v2), (q4, 26, rcells R1 v3)]) := k_
  clear k_ hW_ Rw10
  clear hC_ hR_
  refine wl rfl (.int .i64 er) _ (run_asZ (.tmp 27) rfl (.int .i64 er) rfl) ?_
  simp only [Act.put, List.setIfInBounds_toArray, List.set_cons_succ, List.set_cons_zero]
  refine wpList_nil ?_
  go_upto_region 7 with fail
  refine wp_region_lit ?_
  refine wl rfl (.int .i64 er) _ (run_mvZ (.tmp 8) rfl (.int .i64 er) rfl) ?_
  simp only [Act.put, List.setIfInBounds_toArray, List.set_cons_succ, List.set_cons_zero]
  refine wl rfl (.int .i64 er) _ (run_mvZ (.tmp 10) rfl (.int .i64 er) rfl) ?_
  simp only [Act.put, List.setIfInBounds_toArray, List.set_cons_succ, List.set_cons_zero]
  refine wl rfl (.bool false) _ (run_neZ (.tmp 28) (.tmp 29) rfl er er rfl rfl false (by simp)) ?_
  simp only [Act.put, List.setIfInBounds_toArray, List.set_cons_succ, List.set_cons_zero]
  refine wl rfl (.bool false) _ (run_mvZ (.tmp 30) rfl (.bool false) rfl) ?_
  simp only [Act.put, List.setIfInBounds_toArray, List.set_cons_succ, List.set_cons_zero]
  refine wl (by kernel_rfl) (.agg (rcells R1 v2).toArray) _ (run_loadA ag26 (.tmp 7) rfl q3 (0) rfl (rcells R1 v2) ((show Rok R1 v2 from ⟨HR1.out.1.1, HR1.out.1.2, H2.out.isSl⟩)).len (Rw11.out.rows 2 rfl)) ?_
  simp only [Act.put, List.setIfInBounds_toArray, List.set_cons_succ, List.set_cons_zero]
  refine wl (by kernel_rfl) (.agg (rcells R1 v3).toArray) _ (run_loadA ag26 (.tmp 9) rfl q4 (0) rfl (rcells R1 v3) ((show Rok R1 v3 from ⟨HR1.out.1.1, HR1.out.1.2, H3.out.isSl⟩)).len (Rw11.out.rows 3 rfl)) ?_
  simp only [Act.put, List.setIfInBounds_toArray, List.set_cons_succ, List.set_cons_zero]
  refine wpList_callW eN13 [.tmp 32, .tmp 33] _ (by kernel_rfl) rfl [(.agg (rcells R1 v2).toArray), (.agg (rcells R1 v3).toArray)] rfl ?_
  refine (same_yes R1 v2 v3 w11 (H2.out.fitR HR1.out.1 (by have := HF.out.2; have := HR1.out.2; omega)) (H3.out.fitR HR1.out.1 (by have := HF.out.2; have := HR1.out.2; omega))).mono ?_
  rintro e w12 ⟨rfl, b_⟩
  refine ⟨_, rfl, ?_⟩
  have H1x : Hid (POwn w12 w.heap.size v1 r.cp) := H1.out.later b_
  clear H1
  have H1 := H1x
  clear H1x
  have H2x : Hid (POwn w12 bs v2 R1.cp) := H2.out.later b_
  clear H2
  have H2 := H2x
  clear H2x
  have H3x : Hid (POwn w12 w.heap.size v3 R1.cp) := H3.out.later b_
  clear H3
  have H3 := H3x
  clear H3x
  have Rw12 : Hid (Loc w w12 [(q1, 26, rcells r vc), (q2, 26, rcells r v1), (q3, 26, rcells R1 v2), (q4, 26, rcells R1 v3)]) := Rw11.out.later b_
  clear Rw11 b_
  simp only [Act.put, List.setIfInBounds_toArray, List.set_cons_succ, List.set_cons_zero]
  refine wl (by kernel_rfl) (.bool false) _ (run_not (.tmp 34) 4 rfl true rfl) ?_
  simp only [Act.put, List.setIfInBounds_toArray, List.set_cons_succ, List.set_cons_zero]
  refine wl rfl (.bool false) _ (run_pickZ (.tmp 31) (.const (.bool true)) (.tmp 35) rfl false (.bool false) rfl rfl) ?_
  simp only [Act.put, List.setIfInBounds_toArray, List.set_cons_succ, List.set_cons_zero]
  refine wpList_nil ?_
  go_upto_region 9 with fail
  refine wp_region_lit ?_
  refine wl rfl (.agg (rcells R1 v2).toArray) _ (run_loadA ag26 (.tmp 7) rfl q3 (0) rfl (rcells R1 v2) ((show Rok R1 v2 from ⟨HR1.out.1.1, HR1.out.1.2, H2.out.isSl⟩)).len (Rw12.out.rows 2 rfl)) ?_
  simp only [Act.put, List.setIfInBounds_toArray, List.set_cons_succ, List.set_cons_zero]
  refine wpList_callW eN14 [.tmp 37] _ rfl rfl [(.agg (rcells R1 v2).toArray)] rfl ?_
  refine (spoil_any R1 v2 R1.cp.length 0 w12 (show Rok R1 v2 from ⟨HR1.out.1.1, HR1.out.1.2, H2.out.isSl⟩) (H2.out.weaken (Nat.zero_le _)).pn (by have := HF.out.2; have := HR1.out.2; omega) (Nat.zero_le _)).mono ?_
  rintro e w13 ⟨rfl, g_⟩
  refine ⟨_, rfl, ?_⟩
  have H1x : Hid (POwn w13 w.heap.size v1 r.cp) := H1.out.keep fun b hb _ hlt => g_.block b hlt fun e_ => by have h1 := HBS.out.2 b hb; have h2 := (H2.out.lt b e_.symm).1; omega
  clear H1
  have H1 := H1x
  clear H1x
  have Rw13 : Hid (Loc w w13 [(q1, 26, rcells r vc), (q2, 26, rcells r v1), (q3, 26, rcells R1 v2), (q4, 26, rcells R1 v3)]) := Rw12.out.grow H2.out g_ HBS.out.1 rfl
  clear Rw12 H2 H3 g_
  simp only [Act.put, List.setIfInBounds_toArray, List.set_cons_succ, List.set_cons_zero]
  refine wpList_nil ?_
  go_upto_region 10 with fail
  refine wp_region_lit ?_
  refine wl rfl (.bool true) _ (run_mvZ (.tmp 5) rfl (.bool true) rfl) ?_
  simp only [Act.put, List.setIfInBounds_toArray, List.set_cons_succ, List.set_cons_zero]
  refine wl rfl (.bool true) _ (run_mvZ (.tmp 39) rfl (.bool true) rfl) ?_
  simp only [Act.put, List.setIfInBounds_toArray, List.set_cons_succ, List.set_cons_zero]
  refine wl (by kernel_rfl) (.agg (rcells r v1).toArray) _ (run_loadA ag26 (.tmp 6) rfl q2 (0) rfl (rcells r v1) ((HF.out.1.rok.cp H1.out.isSl)).len (Rw13.out.rows 1 rfl)) ?_
  simp only [Act.put, List.setIfInBounds_toArray, List.set_cons_succ, List.set_cons_zero]
  refine wl (by kernel_rfl) (.agg (rcells r vc).toArray) _ (run_loadA ag26 (.tmp 2) rfl q1 (0) rfl (rcells r vc) (HF.out.1.rok).len (Rw13.out.rows 0 rfl)) ?_
  simp only [Act.put, List.setIfInBounds_toArray, List.set_cons_succ, List.set_cons_zero]
  refine wpList_callW eN13 [.tmp 41, .tmp 42] _ (by kernel_rfl) rfl [(.agg (rcells r v1).toArray), (.agg (rcells r vc).toArray)] rfl ?_
  refine (same_yes r v1 vc w13 (H1.out.fit (HF.out.1.rok.cp H1.out.isSl) (by have := HF.out.2; omega)) (HF.out.1.later Rw13.out.below)).mono ?_
  rintro e w14 ⟨rfl, b_⟩
  refine ⟨_, rfl, ?_⟩
  have H1x : Hid (POwn w14 w.heap.size v1 r.cp) := H1.out.later b_
  clear H1
  have H1 := H1x
  clear H1x
  have Rw14 : Hid (Loc w w14 [(q1, 26, rcells r vc), (q2, 26, rcells r v1), (q3, 26, rcells R1 v2), (q4, 26, rcells R1 v3)]) := Rw13.out.later b_
  clear Rw13 b_
  simp only [Act.put, List.setIfInBounds_toArray, List.set_cons_succ, List.set_cons_zero]
  refine wl rfl (.bool true) _ (run_pickZ (.tmp 40) (.tmp 43) (.const (.bool false)) rfl true (.bool true) rfl rfl) ?_
  simp only [Act.put, List.setIfInBounds_toArray, List.set_cons_succ, List.set_cons_zero]
  refine wl rfl (.bool true) _ (run_asZ (.tmp 44) rfl (.bool true) rfl) ?_
  simp only [Act.put, List.setIfInBounds_toArray, List.set_cons_succ, List.set_cons_zero]
  refine wpList_nil ?_
  go_wp2_with fail
  first | (rw [HPQ.out]; exact ⟨rfl, Rw14.out.below⟩) | (go_ret; rw [HPQ.out]; exact ⟨rfl, Rw14.out.below⟩)
set_option maxHeartbeats 4000000 in
set_option maxRecDepth 100000 in
theorem deletes_any (r : Rc) (vc : Value) (n : Int) (w : World) (hf : Fits w r vc) (hz : (r.cp.length + 1) * 32 ≤ 140737488355328) : Calls Try.prog 5 #[.agg (rcells r vc).toArray, .int .i64 n] w fun e w' => e = .returned (.bool true) ∧ Below w.heap.size w w' := by
  obtain ⟨R1, hR1⟩ : ∃ z, z = (delS r n).1 := ⟨_, rfl⟩
  obtain ⟨er, her⟩ : ∃ z, z = (delS r n).2 := ⟨_, rfl⟩
  have hz0 : r.cp.length * 32 ≤ 140737488355328 := by omega
  have HC1 : Hid (∀ (U : World) (vx : Value), Fits U r vx → Calls Try.prog 17 #[.agg (rcells r vx).toArray, .int .i64 n] U fun e w' => ∃ v', e = .returned (.tuple #[.agg (rcells R1 v').toArray, .int .i64 er]) ∧ Below U.heap.size U w' ∧ POwn w' U.heap.size v' R1.cp) := fun U vx h => hR1 ▸ her ▸ delete_any r vx n U h hz0
  have HC2 : Hid (∀ (U : World) (vx : Value), Fits U r vx → Calls Try.prog 18 #[.agg (rcells r vx).toArray, .int .i64 n] U fun e w' => ∃ v', e = .returned (.tuple #[.agg (rcells R1 v').toArray, .int .i64 er]) ∧ Below U.heap.size U w' ∧ POwn w' U.heap.size v' R1.cp) := fun U vx h => hR1 ▸ her ▸ rdelete_any r vx n U h hz0
  have HR1 : Hid ((R1.root.length = 32 ∧ ∀ c ∈ R1.root, c < 256) ∧ R1.cp.length ≤ r.cp.length) := ⟨hR1 ▸ del_root ⟨hf.root, hf.bytes⟩ n, hR1 ▸ del_cp r n⟩
  have HF : Hid (Fits w r vc ∧ (r.cp.length + 1) * 32 ≤ 140737488355328) := ⟨hf, hz⟩
  clear hf hz hz0 hR1 her
  obtain ⟨PQ, hPQ⟩ : ∃ PQ : Ending → World → Prop, PQ = fun (e : Ending) (w' : World) => e = .returned (.bool true) ∧ Below w.heap.size w w' := ⟨_, rfl⟩
  have HPQ : Hid (PQ = fun (e : Ending) (w' : World) => e = .returned (.bool true) ∧ Below w.heap.size w w') := hPQ
  rw [← hPQ]
  clear hPQ
  have R0 : Hid (Loc w w []) := Loc.nil (Below.refl _ w)
  go_enter Try.func5, Try.ntmps5
  go_upto_region 0 with fail
  refine wp_region_lit ?_
  refine wl rfl (ptr w.heap.size) _ (run_boxA (.tmp 0) rfl (rcells r vc) rfl) ?_
  have k_ := R0.out.box 26 (rcells r vc)
  obtain ⟨w1, hW_⟩ : ∃ W, W = w.alloc (.cells (rcells r vc).toArray 26) := ⟨_, rfl⟩
  obtain ⟨q1, hq_⟩ : ∃ q, q = w.heap.size := ⟨_, rfl⟩
  rw [← hW_, ← hq_] at k_
  rw [← hW_, ← hq_]
  clear hq_
  have Rw1 : Hid (Loc w w1 [(q1, 26, rcells r vc)]) := k_
  clear k_ hW_ R0
  simp only [Act.put, List.setIfInBounds_toArray, List.set_cons_succ, List.set_cons_zero]
  refine wl rfl (.bool false) _ (run_asZ (.const (.bool false)) rfl (.bool false) rfl) ?_
  simp only [Act.put, List.setIfInBounds_toArray, List.set_cons_succ, List.set_cons_zero]
  refine wpList_nil ?_
  go_upto_region 1 with fail
  refine wp_region_lit ?_
  refine wpList_callW eN9 [] _ rfl rfl [] rfl ?_
  refine (shown_any w1).mono ?_
  rintro e w2 ⟨rfl, b_⟩
  refine ⟨_, rfl, ?_⟩
  have Rw2 : Hid (Loc w w2 [(q1, 26, rcells r vc)]) := Rw1.out.later b_
  clear Rw1 b_
  simp only [Act.put, List.setIfInBounds_toArray, List.set_cons_succ, List.set_cons_zero]
  refine wl rfl (.bool true) _ (run_asZ (.tmp 11) rfl (.bool true) rfl) ?_
  simp only [Act.put, List.setIfInBounds_toArray, List.set_cons_succ, List.set_cons_zero]
  refine wpList_nil ?_
  go_upto_region 2 with fail
  refine wp_region_lit ?_
  refine wl rfl (.bool true) _ (run_mvZ (.tmp 5) rfl (.bool true) rfl) ?_
  simp only [Act.put, List.setIfInBounds_toArray, List.set_cons_succ, List.set_cons_zero]
  refine wl rfl (.bool false) _ (run_not (.tmp 12) 4 rfl true rfl) ?_
  simp only [Act.put, List.setIfInBounds_toArray, List.set_cons_succ, List.set_cons_zero]
  refine wpList_nil ?_
  go_upto_region 4 with fail
  refine wp_region_lit ?_
  refine wl rfl (.agg (rcells r vc).toArray) _ (run_loadA ag26 (.tmp 2) rfl q1 (0) rfl (rcells r vc) (HF.out.1.rok).len (Rw2.out.rows 0 rfl)) ?_
  simp only [Act.put, List.setIfInBounds_toArray, List.set_cons_succ, List.set_cons_zero]
  refine wpList_callW eN10 [.tmp 14] _ rfl rfl [(.agg (rcells r vc).toArray)] rfl ?_
  refine (copied_any r vc w2 (HF.out.1.later Rw2.out.below) (by have := HF.out.2; omega)).mono ?_
  rintro e w3 ⟨v1, rfl, b_, o_⟩
  refine ⟨_, rfl, ?_⟩
  have H1 : Hid (POwn w3 w.heap.size v1 r.cp) := o_.weaken Rw2.out.below.size
  clear o_
  have Rw3 : Hid (Loc w w3 [(q1, 26, rcells r vc)]) := Rw2.out.later b_
  clear Rw2 b_
  simp only [Act.put, List.setIfInBounds_toArray, List.set_cons_succ, List.set_cons_zero]
  refine wl rfl (ptr w3.heap.size) _ (run_allocA (rcells rz (.slice none 0 0)) zero26 rfl) ?_
  have k_ := Rw3.out.box 26 (rcells rz (.slice none 0 0))
  have hB_ := below_alloc w3 (.cells (rcells rz (.slice none 0 0)).toArray 26)
  obtain ⟨w4, hW_⟩ : ∃ U_ : World, U_ = w3.alloc (.cells (rcells rz (.slice none 0 0)).toArray 26) := ⟨_, rfl⟩
  obtain ⟨q2, hq_⟩ : ∃ q, q = w3.heap.size := ⟨_, rfl⟩
  rw [← hW_, ← hq_] at k_
  rw [← hW_] at hB_
  rw [← hW_, ← hq_]
  clear hq_
  have H1x : Hid (POwn w4 w.heap.size v1 r.cp) := H1.out.later hB_
  clear H1
  have H1 := H1x
  clear H1x
  have Rw4 : Hid (Loc w w4 [(q1, 26, rcells r vc), (q2, 26, rcells rz (.slice none 0 0))]) := k_
  clear k_ hW_ Rw3
  clear hB_
  simp only [Act.put, List.setIfInBounds_toArray, List.set_cons_succ, List.set_cons_zero]
  obtain ⟨hst_, k_, hC_⟩ := Rw4.out.st26 1 rfl (Rok.nil).len (rcells r v1) ((HF.out.1.rok.cp H1.out.isSl)).len ((HF.out.1.rok.cp H1.out.isSl)).one
  have hR_ := Rw4.out.at 1 rfl
  refine wlS rfl rfl _ (run_stV (.tmp 6) (.tmp 15) rfl q2 0 rfl _ rfl hst_) ?_
  obtain ⟨w5, hW_⟩ : ∃ U_ : World, U_ = w4.setRow q2 (rcells r v1).toArray := ⟨_, rfl⟩
  rw [← hW_] at k_ hC_ ⊢
  clear hst_
  have H1x : Hid (POwn w5 w.heap.size v1 r.cp) := H1.out.off hR_ (by decide) hC_
  clear H1
  have H1 := H1x
  clear H1x
  have Rw5 : Hid (Loc w w5 [(q1, 26, rcells r vc), (q2, 26, rcells r v1)]) := k_
  clear k_ hW_ Rw4
  clear hC_ hR_
  refine wpList_nil ?_
  go_upto_region 5 with fail
  refine wp_region_lit ?_
  refine wl rfl (.agg (rcells r v1).toArray) _ (run_loadA ag26 (.tmp 6) rfl q2 (0) rfl (rcells r v1) ((HF.out.1.rok.cp H1.out.isSl)).len (Rw5.out.rows 1 rfl)) ?_
  simp only [Act.put, List.setIfInBounds_toArray, List.set_cons_succ, List.set_cons_zero]
  refine wl rfl (.int .i64 n) _ (run_mvZ (.tmp 1) rfl (.int .i64 n) rfl) ?_
  simp only [Act.put, List.setIfInBounds_toArray, List.set_cons_succ, List.set_cons_zero]
  refine wpList_callW eN17 [.tmp 17, .tmp 18] _ rfl rfl [(.agg (rcells r v1).toArray), (.int .i64 n)] rfl ?_
  refine (HC1.out w5 v1 (H1.out.fit (HF.out.1.rok.cp H1.out.isSl) (by have := HF.out.2; omega))).mono ?_
  rintro e w6 ⟨v2, rfl, b_, o_⟩
  refine ⟨_, rfl, ?_⟩
  obtain ⟨bs, hbs⟩ : ∃ z, z = w5.heap.size := ⟨_, rfl⟩
  rw [← hbs] at o_
  have HBS : Hid (w.heap.size ≤ bs ∧ ∀ b, v1.ownBlock = some b → b < bs) := ⟨by rw [hbs]; exact Rw5.out.below.size, fun b hb => by rw [hbs]; exact (H1.out.lt b hb).2⟩
  clear hbs
  have H1x : Hid (POwn w6 w.heap.size v1 r.cp) := H1.out.later b_
  clear H1
  have H1 := H1x
  clear H1x
  have H2 : Hid (POwn w6 bs v2 R1.cp) := o_
  clear o_
  have Rw6 : Hid (Loc w w6 [(q1, 26, rcells r vc), (q2, 26, rcells r v1)]) := Rw5.out.later b_
  clear Rw5 b_
  simp only [Act.put, List.setIfInBounds_toArray, List.set_cons_succ, List.set_cons_zero]
  refine wl rfl (.tuple #[(.agg (rcells R1 v2).toArray), (.int .i64 er)]) _ (run_mvZ (.tmp 19) rfl (.tuple #[(.agg (rcells R1 v2).toArray), (.int .i64 er)]) rfl) ?_
  simp only [Act.put, List.setIfInBounds_toArray, List.set_cons_succ, List.set_cons_zero]
  refine wl rfl (.agg (rcells R1 v2).toArray) _ (run_extZ (.tmp 16) 0 rfl #[(.agg (rcells R1 v2).toArray), (.int .i64 er)] rfl (.agg (rcells R1 v2).toArray) rfl) ?_
  simp only [Act.put, List.setIfInBounds_toArray, List.set_cons_succ, List.set_cons_zero]
  refine wl rfl (.int .i64 er) _ (run_extZ (.tmp 16) 1 rfl #[(.agg (rcells R1 v2).toArray), (.int .i64 er)] rfl (.int .i64 er) rfl) ?_
  simp only [Act.put, List.setIfInBounds_toArray, List.set_cons_succ, List.set_cons_zero]
  refine wl rfl (ptr w6.heap.size) _ (run_allocA (rcells rz (.slice none 0 0)) zero26 rfl) ?_
  have k_ := Rw6.out.box 26 (rcells rz (.slice none 0 0))
  have hB_ := below_alloc w6 (.cells (rcells rz (.slice none 0 0)).toArray 26)
  obtain ⟨w7, hW_⟩ : ∃ U_ : World, U_ = w6.alloc (.cells (rcells rz (.slice none 0 0)).toArray 26) := ⟨_, rfl⟩
  obtain ⟨q3, hq_⟩ : ∃ q, q = w6.heap.size := ⟨_, rfl⟩
  rw [← hW_, ← hq_] at k_
  rw [← hW_] at hB_
  rw [← hW_, ← hq_]
  clear hq_
  have H1x : Hid (POwn w7 w.heap.size v1 r.cp) := H1.out.later hB_
  clear H1
  have H1 := H1x
  clear H1x
  have H2x : Hid (POwn w7 bs v2 R1.cp) := H2.out.later hB_
  clear H2
  have H2 := H2x
  clear H2x
  have Rw7 : Hid (Loc w w7 [(q1, 26, rcells r vc), (q2, 26, rcells r v1), (q3, 26, rcells rz (.slice none 0 0))]) := k_
  clear k_ hW_ Rw6
  clear hB_
  simp only [Act.put, List.setIfInBounds_toArray, List.set_cons_succ, List.set_cons_zero]
  obtain ⟨hst_, k_, hC_⟩ := Rw7.out.st26 2 rfl (Rok.nil).len (rcells R1 v2) ((show Rok R1 v2 from ⟨HR1.out.1.1, HR1.out.1.2, H2.out.isSl⟩)).len ((show Rok R1 v2 from ⟨HR1.out.1.1, HR1.out.1.2, H2.out.isSl⟩)).one
  have hR_ := Rw7.out.at 2 rfl
  refine wlS rfl rfl _ (run_stV (.tmp 7) (.tmp 20) rfl q3 0 rfl _ rfl hst_) ?_
  obtain ⟨w8, hW_⟩ : ∃ U_ : World, U_ = w7.setRow q3 (rcells R1 v2).toArray := ⟨_, rfl⟩
  rw [← hW_] at k_ hC_ ⊢
  clear hst_
  have H1x : Hid (POwn w8 w.heap.size v1 r.cp) := H1.out.off hR_ (by decide) hC_
  clear H1
  have H1 := H1x
  clear H1x
  have H2x : Hid (POwn w8 bs v2 R1.cp) := H2.out.off hR_ (by decide) hC_
  clear H2
  have H2 := H2x
  clear H2x
  have Rw8 : Hid (Loc w w8 [(q1, 26, rcells r vc), (q2, 26, rcells r v1), (q3, 26, rcells R1 v2)]) := k_
  clear k_ hW_ Rw7
  clear hC_ hR_
  refine wl rfl (.int .i64 er) _ (run_asZ (.tmp 21) rfl (.int .i64 er) rfl) ?_
  simp only [Act.put, List.setIfInBounds_toArray, List.set_cons_succ, List.set_cons_zero]
  refine wpList_nil ?_
  go_upto_region 6 with fail
  refine wp_region_lit ?_
  refine wl rfl (.agg (rcells r vc).toArray) _ (run_loadA ag26 (.tmp 2) rfl q1 (0) rfl (rcells r vc) (HF.out.1.rok).len (Rw8.out.rows 0 rfl)) ?_
  simp only [Act.put, List.setIfInBounds_toArray, List.set_cons_succ, List.set_cons_zero]
  refine wl rfl (.int .i64 n) _ (run_mvZ (.tmp 1) rfl (.int .i64 n) rfl) ?_
  simp only [Act.put, List.setIfInBounds_toArray, List.set_cons_succ, List.set_cons_zero]
  refine wpList_callW eN18 [.tmp 23, .tmp 24] _ rfl rfl [(.agg (rcells r vc).toArray), (.int .i64 n)] rfl ?_
  refine (HC2.out w8 vc (HF.out.1.later Rw8.out.below)).mono ?_
  rintro e w9 ⟨v3, rfl, b_, o_⟩
  refine ⟨_, rfl, ?_⟩
  have H1x : Hid (POwn w9 w.heap.size v1 r.cp) := H1.out.later b_
  clear H1
  have H1 := H1x
  clear H1x
  have H2x : Hid (POwn w9 bs v2 R1.cp) := H2.out.later b_
  clear H2
  have H2 := H2x
  clear H2x
  have H3 : Hid (POwn w9 w.heap.size v3 R1.cp) := o_.weaken Rw8.out.below.size
  clear o_
  have Rw9 : Hid (Loc w w9 [(q1, 26, rcells r vc), (q2, 26, rcells r v1), (q3, 26, rcells R1 v2)]) := Rw8.out.later b_
  clear Rw8 b_
  simp only [Act.put, List.setIfInBounds_toArray, List.set_cons_succ, List.set_cons_zero]
  refine wl rfl (.tuple #[(.agg (rcells R1 v3).toArray), (.int .i64 er)]) _ (run_mvZ (.tmp 25) rfl (.tuple #[(.agg (rcells R1 v3).toArray), (.int .i64 er)]) rfl) ?_
  simp only [Act.put, List.setIfInBounds_toArray, List.set_cons_succ, List.set_cons_zero]
  refine wl rfl (.agg (rcells R1 v3).toArray) _ (run_extZ (.tmp 22) 0 rfl #[(.agg (rcells R1 v3).toArray), (.int .i64 er)] rfl (.agg (rcells R1 v3).toArray) rfl) ?_
  simp only [Act.put, List.setIfInBounds_toArray, List.set_cons_succ, List.set_cons_zero]
  refine wl rfl (.int .i64 er) _ (run_extZ (.tmp 22) 1 rfl #[(.agg (rcells R1 v3).toArray), (.int .i64 er)] rfl (.int .i64 er) rfl) ?_
  simp only [Act.put, List.setIfInBounds_toArray, List.set_cons_succ, List.set_cons_zero]
  refine wl rfl (ptr w9.heap.size) _ (run_allocA (rcells rz (.slice none 0 0)) zero26 rfl) ?_
  have k_ := Rw9.out.box 26 (rcells rz (.slice none 0 0))
  have hB_ := below_alloc w9 (.cells (rcells rz (.slice none 0 0)).toArray 26)
  obtain ⟨w10, hW_⟩ : ∃ U_ : World, U_ = w9.alloc (.cells (rcells rz (.slice none 0 0)).toArray 26) := ⟨_, rfl⟩
  obtain ⟨q4, hq_⟩ : ∃ q, q = w9.heap.size := ⟨_, rfl⟩
  rw [← hW_, ← hq_] at k_
  rw [← hW_] at hB_
  rw [← hW_, ← hq_]
  clear hq_
  have H1x : Hid (POwn w10 w.heap.size v1 r.cp) := H1.out.later hB_
  clear H1
  have H1 := H1x
  clear H1x
  have H2x : Hid (POwn w10 bs v2 R1.cp) := H2.out.later hB_
  clear H2
  have H2 := H2x
  clear H2x
  have H3x : Hid (POwn w10 w.heap.size v3 R1.cp) := H3.out.later hB_
  clear H3
  have H3 := H3x
  clear H3x
  have Rw10 : Hid (Loc w w10 [(q1, 26, rcells r vc), (q2, 26, rcells r v1), (q3, 26, rcells R1 v2), (q4, 26, rcells rz (.slice none 0 0))]) := k_
  clear k_ hW_ Rw9
  clear hB_
  simp only [Act.put, List.setIfInBounds_toArray, List.set_cons_succ, List.set_cons_zero]
  obtain ⟨hst_, k_, hC_⟩ := Rw10.out.st26 3 rfl (Rok.nil).len (rcells R1 v3) ((show Rok R1 v3 from ⟨HR1.out.1.1, HR1.out.1.2, H3.out.isSl⟩)).len ((show Rok R1 v3 from ⟨HR1.out.1.1, HR1.out.1.2, H3.out.isSl⟩)).one
  have hR_ := Rw10.out.at 3 rfl
  refine wlS rfl rfl _ (run_stV (.tmp 9) (.tmp 26) rfl q4 0 rfl _ rfl hst_) ?_
  obtain ⟨w11, hW_⟩ : ∃ U_ : World, U_ = w10.setRow q4 (rcells R1 v3).toArray := ⟨_, rfl⟩
  rw [← hW_] at k_ hC_ ⊢
  clear hst_
  have H1x : Hid (POwn w11 w.heap.size v1 r.cp) := H1.out.off hR_ (by decide) hC_
  clear H1
  have H1 := H1x
  clear H1x
  have H2x : Hid (POwn w11 bs v2 R1.cp) := H2.out.off hR_ (by decide) hC_
  clear H2
  have H2 := H2x
  clear H2x
  have H3x : Hid (POwn w11 w.heap.size v3 R1.cp) := H3.out.off hR_ (by decide) hC_
  clear H3
  have H3 := H3x
  clear H3x
  have Rw11 : Hid (Loc w w11 [(q1, 26, rcells r vc), (q2, 26, rcells r v1), (q3, 26, rcells R1 v2), (q4, 26, rcells R1 v3)]) := k_
  clear k_ hW_ Rw10
  clear hC_ hR_
  refine wl rfl (.int .i64 er) _ (run_asZ (.tmp 27) rfl (.int .i64 er) rfl) ?_
  simp only [Act.put, List.setIfInBounds_toArray, List.set_cons_succ, List.set_cons_zero]
  refine wpList_nil ?_
  go_upto_region 7 with fail
  refine wp_region_lit ?_
  refine wl rfl (.bool true) _ (run_mvZ (.tmp 5) rfl (.bool true) rfl) ?_
  simp only [Act.put, List.setIfInBounds_toArray, List.set_cons_succ, List.set_cons_zero]
  refine wl rfl (.bool true) _ (run_mvZ (.tmp 28) rfl (.bool true) rfl) ?_
  simp only [Act.put, List.setIfInBounds_toArray, List.set_cons_succ, List.set_cons_zero]
  refine wl (by kernel_rfl) (.int .i64 er) _ (run_mvZ (.tmp 8) rfl (.int .i64 er) rfl) ?_
  simp only [Act.put, List.setIfInBounds_toArray, List.set_cons_succ, List.set_cons_zero]
  refine wl (by kernel_rfl) (.int .i64 er) _ (run_mvZ (.tmp 10) rfl (.int .i64 er) rfl) ?_
  simp only [Act.put, List.setIfInBounds_toArray, List.set_cons_succ, List.set_cons_zero]
  refine wl (by kernel_rfl) (.bool true) _ (run_eqZ (.tmp 30) (.tmp 31) rfl er er rfl rfl true (by simp)) ?_
  simp only [Act.put, List.setIfInBounds_toArray, List.set_cons_succ, List.set_cons_zero]
  refine wl rfl (.bool true) _ (run_pickZ (.tmp 29) (.tmp 32) (.const (.bool false)) rfl true (.bool true) rfl rfl) ?_
  simp only [Act.put, List.setIfInBounds_toArray, List.set_cons_succ, List.set_cons_zero]
  refine wl rfl (.bool true) _ (run_mvZ (.tmp 33) rfl (.bool true) rfl) ?_
  simp only [Act.put, List.setIfInBounds_toArray, List.set_cons_succ, List.set_cons_zero]
  refine wl (by kernel_rfl) (.agg (rcells R1 v2).toArray) _ (run_loadA ag26 (.tmp 7) rfl q3 (0) rfl (rcells R1 v2) ((show Rok R1 v2 from ⟨HR1.out.1.1, HR1.out.1.2, H2.out.isSl⟩)).len (Rw11.out.rows 2 rfl)) ?_
  simp only [Act.put, List.setIfInBounds_toArray, List.set_cons_succ, List.set_cons_zero]
  refine wl (by kernel_rfl) (.agg (rcells R1 v3).toArray) _ (run_loadA ag26 (.tmp 9) rfl q4 (0) rfl (rcells R1 v3) ((show Rok R1 v3 from ⟨HR1.out.1.1, HR1.out.1.2, H3.out.isSl⟩)).len (Rw11.out.rows 3 rfl)) ?_
  simp only [Act.put, List.setIfInBounds_toArray, List.set_cons_succ, List.set_cons_zero]
  refine wpList_callW eN13 [.tmp 35, .tmp 36] _ (by kernel_rfl) rfl [(.agg (rcells R1 v2).toArray), (.agg (rcells R1 v3).toArray)] rfl ?_
  refine (same_yes R1 v2 v3 w11 (H2.out.fitR HR1.out.1 (by have := HF.out.2; have := HR1.out.2; omega)) (H3.out.fitR HR1.out.1 (by have := HF.out.2; have := HR1.out.2; omega))).mono ?_
  rintro e w12 ⟨rfl, b_⟩
  refine ⟨_, rfl, ?_⟩
  have H1x : Hid (POwn w12 w.heap.size v1 r.cp) := H1.out.later b_
  clear H1
  have H1 := H1x
  clear H1x
  have H2x : Hid (POwn w12 bs v2 R1.cp) := H2.out.later b_
  clear H2
  have H2 := H2x
  clear H2x
  have H3x : Hid (POwn w12 w.heap.size v3 R1.cp) := H3.out.later b_
  clear H3
  have H3 := H3x
  clear H3x
  have Rw12 : Hid (Loc w w12 [(q1, 26, rcells r vc), (q2, 26, rcells r v1), (q3, 26, rcells R1 v2), (q4, 26, rcells R1 v3)]) := Rw11.out.later b_
  clear Rw11 b_
  simp only [Act.put, List.setIfInBounds_toArray, List.set_cons_succ, List.set_cons_zero]
  refine wl rfl (.bool true) _ (run_pickZ (.tmp 34) (.tmp 37) (.const (.bool false)) rfl true (.bool true) rfl rfl) ?_
  simp only [Act.put, List.setIfInBounds_toArray, List.set_cons_succ, List.set_cons_zero]
  refine wl rfl (.bool true) _ (run_mvZ (.tmp 38) rfl (.bool true) rfl) ?_
  simp only [Act.put, List.setIfInBounds_toArray, List.set_cons_succ, List.set_cons_zero]
  refine wl (by kernel_rfl) (.agg (rcells r v1).toArray) _ (run_loadA ag26 (.tmp 6) rfl q2 (0) rfl (rcells r v1) ((HF.out.1.rok.cp H1.out.isSl)).len (Rw12.out.rows 1 rfl)) ?_
  simp only [Act.put, List.setIfInBounds_toArray, List.set_cons_succ, List.set_cons_zero]
  refine wl (by kernel_rfl) (.agg (rcells r vc).toArray) _ (run_loadA ag26 (.tmp 2) rfl q1 (0) rfl (rcells r vc) (HF.out.1.rok).len (Rw12.out.rows 0 rfl)) ?_
  simp only [Act.put, List.setIfInBounds_toArray, List.set_cons_succ, List.set_cons_zero]
  refine wpList_callW eN13 [.tmp 40, .tmp 41] _ (by kernel_rfl) rfl [(.agg (rcells r v1).toArray), (.agg (rcells r vc).toArray)] rfl ?_
  refine (same_yes r v1 vc w12 (H1.out.fit (HF.out.1.rok.cp H1.out.isSl) (by have := HF.out.2; omega)) (HF.out.1.later Rw12.out.below)).mono ?_
  rintro e w13 ⟨rfl, b_⟩
  refine ⟨_, rfl, ?_⟩
  have H1x : Hid (POwn w13 w.heap.size v1 r.cp) := H1.out.later b_
  clear H1
  have H1 := H1x
  clear H1x
  have H2x : Hid (POwn w13 bs v2 R1.cp) := H2.out.later b_
  clear H2
  have H2 := H2x
  clear H2x
  have H3x : Hid (POwn w13 w.heap.size v3 R1.cp) := H3.out.later b_
  clear H3
  have H3 := H3x
  clear H3x
  have Rw13 : Hid (Loc w w13 [(q1, 26, rcells r vc), (q2, 26, rcells r v1), (q3, 26, rcells R1 v2), (q4, 26, rcells R1 v3)]) := Rw12.out.later b_
  clear Rw12 b_
  simp only [Act.put, List.setIfInBounds_toArray, List.set_cons_succ, List.set_cons_zero]
  refine wl rfl (.bool true) _ (run_pickZ (.tmp 39) (.tmp 42) (.const (.bool false)) rfl true (.bool true) rfl rfl) ?_
  simp only [Act.put, List.setIfInBounds_toArray, List.set_cons_succ, List.set_cons_zero]
  refine wl rfl (.bool true) _ (run_asZ (.tmp 43) rfl (.bool true) rfl) ?_
  simp only [Act.put, List.setIfInBounds_toArray, List.set_cons_succ, List.set_cons_zero]
  refine wpList_nil ?_
  go_wp2_with fail
  first | (rw [HPQ.out]; exact ⟨rfl, Rw13.out.below⟩) | (go_ret; rw [HPQ.out]; exact ⟨rfl, Rw13.out.below⟩)

end Go.Proofs.Ytobolkllplmmcaa

/- With more room a shape that may be may still be: the law. -/
import Derived.Test.YtbmlbnbhjligdaaI13
namespace Go.Proofs.Ytbmlbnbhjligdaa
open Go.RowKit Go.MapKept

set_option maxHeartbeats 4000000 in
set_option maxRecDepth 100000 in
theorem quotaMore_any (w : World) (vd vt : Value) (ds ts : List Int) (hs : ShIn w vd vt ds ts) (r : Int) (vm : Value) (ms : List Int) (hm : IntsIn w vm ms) (z : Int) (hz : -9223372036854775808 ≤ z ∧ z ≤ 9223372036854775807) : Calls Try.prog 5 #[.agg #[vd, vt], .agg #[.int .i64 r], vm, .int .i64 z] w fun e w' => e = .returned (.bool true) ∧ Below w.heap.size w w' := by
  have HI : Hid (ShIn w vd vt ds ts) := hs
  have HM : Hid (IntsIn w vm ms) := hm
  have HZ : Hid (-9223372036854775808 ≤ z ∧ z ≤ 9223372036854775807) := hz
  clear hs hm hz
  have HW : Hid (Below w.heap.size w w) := Below.refl _ _
  obtain ⟨y, hy⟩ : ∃ y, y = mayOk ds ts r := ⟨_, rfl⟩
  have HY : Hid (y = mayOk ds ts r) := hy
  clear hy
  obtain ⟨PQ, HPQ⟩ : ∃ PQ : Ending → World → Prop, Hid (PQ = fun (e : Ending) (w' : World) => e = .returned (.bool true) ∧ Below w.heap.size w w') := ⟨_, rfl⟩
  rw [← HPQ.out]
  go_enter Try.func5, Try.ntmps5
  go_upto_region 0 with fail
  refine wp_region_lit ?_
  refine wl rfl (ptr w.heap.size) _ (run_boxA (.tmp 0) rfl ([vd, vt]) rfl) ?_
  have r_ := Row.new w 24 ([vd, vt])
  have bW := below_alloc w (.cells ([vd, vt]).toArray 24)
  obtain ⟨u1, hW_⟩ : ∃ W, W = w.alloc (.cells ([vd, vt]).toArray 24) := ⟨_, rfl⟩
  obtain ⟨qs, hq_⟩ : ∃ q, q = w.heap.size := ⟨_, rfl⟩
  rw [← hW_, ← hq_] at r_
  rw [← hW_] at bW
  rw [← hW_, ← hq_]
  clear hW_ hq_
  have HW_ : Hid (Below w.heap.size w u1) := belowNext HW.out bW
  clear HW
  have HW := HW_
  clear HW_
  have HI_ : Hid (ShIn u1 vd vt ds ts) := HI.out.later bW
  clear HI
  have HI := HI_
  clear HI_
  have HM_ : Hid (IntsIn u1 vm ms) := HM.out.later bW
  clear HM
  have HM := HM_
  clear HM_
  have HS : Hid (ShB u1 qs vd vt ds ts) := ⟨r_, HI.out⟩
  clear r_ bW
  simp only [Act.put, List.setIfInBounds_toArray, List.set_cons_succ, List.set_cons_zero]
  refine wl rfl (ptr u1.heap.size) _ (run_boxA (.tmp 1) rfl ([.int .i64 r]) rfl) ?_
  have r_ := Row.new u1 26 ([.int .i64 r])
  have bW := below_alloc u1 (.cells ([.int .i64 r]).toArray 26)
  obtain ⟨u2, hW_⟩ : ∃ W, W = u1.alloc (.cells ([.int .i64 r]).toArray 26) := ⟨_, rfl⟩
  obtain ⟨qc, hq_⟩ : ∃ q, q = u1.heap.size := ⟨_, rfl⟩
  rw [← hW_, ← hq_] at r_
  rw [← hW_] at bW
  rw [← hW_, ← hq_]
  clear hW_ hq_
  have HW_ : Hid (Below w.heap.size w u2) := belowNext HW.out bW
  clear HW
  have HW := HW_
  clear HW_
  have HI_ : Hid (ShIn u2 vd vt ds ts) := HI.out.later bW
  clear HI
  have HI := HI_
  clear HI_
  have HM_ : Hid (IntsIn u2 vm ms) := HM.out.later bW
  clear HM
  have HM := HM_
  clear HM_
  have HS_ : Hid (ShB u2 qs vd vt ds ts) := HS.out.later bW
  clear HS
  have HS := HS_
  clear HS_
  have HG : Hid (CfB u2 qc r) := ⟨r_⟩
  clear r_ bW
  simp only [Act.put, List.setIfInBounds_toArray, List.set_cons_succ, List.set_cons_zero]
  refine wl rfl (.bool false) _ (run_asZ (.const (.bool false)) rfl (.bool false) rfl) ?_
  simp only [Act.put, List.setIfInBounds_toArray, List.set_cons_succ, List.set_cons_zero]
  refine wpList_nil ?_
  clear HI
  go_upto_region 1 with fail
  refine wp_region_lit ?_
  refine wpList_callW eN7 [] _ (by kernel_rfl) rfl [] rfl ?_
  refine (shown_any u2).mono ?_
  rintro e u3 ⟨rfl, bW⟩
  refine ⟨_, rfl, ?_⟩
  have HW_ : Hid (Below w.heap.size w u3) := belowNext HW.out bW
  clear HW
  have HW := HW_
  clear HW_
  have HM_ : Hid (IntsIn u3 vm ms) := HM.out.later bW
  clear HM
  have HM := HM_
  clear HM_
  have HS_ : Hid (ShB u3 qs vd vt ds ts) := HS.out.later bW
  clear HS
  have HS := HS_
  clear HS_
  have HG_ : Hid (CfB u3 qc r) := HG.out.later bW
  clear HG
  have HG := HG_
  clear HG_
  clear bW
  simp only [Act.put, List.setIfInBounds_toArray, List.set_cons_succ, List.set_cons_zero]
  refine wl rfl (.bool true) _ (run_asZ (.tmp 12) rfl (.bool true) rfl) ?_
  simp only [Act.put, List.setIfInBounds_toArray, List.set_cons_succ, List.set_cons_zero]
  refine wpList_nil ?_
  go_upto_region 2 with fail
  refine wp_region_lit ?_
  refine wl rfl (.bool true) _ (run_mvZ (.tmp 9) rfl (.bool true) rfl) ?_
  simp only [Act.put, List.setIfInBounds_toArray, List.set_cons_succ, List.set_cons_zero]
  refine wl rfl (.bool false) _ (run_not (.tmp 13) 4 rfl true rfl) ?_
  simp only [Act.put, List.setIfInBounds_toArray, List.set_cons_succ, List.set_cons_zero]
  refine wpList_nil ?_
  cases y with
  | false =>
    go_upto_region 4 with fail
    refine wp_region_lit ?_
    refine wl rfl (.agg ([vd, vt]).toArray) _ (run_loadA ag24 (.tmp 4) rfl qs (0) rfl ([vd, vt]) rfl (fun j v hv => by rw [Nat.zero_add]; exact HS.out.row.at j v hv)) ?_
    simp only [Act.put, List.setIfInBounds_toArray, List.set_cons_succ, List.set_cons_zero]
    refine wl rfl (.agg ([.int .i64 r]).toArray) _ (run_loadA ag26 (.tmp 5) rfl qc (0) rfl ([.int .i64 r]) rfl (fun j v hv => by rw [Nat.zero_add]; exact HG.out.row.at j v hv)) ?_
    simp only [Act.put, List.setIfInBounds_toArray, List.set_cons_succ, List.set_cons_zero]
    refine wpList_callW eN8 [.tmp 15, .tmp 16] _ (by kernel_rfl) rfl [(.agg ([vd, vt]).toArray), (.agg ([.int .i64 r]).toArray)] rfl ?_
    refine (may_any u3 vd vt ds ts HS.out.sh r).mono ?_
    rintro e u4 ⟨rfl, bW⟩
    refine ⟨_, rfl, ?_⟩
    rw [← HY.out]
    have HW_ : Hid (Below w.heap.size w u4) := belowNext HW.out bW
    clear HW
    have HW := HW_
    clear HW_
    have HM_ : Hid (IntsIn u4 vm ms) := HM.out.later bW
    clear HM
    have HM := HM_
    clear HM_
    have HS_ : Hid (ShB u4 qs vd vt ds ts) := HS.out.later bW
    clear HS
    have HS := HS_
    clear HS_
    have HG_ : Hid (CfB u4 qc r) := HG.out.later bW
    clear HG
    have HG := HG_
    clear HG_
    clear bW
    simp only [Act.put, List.setIfInBounds_toArray, List.set_cons_succ, List.set_cons_zero]
    refine wl rfl (.bool true) _ (run_not (.tmp 17) 4 rfl false rfl) ?_
    simp only [Act.put, List.setIfInBounds_toArray, List.set_cons_succ, List.set_cons_zero]
    refine wpList_nil ?_
    go_upto_region 5 with fail
    refine wp_region_lit ?_
    refine wl rfl (.bool true) _ (run_mvZ (.tmp 9) rfl (.bool true) rfl) ?_
    simp only [Act.put, List.setIfInBounds_toArray, List.set_cons_succ, List.set_cons_zero]
    refine wl rfl (.bool true) _ (run_asZ (.tmp 19) rfl (.bool true) rfl) ?_
    simp only [Act.put, List.setIfInBounds_toArray, List.set_cons_succ, List.set_cons_zero]
    refine wpList_nil ?_
    go_wp2_with fail
    rw [HPQ.out]
    exact ⟨rfl, HW.out⟩
  | true =>
    go_upto_region 4 with fail
    refine wp_region_lit ?_
    refine wl rfl (.agg ([vd, vt]).toArray) _ (run_loadA ag24 (.tmp 4) rfl qs (0) rfl ([vd, vt]) rfl (fun j v hv => by rw [Nat.zero_add]; exact HS.out.row.at j v hv)) ?_
    simp only [Act.put, List.setIfInBounds_toArray, List.set_cons_succ, List.set_cons_zero]
    refine wl rfl (.agg ([.int .i64 r]).toArray) _ (run_loadA ag26 (.tmp 5) rfl qc (0) rfl ([.int .i64 r]) rfl (fun j v hv => by rw [Nat.zero_add]; exact HG.out.row.at j v hv)) ?_
    simp only [Act.put, List.setIfInBounds_toArray, List.set_cons_succ, List.set_cons_zero]
    refine wpList_callW eN8 [.tmp 15, .tmp 16] _ (by kernel_rfl) rfl [(.agg ([vd, vt]).toArray), (.agg ([.int .i64 r]).toArray)] rfl ?_
    refine (may_any u3 vd vt ds ts HS.out.sh r).mono ?_
    rintro e u4 ⟨rfl, bW⟩
    refine ⟨_, rfl, ?_⟩
    rw [← HY.out]
    have HW_ : Hid (Below w.heap.size w u4) := belowNext HW.out bW
    clear HW
    have HW := HW_
    clear HW_
    have HM_ : Hid (IntsIn u4 vm ms) := HM.out.later bW
    clear HM
    have HM := HM_
    clear HM_
    have HS_ : Hid (ShB u4 qs vd vt ds ts) := HS.out.later bW
    clear HS
    have HS := HS_
    clear HS_
    have HG_ : Hid (CfB u4 qc r) := HG.out.later bW
    clear HG
    have HG := HG_
    clear HG_
    clear bW
    simp only [Act.put, List.setIfInBounds_toArray, List.set_cons_succ, List.set_cons_zero]
    refine wl rfl (.bool false) _ (run_not (.tmp 17) 4 rfl true rfl) ?_
    simp only [Act.put, List.setIfInBounds_toArray, List.set_cons_succ, List.set_cons_zero]
    refine wpList_nil ?_
    have HMay : Hid (mayOk ds ts r = true) := HY.out.symm
    clear HY
    obtain ⟨h3, t0, t9, -, -, -, ⟨m00, m01⟩, ⟨m1, m2⟩, ⟨m3, m4⟩, -⟩ := mayOk_facts ds ts r HMay.out
    have H3 : Hid (ds.length = 3) := h3
    have HT0 : Hid (0 < ts.length ∧ ts.length ≤ 9) := ⟨t0, t9⟩
    have hl1 : Hid (ds.length ≤ 17592186043904) := (by omega : ds.length ≤ 17592186043904)
    have hl2 : Hid (ts.length ≤ 17592186043904) := (by omega : ts.length ≤ 17592186043904)
    clear h3 t0 t9
    go_upto_region 6 with fail
    refine wp_region_lit ?_
    refine wl rfl (.pointer (some ⟨qs, 0 + 0, none⟩)) _ (run_fieldOp' f24_0 (.tmp 4) rfl qs (0) rfl) ?_
    simp only [Act.put, List.setIfInBounds_toArray, List.set_cons_succ, List.set_cons_zero]
    refine wl rfl vd _ (run_load1 o22 (.tmp 20) rfl qs (0 + 0) rfl vd (HS.out.row.at (0 + 0) _ rfl)) ?_
    simp only [Act.put, List.setIfInBounds_toArray, List.set_cons_succ, List.set_cons_zero]
    refine wl rfl (.int .i64 (ds.length : Nat)) _ (run_lenI (.tmp 21) rfl vd ds rfl HS.out.sh.d) ?_
    simp only [Act.put, List.setIfInBounds_toArray, List.set_cons_succ, List.set_cons_zero]
    refine wl rfl (.bool false) _ (run_neZ (.tmp 22) (.const (.int .i64 3)) rfl (ds.length : Nat) 3 rfl rfl false (by rw [H3.out]; decide)) ?_
    simp only [Act.put, List.setIfInBounds_toArray, List.set_cons_succ, List.set_cons_zero]
    refine wpList_nil ?_
    have hUp0 : Up ds ds := Up.refl ds fun j hj => by
      have h3 := H3.out
      have hj2 : j = 0 ∨ j = 1 ∨ j = 2 := by omega
      rcases hj2 with rfl | rfl | rfl <;> omega
    have HP1 : Hid (386 ≤ nth ds 1 ∧ 32 ≤ nth ds 2) := ⟨m1, m3⟩
    obtain ⟨b2, j2, q2, c2⟩ := HS.out.sh.d.ix 2 (by rw [H3.out]; decide)
    obtain ⟨n, hn⟩ : ∃ n, n = putsZ ds := ⟨_, rfl⟩
    obtain ⟨k, hk⟩ : ∃ n, n = sectZ ds := ⟨_, rfl⟩
    obtain ⟨q, hq⟩ : ∃ q, Int.tdiv (nth ds 1 - 2) 8 = q := ⟨_, rfl⟩
    obtain ⟨p, hp⟩ : ∃ p, p = min q 384 := ⟨_, rfl⟩
    obtain ⟨p1, p2, hn2⟩ := putsZ_is ds H3.out m1 m2 q p hq hp
    obtain ⟨t, ht⟩ : ∃ t, Int.tdiv (p - 32) 3 = t := ⟨_, rfl⟩
    rw [ht, ← hn] at hn2
    obtain ⟨n1, -, -, -, -, -⟩ := puts_room p t n p1 p2 ht hn2
    obtain ⟨k1, -, -, k4, -⟩ := sect_room ds H3.out m3 m4 k hk
    obtain ⟨x2, hx2⟩ : ∃ x, x = nth ds 2 := ⟨_, rfl⟩
    rw [← hx2] at c2 k4
    have HNK : Hid (n = putsZ ds ∧ k = sectZ ds) := ⟨hn, hk⟩
    have HX : Hid (∀ w', (Instr.indexAt 22 vd (.int .i64 2)).run Try.prog w' = .ok (.pointer (some ⟨b2, j2, none⟩)) w') := q2
    have C2 : Hid (CellI u4 b2 j2 x2) := ⟨c2⟩
    clear q2 c2 hq hp ht hn hn2 hk hx2 p1 p2 m00 m01 m1 m2 m3 m4
    go_upto_region 8 with fail
    refine wp_region_held (S := fun X => (ShB X qs vd vt ds ts) ∧ (CfB X qc r) ∧ (CellI X b2 j2 x2)) (by kernel_rfl) ?_
    show wpAnyH _ _ _ _ _ 17 (Array.replicate 17 false) _ _
    obtain ⟨u5, hX⟩ : ∃ u5 : World, u5 = { u4 with drawn := u4.drawn + 1 } := ⟨_, rfl⟩
    rw [← hX]
    have bX : Below u4.heap.size u4 u5 := by rw [hX]; exact ⟨rfl, rfl, rfl, Nat.le_refl _, fun _ _ => rfl⟩
    have HW_ : Hid (Below w.heap.size w u5) := belowNext HW.out bX
    clear HW
    have HW := HW_
    clear HW_
    have HM_ : Hid (IntsIn u5 vm ms) := HM.out.later bX
    clear HM
    have HM := HM_
    clear HM_
    have HS_ : Hid (ShB u5 qs vd vt ds ts) := HS.out.later bX
    clear HS
    have HS := HS_
    clear HS_
    have HG_ : Hid (CfB u5 qc r) := HG.out.later bX
    clear HG
    have HG := HG_
    clear HG_
    have C2_ : Hid (CellI u5 b2 j2 x2) := C2.out.later bX
    clear C2
    have C2 := C2_
    clear C2_
    clear bX
    clear hX
    refine takeH (i := 0) (some 24) rfl rfl (by kernel_rfl) (by kernel_rfl) (by kernel_rfl) (fun _ _ _ h => h) (gRun rfl (.agg ([vd, vt]).toArray) fun _ h => run_loadA ag24 (.tmp 4) rfl qs (0) rfl ([vd, vt]) rfl (fun j v hv => by rw [Nat.zero_add]; exact h.1.row.at j v hv)) ⟨HS.out, HG.out, C2.out⟩ ?_
    simp only [Act.put, List.setIfInBounds_toArray, List.set_cons_succ, List.set_cons_zero]
    refine oneH (i := 1) (by kernel_rfl) ?_
    refine opCallG (some 25) rfl rfl rfl 10 _ (run_call eN10 [.tmp 24] _ rfl [(.agg ([vd, vt]).toArray)] rfl) ?_
    refine (puts_any u5 vd vt ds ts HS.out.sh).mono ?_
    rintro e u6 ⟨rfl, bW⟩
    refine ⟨_, rfl, ?_⟩
    rw [← HNK.out.1]
    have HW_ : Hid (Below w.heap.size w u6) := belowNext HW.out bW
    clear HW
    have HW := HW_
    clear HW_
    have HM_ : Hid (IntsIn u6 vm ms) := HM.out.later bW
    clear HM
    have HM := HM_
    clear HM_
    have HS_ : Hid (ShB u6 qs vd vt ds ts) := HS.out.later bW
    clear HS
    have HS := HS_
    clear HS_
    have HG_ : Hid (CfB u6 qc r) := HG.out.later bW
    clear HG
    have HG := HG_
    clear HG_
    have C2_ : Hid (CellI u6 b2 j2 x2) := C2.out.later bW
    clear C2
    have C2 := C2_
    clear C2_
    clear bW
    refine ⟨⟨HS.out, HG.out, C2.out⟩, ?_⟩
    simp only [Act.put, List.setIfInBounds_toArray, List.set_cons_succ, List.set_cons_zero]
    refine takeH (i := 2) (some 26) rfl rfl (by kernel_rfl) (by kernel_rfl) (by kernel_rfl) (fun _ _ _ h => h) (gRun rfl (.bool false) fun _ h => run_lssZ (.tmp 25) (.const (.int .i64 1)) rfl n 1 rfl rfl false (decide_eq_false (by omega))) ⟨HS.out, HG.out, C2.out⟩ ?_
    simp only [Act.put, List.setIfInBounds_toArray, List.set_cons_succ, List.set_cons_zero]
    refine takeH (i := 3) (some 27) rfl rfl (by kernel_rfl) (by kernel_rfl) (by kernel_rfl) (fun _ _ _ h => h) (gRun rfl (.bool false) fun _ h => run_mvZ (.tmp 26) rfl (.bool false) rfl) ⟨HS.out, HG.out, C2.out⟩ ?_
    simp only [Act.put, List.setIfInBounds_toArray, List.set_cons_succ, List.set_cons_zero]
    refine takeH (i := 4) (some 28) rfl rfl (by kernel_rfl) (by kernel_rfl) (by kernel_rfl) (fun _ _ _ h => h) (gRun (by kernel_rfl) (.agg ([vd, vt]).toArray) fun _ h => run_loadA ag24 (.tmp 4) rfl qs (0) rfl ([vd, vt]) rfl (fun j v hv => by rw [Nat.zero_add]; exact h.1.row.at j v hv)) ⟨HS.out, HG.out, C2.out⟩ ?_
    simp only [Act.put, List.setIfInBounds_toArray, List.set_cons_succ, List.set_cons_zero]
    refine oneH (i := 5) (by kernel_rfl) ?_
    refine opCallG (some 29) rfl rfl (by kernel_rfl) 12 _ (run_call eN12 [.tmp 28] _ rfl [(.agg ([vd, vt]).toArray)] rfl) ?_
    refine (sectors_any u6 vd vt ds ts HS.out.sh).mono ?_
    rintro e u7 ⟨rfl, bW⟩
    refine ⟨_, rfl, ?_⟩
    rw [← HNK.out.2]
    have HW_ : Hid (Below w.heap.size w u7) := belowNext HW.out bW
    clear HW
    have HW := HW_
    clear HW_
    have HM_ : Hid (IntsIn u7 vm ms) := HM.out.later bW
    clear HM
    have HM := HM_
    clear HM_
    have HS_ : Hid (ShB u7 qs vd vt ds ts) := HS.out.later bW
    clear HS
    have HS := HS_
    clear HS_
    have HG_ : Hid (CfB u7 qc r) := HG.out.later bW
    clear HG
    have HG := HG_
    clear HG_
    have C2_ : Hid (CellI u7 b2 j2 x2) := C2.out.later bW
    clear C2
    have C2 := C2_
    clear C2_
    clear bW
    refine ⟨⟨HS.out, HG.out, C2.out⟩, ?_⟩
    simp only [Act.put, List.setIfInBounds_toArray, List.set_cons_succ, List.set_cons_zero]
    refine takeH (i := 6) (some 30) rfl rfl (by kernel_rfl) (by kernel_rfl) (by kernel_rfl) (fun _ _ _ h => h) (gRun (by kernel_rfl) (.bool false) fun _ h => run_lssZ (.tmp 29) (.const (.int .i64 8)) rfl k 8 rfl rfl false (decide_eq_false (by omega))) ⟨HS.out, HG.out, C2.out⟩ ?_
    simp only [Act.put, List.setIfInBounds_toArray, List.set_cons_succ, List.set_cons_zero]
    refine takeH (i := 7) (some 31) rfl rfl (by kernel_rfl) (by kernel_rfl) (by kernel_rfl) (fun _ _ _ h => h) (gRun rfl (.bool false) fun _ h => run_pickZ (.tmp 27) (.const (.bool true)) (.tmp 30) rfl false (.bool false) rfl rfl) ⟨HS.out, HG.out, C2.out⟩ ?_
    simp only [Act.put, List.setIfInBounds_toArray, List.set_cons_succ, List.set_cons_zero]
    refine takeH (i := 8) (some 32) rfl rfl (by kernel_rfl) (by kernel_rfl) (by kernel_rfl) (fun _ _ _ h => h) (gRun rfl (.bool false) fun _ h => run_mvZ (.tmp 31) rfl (.bool false) rfl) ⟨HS.out, HG.out, C2.out⟩ ?_
    simp only [Act.put, List.setIfInBounds_toArray, List.set_cons_succ, List.set_cons_zero]
    refine takeH (i := 9) (some 33) rfl rfl (by kernel_rfl) (by kernel_rfl) (by kernel_rfl) (fun _ _ _ h => h) (gRun (by kernel_rfl) (.agg ([vd, vt]).toArray) fun _ h => run_loadA ag24 (.tmp 4) rfl qs (0) rfl ([vd, vt]) rfl (fun j v hv => by rw [Nat.zero_add]; exact h.1.row.at j v hv)) ⟨HS.out, HG.out, C2.out⟩ ?_
    simp only [Act.put, List.setIfInBounds_toArray, List.set_cons_succ, List.set_cons_zero]
    refine takeH (i := 11) (some 35) rfl rfl (by kernel_rfl) (by kernel_rfl) (by kernel_rfl) (fun _ _ _ h => h) (gRun (by kernel_rfl) (.pointer (some ⟨qs, 0 + 0, none⟩)) fun _ h => run_fieldOp' f24_0 (.tmp 4) rfl qs (0) rfl) ⟨HS.out, HG.out, C2.out⟩ ?_
    simp only [Act.put, List.setIfInBounds_toArray, List.set_cons_succ, List.set_cons_zero]
    refine takeH (i := 12) (some 36) rfl rfl (by kernel_rfl) (by kernel_rfl) (by kernel_rfl) (fun _ _ _ h => h) (gRun (by kernel_rfl) vd fun _ h => run_load1 o22 (.tmp 35) rfl qs (0 + 0) rfl vd (h.1.row.at (0 + 0) _ rfl)) ⟨HS.out, HG.out, C2.out⟩ ?_
    simp only [Act.put, List.setIfInBounds_toArray, List.set_cons_succ, List.set_cons_zero]
    refine takeH (i := 13) (some 37) rfl rfl (by kernel_rfl) (by kernel_rfl) (by kernel_rfl) (fun _ _ _ h => h) (gRun (by kernel_rfl) (.pointer (some ⟨b2, j2, none⟩)) fun _ h => run_idx (.tmp 36) (.const (.int .i64 2)) rfl vd _ _ rfl rfl HX.out) ⟨HS.out, HG.out, C2.out⟩ ?_
    simp only [Act.put, List.setIfInBounds_toArray, List.set_cons_succ, List.set_cons_zero]
    refine takeH (i := 14) (some 38) rfl rfl (by kernel_rfl) (by kernel_rfl) (by kernel_rfl) (fun _ _ _ h => h) (gRun (by kernel_rfl) (.int .i64 x2) fun _ h => run_load1 o3 (.tmp 37) rfl b2 (j2) rfl (.int .i64 x2) h.2.2.c) ⟨HS.out, HG.out, C2.out⟩ ?_
    simp only [Act.put, List.setIfInBounds_toArray, List.set_cons_succ, List.set_cons_zero]
    refine oneH (i := 10) (by kernel_rfl) ?_
    refine opCallG (some 34) rfl rfl (by kernel_rfl) 12 _ (run_call eN12 [.tmp 33] _ rfl [(.agg ([vd, vt]).toArray)] rfl) ?_
    refine (sectors_any u7 vd vt ds ts HS.out.sh).mono ?_
    rintro e u8 ⟨rfl, bW⟩
    refine ⟨_, rfl, ?_⟩
    rw [← HNK.out.2]
    have HW_ : Hid (Below w.heap.size w u8) := belowNext HW.out bW
    clear HW
    have HW := HW_
    clear HW_
    have HM_ : Hid (IntsIn u8 vm ms) := HM.out.later bW
    clear HM
    have HM := HM_
    clear HM_
    have HS_ : Hid (ShB u8 qs vd vt ds ts) := HS.out.later bW
    clear HS
    have HS := HS_
    clear HS_
    have HG_ : Hid (CfB u8 qc r) := HG.out.later bW
    clear HG
    have HG := HG_
    clear HG_
    have C2_ : Hid (CellI u8 b2 j2 x2) := C2.out.later bW
    clear C2
    have C2 := C2_
    clear C2_
    clear bW
    refine ⟨⟨HS.out, HG.out, C2.out⟩, ?_⟩
    simp only [Act.put, List.setIfInBounds_toArray, List.set_cons_succ, List.set_cons_zero]
    refine takeH (i := 15) (some 39) rfl rfl (by kernel_rfl) (by kernel_rfl) (by kernel_rfl) (fun _ _ _ h => h) (gRun (by kernel_rfl) (.bool false) fun _ h => run_gtrZ (.tmp 34) (.tmp 38) rfl k x2 rfl rfl false (decide_eq_false (by omega))) ⟨HS.out, HG.out, C2.out⟩ ?_
    simp only [Act.put, List.setIfInBounds_toArray, List.set_cons_succ, List.set_cons_zero]
    refine takeH (i := 16) (some 40) rfl rfl (by kernel_rfl) (by kernel_rfl) (by kernel_rfl) (fun _ _ _ h => h) (gRun rfl (.bool false) fun _ h => run_pickZ (.tmp 32) (.const (.bool true)) (.tmp 39) rfl false (.bool false) rfl rfl) ⟨HS.out, HG.out, C2.out⟩ ?_
    simp only [Act.put, List.setIfInBounds_toArray, List.set_cons_succ, List.set_cons_zero]
    refine wpAnyH_done (by kernel_rfl) ?_ _
    clear C2 HX n1 k1 k4
    go_upto_region 10 with fail
    refine wp_region_held (S := fun X => Below u8.heap.size u8 X) (by kernel_rfl) ?_
    show wpAnyH _ _ _ _ _ 11 (Array.replicate 11 false) _ _
    obtain ⟨X0, hX⟩ : ∃ X : World, X = { u8 with drawn := u8.drawn + 1 } := ⟨_, rfl⟩
    rw [← hX]
    have HB : Below u8.heap.size u8 X0 := by rw [hX]; exact ⟨rfl, rfl, rfl, Nat.le_refl _, fun _ _ => rfl⟩
    clear hX
    have hW0_ := HW.out.size
    apply share6 (P := fun W q g h u v => Hid (Cop u8 u8 W q u v ds ts))
    intro hG
    have hX : True := trivial
    refine takeH (i := 1) (some 42) rfl rfl (by kernel_rfl) (by kernel_rfl) (by kernel_rfl) (fun _ _ _ h => h) (gRun rfl (.pointer (some ⟨qs, 0 + 0, none⟩)) fun _ h => run_fieldOp' f24_0 (.tmp 4) rfl qs (0) rfl) HB ?_
    simp only [Act.put, List.setIfInBounds_toArray, List.set_cons_succ, List.set_cons_zero]
    refine takeH (i := 2) (some 43) rfl rfl (by kernel_rfl) (by kernel_rfl) (by kernel_rfl) (fun _ _ _ h => h) (gRun rfl vd fun _ h => run_load1 o22 (.tmp 42) rfl qs (0 + 0) rfl vd ((HS.out.row.later h HS.out.row.lt).at (0 + 0) _ rfl)) HB ?_
    simp only [Act.put, List.setIfInBounds_toArray, List.set_cons_succ, List.set_cons_zero]
    refine takeH (i := 5) (some 46) rfl rfl (by kernel_rfl) (by kernel_rfl) (by kernel_rfl) (fun _ _ _ h => h) (gRun rfl (.pointer (some ⟨qs, 0 + 1, none⟩)) fun _ h => run_fieldOp' f24_1 (.tmp 4) rfl qs (0) rfl) HB ?_
    simp only [Act.put, List.setIfInBounds_toArray, List.set_cons_succ, List.set_cons_zero]
    refine takeH (i := 6) (some 47) rfl rfl (by kernel_rfl) (by kernel_rfl) (by kernel_rfl) (fun _ _ _ h => h) (gRun rfl vt fun _ h => run_load1 o22 (.tmp 46) rfl qs (0 + 1) rfl vt ((HS.out.row.later h HS.out.row.lt).at (0 + 1) _ rfl)) HB ?_
    simp only [Act.put, List.setIfInBounds_toArray, List.set_cons_succ, List.set_cons_zero]
    refine wpAnyH_all (rs := [0, 4, 9]) (by kernel_rfl) (by decide) ?_
    intro i hi
    have hi' : i = 0 ∨ i = 4 ∨ i = 9 := by simpa using hi
    clear hi
    rcases hi' with rfl | rfl | rfl
    · refine opValueG (some 41) rfl rfl rfl _ _ (run_int0Op rfl) ?_
      have r_ : Row0 (X0.alloc (.cells #[] 3)) X0.heap.size := ⟨Row.new X0 3 []⟩
      have bW := below_alloc X0 (.cells #[] 3)
      obtain ⟨X1, hW_⟩ : ∃ U_ : World, U_ = X0.alloc (.cells #[] 3) := ⟨_, rfl⟩
      obtain ⟨g1, hq_⟩ : ∃ q, q = X0.heap.size := ⟨_, rfl⟩
      have g1_ge : u8.heap.size ≤ g1 := by rw [hq_]; exact HB.size
      rw [← hW_] at bW
      rw [← hW_, ← hq_] at r_
      rw [← hW_, ← hq_]
      clear hW_ hq_
      replace HB := belowNext HB bW
      have G1 : Row0 X1 g1 := r_
      clear r_ bW
      refine ⟨HB, ?_⟩
      simp only [Act.put, List.setIfInBounds_toArray, List.set_cons_succ, List.set_cons_zero]
      refine wpAnyH_all (rs := [3, 4, 9]) (by kernel_rfl) (by decide) ?_
      intro i hi
      have hi' : i = 3 ∨ i = 4 ∨ i = 9 := by simpa using hi
      clear hi
      rcases hi' with rfl | rfl | rfl
      · obtain ⟨vD, X2, ra_, o_, bW, fr_⟩ := app_fresh 22 g1 G1.row vd ds ((HS.out.sh.d).later HB) hl1.out
        refine opValueG (some 44) rfl rfl rfl vD X2 (run_append (.tmp 41) (.tmp 43) rfl _ _ _ rfl rfl ra_) ?_
        clear ra_ G1
        replace HB := belowNext HB bW
        have OD : IOwn X2 u8.heap.size vD ds := o_.mono g1_ge
        clear o_ bW fr_
        refine ⟨HB, ?_⟩
        simp only [Act.put, List.setIfInBounds_toArray, List.set_cons_succ, List.set_cons_zero]
        refine wpAnyH_all (rs := [4, 9]) (by kernel_rfl) (by decide) ?_
        intro i hi
        have hi' : i = 4 ∨ i = 9 := by simpa using hi
        clear hi
        rcases hi' with rfl | rfl
        · refine opValueG (some 45) rfl rfl rfl _ _ (run_int0Op rfl) ?_
          have r_ : Row0 (X2.alloc (.cells #[] 3)) X2.heap.size := ⟨Row.new X2 3 []⟩
          have bW := below_alloc X2 (.cells #[] 3)
          obtain ⟨X3, hW_⟩ : ∃ U_ : World, U_ = X2.alloc (.cells #[] 3) := ⟨_, rfl⟩
          obtain ⟨g2, hq_⟩ : ∃ q, q = X2.heap.size := ⟨_, rfl⟩
          have g2_ge : u8.heap.size ≤ g2 := by rw [hq_]; exact HB.size
          rw [← hW_] at bW
          rw [← hW_, ← hq_] at r_
          rw [← hW_, ← hq_]
          clear hW_ hq_
          replace OD := OD.later bW
          replace HB := belowNext HB bW
          have G2 : Row0 X3 g2 := r_
          clear r_ bW
          refine ⟨HB, ?_⟩
          simp only [Act.put, List.setIfInBounds_toArray, List.set_cons_succ, List.set_cons_zero]
          refine wpAnyH_all (rs := [7, 9]) (by kernel_rfl) (by decide) ?_
          intro i hi
          have hi' : i = 7 ∨ i = 9 := by simpa using hi
          clear hi
          rcases hi' with rfl | rfl
          · obtain ⟨vT, X4, ra_, o_, bW, fr_⟩ := app_fresh 22 g2 G2.row vt ts ((HS.out.sh.t).later HB) hl2.out
            refine opValueG (some 48) rfl rfl rfl vT X4 (run_append (.tmp 45) (.tmp 47) rfl _ _ _ rfl rfl ra_) ?_
            clear ra_ G2
            have ne_ : 0 < ts.length → ∀ b b', vD.ownBlock = some b → vT.ownBlock = some b' → b ≠ b' := fun hp b b' h h' => by have := fr_ hp b' h'; have := (OD.own.lt b h).2; omega
            replace OD := OD.later bW
            replace HB := belowNext HB bW
            have OT : IOwn X4 u8.heap.size vT ts := o_.mono g2_ge
            clear o_ bW fr_
            refine ⟨HB, ?_⟩
            simp only [Act.put, List.setIfInBounds_toArray, List.set_cons_succ, List.set_cons_zero]
            refine takeH (i := 8) (some 49) rfl rfl (by kernel_rfl) (by kernel_rfl) (by kernel_rfl) (fun _ _ _ h => h) (gRun rfl (.agg [vD, vT].toArray) fun _ h => run_build24 (.tmp 44) (.tmp 48) rfl vD vT OD.ints.isSlice.2 OT.ints.isSlice.2 rfl rfl) HB ?_
            simp only [Act.put, List.setIfInBounds_toArray, List.set_cons_succ, List.set_cons_zero]
            refine oneH (i := 9) (by kernel_rfl) ?_
            refine opValueG (some 10) rfl rfl rfl (ptr X4.heap.size) _ (run_allocA [Value.slice none 0 0, .slice none 0 0] zero24 rfl) ?_
            have r_ : RowZ (X4.alloc (.cells ([Value.slice none 0 0, .slice none 0 0]).toArray 24)) X4.heap.size := ⟨Row.new X4 24 [Value.slice none 0 0, .slice none 0 0]⟩
            have bW := below_alloc X4 (.cells ([Value.slice none 0 0, .slice none 0 0]).toArray 24)
            obtain ⟨X5, hW_⟩ : ∃ U_ : World, U_ = X4.alloc (.cells ([Value.slice none 0 0, .slice none 0 0]).toArray 24) := ⟨_, rfl⟩
            obtain ⟨qt, hq_⟩ : ∃ q, q = X4.heap.size := ⟨_, rfl⟩
            have qt_ge : u8.heap.size ≤ qt := by rw [hq_]; exact HB.size
            rw [← hW_] at bW
            rw [← hW_, ← hq_] at r_
            rw [← hW_, ← hq_]
            clear hW_ hq_
            replace OD := OD.later bW
            replace OT := OT.later bW
            replace HB := belowNext HB bW
            have ZA : RowZ X5 qt := r_
            clear r_ bW
            refine ⟨HB, ?_⟩
            simp only [Act.put, List.setIfInBounds_toArray, List.set_cons_succ, List.set_cons_zero]
            refine oneH (i := 10) (by kernel_rfl) ?_
            refine opSkipZ rfl rfl rfl _ (run_storeA ag24 (.tmp 10) (.tmp 49) rfl qt 24 rfl [vD, vT] _ rfl rfl ZA.row rfl (two_one OD.ints OT.ints)) ?_
            have r_ := ZA.row.setRow [vD, vT]
            have od_ := OD.setRow ZA.row (by decide) ([vD, vT] : List Value).toArray
            have ot_ := OT.setRow ZA.row (by decide) ([vD, vT] : List Value).toArray
            have hb_ := HB.trans (((Ch.refl (· = qt) X5).setRow (Or.inl rfl) ([vD, vT] : List Value).toArray).below HB.size fun i hi e => by omega)
            obtain ⟨X6, hW_⟩ : ∃ U_ : World, U_ = X5.setRow qt ([vD, vT] : List Value).toArray := ⟨_, rfl⟩
            rw [← hW_] at r_ od_ ot_ hb_ ⊢
            clear hW_
            refine ⟨hb_, ?_⟩
            refine wpAnyH_done (by kernel_rfl) ?_ _
            exact hG X6 qt g1 g2 vD vT ⟨r_, od_, ot_, hb_, qt_ge, ne_⟩
          · refine opValueG (some 10) rfl rfl rfl (ptr X3.heap.size) _ (run_allocA [Value.slice none 0 0, .slice none 0 0] zero24 rfl) ?_
            have r_ : RowZ (X3.alloc (.cells ([Value.slice none 0 0, .slice none 0 0]).toArray 24)) X3.heap.size := ⟨Row.new X3 24 [Value.slice none 0 0, .slice none 0 0]⟩
            have bW := below_alloc X3 (.cells ([Value.slice none 0 0, .slice none 0 0]).toArray 24)
            obtain ⟨X4, hW_⟩ : ∃ U_ : World, U_ = X3.alloc (.cells ([Value.slice none 0 0, .slice none 0 0]).toArray 24) := ⟨_, rfl⟩
            obtain ⟨qt, hq_⟩ : ∃ q, q = X3.heap.size := ⟨_, rfl⟩
            have qt_ge : u8.heap.size ≤ qt := by rw [hq_]; exact HB.size
            rw [← hW_] at bW
            rw [← hW_, ← hq_] at r_
            rw [← hW_, ← hq_]
            clear hW_ hq_
            replace G2 := G2.later bW
            replace OD := OD.later bW
            replace HB := belowNext HB bW
            have ZA : RowZ X4 qt := r_
            clear r_ bW
            refine ⟨HB, ?_⟩
            simp only [Act.put, List.setIfInBounds_toArray, List.set_cons_succ, List.set_cons_zero]
            refine oneH (i := 7) (by kernel_rfl) ?_
            obtain ⟨vT, X5, ra_, o_, bW, fr_⟩ := app_fresh 22 g2 G2.row vt ts ((HS.out.sh.t).later HB) hl2.out
            refine opValueG (some 48) rfl rfl rfl vT X5 (run_append (.tmp 45) (.tmp 47) rfl _ _ _ rfl rfl ra_) ?_
            clear ra_ G2
            have ne_ : 0 < ts.length → ∀ b b', vD.ownBlock = some b → vT.ownBlock = some b' → b ≠ b' := fun hp b b' h h' => by have := fr_ hp b' h'; have := (OD.own.lt b h).2; omega
            replace OD := OD.later bW
            replace ZA := ZA.later bW
            replace HB := belowNext HB bW
            have OT : IOwn X5 u8.heap.size vT ts := o_.mono g2_ge
            clear o_ bW fr_
            refine ⟨HB, ?_⟩
            simp only [Act.put, List.setIfInBounds_toArray, List.set_cons_succ, List.set_cons_zero]
            refine takeH (i := 8) (some 49) rfl rfl (by kernel_rfl) (by kernel_rfl) (by kernel_rfl) (fun _ _ _ h => h) (gRun rfl (.agg [vD, vT].toArray) fun _ h => run_build24 (.tmp 44) (.tmp 48) rfl vD vT OD.ints.isSlice.2 OT.ints.isSlice.2 rfl rfl) HB ?_
            simp only [Act.put, List.setIfInBounds_toArray, List.set_cons_succ, List.set_cons_zero]
            refine oneH (i := 10) (by kernel_rfl) ?_
            refine opSkipZ rfl rfl rfl _ (run_storeA ag24 (.tmp 10) (.tmp 49) rfl qt 24 rfl [vD, vT] _ rfl rfl ZA.row rfl (two_one OD.ints OT.ints)) ?_
            have r_ := ZA.row.setRow [vD, vT]
            have od_ := OD.setRow ZA.row (by decide) ([vD, vT] : List Value).toArray
            have ot_ := OT.setRow ZA.row (by decide) ([vD, vT] : List Value).toArray
            have hb_ := HB.trans (((Ch.refl (· = qt) X5).setRow (Or.inl rfl) ([vD, vT] : List Value).toArray).below HB.size fun i hi e => by omega)
            obtain ⟨X6, hW_⟩ : ∃ U_ : World, U_ = X5.setRow qt ([vD, vT] : List Value).toArray := ⟨_, rfl⟩
            rw [← hW_] at r_ od_ ot_ hb_ ⊢
            clear hW_
            refine ⟨hb_, ?_⟩
            refine wpAnyH_done (by kernel_rfl) ?_ _
            exact hG X6 qt g1 g2 vD vT ⟨r_, od_, ot_, hb_, qt_ge, ne_⟩
        · refine opValueG (some 10) rfl rfl rfl (ptr X2.heap.size) _ (run_allocA [Value.slice none 0 0, .slice none 0 0] zero24 rfl) ?_
          have r_ : RowZ (X2.alloc (.cells ([Value.slice none 0 0, .slice none 0 0]).toArray 24)) X2.heap.size := ⟨Row.new X2 24 [Value.slice none 0 0, .slice none 0 0]⟩
          have bW := below_alloc X2 (.cells ([Value.slice none 0 0, .slice none 0 0]).toArray 24)
          obtain ⟨X3, hW_⟩ : ∃ U_ : World, U_ = X2.alloc (.cells ([Value.slice none 0 0, .slice none 0 0]).toArray 24) := ⟨_, rfl⟩
          obtain ⟨qt, hq_⟩ : ∃ q, q = X2.heap.size := ⟨_, rfl⟩
          have qt_ge : u8.heap.size ≤ qt := by rw [hq_]; exact HB.size
          rw [← hW_] at bW
          rw [← hW_, ← hq_] at r_
          rw [← hW_, ← hq_]
          clear hW_ hq_
          replace OD := OD.later bW
          replace HB := belowNext HB bW
          have ZA : RowZ X3 qt := r_
          clear r_ bW
          refine ⟨HB, ?_⟩
          simp only [Act.put, List.setIfInBounds_toArray, List.set_cons_succ, List.set_cons_zero]
          refine oneH (i := 4) (by kernel_rfl) ?_
          refine opValueG (some 45) rfl rfl rfl _ _ (run_int0Op rfl) ?_
          have r_ : Row0 (X3.alloc (.cells #[] 3)) X3.heap.size := ⟨Row.new X3 3 []⟩
          have bW := below_alloc X3 (.cells #[] 3)
          obtain ⟨X4, hW_⟩ : ∃ U_ : World, U_ = X3.alloc (.cells #[] 3) := ⟨_, rfl⟩
          obtain ⟨g2, hq_⟩ : ∃ q, q = X3.heap.size := ⟨_, rfl⟩
          have g2_ge : u8.heap.size ≤ g2 := by rw [hq_]; exact HB.size
          rw [← hW_] at bW
          rw [← hW_, ← hq_] at r_
          rw [← hW_, ← hq_]
          clear hW_ hq_
          replace OD := OD.later bW
          replace ZA := ZA.later bW
          replace HB := belowNext HB bW
          have G2 : Row0 X4 g2 := r_
          clear r_ bW
          refine ⟨HB, ?_⟩
          simp only [Act.put, List.setIfInBounds_toArray, List.set_cons_succ, List.set_cons_zero]
          refine oneH (i := 7) (by kernel_rfl) ?_
          obtain ⟨vT, X5, ra_, o_, bW, fr_⟩ := app_fresh 22 g2 G2.row vt ts ((HS.out.sh.t).later HB) hl2.out
          refine opValueG (some 48) rfl rfl rfl vT X5 (run_append (.tmp 45) (.tmp 47) rfl _ _ _ rfl rfl ra_) ?_
          clear ra_ G2
          have ne_ : 0 < ts.length → ∀ b b', vD.ownBlock = some b → vT.ownBlock = some b' → b ≠ b' := fun hp b b' h h' => by have := fr_ hp b' h'; have := (OD.own.lt b h).2; omega
          replace OD := OD.later bW
          replace ZA := ZA.later bW
          replace HB := belowNext HB bW
          have OT : IOwn X5 u8.heap.size vT ts := o_.mono g2_ge
          clear o_ bW fr_
          refine ⟨HB, ?_⟩
          simp only [Act.put, List.setIfInBounds_toArray, List.set_cons_succ, List.set_cons_zero]
          refine takeH (i := 8) (some 49) rfl rfl (by kernel_rfl) (by kernel_rfl) (by kernel_rfl) (fun _ _ _ h => h) (gRun rfl (.agg [vD, vT].toArray) fun _ h => run_build24 (.tmp 44) (.tmp 48) rfl vD vT OD.ints.isSlice.2 OT.ints.isSlice.2 rfl rfl) HB ?_
          simp only [Act.put, List.setIfInBounds_toArray, List.set_cons_succ, List.set_cons_zero]
          refine oneH (i := 10) (by kernel_rfl) ?_
          refine opSkipZ rfl rfl rfl _ (run_storeA ag24 (.tmp 10) (.tmp 49) rfl qt 24 rfl [vD, vT] _ rfl rfl ZA.row rfl (two_one OD.ints OT.ints)) ?_
          have r_ := ZA.row.setRow [vD, vT]
          have od_ := OD.setRow ZA.row (by decide) ([vD, vT] : List Value).toArray
          have ot_ := OT.setRow ZA.row (by decide) ([vD, vT] : List Value).toArray
          have hb_ := HB.trans (((Ch.refl (· = qt) X5).setRow (Or.inl rfl) ([vD, vT] : List Value).toArray).below HB.size fun i hi e => by omega)
          obtain ⟨X6, hW_⟩ : ∃ U_ : World, U_ = X5.setRow qt ([vD, vT] : List Value).toArray := ⟨_, rfl⟩
          rw [← hW_] at r_ od_ ot_ hb_ ⊢
          clear hW_
          refine ⟨hb_, ?_⟩
          refine wpAnyH_done (by kernel_rfl) ?_ _
          exact hG X6 qt g1 g2 vD vT ⟨r_, od_, ot_, hb_, qt_ge, ne_⟩
      · refine opValueG (some 45) rfl rfl rfl _ _ (run_int0Op rfl) ?_
        have r_ : Row0 (X1.alloc (.cells #[] 3)) X1.heap.size := ⟨Row.new X1 3 []⟩
        have bW := below_alloc X1 (.cells #[] 3)
        obtain ⟨X2, hW_⟩ : ∃ U_ : World, U_ = X1.alloc (.cells #[] 3) := ⟨_, rfl⟩
        obtain ⟨g2, hq_⟩ : ∃ q, q = X1.heap.size := ⟨_, rfl⟩
        have g2_ge : u8.heap.size ≤ g2 := by rw [hq_]; exact HB.size
        rw [← hW_] at bW
        rw [← hW_, ← hq_] at r_
        rw [← hW_, ← hq_]
        clear hW_ hq_
        replace G1 := G1.later bW
        replace HB := belowNext HB bW
        have G2 : Row0 X2 g2 := r_
        clear r_ bW
        refine ⟨HB, ?_⟩
        simp only [Act.put, List.setIfInBounds_toArray, List.set_cons_succ, List.set_cons_zero]
        refine wpAnyH_all (rs := [3, 9]) (by kernel_rfl) (by decide) ?_
        intro i hi
        have hi' : i = 3 ∨ i = 9 := by simpa using hi
        clear hi
        rcases hi' with rfl | rfl
        · obtain ⟨vD, X3, ra_, o_, bW, fr_⟩ := app_fresh 22 g1 G1.row vd ds ((HS.out.sh.d).later HB) hl1.out
          refine opValueG (some 44) rfl rfl rfl vD X3 (run_append (.tmp 41) (.tmp 43) rfl _ _ _ rfl rfl ra_) ?_
          clear ra_ G1
          replace G2 := G2.later bW
          replace HB := belowNext HB bW
          have OD : IOwn X3 u8.heap.size vD ds := o_.mono g1_ge
          clear o_ bW fr_
          refine ⟨HB, ?_⟩
          simp only [Act.put, List.setIfInBounds_toArray, List.set_cons_succ, List.set_cons_zero]
          refine wpAnyH_all (rs := [7, 9]) (by kernel_rfl) (by decide) ?_
          intro i hi
          have hi' : i = 7 ∨ i = 9 := by simpa using hi
          clear hi
          rcases hi' with rfl | rfl
          · obtain ⟨vT, X4, ra_, o_, bW, fr_⟩ := app_fresh 22 g2 G2.row vt ts ((HS.out.sh.t).later HB) hl2.out
            refine opValueG (some 48) rfl rfl rfl vT X4 (run_append (.tmp 45) (.tmp 47) rfl _ _ _ rfl rfl ra_) ?_
            clear ra_ G2
            have ne_ : 0 < ts.length → ∀ b b', vD.ownBlock = some b → vT.ownBlock = some b' → b ≠ b' := fun hp b b' h h' => by have := fr_ hp b' h'; have := (OD.own.lt b h).2; omega
            replace OD := OD.later bW
            replace HB := belowNext HB bW
            have OT : IOwn X4 u8.heap.size vT ts := o_.mono g2_ge
            clear o_ bW fr_
            refine ⟨HB, ?_⟩
            simp only [Act.put, List.setIfInBounds_toArray, List.set_cons_succ, List.set_cons_zero]
            refine takeH (i := 8) (some 49) rfl rfl (by kernel_rfl) (by kernel_rfl) (by kernel_rfl) (fun _ _ _ h => h) (gRun rfl (.agg [vD, vT].toArray) fun _ h => run_build24 (.tmp 44) (.tmp 48) rfl vD vT OD.ints.isSlice.2 OT.ints.isSlice.2 rfl rfl) HB ?_
            simp only [Act.put, List.setIfInBounds_toArray, List.set_cons_succ, List.set_cons_zero]
            refine oneH (i := 9) (by kernel_rfl) ?_
            refine opValueG (some 10) rfl rfl rfl (ptr X4.heap.size) _ (run_allocA [Value.slice none 0 0, .slice none 0 0] zero24 rfl) ?_
            have r_ : RowZ (X4.alloc (.cells ([Value.slice none 0 0, .slice none 0 0]).toArray 24)) X4.heap.size := ⟨Row.new X4 24 [Value.slice none 0 0, .slice none 0 0]⟩
            have bW := below_alloc X4 (.cells ([Value.slice none 0 0, .slice none 0 0]).toArray 24)
            obtain ⟨X5, hW_⟩ : ∃ U_ : World, U_ = X4.alloc (.cells ([Value.slice none 0 0, .slice none 0 0]).toArray 24) := ⟨_, rfl⟩
            obtain ⟨qt, hq_⟩ : ∃ q, q = X4.heap.size := ⟨_, rfl⟩
            have qt_ge : u8.heap.size ≤ qt := by rw [hq_]; exact HB.size
            rw [← hW_] at bW
            rw [← hW_, ← hq_] at r_
            rw [← hW_, ← hq_]
            clear hW_ hq_
            replace OD := OD.later bW
            replace OT := OT.later bW
            replace HB := belowNext HB bW
            have ZA : RowZ X5 qt := r_
            clear r_ bW
            refine ⟨HB, ?_⟩
            simp only [Act.put, List.setIfInBounds_toArray, List.set_cons_succ, List.set_cons_zero]
            refine oneH (i := 10) (by kernel_rfl) ?_
            refine opSkipZ rfl rfl rfl _ (run_storeA ag24 (.tmp 10) (.tmp 49) rfl qt 24 rfl [vD, vT] _ rfl rfl ZA.row rfl (two_one OD.ints OT.ints)) ?_
            have r_ := ZA.row.setRow [vD, vT]
            have od_ := OD.setRow ZA.row (by decide) ([vD, vT] : List Value).toArray
            have ot_ := OT.setRow ZA.row (by decide) ([vD, vT] : List Value).toArray
            have hb_ := HB.trans (((Ch.refl (· = qt) X5).setRow (Or.inl rfl) ([vD, vT] : List Value).toArray).below HB.size fun i hi e => by omega)
            obtain ⟨X6, hW_⟩ : ∃ U_ : World, U_ = X5.setRow qt ([vD, vT] : List Value).toArray := ⟨_, rfl⟩
            rw [← hW_] at r_ od_ ot_ hb_ ⊢
            clear hW_
            refine ⟨hb_, ?_⟩
            refine wpAnyH_done (by kernel_rfl) ?_ _
            exact hG X6 qt g1 g2 vD vT ⟨r_, od_, ot_, hb_, qt_ge, ne_⟩
          · refine opValueG (some 10) rfl rfl rfl (ptr X3.heap.size) _ (run_allocA [Value.slice none 0 0, .slice none 0 0] zero24 rfl) ?_
            have r_ : RowZ (X3.alloc (.cells ([Value.slice none 0 0, .slice none 0 0]).toArray 24)) X3.heap.size := ⟨Row.new X3 24 [Value.slice none 0 0, .slice none 0 0]⟩
            have bW := below_alloc X3 (.cells ([Value.slice none 0 0, .slice none 0 0]).toArray 24)
            obtain ⟨X4, hW_⟩ : ∃ U_ : World, U_ = X3.alloc (.cells ([Value.slice none 0 0, .slice none 0 0]).toArray 24) := ⟨_, rfl⟩
            obtain ⟨qt, hq_⟩ : ∃ q, q = X3.heap.size := ⟨_, rfl⟩
            have qt_ge : u8.heap.size ≤ qt := by rw [hq_]; exact HB.size
            rw [← hW_] at bW
            rw [← hW_, ← hq_] at r_
            rw [← hW_, ← hq_]
            clear hW_ hq_
            replace G2 := G2.later bW
            replace OD := OD.later bW
            replace HB := belowNext HB bW
            have ZA : RowZ X4 qt := r_
            clear r_ bW
            refine ⟨HB, ?_⟩
            simp only [Act.put, List.setIfInBounds_toArray, List.set_cons_succ, List.set_cons_zero]
            refine oneH (i := 7) (by kernel_rfl) ?_
            obtain ⟨vT, X5, ra_, o_, bW, fr_⟩ := app_fresh 22 g2 G2.row vt ts ((HS.out.sh.t).later HB) hl2.out
            refine opValueG (some 48) rfl rfl rfl vT X5 (run_append (.tmp 45) (.tmp 47) rfl _ _ _ rfl rfl ra_) ?_
            clear ra_ G2
            have ne_ : 0 < ts.length → ∀ b b', vD.ownBlock = some b → vT.ownBlock = some b' → b ≠ b' := fun hp b b' h h' => by have := fr_ hp b' h'; have := (OD.own.lt b h).2; omega
            replace OD := OD.later bW
            replace ZA := ZA.later bW
            replace HB := belowNext HB bW
            have OT : IOwn X5 u8.heap.size vT ts := o_.mono g2_ge
            clear o_ bW fr_
            refine ⟨HB, ?_⟩
            simp only [Act.put, List.setIfInBounds_toArray, List.set_cons_succ, List.set_cons_zero]
            refine takeH (i := 8) (some 49) rfl rfl (by kernel_rfl) (by kernel_rfl) (by kernel_rfl) (fun _ _ _ h => h) (gRun rfl (.agg [vD, vT].toArray) fun _ h => run_build24 (.tmp 44) (.tmp 48) rfl vD vT OD.ints.isSlice.2 OT.ints.isSlice.2 rfl rfl) HB ?_
            simp only [Act.put, List.setIfInBounds_toArray, List.set_cons_succ, List.set_cons_zero]
            refine oneH (i := 10) (by kernel_rfl) ?_
            refine opSkipZ rfl rfl rfl _ (run_storeA ag24 (.tmp 10) (.tmp 49) rfl qt 24 rfl [vD, vT] _ rfl rfl ZA.row rfl (two_one OD.ints OT.ints)) ?_
            have r_ := ZA.row.setRow [vD, vT]
            have od_ := OD.setRow ZA.row (by decide) ([vD, vT] : List Value).toArray
            have ot_ := OT.setRow ZA.row (by decide) ([vD, vT] : List Value).toArray
            have hb_ := HB.trans (((Ch.refl (· = qt) X5).setRow (Or.inl rfl) ([vD, vT] : List Value).toArray).below HB.size fun i hi e => by omega)
            obtain ⟨X6, hW_⟩ : ∃ U_ : World, U_ = X5.setRow qt ([vD, vT] : List Value).toArray := ⟨_, rfl⟩
            rw [← hW_] at r_ od_ ot_ hb_ ⊢
            clear hW_
            refine ⟨hb_, ?_⟩
            refine wpAnyH_done (by kernel_rfl) ?_ _
            exact hG X6 qt g1 g2 vD vT ⟨r_, od_, ot_, hb_, qt_ge, ne_⟩
        · refine opValueG (some 10) rfl rfl rfl (ptr X2.heap.size) _ (run_allocA [Value.slice none 0 0, .slice none 0 0] zero24 rfl) ?_
          have r_ : RowZ (X2.alloc (.cells ([Value.slice none 0 0, .slice none 0 0]).toArray 24)) X2.heap.size := ⟨Row.new X2 24 [Value.slice none 0 0, .slice none 0 0]⟩
          have bW := below_alloc X2 (.cells ([Value.slice none 0 0, .slice none 0 0]).toArray 24)
          obtain ⟨X3, hW_⟩ : ∃ U_ : World, U_ = X2.alloc (.cells ([Value.slice none 0 0, .slice none 0 0]).toArray 24) := ⟨_, rfl⟩
          obtain ⟨qt, hq_⟩ : ∃ q, q = X2.heap.size := ⟨_, rfl⟩
          have qt_ge : u8.heap.size ≤ qt := by rw [hq_]; exact HB.size
          rw [← hW_] at bW
          rw [← hW_, ← hq_] at r_
          rw [← hW_, ← hq_]
          clear hW_ hq_
          replace G1 := G1.later bW
          replace G2 := G2.later bW
          replace HB := belowNext HB bW
          have ZA : RowZ X3 qt := r_
          clear r_ bW
          refine ⟨HB, ?_⟩
          simp only [Act.put, List.setIfInBounds_toArray, List.set_cons_succ, List.set_cons_zero]
          refine oneH (i := 3) (by kernel_rfl) ?_
          obtain ⟨vD, X4, ra_, o_, bW, fr_⟩ := app_fresh 22 g1 G1.row vd ds ((HS.out.sh.d).later HB) hl1.out
          refine opValueG (some 44) rfl rfl rfl vD X4 (run_append (.tmp 41) (.tmp 43) rfl _ _ _ rfl rfl ra_) ?_
          clear ra_ G1
          replace G2 := G2.later bW
          replace ZA := ZA.later bW
          replace HB := belowNext HB bW
          have OD : IOwn X4 u8.heap.size vD ds := o_.mono g1_ge
          clear o_ bW fr_
          refine ⟨HB, ?_⟩
          simp only [Act.put, List.setIfInBounds_toArray, List.set_cons_succ, List.set_cons_zero]
          refine oneH (i := 7) (by kernel_rfl) ?_
          obtain ⟨vT, X5, ra_, o_, bW, fr_⟩ := app_fresh 22 g2 G2.row vt ts ((HS.out.sh.t).later HB) hl2.out
          refine opValueG (some 48) rfl rfl rfl vT X5 (run_append (.tmp 45) (.tmp 47) rfl _ _ _ rfl rfl ra_) ?_
          clear ra_ G2
          have ne_ : 0 < ts.length → ∀ b b', vD.ownBlock = some b → vT.ownBlock = some b' → b ≠ b' := fun hp b b' h h' => by have := fr_ hp b' h'; have := (OD.own.lt b h).2; omega
          replace OD := OD.later bW
          replace ZA := ZA.later bW
          replace HB := belowNext HB bW
          have OT : IOwn X5 u8.heap.size vT ts := o_.mono g2_ge
          clear o_ bW fr_
          refine ⟨HB, ?_⟩
          simp only [Act.put, List.setIfInBounds_toArray, List.set_cons_succ, List.set_cons_zero]
          refine takeH (i := 8) (some 49) rfl rfl (by kernel_rfl) (by kernel_rfl) (by kernel_rfl) (fun _ _ _ h => h) (gRun rfl (.agg [vD, vT].toArray) fun _ h => run_build24 (.tmp 44) (.tmp 48) rfl vD vT OD.ints.isSlice.2 OT.ints.isSlice.2 rfl rfl) HB ?_
          simp only [Act.put, List.setIfInBounds_toArray, List.set_cons_succ, List.set_cons_zero]
          refine oneH (i := 10) (by kernel_rfl) ?_
          refine opSkipZ rfl rfl rfl _ (run_storeA ag24 (.tmp 10) (.tmp 49) rfl qt 24 rfl [vD, vT] _ rfl rfl ZA.row rfl (two_one OD.ints OT.ints)) ?_
          have r_ := ZA.row.setRow [vD, vT]
          have od_ := OD.setRow ZA.row (by decide) ([vD, vT] : List Value).toArray
          have ot_ := OT.setRow ZA.row (by decide) ([vD, vT] : List Value).toArray
          have hb_ := HB.trans (((Ch.refl (· = qt) X5).setRow (Or.inl rfl) ([vD, vT] : List Value).toArray).below HB.size fun i hi e => by omega)
          obtain ⟨X6, hW_⟩ : ∃ U_ : World, U_ = X5.setRow qt ([vD, vT] : List Value).toArray := ⟨_, rfl⟩
          rw [← hW_] at r_ od_ ot_ hb_ ⊢
          clear hW_
          refine ⟨hb_, ?_⟩
          refine wpAnyH_done (by kernel_rfl) ?_ _
          exact hG X6 qt g1 g2 vD vT ⟨r_, od_, ot_, hb_, qt_ge, ne_⟩
      · refine opValueG (some 10) rfl rfl rfl (ptr X1.heap.size) _ (run_allocA [Value.slice none 0 0, .slice none 0 0] zero24 rfl) ?_
        have r_ : RowZ (X1.alloc (.cells ([Value.slice none 0 0, .slice none 0 0]).toArray 24)) X1.heap.size := ⟨Row.new X1 24 [Value.slice none 0 0, .slice none 0 0]⟩
        have bW := below_alloc X1 (.cells ([Value.slice none 0 0, .slice none 0 0]).toArray 24)
        obtain ⟨X2, hW_⟩ : ∃ U_ : World, U_ = X1.alloc (.cells ([Value.slice none 0 0, .slice none 0 0]).toArray 24) := ⟨_, rfl⟩
        obtain ⟨qt, hq_⟩ : ∃ q, q = X1.heap.size := ⟨_, rfl⟩
        have qt_ge : u8.heap.size ≤ qt := by rw [hq_]; exact HB.size
        rw [← hW_] at bW
        rw [← hW_, ← hq_] at r_
        rw [← hW_, ← hq_]
        clear hW_ hq_
        replace G1 := G1.later bW
        replace HB := belowNext HB bW
        have ZA : RowZ X2 qt := r_
        clear r_ bW
        refine ⟨HB, ?_⟩
        simp only [Act.put, List.setIfInBounds_toArray, List.set_cons_succ, List.set_cons_zero]
        refine wpAnyH_all (rs := [3, 4]) (by kernel_rfl) (by decide) ?_
        intro i hi
        have hi' : i = 3 ∨ i = 4 := by simpa using hi
        clear hi
        rcases hi' with rfl | rfl
        · obtain ⟨vD, X3, ra_, o_, bW, fr_⟩ := app_fresh 22 g1 G1.row vd ds ((HS.out.sh.d).later HB) hl1.out
          refine opValueG (some 44) rfl rfl rfl vD X3 (run_append (.tmp 41) (.tmp 43) rfl _ _ _ rfl rfl ra_) ?_
          clear ra_ G1
          replace ZA := ZA.later bW
          replace HB := belowNext HB bW
          have OD : IOwn X3 u8.heap.size vD ds := o_.mono g1_ge
          clear o_ bW fr_
          refine ⟨HB, ?_⟩
          simp only [Act.put, List.setIfInBounds_toArray, List.set_cons_succ, List.set_cons_zero]
          refine oneH (i := 4) (by kernel_rfl) ?_
          refine opValueG (some 45) rfl rfl rfl _ _ (run_int0Op rfl) ?_
          have r_ : Row0 (X3.alloc (.cells #[] 3)) X3.heap.size := ⟨Row.new X3 3 []⟩
          have bW := below_alloc X3 (.cells #[] 3)
          obtain ⟨X4, hW_⟩ : ∃ U_ : World, U_ = X3.alloc (.cells #[] 3) := ⟨_, rfl⟩
          obtain ⟨g2, hq_⟩ : ∃ q, q = X3.heap.size := ⟨_, rfl⟩
          have g2_ge : u8.heap.size ≤ g2 := by rw [hq_]; exact HB.size
          rw [← hW_] at bW
          rw [← hW_, ← hq_] at r_
          rw [← hW_, ← hq_]
          clear hW_ hq_
          replace OD := OD.later bW
          replace ZA := ZA.later bW
          replace HB := belowNext HB bW
          have G2 : Row0 X4 g2 := r_
          clear r_ bW
          refine ⟨HB, ?_⟩
          simp only [Act.put, List.setIfInBounds_toArray, List.set_cons_succ, List.set_cons_zero]
          refine oneH (i := 7) (by kernel_rfl) ?_
          obtain ⟨vT, X5, ra_, o_, bW, fr_⟩ := app_fresh 22 g2 G2.row vt ts ((HS.out.sh.t).later HB) hl2.out
          refine opValueG (some 48) rfl rfl rfl vT X5 (run_append (.tmp 45) (.tmp 47) rfl _ _ _ rfl rfl ra_) ?_
          clear ra_ G2
          have ne_ : 0 < ts.length → ∀ b b', vD.ownBlock = some b → vT.ownBlock = some b' → b ≠ b' := fun hp b b' h h' => by have := fr_ hp b' h'; have := (OD.own.lt b h).2; omega
          replace OD := OD.later bW
          replace ZA := ZA.later bW
          replace HB := belowNext HB bW
          have OT : IOwn X5 u8.heap.size vT ts := o_.mono g2_ge
          clear o_ bW fr_
          refine ⟨HB, ?_⟩
          simp only [Act.put, List.setIfInBounds_toArray, List.set_cons_succ, List.set_cons_zero]
          refine takeH (i := 8) (some 49) rfl rfl (by kernel_rfl) (by kernel_rfl) (by kernel_rfl) (fun _ _ _ h => h) (gRun rfl (.agg [vD, vT].toArray) fun _ h => run_build24 (.tmp 44) (.tmp 48) rfl vD vT OD.ints.isSlice.2 OT.ints.isSlice.2 rfl rfl) HB ?_
          simp only [Act.put, List.setIfInBounds_toArray, List.set_cons_succ, List.set_cons_zero]
          refine oneH (i := 10) (by kernel_rfl) ?_
          refine opSkipZ rfl rfl rfl _ (run_storeA ag24 (.tmp 10) (.tmp 49) rfl qt 24 rfl [vD, vT] _ rfl rfl ZA.row rfl (two_one OD.ints OT.ints)) ?_
          have r_ := ZA.row.setRow [vD, vT]
          have od_ := OD.setRow ZA.row (by decide) ([vD, vT] : List Value).toArray
          have ot_ := OT.setRow ZA.row (by decide) ([vD, vT] : List Value).toArray
          have hb_ := HB.trans (((Ch.refl (· = qt) X5).setRow (Or.inl rfl) ([vD, vT] : List Value).toArray).below HB.size fun i hi e => by omega)
          obtain ⟨X6, hW_⟩ : ∃ U_ : World, U_ = X5.setRow qt ([vD, vT] : List Value).toArray := ⟨_, rfl⟩
          rw [← hW_] at r_ od_ ot_ hb_ ⊢
          clear hW_
          refine ⟨hb_, ?_⟩
          refine wpAnyH_done (by kernel_rfl) ?_ _
          exact hG X6 qt g1 g2 vD vT ⟨r_, od_, ot_, hb_, qt_ge, ne_⟩
        · refine opValueG (some 45) rfl rfl rfl _ _ (run_int0Op rfl) ?_
          have r_ : Row0 (X2.alloc (.cells #[] 3)) X2.heap.size := ⟨Row.new X2 3 []⟩
          have bW := below_alloc X2 (.cells #[] 3)
          obtain ⟨X3, hW_⟩ : ∃ U_ : World, U_ = X2.alloc (.cells #[] 3) := ⟨_, rfl⟩
          obtain ⟨g2, hq_⟩ : ∃ q, q = X2.heap.size := ⟨_, rfl⟩
          have g2_ge : u8.heap.size ≤ g2 := by rw [hq_]; exact HB.size
          rw [← hW_] at bW
          rw [← hW_, ← hq_] at r_
          rw [← hW_, ← hq_]
          clear hW_ hq_
          replace G1 := G1.later bW
          replace ZA := ZA.later bW
          replace HB := belowNext HB bW
          have G2 : Row0 X3 g2 := r_
          clear r_ bW
          refine ⟨HB, ?_⟩
          simp only [Act.put, List.setIfInBounds_toArray, List.set_cons_succ, List.set_cons_zero]
          refine oneH (i := 3) (by kernel_rfl) ?_
          obtain ⟨vD, X4, ra_, o_, bW, fr_⟩ := app_fresh 22 g1 G1.row vd ds ((HS.out.sh.d).later HB) hl1.out
          refine opValueG (some 44) rfl rfl rfl vD X4 (run_append (.tmp 41) (.tmp 43) rfl _ _ _ rfl rfl ra_) ?_
          clear ra_ G1
          replace G2 := G2.later bW
          replace ZA := ZA.later bW
          replace HB := belowNext HB bW
          have OD : IOwn X4 u8.heap.size vD ds := o_.mono g1_ge
          clear o_ bW fr_
          refine ⟨HB, ?_⟩
          simp only [Act.put, List.setIfInBounds_toArray, List.set_cons_succ, List.set_cons_zero]
          refine oneH (i := 7) (by kernel_rfl) ?_
          obtain ⟨vT, X5, ra_, o_, bW, fr_⟩ := app_fresh 22 g2 G2.row vt ts ((HS.out.sh.t).later HB) hl2.out
          refine opValueG (some 48) rfl rfl rfl vT X5 (run_append (.tmp 45) (.tmp 47) rfl _ _ _ rfl rfl ra_) ?_
          clear ra_ G2
          have ne_ : 0 < ts.length → ∀ b b', vD.ownBlock = some b → vT.ownBlock = some b' → b ≠ b' := fun hp b b' h h' => by have := fr_ hp b' h'; have := (OD.own.lt b h).2; omega
          replace OD := OD.later bW
          replace ZA := ZA.later bW
          replace HB := belowNext HB bW
          have OT : IOwn X5 u8.heap.size vT ts := o_.mono g2_ge
          clear o_ bW fr_
          refine ⟨HB, ?_⟩
          simp only [Act.put, List.setIfInBounds_toArray, List.set_cons_succ, List.set_cons_zero]
          refine takeH (i := 8) (some 49) rfl rfl (by kernel_rfl) (by kernel_rfl) (by kernel_rfl) (fun _ _ _ h => h) (gRun rfl (.agg [vD, vT].toArray) fun _ h => run_build24 (.tmp 44) (.tmp 48) rfl vD vT OD.ints.isSlice.2 OT.ints.isSlice.2 rfl rfl) HB ?_
          simp only [Act.put, List.setIfInBounds_toArray, List.set_cons_succ, List.set_cons_zero]
          refine oneH (i := 10) (by kernel_rfl) ?_
          refine opSkipZ rfl rfl rfl _ (run_storeA ag24 (.tmp 10) (.tmp 49) rfl qt 24 rfl [vD, vT] _ rfl rfl ZA.row rfl (two_one OD.ints OT.ints)) ?_
          have r_ := ZA.row.setRow [vD, vT]
          have od_ := OD.setRow ZA.row (by decide) ([vD, vT] : List Value).toArray
          have ot_ := OT.setRow ZA.row (by decide) ([vD, vT] : List Value).toArray
          have hb_ := HB.trans (((Ch.refl (· = qt) X5).setRow (Or.inl rfl) ([vD, vT] : List Value).toArray).below HB.size fun i hi e => by omega)
          obtain ⟨X6, hW_⟩ : ∃ U_ : World, U_ = X5.setRow qt ([vD, vT] : List Value).toArray := ⟨_, rfl⟩
          rw [← hW_] at r_ od_ ot_ hb_ ⊢
          clear hW_
          refine ⟨hb_, ?_⟩
          refine wpAnyH_done (by kernel_rfl) ?_ _
          exact hG X6 qt g1 g2 vD vT ⟨r_, od_, ot_, hb_, qt_ge, ne_⟩
    · refine opValueG (some 45) rfl rfl rfl _ _ (run_int0Op rfl) ?_
      have r_ : Row0 (X0.alloc (.cells #[] 3)) X0.heap.size := ⟨Row.new X0 3 []⟩
      have bW := below_alloc X0 (.cells #[] 3)
      obtain ⟨X1, hW_⟩ : ∃ U_ : World, U_ = X0.alloc (.cells #[] 3) := ⟨_, rfl⟩
      obtain ⟨g2, hq_⟩ : ∃ q, q = X0.heap.size := ⟨_, rfl⟩
      have g2_ge : u8.heap.size ≤ g2 := by rw [hq_]; exact HB.size
      rw [← hW_] at bW
      rw [← hW_, ← hq_] at r_
      rw [← hW_, ← hq_]
      clear hW_ hq_
      replace HB := belowNext HB bW
      have G2 : Row0 X1 g2 := r_
      clear r_ bW
      refine ⟨HB, ?_⟩
      simp only [Act.put, List.setIfInBounds_toArray, List.set_cons_succ, List.set_cons_zero]
      refine wpAnyH_all (rs := [0, 9]) (by kernel_rfl) (by decide) ?_
      intro i hi
      have hi' : i = 0 ∨ i = 9 := by simpa using hi
      clear hi
      rcases hi' with rfl | rfl
      · refine opValueG (some 41) rfl rfl rfl _ _ (run_int0Op rfl) ?_
        have r_ : Row0 (X1.alloc (.cells #[] 3)) X1.heap.size := ⟨Row.new X1 3 []⟩
        have bW := below_alloc X1 (.cells #[] 3)
        obtain ⟨X2, hW_⟩ : ∃ U_ : World, U_ = X1.alloc (.cells #[] 3) := ⟨_, rfl⟩
        obtain ⟨g1, hq_⟩ : ∃ q, q = X1.heap.size := ⟨_, rfl⟩
        have g1_ge : u8.heap.size ≤ g1 := by rw [hq_]; exact HB.size
        rw [← hW_] at bW
        rw [← hW_, ← hq_] at r_
        rw [← hW_, ← hq_]
        clear hW_ hq_
        replace G2 := G2.later bW
        replace HB := belowNext HB bW
        have G1 : Row0 X2 g1 := r_
        clear r_ bW
        refine ⟨HB, ?_⟩
        simp only [Act.put, List.setIfInBounds_toArray, List.set_cons_succ, List.set_cons_zero]
        refine wpAnyH_all (rs := [3, 9]) (by kernel_rfl) (by decide) ?_
        intro i hi
        have hi' : i = 3 ∨ i = 9 := by simpa using hi
        clear hi
        rcases hi' with rfl | rfl
        · obtain ⟨vD, X3, ra_, o_, bW, fr_⟩ := app_fresh 22 g1 G1.row vd ds ((HS.out.sh.d).later HB) hl1.out
          refine opValueG (some 44) rfl rfl rfl vD X3 (run_append (.tmp 41) (.tmp 43) rfl _ _ _ rfl rfl ra_) ?_
          clear ra_ G1
          replace G2 := G2.later bW
          replace HB := belowNext HB bW
          have OD : IOwn X3 u8.heap.size vD ds := o_.mono g1_ge
          clear o_ bW fr_
          refine ⟨HB, ?_⟩
          simp only [Act.put, List.setIfInBounds_toArray, List.set_cons_succ, List.set_cons_zero]
          refine wpAnyH_all (rs := [7, 9]) (by kernel_rfl) (by decide) ?_
          intro i hi
          have hi' : i = 7 ∨ i = 9 := by simpa using hi
          clear hi
          rcases hi' with rfl | rfl
          · obtain ⟨vT, X4, ra_, o_, bW, fr_⟩ := app_fresh 22 g2 G2.row vt ts ((HS.out.sh.t).later HB) hl2.out
            refine opValueG (some 48) rfl rfl rfl vT X4 (run_append (.tmp 45) (.tmp 47) rfl _ _ _ rfl rfl ra_) ?_
            clear ra_ G2
            have ne_ : 0 < ts.length → ∀ b b', vD.ownBlock = some b → vT.ownBlock = some b' → b ≠ b' := fun hp b b' h h' => by have := fr_ hp b' h'; have := (OD.own.lt b h).2; omega
            replace OD := OD.later bW
            replace HB := belowNext HB bW
            have OT : IOwn X4 u8.heap.size vT ts := o_.mono g2_ge
            clear o_ bW fr_
            refine ⟨HB, ?_⟩
            simp only [Act.put, List.setIfInBounds_toArray, List.set_cons_succ, List.set_cons_zero]
            refine takeH (i := 8) (some 49) rfl rfl (by kernel_rfl) (by kernel_rfl) (by kernel_rfl) (fun _ _ _ h => h) (gRun rfl (.agg [vD, vT].toArray) fun _ h => run_build24 (.tmp 44) (.tmp 48) rfl vD vT OD.ints.isSlice.2 OT.ints.isSlice.2 rfl rfl) HB ?_
            simp only [Act.put, List.setIfInBounds_toArray, List.set_cons_succ, List.set_cons_zero]
            refine oneH (i := 9) (by kernel_rfl) ?_
            refine opValueG (some 10) rfl rfl rfl (ptr X4.heap.size) _ (run_allocA [Value.slice none 0 0, .slice none 0 0] zero24 rfl) ?_
            have r_ : RowZ (X4.alloc (.cells ([Value.slice none 0 0, .slice none 0 0]).toArray 24)) X4.heap.size := ⟨Row.new X4 24 [Value.slice none 0 0, .slice none 0 0]⟩
            have bW := below_alloc X4 (.cells ([Value.slice none 0 0, .slice none 0 0]).toArray 24)
            obtain ⟨X5, hW_⟩ : ∃ U_ : World, U_ = X4.alloc (.cells ([Value.slice none 0 0, .slice none 0 0]).toArray 24) := ⟨_, rfl⟩
            obtain ⟨qt, hq_⟩ : ∃ q, q = X4.heap.size := ⟨_, rfl⟩
            have qt_ge : u8.heap.size ≤ qt := by rw [hq_]; exact HB.size
            rw [← hW_] at bW
            rw [← hW_, ← hq_] at r_
            rw [← hW_, ← hq_]
            clear hW_ hq_
            replace OD := OD.later bW
            replace OT := OT.later bW
            replace HB := belowNext HB bW
            have ZA : RowZ X5 qt := r_
            clear r_ bW
            refine ⟨HB, ?_⟩
            simp only [Act.put, List.setIfInBounds_toArray, List.set_cons_succ, List.set_cons_zero]
            refine oneH (i := 10) (by kernel_rfl) ?_
            refine opSkipZ rfl rfl rfl _ (run_storeA ag24 (.tmp 10) (.tmp 49) rfl qt 24 rfl [vD, vT] _ rfl rfl ZA.row rfl (two_one OD.ints OT.ints)) ?_
            have r_ := ZA.row.setRow [vD, vT]
            have od_ := OD.setRow ZA.row (by decide) ([vD, vT] : List Value).toArray
            have ot_ := OT.setRow ZA.row (by decide) ([vD, vT] : List Value).toArray
            have hb_ := HB.trans (((Ch.refl (· = qt) X5).setRow (Or.inl rfl) ([vD, vT] : List Value).toArray).below HB.size fun i hi e => by omega)
            obtain ⟨X6, hW_⟩ : ∃ U_ : World, U_ = X5.setRow qt ([vD, vT] : List Value).toArray := ⟨_, rfl⟩
            rw [← hW_] at r_ od_ ot_ hb_ ⊢
            clear hW_
            refine ⟨hb_, ?_⟩
            refine wpAnyH_done (by kernel_rfl) ?_ _
            exact hG X6 qt g1 g2 vD vT ⟨r_, od_, ot_, hb_, qt_ge, ne_⟩
          · refine opValueG (some 10) rfl rfl rfl (ptr X3.heap.size) _ (run_allocA [Value.slice none 0 0, .slice none 0 0] zero24 rfl) ?_
            have r_ : RowZ (X3.alloc (.cells ([Value.slice none 0 0, .slice none 0 0]).toArray 24)) X3.heap.size := ⟨Row.new X3 24 [Value.slice none 0 0, .slice none 0 0]⟩
            have bW := below_alloc X3 (.cells ([Value.slice none 0 0, .slice none 0 0]).toArray 24)
            obtain ⟨X4, hW_⟩ : ∃ U_ : World, U_ = X3.alloc (.cells ([Value.slice none 0 0, .slice none 0 0]).toArray 24) := ⟨_, rfl⟩
            obtain ⟨qt, hq_⟩ : ∃ q, q = X3.heap.size := ⟨_, rfl⟩
            have qt_ge : u8.heap.size ≤ qt := by rw [hq_]; exact HB.size
            rw [← hW_] at bW
            rw [← hW_, ← hq_] at r_
            rw [← hW_, ← hq_]
            clear hW_ hq_
            replace G2 := G2.later bW
            replace OD := OD.later bW
            replace HB := belowNext HB bW
            have ZA : RowZ X4 qt := r_
            clear r_ bW
            refine ⟨HB, ?_⟩
            simp only [Act.put, List.setIfInBounds_toArray, List.set_cons_succ, List.set_cons_zero]
            refine oneH (i := 7) (by kernel_rfl) ?_
            obtain ⟨vT, X5, ra_, o_, bW, fr_⟩ := app_fresh 22 g2 G2.row vt ts ((HS.out.sh.t).later HB) hl2.out
            refine opValueG (some 48) rfl rfl rfl vT X5 (run_append (.tmp 45) (.tmp 47) rfl _ _ _ rfl rfl ra_) ?_
            clear ra_ G2
            have ne_ : 0 < ts.length → ∀ b b', vD.ownBlock = some b → vT.ownBlock = some b' → b ≠ b' := fun hp b b' h h' => by have := fr_ hp b' h'; have := (OD.own.lt b h).2; omega
            replace OD := OD.later bW
            replace ZA := ZA.later bW
            replace HB := belowNext HB bW
            have OT : IOwn X5 u8.heap.size vT ts := o_.mono g2_ge
            clear o_ bW fr_
            refine ⟨HB, ?_⟩
            simp only [Act.put, List.setIfInBounds_toArray, List.set_cons_succ, List.set_cons_zero]
            refine takeH (i := 8) (some 49) rfl rfl (by kernel_rfl) (by kernel_rfl) (by kernel_rfl) (fun _ _ _ h => h) (gRun rfl (.agg [vD, vT].toArray) fun _ h => run_build24 (.tmp 44) (.tmp 48) rfl vD vT OD.ints.isSlice.2 OT.ints.isSlice.2 rfl rfl) HB ?_
            simp only [Act.put, List.setIfInBounds_toArray, List.set_cons_succ, List.set_cons_zero]
            refine oneH (i := 10) (by kernel_rfl) ?_
            refine opSkipZ rfl rfl rfl _ (run_storeA ag24 (.tmp 10) (.tmp 49) rfl qt 24 rfl [vD, vT] _ rfl rfl ZA.row rfl (two_one OD.ints OT.ints)) ?_
            have r_ := ZA.row.setRow [vD, vT]
            have od_ := OD.setRow ZA.row (by decide) ([vD, vT] : List Value).toArray
            have ot_ := OT.setRow ZA.row (by decide) ([vD, vT] : List Value).toArray
            have hb_ := HB.trans (((Ch.refl (· = qt) X5).setRow (Or.inl rfl) ([vD, vT] : List Value).toArray).below HB.size fun i hi e => by omega)
            obtain ⟨X6, hW_⟩ : ∃ U_ : World, U_ = X5.setRow qt ([vD, vT] : List Value).toArray := ⟨_, rfl⟩
            rw [← hW_] at r_ od_ ot_ hb_ ⊢
            clear hW_
            refine ⟨hb_, ?_⟩
            refine wpAnyH_done (by kernel_rfl) ?_ _
            exact hG X6 qt g1 g2 vD vT ⟨r_, od_, ot_, hb_, qt_ge, ne_⟩
        · refine opValueG (some 10) rfl rfl rfl (ptr X2.heap.size) _ (run_allocA [Value.slice none 0 0, .slice none 0 0] zero24 rfl) ?_
          have r_ : RowZ (X2.alloc (.cells ([Value.slice none 0 0, .slice none 0 0]).toArray 24)) X2.heap.size := ⟨Row.new X2 24 [Value.slice none 0 0, .slice none 0 0]⟩
          have bW := below_alloc X2 (.cells ([Value.slice none 0 0, .slice none 0 0]).toArray 24)
          obtain ⟨X3, hW_⟩ : ∃ U_ : World, U_ = X2.alloc (.cells ([Value.slice none 0 0, .slice none 0 0]).toArray 24) := ⟨_, rfl⟩
          obtain ⟨qt, hq_⟩ : ∃ q, q = X2.heap.size := ⟨_, rfl⟩
          have qt_ge : u8.heap.size ≤ qt := by rw [hq_]; exact HB.size
          rw [← hW_] at bW
          rw [← hW_, ← hq_] at r_
          rw [← hW_, ← hq_]
          clear hW_ hq_
          replace G1 := G1.later bW
          replace G2 := G2.later bW
          replace HB := belowNext HB bW
          have ZA : RowZ X3 qt := r_
          clear r_ bW
          refine ⟨HB, ?_⟩
          simp only [Act.put, List.setIfInBounds_toArray, List.set_cons_succ, List.set_cons_zero]
          refine oneH (i := 3) (by kernel_rfl) ?_
          obtain ⟨vD, X4, ra_, o_, bW, fr_⟩ := app_fresh 22 g1 G1.row vd ds ((HS.out.sh.d).later HB) hl1.out
          refine opValueG (some 44) rfl rfl rfl vD X4 (run_append (.tmp 41) (.tmp 43) rfl _ _ _ rfl rfl ra_) ?_
          clear ra_ G1
          replace G2 := G2.later bW
          replace ZA := ZA.later bW
          replace HB := belowNext HB bW
          have OD : IOwn X4 u8.heap.size vD ds := o_.mono g1_ge
          clear o_ bW fr_
          refine ⟨HB, ?_⟩
          simp only [Act.put, List.setIfInBounds_toArray, List.set_cons_succ, List.set_cons_zero]
          refine oneH (i := 7) (by kernel_rfl) ?_
          obtain ⟨vT, X5, ra_, o_, bW, fr_⟩ := app_fresh 22 g2 G2.row vt ts ((HS.out.sh.t).later HB) hl2.out
          refine opValueG (some 48) rfl rfl rfl vT X5 (run_append (.tmp 45) (.tmp 47) rfl _ _ _ rfl rfl ra_) ?_
          clear ra_ G2
          have ne_ : 0 < ts.length → ∀ b b', vD.ownBlock = some b → vT.ownBlock = some b' → b ≠ b' := fun hp b b' h h' => by have := fr_ hp b' h'; have := (OD.own.lt b h).2; omega
          replace OD := OD.later bW
          replace ZA := ZA.later bW
          replace HB := belowNext HB bW
          have OT : IOwn X5 u8.heap.size vT ts := o_.mono g2_ge
          clear o_ bW fr_
          refine ⟨HB, ?_⟩
          simp only [Act.put, List.setIfInBounds_toArray, List.set_cons_succ, List.set_cons_zero]
          refine takeH (i := 8) (some 49) rfl rfl (by kernel_rfl) (by kernel_rfl) (by kernel_rfl) (fun _ _ _ h => h) (gRun rfl (.agg [vD, vT].toArray) fun _ h => run_build24 (.tmp 44) (.tmp 48) rfl vD vT OD.ints.isSlice.2 OT.ints.isSlice.2 rfl rfl) HB ?_
          simp only [Act.put, List.setIfInBounds_toArray, List.set_cons_succ, List.set_cons_zero]
          refine oneH (i := 10) (by kernel_rfl) ?_
          refine opSkipZ rfl rfl rfl _ (run_storeA ag24 (.tmp 10) (.tmp 49) rfl qt 24 rfl [vD, vT] _ rfl rfl ZA.row rfl (two_one OD.ints OT.ints)) ?_
          have r_ := ZA.row.setRow [vD, vT]
          have od_ := OD.setRow ZA.row (by decide) ([vD, vT] : List Value).toArray
          have ot_ := OT.setRow ZA.row (by decide) ([vD, vT] : List Value).toArray
          have hb_ := HB.trans (((Ch.refl (· = qt) X5).setRow (Or.inl rfl) ([vD, vT] : List Value).toArray).below HB.size fun i hi e => by omega)
          obtain ⟨X6, hW_⟩ : ∃ U_ : World, U_ = X5.setRow qt ([vD, vT] : List Value).toArray := ⟨_, rfl⟩
          rw [← hW_] at r_ od_ ot_ hb_ ⊢
          clear hW_
          refine ⟨hb_, ?_⟩
          refine wpAnyH_done (by kernel_rfl) ?_ _
          exact hG X6 qt g1 g2 vD vT ⟨r_, od_, ot_, hb_, qt_ge, ne_⟩
      · refine opValueG (some 10) rfl rfl rfl (ptr X1.heap.size) _ (run_allocA [Value.slice none 0 0, .slice none 0 0] zero24 rfl) ?_
        have r_ : RowZ (X1.alloc (.cells ([Value.slice none 0 0, .slice none 0 0]).toArray 24)) X1.heap.size := ⟨Row.new X1 24 [Value.slice none 0 0, .slice none 0 0]⟩
        have bW := below_alloc X1 (.cells ([Value.slice none 0 0, .slice none 0 0]).toArray 24)
        obtain ⟨X2, hW_⟩ : ∃ U_ : World, U_ = X1.alloc (.cells ([Value.slice none 0 0, .slice none 0 0]).toArray 24) := ⟨_, rfl⟩
        obtain ⟨qt, hq_⟩ : ∃ q, q = X1.heap.size := ⟨_, rfl⟩
        have qt_ge : u8.heap.size ≤ qt := by rw [hq_]; exact HB.size
        rw [← hW_] at bW
        rw [← hW_, ← hq_] at r_
        rw [← hW_, ← hq_]
        clear hW_ hq_
        replace G2 := G2.later bW
        replace HB := belowNext HB bW
        have ZA : RowZ X2 qt := r_
        clear r_ bW
        refine ⟨HB, ?_⟩
        simp only [Act.put, List.setIfInBounds_toArray, List.set_cons_succ, List.set_cons_zero]
        refine oneH (i := 0) (by kernel_rfl) ?_
        refine opValueG (some 41) rfl rfl rfl _ _ (run_int0Op rfl) ?_
        have r_ : Row0 (X2.alloc (.cells #[] 3)) X2.heap.size := ⟨Row.new X2 3 []⟩
        have bW := below_alloc X2 (.cells #[] 3)
        obtain ⟨X3, hW_⟩ : ∃ U_ : World, U_ = X2.alloc (.cells #[] 3) := ⟨_, rfl⟩
        obtain ⟨g1, hq_⟩ : ∃ q, q = X2.heap.size := ⟨_, rfl⟩
        have g1_ge : u8.heap.size ≤ g1 := by rw [hq_]; exact HB.size
        rw [← hW_] at bW
        rw [← hW_, ← hq_] at r_
        rw [← hW_, ← hq_]
        clear hW_ hq_
        replace G2 := G2.later bW
        replace ZA := ZA.later bW
        replace HB := belowNext HB bW
        have G1 : Row0 X3 g1 := r_
        clear r_ bW
        refine ⟨HB, ?_⟩
        simp only [Act.put, List.setIfInBounds_toArray, List.set_cons_succ, List.set_cons_zero]
        refine oneH (i := 3) (by kernel_rfl) ?_
        obtain ⟨vD, X4, ra_, o_, bW, fr_⟩ := app_fresh 22 g1 G1.row vd ds ((HS.out.sh.d).later HB) hl1.out
        refine opValueG (some 44) rfl rfl rfl vD X4 (run_append (.tmp 41) (.tmp 43) rfl _ _ _ rfl rfl ra_) ?_
        clear ra_ G1
        replace G2 := G2.later bW
        replace ZA := ZA.later bW
        replace HB := belowNext HB bW
        have OD : IOwn X4 u8.heap.size vD ds := o_.mono g1_ge
        clear o_ bW fr_
        refine ⟨HB, ?_⟩
        simp only [Act.put, List.setIfInBounds_toArray, List.set_cons_succ, List.set_cons_zero]
        refine oneH (i := 7) (by kernel_rfl) ?_
        obtain ⟨vT, X5, ra_, o_, bW, fr_⟩ := app_fresh 22 g2 G2.row vt ts ((HS.out.sh.t).later HB) hl2.out
        refine opValueG (some 48) rfl rfl rfl vT X5 (run_append (.tmp 45) (.tmp 47) rfl _ _ _ rfl rfl ra_) ?_
        clear ra_ G2
        have ne_ : 0 < ts.length → ∀ b b', vD.ownBlock = some b → vT.ownBlock = some b' → b ≠ b' := fun hp b b' h h' => by have := fr_ hp b' h'; have := (OD.own.lt b h).2; omega
        replace OD := OD.later bW
        replace ZA := ZA.later bW
        replace HB := belowNext HB bW
        have OT : IOwn X5 u8.heap.size vT ts := o_.mono g2_ge
        clear o_ bW fr_
        refine ⟨HB, ?_⟩
        simp only [Act.put, List.setIfInBounds_toArray, List.set_cons_succ, List.set_cons_zero]
        refine takeH (i := 8) (some 49) rfl rfl (by kernel_rfl) (by kernel_rfl) (by kernel_rfl) (fun _ _ _ h => h) (gRun rfl (.agg [vD, vT].toArray) fun _ h => run_build24 (.tmp 44) (.tmp 48) rfl vD vT OD.ints.isSlice.2 OT.ints.isSlice.2 rfl rfl) HB ?_
        simp only [Act.put, List.setIfInBounds_toArray, List.set_cons_succ, List.set_cons_zero]
        refine oneH (i := 10) (by kernel_rfl) ?_
        refine opSkipZ rfl rfl rfl _ (run_storeA ag24 (.tmp 10) (.tmp 49) rfl qt 24 rfl [vD, vT] _ rfl rfl ZA.row rfl (two_one OD.ints OT.ints)) ?_
        have r_ := ZA.row.setRow [vD, vT]
        have od_ := OD.setRow ZA.row (by decide) ([vD, vT] : List Value).toArray
        have ot_ := OT.setRow ZA.row (by decide) ([vD, vT] : List Value).toArray
        have hb_ := HB.trans (((Ch.refl (· = qt) X5).setRow (Or.inl rfl) ([vD, vT] : List Value).toArray).below HB.size fun i hi e => by omega)
        obtain ⟨X6, hW_⟩ : ∃ U_ : World, U_ = X5.setRow qt ([vD, vT] : List Value).toArray := ⟨_, rfl⟩
        rw [← hW_] at r_ od_ ot_ hb_ ⊢
        clear hW_
        refine ⟨hb_, ?_⟩
        refine wpAnyH_done (by kernel_rfl) ?_ _
        exact hG X6 qt g1 g2 vD vT ⟨r_, od_, ot_, hb_, qt_ge, ne_⟩
    · refine opValueG (some 10) rfl rfl rfl (ptr X0.heap.size) _ (run_allocA [Value.slice none 0 0, .slice none 0 0] zero24 rfl) ?_
      have r_ : RowZ (X0.alloc (.cells ([Value.slice none 0 0, .slice none 0 0]).toArray 24)) X0.heap.size := ⟨Row.new X0 24 [Value.slice none 0 0, .slice none 0 0]⟩
      have bW := below_alloc X0 (.cells ([Value.slice none 0 0, .slice none 0 0]).toArray 24)
      obtain ⟨X1, hW_⟩ : ∃ U_ : World, U_ = X0.alloc (.cells ([Value.slice none 0 0, .slice none 0 0]).toArray 24) := ⟨_, rfl⟩
      obtain ⟨qt, hq_⟩ : ∃ q, q = X0.heap.size := ⟨_, rfl⟩
      have qt_ge : u8.heap.size ≤ qt := by rw [hq_]; exact HB.size
      rw [← hW_] at bW
      rw [← hW_, ← hq_] at r_
      rw [← hW_, ← hq_]
      clear hW_ hq_
      replace HB := belowNext HB bW
      have ZA : RowZ X1 qt := r_
      clear r_ bW
      refine ⟨HB, ?_⟩
      simp only [Act.put, List.setIfInBounds_toArray, List.set_cons_succ, List.set_cons_zero]
      refine wpAnyH_all (rs := [0, 4]) (by kernel_rfl) (by decide) ?_
      intro i hi
      have hi' : i = 0 ∨ i = 4 := by simpa using hi
      clear hi
      rcases hi' with rfl | rfl
      · refine opValueG (some 41) rfl rfl rfl _ _ (run_int0Op rfl) ?_
        have r_ : Row0 (X1.alloc (.cells #[] 3)) X1.heap.size := ⟨Row.new X1 3 []⟩
        have bW := below_alloc X1 (.cells #[] 3)
        obtain ⟨X2, hW_⟩ : ∃ U_ : World, U_ = X1.alloc (.cells #[] 3) := ⟨_, rfl⟩
        obtain ⟨g1, hq_⟩ : ∃ q, q = X1.heap.size := ⟨_, rfl⟩
        have g1_ge : u8.heap.size ≤ g1 := by rw [hq_]; exact HB.size
        rw [← hW_] at bW
        rw [← hW_, ← hq_] at r_
        rw [← hW_, ← hq_]
        clear hW_ hq_
        replace ZA := ZA.later bW
        replace HB := belowNext HB bW
        have G1 : Row0 X2 g1 := r_
        clear r_ bW
        refine ⟨HB, ?_⟩
        simp only [Act.put, List.setIfInBounds_toArray, List.set_cons_succ, List.set_cons_zero]
        refine wpAnyH_all (rs := [3, 4]) (by kernel_rfl) (by decide) ?_
        intro i hi
        have hi' : i = 3 ∨ i = 4 := by simpa using hi
        clear hi
        rcases hi' with rfl | rfl
        · obtain ⟨vD, X3, ra_, o_, bW, fr_⟩ := app_fresh 22 g1 G1.row vd ds ((HS.out.sh.d).later HB) hl1.out
          refine opValueG (some 44) rfl rfl rfl vD X3 (run_append (.tmp 41) (.tmp 43) rfl _ _ _ rfl rfl ra_) ?_
          clear ra_ G1
          replace ZA := ZA.later bW
          replace HB := belowNext HB bW
          have OD : IOwn X3 u8.heap.size vD ds := o_.mono g1_ge
          clear o_ bW fr_
          refine ⟨HB, ?_⟩
          simp only [Act.put, List.setIfInBounds_toArray, List.set_cons_succ, List.set_cons_zero]
          refine oneH (i := 4) (by kernel_rfl) ?_
          refine opValueG (some 45) rfl rfl rfl _ _ (run_int0Op rfl) ?_
          have r_ : Row0 (X3.alloc (.cells #[] 3)) X3.heap.size := ⟨Row.new X3 3 []⟩
          have bW := below_alloc X3 (.cells #[] 3)
          obtain ⟨X4, hW_⟩ : ∃ U_ : World, U_ = X3.alloc (.cells #[] 3) := ⟨_, rfl⟩
          obtain ⟨g2, hq_⟩ : ∃ q, q = X3.heap.size := ⟨_, rfl⟩
          have g2_ge : u8.heap.size ≤ g2 := by rw [hq_]; exact HB.size
          rw [← hW_] at bW
          rw [← hW_, ← hq_] at r_
          rw [← hW_, ← hq_]
          clear hW_ hq_
          replace OD := OD.later bW
          replace ZA := ZA.later bW
          replace HB := belowNext HB bW
          have G2 : Row0 X4 g2 := r_
          clear r_ bW
          refine ⟨HB, ?_⟩
          simp only [Act.put, List.setIfInBounds_toArray, List.set_cons_succ, List.set_cons_zero]
          refine oneH (i := 7) (by kernel_rfl) ?_
          obtain ⟨vT, X5, ra_, o_, bW, fr_⟩ := app_fresh 22 g2 G2.row vt ts ((HS.out.sh.t).later HB) hl2.out
          refine opValueG (some 48) rfl rfl rfl vT X5 (run_append (.tmp 45) (.tmp 47) rfl _ _ _ rfl rfl ra_) ?_
          clear ra_ G2
          have ne_ : 0 < ts.length → ∀ b b', vD.ownBlock = some b → vT.ownBlock = some b' → b ≠ b' := fun hp b b' h h' => by have := fr_ hp b' h'; have := (OD.own.lt b h).2; omega
          replace OD := OD.later bW
          replace ZA := ZA.later bW
          replace HB := belowNext HB bW
          have OT : IOwn X5 u8.heap.size vT ts := o_.mono g2_ge
          clear o_ bW fr_
          refine ⟨HB, ?_⟩
          simp only [Act.put, List.setIfInBounds_toArray, List.set_cons_succ, List.set_cons_zero]
          refine takeH (i := 8) (some 49) rfl rfl (by kernel_rfl) (by kernel_rfl) (by kernel_rfl) (fun _ _ _ h => h) (gRun rfl (.agg [vD, vT].toArray) fun _ h => run_build24 (.tmp 44) (.tmp 48) rfl vD vT OD.ints.isSlice.2 OT.ints.isSlice.2 rfl rfl) HB ?_
          simp only [Act.put, List.setIfInBounds_toArray, List.set_cons_succ, List.set_cons_zero]
          refine oneH (i := 10) (by kernel_rfl) ?_
          refine opSkipZ rfl rfl rfl _ (run_storeA ag24 (.tmp 10) (.tmp 49) rfl qt 24 rfl [vD, vT] _ rfl rfl ZA.row rfl (two_one OD.ints OT.ints)) ?_
          have r_ := ZA.row.setRow [vD, vT]
          have od_ := OD.setRow ZA.row (by decide) ([vD, vT] : List Value).toArray
          have ot_ := OT.setRow ZA.row (by decide) ([vD, vT] : List Value).toArray
          have hb_ := HB.trans (((Ch.refl (· = qt) X5).setRow (Or.inl rfl) ([vD, vT] : List Value).toArray).below HB.size fun i hi e => by omega)
          obtain ⟨X6, hW_⟩ : ∃ U_ : World, U_ = X5.setRow qt ([vD, vT] : List Value).toArray := ⟨_, rfl⟩
          rw [← hW_] at r_ od_ ot_ hb_ ⊢
          clear hW_
          refine ⟨hb_, ?_⟩
          refine wpAnyH_done (by kernel_rfl) ?_ _
          exact hG X6 qt g1 g2 vD vT ⟨r_, od_, ot_, hb_, qt_ge, ne_⟩
        · refine opValueG (some 45) rfl rfl rfl _ _ (run_int0Op rfl) ?_
          have r_ : Row0 (X2.alloc (.cells #[] 3)) X2.heap.size := ⟨Row.new X2 3 []⟩
          have bW := below_alloc X2 (.cells #[] 3)
          obtain ⟨X3, hW_⟩ : ∃ U_ : World, U_ = X2.alloc (.cells #[] 3) := ⟨_, rfl⟩
          obtain ⟨g2, hq_⟩ : ∃ q, q = X2.heap.size := ⟨_, rfl⟩
          have g2_ge : u8.heap.size ≤ g2 := by rw [hq_]; exact HB.size
          rw [← hW_] at bW
          rw [← hW_, ← hq_] at r_
          rw [← hW_, ← hq_]
          clear hW_ hq_
          replace G1 := G1.later bW
          replace ZA := ZA.later bW
          replace HB := belowNext HB bW
          have G2 : Row0 X3 g2 := r_
          clear r_ bW
          refine ⟨HB, ?_⟩
          simp only [Act.put, List.setIfInBounds_toArray, List.set_cons_succ, List.set_cons_zero]
          refine oneH (i := 3) (by kernel_rfl) ?_
          obtain ⟨vD, X4, ra_, o_, bW, fr_⟩ := app_fresh 22 g1 G1.row vd ds ((HS.out.sh.d).later HB) hl1.out
          refine opValueG (some 44) rfl rfl rfl vD X4 (run_append (.tmp 41) (.tmp 43) rfl _ _ _ rfl rfl ra_) ?_
          clear ra_ G1
          replace G2 := G2.later bW
          replace ZA := ZA.later bW
          replace HB := belowNext HB bW
          have OD : IOwn X4 u8.heap.size vD ds := o_.mono g1_ge
          clear o_ bW fr_
          refine ⟨HB, ?_⟩
          simp only [Act.put, List.setIfInBounds_toArray, List.set_cons_succ, List.set_cons_zero]
          refine oneH (i := 7) (by kernel_rfl) ?_
          obtain ⟨vT, X5, ra_, o_, bW, fr_⟩ := app_fresh 22 g2 G2.row vt ts ((HS.out.sh.t).later HB) hl2.out
          refine opValueG (some 48) rfl rfl rfl vT X5 (run_append (.tmp 45) (.tmp 47) rfl _ _ _ rfl rfl ra_) ?_
          clear ra_ G2
          have ne_ : 0 < ts.length → ∀ b b', vD.ownBlock = some b → vT.ownBlock = some b' → b ≠ b' := fun hp b b' h h' => by have := fr_ hp b' h'; have := (OD.own.lt b h).2; omega
          replace OD := OD.later bW
          replace ZA := ZA.later bW
          replace HB := belowNext HB bW
          have OT : IOwn X5 u8.heap.size vT ts := o_.mono g2_ge
          clear o_ bW fr_
          refine ⟨HB, ?_⟩
          simp only [Act.put, List.setIfInBounds_toArray, List.set_cons_succ, List.set_cons_zero]
          refine takeH (i := 8) (some 49) rfl rfl (by kernel_rfl) (by kernel_rfl) (by kernel_rfl) (fun _ _ _ h => h) (gRun rfl (.agg [vD, vT].toArray) fun _ h => run_build24 (.tmp 44) (.tmp 48) rfl vD vT OD.ints.isSlice.2 OT.ints.isSlice.2 rfl rfl) HB ?_
          simp only [Act.put, List.setIfInBounds_toArray, List.set_cons_succ, List.set_cons_zero]
          refine oneH (i := 10) (by kernel_rfl) ?_
          refine opSkipZ rfl rfl rfl _ (run_storeA ag24 (.tmp 10) (.tmp 49) rfl qt 24 rfl [vD, vT] _ rfl rfl ZA.row rfl (two_one OD.ints OT.ints)) ?_
          have r_ := ZA.row.setRow [vD, vT]
          have od_ := OD.setRow ZA.row (by decide) ([vD, vT] : List Value).toArray
          have ot_ := OT.setRow ZA.row (by decide) ([vD, vT] : List Value).toArray
          have hb_ := HB.trans (((Ch.refl (· = qt) X5).setRow (Or.inl rfl) ([vD, vT] : List Value).toArray).below HB.size fun i hi e => by omega)
          obtain ⟨X6, hW_⟩ : ∃ U_ : World, U_ = X5.setRow qt ([vD, vT] : List Value).toArray := ⟨_, rfl⟩
          rw [← hW_] at r_ od_ ot_ hb_ ⊢
          clear hW_
          refine ⟨hb_, ?_⟩
          refine wpAnyH_done (by kernel_rfl) ?_ _
          exact hG X6 qt g1 g2 vD vT ⟨r_, od_, ot_, hb_, qt_ge, ne_⟩
      · refine opValueG (some 45) rfl rfl rfl _ _ (run_int0Op rfl) ?_
        have r_ : Row0 (X1.alloc (.cells #[] 3)) X1.heap.size := ⟨Row.new X1 3 []⟩
        have bW := below_alloc X1 (.cells #[] 3)
        obtain ⟨X2, hW_⟩ : ∃ U_ : World, U_ = X1.alloc (.cells #[] 3) := ⟨_, rfl⟩
        obtain ⟨g2, hq_⟩ : ∃ q, q = X1.heap.size := ⟨_, rfl⟩
        have g2_ge : u8.heap.size ≤ g2 := by rw [hq_]; exact HB.size
        rw [← hW_] at bW
        rw [← hW_, ← hq_] at r_
        rw [← hW_, ← hq_]
        clear hW_ hq_
        replace ZA := ZA.later bW
        replace HB := belowNext HB bW
        have G2 : Row0 X2 g2 := r_
        clear r_ bW
        refine ⟨HB, ?_⟩
        simp only [Act.put, List.setIfInBounds_toArray, List.set_cons_succ, List.set_cons_zero]
        refine oneH (i := 0) (by kernel_rfl) ?_
        refine opValueG (some 41) rfl rfl rfl _ _ (run_int0Op rfl) ?_
        have r_ : Row0 (X2.alloc (.cells #[] 3)) X2.heap.size := ⟨Row.new X2 3 []⟩
        have bW := below_alloc X2 (.cells #[] 3)
        obtain ⟨X3, hW_⟩ : ∃ U_ : World, U_ = X2.alloc (.cells #[] 3) := ⟨_, rfl⟩
        obtain ⟨g1, hq_⟩ : ∃ q, q = X2.heap.size := ⟨_, rfl⟩
        have g1_ge : u8.heap.size ≤ g1 := by rw [hq_]; exact HB.size
        rw [← hW_] at bW
        rw [← hW_, ← hq_] at r_
        rw [← hW_, ← hq_]
        clear hW_ hq_
        replace G2 := G2.later bW
        replace ZA := ZA.later bW
        replace HB := belowNext HB bW
        have G1 : Row0 X3 g1 := r_
        clear r_ bW
        refine ⟨HB, ?_⟩
        simp only [Act.put, List.setIfInBounds_toArray, List.set_cons_succ, List.set_cons_zero]
        refine oneH (i := 3) (by kernel_rfl) ?_
        obtain ⟨vD, X4, ra_, o_, bW, fr_⟩ := app_fresh 22 g1 G1.row vd ds ((HS.out.sh.d).later HB) hl1.out
        refine opValueG (some 44) rfl rfl rfl vD X4 (run_append (.tmp 41) (.tmp 43) rfl _ _ _ rfl rfl ra_) ?_
        clear ra_ G1
        replace G2 := G2.later bW
        replace ZA := ZA.later bW
        replace HB := belowNext HB bW
        have OD : IOwn X4 u8.heap.size vD ds := o_.mono g1_ge
        clear o_ bW fr_
        refine ⟨HB, ?_⟩
        simp only [Act.put, List.setIfInBounds_toArray, List.set_cons_succ, List.set_cons_zero]
        refine oneH (i := 7) (by kernel_rfl) ?_
        obtain ⟨vT, X5, ra_, o_, bW, fr_⟩ := app_fresh 22 g2 G2.row vt ts ((HS.out.sh.t).later HB) hl2.out
        refine opValueG (some 48) rfl rfl rfl vT X5 (run_append (.tmp 45) (.tmp 47) rfl _ _ _ rfl rfl ra_) ?_
        clear ra_ G2
        have ne_ : 0 < ts.length → ∀ b b', vD.ownBlock = some b → vT.ownBlock = some b' → b ≠ b' := fun hp b b' h h' => by have := fr_ hp b' h'; have := (OD.own.lt b h).2; omega
        replace OD := OD.later bW
        replace ZA := ZA.later bW
        replace HB := belowNext HB bW
        have OT : IOwn X5 u8.heap.size vT ts := o_.mono g2_ge
        clear o_ bW fr_
        refine ⟨HB, ?_⟩
        simp only [Act.put, List.setIfInBounds_toArray, List.set_cons_succ, List.set_cons_zero]
        refine takeH (i := 8) (some 49) rfl rfl (by kernel_rfl) (by kernel_rfl) (by kernel_rfl) (fun _ _ _ h => h) (gRun rfl (.agg [vD, vT].toArray) fun _ h => run_build24 (.tmp 44) (.tmp 48) rfl vD vT OD.ints.isSlice.2 OT.ints.isSlice.2 rfl rfl) HB ?_
        simp only [Act.put, List.setIfInBounds_toArray, List.set_cons_succ, List.set_cons_zero]
        refine oneH (i := 10) (by kernel_rfl) ?_
        refine opSkipZ rfl rfl rfl _ (run_storeA ag24 (.tmp 10) (.tmp 49) rfl qt 24 rfl [vD, vT] _ rfl rfl ZA.row rfl (two_one OD.ints OT.ints)) ?_
        have r_ := ZA.row.setRow [vD, vT]
        have od_ := OD.setRow ZA.row (by decide) ([vD, vT] : List Value).toArray
        have ot_ := OT.setRow ZA.row (by decide) ([vD, vT] : List Value).toArray
        have hb_ := HB.trans (((Ch.refl (· = qt) X5).setRow (Or.inl rfl) ([vD, vT] : List Value).toArray).below HB.size fun i hi e => by omega)
        obtain ⟨X6, hW_⟩ : ∃ U_ : World, U_ = X5.setRow qt ([vD, vT] : List Value).toArray := ⟨_, rfl⟩
        rw [← hW_] at r_ od_ ot_ hb_ ⊢
        clear hW_
        refine ⟨hb_, ?_⟩
        refine wpAnyH_done (by kernel_rfl) ?_ _
        exact hG X6 qt g1 g2 vD vT ⟨r_, od_, ot_, hb_, qt_ge, ne_⟩
    intro u9 qt g1 g2 vD vT HCop
    have HOW : Hid (LoopR u8 u9 qt vD vT ds ds ts) := ⟨hUp0, ⟨HCop.out.row, HCop.out.d, HCop.out.t, HCop.out.ne HT0.out.1, HCop.out.ge⟩, HCop.out.bel⟩
    clear HCop hUp0
    have HS0 : Hid (ShB u8 qs vd vt ds ts) := HS
    have HG0 : Hid (CfB u8 qc r) := HG
    have HM0 : Hid (IntsIn u8 vm ms) := HM
    have HW0 : Hid (Below w.heap.size w u8) := HW
    go_wp2_with fail
    go_loopw [11] (fun vi W => ∃ (k : Nat) (es : List Int), vi = .int .i64 (k : Nat) ∧ k ≤ 3 ∧ LoopR u8 W qt vD vT ds es ts) (fun vi _ => 3 - (intOf vi).toNat)
    case atStart => exact ⟨0, ds, rfl, by omega, HOW.out⟩
    case round =>
      obtain ⟨i, es, rfl, hi, hL⟩ := hrel
      obtain ⟨u10, hwr⟩ : ∃ X, X = wr := ⟨_, rfl⟩
      subst hwr
      have bW := hL.bel
      have HW_ : Hid (Below w.heap.size w u10) := belowNext HW.out bW
      clear HW
      have HW := HW_
      clear HW_
      have HM_ : Hid (IntsIn u10 vm ms) := HM.out.later bW
      clear HM
      have HM := HM_
      clear HM_
      have HS_ : Hid (ShB u10 qs vd vt ds ts) := HS.out.later bW
      clear HS
      have HS := HS_
      clear HS_
      have HG_ : Hid (CfB u10 qc r) := HG.out.later bW
      clear HG
      have HG := HG_
      clear HG_
      have HBr : Hid (Below u8.heap.size u8 u10) := hL.bel
      have OS : Hid (OwnSh u10 u8.heap.size qt vD vT es ts) := hL.own
      have HU : Hid (Up ds es) := hL.up
      have HE : Hid (es.length = 3) := by rw [HU.out.1]; exact H3.out
      clear bW hL HOW
      by_cases hlt : i < 3
      · by_cases hlm : i < ms.length
        · go_upto_region 12 with fail
          refine wp_region_lit ?_
          refine wl rfl (.int .i64 (i : Nat)) _ (run_mvZ (.tmp 11) rfl (.int .i64 (i : Nat)) rfl) ?_
          simp only [Act.put, List.setIfInBounds_toArray, List.set_cons_succ, List.set_cons_zero]
          refine wl rfl (.pointer (some ⟨qt, 0 + 0, none⟩)) _ (run_fieldOp' f24_0 (.tmp 10) rfl qt (0) rfl) ?_
          simp only [Act.put, List.setIfInBounds_toArray, List.set_cons_succ, List.set_cons_zero]
          refine wl rfl vD _ (run_load1 o22 (.tmp 51) rfl qt (0 + 0) rfl vD (OS.out.row.at (0 + 0) _ rfl)) ?_
          simp only [Act.put, List.setIfInBounds_toArray, List.set_cons_succ, List.set_cons_zero]
          refine wl rfl (.int .i64 (es.length : Nat)) _ (run_lenI (.tmp 52) rfl vD es rfl OS.out.d.ints) ?_
          simp only [Act.put, List.setIfInBounds_toArray, List.set_cons_succ, List.set_cons_zero]
          refine wl rfl (.bool true) _ (run_lssZ (.tmp 50) (.tmp 53) rfl (i : Nat) (es.length : Nat) rfl rfl true (decide_eq_true (by have := HE.out; omega))) ?_
          simp only [Act.put, List.setIfInBounds_toArray, List.set_cons_succ, List.set_cons_zero]
          refine wl rfl (.bool true) _ (run_mvZ (.tmp 54) rfl (.bool true) rfl) ?_
          simp only [Act.put, List.setIfInBounds_toArray, List.set_cons_succ, List.set_cons_zero]
          refine wl (by kernel_rfl) (.int .i64 (i : Nat)) _ (run_mvZ (.tmp 11) rfl (.int .i64 (i : Nat)) rfl) ?_
          simp only [Act.put, List.setIfInBounds_toArray, List.set_cons_succ, List.set_cons_zero]
          refine wl (by kernel_rfl) vm _ (run_mvZ (.tmp 2) rfl vm rfl) ?_
          simp only [Act.put, List.setIfInBounds_toArray, List.set_cons_succ, List.set_cons_zero]
          refine wl (by kernel_rfl) (.int .i64 (ms.length : Nat)) _ (run_lenI (.tmp 57) rfl vm ms rfl HM.out) ?_
          simp only [Act.put, List.setIfInBounds_toArray, List.set_cons_succ, List.set_cons_zero]
          refine wl (by kernel_rfl) (.bool true) _ (run_lssZ (.tmp 56) (.tmp 58) rfl (i : Nat) (ms.length : Nat) rfl rfl true (decide_eq_true (by omega))) ?_
          simp only [Act.put, List.setIfInBounds_toArray, List.set_cons_succ, List.set_cons_zero]
          refine wl rfl (.bool true) _ (run_pickZ (.tmp 55) (.tmp 59) (.const (.bool false)) rfl true (.bool true) rfl rfl) ?_
          simp only [Act.put, List.setIfInBounds_toArray, List.set_cons_succ, List.set_cons_zero]
          refine wpList_nil ?_
          obtain ⟨bm, jm, qm, cm⟩ := HM.out.ix i hlm
          obtain ⟨bd, hbd, qd, cd⟩ := OS.out.ix i (by have := HE.out; omega)
          obtain ⟨y, hy⟩ : ∃ y, y = nth ms i := ⟨_, rfl⟩
          obtain ⟨e, he⟩ : ∃ y, y = nth es i := ⟨_, rfl⟩
          have yb := HM.out.bd i hlm
          have eb := HU.out.2 i (by have := H3.out; omega)
          rw [← hy] at cm yb
          rw [← he] at cd eb
          obtain ⟨e0, -, e1⟩ := eb
          obtain ⟨y0, y1⟩ := yb
          have CM : Hid (CellI u10 bm jm y) := ⟨cm⟩
          have CD : Hid (CellI u10 bd i e) := ⟨cd⟩
          have HEY : Hid (e = nth es i ∧ vD.ownBlock = some bd) := ⟨he, hbd⟩
          have HX : Hid ((∀ w', (Instr.indexAt 22 vm (.int .i64 (i : Nat))).run Try.prog w' = .ok (.pointer (some ⟨bm, jm, none⟩)) w') ∧ ∀ w', (Instr.indexAt 22 vD (.int .i64 (i : Nat))).run Try.prog w' = .ok (.pointer (some ⟨bd, i, none⟩)) w') := ⟨qm, qd⟩
          clear qm qd cm cd hy he hbd
          by_cases y0p : 0 < y
          · by_cases yle : y ≤ 4096 - e
            · go_upto_region 14 with fail
              refine wp_region_held (S := fun X => (OwnSh X u8.heap.size qt vD vT es ts) ∧ (CellI X bm jm y) ∧ (CellI X bd i e)) (by kernel_rfl) ?_
              show wpAnyH _ _ _ _ _ 18 (Array.replicate 18 false) _ _
              obtain ⟨u11, hX⟩ : ∃ u11 : World, u11 = { u10 with drawn := u10.drawn + 1 } := ⟨_, rfl⟩
              rw [← hX]
              have bX : Below u10.heap.size u10 u11 := by rw [hX]; exact ⟨rfl, rfl, rfl, Nat.le_refl _, fun _ _ => rfl⟩
              have HW_ : Hid (Below w.heap.size w u11) := belowNext HW.out bX
              clear HW
              have HW := HW_
              clear HW_
              have HM_ : Hid (IntsIn u11 vm ms) := HM.out.later bX
              clear HM
              have HM := HM_
              clear HM_
              have HS_ : Hid (ShB u11 qs vd vt ds ts) := HS.out.later bX
              clear HS
              have HS := HS_
              clear HS_
              have HG_ : Hid (CfB u11 qc r) := HG.out.later bX
              clear HG
              have HG := HG_
              clear HG_
              have HBr_ : Hid (Below u8.heap.size u8 u11) := belowNext HBr.out bX
              clear HBr
              have HBr := HBr_
              clear HBr_
              have OS_ : Hid (OwnSh u11 u8.heap.size qt vD vT es ts) := OS.out.later bX
              clear OS
              have OS := OS_
              clear OS_
              have CM_ : Hid (CellI u11 bm jm y) := CM.out.later bX
              clear CM
              have CM := CM_
              clear CM_
              have CD_ : Hid (CellI u11 bd i e) := CD.out.later bX
              clear CD
              have CD := CD_
              clear CD_
              clear bX
              clear hX
              refine takeH (i := 0) (some 63) rfl rfl (by kernel_rfl) (by kernel_rfl) (by kernel_rfl) (fun _ _ _ h => h) (gRun rfl vm fun _ h => run_mvZ (.tmp 2) rfl vm rfl) ⟨OS.out, CM.out, CD.out⟩ ?_
              simp only [Act.put, List.setIfInBounds_toArray, List.set_cons_succ, List.set_cons_zero]
              refine takeH (i := 1) (some 64) rfl rfl (by kernel_rfl) (by kernel_rfl) (by kernel_rfl) (fun _ _ _ h => h) (gRun rfl (.int .i64 (i : Nat)) fun _ h => run_mvZ (.tmp 11) rfl (.int .i64 (i : Nat)) rfl) ⟨OS.out, CM.out, CD.out⟩ ?_
              simp only [Act.put, List.setIfInBounds_toArray, List.set_cons_succ, List.set_cons_zero]
              refine takeH (i := 2) (some 65) rfl rfl (by kernel_rfl) (by kernel_rfl) (by kernel_rfl) (fun _ _ _ h => h) (gRun rfl (.pointer (some ⟨bm, jm, none⟩)) fun _ h => run_idx (.tmp 63) (.tmp 64) rfl vm _ _ rfl rfl HX.out.1) ⟨OS.out, CM.out, CD.out⟩ ?_
              simp only [Act.put, List.setIfInBounds_toArray, List.set_cons_succ, List.set_cons_zero]
              refine takeH (i := 3) (some 66) rfl rfl (by kernel_rfl) (by kernel_rfl) (by kernel_rfl) (fun _ _ _ h => h) (gRun rfl (.int .i64 y) fun _ h => run_load1 o3 (.tmp 65) rfl bm (jm) rfl (.int .i64 y) h.2.1.c) ⟨OS.out, CM.out, CD.out⟩ ?_
              simp only [Act.put, List.setIfInBounds_toArray, List.set_cons_succ, List.set_cons_zero]
              refine takeH (i := 4) (some 67) rfl rfl (by kernel_rfl) (by kernel_rfl) (by kernel_rfl) (fun _ _ _ h => h) (gRun rfl (.bool true) fun _ h => run_gtrZ (.tmp 66) (.const (.int .i64 0)) rfl y 0 rfl rfl true (decide_eq_true (by omega))) ⟨OS.out, CM.out, CD.out⟩ ?_
              simp only [Act.put, List.setIfInBounds_toArray, List.set_cons_succ, List.set_cons_zero]
              refine takeH (i := 5) (some 68) rfl rfl (by kernel_rfl) (by kernel_rfl) (by kernel_rfl) (fun _ _ _ h => h) (gRun rfl (.bool true) fun _ h => run_mvZ (.tmp 67) rfl (.bool true) rfl) ⟨OS.out, CM.out, CD.out⟩ ?_
              simp only [Act.put, List.setIfInBounds_toArray, List.set_cons_succ, List.set_cons_zero]
              refine takeH (i := 6) (some 69) rfl rfl (by kernel_rfl) (by kernel_rfl) (by kernel_rfl) (fun _ _ _ h => h) (gRun (by kernel_rfl) vm fun _ h => run_mvZ (.tmp 2) rfl vm rfl) ⟨OS.out, CM.out, CD.out⟩ ?_
              simp only [Act.put, List.setIfInBounds_toArray, List.set_cons_succ, List.set_cons_zero]
              refine takeH (i := 7) (some 70) rfl rfl (by kernel_rfl) (by kernel_rfl) (by kernel_rfl) (fun _ _ _ h => h) (gRun (by kernel_rfl) (.int .i64 (i : Nat)) fun _ h => run_mvZ (.tmp 11) rfl (.int .i64 (i : Nat)) rfl) ⟨OS.out, CM.out, CD.out⟩ ?_
              simp only [Act.put, List.setIfInBounds_toArray, List.set_cons_succ, List.set_cons_zero]
              refine takeH (i := 8) (some 71) rfl rfl (by kernel_rfl) (by kernel_rfl) (by kernel_rfl) (fun _ _ _ h => h) (gRun (by kernel_rfl) (.pointer (some ⟨bm, jm, none⟩)) fun _ h => run_idx (.tmp 69) (.tmp 70) rfl vm _ _ rfl rfl HX.out.1) ⟨OS.out, CM.out, CD.out⟩ ?_
              simp only [Act.put, List.setIfInBounds_toArray, List.set_cons_succ, List.set_cons_zero]
              refine takeH (i := 9) (some 72) rfl rfl (by kernel_rfl) (by kernel_rfl) (by kernel_rfl) (fun _ _ _ h => h) (gRun (by kernel_rfl) (.int .i64 y) fun _ h => run_load1 o3 (.tmp 71) rfl bm (jm) rfl (.int .i64 y) h.2.1.c) ⟨OS.out, CM.out, CD.out⟩ ?_
              simp only [Act.put, List.setIfInBounds_toArray, List.set_cons_succ, List.set_cons_zero]
              refine takeH (i := 10) (some 73) rfl rfl (by kernel_rfl) (by kernel_rfl) (by kernel_rfl) (fun _ _ _ h => h) (gRun (by kernel_rfl) (.pointer (some ⟨qt, 0 + 0, none⟩)) fun _ h => run_fieldOp' f24_0 (.tmp 10) rfl qt (0) rfl) ⟨OS.out, CM.out, CD.out⟩ ?_
              simp only [Act.put, List.setIfInBounds_toArray, List.set_cons_succ, List.set_cons_zero]
              refine takeH (i := 11) (some 74) rfl rfl (by kernel_rfl) (by kernel_rfl) (by kernel_rfl) (fun _ _ _ h => h) (gRun (by kernel_rfl) vD fun _ h => run_load1 o22 (.tmp 73) rfl qt (0 + 0) rfl vD (h.1.row.at (0 + 0) _ rfl)) ⟨OS.out, CM.out, CD.out⟩ ?_
              simp only [Act.put, List.setIfInBounds_toArray, List.set_cons_succ, List.set_cons_zero]
              refine takeH (i := 12) (some 75) rfl rfl (by kernel_rfl) (by kernel_rfl) (by kernel_rfl) (fun _ _ _ h => h) (gRun (by kernel_rfl) (.int .i64 (i : Nat)) fun _ h => run_mvZ (.tmp 11) rfl (.int .i64 (i : Nat)) rfl) ⟨OS.out, CM.out, CD.out⟩ ?_
              simp only [Act.put, List.setIfInBounds_toArray, List.set_cons_succ, List.set_cons_zero]
              refine takeH (i := 13) (some 76) rfl rfl (by kernel_rfl) (by kernel_rfl) (by kernel_rfl) (fun _ _ _ h => h) (gRun (by kernel_rfl) (.pointer (some ⟨bd, i, none⟩)) fun _ h => run_idx (.tmp 74) (.tmp 75) rfl vD _ _ rfl rfl HX.out.2) ⟨OS.out, CM.out, CD.out⟩ ?_
              simp only [Act.put, List.setIfInBounds_toArray, List.set_cons_succ, List.set_cons_zero]
              refine takeH (i := 14) (some 77) rfl rfl (by kernel_rfl) (by kernel_rfl) (by kernel_rfl) (fun _ _ _ h => h) (gRun (by kernel_rfl) (.int .i64 e) fun _ h => run_load1 o3 (.tmp 76) rfl bd (i) rfl (.int .i64 e) h.2.2.c) ⟨OS.out, CM.out, CD.out⟩ ?_
              simp only [Act.put, List.setIfInBounds_toArray, List.set_cons_succ, List.set_cons_zero]
              refine takeH (i := 15) (some 78) rfl rfl (by kernel_rfl) (by kernel_rfl) (by kernel_rfl) (fun _ _ _ h => h) (gRun (by kernel_rfl) (.int .i64 (4096 - e)) fun _ h => run_subZ (.const (.int .i64 4096)) (.tmp 77) rfl 4096 e _ rfl rfl rfl (by omega) (by omega)) ⟨OS.out, CM.out, CD.out⟩ ?_
              simp only [Act.put, List.setIfInBounds_toArray, List.set_cons_succ, List.set_cons_zero]
              refine takeH (i := 16) (some 79) rfl rfl (by kernel_rfl) (by kernel_rfl) (by kernel_rfl) (fun _ _ _ h => h) (gRun (by kernel_rfl) (.bool true) fun _ h => run_leqZ (.tmp 72) (.tmp 78) rfl y (4096 - e) rfl rfl true (decide_eq_true (by omega))) ⟨OS.out, CM.out, CD.out⟩ ?_
              simp only [Act.put, List.setIfInBounds_toArray, List.set_cons_succ, List.set_cons_zero]
              refine takeH (i := 17) (some 80) rfl rfl (by kernel_rfl) (by kernel_rfl) (by kernel_rfl) (fun _ _ _ h => h) (gRun rfl (.bool true) fun _ h => run_pickZ (.tmp 68) (.tmp 79) (.const (.bool false)) rfl true (.bool true) rfl rfl) ⟨OS.out, CM.out, CD.out⟩ ?_
              simp only [Act.put, List.setIfInBounds_toArray, List.set_cons_succ, List.set_cons_zero]
              refine wpAnyH_done (by kernel_rfl) ?_ _
              go_upto_region 15 with fail
              refine wp_region_until (S := fun X => (OwnSh X u8.heap.size qt vD vT es ts) ∧ (CellI X bm jm y) ∧ (CellI X bd i e)) 14 (by kernel_rfl) ?_
              show wpAnyU _ _ _ _ _ _ 15 (Array.replicate 15 false) _ _
              obtain ⟨u12, hX⟩ : ∃ u12 : World, u12 = { u11 with drawn := u11.drawn + 1 } := ⟨_, rfl⟩
              rw [← hX]
              have bX : Below u11.heap.size u11 u12 := by rw [hX]; exact ⟨rfl, rfl, rfl, Nat.le_refl _, fun _ _ => rfl⟩
              have HW_ : Hid (Below w.heap.size w u12) := belowNext HW.out bX
              clear HW
              have HW := HW_
              clear HW_
              have HM_ : Hid (IntsIn u12 vm ms) := HM.out.later bX
              clear HM
              have HM := HM_
              clear HM_
              have HS_ : Hid (ShB u12 qs vd vt ds ts) := HS.out.later bX
              clear HS
              have HS := HS_
              clear HS_
              have HG_ : Hid (CfB u12 qc r) := HG.out.later bX
              clear HG
              have HG := HG_
              clear HG_
              have HBr_ : Hid (Below u8.heap.size u8 u12) := belowNext HBr.out bX
              clear HBr
              have HBr := HBr_
              clear HBr_
              have OS_ : Hid (OwnSh u12 u8.heap.size qt vD vT es ts) := OS.out.later bX
              clear OS
              have OS := OS_
              clear OS_
              have CM_ : Hid (CellI u12 bm jm y) := CM.out.later bX
              clear CM
              have CM := CM_
              clear CM_
              have CD_ : Hid (CellI u12 bd i e) := CD.out.later bX
              clear CD
              have CD := CD_
              clear CD_
              clear bX
              clear hX
              refine takeV (i := 0) [14] (some 81) rfl rfl (by kernel_rfl) (by kernel_rfl) (by kernel_rfl) (by kernel_rfl) (fun _ _ _ h => h) (gRun rfl (.pointer (some ⟨qt, 0 + 0, none⟩)) fun _ h => run_fieldOp' f24_0 (.tmp 10) rfl qt (0) rfl) ⟨OS.out, CM.out, CD.out⟩ ?_
              simp only [Act.put, List.setIfInBounds_toArray, List.set_cons_succ, List.set_cons_zero]
              refine takeV (i := 1) [14] (some 82) rfl rfl (by kernel_rfl) (by kernel_rfl) (by kernel_rfl) (by kernel_rfl) (fun _ _ _ h => h) (gRun rfl vD fun _ h => run_load1 o22 (.tmp 81) rfl qt (0 + 0) rfl vD (h.1.row.at (0 + 0) _ rfl)) ⟨OS.out, CM.out, CD.out⟩ ?_
              simp only [Act.put, List.setIfInBounds_toArray, List.set_cons_succ, List.set_cons_zero]
              refine takeV (i := 2) [14] (some 83) rfl rfl (by kernel_rfl) (by kernel_rfl) (by kernel_rfl) (by kernel_rfl) (fun _ _ _ h => h) (gRun rfl (.int .i64 (i : Nat)) fun _ h => run_mvZ (.tmp 11) rfl (.int .i64 (i : Nat)) rfl) ⟨OS.out, CM.out, CD.out⟩ ?_
              simp only [Act.put, List.setIfInBounds_toArray, List.set_cons_succ, List.set_cons_zero]
              refine takeV (i := 3) [14] (some 84) rfl rfl (by kernel_rfl) (by kernel_rfl) (by kernel_rfl) (by kernel_rfl) (fun _ _ _ h => h) (gRun rfl (.pointer (some ⟨qt, 0 + 0, none⟩)) fun _ h => run_fieldOp' f24_0 (.tmp 10) rfl qt (0) rfl) ⟨OS.out, CM.out, CD.out⟩ ?_
              simp only [Act.put, List.setIfInBounds_toArray, List.set_cons_succ, List.set_cons_zero]
              refine takeV (i := 4) [14] (some 85) rfl rfl (by kernel_rfl) (by kernel_rfl) (by kernel_rfl) (by kernel_rfl) (fun _ _ _ h => h) (gRun rfl vD fun _ h => run_load1 o22 (.tmp 84) rfl qt (0 + 0) rfl vD (h.1.row.at (0 + 0) _ rfl)) ⟨OS.out, CM.out, CD.out⟩ ?_
              simp only [Act.put, List.setIfInBounds_toArray, List.set_cons_succ, List.set_cons_zero]
              refine takeV (i := 5) [14] (some 86) rfl rfl (by kernel_rfl) (by kernel_rfl) (by kernel_rfl) (by kernel_rfl) (fun _ _ _ h => h) (gRun rfl (.int .i64 (i : Nat)) fun _ h => run_mvZ (.tmp 11) rfl (.int .i64 (i : Nat)) rfl) ⟨OS.out, CM.out, CD.out⟩ ?_
              simp only [Act.put, List.setIfInBounds_toArray, List.set_cons_succ, List.set_cons_zero]
              refine takeV (i := 6) [14] (some 87) rfl rfl (by kernel_rfl) (by kernel_rfl) (by kernel_rfl) (by kernel_rfl) (fun _ _ _ h => h) (gRun rfl (.pointer (some ⟨bd, i, none⟩)) fun _ h => run_idx (.tmp 85) (.tmp 86) rfl vD _ _ rfl rfl HX.out.2) ⟨OS.out, CM.out, CD.out⟩ ?_
              simp only [Act.put, List.setIfInBounds_toArray, List.set_cons_succ, List.set_cons_zero]
              refine takeV (i := 7) [14] (some 88) rfl rfl (by kernel_rfl) (by kernel_rfl) (by kernel_rfl) (by kernel_rfl) (fun _ _ _ h => h) (gRun rfl (.int .i64 e) fun _ h => run_load1 o3 (.tmp 87) rfl bd (i) rfl (.int .i64 e) h.2.2.c) ⟨OS.out, CM.out, CD.out⟩ ?_
              simp only [Act.put, List.setIfInBounds_toArray, List.set_cons_succ, List.set_cons_zero]
              refine takeV (i := 8) [14] (some 89) rfl rfl (by kernel_rfl) (by kernel_rfl) (by kernel_rfl) (by kernel_rfl) (fun _ _ _ h => h) (gRun rfl vm fun _ h => run_mvZ (.tmp 2) rfl vm rfl) ⟨OS.out, CM.out, CD.out⟩ ?_
              simp only [Act.put, List.setIfInBounds_toArray, List.set_cons_succ, List.set_cons_zero]
              refine takeV (i := 9) [14] (some 90) rfl rfl (by kernel_rfl) (by kernel_rfl) (by kernel_rfl) (by kernel_rfl) (fun _ _ _ h => h) (gRun rfl (.int .i64 (i : Nat)) fun _ h => run_mvZ (.tmp 11) rfl (.int .i64 (i : Nat)) rfl) ⟨OS.out, CM.out, CD.out⟩ ?_
              simp only [Act.put, List.setIfInBounds_toArray, List.set_cons_succ, List.set_cons_zero]
              refine takeV (i := 10) [14] (some 91) rfl rfl (by kernel_rfl) (by kernel_rfl) (by kernel_rfl) (by kernel_rfl) (fun _ _ _ h => h) (gRun rfl (.pointer (some ⟨bm, jm, none⟩)) fun _ h => run_idx (.tmp 89) (.tmp 90) rfl vm _ _ rfl rfl HX.out.1) ⟨OS.out, CM.out, CD.out⟩ ?_
              simp only [Act.put, List.setIfInBounds_toArray, List.set_cons_succ, List.set_cons_zero]
              refine takeV (i := 11) [14] (some 92) rfl rfl (by kernel_rfl) (by kernel_rfl) (by kernel_rfl) (by kernel_rfl) (fun _ _ _ h => h) (gRun rfl (.int .i64 y) fun _ h => run_load1 o3 (.tmp 91) rfl bm (jm) rfl (.int .i64 y) h.2.1.c) ⟨OS.out, CM.out, CD.out⟩ ?_
              simp only [Act.put, List.setIfInBounds_toArray, List.set_cons_succ, List.set_cons_zero]
              refine takeV (i := 12) [14] (some 93) rfl rfl (by kernel_rfl) (by kernel_rfl) (by kernel_rfl) (by kernel_rfl) (fun _ _ _ h => h) (gRun rfl (.int .i64 (e + y)) fun _ h => run_addZ (.tmp 88) (.tmp 92) rfl e y _ rfl rfl rfl (by omega) (by omega)) ⟨OS.out, CM.out, CD.out⟩ ?_
              simp only [Act.put, List.setIfInBounds_toArray, List.set_cons_succ, List.set_cons_zero]
              refine takeV (i := 13) [14] (some 94) rfl rfl (by kernel_rfl) (by kernel_rfl) (by kernel_rfl) (by kernel_rfl) (fun _ _ _ h => h) (gRun rfl (.pointer (some ⟨bd, i, none⟩)) fun _ h => run_idx (.tmp 82) (.tmp 83) rfl vD _ _ rfl rfl HX.out.2) ⟨OS.out, CM.out, CD.out⟩ ?_
              simp only [Act.put, List.setIfInBounds_toArray, List.set_cons_succ, List.set_cons_zero]
              obtain ⟨cur, rc_, lc_, bb_, os_⟩ := OS.out.put i (by have := HE.out; omega) bd HEY.out.2 (e + y) ⟨by omega, by omega⟩
              refine oneU (i := 14) (by kernel_rfl) ?_
              refine opSkipZ rfl rfl rfl _ (run_putRow s3 (.tmp 94) (.tmp 93) rfl bd i 3 cur rfl (.int .i64 (e + y)) rfl ⟨rfl, rfl⟩ rc_ lc_) ?_
              refine ⟨fun h => absurd (show true = false from h) (by decide), ?_⟩
              obtain ⟨u13, hW_⟩ : ∃ U, U = u12.setCell ⟨bd, i, none⟩ (.int .i64 (e + y)) := ⟨_, rfl⟩
              have hb_ : Below u8.heap.size u8 u13 := by rw [hW_]; exact HBr.out.trans (((Ch.refl (· = bd) u12).setCell (Or.inl rfl) i _).below HBr.out.size fun i hi e => by omega)
              rw [← hW_] at os_ ⊢
              clear hW_ rc_ lc_ bb_
              refine wpAnyU_done (by kernel_rfl) ?_ _
              go_wp2_with fail
              refine ⟨⟨i + 1, _, by first | rfl | go_num | omega, by omega, ⟨HU.out.set i (by have := H3.out; omega) e y HEY.out.1 y0p yle, os_, hb_⟩⟩, ?_⟩
              simp [intOf]; omega
            · go_upto_region 14 with fail
              refine wp_region_held (S := fun X => (OwnSh X u8.heap.size qt vD vT es ts) ∧ (CellI X bm jm y) ∧ (CellI X bd i e)) (by kernel_rfl) ?_
              show wpAnyH _ _ _ _ _ 18 (Array.replicate 18 false) _ _
              obtain ⟨u11, hX⟩ : ∃ u11 : World, u11 = { u10 with drawn := u10.drawn + 1 } := ⟨_, rfl⟩
              rw [← hX]
              have bX : Below u10.heap.size u10 u11 := by rw [hX]; exact ⟨rfl, rfl, rfl, Nat.le_refl _, fun _ _ => rfl⟩
              have HW_ : Hid (Below w.heap.size w u11) := belowNext HW.out bX
              clear HW
              have HW := HW_
              clear HW_
              have HM_ : Hid (IntsIn u11 vm ms) := HM.out.later bX
              clear HM
              have HM := HM_
              clear HM_
              have HS_ : Hid (ShB u11 qs vd vt ds ts) := HS.out.later bX
              clear HS
              have HS := HS_
              clear HS_
              have HG_ : Hid (CfB u11 qc r) := HG.out.later bX
              clear HG
              have HG := HG_
              clear HG_
              have HBr_ : Hid (Below u8.heap.size u8 u11) := belowNext HBr.out bX
              clear HBr
              have HBr := HBr_
              clear HBr_
              have OS_ : Hid (OwnSh u11 u8.heap.size qt vD vT es ts) := OS.out.later bX
              clear OS
              have OS := OS_
              clear OS_
              have CM_ : Hid (CellI u11 bm jm y) := CM.out.later bX
              clear CM
              have CM := CM_
              clear CM_
              have CD_ : Hid (CellI u11 bd i e) := CD.out.later bX
              clear CD
              have CD := CD_
              clear CD_
              clear bX
              clear hX
              refine takeH (i := 0) (some 63) rfl rfl (by kernel_rfl) (by kernel_rfl) (by kernel_rfl) (fun _ _ _ h => h) (gRun rfl vm fun _ h => run_mvZ (.tmp 2) rfl vm rfl) ⟨OS.out, CM.out, CD.out⟩ ?_
              simp only [Act.put, List.setIfInBounds_toArray, List.set_cons_succ, List.set_cons_zero]
              refine takeH (i := 1) (some 64) rfl rfl (by kernel_rfl) (by kernel_rfl) (by kernel_rfl) (fun _ _ _ h => h) (gRun rfl (.int .i64 (i : Nat)) fun _ h => run_mvZ (.tmp 11) rfl (.int .i64 (i : Nat)) rfl) ⟨OS.out, CM.out, CD.out⟩ ?_
              simp only [Act.put, List.setIfInBounds_toArray, List.set_cons_succ, List.set_cons_zero]
              refine takeH (i := 2) (some 65) rfl rfl (by kernel_rfl) (by kernel_rfl) (by kernel_rfl) (fun _ _ _ h => h) (gRun rfl (.pointer (some ⟨bm, jm, none⟩)) fun _ h => run_idx (.tmp 63) (.tmp 64) rfl vm _ _ rfl rfl HX.out.1) ⟨OS.out, CM.out, CD.out⟩ ?_
              simp only [Act.put, List.setIfInBounds_toArray, List.set_cons_succ, List.set_cons_zero]
              refine takeH (i := 3) (some 66) rfl rfl (by kernel_rfl) (by kernel_rfl) (by kernel_rfl) (fun _ _ _ h => h) (gRun rfl (.int .i64 y) fun _ h => run_load1 o3 (.tmp 65) rfl bm (jm) rfl (.int .i64 y) h.2.1.c) ⟨OS.out, CM.out, CD.out⟩ ?_
              simp only [Act.put, List.setIfInBounds_toArray, List.set_cons_succ, List.set_cons_zero]
              refine takeH (i := 4) (some 67) rfl rfl (by kernel_rfl) (by kernel_rfl) (by kernel_rfl) (fun _ _ _ h => h) (gRun rfl (.bool true) fun _ h => run_gtrZ (.tmp 66) (.const (.int .i64 0)) rfl y 0 rfl rfl true (decide_eq_true (by omega))) ⟨OS.out, CM.out, CD.out⟩ ?_
              simp only [Act.put, List.setIfInBounds_toArray, List.set_cons_succ, List.set_cons_zero]
              refine takeH (i := 5) (some 68) rfl rfl (by kernel_rfl) (by kernel_rfl) (by kernel_rfl) (fun _ _ _ h => h) (gRun rfl (.bool true) fun _ h => run_mvZ (.tmp 67) rfl (.bool true) rfl) ⟨OS.out, CM.out, CD.out⟩ ?_
              simp only [Act.put, List.setIfInBounds_toArray, List.set_cons_succ, List.set_cons_zero]
              refine takeH (i := 6) (some 69) rfl rfl (by kernel_rfl) (by kernel_rfl) (by kernel_rfl) (fun _ _ _ h => h) (gRun (by kernel_rfl) vm fun _ h => run_mvZ (.tmp 2) rfl vm rfl) ⟨OS.out, CM.out, CD.out⟩ ?_
              simp only [Act.put, List.setIfInBounds_toArray, List.set_cons_succ, List.set_cons_zero]
              refine takeH (i := 7) (some 70) rfl rfl (by kernel_rfl) (by kernel_rfl) (by kernel_rfl) (fun _ _ _ h => h) (gRun (by kernel_rfl) (.int .i64 (i : Nat)) fun _ h => run_mvZ (.tmp 11) rfl (.int .i64 (i : Nat)) rfl) ⟨OS.out, CM.out, CD.out⟩ ?_
              simp only [Act.put, List.setIfInBounds_toArray, List.set_cons_succ, List.set_cons_zero]
              refine takeH (i := 8) (some 71) rfl rfl (by kernel_rfl) (by kernel_rfl) (by kernel_rfl) (fun _ _ _ h => h) (gRun (by kernel_rfl) (.pointer (some ⟨bm, jm, none⟩)) fun _ h => run_idx (.tmp 69) (.tmp 70) rfl vm _ _ rfl rfl HX.out.1) ⟨OS.out, CM.out, CD.out⟩ ?_
              simp only [Act.put, List.setIfInBounds_toArray, List.set_cons_succ, List.set_cons_zero]
              refine takeH (i := 9) (some 72) rfl rfl (by kernel_rfl) (by kernel_rfl) (by kernel_rfl) (fun _ _ _ h => h) (gRun (by kernel_rfl) (.int .i64 y) fun _ h => run_load1 o3 (.tmp 71) rfl bm (jm) rfl (.int .i64 y) h.2.1.c) ⟨OS.out, CM.out, CD.out⟩ ?_
              simp only [Act.put, List.setIfInBounds_toArray, List.set_cons_succ, List.set_cons_zero]
              refine takeH (i := 10) (some 73) rfl rfl (by kernel_rfl) (by kernel_rfl) (by kernel_rfl) (fun _ _ _ h => h) (gRun (by kernel_rfl) (.pointer (some ⟨qt, 0 + 0, none⟩)) fun _ h => run_fieldOp' f24_0 (.tmp 10) rfl qt (0) rfl) ⟨OS.out, CM.out, CD.out⟩ ?_
              simp only [Act.put, List.setIfInBounds_toArray, List.set_cons_succ, List.set_cons_zero]
              refine takeH (i := 11) (some 74) rfl rfl (by kernel_rfl) (by kernel_rfl) (by kernel_rfl) (fun _ _ _ h => h) (gRun (by kernel_rfl) vD fun _ h => run_load1 o22 (.tmp 73) rfl qt (0 + 0) rfl vD (h.1.row.at (0 + 0) _ rfl)) ⟨OS.out, CM.out, CD.out⟩ ?_
              simp only [Act.put, List.setIfInBounds_toArray, List.set_cons_succ, List.set_cons_zero]
              refine takeH (i := 12) (some 75) rfl rfl (by kernel_rfl) (by kernel_rfl) (by kernel_rfl) (fun _ _ _ h => h) (gRun (by kernel_rfl) (.int .i64 (i : Nat)) fun _ h => run_mvZ (.tmp 11) rfl (.int .i64 (i : Nat)) rfl) ⟨OS.out, CM.out, CD.out⟩ ?_
              simp only [Act.put, List.setIfInBounds_toArray, List.set_cons_succ, List.set_cons_zero]
              refine takeH (i := 13) (some 76) rfl rfl (by kernel_rfl) (by kernel_rfl) (by kernel_rfl) (fun _ _ _ h => h) (gRun (by kernel_rfl) (.pointer (some ⟨bd, i, none⟩)) fun _ h => run_idx (.tmp 74) (.tmp 75) rfl vD _ _ rfl rfl HX.out.2) ⟨OS.out, CM.out, CD.out⟩ ?_
              simp only [Act.put, List.setIfInBounds_toArray, List.set_cons_succ, List.set_cons_zero]
              refine takeH (i := 14) (some 77) rfl rfl (by kernel_rfl) (by kernel_rfl) (by kernel_rfl) (fun _ _ _ h => h) (gRun (by kernel_rfl) (.int .i64 e) fun _ h => run_load1 o3 (.tmp 76) rfl bd (i) rfl (.int .i64 e) h.2.2.c) ⟨OS.out, CM.out, CD.out⟩ ?_
              simp only [Act.put, List.setIfInBounds_toArray, List.set_cons_succ, List.set_cons_zero]
              refine takeH (i := 15) (some 78) rfl rfl (by kernel_rfl) (by kernel_rfl) (by kernel_rfl) (fun _ _ _ h => h) (gRun (by kernel_rfl) (.int .i64 (4096 - e)) fun _ h => run_subZ (.const (.int .i64 4096)) (.tmp 77) rfl 4096 e _ rfl rfl rfl (by omega) (by omega)) ⟨OS.out, CM.out, CD.out⟩ ?_
              simp only [Act.put, List.setIfInBounds_toArray, List.set_cons_succ, List.set_cons_zero]
              refine takeH (i := 16) (some 79) rfl rfl (by kernel_rfl) (by kernel_rfl) (by kernel_rfl) (fun _ _ _ h => h) (gRun (by kernel_rfl) (.bool false) fun _ h => run_leqZ (.tmp 72) (.tmp 78) rfl y (4096 - e) rfl rfl false (decide_eq_false (by omega))) ⟨OS.out, CM.out, CD.out⟩ ?_
              simp only [Act.put, List.setIfInBounds_toArray, List.set_cons_succ, List.set_cons_zero]
              refine takeH (i := 17) (some 80) rfl rfl (by kernel_rfl) (by kernel_rfl) (by kernel_rfl) (fun _ _ _ h => h) (gRun rfl (.bool false) fun _ h => run_pickZ (.tmp 68) (.tmp 79) (.const (.bool false)) rfl true (.bool false) rfl rfl) ⟨OS.out, CM.out, CD.out⟩ ?_
              simp only [Act.put, List.setIfInBounds_toArray, List.set_cons_succ, List.set_cons_zero]
              refine wpAnyH_done (by kernel_rfl) ?_ _
              go_wp2_with fail
              refine ⟨⟨i + 1, es, by first | rfl | go_num | omega, by omega, ⟨HU.out, OS.out, HBr.out⟩⟩, ?_⟩
              simp [intOf]; omega
          · go_upto_region 14 with fail
            refine wp_region_held (S := fun X => (OwnSh X u8.heap.size qt vD vT es ts) ∧ (CellI X bm jm y) ∧ (CellI X bd i e)) (by kernel_rfl) ?_
            show wpAnyH _ _ _ _ _ 18 (Array.replicate 18 false) _ _
            obtain ⟨u11, hX⟩ : ∃ u11 : World, u11 = { u10 with drawn := u10.drawn + 1 } := ⟨_, rfl⟩
            rw [← hX]
            have bX : Below u10.heap.size u10 u11 := by rw [hX]; exact ⟨rfl, rfl, rfl, Nat.le_refl _, fun _ _ => rfl⟩
            have HW_ : Hid (Below w.heap.size w u11) := belowNext HW.out bX
            clear HW
            have HW := HW_
            clear HW_
            have HM_ : Hid (IntsIn u11 vm ms) := HM.out.later bX
            clear HM
            have HM := HM_
            clear HM_
            have HS_ : Hid (ShB u11 qs vd vt ds ts) := HS.out.later bX
            clear HS
            have HS := HS_
            clear HS_
            have HG_ : Hid (CfB u11 qc r) := HG.out.later bX
            clear HG
            have HG := HG_
            clear HG_
            have HBr_ : Hid (Below u8.heap.size u8 u11) := belowNext HBr.out bX
            clear HBr
            have HBr := HBr_
            clear HBr_
            have OS_ : Hid (OwnSh u11 u8.heap.size qt vD vT es ts) := OS.out.later bX
            clear OS
            have OS := OS_
            clear OS_
            have CM_ : Hid (CellI u11 bm jm y) := CM.out.later bX
            clear CM
            have CM := CM_
            clear CM_
            have CD_ : Hid (CellI u11 bd i e) := CD.out.later bX
            clear CD
            have CD := CD_
            clear CD_
            clear bX
            clear hX
            refine takeH (i := 0) (some 63) rfl rfl (by kernel_rfl) (by kernel_rfl) (by kernel_rfl) (fun _ _ _ h => h) (gRun rfl vm fun _ h => run_mvZ (.tmp 2) rfl vm rfl) ⟨OS.out, CM.out, CD.out⟩ ?_
            simp only [Act.put, List.setIfInBounds_toArray, List.set_cons_succ, List.set_cons_zero]
            refine takeH (i := 1) (some 64) rfl rfl (by kernel_rfl) (by kernel_rfl) (by kernel_rfl) (fun _ _ _ h => h) (gRun rfl (.int .i64 (i : Nat)) fun _ h => run_mvZ (.tmp 11) rfl (.int .i64 (i : Nat)) rfl) ⟨OS.out, CM.out, CD.out⟩ ?_
            simp only [Act.put, List.setIfInBounds_toArray, List.set_cons_succ, List.set_cons_zero]
            refine takeH (i := 2) (some 65) rfl rfl (by kernel_rfl) (by kernel_rfl) (by kernel_rfl) (fun _ _ _ h => h) (gRun rfl (.pointer (some ⟨bm, jm, none⟩)) fun _ h => run_idx (.tmp 63) (.tmp 64) rfl vm _ _ rfl rfl HX.out.1) ⟨OS.out, CM.out, CD.out⟩ ?_
            simp only [Act.put, List.setIfInBounds_toArray, List.set_cons_succ, List.set_cons_zero]
            refine takeH (i := 3) (some 66) rfl rfl (by kernel_rfl) (by kernel_rfl) (by kernel_rfl) (fun _ _ _ h => h) (gRun rfl (.int .i64 y) fun _ h => run_load1 o3 (.tmp 65) rfl bm (jm) rfl (.int .i64 y) h.2.1.c) ⟨OS.out, CM.out, CD.out⟩ ?_
            simp only [Act.put, List.setIfInBounds_toArray, List.set_cons_succ, List.set_cons_zero]
            refine takeH (i := 4) (some 67) rfl rfl (by kernel_rfl) (by kernel_rfl) (by kernel_rfl) (fun _ _ _ h => h) (gRun rfl (.bool false) fun _ h => run_gtrZ (.tmp 66) (.const (.int .i64 0)) rfl y 0 rfl rfl false (decide_eq_false (by omega))) ⟨OS.out, CM.out, CD.out⟩ ?_
            simp only [Act.put, List.setIfInBounds_toArray, List.set_cons_succ, List.set_cons_zero]
            refine takeH (i := 5) (some 68) rfl rfl (by kernel_rfl) (by kernel_rfl) (by kernel_rfl) (fun _ _ _ h => h) (gRun rfl (.bool false) fun _ h => run_mvZ (.tmp 67) rfl (.bool false) rfl) ⟨OS.out, CM.out, CD.out⟩ ?_
            simp only [Act.put, List.setIfInBounds_toArray, List.set_cons_succ, List.set_cons_zero]
            refine takeH (i := 6) (some 69) rfl rfl (by kernel_rfl) (by kernel_rfl) (by kernel_rfl) (fun _ _ _ h => h) (Or.inr ⟨by kernel_rfl, rfl⟩) ⟨OS.out, CM.out, CD.out⟩ ?_
            simp only [Act.put, List.setIfInBounds_toArray, List.set_cons_succ, List.set_cons_zero]
            refine takeH (i := 7) (some 70) rfl rfl (by kernel_rfl) (by kernel_rfl) (by kernel_rfl) (fun _ _ _ h => h) (Or.inr ⟨by kernel_rfl, rfl⟩) ⟨OS.out, CM.out, CD.out⟩ ?_
            simp only [Act.put, List.setIfInBounds_toArray, List.set_cons_succ, List.set_cons_zero]
            refine takeH (i := 8) (some 71) rfl rfl (by kernel_rfl) (by kernel_rfl) (by kernel_rfl) (fun _ _ _ h => h) (Or.inr ⟨by kernel_rfl, rfl⟩) ⟨OS.out, CM.out, CD.out⟩ ?_
            simp only [Act.put, List.setIfInBounds_toArray, List.set_cons_succ, List.set_cons_zero]
            refine takeH (i := 9) (some 72) rfl rfl (by kernel_rfl) (by kernel_rfl) (by kernel_rfl) (fun _ _ _ h => h) (Or.inr ⟨by kernel_rfl, rfl⟩) ⟨OS.out, CM.out, CD.out⟩ ?_
            simp only [Act.put, List.setIfInBounds_toArray, List.set_cons_succ, List.set_cons_zero]
            refine takeH (i := 10) (some 73) rfl rfl (by kernel_rfl) (by kernel_rfl) (by kernel_rfl) (fun _ _ _ h => h) (Or.inr ⟨by kernel_rfl, rfl⟩) ⟨OS.out, CM.out, CD.out⟩ ?_
            simp only [Act.put, List.setIfInBounds_toArray, List.set_cons_succ, List.set_cons_zero]
            refine takeH (i := 11) (some 74) rfl rfl (by kernel_rfl) (by kernel_rfl) (by kernel_rfl) (fun _ _ _ h => h) (Or.inr ⟨by kernel_rfl, rfl⟩) ⟨OS.out, CM.out, CD.out⟩ ?_
            simp only [Act.put, List.setIfInBounds_toArray, List.set_cons_succ, List.set_cons_zero]
            refine takeH (i := 12) (some 75) rfl rfl (by kernel_rfl) (by kernel_rfl) (by kernel_rfl) (fun _ _ _ h => h) (Or.inr ⟨by kernel_rfl, rfl⟩) ⟨OS.out, CM.out, CD.out⟩ ?_
            simp only [Act.put, List.setIfInBounds_toArray, List.set_cons_succ, List.set_cons_zero]
            refine takeH (i := 13) (some 76) rfl rfl (by kernel_rfl) (by kernel_rfl) (by kernel_rfl) (fun _ _ _ h => h) (Or.inr ⟨by kernel_rfl, rfl⟩) ⟨OS.out, CM.out, CD.out⟩ ?_
            simp only [Act.put, List.setIfInBounds_toArray, List.set_cons_succ, List.set_cons_zero]
            refine takeH (i := 14) (some 77) rfl rfl (by kernel_rfl) (by kernel_rfl) (by kernel_rfl) (fun _ _ _ h => h) (Or.inr ⟨by kernel_rfl, rfl⟩) ⟨OS.out, CM.out, CD.out⟩ ?_
            simp only [Act.put, List.setIfInBounds_toArray, List.set_cons_succ, List.set_cons_zero]
            refine takeH (i := 15) (some 78) rfl rfl (by kernel_rfl) (by kernel_rfl) (by kernel_rfl) (fun _ _ _ h => h) (Or.inr ⟨by kernel_rfl, rfl⟩) ⟨OS.out, CM.out, CD.out⟩ ?_
            simp only [Act.put, List.setIfInBounds_toArray, List.set_cons_succ, List.set_cons_zero]
            refine takeH (i := 16) (some 79) rfl rfl (by kernel_rfl) (by kernel_rfl) (by kernel_rfl) (fun _ _ _ h => h) (Or.inr ⟨by kernel_rfl, rfl⟩) ⟨OS.out, CM.out, CD.out⟩ ?_
            simp only [Act.put, List.setIfInBounds_toArray, List.set_cons_succ, List.set_cons_zero]
            refine takeH (i := 17) (some 80) rfl rfl (by kernel_rfl) (by kernel_rfl) (by kernel_rfl) (fun _ _ _ h => h) (gRun rfl (.bool false) fun _ h => run_pickZ (.tmp 68) (.tmp 79) (.const (.bool false)) rfl false (.bool false) rfl rfl) ⟨OS.out, CM.out, CD.out⟩ ?_
            simp only [Act.put, List.setIfInBounds_toArray, List.set_cons_succ, List.set_cons_zero]
            refine wpAnyH_done (by kernel_rfl) ?_ _
            go_wp2_with fail
            refine ⟨⟨i + 1, es, by first | rfl | go_num | omega, by omega, ⟨HU.out, OS.out, HBr.out⟩⟩, ?_⟩
            simp [intOf]; omega
        · go_upto_region 12 with fail
          refine wp_region_lit ?_
          refine wl rfl (.int .i64 (i : Nat)) _ (run_mvZ (.tmp 11) rfl (.int .i64 (i : Nat)) rfl) ?_
          simp only [Act.put, List.setIfInBounds_toArray, List.set_cons_succ, List.set_cons_zero]
          refine wl rfl (.pointer (some ⟨qt, 0 + 0, none⟩)) _ (run_fieldOp' f24_0 (.tmp 10) rfl qt (0) rfl) ?_
          simp only [Act.put, List.setIfInBounds_toArray, List.set_cons_succ, List.set_cons_zero]
          refine wl rfl vD _ (run_load1 o22 (.tmp 51) rfl qt (0 + 0) rfl vD (OS.out.row.at (0 + 0) _ rfl)) ?_
          simp only [Act.put, List.setIfInBounds_toArray, List.set_cons_succ, List.set_cons_zero]
          refine wl rfl (.int .i64 (es.length : Nat)) _ (run_lenI (.tmp 52) rfl vD es rfl OS.out.d.ints) ?_
          simp only [Act.put, List.setIfInBounds_toArray, List.set_cons_succ, List.set_cons_zero]
          refine wl rfl (.bool true) _ (run_lssZ (.tmp 50) (.tmp 53) rfl (i : Nat) (es.length : Nat) rfl rfl true (decide_eq_true (by have := HE.out; omega))) ?_
          simp only [Act.put, List.setIfInBounds_toArray, List.set_cons_succ, List.set_cons_zero]
          refine wl rfl (.bool true) _ (run_mvZ (.tmp 54) rfl (.bool true) rfl) ?_
          simp only [Act.put, List.setIfInBounds_toArray, List.set_cons_succ, List.set_cons_zero]
          refine wl (by kernel_rfl) (.int .i64 (i : Nat)) _ (run_mvZ (.tmp 11) rfl (.int .i64 (i : Nat)) rfl) ?_
          simp only [Act.put, List.setIfInBounds_toArray, List.set_cons_succ, List.set_cons_zero]
          refine wl (by kernel_rfl) vm _ (run_mvZ (.tmp 2) rfl vm rfl) ?_
          simp only [Act.put, List.setIfInBounds_toArray, List.set_cons_succ, List.set_cons_zero]
          refine wl (by kernel_rfl) (.int .i64 (ms.length : Nat)) _ (run_lenI (.tmp 57) rfl vm ms rfl HM.out) ?_
          simp only [Act.put, List.setIfInBounds_toArray, List.set_cons_succ, List.set_cons_zero]
          refine wl (by kernel_rfl) (.bool false) _ (run_lssZ (.tmp 56) (.tmp 58) rfl (i : Nat) (ms.length : Nat) rfl rfl false (decide_eq_false (by omega))) ?_
          simp only [Act.put, List.setIfInBounds_toArray, List.set_cons_succ, List.set_cons_zero]
          refine wl rfl (.bool false) _ (run_pickZ (.tmp 55) (.tmp 59) (.const (.bool false)) rfl true (.bool false) rfl rfl) ?_
          simp only [Act.put, List.setIfInBounds_toArray, List.set_cons_succ, List.set_cons_zero]
          refine wpList_nil ?_
          by_cases g9 : ts.length < 9
          · by_cases z12 : 12 ≤ z
            · by_cases z96 : z ≤ 4096
              · go_upto_region 16 with fail
                refine wp_region_lit ?_
                refine wl rfl (.pointer (some ⟨qt, 0 + 1, none⟩)) _ (run_fieldOp' f24_1 (.tmp 10) rfl qt (0) rfl) ?_
                simp only [Act.put, List.setIfInBounds_toArray, List.set_cons_succ, List.set_cons_zero]
                refine wl rfl vT _ (run_load1 o22 (.tmp 95) rfl qt (0 + 1) rfl vT (OS.out.row.at (0 + 1) _ rfl)) ?_
                simp only [Act.put, List.setIfInBounds_toArray, List.set_cons_succ, List.set_cons_zero]
                refine wl rfl (.int .i64 (ts.length : Nat)) _ (run_lenI (.tmp 96) rfl vT ts rfl OS.out.t.ints) ?_
                simp only [Act.put, List.setIfInBounds_toArray, List.set_cons_succ, List.set_cons_zero]
                refine wl rfl (.bool true) _ (run_lssZ (.tmp 97) (.const (.int .i64 9)) rfl (ts.length : Nat) 9 rfl rfl true (decide_eq_true (by omega))) ?_
                simp only [Act.put, List.setIfInBounds_toArray, List.set_cons_succ, List.set_cons_zero]
                refine wl rfl (.bool true) _ (run_mvZ (.tmp 98) rfl (.bool true) rfl) ?_
                simp only [Act.put, List.setIfInBounds_toArray, List.set_cons_succ, List.set_cons_zero]
                refine wl (by kernel_rfl) (.int .i64 z) _ (run_mvZ (.tmp 3) rfl (.int .i64 z) rfl) ?_
                simp only [Act.put, List.setIfInBounds_toArray, List.set_cons_succ, List.set_cons_zero]
                refine wl (by kernel_rfl) (.bool true) _ (run_geqZ (.tmp 100) (.const (.int .i64 12)) rfl z 12 rfl rfl true (decide_eq_true (by omega))) ?_
                simp only [Act.put, List.setIfInBounds_toArray, List.set_cons_succ, List.set_cons_zero]
                refine wl rfl (.bool true) _ (run_pickZ (.tmp 99) (.tmp 101) (.const (.bool false)) rfl true (.bool true) rfl rfl) ?_
                simp only [Act.put, List.setIfInBounds_toArray, List.set_cons_succ, List.set_cons_zero]
                refine wl rfl (.bool true) _ (run_mvZ (.tmp 102) rfl (.bool true) rfl) ?_
                simp only [Act.put, List.setIfInBounds_toArray, List.set_cons_succ, List.set_cons_zero]
                refine wl (by kernel_rfl) (.int .i64 z) _ (run_mvZ (.tmp 3) rfl (.int .i64 z) rfl) ?_
                simp only [Act.put, List.setIfInBounds_toArray, List.set_cons_succ, List.set_cons_zero]
                refine wl (by kernel_rfl) (.bool true) _ (run_leqZ (.tmp 104) (.const (.int .i64 4096)) rfl z 4096 rfl rfl true (decide_eq_true (by omega))) ?_
                simp only [Act.put, List.setIfInBounds_toArray, List.set_cons_succ, List.set_cons_zero]
                refine wl rfl (.bool true) _ (run_pickZ (.tmp 103) (.tmp 105) (.const (.bool false)) rfl true (.bool true) rfl rfl) ?_
                simp only [Act.put, List.setIfInBounds_toArray, List.set_cons_succ, List.set_cons_zero]
                refine wpList_nil ?_
                go_upto_region 17 with fail
                refine wp_region_lit ?_
                refine wl rfl (.pointer (some ⟨qt, 0 + 1, none⟩)) _ (run_fieldOp' f24_1 (.tmp 10) rfl qt (0) rfl) ?_
                simp only [Act.put, List.setIfInBounds_toArray, List.set_cons_succ, List.set_cons_zero]
                refine wl rfl vT _ (run_load1 o22 (.tmp 107) rfl qt (0 + 1) rfl vT (OS.out.row.at (0 + 1) _ rfl)) ?_
                simp only [Act.put, List.setIfInBounds_toArray, List.set_cons_succ, List.set_cons_zero]
                refine wl rfl (.int .i64 z) _ (run_mvZ (.tmp 3) rfl (.int .i64 z) rfl) ?_
                simp only [Act.put, List.setIfInBounds_toArray, List.set_cons_succ, List.set_cons_zero]
                refine wl rfl _ _ (run_litOne (.tmp 109) rfl z rfl) ?_
                have i_ := IntsIn.lit u10 [z] (fun y hy => by rw [List.mem_singleton.1 hy]; exact HZ.out) (by simp)
                have bW := below_alloc u10 (.cells (([z] : List Int).map (Value.int .i64)).toArray 3)
                obtain ⟨u11, hW_⟩ : ∃ W, W = u10.alloc (.cells (([z] : List Int).map (Value.int .i64)).toArray 3) := ⟨_, rfl⟩
                obtain ⟨vL, hv_⟩ : ∃ v, v = Value.slice (some ⟨u10.heap.size, 0, none⟩) 1 1 := ⟨_, rfl⟩
                have i2_ : IntsIn u11 vL [z] := by rw [hW_, hv_]; exact i_
                rw [← hW_] at bW
                rw [← hW_, ← hv_]
                clear hW_ hv_ i_
                have HW_ : Hid (Below w.heap.size w u11) := belowNext HW.out bW
                clear HW
                have HW := HW_
                clear HW_
                have HM_ : Hid (IntsIn u11 vm ms) := HM.out.later bW
                clear HM
                have HM := HM_
                clear HM_
                have HS_ : Hid (ShB u11 qs vd vt ds ts) := HS.out.later bW
                clear HS
                have HS := HS_
                clear HS_
                have HG_ : Hid (CfB u11 qc r) := HG.out.later bW
                clear HG
                have HG := HG_
                clear HG_
                have HBr_ : Hid (Below u8.heap.size u8 u11) := belowNext HBr.out bW
                clear HBr
                have HBr := HBr_
                clear HBr_
                have OS_ : Hid (OwnSh u11 u8.heap.size qt vD vT es ts) := OS.out.later bW
                clear OS
                have OS := OS_
                clear OS_
                have HL : Hid (IntsIn u11 vL [z]) := i2_
                clear i2_ bW
                simp only [Act.put, List.setIfInBounds_toArray, List.set_cons_succ, List.set_cons_zero]
                obtain ⟨vN, u12, ra_, rq_, od_, ot_, bb_⟩ := OS.out.app 22 vL z HL.out (by omega)
                refine wl rfl vN u12 (run_append (.tmp 108) (.tmp 110) rfl vT vL vN rfl rfl ra_) ?_
                have hb_ := HBr.out.trans bb_
                have ge_ := OS.out.ge
                clear ra_ bb_ HS HG HM HW HBr OS HL
                simp only [Act.put, List.setIfInBounds_toArray, List.set_cons_succ, List.set_cons_zero]
                refine wl rfl (.pointer (some ⟨qt, 0 + 1, none⟩)) _ (run_fieldOp' f24_1 (.tmp 10) rfl qt (0) rfl) ?_
                simp only [Act.put, List.setIfInBounds_toArray, List.set_cons_succ, List.set_cons_zero]
                have la_ := app_laid rq_ od_ ot_ ge_
                refine wlS rfl rfl (u12.setCell ⟨qt, 0 + 1, none⟩ vN) (run_putRow s22 (.tmp 112) (.tmp 111) rfl qt (0 + 1) 24 [vD, vT] rfl vN rfl ⟨ot_.ints.isSlice.1, ot_.ints.one⟩ rq_ (by simp)) ?_
                obtain ⟨u13, hW_⟩ : ∃ U, U = u12.setCell ⟨qt, 0 + 1, none⟩ vN := ⟨_, rfl⟩
                rw [← hW_] at la_ ⊢
                have hc_ := hb_.trans la_.2
                have HT : Hid (ShB u13 qt vD vN es (ts ++ [z])) := la_.1
                clear hW_ rq_ od_ ot_ ge_ hb_ la_
                have HS : Hid (ShB u13 qs vd vt ds ts) := HS0.out.later hc_
                have HG : Hid (CfB u13 qc r) := HG0.out.later hc_
                have HW : Hid (Below w.heap.size w u13) := belowNext HW0.out hc_
                clear hc_
                refine wpList_nil ?_
                obtain ⟨n2, hn2⟩ : ∃ x, x = putsZ es := ⟨_, rfl⟩
                obtain ⟨k2, hk2⟩ : ∃ x, x = sectZ es := ⟨_, rfl⟩
                have nn : n ≤ n2 := by rw [hn2, HNK.out.1]; exact puts_up H3.out HU.out HP1.out.1
                have kk : k ≤ k2 := by rw [hk2, HNK.out.2]; exact sect_up H3.out HU.out HP1.out.2
                have HN2 : Hid (n2 = putsZ es ∧ k2 = sectZ es) := ⟨hn2, hk2⟩
                have HMU : Hid (mayOk es (ts ++ [z]) r = true) := may_app (may_up HMay.out HU.out) g9 z12 z96
                clear hn2 hk2
                go_upto_region 18 with fail
                refine wp_region_held (S := fun X => (ShB X qs vd vt ds ts) ∧ (CfB X qc r) ∧ (ShB X qt vD vN es (ts ++ [z]))) (by kernel_rfl) ?_
                show wpAnyH _ _ _ _ _ 21 (Array.replicate 21 false) _ _
                obtain ⟨u14, hX⟩ : ∃ u14 : World, u14 = { u13 with drawn := u13.drawn + 1 } := ⟨_, rfl⟩
                rw [← hX]
                have bX : Below u13.heap.size u13 u14 := by rw [hX]; exact ⟨rfl, rfl, rfl, Nat.le_refl _, fun _ _ => rfl⟩
                have HS_ : Hid (ShB u14 qs vd vt ds ts) := HS.out.later bX
                clear HS
                have HS := HS_
                clear HS_
                have HG_ : Hid (CfB u14 qc r) := HG.out.later bX
                clear HG
                have HG := HG_
                clear HG_
                have HW_ : Hid (Below w.heap.size w u14) := belowNext HW.out bX
                clear HW
                have HW := HW_
                clear HW_
                have HT_ : Hid (ShB u14 qt vD vN es (ts ++ [z])) := HT.out.later bX
                clear HT
                have HT := HT_
                clear HT_
                clear bX
                clear hX
                refine takeH (i := 0) (some 113) rfl rfl (by kernel_rfl) (by kernel_rfl) (by kernel_rfl) (fun _ _ _ h => h) (gRun rfl (.bool true) fun _ h => run_mvZ (.tmp 9) rfl (.bool true) rfl) ⟨HS.out, HG.out, HT.out⟩ ?_
                simp only [Act.put, List.setIfInBounds_toArray, List.set_cons_succ, List.set_cons_zero]
                refine takeH (i := 1) (some 114) rfl rfl (by kernel_rfl) (by kernel_rfl) (by kernel_rfl) (fun _ _ _ h => h) (gRun rfl (.bool true) fun _ h => run_mvZ (.tmp 113) rfl (.bool true) rfl) ⟨HS.out, HG.out, HT.out⟩ ?_
                simp only [Act.put, List.setIfInBounds_toArray, List.set_cons_succ, List.set_cons_zero]
                refine takeH (i := 2) (some 115) rfl rfl (by kernel_rfl) (by kernel_rfl) (by kernel_rfl) (fun _ _ _ h => h) (gRun (by kernel_rfl) (.agg ([vD, vN]).toArray) fun _ h => run_loadA ag24 (.tmp 10) rfl qt (0) rfl ([vD, vN]) rfl (fun j v hv => by rw [Nat.zero_add]; exact h.2.2.row.at j v hv)) ⟨HS.out, HG.out, HT.out⟩ ?_
                simp only [Act.put, List.setIfInBounds_toArray, List.set_cons_succ, List.set_cons_zero]
                refine takeH (i := 3) (some 116) rfl rfl (by kernel_rfl) (by kernel_rfl) (by kernel_rfl) (fun _ _ _ h => h) (gRun (by kernel_rfl) (.agg ([.int .i64 r]).toArray) fun _ h => run_loadA ag26 (.tmp 5) rfl qc (0) rfl ([.int .i64 r]) rfl (fun j v hv => by rw [Nat.zero_add]; exact h.2.1.row.at j v hv)) ⟨HS.out, HG.out, HT.out⟩ ?_
                simp only [Act.put, List.setIfInBounds_toArray, List.set_cons_succ, List.set_cons_zero]
                refine oneH (i := 4) (by kernel_rfl) ?_
                refine opCallG (some 117) rfl rfl (by kernel_rfl) 8 _ (run_call eN8 [.tmp 115, .tmp 116] _ rfl [(.agg ([vD, vN]).toArray), (.agg ([.int .i64 r]).toArray)] rfl) ?_
                refine (may_any u14 vD vN es ((ts ++ [z])) HT.out.sh r).mono ?_
                rintro e u15 ⟨rfl, bW⟩
                refine ⟨_, rfl, ?_⟩
                rw [HMU.out]
                have HS_ : Hid (ShB u15 qs vd vt ds ts) := HS.out.later bW
                clear HS
                have HS := HS_
                clear HS_
                have HG_ : Hid (CfB u15 qc r) := HG.out.later bW
                clear HG
                have HG := HG_
                clear HG_
                have HW_ : Hid (Below w.heap.size w u15) := belowNext HW.out bW
                clear HW
                have HW := HW_
                clear HW_
                have HT_ : Hid (ShB u15 qt vD vN es (ts ++ [z])) := HT.out.later bW
                clear HT
                have HT := HT_
                clear HT_
                clear bW
                refine ⟨⟨HS.out, HG.out, HT.out⟩, ?_⟩
                simp only [Act.put, List.setIfInBounds_toArray, List.set_cons_succ, List.set_cons_zero]
                refine takeH (i := 5) (some 118) rfl rfl (by kernel_rfl) (by kernel_rfl) (by kernel_rfl) (fun _ _ _ h => h) (gRun rfl (.bool true) fun _ h => run_pickZ (.tmp 114) (.tmp 117) (.const (.bool false)) rfl true (.bool true) rfl rfl) ⟨HS.out, HG.out, HT.out⟩ ?_
                simp only [Act.put, List.setIfInBounds_toArray, List.set_cons_succ, List.set_cons_zero]
                refine takeH (i := 6) (some 119) rfl rfl (by kernel_rfl) (by kernel_rfl) (by kernel_rfl) (fun _ _ _ h => h) (gRun rfl (.bool true) fun _ h => run_mvZ (.tmp 118) rfl (.bool true) rfl) ⟨HS.out, HG.out, HT.out⟩ ?_
                simp only [Act.put, List.setIfInBounds_toArray, List.set_cons_succ, List.set_cons_zero]
                refine takeH (i := 7) (some 120) rfl rfl (by kernel_rfl) (by kernel_rfl) (by kernel_rfl) (fun _ _ _ h => h) (gRun (by kernel_rfl) (.agg ([vD, vN]).toArray) fun _ h => run_loadA ag24 (.tmp 10) rfl qt (0) rfl ([vD, vN]) rfl (fun j v hv => by rw [Nat.zero_add]; exact h.2.2.row.at j v hv)) ⟨HS.out, HG.out, HT.out⟩ ?_
                simp only [Act.put, List.setIfInBounds_toArray, List.set_cons_succ, List.set_cons_zero]
                refine takeH (i := 9) (some 122) rfl rfl (by kernel_rfl) (by kernel_rfl) (by kernel_rfl) (fun _ _ _ h => h) (gRun (by kernel_rfl) (.agg ([vd, vt]).toArray) fun _ h => run_loadA ag24 (.tmp 4) rfl qs (0) rfl ([vd, vt]) rfl (fun j v hv => by rw [Nat.zero_add]; exact h.1.row.at j v hv)) ⟨HS.out, HG.out, HT.out⟩ ?_
                simp only [Act.put, List.setIfInBounds_toArray, List.set_cons_succ, List.set_cons_zero]
                refine oneH (i := 8) (by kernel_rfl) ?_
                refine opCallG (some 121) rfl rfl (by kernel_rfl) 10 _ (run_call eN10 [.tmp 120] _ rfl [(.agg ([vD, vN]).toArray)] rfl) ?_
                refine (puts_any u15 vD vN es ((ts ++ [z])) HT.out.sh).mono ?_
                rintro e u16 ⟨rfl, bW⟩
                refine ⟨_, rfl, ?_⟩
                rw [← HN2.out.1]
                have HS_ : Hid (ShB u16 qs vd vt ds ts) := HS.out.later bW
                clear HS
                have HS := HS_
                clear HS_
                have HG_ : Hid (CfB u16 qc r) := HG.out.later bW
                clear HG
                have HG := HG_
                clear HG_
                have HW_ : Hid (Below w.heap.size w u16) := belowNext HW.out bW
                clear HW
                have HW := HW_
                clear HW_
                have HT_ : Hid (ShB u16 qt vD vN es (ts ++ [z])) := HT.out.later bW
                clear HT
                have HT := HT_
                clear HT_
                clear bW
                refine ⟨⟨HS.out, HG.out, HT.out⟩, ?_⟩
                simp only [Act.put, List.setIfInBounds_toArray, List.set_cons_succ, List.set_cons_zero]
                refine oneH (i := 10) (by kernel_rfl) ?_
                refine opCallG (some 123) rfl rfl (by kernel_rfl) 10 _ (run_call eN10 [.tmp 122] _ rfl [(.agg ([vd, vt]).toArray)] rfl) ?_
                refine (puts_any u16 vd vt ds ts HS.out.sh).mono ?_
                rintro e u17 ⟨rfl, bW⟩
                refine ⟨_, rfl, ?_⟩
                rw [← HNK.out.1]
                have HS_ : Hid (ShB u17 qs vd vt ds ts) := HS.out.later bW
                clear HS
                have HS := HS_
                clear HS_
                have HG_ : Hid (CfB u17 qc r) := HG.out.later bW
                clear HG
                have HG := HG_
                clear HG_
                have HW_ : Hid (Below w.heap.size w u17) := belowNext HW.out bW
                clear HW
                have HW := HW_
                clear HW_
                have HT_ : Hid (ShB u17 qt vD vN es (ts ++ [z])) := HT.out.later bW
                clear HT
                have HT := HT_
                clear HT_
                clear bW
                refine ⟨⟨HS.out, HG.out, HT.out⟩, ?_⟩
                simp only [Act.put, List.setIfInBounds_toArray, List.set_cons_succ, List.set_cons_zero]
                refine takeH (i := 11) (some 124) rfl rfl (by kernel_rfl) (by kernel_rfl) (by kernel_rfl) (fun _ _ _ h => h) (gRun (by kernel_rfl) (.bool true) fun _ h => run_geqZ (.tmp 121) (.tmp 123) rfl n2 n rfl rfl true (decide_eq_true nn)) ⟨HS.out, HG.out, HT.out⟩ ?_
                simp only [Act.put, List.setIfInBounds_toArray, List.set_cons_succ, List.set_cons_zero]
                refine takeH (i := 12) (some 125) rfl rfl (by kernel_rfl) (by kernel_rfl) (by kernel_rfl) (fun _ _ _ h => h) (gRun rfl (.bool true) fun _ h => run_pickZ (.tmp 119) (.tmp 124) (.const (.bool false)) rfl true (.bool true) rfl rfl) ⟨HS.out, HG.out, HT.out⟩ ?_
                simp only [Act.put, List.setIfInBounds_toArray, List.set_cons_succ, List.set_cons_zero]
                refine takeH (i := 13) (some 126) rfl rfl (by kernel_rfl) (by kernel_rfl) (by kernel_rfl) (fun _ _ _ h => h) (gRun rfl (.bool true) fun _ h => run_mvZ (.tmp 125) rfl (.bool true) rfl) ⟨HS.out, HG.out, HT.out⟩ ?_
                simp only [Act.put, List.setIfInBounds_toArray, List.set_cons_succ, List.set_cons_zero]
                refine takeH (i := 14) (some 127) rfl rfl (by kernel_rfl) (by kernel_rfl) (by kernel_rfl) (fun _ _ _ h => h) (gRun (by kernel_rfl) (.agg ([vD, vN]).toArray) fun _ h => run_loadA ag24 (.tmp 10) rfl qt (0) rfl ([vD, vN]) rfl (fun j v hv => by rw [Nat.zero_add]; exact h.2.2.row.at j v hv)) ⟨HS.out, HG.out, HT.out⟩ ?_
                simp only [Act.put, List.setIfInBounds_toArray, List.set_cons_succ, List.set_cons_zero]
                refine takeH (i := 16) (some 129) rfl rfl (by kernel_rfl) (by kernel_rfl) (by kernel_rfl) (fun _ _ _ h => h) (gRun (by kernel_rfl) (.agg ([vd, vt]).toArray) fun _ h => run_loadA ag24 (.tmp 4) rfl qs (0) rfl ([vd, vt]) rfl (fun j v hv => by rw [Nat.zero_add]; exact h.1.row.at j v hv)) ⟨HS.out, HG.out, HT.out⟩ ?_
                simp only [Act.put, List.setIfInBounds_toArray, List.set_cons_succ, List.set_cons_zero]
                refine oneH (i := 15) (by kernel_rfl) ?_
                refine opCallG (some 128) rfl rfl (by kernel_rfl) 12 _ (run_call eN12 [.tmp 127] _ rfl [(.agg ([vD, vN]).toArray)] rfl) ?_
                refine (sectors_any u17 vD vN es ((ts ++ [z])) HT.out.sh).mono ?_
                rintro e u18 ⟨rfl, bW⟩
                refine ⟨_, rfl, ?_⟩
                rw [← HN2.out.2]
                have HS_ : Hid (ShB u18 qs vd vt ds ts) := HS.out.later bW
                clear HS
                have HS := HS_
                clear HS_
                have HG_ : Hid (CfB u18 qc r) := HG.out.later bW
                clear HG
                have HG := HG_
                clear HG_
                have HW_ : Hid (Below w.heap.size w u18) := belowNext HW.out bW
                clear HW
                have HW := HW_
                clear HW_
                have HT_ : Hid (ShB u18 qt vD vN es (ts ++ [z])) := HT.out.later bW
                clear HT
                have HT := HT_
                clear HT_
                clear bW
                refine ⟨⟨HS.out, HG.out, HT.out⟩, ?_⟩
                simp only [Act.put, List.setIfInBounds_toArray, List.set_cons_succ, List.set_cons_zero]
                refine oneH (i := 17) (by kernel_rfl) ?_
                refine opCallG (some 130) rfl rfl (by kernel_rfl) 12 _ (run_call eN12 [.tmp 129] _ rfl [(.agg ([vd, vt]).toArray)] rfl) ?_
                refine (sectors_any u18 vd vt ds ts HS.out.sh).mono ?_
                rintro e u19 ⟨rfl, bW⟩
                refine ⟨_, rfl, ?_⟩
                rw [← HNK.out.2]
                have HS_ : Hid (ShB u19 qs vd vt ds ts) := HS.out.later bW
                clear HS
                have HS := HS_
                clear HS_
                have HG_ : Hid (CfB u19 qc r) := HG.out.later bW
                clear HG
                have HG := HG_
                clear HG_
                have HW_ : Hid (Below w.heap.size w u19) := belowNext HW.out bW
                clear HW
                have HW := HW_
                clear HW_
                have HT_ : Hid (ShB u19 qt vD vN es (ts ++ [z])) := HT.out.later bW
                clear HT
                have HT := HT_
                clear HT_
                clear bW
                refine ⟨⟨HS.out, HG.out, HT.out⟩, ?_⟩
                simp only [Act.put, List.setIfInBounds_toArray, List.set_cons_succ, List.set_cons_zero]
                refine takeH (i := 18) (some 131) rfl rfl (by kernel_rfl) (by kernel_rfl) (by kernel_rfl) (fun _ _ _ h => h) (gRun (by kernel_rfl) (.bool true) fun _ h => run_geqZ (.tmp 128) (.tmp 130) rfl k2 k rfl rfl true (decide_eq_true kk)) ⟨HS.out, HG.out, HT.out⟩ ?_
                simp only [Act.put, List.setIfInBounds_toArray, List.set_cons_succ, List.set_cons_zero]
                refine takeH (i := 19) (some 132) rfl rfl (by kernel_rfl) (by kernel_rfl) (by kernel_rfl) (fun _ _ _ h => h) (gRun rfl (.bool true) fun _ h => run_pickZ (.tmp 126) (.tmp 131) (.const (.bool false)) rfl true (.bool true) rfl rfl) ⟨HS.out, HG.out, HT.out⟩ ?_
                simp only [Act.put, List.setIfInBounds_toArray, List.set_cons_succ, List.set_cons_zero]
                refine takeH (i := 20) (some 8) rfl rfl (by kernel_rfl) (by kernel_rfl) (by kernel_rfl) (fun _ _ _ h => h) (gRun rfl (.bool true) fun _ h => run_asZ (.tmp 132) rfl (.bool true) rfl) ⟨HS.out, HG.out, HT.out⟩ ?_
                simp only [Act.put, List.setIfInBounds_toArray, List.set_cons_succ, List.set_cons_zero]
                refine wpAnyH_done (by kernel_rfl) ?_ _
                go_wp2_with fail
                rw [HPQ.out]
                exact ⟨rfl, HW.out⟩
              · go_upto_region 16 with fail
                refine wp_region_lit ?_
                refine wl rfl (.pointer (some ⟨qt, 0 + 1, none⟩)) _ (run_fieldOp' f24_1 (.tmp 10) rfl qt (0) rfl) ?_
                simp only [Act.put, List.setIfInBounds_toArray, List.set_cons_succ, List.set_cons_zero]
                refine wl rfl vT _ (run_load1 o22 (.tmp 95) rfl qt (0 + 1) rfl vT (OS.out.row.at (0 + 1) _ rfl)) ?_
                simp only [Act.put, List.setIfInBounds_toArray, List.set_cons_succ, List.set_cons_zero]
                refine wl rfl (.int .i64 (ts.length : Nat)) _ (run_lenI (.tmp 96) rfl vT ts rfl OS.out.t.ints) ?_
                simp only [Act.put, List.setIfInBounds_toArray, List.set_cons_succ, List.set_cons_zero]
                refine wl rfl (.bool true) _ (run_lssZ (.tmp 97) (.const (.int .i64 9)) rfl (ts.length : Nat) 9 rfl rfl true (decide_eq_true (by omega))) ?_
                simp only [Act.put, List.setIfInBounds_toArray, List.set_cons_succ, List.set_cons_zero]
                refine wl rfl (.bool true) _ (run_mvZ (.tmp 98) rfl (.bool true) rfl) ?_
                simp only [Act.put, List.setIfInBounds_toArray, List.set_cons_succ, List.set_cons_zero]
                refine wl (by kernel_rfl) (.int .i64 z) _ (run_mvZ (.tmp 3) rfl (.int .i64 z) rfl) ?_
                simp only [Act.put, List.setIfInBounds_toArray, List.set_cons_succ, List.set_cons_zero]
                refine wl (by kernel_rfl) (.bool true) _ (run_geqZ (.tmp 100) (.const (.int .i64 12)) rfl z 12 rfl rfl true (decide_eq_true (by omega))) ?_
                simp only [Act.put, List.setIfInBounds_toArray, List.set_cons_succ, List.set_cons_zero]
                refine wl rfl (.bool true) _ (run_pickZ (.tmp 99) (.tmp 101) (.const (.bool false)) rfl true (.bool true) rfl rfl) ?_
                simp only [Act.put, List.setIfInBounds_toArray, List.set_cons_succ, List.set_cons_zero]
                refine wl rfl (.bool true) _ (run_mvZ (.tmp 102) rfl (.bool true) rfl) ?_
                simp only [Act.put, List.setIfInBounds_toArray, List.set_cons_succ, List.set_cons_zero]
                refine wl (by kernel_rfl) (.int .i64 z) _ (run_mvZ (.tmp 3) rfl (.int .i64 z) rfl) ?_
                simp only [Act.put, List.setIfInBounds_toArray, List.set_cons_succ, List.set_cons_zero]
                refine wl (by kernel_rfl) (.bool false) _ (run_leqZ (.tmp 104) (.const (.int .i64 4096)) rfl z 4096 rfl rfl false (decide_eq_false (by omega))) ?_
                simp only [Act.put, List.setIfInBounds_toArray, List.set_cons_succ, List.set_cons_zero]
                refine wl rfl (.bool false) _ (run_pickZ (.tmp 103) (.tmp 105) (.const (.bool false)) rfl true (.bool false) rfl rfl) ?_
                simp only [Act.put, List.setIfInBounds_toArray, List.set_cons_succ, List.set_cons_zero]
                refine wpList_nil ?_
                have HT : Hid (ShB u10 qt vD vT es ts) := ⟨OS.out.row, OS.out.d.ints, OS.out.t.ints⟩
                clear HBr
                clear OS
                obtain ⟨n2, hn2⟩ : ∃ x, x = putsZ es := ⟨_, rfl⟩
                obtain ⟨k2, hk2⟩ : ∃ x, x = sectZ es := ⟨_, rfl⟩
                have nn : n ≤ n2 := by rw [hn2, HNK.out.1]; exact puts_up H3.out HU.out HP1.out.1
                have kk : k ≤ k2 := by rw [hk2, HNK.out.2]; exact sect_up H3.out HU.out HP1.out.2
                have HN2 : Hid (n2 = putsZ es ∧ k2 = sectZ es) := ⟨hn2, hk2⟩
                have HMU : Hid (mayOk es ts r = true) := may_up HMay.out HU.out
                clear hn2 hk2
                go_upto_region 18 with fail
                refine wp_region_held (S := fun X => (ShB X qs vd vt ds ts) ∧ (CfB X qc r) ∧ (ShB X qt vD vT es ts)) (by kernel_rfl) ?_
                show wpAnyH _ _ _ _ _ 21 (Array.replicate 21 false) _ _
                obtain ⟨u11, hX⟩ : ∃ u11 : World, u11 = { u10 with drawn := u10.drawn + 1 } := ⟨_, rfl⟩
                rw [← hX]
                have bX : Below u10.heap.size u10 u11 := by rw [hX]; exact ⟨rfl, rfl, rfl, Nat.le_refl _, fun _ _ => rfl⟩
                have HW_ : Hid (Below w.heap.size w u11) := belowNext HW.out bX
                clear HW
                have HW := HW_
                clear HW_
                have HM_ : Hid (IntsIn u11 vm ms) := HM.out.later bX
                clear HM
                have HM := HM_
                clear HM_
                have HS_ : Hid (ShB u11 qs vd vt ds ts) := HS.out.later bX
                clear HS
                have HS := HS_
                clear HS_
                have HG_ : Hid (CfB u11 qc r) := HG.out.later bX
                clear HG
                have HG := HG_
                clear HG_
                have HT_ : Hid (ShB u11 qt vD vT es ts) := HT.out.later bX
                clear HT
                have HT := HT_
                clear HT_
                clear bX
                clear hX
                refine takeH (i := 0) (some 113) rfl rfl (by kernel_rfl) (by kernel_rfl) (by kernel_rfl) (fun _ _ _ h => h) (gRun rfl (.bool true) fun _ h => run_mvZ (.tmp 9) rfl (.bool true) rfl) ⟨HS.out, HG.out, HT.out⟩ ?_
                simp only [Act.put, List.setIfInBounds_toArray, List.set_cons_succ, List.set_cons_zero]
                refine takeH (i := 1) (some 114) rfl rfl (by kernel_rfl) (by kernel_rfl) (by kernel_rfl) (fun _ _ _ h => h) (gRun rfl (.bool true) fun _ h => run_mvZ (.tmp 113) rfl (.bool true) rfl) ⟨HS.out, HG.out, HT.out⟩ ?_
                simp only [Act.put, List.setIfInBounds_toArray, List.set_cons_succ, List.set_cons_zero]
                refine takeH (i := 2) (some 115) rfl rfl (by kernel_rfl) (by kernel_rfl) (by kernel_rfl) (fun _ _ _ h => h) (gRun (by kernel_rfl) (.agg ([vD, vT]).toArray) fun _ h => run_loadA ag24 (.tmp 10) rfl qt (0) rfl ([vD, vT]) rfl (fun j v hv => by rw [Nat.zero_add]; exact h.2.2.row.at j v hv)) ⟨HS.out, HG.out, HT.out⟩ ?_
                simp only [Act.put, List.setIfInBounds_toArray, List.set_cons_succ, List.set_cons_zero]
                refine takeH (i := 3) (some 116) rfl rfl (by kernel_rfl) (by kernel_rfl) (by kernel_rfl) (fun _ _ _ h => h) (gRun (by kernel_rfl) (.agg ([.int .i64 r]).toArray) fun _ h => run_loadA ag26 (.tmp 5) rfl qc (0) rfl ([.int .i64 r]) rfl (fun j v hv => by rw [Nat.zero_add]; exact h.2.1.row.at j v hv)) ⟨HS.out, HG.out, HT.out⟩ ?_
                simp only [Act.put, List.setIfInBounds_toArray, List.set_cons_succ, List.set_cons_zero]
                refine oneH (i := 4) (by kernel_rfl) ?_
                refine opCallG (some 117) rfl rfl (by kernel_rfl) 8 _ (run_call eN8 [.tmp 115, .tmp 116] _ rfl [(.agg ([vD, vT]).toArray), (.agg ([.int .i64 r]).toArray)] rfl) ?_
                refine (may_any u11 vD vT es (ts) HT.out.sh r).mono ?_
                rintro e u12 ⟨rfl, bW⟩
                refine ⟨_, rfl, ?_⟩
                rw [HMU.out]
                have HW_ : Hid (Below w.heap.size w u12) := belowNext HW.out bW
                clear HW
                have HW := HW_
                clear HW_
                have HM_ : Hid (IntsIn u12 vm ms) := HM.out.later bW
                clear HM
                have HM := HM_
                clear HM_
                have HS_ : Hid (ShB u12 qs vd vt ds ts) := HS.out.later bW
                clear HS
                have HS := HS_
                clear HS_
                have HG_ : Hid (CfB u12 qc r) := HG.out.later bW
                clear HG
                have HG := HG_
                clear HG_
                have HT_ : Hid (ShB u12 qt vD vT es ts) := HT.out.later bW
                clear HT
                have HT := HT_
                clear HT_
                clear bW
                refine ⟨⟨HS.out, HG.out, HT.out⟩, ?_⟩
                simp only [Act.put, List.setIfInBounds_toArray, List.set_cons_succ, List.set_cons_zero]
                refine takeH (i := 5) (some 118) rfl rfl (by kernel_rfl) (by kernel_rfl) (by kernel_rfl) (fun _ _ _ h => h) (gRun rfl (.bool true) fun _ h => run_pickZ (.tmp 114) (.tmp 117) (.const (.bool false)) rfl true (.bool true) rfl rfl) ⟨HS.out, HG.out, HT.out⟩ ?_
                simp only [Act.put, List.setIfInBounds_toArray, List.set_cons_succ, List.set_cons_zero]
                refine takeH (i := 6) (some 119) rfl rfl (by kernel_rfl) (by kernel_rfl) (by kernel_rfl) (fun _ _ _ h => h) (gRun rfl (.bool true) fun _ h => run_mvZ (.tmp 118) rfl (.bool true) rfl) ⟨HS.out, HG.out, HT.out⟩ ?_
                simp only [Act.put, List.setIfInBounds_toArray, List.set_cons_succ, List.set_cons_zero]
                refine takeH (i := 7) (some 120) rfl rfl (by kernel_rfl) (by kernel_rfl) (by kernel_rfl) (fun _ _ _ h => h) (gRun (by kernel_rfl) (.agg ([vD, vT]).toArray) fun _ h => run_loadA ag24 (.tmp 10) rfl qt (0) rfl ([vD, vT]) rfl (fun j v hv => by rw [Nat.zero_add]; exact h.2.2.row.at j v hv)) ⟨HS.out, HG.out, HT.out⟩ ?_
                simp only [Act.put, List.setIfInBounds_toArray, List.set_cons_succ, List.set_cons_zero]
                refine takeH (i := 9) (some 122) rfl rfl (by kernel_rfl) (by kernel_rfl) (by kernel_rfl) (fun _ _ _ h => h) (gRun (by kernel_rfl) (.agg ([vd, vt]).toArray) fun _ h => run_loadA ag24 (.tmp 4) rfl qs (0) rfl ([vd, vt]) rfl (fun j v hv => by rw [Nat.zero_add]; exact h.1.row.at j v hv)) ⟨HS.out, HG.out, HT.out⟩ ?_
                simp only [Act.put, List.setIfInBounds_toArray, List.set_cons_succ, List.set_cons_zero]
                refine oneH (i := 8) (by kernel_rfl) ?_
                refine opCallG (some 121) rfl rfl (by kernel_rfl) 10 _ (run_call eN10 [.tmp 120] _ rfl [(.agg ([vD, vT]).toArray)] rfl) ?_
                refine (puts_any u12 vD vT es (ts) HT.out.sh).mono ?_
                rintro e u13 ⟨rfl, bW⟩
                refine ⟨_, rfl, ?_⟩
                rw [← HN2.out.1]
                have HW_ : Hid (Below w.heap.size w u13) := belowNext HW.out bW
                clear HW
                have HW := HW_
                clear HW_
                have HM_ : Hid (IntsIn u13 vm ms) := HM.out.later bW
                clear HM
                have HM := HM_
                clear HM_
                have HS_ : Hid (ShB u13 qs vd vt ds ts) := HS.out.later bW
                clear HS
                have HS := HS_
                clear HS_
                have HG_ : Hid (CfB u13 qc r) := HG.out.later bW
                clear HG
                have HG := HG_
                clear HG_
                have HT_ : Hid (ShB u13 qt vD vT es ts) := HT.out.later bW
                clear HT
                have HT := HT_
                clear HT_
                clear bW
                refine ⟨⟨HS.out, HG.out, HT.out⟩, ?_⟩
                simp only [Act.put, List.setIfInBounds_toArray, List.set_cons_succ, List.set_cons_zero]
                refine oneH (i := 10) (by kernel_rfl) ?_
                refine opCallG (some 123) rfl rfl (by kernel_rfl) 10 _ (run_call eN10 [.tmp 122] _ rfl [(.agg ([vd, vt]).toArray)] rfl) ?_
                refine (puts_any u13 vd vt ds ts HS.out.sh).mono ?_
                rintro e u14 ⟨rfl, bW⟩
                refine ⟨_, rfl, ?_⟩
                rw [← HNK.out.1]
                have HW_ : Hid (Below w.heap.size w u14) := belowNext HW.out bW
                clear HW
                have HW := HW_
                clear HW_
                have HM_ : Hid (IntsIn u14 vm ms) := HM.out.later bW
                clear HM
                have HM := HM_
                clear HM_
                have HS_ : Hid (ShB u14 qs vd vt ds ts) := HS.out.later bW
                clear HS
                have HS := HS_
                clear HS_
                have HG_ : Hid (CfB u14 qc r) := HG.out.later bW
                clear HG
                have HG := HG_
                clear HG_
                have HT_ : Hid (ShB u14 qt vD vT es ts) := HT.out.later bW
                clear HT
                have HT := HT_
                clear HT_
                clear bW
                refine ⟨⟨HS.out, HG.out, HT.out⟩, ?_⟩
                simp only [Act.put, List.setIfInBounds_toArray, List.set_cons_succ, List.set_cons_zero]
                refine takeH (i := 11) (some 124) rfl rfl (by kernel_rfl) (by kernel_rfl) (by kernel_rfl) (fun _ _ _ h => h) (gRun (by kernel_rfl) (.bool true) fun _ h => run_geqZ (.tmp 121) (.tmp 123) rfl n2 n rfl rfl true (decide_eq_true nn)) ⟨HS.out, HG.out, HT.out⟩ ?_
                simp only [Act.put, List.setIfInBounds_toArray, List.set_cons_succ, List.set_cons_zero]
                refine takeH (i := 12) (some 125) rfl rfl (by kernel_rfl) (by kernel_rfl) (by kernel_rfl) (fun _ _ _ h => h) (gRun rfl (.bool true) fun _ h => run_pickZ (.tmp 119) (.tmp 124) (.const (.bool false)) rfl true (.bool true) rfl rfl) ⟨HS.out, HG.out, HT.out⟩ ?_
                simp only [Act.put, List.setIfInBounds_toArray, List.set_cons_succ, List.set_cons_zero]
                refine takeH (i := 13) (some 126) rfl rfl (by kernel_rfl) (by kernel_rfl) (by kernel_rfl) (fun _ _ _ h => h) (gRun rfl (.bool true) fun _ h => run_mvZ (.tmp 125) rfl (.bool true) rfl) ⟨HS.out, HG.out, HT.out⟩ ?_
                simp only [Act.put, List.setIfInBounds_toArray, List.set_cons_succ, List.set_cons_zero]
                refine takeH (i := 14) (some 127) rfl rfl (by kernel_rfl) (by kernel_rfl) (by kernel_rfl) (fun _ _ _ h => h) (gRun (by kernel_rfl) (.agg ([vD, vT]).toArray) fun _ h => run_loadA ag24 (.tmp 10) rfl qt (0) rfl ([vD, vT]) rfl (fun j v hv => by rw [Nat.zero_add]; exact h.2.2.row.at j v hv)) ⟨HS.out, HG.out, HT.out⟩ ?_
                simp only [Act.put, List.setIfInBounds_toArray, List.set_cons_succ, List.set_cons_zero]
                refine takeH (i := 16) (some 129) rfl rfl (by kernel_rfl) (by kernel_rfl) (by kernel_rfl) (fun _ _ _ h => h) (gRun (by kernel_rfl) (.agg ([vd, vt]).toArray) fun _ h => run_loadA ag24 (.tmp 4) rfl qs (0) rfl ([vd, vt]) rfl (fun j v hv => by rw [Nat.zero_add]; exact h.1.row.at j v hv)) ⟨HS.out, HG.out, HT.out⟩ ?_
                simp only [Act.put, List.setIfInBounds_toArray, List.set_cons_succ, List.set_cons_zero]
                refine oneH (i := 15) (by kernel_rfl) ?_
                refine opCallG (some 128) rfl rfl (by kernel_rfl) 12 _ (run_call eN12 [.tmp 127] _ rfl [(.agg ([vD, vT]).toArray)] rfl) ?_
                refine (sectors_any u14 vD vT es (ts) HT.out.sh).mono ?_
                rintro e u15 ⟨rfl, bW⟩
                refine ⟨_, rfl, ?_⟩
                rw [← HN2.out.2]
                have HW_ : Hid (Below w.heap.size w u15) := belowNext HW.out bW
                clear HW
                have HW := HW_
                clear HW_
                have HM_ : Hid (IntsIn u15 vm ms) := HM.out.later bW
                clear HM
                have HM := HM_
                clear HM_
                have HS_ : Hid (ShB u15 qs vd vt ds ts) := HS.out.later bW
                clear HS
                have HS := HS_
                clear HS_
                have HG_ : Hid (CfB u15 qc r) := HG.out.later bW
                clear HG
                have HG := HG_
                clear HG_
                have HT_ : Hid (ShB u15 qt vD vT es ts) := HT.out.later bW
                clear HT
                have HT := HT_
                clear HT_
                clear bW
                refine ⟨⟨HS.out, HG.out, HT.out⟩, ?_⟩
                simp only [Act.put, List.setIfInBounds_toArray, List.set_cons_succ, List.set_cons_zero]
                refine oneH (i := 17) (by kernel_rfl) ?_
                refine opCallG (some 130) rfl rfl (by kernel_rfl) 12 _ (run_call eN12 [.tmp 129] _ rfl [(.agg ([vd, vt]).toArray)] rfl) ?_
                refine (sectors_any u15 vd vt ds ts HS.out.sh).mono ?_
                rintro e u16 ⟨rfl, bW⟩
                refine ⟨_, rfl, ?_⟩
                rw [← HNK.out.2]
                have HW_ : Hid (Below w.heap.size w u16) := belowNext HW.out bW
                clear HW
                have HW := HW_
                clear HW_
                have HM_ : Hid (IntsIn u16 vm ms) := HM.out.later bW
                clear HM
                have HM := HM_
                clear HM_
                have HS_ : Hid (ShB u16 qs vd vt ds ts) := HS.out.later bW
                clear HS
                have HS := HS_
                clear HS_
                have HG_ : Hid (CfB u16 qc r) := HG.out.later bW
                clear HG
                have HG := HG_
                clear HG_
                have HT_ : Hid (ShB u16 qt vD vT es ts) := HT.out.later bW
                clear HT
                have HT := HT_
                clear HT_
                clear bW
                refine ⟨⟨HS.out, HG.out, HT.out⟩, ?_⟩
                simp only [Act.put, List.setIfInBounds_toArray, List.set_cons_succ, List.set_cons_zero]
                refine takeH (i := 18) (some 131) rfl rfl (by kernel_rfl) (by kernel_rfl) (by kernel_rfl) (fun _ _ _ h => h) (gRun (by kernel_rfl) (.bool true) fun _ h => run_geqZ (.tmp 128) (.tmp 130) rfl k2 k rfl rfl true (decide_eq_true kk)) ⟨HS.out, HG.out, HT.out⟩ ?_
                simp only [Act.put, List.setIfInBounds_toArray, List.set_cons_succ, List.set_cons_zero]
                refine takeH (i := 19) (some 132) rfl rfl (by kernel_rfl) (by kernel_rfl) (by kernel_rfl) (fun _ _ _ h => h) (gRun rfl (.bool true) fun _ h => run_pickZ (.tmp 126) (.tmp 131) (.const (.bool false)) rfl true (.bool true) rfl rfl) ⟨HS.out, HG.out, HT.out⟩ ?_
                simp only [Act.put, List.setIfInBounds_toArray, List.set_cons_succ, List.set_cons_zero]
                refine takeH (i := 20) (some 8) rfl rfl (by kernel_rfl) (by kernel_rfl) (by kernel_rfl) (fun _ _ _ h => h) (gRun rfl (.bool true) fun _ h => run_asZ (.tmp 132) rfl (.bool true) rfl) ⟨HS.out, HG.out, HT.out⟩ ?_
                simp only [Act.put, List.setIfInBounds_toArray, List.set_cons_succ, List.set_cons_zero]
                refine wpAnyH_done (by kernel_rfl) ?_ _
                go_wp2_with fail
                rw [HPQ.out]
                exact ⟨rfl, HW.out⟩
            · go_upto_region 16 with fail
              refine wp_region_lit ?_
              refine wl rfl (.pointer (some ⟨qt, 0 + 1, none⟩)) _ (run_fieldOp' f24_1 (.tmp 10) rfl qt (0) rfl) ?_
              simp only [Act.put, List.setIfInBounds_toArray, List.set_cons_succ, List.set_cons_zero]
              refine wl rfl vT _ (run_load1 o22 (.tmp 95) rfl qt (0 + 1) rfl vT (OS.out.row.at (0 + 1) _ rfl)) ?_
              simp only [Act.put, List.setIfInBounds_toArray, List.set_cons_succ, List.set_cons_zero]
              refine wl rfl (.int .i64 (ts.length : Nat)) _ (run_lenI (.tmp 96) rfl vT ts rfl OS.out.t.ints) ?_
              simp only [Act.put, List.setIfInBounds_toArray, List.set_cons_succ, List.set_cons_zero]
              refine wl rfl (.bool true) _ (run_lssZ (.tmp 97) (.const (.int .i64 9)) rfl (ts.length : Nat) 9 rfl rfl true (decide_eq_true (by omega))) ?_
              simp only [Act.put, List.setIfInBounds_toArray, List.set_cons_succ, List.set_cons_zero]
              refine wl rfl (.bool true) _ (run_mvZ (.tmp 98) rfl (.bool true) rfl) ?_
              simp only [Act.put, List.setIfInBounds_toArray, List.set_cons_succ, List.set_cons_zero]
              refine wl (by kernel_rfl) (.int .i64 z) _ (run_mvZ (.tmp 3) rfl (.int .i64 z) rfl) ?_
              simp only [Act.put, List.setIfInBounds_toArray, List.set_cons_succ, List.set_cons_zero]
              refine wl (by kernel_rfl) (.bool false) _ (run_geqZ (.tmp 100) (.const (.int .i64 12)) rfl z 12 rfl rfl false (decide_eq_false (by omega))) ?_
              simp only [Act.put, List.setIfInBounds_toArray, List.set_cons_succ, List.set_cons_zero]
              refine wl rfl (.bool false) _ (run_pickZ (.tmp 99) (.tmp 101) (.const (.bool false)) rfl true (.bool false) rfl rfl) ?_
              simp only [Act.put, List.setIfInBounds_toArray, List.set_cons_succ, List.set_cons_zero]
              refine wl rfl (.bool false) _ (run_mvZ (.tmp 102) rfl (.bool false) rfl) ?_
              simp only [Act.put, List.setIfInBounds_toArray, List.set_cons_succ, List.set_cons_zero]
              with_reducible refine wpList_skip (by kernel_rfl) ?_
              simp only [Act.put, List.setIfInBounds_toArray, List.set_cons_succ, List.set_cons_zero]
              with_reducible refine wpList_skip (by kernel_rfl) ?_
              simp only [Act.put, List.setIfInBounds_toArray, List.set_cons_succ, List.set_cons_zero]
              refine wl rfl (.bool false) _ (run_pickZ (.tmp 103) (.tmp 105) (.const (.bool false)) rfl false (.bool false) rfl rfl) ?_
              simp only [Act.put, List.setIfInBounds_toArray, List.set_cons_succ, List.set_cons_zero]
              refine wpList_nil ?_
              have HT : Hid (ShB u10 qt vD vT es ts) := ⟨OS.out.row, OS.out.d.ints, OS.out.t.ints⟩
              clear HBr
              clear OS
              obtain ⟨n2, hn2⟩ : ∃ x, x = putsZ es := ⟨_, rfl⟩
              obtain ⟨k2, hk2⟩ : ∃ x, x = sectZ es := ⟨_, rfl⟩
              have nn : n ≤ n2 := by rw [hn2, HNK.out.1]; exact puts_up H3.out HU.out HP1.out.1
              have kk : k ≤ k2 := by rw [hk2, HNK.out.2]; exact sect_up H3.out HU.out HP1.out.2
              have HN2 : Hid (n2 = putsZ es ∧ k2 = sectZ es) := ⟨hn2, hk2⟩
              have HMU : Hid (mayOk es ts r = true) := may_up HMay.out HU.out
              clear hn2 hk2
              go_upto_region 18 with fail
              refine wp_region_held (S := fun X => (ShB X qs vd vt ds ts) ∧ (CfB X qc r) ∧ (ShB X qt vD vT es ts)) (by kernel_rfl) ?_
              show wpAnyH _ _ _ _ _ 21 (Array.replicate 21 false) _ _
              obtain ⟨u11, hX⟩ : ∃ u11 : World, u11 = { u10 with drawn := u10.drawn + 1 } := ⟨_, rfl⟩
              rw [← hX]
              have bX : Below u10.heap.size u10 u11 := by rw [hX]; exact ⟨rfl, rfl, rfl, Nat.le_refl _, fun _ _ => rfl⟩
              have HW_ : Hid (Below w.heap.size w u11) := belowNext HW.out bX
              clear HW
              have HW := HW_
              clear HW_
              have HM_ : Hid (IntsIn u11 vm ms) := HM.out.later bX
              clear HM
              have HM := HM_
              clear HM_
              have HS_ : Hid (ShB u11 qs vd vt ds ts) := HS.out.later bX
              clear HS
              have HS := HS_
              clear HS_
              have HG_ : Hid (CfB u11 qc r) := HG.out.later bX
              clear HG
              have HG := HG_
              clear HG_
              have HT_ : Hid (ShB u11 qt vD vT es ts) := HT.out.later bX
              clear HT
              have HT := HT_
              clear HT_
              clear bX
              clear hX
              refine takeH (i := 0) (some 113) rfl rfl (by kernel_rfl) (by kernel_rfl) (by kernel_rfl) (fun _ _ _ h => h) (gRun rfl (.bool true) fun _ h => run_mvZ (.tmp 9) rfl (.bool true) rfl) ⟨HS.out, HG.out, HT.out⟩ ?_
              simp only [Act.put, List.setIfInBounds_toArray, List.set_cons_succ, List.set_cons_zero]
              refine takeH (i := 1) (some 114) rfl rfl (by kernel_rfl) (by kernel_rfl) (by kernel_rfl) (fun _ _ _ h => h) (gRun rfl (.bool true) fun _ h => run_mvZ (.tmp 113) rfl (.bool true) rfl) ⟨HS.out, HG.out, HT.out⟩ ?_
              simp only [Act.put, List.setIfInBounds_toArray, List.set_cons_succ, List.set_cons_zero]
              refine takeH (i := 2) (some 115) rfl rfl (by kernel_rfl) (by kernel_rfl) (by kernel_rfl) (fun _ _ _ h => h) (gRun (by kernel_rfl) (.agg ([vD, vT]).toArray) fun _ h => run_loadA ag24 (.tmp 10) rfl qt (0) rfl ([vD, vT]) rfl (fun j v hv => by rw [Nat.zero_add]; exact h.2.2.row.at j v hv)) ⟨HS.out, HG.out, HT.out⟩ ?_
              simp only [Act.put, List.setIfInBounds_toArray, List.set_cons_succ, List.set_cons_zero]
              refine takeH (i := 3) (some 116) rfl rfl (by kernel_rfl) (by kernel_rfl) (by kernel_rfl) (fun _ _ _ h => h) (gRun (by kernel_rfl) (.agg ([.int .i64 r]).toArray) fun _ h => run_loadA ag26 (.tmp 5) rfl qc (0) rfl ([.int .i64 r]) rfl (fun j v hv => by rw [Nat.zero_add]; exact h.2.1.row.at j v hv)) ⟨HS.out, HG.out, HT.out⟩ ?_
              simp only [Act.put, List.setIfInBounds_toArray, List.set_cons_succ, List.set_cons_zero]
              refine oneH (i := 4) (by kernel_rfl) ?_
              refine opCallG (some 117) rfl rfl (by kernel_rfl) 8 _ (run_call eN8 [.tmp 115, .tmp 116] _ rfl [(.agg ([vD, vT]).toArray), (.agg ([.int .i64 r]).toArray)] rfl) ?_
              refine (may_any u11 vD vT es (ts) HT.out.sh r).mono ?_
              rintro e u12 ⟨rfl, bW⟩
              refine ⟨_, rfl, ?_⟩
              rw [HMU.out]
              have HW_ : Hid (Below w.heap.size w u12) := belowNext HW.out bW
              clear HW
              have HW := HW_
              clear HW_
              have HM_ : Hid (IntsIn u12 vm ms) := HM.out.later bW
              clear HM
              have HM := HM_
              clear HM_
              have HS_ : Hid (ShB u12 qs vd vt ds ts) := HS.out.later bW
              clear HS
              have HS := HS_
              clear HS_
              have HG_ : Hid (CfB u12 qc r) := HG.out.later bW
              clear HG
              have HG := HG_
              clear HG_
              have HT_ : Hid (ShB u12 qt vD vT es ts) := HT.out.later bW
              clear HT
              have HT := HT_
              clear HT_
              clear bW
              refine ⟨⟨HS.out, HG.out, HT.out⟩, ?_⟩
              simp only [Act.put, List.setIfInBounds_toArray, List.set_cons_succ, List.set_cons_zero]
              refine takeH (i := 5) (some 118) rfl rfl (by kernel_rfl) (by kernel_rfl) (by kernel_rfl) (fun _ _ _ h => h) (gRun rfl (.bool true) fun _ h => run_pickZ (.tmp 114) (.tmp 117) (.const (.bool false)) rfl true (.bool true) rfl rfl) ⟨HS.out, HG.out, HT.out⟩ ?_
              simp only [Act.put, List.setIfInBounds_toArray, List.set_cons_succ, List.set_cons_zero]
              refine takeH (i := 6) (some 119) rfl rfl (by kernel_rfl) (by kernel_rfl) (by kernel_rfl) (fun _ _ _ h => h) (gRun rfl (.bool true) fun _ h => run_mvZ (.tmp 118) rfl (.bool true) rfl) ⟨HS.out, HG.out, HT.out⟩ ?_
              simp only [Act.put, List.setIfInBounds_toArray, List.set_cons_succ, List.set_cons_zero]
              refine takeH (i := 7) (some 120) rfl rfl (by kernel_rfl) (by kernel_rfl) (by kernel_rfl) (fun _ _ _ h => h) (gRun (by kernel_rfl) (.agg ([vD, vT]).toArray) fun _ h => run_loadA ag24 (.tmp 10) rfl qt (0) rfl ([vD, vT]) rfl (fun j v hv => by rw [Nat.zero_add]; exact h.2.2.row.at j v hv)) ⟨HS.out, HG.out, HT.out⟩ ?_
              simp only [Act.put, List.setIfInBounds_toArray, List.set_cons_succ, List.set_cons_zero]
              refine takeH (i := 9) (some 122) rfl rfl (by kernel_rfl) (by kernel_rfl) (by kernel_rfl) (fun _ _ _ h => h) (gRun (by kernel_rfl) (.agg ([vd, vt]).toArray) fun _ h => run_loadA ag24 (.tmp 4) rfl qs (0) rfl ([vd, vt]) rfl (fun j v hv => by rw [Nat.zero_add]; exact h.1.row.at j v hv)) ⟨HS.out, HG.out, HT.out⟩ ?_
              simp only [Act.put, List.setIfInBounds_toArray, List.set_cons_succ, List.set_cons_zero]
              refine oneH (i := 8) (by kernel_rfl) ?_
              refine opCallG (some 121) rfl rfl (by kernel_rfl) 10 _ (run_call eN10 [.tmp 120] _ rfl [(.agg ([vD, vT]).toArray)] rfl) ?_
              refine (puts_any u12 vD vT es (ts) HT.out.sh).mono ?_
              rintro e u13 ⟨rfl, bW⟩
              refine ⟨_, rfl, ?_⟩
              rw [← HN2.out.1]
              have HW_ : Hid (Below w.heap.size w u13) := belowNext HW.out bW
              clear HW
              have HW := HW_
              clear HW_
              have HM_ : Hid (IntsIn u13 vm ms) := HM.out.later bW
              clear HM
              have HM := HM_
              clear HM_
              have HS_ : Hid (ShB u13 qs vd vt ds ts) := HS.out.later bW
              clear HS
              have HS := HS_
              clear HS_
              have HG_ : Hid (CfB u13 qc r) := HG.out.later bW
              clear HG
              have HG := HG_
              clear HG_
              have HT_ : Hid (ShB u13 qt vD vT es ts) := HT.out.later bW
              clear HT
              have HT := HT_
              clear HT_
              clear bW
              refine ⟨⟨HS.out, HG.out, HT.out⟩, ?_⟩
              simp only [Act.put, List.setIfInBounds_toArray, List.set_cons_succ, List.set_cons_zero]
              refine oneH (i := 10) (by kernel_rfl) ?_
              refine opCallG (some 123) rfl rfl (by kernel_rfl) 10 _ (run_call eN10 [.tmp 122] _ rfl [(.agg ([vd, vt]).toArray)] rfl) ?_
              refine (puts_any u13 vd vt ds ts HS.out.sh).mono ?_
              rintro e u14 ⟨rfl, bW⟩
              refine ⟨_, rfl, ?_⟩
              rw [← HNK.out.1]
              have HW_ : Hid (Below w.heap.size w u14) := belowNext HW.out bW
              clear HW
              have HW := HW_
              clear HW_
              have HM_ : Hid (IntsIn u14 vm ms) := HM.out.later bW
              clear HM
              have HM := HM_
              clear HM_
              have HS_ : Hid (ShB u14 qs vd vt ds ts) := HS.out.later bW
              clear HS
              have HS := HS_
              clear HS_
              have HG_ : Hid (CfB u14 qc r) := HG.out.later bW
              clear HG
              have HG := HG_
              clear HG_
              have HT_ : Hid (ShB u14 qt vD vT es ts) := HT.out.later bW
              clear HT
              have HT := HT_
              clear HT_
              clear bW
              refine ⟨⟨HS.out, HG.out, HT.out⟩, ?_⟩
              simp only [Act.put, List.setIfInBounds_toArray, List.set_cons_succ, List.set_cons_zero]
              refine takeH (i := 11) (some 124) rfl rfl (by kernel_rfl) (by kernel_rfl) (by kernel_rfl) (fun _ _ _ h => h) (gRun (by kernel_rfl) (.bool true) fun _ h => run_geqZ (.tmp 121) (.tmp 123) rfl n2 n rfl rfl true (decide_eq_true nn)) ⟨HS.out, HG.out, HT.out⟩ ?_
              simp only [Act.put, List.setIfInBounds_toArray, List.set_cons_succ, List.set_cons_zero]
              refine takeH (i := 12) (some 125) rfl rfl (by kernel_rfl) (by kernel_rfl) (by kernel_rfl) (fun _ _ _ h => h) (gRun rfl (.bool true) fun _ h => run_pickZ (.tmp 119) (.tmp 124) (.const (.bool false)) rfl true (.bool true) rfl rfl) ⟨HS.out, HG.out, HT.out⟩ ?_
              simp only [Act.put, List.setIfInBounds_toArray, List.set_cons_succ, List.set_cons_zero]
              refine takeH (i := 13) (some 126) rfl rfl (by kernel_rfl) (by kernel_rfl) (by kernel_rfl) (fun _ _ _ h => h) (gRun rfl (.bool true) fun _ h => run_mvZ (.tmp 125) rfl (.bool true) rfl) ⟨HS.out, HG.out, HT.out⟩ ?_
              simp only [Act.put, List.setIfInBounds_toArray, List.set_cons_succ, List.set_cons_zero]
              refine takeH (i := 14) (some 127) rfl rfl (by kernel_rfl) (by kernel_rfl) (by kernel_rfl) (fun _ _ _ h => h) (gRun (by kernel_rfl) (.agg ([vD, vT]).toArray) fun _ h => run_loadA ag24 (.tmp 10) rfl qt (0) rfl ([vD, vT]) rfl (fun j v hv => by rw [Nat.zero_add]; exact h.2.2.row.at j v hv)) ⟨HS.out, HG.out, HT.out⟩ ?_
              simp only [Act.put, List.setIfInBounds_toArray, List.set_cons_succ, List.set_cons_zero]
              refine takeH (i := 16) (some 129) rfl rfl (by kernel_rfl) (by kernel_rfl) (by kernel_rfl) (fun _ _ _ h => h) (gRun (by kernel_rfl) (.agg ([vd, vt]).toArray) fun _ h => run_loadA ag24 (.tmp 4) rfl qs (0) rfl ([vd, vt]) rfl (fun j v hv => by rw [Nat.zero_add]; exact h.1.row.at j v hv)) ⟨HS.out, HG.out, HT.out⟩ ?_
              simp only [Act.put, List.setIfInBounds_toArray, List.set_cons_succ, List.set_cons_zero]
              refine oneH (i := 15) (by kernel_rfl) ?_
              refine opCallG (some 128) rfl rfl (by kernel_rfl) 12 _ (run_call eN12 [.tmp 127] _ rfl [(.agg ([vD, vT]).toArray)] rfl) ?_
              refine (sectors_any u14 vD vT es (ts) HT.out.sh).mono ?_
              rintro e u15 ⟨rfl, bW⟩
              refine ⟨_, rfl, ?_⟩
              rw [← HN2.out.2]
              have HW_ : Hid (Below w.heap.size w u15) := belowNext HW.out bW
              clear HW
              have HW := HW_
              clear HW_
              have HM_ : Hid (IntsIn u15 vm ms) := HM.out.later bW
              clear HM
              have HM := HM_
              clear HM_
              have HS_ : Hid (ShB u15 qs vd vt ds ts) := HS.out.later bW
              clear HS
              have HS := HS_
              clear HS_
              have HG_ : Hid (CfB u15 qc r) := HG.out.later bW
              clear HG
              have HG := HG_
              clear HG_
              have HT_ : Hid (ShB u15 qt vD vT es ts) := HT.out.later bW
              clear HT
              have HT := HT_
              clear HT_
              clear bW
              refine ⟨⟨HS.out, HG.out, HT.out⟩, ?_⟩
              simp only [Act.put, List.setIfInBounds_toArray, List.set_cons_succ, List.set_cons_zero]
              refine oneH (i := 17) (by kernel_rfl) ?_
              refine opCallG (some 130) rfl rfl (by kernel_rfl) 12 _ (run_call eN12 [.tmp 129] _ rfl [(.agg ([vd, vt]).toArray)] rfl) ?_
              refine (sectors_any u15 vd vt ds ts HS.out.sh).mono ?_
              rintro e u16 ⟨rfl, bW⟩
              refine ⟨_, rfl, ?_⟩
              rw [← HNK.out.2]
              have HW_ : Hid (Below w.heap.size w u16) := belowNext HW.out bW
              clear HW
              have HW := HW_
              clear HW_
              have HM_ : Hid (IntsIn u16 vm ms) := HM.out.later bW
              clear HM
              have HM := HM_
              clear HM_
              have HS_ : Hid (ShB u16 qs vd vt ds ts) := HS.out.later bW
              clear HS
              have HS := HS_
              clear HS_
              have HG_ : Hid (CfB u16 qc r) := HG.out.later bW
              clear HG
              have HG := HG_
              clear HG_
              have HT_ : Hid (ShB u16 qt vD vT es ts) := HT.out.later bW
              clear HT
              have HT := HT_
              clear HT_
              clear bW
              refine ⟨⟨HS.out, HG.out, HT.out⟩, ?_⟩
              simp only [Act.put, List.setIfInBounds_toArray, List.set_cons_succ, List.set_cons_zero]
              refine takeH (i := 18) (some 131) rfl rfl (by kernel_rfl) (by kernel_rfl) (by kernel_rfl) (fun _ _ _ h => h) (gRun (by kernel_rfl) (.bool true) fun _ h => run_geqZ (.tmp 128) (.tmp 130) rfl k2 k rfl rfl true (decide_eq_true kk)) ⟨HS.out, HG.out, HT.out⟩ ?_
              simp only [Act.put, List.setIfInBounds_toArray, List.set_cons_succ, List.set_cons_zero]
              refine takeH (i := 19) (some 132) rfl rfl (by kernel_rfl) (by kernel_rfl) (by kernel_rfl) (fun _ _ _ h => h) (gRun rfl (.bool true) fun _ h => run_pickZ (.tmp 126) (.tmp 131) (.const (.bool false)) rfl true (.bool true) rfl rfl) ⟨HS.out, HG.out, HT.out⟩ ?_
              simp only [Act.put, List.setIfInBounds_toArray, List.set_cons_succ, List.set_cons_zero]
              refine takeH (i := 20) (some 8) rfl rfl (by kernel_rfl) (by kernel_rfl) (by kernel_rfl) (fun _ _ _ h => h) (gRun rfl (.bool true) fun _ h => run_asZ (.tmp 132) rfl (.bool true) rfl) ⟨HS.out, HG.out, HT.out⟩ ?_
              simp only [Act.put, List.setIfInBounds_toArray, List.set_cons_succ, List.set_cons_zero]
              refine wpAnyH_done (by kernel_rfl) ?_ _
              go_wp2_with fail
              rw [HPQ.out]
              exact ⟨rfl, HW.out⟩
          · go_upto_region 16 with fail
            refine wp_region_lit ?_
            refine wl rfl (.pointer (some ⟨qt, 0 + 1, none⟩)) _ (run_fieldOp' f24_1 (.tmp 10) rfl qt (0) rfl) ?_
            simp only [Act.put, List.setIfInBounds_toArray, List.set_cons_succ, List.set_cons_zero]
            refine wl rfl vT _ (run_load1 o22 (.tmp 95) rfl qt (0 + 1) rfl vT (OS.out.row.at (0 + 1) _ rfl)) ?_
            simp only [Act.put, List.setIfInBounds_toArray, List.set_cons_succ, List.set_cons_zero]
            refine wl rfl (.int .i64 (ts.length : Nat)) _ (run_lenI (.tmp 96) rfl vT ts rfl OS.out.t.ints) ?_
            simp only [Act.put, List.setIfInBounds_toArray, List.set_cons_succ, List.set_cons_zero]
            refine wl rfl (.bool false) _ (run_lssZ (.tmp 97) (.const (.int .i64 9)) rfl (ts.length : Nat) 9 rfl rfl false (decide_eq_false (by omega))) ?_
            simp only [Act.put, List.setIfInBounds_toArray, List.set_cons_succ, List.set_cons_zero]
            refine wl rfl (.bool false) _ (run_mvZ (.tmp 98) rfl (.bool false) rfl) ?_
            simp only [Act.put, List.setIfInBounds_toArray, List.set_cons_succ, List.set_cons_zero]
            with_reducible refine wpList_skip (by kernel_rfl) ?_
            simp only [Act.put, List.setIfInBounds_toArray, List.set_cons_succ, List.set_cons_zero]
            with_reducible refine wpList_skip (by kernel_rfl) ?_
            simp only [Act.put, List.setIfInBounds_toArray, List.set_cons_succ, List.set_cons_zero]
            refine wl rfl (.bool false) _ (run_pickZ (.tmp 99) (.tmp 101) (.const (.bool false)) rfl false (.bool false) rfl rfl) ?_
            simp only [Act.put, List.setIfInBounds_toArray, List.set_cons_succ, List.set_cons_zero]
            refine wl rfl (.bool false) _ (run_mvZ (.tmp 102) rfl (.bool false) rfl) ?_
            simp only [Act.put, List.setIfInBounds_toArray, List.set_cons_succ, List.set_cons_zero]
            with_reducible refine wpList_skip (by kernel_rfl) ?_
            simp only [Act.put, List.setIfInBounds_toArray, List.set_cons_succ, List.set_cons_zero]
            with_reducible refine wpList_skip (by kernel_rfl) ?_
            simp only [Act.put, List.setIfInBounds_toArray, List.set_cons_succ, List.set_cons_zero]
            refine wl rfl (.bool false) _ (run_pickZ (.tmp 103) (.tmp 105) (.const (.bool false)) rfl false (.bool false) rfl rfl) ?_
            simp only [Act.put, List.setIfInBounds_toArray, List.set_cons_succ, List.set_cons_zero]
            refine wpList_nil ?_
            have HT : Hid (ShB u10 qt vD vT es ts) := ⟨OS.out.row, OS.out.d.ints, OS.out.t.ints⟩
            clear HBr
            clear OS
            obtain ⟨n2, hn2⟩ : ∃ x, x = putsZ es := ⟨_, rfl⟩
            obtain ⟨k2, hk2⟩ : ∃ x, x = sectZ es := ⟨_, rfl⟩
            have nn : n ≤ n2 := by rw [hn2, HNK.out.1]; exact puts_up H3.out HU.out HP1.out.1
            have kk : k ≤ k2 := by rw [hk2, HNK.out.2]; exact sect_up H3.out HU.out HP1.out.2
            have HN2 : Hid (n2 = putsZ es ∧ k2 = sectZ es) := ⟨hn2, hk2⟩
            have HMU : Hid (mayOk es ts r = true) := may_up HMay.out HU.out
            clear hn2 hk2
            go_upto_region 18 with fail
            refine wp_region_held (S := fun X => (ShB X qs vd vt ds ts) ∧ (CfB X qc r) ∧ (ShB X qt vD vT es ts)) (by kernel_rfl) ?_
            show wpAnyH _ _ _ _ _ 21 (Array.replicate 21 false) _ _
            obtain ⟨u11, hX⟩ : ∃ u11 : World, u11 = { u10 with drawn := u10.drawn + 1 } := ⟨_, rfl⟩
            rw [← hX]
            have bX : Below u10.heap.size u10 u11 := by rw [hX]; exact ⟨rfl, rfl, rfl, Nat.le_refl _, fun _ _ => rfl⟩
            have HW_ : Hid (Below w.heap.size w u11) := belowNext HW.out bX
            clear HW
            have HW := HW_
            clear HW_
            have HM_ : Hid (IntsIn u11 vm ms) := HM.out.later bX
            clear HM
            have HM := HM_
            clear HM_
            have HS_ : Hid (ShB u11 qs vd vt ds ts) := HS.out.later bX
            clear HS
            have HS := HS_
            clear HS_
            have HG_ : Hid (CfB u11 qc r) := HG.out.later bX
            clear HG
            have HG := HG_
            clear HG_
            have HT_ : Hid (ShB u11 qt vD vT es ts) := HT.out.later bX
            clear HT
            have HT := HT_
            clear HT_
            clear bX
            clear hX
            refine takeH (i := 0) (some 113) rfl rfl (by kernel_rfl) (by kernel_rfl) (by kernel_rfl) (fun _ _ _ h => h) (gRun rfl (.bool true) fun _ h => run_mvZ (.tmp 9) rfl (.bool true) rfl) ⟨HS.out, HG.out, HT.out⟩ ?_
            simp only [Act.put, List.setIfInBounds_toArray, List.set_cons_succ, List.set_cons_zero]
            refine takeH (i := 1) (some 114) rfl rfl (by kernel_rfl) (by kernel_rfl) (by kernel_rfl) (fun _ _ _ h => h) (gRun rfl (.bool true) fun _ h => run_mvZ (.tmp 113) rfl (.bool true) rfl) ⟨HS.out, HG.out, HT.out⟩ ?_
            simp only [Act.put, List.setIfInBounds_toArray, List.set_cons_succ, List.set_cons_zero]
            refine takeH (i := 2) (some 115) rfl rfl (by kernel_rfl) (by kernel_rfl) (by kernel_rfl) (fun _ _ _ h => h) (gRun (by kernel_rfl) (.agg ([vD, vT]).toArray) fun _ h => run_loadA ag24 (.tmp 10) rfl qt (0) rfl ([vD, vT]) rfl (fun j v hv => by rw [Nat.zero_add]; exact h.2.2.row.at j v hv)) ⟨HS.out, HG.out, HT.out⟩ ?_
            simp only [Act.put, List.setIfInBounds_toArray, List.set_cons_succ, List.set_cons_zero]
            refine takeH (i := 3) (some 116) rfl rfl (by kernel_rfl) (by kernel_rfl) (by kernel_rfl) (fun _ _ _ h => h) (gRun (by kernel_rfl) (.agg ([.int .i64 r]).toArray) fun _ h => run_loadA ag26 (.tmp 5) rfl qc (0) rfl ([.int .i64 r]) rfl (fun j v hv => by rw [Nat.zero_add]; exact h.2.1.row.at j v hv)) ⟨HS.out, HG.out, HT.out⟩ ?_
            simp only [Act.put, List.setIfInBounds_toArray, List.set_cons_succ, List.set_cons_zero]
            refine oneH (i := 4) (by kernel_rfl) ?_
            refine opCallG (some 117) rfl rfl (by kernel_rfl) 8 _ (run_call eN8 [.tmp 115, .tmp 116] _ rfl [(.agg ([vD, vT]).toArray), (.agg ([.int .i64 r]).toArray)] rfl) ?_
            refine (may_any u11 vD vT es (ts) HT.out.sh r).mono ?_
            rintro e u12 ⟨rfl, bW⟩
            refine ⟨_, rfl, ?_⟩
            rw [HMU.out]
            have HW_ : Hid (Below w.heap.size w u12) := belowNext HW.out bW
            clear HW
            have HW := HW_
            clear HW_
            have HM_ : Hid (IntsIn u12 vm ms) := HM.out.later bW
            clear HM
            have HM := HM_
            clear HM_
            have HS_ : Hid (ShB u12 qs vd vt ds ts) := HS.out.later bW
            clear HS
            have HS := HS_
            clear HS_
            have HG_ : Hid (CfB u12 qc r) := HG.out.later bW
            clear HG
            have HG := HG_
            clear HG_
            have HT_ : Hid (ShB u12 qt vD vT es ts) := HT.out.later bW
            clear HT
            have HT := HT_
            clear HT_
            clear bW
            refine ⟨⟨HS.out, HG.out, HT.out⟩, ?_⟩
            simp only [Act.put, List.setIfInBounds_toArray, List.set_cons_succ, List.set_cons_zero]
            refine takeH (i := 5) (some 118) rfl rfl (by kernel_rfl) (by kernel_rfl) (by kernel_rfl) (fun _ _ _ h => h) (gRun rfl (.bool true) fun _ h => run_pickZ (.tmp 114) (.tmp 117) (.const (.bool false)) rfl true (.bool true) rfl rfl) ⟨HS.out, HG.out, HT.out⟩ ?_
            simp only [Act.put, List.setIfInBounds_toArray, List.set_cons_succ, List.set_cons_zero]
            refine takeH (i := 6) (some 119) rfl rfl (by kernel_rfl) (by kernel_rfl) (by kernel_rfl) (fun _ _ _ h => h) (gRun rfl (.bool true) fun _ h => run_mvZ (.tmp 118) rfl (.bool true) rfl) ⟨HS.out, HG.out, HT.out⟩ ?_
            simp only [Act.put, List.setIfInBounds_toArray, List.set_cons_succ, List.set_cons_zero]
            refine takeH (i := 7) (some 120) rfl rfl (by kernel_rfl) (by kernel_rfl) (by kernel_rfl) (fun _ _ _ h => h) (gRun (by kernel_rfl) (.agg ([vD, vT]).toArray) fun _ h => run_loadA ag24 (.tmp 10) rfl qt (0) rfl ([vD, vT]) rfl (fun j v hv => by rw [Nat.zero_add]; exact h.2.2.row.at j v hv)) ⟨HS.out, HG.out, HT.out⟩ ?_
            simp only [Act.put, List.setIfInBounds_toArray, List.set_cons_succ, List.set_cons_zero]
            refine takeH (i := 9) (some 122) rfl rfl (by kernel_rfl) (by kernel_rfl) (by kernel_rfl) (fun _ _ _ h => h) (gRun (by kernel_rfl) (.agg ([vd, vt]).toArray) fun _ h => run_loadA ag24 (.tmp 4) rfl qs (0) rfl ([vd, vt]) rfl (fun j v hv => by rw [Nat.zero_add]; exact h.1.row.at j v hv)) ⟨HS.out, HG.out, HT.out⟩ ?_
            simp only [Act.put, List.setIfInBounds_toArray, List.set_cons_succ, List.set_cons_zero]
            refine oneH (i := 8) (by kernel_rfl) ?_
            refine opCallG (some 121) rfl rfl (by kernel_rfl) 10 _ (run_call eN10 [.tmp 120] _ rfl [(.agg ([vD, vT]).toArray)] rfl) ?_
            refine (puts_any u12 vD vT es (ts) HT.out.sh).mono ?_
            rintro e u13 ⟨rfl, bW⟩
            refine ⟨_, rfl, ?_⟩
            rw [← HN2.out.1]
            have HW_ : Hid (Below w.heap.size w u13) := belowNext HW.out bW
            clear HW
            have HW := HW_
            clear HW_
            have HM_ : Hid (IntsIn u13 vm ms) := HM.out.later bW
            clear HM
            have HM := HM_
            clear HM_
            have HS_ : Hid (ShB u13 qs vd vt ds ts) := HS.out.later bW
            clear HS
            have HS := HS_
            clear HS_
            have HG_ : Hid (CfB u13 qc r) := HG.out.later bW
            clear HG
            have HG := HG_
            clear HG_
            have HT_ : Hid (ShB u13 qt vD vT es ts) := HT.out.later bW
            clear HT
            have HT := HT_
            clear HT_
            clear bW
            refine ⟨⟨HS.out, HG.out, HT.out⟩, ?_⟩
            simp only [Act.put, List.setIfInBounds_toArray, List.set_cons_succ, List.set_cons_zero]
            refine oneH (i := 10) (by kernel_rfl) ?_
            refine opCallG (some 123) rfl rfl (by kernel_rfl) 10 _ (run_call eN10 [.tmp 122] _ rfl [(.agg ([vd, vt]).toArray)] rfl) ?_
            refine (puts_any u13 vd vt ds ts HS.out.sh).mono ?_
            rintro e u14 ⟨rfl, bW⟩
            refine ⟨_, rfl, ?_⟩
            rw [← HNK.out.1]
            have HW_ : Hid (Below w.heap.size w u14) := belowNext HW.out bW
            clear HW
            have HW := HW_
            clear HW_
            have HM_ : Hid (IntsIn u14 vm ms) := HM.out.later bW
            clear HM
            have HM := HM_
            clear HM_
            have HS_ : Hid (ShB u14 qs vd vt ds ts) := HS.out.later bW
            clear HS
            have HS := HS_
            clear HS_
            have HG_ : Hid (CfB u14 qc r) := HG.out.later bW
            clear HG
            have HG := HG_
            clear HG_
            have HT_ : Hid (ShB u14 qt vD vT es ts) := HT.out.later bW
            clear HT
            have HT := HT_
            clear HT_
            clear bW
            refine ⟨⟨HS.out, HG.out, HT.out⟩, ?_⟩
            simp only [Act.put, List.setIfInBounds_toArray, List.set_cons_succ, List.set_cons_zero]
            refine takeH (i := 11) (some 124) rfl rfl (by kernel_rfl) (by kernel_rfl) (by kernel_rfl) (fun _ _ _ h => h) (gRun (by kernel_rfl) (.bool true) fun _ h => run_geqZ (.tmp 121) (.tmp 123) rfl n2 n rfl rfl true (decide_eq_true nn)) ⟨HS.out, HG.out, HT.out⟩ ?_
            simp only [Act.put, List.setIfInBounds_toArray, List.set_cons_succ, List.set_cons_zero]
            refine takeH (i := 12) (some 125) rfl rfl (by kernel_rfl) (by kernel_rfl) (by kernel_rfl) (fun _ _ _ h => h) (gRun rfl (.bool true) fun _ h => run_pickZ (.tmp 119) (.tmp 124) (.const (.bool false)) rfl true (.bool true) rfl rfl) ⟨HS.out, HG.out, HT.out⟩ ?_
            simp only [Act.put, List.setIfInBounds_toArray, List.set_cons_succ, List.set_cons_zero]
            refine takeH (i := 13) (some 126) rfl rfl (by kernel_rfl) (by kernel_rfl) (by kernel_rfl) (fun _ _ _ h => h) (gRun rfl (.bool true) fun _ h => run_mvZ (.tmp 125) rfl (.bool true) rfl) ⟨HS.out, HG.out, HT.out⟩ ?_
            simp only [Act.put, List.setIfInBounds_toArray, List.set_cons_succ, List.set_cons_zero]
            refine takeH (i := 14) (some 127) rfl rfl (by kernel_rfl) (by kernel_rfl) (by kernel_rfl) (fun _ _ _ h => h) (gRun (by kernel_rfl) (.agg ([vD, vT]).toArray) fun _ h => run_loadA ag24 (.tmp 10) rfl qt (0) rfl ([vD, vT]) rfl (fun j v hv => by rw [Nat.zero_add]; exact h.2.2.row.at j v hv)) ⟨HS.out, HG.out, HT.out⟩ ?_
            simp only [Act.put, List.setIfInBounds_toArray, List.set_cons_succ, List.set_cons_zero]
            refine takeH (i := 16) (some 129) rfl rfl (by kernel_rfl) (by kernel_rfl) (by kernel_rfl) (fun _ _ _ h => h) (gRun (by kernel_rfl) (.agg ([vd, vt]).toArray) fun _ h => run_loadA ag24 (.tmp 4) rfl qs (0) rfl ([vd, vt]) rfl (fun j v hv => by rw [Nat.zero_add]; exact h.1.row.at j v hv)) ⟨HS.out, HG.out, HT.out⟩ ?_
            simp only [Act.put, List.setIfInBounds_toArray, List.set_cons_succ, List.set_cons_zero]
            refine oneH (i := 15) (by kernel_rfl) ?_
            refine opCallG (some 128) rfl rfl (by kernel_rfl) 12 _ (run_call eN12 [.tmp 127] _ rfl [(.agg ([vD, vT]).toArray)] rfl) ?_
            refine (sectors_any u14 vD vT es (ts) HT.out.sh).mono ?_
            rintro e u15 ⟨rfl, bW⟩
            refine ⟨_, rfl, ?_⟩
            rw [← HN2.out.2]
            have HW_ : Hid (Below w.heap.size w u15) := belowNext HW.out bW
            clear HW
            have HW := HW_
            clear HW_
            have HM_ : Hid (IntsIn u15 vm ms) := HM.out.later bW
            clear HM
            have HM := HM_
            clear HM_
            have HS_ : Hid (ShB u15 qs vd vt ds ts) := HS.out.later bW
            clear HS
            have HS := HS_
            clear HS_
            have HG_ : Hid (CfB u15 qc r) := HG.out.later bW
            clear HG
            have HG := HG_
            clear HG_
            have HT_ : Hid (ShB u15 qt vD vT es ts) := HT.out.later bW
            clear HT
            have HT := HT_
            clear HT_
            clear bW
            refine ⟨⟨HS.out, HG.out, HT.out⟩, ?_⟩
            simp only [Act.put, List.setIfInBounds_toArray, List.set_cons_succ, List.set_cons_zero]
            refine oneH (i := 17) (by kernel_rfl) ?_
            refine opCallG (some 130) rfl rfl (by kernel_rfl) 12 _ (run_call eN12 [.tmp 129] _ rfl [(.agg ([vd, vt]).toArray)] rfl) ?_
            refine (sectors_any u15 vd vt ds ts HS.out.sh).mono ?_
            rintro e u16 ⟨rfl, bW⟩
            refine ⟨_, rfl, ?_⟩
            rw [← HNK.out.2]
            have HW_ : Hid (Below w.heap.size w u16) := belowNext HW.out bW
            clear HW
            have HW := HW_
            clear HW_
            have HM_ : Hid (IntsIn u16 vm ms) := HM.out.later bW
            clear HM
            have HM := HM_
            clear HM_
            have HS_ : Hid (ShB u16 qs vd vt ds ts) := HS.out.later bW
            clear HS
            have HS := HS_
            clear HS_
            have HG_ : Hid (CfB u16 qc r) := HG.out.later bW
            clear HG
            have HG := HG_
            clear HG_
            have HT_ : Hid (ShB u16 qt vD vT es ts) := HT.out.later bW
            clear HT
            have HT := HT_
            clear HT_
            clear bW
            refine ⟨⟨HS.out, HG.out, HT.out⟩, ?_⟩
            simp only [Act.put, List.setIfInBounds_toArray, List.set_cons_succ, List.set_cons_zero]
            refine takeH (i := 18) (some 131) rfl rfl (by kernel_rfl) (by kernel_rfl) (by kernel_rfl) (fun _ _ _ h => h) (gRun (by kernel_rfl) (.bool true) fun _ h => run_geqZ (.tmp 128) (.tmp 130) rfl k2 k rfl rfl true (decide_eq_true kk)) ⟨HS.out, HG.out, HT.out⟩ ?_
            simp only [Act.put, List.setIfInBounds_toArray, List.set_cons_succ, List.set_cons_zero]
            refine takeH (i := 19) (some 132) rfl rfl (by kernel_rfl) (by kernel_rfl) (by kernel_rfl) (fun _ _ _ h => h) (gRun rfl (.bool true) fun _ h => run_pickZ (.tmp 126) (.tmp 131) (.const (.bool false)) rfl true (.bool true) rfl rfl) ⟨HS.out, HG.out, HT.out⟩ ?_
            simp only [Act.put, List.setIfInBounds_toArray, List.set_cons_succ, List.set_cons_zero]
            refine takeH (i := 20) (some 8) rfl rfl (by kernel_rfl) (by kernel_rfl) (by kernel_rfl) (fun _ _ _ h => h) (gRun rfl (.bool true) fun _ h => run_asZ (.tmp 132) rfl (.bool true) rfl) ⟨HS.out, HG.out, HT.out⟩ ?_
            simp only [Act.put, List.setIfInBounds_toArray, List.set_cons_succ, List.set_cons_zero]
            refine wpAnyH_done (by kernel_rfl) ?_ _
            go_wp2_with fail
            rw [HPQ.out]
            exact ⟨rfl, HW.out⟩
      · go_upto_region 12 with fail
        refine wp_region_lit ?_
        refine wl rfl (.int .i64 (i : Nat)) _ (run_mvZ (.tmp 11) rfl (.int .i64 (i : Nat)) rfl) ?_
        simp only [Act.put, List.setIfInBounds_toArray, List.set_cons_succ, List.set_cons_zero]
        refine wl rfl (.pointer (some ⟨qt, 0 + 0, none⟩)) _ (run_fieldOp' f24_0 (.tmp 10) rfl qt (0) rfl) ?_
        simp only [Act.put, List.setIfInBounds_toArray, List.set_cons_succ, List.set_cons_zero]
        refine wl rfl vD _ (run_load1 o22 (.tmp 51) rfl qt (0 + 0) rfl vD (OS.out.row.at (0 + 0) _ rfl)) ?_
        simp only [Act.put, List.setIfInBounds_toArray, List.set_cons_succ, List.set_cons_zero]
        refine wl rfl (.int .i64 (es.length : Nat)) _ (run_lenI (.tmp 52) rfl vD es rfl OS.out.d.ints) ?_
        simp only [Act.put, List.setIfInBounds_toArray, List.set_cons_succ, List.set_cons_zero]
        refine wl rfl (.bool false) _ (run_lssZ (.tmp 50) (.tmp 53) rfl (i : Nat) (es.length : Nat) rfl rfl false (decide_eq_false (by have := HE.out; omega))) ?_
        simp only [Act.put, List.setIfInBounds_toArray, List.set_cons_succ, List.set_cons_zero]
        refine wl rfl (.bool false) _ (run_mvZ (.tmp 54) rfl (.bool false) rfl) ?_
        simp only [Act.put, List.setIfInBounds_toArray, List.set_cons_succ, List.set_cons_zero]
        with_reducible refine wpList_skip (by kernel_rfl) ?_
        simp only [Act.put, List.setIfInBounds_toArray, List.set_cons_succ, List.set_cons_zero]
        with_reducible refine wpList_skip (by kernel_rfl) ?_
        simp only [Act.put, List.setIfInBounds_toArray, List.set_cons_succ, List.set_cons_zero]
        with_reducible refine wpList_skip (by kernel_rfl) ?_
        simp only [Act.put, List.setIfInBounds_toArray, List.set_cons_succ, List.set_cons_zero]
        with_reducible refine wpList_skip (by kernel_rfl) ?_
        simp only [Act.put, List.setIfInBounds_toArray, List.set_cons_succ, List.set_cons_zero]
        refine wl rfl (.bool false) _ (run_pickZ (.tmp 55) (.tmp 59) (.const (.bool false)) rfl false (.bool false) rfl rfl) ?_
        simp only [Act.put, List.setIfInBounds_toArray, List.set_cons_succ, List.set_cons_zero]
        refine wpList_nil ?_
        by_cases g9 : ts.length < 9
        · by_cases z12 : 12 ≤ z
          · by_cases z96 : z ≤ 4096
            · go_upto_region 16 with fail
              refine wp_region_lit ?_
              refine wl rfl (.pointer (some ⟨qt, 0 + 1, none⟩)) _ (run_fieldOp' f24_1 (.tmp 10) rfl qt (0) rfl) ?_
              simp only [Act.put, List.setIfInBounds_toArray, List.set_cons_succ, List.set_cons_zero]
              refine wl rfl vT _ (run_load1 o22 (.tmp 95) rfl qt (0 + 1) rfl vT (OS.out.row.at (0 + 1) _ rfl)) ?_
              simp only [Act.put, List.setIfInBounds_toArray, List.set_cons_succ, List.set_cons_zero]
              refine wl rfl (.int .i64 (ts.length : Nat)) _ (run_lenI (.tmp 96) rfl vT ts rfl OS.out.t.ints) ?_
              simp only [Act.put, List.setIfInBounds_toArray, List.set_cons_succ, List.set_cons_zero]
              refine wl rfl (.bool true) _ (run_lssZ (.tmp 97) (.const (.int .i64 9)) rfl (ts.length : Nat) 9 rfl rfl true (decide_eq_true (by omega))) ?_
              simp only [Act.put, List.setIfInBounds_toArray, List.set_cons_succ, List.set_cons_zero]
              refine wl rfl (.bool true) _ (run_mvZ (.tmp 98) rfl (.bool true) rfl) ?_
              simp only [Act.put, List.setIfInBounds_toArray, List.set_cons_succ, List.set_cons_zero]
              refine wl (by kernel_rfl) (.int .i64 z) _ (run_mvZ (.tmp 3) rfl (.int .i64 z) rfl) ?_
              simp only [Act.put, List.setIfInBounds_toArray, List.set_cons_succ, List.set_cons_zero]
              refine wl (by kernel_rfl) (.bool true) _ (run_geqZ (.tmp 100) (.const (.int .i64 12)) rfl z 12 rfl rfl true (decide_eq_true (by omega))) ?_
              simp only [Act.put, List.setIfInBounds_toArray, List.set_cons_succ, List.set_cons_zero]
              refine wl rfl (.bool true) _ (run_pickZ (.tmp 99) (.tmp 101) (.const (.bool false)) rfl true (.bool true) rfl rfl) ?_
              simp only [Act.put, List.setIfInBounds_toArray, List.set_cons_succ, List.set_cons_zero]
              refine wl rfl (.bool true) _ (run_mvZ (.tmp 102) rfl (.bool true) rfl) ?_
              simp only [Act.put, List.setIfInBounds_toArray, List.set_cons_succ, List.set_cons_zero]
              refine wl (by kernel_rfl) (.int .i64 z) _ (run_mvZ (.tmp 3) rfl (.int .i64 z) rfl) ?_
              simp only [Act.put, List.setIfInBounds_toArray, List.set_cons_succ, List.set_cons_zero]
              refine wl (by kernel_rfl) (.bool true) _ (run_leqZ (.tmp 104) (.const (.int .i64 4096)) rfl z 4096 rfl rfl true (decide_eq_true (by omega))) ?_
              simp only [Act.put, List.setIfInBounds_toArray, List.set_cons_succ, List.set_cons_zero]
              refine wl rfl (.bool true) _ (run_pickZ (.tmp 103) (.tmp 105) (.const (.bool false)) rfl true (.bool true) rfl rfl) ?_
              simp only [Act.put, List.setIfInBounds_toArray, List.set_cons_succ, List.set_cons_zero]
              refine wpList_nil ?_
              go_upto_region 17 with fail
              refine wp_region_lit ?_
              refine wl rfl (.pointer (some ⟨qt, 0 + 1, none⟩)) _ (run_fieldOp' f24_1 (.tmp 10) rfl qt (0) rfl) ?_
              simp only [Act.put, List.setIfInBounds_toArray, List.set_cons_succ, List.set_cons_zero]
              refine wl rfl vT _ (run_load1 o22 (.tmp 107) rfl qt (0 + 1) rfl vT (OS.out.row.at (0 + 1) _ rfl)) ?_
              simp only [Act.put, List.setIfInBounds_toArray, List.set_cons_succ, List.set_cons_zero]
              refine wl rfl (.int .i64 z) _ (run_mvZ (.tmp 3) rfl (.int .i64 z) rfl) ?_
              simp only [Act.put, List.setIfInBounds_toArray, List.set_cons_succ, List.set_cons_zero]
              refine wl rfl _ _ (run_litOne (.tmp 109) rfl z rfl) ?_
              have i_ := IntsIn.lit u10 [z] (fun y hy => by rw [List.mem_singleton.1 hy]; exact HZ.out) (by simp)
              have bW := below_alloc u10 (.cells (([z] : List Int).map (Value.int .i64)).toArray 3)
              obtain ⟨u11, hW_⟩ : ∃ W, W = u10.alloc (.cells (([z] : List Int).map (Value.int .i64)).toArray 3) := ⟨_, rfl⟩
              obtain ⟨vL, hv_⟩ : ∃ v, v = Value.slice (some ⟨u10.heap.size, 0, none⟩) 1 1 := ⟨_, rfl⟩
              have i2_ : IntsIn u11 vL [z] := by rw [hW_, hv_]; exact i_
              rw [← hW_] at bW
              rw [← hW_, ← hv_]
              clear hW_ hv_ i_
              have HW_ : Hid (Below w.heap.size w u11) := belowNext HW.out bW
              clear HW
              have HW := HW_
              clear HW_
              have HM_ : Hid (IntsIn u11 vm ms) := HM.out.later bW
              clear HM
              have HM := HM_
              clear HM_
              have HS_ : Hid (ShB u11 qs vd vt ds ts) := HS.out.later bW
              clear HS
              have HS := HS_
              clear HS_
              have HG_ : Hid (CfB u11 qc r) := HG.out.later bW
              clear HG
              have HG := HG_
              clear HG_
              have HBr_ : Hid (Below u8.heap.size u8 u11) := belowNext HBr.out bW
              clear HBr
              have HBr := HBr_
              clear HBr_
              have OS_ : Hid (OwnSh u11 u8.heap.size qt vD vT es ts) := OS.out.later bW
              clear OS
              have OS := OS_
              clear OS_
              have HL : Hid (IntsIn u11 vL [z]) := i2_
              clear i2_ bW
              simp only [Act.put, List.setIfInBounds_toArray, List.set_cons_succ, List.set_cons_zero]
              obtain ⟨vN, u12, ra_, rq_, od_, ot_, bb_⟩ := OS.out.app 22 vL z HL.out (by omega)
              refine wl rfl vN u12 (run_append (.tmp 108) (.tmp 110) rfl vT vL vN rfl rfl ra_) ?_
              have hb_ := HBr.out.trans bb_
              have ge_ := OS.out.ge
              clear ra_ bb_ HS HG HM HW HBr OS HL
              simp only [Act.put, List.setIfInBounds_toArray, List.set_cons_succ, List.set_cons_zero]
              refine wl rfl (.pointer (some ⟨qt, 0 + 1, none⟩)) _ (run_fieldOp' f24_1 (.tmp 10) rfl qt (0) rfl) ?_
              simp only [Act.put, List.setIfInBounds_toArray, List.set_cons_succ, List.set_cons_zero]
              have la_ := app_laid rq_ od_ ot_ ge_
              refine wlS rfl rfl (u12.setCell ⟨qt, 0 + 1, none⟩ vN) (run_putRow s22 (.tmp 112) (.tmp 111) rfl qt (0 + 1) 24 [vD, vT] rfl vN rfl ⟨ot_.ints.isSlice.1, ot_.ints.one⟩ rq_ (by simp)) ?_
              obtain ⟨u13, hW_⟩ : ∃ U, U = u12.setCell ⟨qt, 0 + 1, none⟩ vN := ⟨_, rfl⟩
              rw [← hW_] at la_ ⊢
              have hc_ := hb_.trans la_.2
              have HT : Hid (ShB u13 qt vD vN es (ts ++ [z])) := la_.1
              clear hW_ rq_ od_ ot_ ge_ hb_ la_
              have HS : Hid (ShB u13 qs vd vt ds ts) := HS0.out.later hc_
              have HG : Hid (CfB u13 qc r) := HG0.out.later hc_
              have HW : Hid (Below w.heap.size w u13) := belowNext HW0.out hc_
              clear hc_
              refine wpList_nil ?_
              obtain ⟨n2, hn2⟩ : ∃ x, x = putsZ es := ⟨_, rfl⟩
              obtain ⟨k2, hk2⟩ : ∃ x, x = sectZ es := ⟨_, rfl⟩
              have nn : n ≤ n2 := by rw [hn2, HNK.out.1]; exact puts_up H3.out HU.out HP1.out.1
              have kk : k ≤ k2 := by rw [hk2, HNK.out.2]; exact sect_up H3.out HU.out HP1.out.2
              have HN2 : Hid (n2 = putsZ es ∧ k2 = sectZ es) := ⟨hn2, hk2⟩
              have HMU : Hid (mayOk es (ts ++ [z]) r = true) := may_app (may_up HMay.out HU.out) g9 z12 z96
              clear hn2 hk2
              go_upto_region 18 with fail
              refine wp_region_held (S := fun X => (ShB X qs vd vt ds ts) ∧ (CfB X qc r) ∧ (ShB X qt vD vN es (ts ++ [z]))) (by kernel_rfl) ?_
              show wpAnyH _ _ _ _ _ 21 (Array.replicate 21 false) _ _
              obtain ⟨u14, hX⟩ : ∃ u14 : World, u14 = { u13 with drawn := u13.drawn + 1 } := ⟨_, rfl⟩
              rw [← hX]
              have bX : Below u13.heap.size u13 u14 := by rw [hX]; exact ⟨rfl, rfl, rfl, Nat.le_refl _, fun _ _ => rfl⟩
              have HS_ : Hid (ShB u14 qs vd vt ds ts) := HS.out.later bX
              clear HS
              have HS := HS_
              clear HS_
              have HG_ : Hid (CfB u14 qc r) := HG.out.later bX
              clear HG
              have HG := HG_
              clear HG_
              have HW_ : Hid (Below w.heap.size w u14) := belowNext HW.out bX
              clear HW
              have HW := HW_
              clear HW_
              have HT_ : Hid (ShB u14 qt vD vN es (ts ++ [z])) := HT.out.later bX
              clear HT
              have HT := HT_
              clear HT_
              clear bX
              clear hX
              refine takeH (i := 0) (some 113) rfl rfl (by kernel_rfl) (by kernel_rfl) (by kernel_rfl) (fun _ _ _ h => h) (gRun rfl (.bool true) fun _ h => run_mvZ (.tmp 9) rfl (.bool true) rfl) ⟨HS.out, HG.out, HT.out⟩ ?_
              simp only [Act.put, List.setIfInBounds_toArray, List.set_cons_succ, List.set_cons_zero]
              refine takeH (i := 1) (some 114) rfl rfl (by kernel_rfl) (by kernel_rfl) (by kernel_rfl) (fun _ _ _ h => h) (gRun rfl (.bool true) fun _ h => run_mvZ (.tmp 113) rfl (.bool true) rfl) ⟨HS.out, HG.out, HT.out⟩ ?_
              simp only [Act.put, List.setIfInBounds_toArray, List.set_cons_succ, List.set_cons_zero]
              refine takeH (i := 2) (some 115) rfl rfl (by kernel_rfl) (by kernel_rfl) (by kernel_rfl) (fun _ _ _ h => h) (gRun (by kernel_rfl) (.agg ([vD, vN]).toArray) fun _ h => run_loadA ag24 (.tmp 10) rfl qt (0) rfl ([vD, vN]) rfl (fun j v hv => by rw [Nat.zero_add]; exact h.2.2.row.at j v hv)) ⟨HS.out, HG.out, HT.out⟩ ?_
              simp only [Act.put, List.setIfInBounds_toArray, List.set_cons_succ, List.set_cons_zero]
              refine takeH (i := 3) (some 116) rfl rfl (by kernel_rfl) (by kernel_rfl) (by kernel_rfl) (fun _ _ _ h => h) (gRun (by kernel_rfl) (.agg ([.int .i64 r]).toArray) fun _ h => run_loadA ag26 (.tmp 5) rfl qc (0) rfl ([.int .i64 r]) rfl (fun j v hv => by rw [Nat.zero_add]; exact h.2.1.row.at j v hv)) ⟨HS.out, HG.out, HT.out⟩ ?_
              simp only [Act.put, List.setIfInBounds_toArray, List.set_cons_succ, List.set_cons_zero]
              refine oneH (i := 4) (by kernel_rfl) ?_
              refine opCallG (some 117) rfl rfl (by kernel_rfl) 8 _ (run_call eN8 [.tmp 115, .tmp 116] _ rfl [(.agg ([vD, vN]).toArray), (.agg ([.int .i64 r]).toArray)] rfl) ?_
              refine (may_any u14 vD vN es ((ts ++ [z])) HT.out.sh r).mono ?_
              rintro e u15 ⟨rfl, bW⟩
              refine ⟨_, rfl, ?_⟩
              rw [HMU.out]
              have HS_ : Hid (ShB u15 qs vd vt ds ts) := HS.out.later bW
              clear HS
              have HS := HS_
              clear HS_
              have HG_ : Hid (CfB u15 qc r) := HG.out.later bW
              clear HG
              have HG := HG_
              clear HG_
              have HW_ : Hid (Below w.heap.size w u15) := belowNext HW.out bW
              clear HW
              have HW := HW_
              clear HW_
              have HT_ : Hid (ShB u15 qt vD vN es (ts ++ [z])) := HT.out.later bW
              clear HT
              have HT := HT_
              clear HT_
              clear bW
              refine ⟨⟨HS.out, HG.out, HT.out⟩, ?_⟩
              simp only [Act.put, List.setIfInBounds_toArray, List.set_cons_succ, List.set_cons_zero]
              refine takeH (i := 5) (some 118) rfl rfl (by kernel_rfl) (by kernel_rfl) (by kernel_rfl) (fun _ _ _ h => h) (gRun rfl (.bool true) fun _ h => run_pickZ (.tmp 114) (.tmp 117) (.const (.bool false)) rfl true (.bool true) rfl rfl) ⟨HS.out, HG.out, HT.out⟩ ?_
              simp only [Act.put, List.setIfInBounds_toArray, List.set_cons_succ, List.set_cons_zero]
              refine takeH (i := 6) (some 119) rfl rfl (by kernel_rfl) (by kernel_rfl) (by kernel_rfl) (fun _ _ _ h => h) (gRun rfl (.bool true) fun _ h => run_mvZ (.tmp 118) rfl (.bool true) rfl) ⟨HS.out, HG.out, HT.out⟩ ?_
              simp only [Act.put, List.setIfInBounds_toArray, List.set_cons_succ, List.set_cons_zero]
              refine takeH (i := 7) (some 120) rfl rfl (by kernel_rfl) (by kernel_rfl) (by kernel_rfl) (fun _ _ _ h => h) (gRun (by kernel_rfl) (.agg ([vD, vN]).toArray) fun _ h => run_loadA ag24 (.tmp 10) rfl qt (0) rfl ([vD, vN]) rfl (fun j v hv => by rw [Nat.zero_add]; exact h.2.2.row.at j v hv)) ⟨HS.out, HG.out, HT.out⟩ ?_
              simp only [Act.put, List.setIfInBounds_toArray, List.set_cons_succ, List.set_cons_zero]
              refine takeH (i := 9) (some 122) rfl rfl (by kernel_rfl) (by kernel_rfl) (by kernel_rfl) (fun _ _ _ h => h) (gRun (by kernel_rfl) (.agg ([vd, vt]).toArray) fun _ h => run_loadA ag24 (.tmp 4) rfl qs (0) rfl ([vd, vt]) rfl (fun j v hv => by rw [Nat.zero_add]; exact h.1.row.at j v hv)) ⟨HS.out, HG.out, HT.out⟩ ?_
              simp only [Act.put, List.setIfInBounds_toArray, List.set_cons_succ, List.set_cons_zero]
              refine oneH (i := 8) (by kernel_rfl) ?_
              refine opCallG (some 121) rfl rfl (by kernel_rfl) 10 _ (run_call eN10 [.tmp 120] _ rfl [(.agg ([vD, vN]).toArray)] rfl) ?_
              refine (puts_any u15 vD vN es ((ts ++ [z])) HT.out.sh).mono ?_
              rintro e u16 ⟨rfl, bW⟩
              refine ⟨_, rfl, ?_⟩
              rw [← HN2.out.1]
              have HS_ : Hid (ShB u16 qs vd vt ds ts) := HS.out.later bW
              clear HS
              have HS := HS_
              clear HS_
              have HG_ : Hid (CfB u16 qc r) := HG.out.later bW
              clear HG
              have HG := HG_
              clear HG_
              have HW_ : Hid (Below w.heap.size w u16) := belowNext HW.out bW
              clear HW
              have HW := HW_
              clear HW_
              have HT_ : Hid (ShB u16 qt vD vN es (ts ++ [z])) := HT.out.later bW
              clear HT
              have HT := HT_
              clear HT_
              clear bW
              refine ⟨⟨HS.out, HG.out, HT.out⟩, ?_⟩
              simp only [Act.put, List.setIfInBounds_toArray, List.set_cons_succ, List.set_cons_zero]
              refine oneH (i := 10) (by kernel_rfl) ?_
              refine opCallG (some 123) rfl rfl (by kernel_rfl) 10 _ (run_call eN10 [.tmp 122] _ rfl [(.agg ([vd, vt]).toArray)] rfl) ?_
              refine (puts_any u16 vd vt ds ts HS.out.sh).mono ?_
              rintro e u17 ⟨rfl, bW⟩
              refine ⟨_, rfl, ?_⟩
              rw [← HNK.out.1]
              have HS_ : Hid (ShB u17 qs vd vt ds ts) := HS.out.later bW
              clear HS
              have HS := HS_
              clear HS_
              have HG_ : Hid (CfB u17 qc r) := HG.out.later bW
              clear HG
              have HG := HG_
              clear HG_
              have HW_ : Hid (Below w.heap.size w u17) := belowNext HW.out bW
              clear HW
              have HW := HW_
              clear HW_
              have HT_ : Hid (ShB u17 qt vD vN es (ts ++ [z])) := HT.out.later bW
              clear HT
              have HT := HT_
              clear HT_
              clear bW
              refine ⟨⟨HS.out, HG.out, HT.out⟩, ?_⟩
              simp only [Act.put, List.setIfInBounds_toArray, List.set_cons_succ, List.set_cons_zero]
              refine takeH (i := 11) (some 124) rfl rfl (by kernel_rfl) (by kernel_rfl) (by kernel_rfl) (fun _ _ _ h => h) (gRun (by kernel_rfl) (.bool true) fun _ h => run_geqZ (.tmp 121) (.tmp 123) rfl n2 n rfl rfl true (decide_eq_true nn)) ⟨HS.out, HG.out, HT.out⟩ ?_
              simp only [Act.put, List.setIfInBounds_toArray, List.set_cons_succ, List.set_cons_zero]
              refine takeH (i := 12) (some 125) rfl rfl (by kernel_rfl) (by kernel_rfl) (by kernel_rfl) (fun _ _ _ h => h) (gRun rfl (.bool true) fun _ h => run_pickZ (.tmp 119) (.tmp 124) (.const (.bool false)) rfl true (.bool true) rfl rfl) ⟨HS.out, HG.out, HT.out⟩ ?_
              simp only [Act.put, List.setIfInBounds_toArray, List.set_cons_succ, List.set_cons_zero]
              refine takeH (i := 13) (some 126) rfl rfl (by kernel_rfl) (by kernel_rfl) (by kernel_rfl) (fun _ _ _ h => h) (gRun rfl (.bool true) fun _ h => run_mvZ (.tmp 125) rfl (.bool true) rfl) ⟨HS.out, HG.out, HT.out⟩ ?_
              simp only [Act.put, List.setIfInBounds_toArray, List.set_cons_succ, List.set_cons_zero]
              refine takeH (i := 14) (some 127) rfl rfl (by kernel_rfl) (by kernel_rfl) (by kernel_rfl) (fun _ _ _ h => h) (gRun (by kernel_rfl) (.agg ([vD, vN]).toArray) fun _ h => run_loadA ag24 (.tmp 10) rfl qt (0) rfl ([vD, vN]) rfl (fun j v hv => by rw [Nat.zero_add]; exact h.2.2.row.at j v hv)) ⟨HS.out, HG.out, HT.out⟩ ?_
              simp only [Act.put, List.setIfInBounds_toArray, List.set_cons_succ, List.set_cons_zero]
              refine takeH (i := 16) (some 129) rfl rfl (by kernel_rfl) (by kernel_rfl) (by kernel_rfl) (fun _ _ _ h => h) (gRun (by kernel_rfl) (.agg ([vd, vt]).toArray) fun _ h => run_loadA ag24 (.tmp 4) rfl qs (0) rfl ([vd, vt]) rfl (fun j v hv => by rw [Nat.zero_add]; exact h.1.row.at j v hv)) ⟨HS.out, HG.out, HT.out⟩ ?_
              simp only [Act.put, List.setIfInBounds_toArray, List.set_cons_succ, List.set_cons_zero]
              refine oneH (i := 15) (by kernel_rfl) ?_
              refine opCallG (some 128) rfl rfl (by kernel_rfl) 12 _ (run_call eN12 [.tmp 127] _ rfl [(.agg ([vD, vN]).toArray)] rfl) ?_
              refine (sectors_any u17 vD vN es ((ts ++ [z])) HT.out.sh).mono ?_
              rintro e u18 ⟨rfl, bW⟩
              refine ⟨_, rfl, ?_⟩
              rw [← HN2.out.2]
              have HS_ : Hid (ShB u18 qs vd vt ds ts) := HS.out.later bW
              clear HS
              have HS := HS_
              clear HS_
              have HG_ : Hid (CfB u18 qc r) := HG.out.later bW
              clear HG
              have HG := HG_
              clear HG_
              have HW_ : Hid (Below w.heap.size w u18) := belowNext HW.out bW
              clear HW
              have HW := HW_
              clear HW_
              have HT_ : Hid (ShB u18 qt vD vN es (ts ++ [z])) := HT.out.later bW
              clear HT
              have HT := HT_
              clear HT_
              clear bW
              refine ⟨⟨HS.out, HG.out, HT.out⟩, ?_⟩
              simp only [Act.put, List.setIfInBounds_toArray, List.set_cons_succ, List.set_cons_zero]
              refine oneH (i := 17) (by kernel_rfl) ?_
              refine opCallG (some 130) rfl rfl (by kernel_rfl) 12 _ (run_call eN12 [.tmp 129] _ rfl [(.agg ([vd, vt]).toArray)] rfl) ?_
              refine (sectors_any u18 vd vt ds ts HS.out.sh).mono ?_
              rintro e u19 ⟨rfl, bW⟩
              refine ⟨_, rfl, ?_⟩
              rw [← HNK.out.2]
              have HS_ : Hid (ShB u19 qs vd vt ds ts) := HS.out.later bW
              clear HS
              have HS := HS_
              clear HS_
              have HG_ : Hid (CfB u19 qc r) := HG.out.later bW
              clear HG
              have HG := HG_
              clear HG_
              have HW_ : Hid (Below w.heap.size w u19) := belowNext HW.out bW
              clear HW
              have HW := HW_
              clear HW_
              have HT_ : Hid (ShB u19 qt vD vN es (ts ++ [z])) := HT.out.later bW
              clear HT
              have HT := HT_
              clear HT_
              clear bW
              refine ⟨⟨HS.out, HG.out, HT.out⟩, ?_⟩
              simp only [Act.put, List.setIfInBounds_toArray, List.set_cons_succ, List.set_cons_zero]
              refine takeH (i := 18) (some 131) rfl rfl (by kernel_rfl) (by kernel_rfl) (by kernel_rfl) (fun _ _ _ h => h) (gRun (by kernel_rfl) (.bool true) fun _ h => run_geqZ (.tmp 128) (.tmp 130) rfl k2 k rfl rfl true (decide_eq_true kk)) ⟨HS.out, HG.out, HT.out⟩ ?_
              simp only [Act.put, List.setIfInBounds_toArray, List.set_cons_succ, List.set_cons_zero]
              refine takeH (i := 19) (some 132) rfl rfl (by kernel_rfl) (by kernel_rfl) (by kernel_rfl) (fun _ _ _ h => h) (gRun rfl (.bool true) fun _ h => run_pickZ (.tmp 126) (.tmp 131) (.const (.bool false)) rfl true (.bool true) rfl rfl) ⟨HS.out, HG.out, HT.out⟩ ?_
              simp only [Act.put, List.setIfInBounds_toArray, List.set_cons_succ, List.set_cons_zero]
              refine takeH (i := 20) (some 8) rfl rfl (by kernel_rfl) (by kernel_rfl) (by kernel_rfl) (fun _ _ _ h => h) (gRun rfl (.bool true) fun _ h => run_asZ (.tmp 132) rfl (.bool true) rfl) ⟨HS.out, HG.out, HT.out⟩ ?_
              simp only [Act.put, List.setIfInBounds_toArray, List.set_cons_succ, List.set_cons_zero]
              refine wpAnyH_done (by kernel_rfl) ?_ _
              go_wp2_with fail
              rw [HPQ.out]
              exact ⟨rfl, HW.out⟩
            · go_upto_region 16 with fail
              refine wp_region_lit ?_
              refine wl rfl (.pointer (some ⟨qt, 0 + 1, none⟩)) _ (run_fieldOp' f24_1 (.tmp 10) rfl qt (0) rfl) ?_
              simp only [Act.put, List.setIfInBounds_toArray, List.set_cons_succ, List.set_cons_zero]
              refine wl rfl vT _ (run_load1 o22 (.tmp 95) rfl qt (0 + 1) rfl vT (OS.out.row.at (0 + 1) _ rfl)) ?_
              simp only [Act.put, List.setIfInBounds_toArray, List.set_cons_succ, List.set_cons_zero]
              refine wl rfl (.int .i64 (ts.length : Nat)) _ (run_lenI (.tmp 96) rfl vT ts rfl OS.out.t.ints) ?_
              simp only [Act.put, List.setIfInBounds_toArray, List.set_cons_succ, List.set_cons_zero]
              refine wl rfl (.bool true) _ (run_lssZ (.tmp 97) (.const (.int .i64 9)) rfl (ts.length : Nat) 9 rfl rfl true (decide_eq_true (by omega))) ?_
              simp only [Act.put, List.setIfInBounds_toArray, List.set_cons_succ, List.set_cons_zero]
              refine wl rfl (.bool true) _ (run_mvZ (.tmp 98) rfl (.bool true) rfl) ?_
              simp only [Act.put, List.setIfInBounds_toArray, List.set_cons_succ, List.set_cons_zero]
              refine wl (by kernel_rfl) (.int .i64 z) _ (run_mvZ (.tmp 3) rfl (.int .i64 z) rfl) ?_
              simp only [Act.put, List.setIfInBounds_toArray, List.set_cons_succ, List.set_cons_zero]
              refine wl (by kernel_rfl) (.bool true) _ (run_geqZ (.tmp 100) (.const (.int .i64 12)) rfl z 12 rfl rfl true (decide_eq_true (by omega))) ?_
              simp only [Act.put, List.setIfInBounds_toArray, List.set_cons_succ, List.set_cons_zero]
              refine wl rfl (.bool true) _ (run_pickZ (.tmp 99) (.tmp 101) (.const (.bool false)) rfl true (.bool true) rfl rfl) ?_
              simp only [Act.put, List.setIfInBounds_toArray, List.set_cons_succ, List.set_cons_zero]
              refine wl rfl (.bool true) _ (run_mvZ (.tmp 102) rfl (.bool true) rfl) ?_
              simp only [Act.put, List.setIfInBounds_toArray, List.set_cons_succ, List.set_cons_zero]
              refine wl (by kernel_rfl) (.int .i64 z) _ (run_mvZ (.tmp 3) rfl (.int .i64 z) rfl) ?_
              simp only [Act.put, List.setIfInBounds_toArray, List.set_cons_succ, List.set_cons_zero]
              refine wl (by kernel_rfl) (.bool false) _ (run_leqZ (.tmp 104) (.const (.int .i64 4096)) rfl z 4096 rfl rfl false (decide_eq_false (by omega))) ?_
              simp only [Act.put, List.setIfInBounds_toArray, List.set_cons_succ, List.set_cons_zero]
              refine wl rfl (.bool false) _ (run_pickZ (.tmp 103) (.tmp 105) (.const (.bool false)) rfl true (.bool false) rfl rfl) ?_
              simp only [Act.put, List.setIfInBounds_toArray, List.set_cons_succ, List.set_cons_zero]
              refine wpList_nil ?_
              have HT : Hid (ShB u10 qt vD vT es ts) := ⟨OS.out.row, OS.out.d.ints, OS.out.t.ints⟩
              clear HBr
              clear OS
              obtain ⟨n2, hn2⟩ : ∃ x, x = putsZ es := ⟨_, rfl⟩
              obtain ⟨k2, hk2⟩ : ∃ x, x = sectZ es := ⟨_, rfl⟩
              have nn : n ≤ n2 := by rw [hn2, HNK.out.1]; exact puts_up H3.out HU.out HP1.out.1
              have kk : k ≤ k2 := by rw [hk2, HNK.out.2]; exact sect_up H3.out HU.out HP1.out.2
              have HN2 : Hid (n2 = putsZ es ∧ k2 = sectZ es) := ⟨hn2, hk2⟩
              have HMU : Hid (mayOk es ts r = true) := may_up HMay.out HU.out
              clear hn2 hk2
              go_upto_region 18 with fail
              refine wp_region_held (S := fun X => (ShB X qs vd vt ds ts) ∧ (CfB X qc r) ∧ (ShB X qt vD vT es ts)) (by kernel_rfl) ?_
              show wpAnyH _ _ _ _ _ 21 (Array.replicate 21 false) _ _
              obtain ⟨u11, hX⟩ : ∃ u11 : World, u11 = { u10 with drawn := u10.drawn + 1 } := ⟨_, rfl⟩
              rw [← hX]
              have bX : Below u10.heap.size u10 u11 := by rw [hX]; exact ⟨rfl, rfl, rfl, Nat.le_refl _, fun _ _ => rfl⟩
              have HW_ : Hid (Below w.heap.size w u11) := belowNext HW.out bX
              clear HW
              have HW := HW_
              clear HW_
              have HM_ : Hid (IntsIn u11 vm ms) := HM.out.later bX
              clear HM
              have HM := HM_
              clear HM_
              have HS_ : Hid (ShB u11 qs vd vt ds ts) := HS.out.later bX
              clear HS
              have HS := HS_
              clear HS_
              have HG_ : Hid (CfB u11 qc r) := HG.out.later bX
              clear HG
              have HG := HG_
              clear HG_
              have HT_ : Hid (ShB u11 qt vD vT es ts) := HT.out.later bX
              clear HT
              have HT := HT_
              clear HT_
              clear bX
              clear hX
              refine takeH (i := 0) (some 113) rfl rfl (by kernel_rfl) (by kernel_rfl) (by kernel_rfl) (fun _ _ _ h => h) (gRun rfl (.bool true) fun _ h => run_mvZ (.tmp 9) rfl (.bool true) rfl) ⟨HS.out, HG.out, HT.out⟩ ?_
              simp only [Act.put, List.setIfInBounds_toArray, List.set_cons_succ, List.set_cons_zero]
              refine takeH (i := 1) (some 114) rfl rfl (by kernel_rfl) (by kernel_rfl) (by kernel_rfl) (fun _ _ _ h => h) (gRun rfl (.bool true) fun _ h => run_mvZ (.tmp 113) rfl (.bool true) rfl) ⟨HS.out, HG.out, HT.out⟩ ?_
              simp only [Act.put, List.setIfInBounds_toArray, List.set_cons_succ, List.set_cons_zero]
              refine takeH (i := 2) (some 115) rfl rfl (by kernel_rfl) (by kernel_rfl) (by kernel_rfl) (fun _ _ _ h => h) (gRun (by kernel_rfl) (.agg ([vD, vT]).toArray) fun _ h => run_loadA ag24 (.tmp 10) rfl qt (0) rfl ([vD, vT]) rfl (fun j v hv => by rw [Nat.zero_add]; exact h.2.2.row.at j v hv)) ⟨HS.out, HG.out, HT.out⟩ ?_
              simp only [Act.put, List.setIfInBounds_toArray, List.set_cons_succ, List.set_cons_zero]
              refine takeH (i := 3) (some 116) rfl rfl (by kernel_rfl) (by kernel_rfl) (by kernel_rfl) (fun _ _ _ h => h) (gRun (by kernel_rfl) (.agg ([.int .i64 r]).toArray) fun _ h => run_loadA ag26 (.tmp 5) rfl qc (0) rfl ([.int .i64 r]) rfl (fun j v hv => by rw [Nat.zero_add]; exact h.2.1.row.at j v hv)) ⟨HS.out, HG.out, HT.out⟩ ?_
              simp only [Act.put, List.setIfInBounds_toArray, List.set_cons_succ, List.set_cons_zero]
              refine oneH (i := 4) (by kernel_rfl) ?_
              refine opCallG (some 117) rfl rfl (by kernel_rfl) 8 _ (run_call eN8 [.tmp 115, .tmp 116] _ rfl [(.agg ([vD, vT]).toArray), (.agg ([.int .i64 r]).toArray)] rfl) ?_
              refine (may_any u11 vD vT es (ts) HT.out.sh r).mono ?_
              rintro e u12 ⟨rfl, bW⟩
              refine ⟨_, rfl, ?_⟩
              rw [HMU.out]
              have HW_ : Hid (Below w.heap.size w u12) := belowNext HW.out bW
              clear HW
              have HW := HW_
              clear HW_
              have HM_ : Hid (IntsIn u12 vm ms) := HM.out.later bW
              clear HM
              have HM := HM_
              clear HM_
              have HS_ : Hid (ShB u12 qs vd vt ds ts) := HS.out.later bW
              clear HS
              have HS := HS_
              clear HS_
              have HG_ : Hid (CfB u12 qc r) := HG.out.later bW
              clear HG
              have HG := HG_
              clear HG_
              have HT_ : Hid (ShB u12 qt vD vT es ts) := HT.out.later bW
              clear HT
              have HT := HT_
              clear HT_
              clear bW
              refine ⟨⟨HS.out, HG.out, HT.out⟩, ?_⟩
              simp only [Act.put, List.setIfInBounds_toArray, List.set_cons_succ, List.set_cons_zero]
              refine takeH (i := 5) (some 118) rfl rfl (by kernel_rfl) (by kernel_rfl) (by kernel_rfl) (fun _ _ _ h => h) (gRun rfl (.bool true) fun _ h => run_pickZ (.tmp 114) (.tmp 117) (.const (.bool false)) rfl true (.bool true) rfl rfl) ⟨HS.out, HG.out, HT.out⟩ ?_
              simp only [Act.put, List.setIfInBounds_toArray, List.set_cons_succ, List.set_cons_zero]
              refine takeH (i := 6) (some 119) rfl rfl (by kernel_rfl) (by kernel_rfl) (by kernel_rfl) (fun _ _ _ h => h) (gRun rfl (.bool true) fun _ h => run_mvZ (.tmp 118) rfl (.bool true) rfl) ⟨HS.out, HG.out, HT.out⟩ ?_
              simp only [Act.put, List.setIfInBounds_toArray, List.set_cons_succ, List.set_cons_zero]
              refine takeH (i := 7) (some 120) rfl rfl (by kernel_rfl) (by kernel_rfl) (by kernel_rfl) (fun _ _ _ h => h) (gRun (by kernel_rfl) (.agg ([vD, vT]).toArray) fun _ h => run_loadA ag24 (.tmp 10) rfl qt (0) rfl ([vD, vT]) rfl (fun j v hv => by rw [Nat.zero_add]; exact h.2.2.row.at j v hv)) ⟨HS.out, HG.out, HT.out⟩ ?_
              simp only [Act.put, List.setIfInBounds_toArray, List.set_cons_succ, List.set_cons_zero]
              refine takeH (i := 9) (some 122) rfl rfl (by kernel_rfl) (by kernel_rfl) (by kernel_rfl) (fun _ _ _ h => h) (gRun (by kernel_rfl) (.agg ([vd, vt]).toArray) fun _ h => run_loadA ag24 (.tmp 4) rfl qs (0) rfl ([vd, vt]) rfl (fun j v hv => by rw [Nat.zero_add]; exact h.1.row.at j v hv)) ⟨HS.out, HG.out, HT.out⟩ ?_
              simp only [Act.put, List.setIfInBounds_toArray, List.set_cons_succ, List.set_cons_zero]
              refine oneH (i := 8) (by kernel_rfl) ?_
              refine opCallG (some 121) rfl rfl (by kernel_rfl) 10 _ (run_call eN10 [.tmp 120] _ rfl [(.agg ([vD, vT]).toArray)] rfl) ?_
              refine (puts_any u12 vD vT es (ts) HT.out.sh).mono ?_
              rintro e u13 ⟨rfl, bW⟩
              refine ⟨_, rfl, ?_⟩
              rw [← HN2.out.1]
              have HW_ : Hid (Below w.heap.size w u13) := belowNext HW.out bW
              clear HW
              have HW := HW_
              clear HW_
              have HM_ : Hid (IntsIn u13 vm ms) := HM.out.later bW
              clear HM
              have HM := HM_
              clear HM_
              have HS_ : Hid (ShB u13 qs vd vt ds ts) := HS.out.later bW
              clear HS
              have HS := HS_
              clear HS_
              have HG_ : Hid (CfB u13 qc r) := HG.out.later bW
              clear HG
              have HG := HG_
              clear HG_
              have HT_ : Hid (ShB u13 qt vD vT es ts) := HT.out.later bW
              clear HT
              have HT := HT_
              clear HT_
              clear bW
              refine ⟨⟨HS.out, HG.out, HT.out⟩, ?_⟩
              simp only [Act.put, List.setIfInBounds_toArray, List.set_cons_succ, List.set_cons_zero]
              refine oneH (i := 10) (by kernel_rfl) ?_
              refine opCallG (some 123) rfl rfl (by kernel_rfl) 10 _ (run_call eN10 [.tmp 122] _ rfl [(.agg ([vd, vt]).toArray)] rfl) ?_
              refine (puts_any u13 vd vt ds ts HS.out.sh).mono ?_
              rintro e u14 ⟨rfl, bW⟩
              refine ⟨_, rfl, ?_⟩
              rw [← HNK.out.1]
              have HW_ : Hid (Below w.heap.size w u14) := belowNext HW.out bW
              clear HW
              have HW := HW_
              clear HW_
              have HM_ : Hid (IntsIn u14 vm ms) := HM.out.later bW
              clear HM
              have HM := HM_
              clear HM_
              have HS_ : Hid (ShB u14 qs vd vt ds ts) := HS.out.later bW
              clear HS
              have HS := HS_
              clear HS_
              have HG_ : Hid (CfB u14 qc r) := HG.out.later bW
              clear HG
              have HG := HG_
              clear HG_
              have HT_ : Hid (ShB u14 qt vD vT es ts) := HT.out.later bW
              clear HT
              have HT := HT_
              clear HT_
              clear bW
              refine ⟨⟨HS.out, HG.out, HT.out⟩, ?_⟩
              simp only [Act.put, List.setIfInBounds_toArray, List.set_cons_succ, List.set_cons_zero]
              refine takeH (i := 11) (some 124) rfl rfl (by kernel_rfl) (by kernel_rfl) (by kernel_rfl) (fun _ _ _ h => h) (gRun (by kernel_rfl) (.bool true) fun _ h => run_geqZ (.tmp 121) (.tmp 123) rfl n2 n rfl rfl true (decide_eq_true nn)) ⟨HS.out, HG.out, HT.out⟩ ?_
              simp only [Act.put, List.setIfInBounds_toArray, List.set_cons_succ, List.set_cons_zero]
              refine takeH (i := 12) (some 125) rfl rfl (by kernel_rfl) (by kernel_rfl) (by kernel_rfl) (fun _ _ _ h => h) (gRun rfl (.bool true) fun _ h => run_pickZ (.tmp 119) (.tmp 124) (.const (.bool false)) rfl true (.bool true) rfl rfl) ⟨HS.out, HG.out, HT.out⟩ ?_
              simp only [Act.put, List.setIfInBounds_toArray, List.set_cons_succ, List.set_cons_zero]
              refine takeH (i := 13) (some 126) rfl rfl (by kernel_rfl) (by kernel_rfl) (by kernel_rfl) (fun _ _ _ h => h) (gRun rfl (.bool true) fun _ h => run_mvZ (.tmp 125) rfl (.bool true) rfl) ⟨HS.out, HG.out, HT.out⟩ ?_
              simp only [Act.put, List.setIfInBounds_toArray, List.set_cons_succ, List.set_cons_zero]
              refine takeH (i := 14) (some 127) rfl rfl (by kernel_rfl) (by kernel_rfl) (by kernel_rfl) (fun _ _ _ h => h) (gRun (by kernel_rfl) (.agg ([vD, vT]).toArray) fun _ h => run_loadA ag24 (.tmp 10) rfl qt (0) rfl ([vD, vT]) rfl (fun j v hv => by rw [Nat.zero_add]; exact h.2.2.row.at j v hv)) ⟨HS.out, HG.out, HT.out⟩ ?_
              simp only [Act.put, List.setIfInBounds_toArray, List.set_cons_succ, List.set_cons_zero]
              refine takeH (i := 16) (some 129) rfl rfl (by kernel_rfl) (by kernel_rfl) (by kernel_rfl) (fun _ _ _ h => h) (gRun (by kernel_rfl) (.agg ([vd, vt]).toArray) fun _ h => run_loadA ag24 (.tmp 4) rfl qs (0) rfl ([vd, vt]) rfl (fun j v hv => by rw [Nat.zero_add]; exact h.1.row.at j v hv)) ⟨HS.out, HG.out, HT.out⟩ ?_
              simp only [Act.put, List.setIfInBounds_toArray, List.set_cons_succ, List.set_cons_zero]
              refine oneH (i := 15) (by kernel_rfl) ?_
              refine opCallG (some 128) rfl rfl (by kernel_rfl) 12 _ (run_call eN12 [.tmp 127] _ rfl [(.agg ([vD, vT]).toArray)] rfl) ?_
              refine (sectors_any u14 vD vT es (ts) HT.out.sh).mono ?_
              rintro e u15 ⟨rfl, bW⟩
              refine ⟨_, rfl, ?_⟩
              rw [← HN2.out.2]
              have HW_ : Hid (Below w.heap.size w u15) := belowNext HW.out bW
              clear HW
              have HW := HW_
              clear HW_
              have HM_ : Hid (IntsIn u15 vm ms) := HM.out.later bW
              clear HM
              have HM := HM_
              clear HM_
              have HS_ : Hid (ShB u15 qs vd vt ds ts) := HS.out.later bW
              clear HS
              have HS := HS_
              clear HS_
              have HG_ : Hid (CfB u15 qc r) := HG.out.later bW
              clear HG
              have HG := HG_
              clear HG_
              have HT_ : Hid (ShB u15 qt vD vT es ts) := HT.out.later bW
              clear HT
              have HT := HT_
              clear HT_
              clear bW
              refine ⟨⟨HS.out, HG.out, HT.out⟩, ?_⟩
              simp only [Act.put, List.setIfInBounds_toArray, List.set_cons_succ, List.set_cons_zero]
              refine oneH (i := 17) (by kernel_rfl) ?_
              refine opCallG (some 130) rfl rfl (by kernel_rfl) 12 _ (run_call eN12 [.tmp 129] _ rfl [(.agg ([vd, vt]).toArray)] rfl) ?_
              refine (sectors_any u15 vd vt ds ts HS.out.sh).mono ?_
              rintro e u16 ⟨rfl, bW⟩
              refine ⟨_, rfl, ?_⟩
              rw [← HNK.out.2]
              have HW_ : Hid (Below w.heap.size w u16) := belowNext HW.out bW
              clear HW
              have HW := HW_
              clear HW_
              have HM_ : Hid (IntsIn u16 vm ms) := HM.out.later bW
              clear HM
              have HM := HM_
              clear HM_
              have HS_ : Hid (ShB u16 qs vd vt ds ts) := HS.out.later bW
              clear HS
              have HS := HS_
              clear HS_
              have HG_ : Hid (CfB u16 qc r) := HG.out.later bW
              clear HG
              have HG := HG_
              clear HG_
              have HT_ : Hid (ShB u16 qt vD vT es ts) := HT.out.later bW
              clear HT
              have HT := HT_
              clear HT_
              clear bW
              refine ⟨⟨HS.out, HG.out, HT.out⟩, ?_⟩
              simp only [Act.put, List.setIfInBounds_toArray, List.set_cons_succ, List.set_cons_zero]
              refine takeH (i := 18) (some 131) rfl rfl (by kernel_rfl) (by kernel_rfl) (by kernel_rfl) (fun _ _ _ h => h) (gRun (by kernel_rfl) (.bool true) fun _ h => run_geqZ (.tmp 128) (.tmp 130) rfl k2 k rfl rfl true (decide_eq_true kk)) ⟨HS.out, HG.out, HT.out⟩ ?_
              simp only [Act.put, List.setIfInBounds_toArray, List.set_cons_succ, List.set_cons_zero]
              refine takeH (i := 19) (some 132) rfl rfl (by kernel_rfl) (by kernel_rfl) (by kernel_rfl) (fun _ _ _ h => h) (gRun rfl (.bool true) fun _ h => run_pickZ (.tmp 126) (.tmp 131) (.const (.bool false)) rfl true (.bool true) rfl rfl) ⟨HS.out, HG.out, HT.out⟩ ?_
              simp only [Act.put, List.setIfInBounds_toArray, List.set_cons_succ, List.set_cons_zero]
              refine takeH (i := 20) (some 8) rfl rfl (by kernel_rfl) (by kernel_rfl) (by kernel_rfl) (fun _ _ _ h => h) (gRun rfl (.bool true) fun _ h => run_asZ (.tmp 132) rfl (.bool true) rfl) ⟨HS.out, HG.out, HT.out⟩ ?_
              simp only [Act.put, List.setIfInBounds_toArray, List.set_cons_succ, List.set_cons_zero]
              refine wpAnyH_done (by kernel_rfl) ?_ _
              go_wp2_with fail
              rw [HPQ.out]
              exact ⟨rfl, HW.out⟩
          · go_upto_region 16 with fail
            refine wp_region_lit ?_
            refine wl rfl (.pointer (some ⟨qt, 0 + 1, none⟩)) _ (run_fieldOp' f24_1 (.tmp 10) rfl qt (0) rfl) ?_
            simp only [Act.put, List.setIfInBounds_toArray, List.set_cons_succ, List.set_cons_zero]
            refine wl rfl vT _ (run_load1 o22 (.tmp 95) rfl qt (0 + 1) rfl vT (OS.out.row.at (0 + 1) _ rfl)) ?_
            simp only [Act.put, List.setIfInBounds_toArray, List.set_cons_succ, List.set_cons_zero]
            refine wl rfl (.int .i64 (ts.length : Nat)) _ (run_lenI (.tmp 96) rfl vT ts rfl OS.out.t.ints) ?_
            simp only [Act.put, List.setIfInBounds_toArray, List.set_cons_succ, List.set_cons_zero]
            refine wl rfl (.bool true) _ (run_lssZ (.tmp 97) (.const (.int .i64 9)) rfl (ts.length : Nat) 9 rfl rfl true (decide_eq_true (by omega))) ?_
            simp only [Act.put, List.setIfInBounds_toArray, List.set_cons_succ, List.set_cons_zero]
            refine wl rfl (.bool true) _ (run_mvZ (.tmp 98) rfl (.bool true) rfl) ?_
            simp only [Act.put, List.setIfInBounds_toArray, List.set_cons_succ, List.set_cons_zero]
            refine wl (by kernel_rfl) (.int .i64 z) _ (run_mvZ (.tmp 3) rfl (.int .i64 z) rfl) ?_
            simp only [Act.put, List.setIfInBounds_toArray, List.set_cons_succ, List.set_cons_zero]
            refine wl (by kernel_rfl) (.bool false) _ (run_geqZ (.tmp 100) (.const (.int .i64 12)) rfl z 12 rfl rfl false (decide_eq_false (by omega))) ?_
            simp only [Act.put, List.setIfInBounds_toArray, List.set_cons_succ, List.set_cons_zero]
            refine wl rfl (.bool false) _ (run_pickZ (.tmp 99) (.tmp 101) (.const (.bool false)) rfl true (.bool false) rfl rfl) ?_
            simp only [Act.put, List.setIfInBounds_toArray, List.set_cons_succ, List.set_cons_zero]
            refine wl rfl (.bool false) _ (run_mvZ (.tmp 102) rfl (.bool false) rfl) ?_
            simp only [Act.put, List.setIfInBounds_toArray, List.set_cons_succ, List.set_cons_zero]
            with_reducible refine wpList_skip (by kernel_rfl) ?_
            simp only [Act.put, List.setIfInBounds_toArray, List.set_cons_succ, List.set_cons_zero]
            with_reducible refine wpList_skip (by kernel_rfl) ?_
            simp only [Act.put, List.setIfInBounds_toArray, List.set_cons_succ, List.set_cons_zero]
            refine wl rfl (.bool false) _ (run_pickZ (.tmp 103) (.tmp 105) (.const (.bool false)) rfl false (.bool false) rfl rfl) ?_
            simp only [Act.put, List.setIfInBounds_toArray, List.set_cons_succ, List.set_cons_zero]
            refine wpList_nil ?_
            have HT : Hid (ShB u10 qt vD vT es ts) := ⟨OS.out.row, OS.out.d.ints, OS.out.t.ints⟩
            clear HBr
            clear OS
            obtain ⟨n2, hn2⟩ : ∃ x, x = putsZ es := ⟨_, rfl⟩
            obtain ⟨k2, hk2⟩ : ∃ x, x = sectZ es := ⟨_, rfl⟩
            have nn : n ≤ n2 := by rw [hn2, HNK.out.1]; exact puts_up H3.out HU.out HP1.out.1
            have kk : k ≤ k2 := by rw [hk2, HNK.out.2]; exact sect_up H3.out HU.out HP1.out.2
            have HN2 : Hid (n2 = putsZ es ∧ k2 = sectZ es) := ⟨hn2, hk2⟩
            have HMU : Hid (mayOk es ts r = true) := may_up HMay.out HU.out
            clear hn2 hk2
            go_upto_region 18 with fail
            refine wp_region_held (S := fun X => (ShB X qs vd vt ds ts) ∧ (CfB X qc r) ∧ (ShB X qt vD vT es ts)) (by kernel_rfl) ?_
            show wpAnyH _ _ _ _ _ 21 (Array.replicate 21 false) _ _
            obtain ⟨u11, hX⟩ : ∃ u11 : World, u11 = { u10 with drawn := u10.drawn + 1 } := ⟨_, rfl⟩
            rw [← hX]
            have bX : Below u10.heap.size u10 u11 := by rw [hX]; exact ⟨rfl, rfl, rfl, Nat.le_refl _, fun _ _ => rfl⟩
            have HW_ : Hid (Below w.heap.size w u11) := belowNext HW.out bX
            clear HW
            have HW := HW_
            clear HW_
            have HM_ : Hid (IntsIn u11 vm ms) := HM.out.later bX
            clear HM
            have HM := HM_
            clear HM_
            have HS_ : Hid (ShB u11 qs vd vt ds ts) := HS.out.later bX
            clear HS
            have HS := HS_
            clear HS_
            have HG_ : Hid (CfB u11 qc r) := HG.out.later bX
            clear HG
            have HG := HG_
            clear HG_
            have HT_ : Hid (ShB u11 qt vD vT es ts) := HT.out.later bX
            clear HT
            have HT := HT_
            clear HT_
            clear bX
            clear hX
            refine takeH (i := 0) (some 113) rfl rfl (by kernel_rfl) (by kernel_rfl) (by kernel_rfl) (fun _ _ _ h => h) (gRun rfl (.bool true) fun _ h => run_mvZ (.tmp 9) rfl (.bool true) rfl) ⟨HS.out, HG.out, HT.out⟩ ?_
            simp only [Act.put, List.setIfInBounds_toArray, List.set_cons_succ, List.set_cons_zero]
            refine takeH (i := 1) (some 114) rfl rfl (by kernel_rfl) (by kernel_rfl) (by kernel_rfl) (fun _ _ _ h => h) (gRun rfl (.bool true) fun _ h => run_mvZ (.tmp 113) rfl (.bool true) rfl) ⟨HS.out, HG.out, HT.out⟩ ?_
            simp only [Act.put, List.setIfInBounds_toArray, List.set_cons_succ, List.set_cons_zero]
            refine takeH (i := 2) (some 115) rfl rfl (by kernel_rfl) (by kernel_rfl) (by kernel_rfl) (fun _ _ _ h => h) (gRun (by kernel_rfl) (.agg ([vD, vT]).toArray) fun _ h => run_loadA ag24 (.tmp 10) rfl qt (0) rfl ([vD, vT]) rfl (fun j v hv => by rw [Nat.zero_add]; exact h.2.2.row.at j v hv)) ⟨HS.out, HG.out, HT.out⟩ ?_
            simp only [Act.put, List.setIfInBounds_toArray, List.set_cons_succ, List.set_cons_zero]
            refine takeH (i := 3) (some 116) rfl rfl (by kernel_rfl) (by kernel_rfl) (by kernel_rfl) (fun _ _ _ h => h) (gRun (by kernel_rfl) (.agg ([.int .i64 r]).toArray) fun _ h => run_loadA ag26 (.tmp 5) rfl qc (0) rfl ([.int .i64 r]) rfl (fun j v hv => by rw [Nat.zero_add]; exact h.2.1.row.at j v hv)) ⟨HS.out, HG.out, HT.out⟩ ?_
            simp only [Act.put, List.setIfInBounds_toArray, List.set_cons_succ, List.set_cons_zero]
            refine oneH (i := 4) (by kernel_rfl) ?_
            refine opCallG (some 117) rfl rfl (by kernel_rfl) 8 _ (run_call eN8 [.tmp 115, .tmp 116] _ rfl [(.agg ([vD, vT]).toArray), (.agg ([.int .i64 r]).toArray)] rfl) ?_
            refine (may_any u11 vD vT es (ts) HT.out.sh r).mono ?_
            rintro e u12 ⟨rfl, bW⟩
            refine ⟨_, rfl, ?_⟩
            rw [HMU.out]
            have HW_ : Hid (Below w.heap.size w u12) := belowNext HW.out bW
            clear HW
            have HW := HW_
            clear HW_
            have HM_ : Hid (IntsIn u12 vm ms) := HM.out.later bW
            clear HM
            have HM := HM_
            clear HM_
            have HS_ : Hid (ShB u12 qs vd vt ds ts) := HS.out.later bW
            clear HS
            have HS := HS_
            clear HS_
            have HG_ : Hid (CfB u12 qc r) := HG.out.later bW
            clear HG
            have HG := HG_
            clear HG_
            have HT_ : Hid (ShB u12 qt vD vT es ts) := HT.out.later bW
            clear HT
            have HT := HT_
            clear HT_
            clear bW
            refine ⟨⟨HS.out, HG.out, HT.out⟩, ?_⟩
            simp only [Act.put, List.setIfInBounds_toArray, List.set_cons_succ, List.set_cons_zero]
            refine takeH (i := 5) (some 118) rfl rfl (by kernel_rfl) (by kernel_rfl) (by kernel_rfl) (fun _ _ _ h => h) (gRun rfl (.bool true) fun _ h => run_pickZ (.tmp 114) (.tmp 117) (.const (.bool false)) rfl true (.bool true) rfl rfl) ⟨HS.out, HG.out, HT.out⟩ ?_
            simp only [Act.put, List.setIfInBounds_toArray, List.set_cons_succ, List.set_cons_zero]
            refine takeH (i := 6) (some 119) rfl rfl (by kernel_rfl) (by kernel_rfl) (by kernel_rfl) (fun _ _ _ h => h) (gRun rfl (.bool true) fun _ h => run_mvZ (.tmp 118) rfl (.bool true) rfl) ⟨HS.out, HG.out, HT.out⟩ ?_
            simp only [Act.put, List.setIfInBounds_toArray, List.set_cons_succ, List.set_cons_zero]
            refine takeH (i := 7) (some 120) rfl rfl (by kernel_rfl) (by kernel_rfl) (by kernel_rfl) (fun _ _ _ h => h) (gRun (by kernel_rfl) (.agg ([vD, vT]).toArray) fun _ h => run_loadA ag24 (.tmp 10) rfl qt (0) rfl ([vD, vT]) rfl (fun j v hv => by rw [Nat.zero_add]; exact h.2.2.row.at j v hv)) ⟨HS.out, HG.out, HT.out⟩ ?_
            simp only [Act.put, List.setIfInBounds_toArray, List.set_cons_succ, List.set_cons_zero]
            refine takeH (i := 9) (some 122) rfl rfl (by kernel_rfl) (by kernel_rfl) (by kernel_rfl) (fun _ _ _ h => h) (gRun (by kernel_rfl) (.agg ([vd, vt]).toArray) fun _ h => run_loadA ag24 (.tmp 4) rfl qs (0) rfl ([vd, vt]) rfl (fun j v hv => by rw [Nat.zero_add]; exact h.1.row.at j v hv)) ⟨HS.out, HG.out, HT.out⟩ ?_
            simp only [Act.put, List.setIfInBounds_toArray, List.set_cons_succ, List.set_cons_zero]
            refine oneH (i := 8) (by kernel_rfl) ?_
            refine opCallG (some 121) rfl rfl (by kernel_rfl) 10 _ (run_call eN10 [.tmp 120] _ rfl [(.agg ([vD, vT]).toArray)] rfl) ?_
            refine (puts_any u12 vD vT es (ts) HT.out.sh).mono ?_
            rintro e u13 ⟨rfl, bW⟩
            refine ⟨_, rfl, ?_⟩
            rw [← HN2.out.1]
            have HW_ : Hid (Below w.heap.size w u13) := belowNext HW.out bW
            clear HW
            have HW := HW_
            clear HW_
            have HM_ : Hid (IntsIn u13 vm ms) := HM.out.later bW
            clear HM
            have HM := HM_
            clear HM_
            have HS_ : Hid (ShB u13 qs vd vt ds ts) := HS.out.later bW
            clear HS
            have HS := HS_
            clear HS_
            have HG_ : Hid (CfB u13 qc r) := HG.out.later bW
            clear HG
            have HG := HG_
            clear HG_
            have HT_ : Hid (ShB u13 qt vD vT es ts) := HT.out.later bW
            clear HT
            have HT := HT_
            clear HT_
            clear bW
            refine ⟨⟨HS.out, HG.out, HT.out⟩, ?_⟩
            simp only [Act.put, List.setIfInBounds_toArray, List.set_cons_succ, List.set_cons_zero]
            refine oneH (i := 10) (by kernel_rfl) ?_
            refine opCallG (some 123) rfl rfl (by kernel_rfl) 10 _ (run_call eN10 [.tmp 122] _ rfl [(.agg ([vd, vt]).toArray)] rfl) ?_
            refine (puts_any u13 vd vt ds ts HS.out.sh).mono ?_
            rintro e u14 ⟨rfl, bW⟩
            refine ⟨_, rfl, ?_⟩
            rw [← HNK.out.1]
            have HW_ : Hid (Below w.heap.size w u14) := belowNext HW.out bW
            clear HW
            have HW := HW_
            clear HW_
            have HM_ : Hid (IntsIn u14 vm ms) := HM.out.later bW
            clear HM
            have HM := HM_
            clear HM_
            have HS_ : Hid (ShB u14 qs vd vt ds ts) := HS.out.later bW
            clear HS
            have HS := HS_
            clear HS_
            have HG_ : Hid (CfB u14 qc r) := HG.out.later bW
            clear HG
            have HG := HG_
            clear HG_
            have HT_ : Hid (ShB u14 qt vD vT es ts) := HT.out.later bW
            clear HT
            have HT := HT_
            clear HT_
            clear bW
            refine ⟨⟨HS.out, HG.out, HT.out⟩, ?_⟩
            simp only [Act.put, List.setIfInBounds_toArray, List.set_cons_succ, List.set_cons_zero]
            refine takeH (i := 11) (some 124) rfl rfl (by kernel_rfl) (by kernel_rfl) (by kernel_rfl) (fun _ _ _ h => h) (gRun (by kernel_rfl) (.bool true) fun _ h => run_geqZ (.tmp 121) (.tmp 123) rfl n2 n rfl rfl true (decide_eq_true nn)) ⟨HS.out, HG.out, HT.out⟩ ?_
            simp only [Act.put, List.setIfInBounds_toArray, List.set_cons_succ, List.set_cons_zero]
            refine takeH (i := 12) (some 125) rfl rfl (by kernel_rfl) (by kernel_rfl) (by kernel_rfl) (fun _ _ _ h => h) (gRun rfl (.bool true) fun _ h => run_pickZ (.tmp 119) (.tmp 124) (.const (.bool false)) rfl true (.bool true) rfl rfl) ⟨HS.out, HG.out, HT.out⟩ ?_
            simp only [Act.put, List.setIfInBounds_toArray, List.set_cons_succ, List.set_cons_zero]
            refine takeH (i := 13) (some 126) rfl rfl (by kernel_rfl) (by kernel_rfl) (by kernel_rfl) (fun _ _ _ h => h) (gRun rfl (.bool true) fun _ h => run_mvZ (.tmp 125) rfl (.bool true) rfl) ⟨HS.out, HG.out, HT.out⟩ ?_
            simp only [Act.put, List.setIfInBounds_toArray, List.set_cons_succ, List.set_cons_zero]
            refine takeH (i := 14) (some 127) rfl rfl (by kernel_rfl) (by kernel_rfl) (by kernel_rfl) (fun _ _ _ h => h) (gRun (by kernel_rfl) (.agg ([vD, vT]).toArray) fun _ h => run_loadA ag24 (.tmp 10) rfl qt (0) rfl ([vD, vT]) rfl (fun j v hv => by rw [Nat.zero_add]; exact h.2.2.row.at j v hv)) ⟨HS.out, HG.out, HT.out⟩ ?_
            simp only [Act.put, List.setIfInBounds_toArray, List.set_cons_succ, List.set_cons_zero]
            refine takeH (i := 16) (some 129) rfl rfl (by kernel_rfl) (by kernel_rfl) (by kernel_rfl) (fun _ _ _ h => h) (gRun (by kernel_rfl) (.agg ([vd, vt]).toArray) fun _ h => run_loadA ag24 (.tmp 4) rfl qs (0) rfl ([vd, vt]) rfl (fun j v hv => by rw [Nat.zero_add]; exact h.1.row.at j v hv)) ⟨HS.out, HG.out, HT.out⟩ ?_
            simp only [Act.put, List.setIfInBounds_toArray, List.set_cons_succ, List.set_cons_zero]
            refine oneH (i := 15) (by kernel_rfl) ?_
            refine opCallG (some 128) rfl rfl (by kernel_rfl) 12 _ (run_call eN12 [.tmp 127] _ rfl [(.agg ([vD, vT]).toArray)] rfl) ?_
            refine (sectors_any u14 vD vT es (ts) HT.out.sh).mono ?_
            rintro e u15 ⟨rfl, bW⟩
            refine ⟨_, rfl, ?_⟩
            rw [← HN2.out.2]
            have HW_ : Hid (Below w.heap.size w u15) := belowNext HW.out bW
            clear HW
            have HW := HW_
            clear HW_
            have HM_ : Hid (IntsIn u15 vm ms) := HM.out.later bW
            clear HM
            have HM := HM_
            clear HM_
            have HS_ : Hid (ShB u15 qs vd vt ds ts) := HS.out.later bW
            clear HS
            have HS := HS_
            clear HS_
            have HG_ : Hid (CfB u15 qc r) := HG.out.later bW
            clear HG
            have HG := HG_
            clear HG_
            have HT_ : Hid (ShB u15 qt vD vT es ts) := HT.out.later bW
            clear HT
            have HT := HT_
            clear HT_
            clear bW
            refine ⟨⟨HS.out, HG.out, HT.out⟩, ?_⟩
            simp only [Act.put, List.setIfInBounds_toArray, List.set_cons_succ, List.set_cons_zero]
            refine oneH (i := 17) (by kernel_rfl) ?_
            refine opCallG (some 130) rfl rfl (by kernel_rfl) 12 _ (run_call eN12 [.tmp 129] _ rfl [(.agg ([vd, vt]).toArray)] rfl) ?_
            refine (sectors_any u15 vd vt ds ts HS.out.sh).mono ?_
            rintro e u16 ⟨rfl, bW⟩
            refine ⟨_, rfl, ?_⟩
            rw [← HNK.out.2]
            have HW_ : Hid (Below w.heap.size w u16) := belowNext HW.out bW
            clear HW
            have HW := HW_
            clear HW_
            have HM_ : Hid (IntsIn u16 vm ms) := HM.out.later bW
            clear HM
            have HM := HM_
            clear HM_
            have HS_ : Hid (ShB u16 qs vd vt ds ts) := HS.out.later bW
            clear HS
            have HS := HS_
            clear HS_
            have HG_ : Hid (CfB u16 qc r) := HG.out.later bW
            clear HG
            have HG := HG_
            clear HG_
            have HT_ : Hid (ShB u16 qt vD vT es ts) := HT.out.later bW
            clear HT
            have HT := HT_
            clear HT_
            clear bW
            refine ⟨⟨HS.out, HG.out, HT.out⟩, ?_⟩
            simp only [Act.put, List.setIfInBounds_toArray, List.set_cons_succ, List.set_cons_zero]
            refine takeH (i := 18) (some 131) rfl rfl (by kernel_rfl) (by kernel_rfl) (by kernel_rfl) (fun _ _ _ h => h) (gRun (by kernel_rfl) (.bool true) fun _ h => run_geqZ (.tmp 128) (.tmp 130) rfl k2 k rfl rfl true (decide_eq_true kk)) ⟨HS.out, HG.out, HT.out⟩ ?_
            simp only [Act.put, List.setIfInBounds_toArray, List.set_cons_succ, List.set_cons_zero]
            refine takeH (i := 19) (some 132) rfl rfl (by kernel_rfl) (by kernel_rfl) (by kernel_rfl) (fun _ _ _ h => h) (gRun rfl (.bool true) fun _ h => run_pickZ (.tmp 126) (.tmp 131) (.const (.bool false)) rfl true (.bool true) rfl rfl) ⟨HS.out, HG.out, HT.out⟩ ?_
            simp only [Act.put, List.setIfInBounds_toArray, List.set_cons_succ, List.set_cons_zero]
            refine takeH (i := 20) (some 8) rfl rfl (by kernel_rfl) (by kernel_rfl) (by kernel_rfl) (fun _ _ _ h => h) (gRun rfl (.bool true) fun _ h => run_asZ (.tmp 132) rfl (.bool true) rfl) ⟨HS.out, HG.out, HT.out⟩ ?_
            simp only [Act.put, List.setIfInBounds_toArray, List.set_cons_succ, List.set_cons_zero]
            refine wpAnyH_done (by kernel_rfl) ?_ _
            go_wp2_with fail
            rw [HPQ.out]
            exact ⟨rfl, HW.out⟩
        · go_upto_region 16 with fail
          refine wp_region_lit ?_
          refine wl rfl (.pointer (some ⟨qt, 0 + 1, none⟩)) _ (run_fieldOp' f24_1 (.tmp 10) rfl qt (0) rfl) ?_
          simp only [Act.put, List.setIfInBounds_toArray, List.set_cons_succ, List.set_cons_zero]
          refine wl rfl vT _ (run_load1 o22 (.tmp 95) rfl qt (0 + 1) rfl vT (OS.out.row.at (0 + 1) _ rfl)) ?_
          simp only [Act.put, List.setIfInBounds_toArray, List.set_cons_succ, List.set_cons_zero]
          refine wl rfl (.int .i64 (ts.length : Nat)) _ (run_lenI (.tmp 96) rfl vT ts rfl OS.out.t.ints) ?_
          simp only [Act.put, List.setIfInBounds_toArray, List.set_cons_succ, List.set_cons_zero]
          refine wl rfl (.bool false) _ (run_lssZ (.tmp 97) (.const (.int .i64 9)) rfl (ts.length : Nat) 9 rfl rfl false (decide_eq_false (by omega))) ?_
          simp only [Act.put, List.setIfInBounds_toArray, List.set_cons_succ, List.set_cons_zero]
          refine wl rfl (.bool false) _ (run_mvZ (.tmp 98) rfl (.bool false) rfl) ?_
          simp only [Act.put, List.setIfInBounds_toArray, List.set_cons_succ, List.set_cons_zero]
          with_reducible refine wpList_skip (by kernel_rfl) ?_
          simp only [Act.put, List.setIfInBounds_toArray, List.set_cons_succ, List.set_cons_zero]
          with_reducible refine wpList_skip (by kernel_rfl) ?_
          simp only [Act.put, List.setIfInBounds_toArray, List.set_cons_succ, List.set_cons_zero]
          refine wl rfl (.bool false) _ (run_pickZ (.tmp 99) (.tmp 101) (.const (.bool false)) rfl false (.bool false) rfl rfl) ?_
          simp only [Act.put, List.setIfInBounds_toArray, List.set_cons_succ, List.set_cons_zero]
          refine wl rfl (.bool false) _ (run_mvZ (.tmp 102) rfl (.bool false) rfl) ?_
          simp only [Act.put, List.setIfInBounds_toArray, List.set_cons_succ, List.set_cons_zero]
          with_reducible refine wpList_skip (by kernel_rfl) ?_
          simp only [Act.put, List.setIfInBounds_toArray, List.set_cons_succ, List.set_cons_zero]
          with_reducible refine wpList_skip (by kernel_rfl) ?_
          simp only [Act.put, List.setIfInBounds_toArray, List.set_cons_succ, List.set_cons_zero]
          refine wl rfl (.bool false) _ (run_pickZ (.tmp 103) (.tmp 105) (.const (.bool false)) rfl false (.bool false) rfl rfl) ?_
          simp only [Act.put, List.setIfInBounds_toArray, List.set_cons_succ, List.set_cons_zero]
          refine wpList_nil ?_
          have HT : Hid (ShB u10 qt vD vT es ts) := ⟨OS.out.row, OS.out.d.ints, OS.out.t.ints⟩
          clear HBr
          clear OS
          obtain ⟨n2, hn2⟩ : ∃ x, x = putsZ es := ⟨_, rfl⟩
          obtain ⟨k2, hk2⟩ : ∃ x, x = sectZ es := ⟨_, rfl⟩
          have nn : n ≤ n2 := by rw [hn2, HNK.out.1]; exact puts_up H3.out HU.out HP1.out.1
          have kk : k ≤ k2 := by rw [hk2, HNK.out.2]; exact sect_up H3.out HU.out HP1.out.2
          have HN2 : Hid (n2 = putsZ es ∧ k2 = sectZ es) := ⟨hn2, hk2⟩
          have HMU : Hid (mayOk es ts r = true) := may_up HMay.out HU.out
          clear hn2 hk2
          go_upto_region 18 with fail
          refine wp_region_held (S := fun X => (ShB X qs vd vt ds ts) ∧ (CfB X qc r) ∧ (ShB X qt vD vT es ts)) (by kernel_rfl) ?_
          show wpAnyH _ _ _ _ _ 21 (Array.replicate 21 false) _ _
          obtain ⟨u11, hX⟩ : ∃ u11 : World, u11 = { u10 with drawn := u10.drawn + 1 } := ⟨_, rfl⟩
          rw [← hX]
          have bX : Below u10.heap.size u10 u11 := by rw [hX]; exact ⟨rfl, rfl, rfl, Nat.le_refl _, fun _ _ => rfl⟩
          have HW_ : Hid (Below w.heap.size w u11) := belowNext HW.out bX
          clear HW
          have HW := HW_
          clear HW_
          have HM_ : Hid (IntsIn u11 vm ms) := HM.out.later bX
          clear HM
          have HM := HM_
          clear HM_
          have HS_ : Hid (ShB u11 qs vd vt ds ts) := HS.out.later bX
          clear HS
          have HS := HS_
          clear HS_
          have HG_ : Hid (CfB u11 qc r) := HG.out.later bX
          clear HG
          have HG := HG_
          clear HG_
          have HT_ : Hid (ShB u11 qt vD vT es ts) := HT.out.later bX
          clear HT
          have HT := HT_
          clear HT_
          clear bX
          clear hX
          refine takeH (i := 0) (some 113) rfl rfl (by kernel_rfl) (by kernel_rfl) (by kernel_rfl) (fun _ _ _ h => h) (gRun rfl (.bool true) fun _ h => run_mvZ (.tmp 9) rfl (.bool true) rfl) ⟨HS.out, HG.out, HT.out⟩ ?_
          simp only [Act.put, List.setIfInBounds_toArray, List.set_cons_succ, List.set_cons_zero]
          refine takeH (i := 1) (some 114) rfl rfl (by kernel_rfl) (by kernel_rfl) (by kernel_rfl) (fun _ _ _ h => h) (gRun rfl (.bool true) fun _ h => run_mvZ (.tmp 113) rfl (.bool true) rfl) ⟨HS.out, HG.out, HT.out⟩ ?_
          simp only [Act.put, List.setIfInBounds_toArray, List.set_cons_succ, List.set_cons_zero]
          refine takeH (i := 2) (some 115) rfl rfl (by kernel_rfl) (by kernel_rfl) (by kernel_rfl) (fun _ _ _ h => h) (gRun (by kernel_rfl) (.agg ([vD, vT]).toArray) fun _ h => run_loadA ag24 (.tmp 10) rfl qt (0) rfl ([vD, vT]) rfl (fun j v hv => by rw [Nat.zero_add]; exact h.2.2.row.at j v hv)) ⟨HS.out, HG.out, HT.out⟩ ?_
          simp only [Act.put, List.setIfInBounds_toArray, List.set_cons_succ, List.set_cons_zero]
          refine takeH (i := 3) (some 116) rfl rfl (by kernel_rfl) (by kernel_rfl) (by kernel_rfl) (fun _ _ _ h => h) (gRun (by kernel_rfl) (.agg ([.int .i64 r]).toArray) fun _ h => run_loadA ag26 (.tmp 5) rfl qc (0) rfl ([.int .i64 r]) rfl (fun j v hv => by rw [Nat.zero_add]; exact h.2.1.row.at j v hv)) ⟨HS.out, HG.out, HT.out⟩ ?_
          simp only [Act.put, List.setIfInBounds_toArray, List.set_cons_succ, List.set_cons_zero]
          refine oneH (i := 4) (by kernel_rfl) ?_
          refine opCallG (some 117) rfl rfl (by kernel_rfl) 8 _ (run_call eN8 [.tmp 115, .tmp 116] _ rfl [(.agg ([vD, vT]).toArray), (.agg ([.int .i64 r]).toArray)] rfl) ?_
          refine (may_any u11 vD vT es (ts) HT.out.sh r).mono ?_
          rintro e u12 ⟨rfl, bW⟩
          refine ⟨_, rfl, ?_⟩
          rw [HMU.out]
          have HW_ : Hid (Below w.heap.size w u12) := belowNext HW.out bW
          clear HW
          have HW := HW_
          clear HW_
          have HM_ : Hid (IntsIn u12 vm ms) := HM.out.later bW
          clear HM
          have HM := HM_
          clear HM_
          have HS_ : Hid (ShB u12 qs vd vt ds ts) := HS.out.later bW
          clear HS
          have HS := HS_
          clear HS_
          have HG_ : Hid (CfB u12 qc r) := HG.out.later bW
          clear HG
          have HG := HG_
          clear HG_
          have HT_ : Hid (ShB u12 qt vD vT es ts) := HT.out.later bW
          clear HT
          have HT := HT_
          clear HT_
          clear bW
          refine ⟨⟨HS.out, HG.out, HT.out⟩, ?_⟩
          simp only [Act.put, List.setIfInBounds_toArray, List.set_cons_succ, List.set_cons_zero]
          refine takeH (i := 5) (some 118) rfl rfl (by kernel_rfl) (by kernel_rfl) (by kernel_rfl) (fun _ _ _ h => h) (gRun rfl (.bool true) fun _ h => run_pickZ (.tmp 114) (.tmp 117) (.const (.bool false)) rfl true (.bool true) rfl rfl) ⟨HS.out, HG.out, HT.out⟩ ?_
          simp only [Act.put, List.setIfInBounds_toArray, List.set_cons_succ, List.set_cons_zero]
          refine takeH (i := 6) (some 119) rfl rfl (by kernel_rfl) (by kernel_rfl) (by kernel_rfl) (fun _ _ _ h => h) (gRun rfl (.bool true) fun _ h => run_mvZ (.tmp 118) rfl (.bool true) rfl) ⟨HS.out, HG.out, HT.out⟩ ?_
          simp only [Act.put, List.setIfInBounds_toArray, List.set_cons_succ, List.set_cons_zero]
          refine takeH (i := 7) (some 120) rfl rfl (by kernel_rfl) (by kernel_rfl) (by kernel_rfl) (fun _ _ _ h => h) (gRun (by kernel_rfl) (.agg ([vD, vT]).toArray) fun _ h => run_loadA ag24 (.tmp 10) rfl qt (0) rfl ([vD, vT]) rfl (fun j v hv => by rw [Nat.zero_add]; exact h.2.2.row.at j v hv)) ⟨HS.out, HG.out, HT.out⟩ ?_
          simp only [Act.put, List.setIfInBounds_toArray, List.set_cons_succ, List.set_cons_zero]
          refine takeH (i := 9) (some 122) rfl rfl (by kernel_rfl) (by kernel_rfl) (by kernel_rfl) (fun _ _ _ h => h) (gRun (by kernel_rfl) (.agg ([vd, vt]).toArray) fun _ h => run_loadA ag24 (.tmp 4) rfl qs (0) rfl ([vd, vt]) rfl (fun j v hv => by rw [Nat.zero_add]; exact h.1.row.at j v hv)) ⟨HS.out, HG.out, HT.out⟩ ?_
          simp only [Act.put, List.setIfInBounds_toArray, List.set_cons_succ, List.set_cons_zero]
          refine oneH (i := 8) (by kernel_rfl) ?_
          refine opCallG (some 121) rfl rfl (by kernel_rfl) 10 _ (run_call eN10 [.tmp 120] _ rfl [(.agg ([vD, vT]).toArray)] rfl) ?_
          refine (puts_any u12 vD vT es (ts) HT.out.sh).mono ?_
          rintro e u13 ⟨rfl, bW⟩
          refine ⟨_, rfl, ?_⟩
          rw [← HN2.out.1]
          have HW_ : Hid (Below w.heap.size w u13) := belowNext HW.out bW
          clear HW
          have HW := HW_
          clear HW_
          have HM_ : Hid (IntsIn u13 vm ms) := HM.out.later bW
          clear HM
          have HM := HM_
          clear HM_
          have HS_ : Hid (ShB u13 qs vd vt ds ts) := HS.out.later bW
          clear HS
          have HS := HS_
          clear HS_
          have HG_ : Hid (CfB u13 qc r) := HG.out.later bW
          clear HG
          have HG := HG_
          clear HG_
          have HT_ : Hid (ShB u13 qt vD vT es ts) := HT.out.later bW
          clear HT
          have HT := HT_
          clear HT_
          clear bW
          refine ⟨⟨HS.out, HG.out, HT.out⟩, ?_⟩
          simp only [Act.put, List.setIfInBounds_toArray, List.set_cons_succ, List.set_cons_zero]
          refine oneH (i := 10) (by kernel_rfl) ?_
          refine opCallG (some 123) rfl rfl (by kernel_rfl) 10 _ (run_call eN10 [.tmp 122] _ rfl [(.agg ([vd, vt]).toArray)] rfl) ?_
          refine (puts_any u13 vd vt ds ts HS.out.sh).mono ?_
          rintro e u14 ⟨rfl, bW⟩
          refine ⟨_, rfl, ?_⟩
          rw [← HNK.out.1]
          have HW_ : Hid (Below w.heap.size w u14) := belowNext HW.out bW
          clear HW
          have HW := HW_
          clear HW_
          have HM_ : Hid (IntsIn u14 vm ms) := HM.out.later bW
          clear HM
          have HM := HM_
          clear HM_
          have HS_ : Hid (ShB u14 qs vd vt ds ts) := HS.out.later bW
          clear HS
          have HS := HS_
          clear HS_
          have HG_ : Hid (CfB u14 qc r) := HG.out.later bW
          clear HG
          have HG := HG_
          clear HG_
          have HT_ : Hid (ShB u14 qt vD vT es ts) := HT.out.later bW
          clear HT
          have HT := HT_
          clear HT_
          clear bW
          refine ⟨⟨HS.out, HG.out, HT.out⟩, ?_⟩
          simp only [Act.put, List.setIfInBounds_toArray, List.set_cons_succ, List.set_cons_zero]
          refine takeH (i := 11) (some 124) rfl rfl (by kernel_rfl) (by kernel_rfl) (by kernel_rfl) (fun _ _ _ h => h) (gRun (by kernel_rfl) (.bool true) fun _ h => run_geqZ (.tmp 121) (.tmp 123) rfl n2 n rfl rfl true (decide_eq_true nn)) ⟨HS.out, HG.out, HT.out⟩ ?_
          simp only [Act.put, List.setIfInBounds_toArray, List.set_cons_succ, List.set_cons_zero]
          refine takeH (i := 12) (some 125) rfl rfl (by kernel_rfl) (by kernel_rfl) (by kernel_rfl) (fun _ _ _ h => h) (gRun rfl (.bool true) fun _ h => run_pickZ (.tmp 119) (.tmp 124) (.const (.bool false)) rfl true (.bool true) rfl rfl) ⟨HS.out, HG.out, HT.out⟩ ?_
          simp only [Act.put, List.setIfInBounds_toArray, List.set_cons_succ, List.set_cons_zero]
          refine takeH (i := 13) (some 126) rfl rfl (by kernel_rfl) (by kernel_rfl) (by kernel_rfl) (fun _ _ _ h => h) (gRun rfl (.bool true) fun _ h => run_mvZ (.tmp 125) rfl (.bool true) rfl) ⟨HS.out, HG.out, HT.out⟩ ?_
          simp only [Act.put, List.setIfInBounds_toArray, List.set_cons_succ, List.set_cons_zero]
          refine takeH (i := 14) (some 127) rfl rfl (by kernel_rfl) (by kernel_rfl) (by kernel_rfl) (fun _ _ _ h => h) (gRun (by kernel_rfl) (.agg ([vD, vT]).toArray) fun _ h => run_loadA ag24 (.tmp 10) rfl qt (0) rfl ([vD, vT]) rfl (fun j v hv => by rw [Nat.zero_add]; exact h.2.2.row.at j v hv)) ⟨HS.out, HG.out, HT.out⟩ ?_
          simp only [Act.put, List.setIfInBounds_toArray, List.set_cons_succ, List.set_cons_zero]
          refine takeH (i := 16) (some 129) rfl rfl (by kernel_rfl) (by kernel_rfl) (by kernel_rfl) (fun _ _ _ h => h) (gRun (by kernel_rfl) (.agg ([vd, vt]).toArray) fun _ h => run_loadA ag24 (.tmp 4) rfl qs (0) rfl ([vd, vt]) rfl (fun j v hv => by rw [Nat.zero_add]; exact h.1.row.at j v hv)) ⟨HS.out, HG.out, HT.out⟩ ?_
          simp only [Act.put, List.setIfInBounds_toArray, List.set_cons_succ, List.set_cons_zero]
          refine oneH (i := 15) (by kernel_rfl) ?_
          refine opCallG (some 128) rfl rfl (by kernel_rfl) 12 _ (run_call eN12 [.tmp 127] _ rfl [(.agg ([vD, vT]).toArray)] rfl) ?_
          refine (sectors_any u14 vD vT es (ts) HT.out.sh).mono ?_
          rintro e u15 ⟨rfl, bW⟩
          refine ⟨_, rfl, ?_⟩
          rw [← HN2.out.2]
          have HW_ : Hid (Below w.heap.size w u15) := belowNext HW.out bW
          clear HW
          have HW := HW_
          clear HW_
          have HM_ : Hid (IntsIn u15 vm ms) := HM.out.later bW
          clear HM
          have HM := HM_
          clear HM_
          have HS_ : Hid (ShB u15 qs vd vt ds ts) := HS.out.later bW
          clear HS
          have HS := HS_
          clear HS_
          have HG_ : Hid (CfB u15 qc r) := HG.out.later bW
          clear HG
          have HG := HG_
          clear HG_
          have HT_ : Hid (ShB u15 qt vD vT es ts) := HT.out.later bW
          clear HT
          have HT := HT_
          clear HT_
          clear bW
          refine ⟨⟨HS.out, HG.out, HT.out⟩, ?_⟩
          simp only [Act.put, List.setIfInBounds_toArray, List.set_cons_succ, List.set_cons_zero]
          refine oneH (i := 17) (by kernel_rfl) ?_
          refine opCallG (some 130) rfl rfl (by kernel_rfl) 12 _ (run_call eN12 [.tmp 129] _ rfl [(.agg ([vd, vt]).toArray)] rfl) ?_
          refine (sectors_any u15 vd vt ds ts HS.out.sh).mono ?_
          rintro e u16 ⟨rfl, bW⟩
          refine ⟨_, rfl, ?_⟩
          rw [← HNK.out.2]
          have HW_ : Hid (Below w.heap.size w u16) := belowNext HW.out bW
          clear HW
          have HW := HW_
          clear HW_
          have HM_ : Hid (IntsIn u16 vm ms) := HM.out.later bW
          clear HM
          have HM := HM_
          clear HM_
          have HS_ : Hid (ShB u16 qs vd vt ds ts) := HS.out.later bW
          clear HS
          have HS := HS_
          clear HS_
          have HG_ : Hid (CfB u16 qc r) := HG.out.later bW
          clear HG
          have HG := HG_
          clear HG_
          have HT_ : Hid (ShB u16 qt vD vT es ts) := HT.out.later bW
          clear HT
          have HT := HT_
          clear HT_
          clear bW
          refine ⟨⟨HS.out, HG.out, HT.out⟩, ?_⟩
          simp only [Act.put, List.setIfInBounds_toArray, List.set_cons_succ, List.set_cons_zero]
          refine takeH (i := 18) (some 131) rfl rfl (by kernel_rfl) (by kernel_rfl) (by kernel_rfl) (fun _ _ _ h => h) (gRun (by kernel_rfl) (.bool true) fun _ h => run_geqZ (.tmp 128) (.tmp 130) rfl k2 k rfl rfl true (decide_eq_true kk)) ⟨HS.out, HG.out, HT.out⟩ ?_
          simp only [Act.put, List.setIfInBounds_toArray, List.set_cons_succ, List.set_cons_zero]
          refine takeH (i := 19) (some 132) rfl rfl (by kernel_rfl) (by kernel_rfl) (by kernel_rfl) (fun _ _ _ h => h) (gRun rfl (.bool true) fun _ h => run_pickZ (.tmp 126) (.tmp 131) (.const (.bool false)) rfl true (.bool true) rfl rfl) ⟨HS.out, HG.out, HT.out⟩ ?_
          simp only [Act.put, List.setIfInBounds_toArray, List.set_cons_succ, List.set_cons_zero]
          refine takeH (i := 20) (some 8) rfl rfl (by kernel_rfl) (by kernel_rfl) (by kernel_rfl) (fun _ _ _ h => h) (gRun rfl (.bool true) fun _ h => run_asZ (.tmp 132) rfl (.bool true) rfl) ⟨HS.out, HG.out, HT.out⟩ ?_
          simp only [Act.put, List.setIfInBounds_toArray, List.set_cons_succ, List.set_cons_zero]
          refine wpAnyH_done (by kernel_rfl) ?_ _
          go_wp2_with fail
          rw [HPQ.out]
          exact ⟨rfl, HW.out⟩

end Go.Proofs.Ytbmlbnbhjligdaa

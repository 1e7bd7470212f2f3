/- What a shape holds has room in all its parts: the law. -/
import Derived.Test.YtbmlbnbhjligdaaI9
import Derived.Test.YtbmlbnbhjligdaaI10
namespace Go.Proofs.Ytbmlbnbhjligdaa
open Go.RowKit Go.MapKept

/-- what is left of a quotient -/
theorem run_remZ {w : World} {a : Act} {o : Oper} (x y : Operand) (ho : o.op = .binOp .rem 3 x y 3) (z k r : Int) (hx : a.eval x = .int .i64 z) (hy : a.eval y = .int .i64 k) (hk : k ≠ 0) (hr : Int.tmod z k = r) : (execOp a.eval o).run Try.prog w = .ok (.value (.int .i64 r)) w := by
  subst hr
  simp only [execOp, ho, hx, hy]
  simp [go_sem, hk]
/-- what is known of a shape that may be -/
theorem mayOk_facts (ds ts : List Int) (r : Int) (h : mayOk ds ts r = true) : ds.length = 3 ∧ 0 < ts.length ∧ ts.length ≤ 9 ∧ 1 ≤ r ∧ r ≤ 4 ∧ r ≤ (ts.length : Int) ∧ (64 ≤ nth ds 0 ∧ nth ds 0 ≤ 4096) ∧ (386 ≤ nth ds 1 ∧ nth ds 1 ≤ 4096) ∧ (32 ≤ nth ds 2 ∧ nth ds 2 ≤ 4096) ∧ ∀ t ∈ ts, 12 ≤ t ∧ t ≤ 4096 := by
  by_cases hc : 1 ≤ r ∧ r ≤ 4 ∧ ds.length = 3 ∧ r ≤ (ts.length : Int) ∧ ts.length ≤ 9
  · rw [mayOk_yes _ _ _ hc] at h
    have h2 := (wideOk_iff _ _ _ ts (by omega)).1 h
    obtain ⟨c1, c2, c3, c4, c5⟩ := hc
    obtain ⟨⟨x0, x1, x2⟩, ht, y0, y1, y2⟩ := h2
    exact ⟨c3, by omega, c5, c1, c2, c4, ⟨y0, x0⟩, ⟨y1, x1⟩, ⟨y2, x2⟩, ht⟩
  · rw [mayOk_no _ _ _ hc] at h
    cases h
/-- and the other way round -/
theorem mayOk_of (ds ts : List Int) (r : Int) (h : ds.length = 3 ∧ 0 < ts.length ∧ ts.length ≤ 9 ∧ 1 ≤ r ∧ r ≤ 4 ∧ r ≤ (ts.length : Int) ∧ (64 ≤ nth ds 0 ∧ nth ds 0 ≤ 4096) ∧ (386 ≤ nth ds 1 ∧ nth ds 1 ≤ 4096) ∧ (32 ≤ nth ds 2 ∧ nth ds 2 ≤ 4096) ∧ ∀ t ∈ ts, 12 ≤ t ∧ t ≤ 4096) : mayOk ds ts r = true := by
  obtain ⟨c3, c0, c5, c1, c2, c4, ⟨y0, x0⟩, ⟨y1, x1⟩, ⟨y2, x2⟩, ht⟩ := h
  rw [mayOk_yes _ _ _ ⟨c1, c2, c3, c4, c5⟩]
  exact (wideOk_iff _ _ _ ts c0).2 ⟨⟨x0, x1, x2⟩, ht, y0, y1, y2⟩
/-- the objects that are held for certain, of a disk's sectors -/
theorem putsZ_is (ds : List Int) (h3 : ds.length = 3) (h1 : 386 ≤ nth ds 1) (h2 : nth ds 1 ≤ 4096) (q p : Int) (hq : Int.tdiv (nth ds 1 - 2) 8 = q) (hp : p = min q 384) : 48 ≤ p ∧ p ≤ 384 ∧ putsZ ds = max (Int.tdiv (Int.tdiv (p - 32) 3 - 1) 3) 0 := by
  have e : pagesZ (nth ds 1) = p := by
    unfold pagesZ
    rw [hp, ← hq, show min (nth ds 1) 4096 = nth ds 1 by omega]
  rw [tdiv_nn _ _ (by omega) (by decide)] at hq
  refine ⟨by omega, by omega, ?_⟩
  unfold putsZ
  rw [if_neg (by omega), e]
theorem puts_room (p t n : Int) (h0 : 48 ≤ p) (h1 : p ≤ 384) (ht : Int.tdiv (p - 32) 3 = t) (hn : n = max (Int.tdiv (t - 1) 3) 0) : 1 ≤ n ∧ n ≤ 39 ∧ 0 ≤ t ∧ t ≤ 118 ∧ 3 * n + 1 ≤ t ∧ t < 3 * (n + 1) + 1 := by
  rw [tdiv_nn _ _ (by omega) (by decide)] at ht
  rw [tdiv_nn _ _ (by omega) (by decide)] at hn
  omega
theorem sect_room (ds : List Int) (h3 : ds.length = 3) (h1 : 32 ≤ nth ds 2) (h2 : nth ds 2 ≤ 4096) (k : Int) (hk : k = sectZ ds) : 8 ≤ k ∧ k ≤ 2040 ∧ Int.tmod k 8 = 0 ∧ 2 * k ≤ nth ds 2 - 16 ∧ nth ds 2 - 32 < 2 * (k + 8) := by
  have e : k = 8 * (nth ds 2 / 16 - 1) := by
    rw [hk]
    unfold sectZ
    rw [if_neg (by omega), show min (nth ds 2) 4096 = nth ds 2 by omega, tdiv_nn _ _ (by omega) (by decide)]
  have em : Int.tmod k 8 = k % 8 := Int.tmod_eq_emod_of_nonneg (by omega)
  rw [em]
  refine ⟨by omega, by omega, by omega, by omega, by omega⟩
set_option maxHeartbeats 1000000 in
set_option maxRecDepth 100000 in
theorem quotaKeys_any (w : World) (vd vt : Value) (ds ts : List Int) (hs : ShIn w vd vt ds ts) (r : Int) : Calls Try.prog 6 #[.agg #[vd, vt], .agg #[.int .i64 r]] w fun e w' => e = .returned (.bool true) ∧ Below w.heap.size w w' := by
  have HI : Hid (ShIn w vd vt ds ts) := hs
  clear hs
  have HW : Hid (Below w.heap.size w w) := Below.refl _ _
  obtain ⟨y, hy⟩ : ∃ y, y = mayOk ds ts r := ⟨_, rfl⟩
  have HY : Hid (y = mayOk ds ts r) := hy
  clear hy
  obtain ⟨PQ, HPQ⟩ : ∃ PQ : Ending → World → Prop, Hid (PQ = fun (e : Ending) (w' : World) => e = .returned (.bool true) ∧ Below w.heap.size w w') := ⟨_, rfl⟩
  rw [← HPQ.out]
  go_enter Try.func6, Try.ntmps6
  go_upto_region 0 with fail
  refine wp_region_lit ?_
  refine wl rfl (ptr w.heap.size) _ (run_boxA (.tmp 0) rfl ([vd, vt]) rfl) ?_
  have r_ := Row.new w 24 ([vd, vt])
  have bW := below_alloc w (.cells ([vd, vt]).toArray 24)
  obtain ⟨u1, hW_⟩ : ∃ W, W = w.alloc (.cells ([vd, vt]).toArray 24) := ⟨_, rfl⟩
  obtain ⟨qs, hq_⟩ : ∃ q, q = w.heap.size := ⟨_, rfl⟩
  rw [← hW_, ← hq_] at r_
  rw [← hW_] at bW
  rw [← hW_, ← hq_]
  clear hW_ hq_
  have HW_ : Hid (Below w.heap.size w u1) := belowNext HW.out bW
  clear HW
  have HW := HW_
  clear HW_
  have HI_ : Hid (ShIn u1 vd vt ds ts) := HI.out.later bW
  clear HI
  have HI := HI_
  clear HI_
  have HS : Hid (ShB u1 qs vd vt ds ts) := ⟨r_, HI.out⟩
  clear r_ bW
  simp only [Act.put, List.setIfInBounds_toArray, List.set_cons_succ, List.set_cons_zero]
  refine wl rfl (ptr u1.heap.size) _ (run_boxA (.tmp 1) rfl ([.int .i64 r]) rfl) ?_
  have r_ := Row.new u1 26 ([.int .i64 r])
  have bW := below_alloc u1 (.cells ([.int .i64 r]).toArray 26)
  obtain ⟨u2, hW_⟩ : ∃ W, W = u1.alloc (.cells ([.int .i64 r]).toArray 26) := ⟨_, rfl⟩
  obtain ⟨qc, hq_⟩ : ∃ q, q = u1.heap.size := ⟨_, rfl⟩
  rw [← hW_, ← hq_] at r_
  rw [← hW_] at bW
  rw [← hW_, ← hq_]
  clear hW_ hq_
  have HW_ : Hid (Below w.heap.size w u2) := belowNext HW.out bW
  clear HW
  have HW := HW_
  clear HW_
  have HI_ : Hid (ShIn u2 vd vt ds ts) := HI.out.later bW
  clear HI
  have HI := HI_
  clear HI_
  have HS_ : Hid (ShB u2 qs vd vt ds ts) := HS.out.later bW
  clear HS
  have HS := HS_
  clear HS_
  have HG : Hid (CfB u2 qc r) := ⟨r_⟩
  clear r_ bW
  simp only [Act.put, List.setIfInBounds_toArray, List.set_cons_succ, List.set_cons_zero]
  refine wl rfl (.bool false) _ (run_asZ (.const (.bool false)) rfl (.bool false) rfl) ?_
  simp only [Act.put, List.setIfInBounds_toArray, List.set_cons_succ, List.set_cons_zero]
  refine wpList_nil ?_
  clear HI
  go_upto_region 1 with fail
  refine wp_region_lit ?_
  refine wpList_callW eN7 [] _ (by kernel_rfl) rfl [] rfl ?_
  refine (shown_any u2).mono ?_
  rintro e u3 ⟨rfl, bW⟩
  refine ⟨_, rfl, ?_⟩
  have HW_ : Hid (Below w.heap.size w u3) := belowNext HW.out bW
  clear HW
  have HW := HW_
  clear HW_
  have HS_ : Hid (ShB u3 qs vd vt ds ts) := HS.out.later bW
  clear HS
  have HS := HS_
  clear HS_
  have HG_ : Hid (CfB u3 qc r) := HG.out.later bW
  clear HG
  have HG := HG_
  clear HG_
  clear bW
  simp only [Act.put, List.setIfInBounds_toArray, List.set_cons_succ, List.set_cons_zero]
  refine wl rfl (.bool true) _ (run_asZ (.tmp 9) rfl (.bool true) rfl) ?_
  simp only [Act.put, List.setIfInBounds_toArray, List.set_cons_succ, List.set_cons_zero]
  refine wpList_nil ?_
  go_upto_region 2 with fail
  refine wp_region_lit ?_
  refine wl rfl (.bool true) _ (run_mvZ (.tmp 5) rfl (.bool true) rfl) ?_
  simp only [Act.put, List.setIfInBounds_toArray, List.set_cons_succ, List.set_cons_zero]
  refine wl rfl (.bool false) _ (run_not (.tmp 10) 4 rfl true rfl) ?_
  simp only [Act.put, List.setIfInBounds_toArray, List.set_cons_succ, List.set_cons_zero]
  refine wpList_nil ?_
  cases y with
  | false =>
    go_upto_region 4 with fail
    refine wp_region_lit ?_
    refine wl rfl (.agg ([vd, vt]).toArray) _ (run_loadA ag24 (.tmp 2) rfl qs (0) rfl ([vd, vt]) rfl (fun j v hv => by rw [Nat.zero_add]; exact HS.out.row.at j v hv)) ?_
    simp only [Act.put, List.setIfInBounds_toArray, List.set_cons_succ, List.set_cons_zero]
    refine wl rfl (.agg ([.int .i64 r]).toArray) _ (run_loadA ag26 (.tmp 3) rfl qc (0) rfl ([.int .i64 r]) rfl (fun j v hv => by rw [Nat.zero_add]; exact HG.out.row.at j v hv)) ?_
    simp only [Act.put, List.setIfInBounds_toArray, List.set_cons_succ, List.set_cons_zero]
    refine wpList_callW eN8 [.tmp 12, .tmp 13] _ (by kernel_rfl) rfl [(.agg ([vd, vt]).toArray), (.agg ([.int .i64 r]).toArray)] rfl ?_
    refine (may_any u3 vd vt ds ts HS.out.sh r).mono ?_
    rintro e u4 ⟨rfl, bW⟩
    refine ⟨_, rfl, ?_⟩
    rw [← HY.out]
    have HW_ : Hid (Below w.heap.size w u4) := belowNext HW.out bW
    clear HW
    have HW := HW_
    clear HW_
    have HS_ : Hid (ShB u4 qs vd vt ds ts) := HS.out.later bW
    clear HS
    have HS := HS_
    clear HS_
    have HG_ : Hid (CfB u4 qc r) := HG.out.later bW
    clear HG
    have HG := HG_
    clear HG_
    clear bW
    simp only [Act.put, List.setIfInBounds_toArray, List.set_cons_succ, List.set_cons_zero]
    refine wl rfl (.bool true) _ (run_not (.tmp 14) 4 rfl false rfl) ?_
    simp only [Act.put, List.setIfInBounds_toArray, List.set_cons_succ, List.set_cons_zero]
    refine wpList_nil ?_
    go_upto_region 5 with fail
    refine wp_region_lit ?_
    refine wl rfl (.bool true) _ (run_mvZ (.tmp 5) rfl (.bool true) rfl) ?_
    simp only [Act.put, List.setIfInBounds_toArray, List.set_cons_succ, List.set_cons_zero]
    refine wl rfl (.bool true) _ (run_asZ (.tmp 16) rfl (.bool true) rfl) ?_
    simp only [Act.put, List.setIfInBounds_toArray, List.set_cons_succ, List.set_cons_zero]
    refine wpList_nil ?_
    go_wp2_with fail
    rw [HPQ.out]
    exact ⟨rfl, HW.out⟩
  | true =>
    go_upto_region 4 with fail
    refine wp_region_lit ?_
    refine wl rfl (.agg ([vd, vt]).toArray) _ (run_loadA ag24 (.tmp 2) rfl qs (0) rfl ([vd, vt]) rfl (fun j v hv => by rw [Nat.zero_add]; exact HS.out.row.at j v hv)) ?_
    simp only [Act.put, List.setIfInBounds_toArray, List.set_cons_succ, List.set_cons_zero]
    refine wl rfl (.agg ([.int .i64 r]).toArray) _ (run_loadA ag26 (.tmp 3) rfl qc (0) rfl ([.int .i64 r]) rfl (fun j v hv => by rw [Nat.zero_add]; exact HG.out.row.at j v hv)) ?_
    simp only [Act.put, List.setIfInBounds_toArray, List.set_cons_succ, List.set_cons_zero]
    refine wpList_callW eN8 [.tmp 12, .tmp 13] _ (by kernel_rfl) rfl [(.agg ([vd, vt]).toArray), (.agg ([.int .i64 r]).toArray)] rfl ?_
    refine (may_any u3 vd vt ds ts HS.out.sh r).mono ?_
    rintro e u4 ⟨rfl, bW⟩
    refine ⟨_, rfl, ?_⟩
    rw [← HY.out]
    have HW_ : Hid (Below w.heap.size w u4) := belowNext HW.out bW
    clear HW
    have HW := HW_
    clear HW_
    have HS_ : Hid (ShB u4 qs vd vt ds ts) := HS.out.later bW
    clear HS
    have HS := HS_
    clear HS_
    have HG_ : Hid (CfB u4 qc r) := HG.out.later bW
    clear HG
    have HG := HG_
    clear HG_
    clear bW
    simp only [Act.put, List.setIfInBounds_toArray, List.set_cons_succ, List.set_cons_zero]
    refine wl rfl (.bool false) _ (run_not (.tmp 14) 4 rfl true rfl) ?_
    simp only [Act.put, List.setIfInBounds_toArray, List.set_cons_succ, List.set_cons_zero]
    refine wpList_nil ?_
    have HM := mayOk_facts ds ts r HY.out.symm
    obtain ⟨h3, -, -, -, -, -, -, ⟨m1, m2⟩, ⟨m3, m4⟩, -⟩ := HM
    have H3 : Hid (ds.length = 3) := h3
    clear h3 HY
    go_upto_region 6 with fail
    refine wp_region_lit ?_
    refine wl rfl (.pointer (some ⟨qs, 0 + 0, none⟩)) _ (run_fieldOp' f24_0 (.tmp 2) rfl qs (0) rfl) ?_
    simp only [Act.put, List.setIfInBounds_toArray, List.set_cons_succ, List.set_cons_zero]
    refine wl rfl vd _ (run_load1 o22 (.tmp 17) rfl qs (0 + 0) rfl vd (HS.out.row.at (0 + 0) _ rfl)) ?_
    simp only [Act.put, List.setIfInBounds_toArray, List.set_cons_succ, List.set_cons_zero]
    refine wl rfl (.int .i64 (ds.length : Nat)) _ (run_lenI (.tmp 18) rfl vd ds rfl HS.out.sh.d) ?_
    simp only [Act.put, List.setIfInBounds_toArray, List.set_cons_succ, List.set_cons_zero]
    refine wl rfl (.bool false) _ (run_neZ (.tmp 19) (.const (.int .i64 3)) rfl (ds.length : Nat) 3 rfl rfl false (by rw [H3.out]; decide)) ?_
    simp only [Act.put, List.setIfInBounds_toArray, List.set_cons_succ, List.set_cons_zero]
    refine wpList_nil ?_
    obtain ⟨b1, j1, q1, c1⟩ := HS.out.sh.d.ix 1 (by rw [H3.out]; decide)
    obtain ⟨b2, j2, q2, c2⟩ := HS.out.sh.d.ix 2 (by rw [H3.out]; decide)
    obtain ⟨n, hn⟩ : ∃ n, n = putsZ ds := ⟨_, rfl⟩
    obtain ⟨k, hk⟩ : ∃ n, n = sectZ ds := ⟨_, rfl⟩
    obtain ⟨q, hq⟩ : ∃ q, Int.tdiv (nth ds 1 - 2) 8 = q := ⟨_, rfl⟩
    obtain ⟨p, hp⟩ : ∃ p, p = min q 384 := ⟨_, rfl⟩
    obtain ⟨p1, p2, hn2⟩ := putsZ_is ds H3.out m1 m2 q p hq hp
    obtain ⟨t, ht⟩ : ∃ t, Int.tdiv (p - 32) 3 = t := ⟨_, rfl⟩
    rw [ht, ← hn] at hn2
    obtain ⟨n1, n2, n3, n4, n5, n6⟩ := puts_room p t n p1 p2 ht hn2
    obtain ⟨k1, k2, k3, k4, k5⟩ := sect_room ds H3.out m3 m4 k hk
    obtain ⟨x1, hx1⟩ : ∃ x, x = nth ds 1 := ⟨_, rfl⟩
    obtain ⟨x2, hx2⟩ : ∃ x, x = nth ds 2 := ⟨_, rfl⟩
    rw [← hx1] at c1 m1 m2 hq
    rw [← hx2] at c2 m3 m4 k4 k5
    have hqb : 0 ≤ q ∧ q ≤ 1000 := by rw [tdiv_nn _ _ (by omega) (by decide)] at hq; omega
    have HQ : Hid (Int.tdiv (x1 - 2) 8 = q ∧ p = min q 384 ∧ Int.tdiv (p - 32) 3 = t ∧ n = putsZ ds ∧ k = sectZ ds ∧ Int.tmod k 8 = 0) := ⟨hq, hp, ht, hn, hk, k3⟩
    have HX : Hid ((∀ w', (Instr.indexAt 22 vd (.int .i64 1)).run Try.prog w' = .ok (.pointer (some ⟨b1, j1, none⟩)) w') ∧ ∀ w', (Instr.indexAt 22 vd (.int .i64 2)).run Try.prog w' = .ok (.pointer (some ⟨b2, j2, none⟩)) w') := ⟨q1, q2⟩
    have C1 : Hid (CellI u4 b1 j1 x1) := ⟨c1⟩
    have C2 : Hid (CellI u4 b2 j2 x2) := ⟨c2⟩
    clear q1 q2 c1 c2 hq hp ht hn hn2 hk k3 hx1 hx2
    go_upto_region 8 with fail
    refine wp_region_lit ?_
    refine wl rfl (.pointer (some ⟨qs, 0 + 0, none⟩)) _ (run_fieldOp' f24_0 (.tmp 2) rfl qs (0) rfl) ?_
    simp only [Act.put, List.setIfInBounds_toArray, List.set_cons_succ, List.set_cons_zero]
    refine wl rfl vd _ (run_load1 o22 (.tmp 21) rfl qs (0 + 0) rfl vd (HS.out.row.at (0 + 0) _ rfl)) ?_
    simp only [Act.put, List.setIfInBounds_toArray, List.set_cons_succ, List.set_cons_zero]
    refine wl rfl (.pointer (some ⟨b1, j1, none⟩)) _ (run_idx (.tmp 22) (.const (.int .i64 1)) rfl vd _ _ rfl rfl HX.out.1) ?_
    simp only [Act.put, List.setIfInBounds_toArray, List.set_cons_succ, List.set_cons_zero]
    refine wl rfl (.int .i64 x1) _ (run_load1 o3 (.tmp 23) rfl b1 (j1) rfl (.int .i64 x1) C1.out.c) ?_
    simp only [Act.put, List.setIfInBounds_toArray, List.set_cons_succ, List.set_cons_zero]
    refine wl rfl (.int .i64 (x1 - 2)) _ (run_subZ (.tmp 24) (.const (.int .i64 2)) rfl x1 2 _ rfl rfl rfl (by omega) (by omega)) ?_
    simp only [Act.put, List.setIfInBounds_toArray, List.set_cons_succ, List.set_cons_zero]
    refine wl rfl (.int .i64 q) _ (run_quoZ (.tmp 25) (.const (.int .i64 8)) rfl (x1 - 2) 8 q rfl rfl (by decide) HQ.out.1 (by omega) (by omega)) ?_
    simp only [Act.put, List.setIfInBounds_toArray, List.set_cons_succ, List.set_cons_zero]
    refine wl rfl (.int .i64 p) _ (by rw [HQ.out.2.1]; exact run_minZ (.tmp 26) (.const (.int .i64 384)) rfl q 384 rfl rfl) ?_
    simp only [Act.put, List.setIfInBounds_toArray, List.set_cons_succ, List.set_cons_zero]
    refine wl rfl (.int .i64 p) _ (run_asZ (.tmp 27) rfl (.int .i64 p) rfl) ?_
    simp only [Act.put, List.setIfInBounds_toArray, List.set_cons_succ, List.set_cons_zero]
    refine wpList_nil ?_
    go_upto_region 9 with fail
    refine wp_region_lit ?_
    refine wl rfl (.agg ([vd, vt]).toArray) _ (run_loadA ag24 (.tmp 2) rfl qs (0) rfl ([vd, vt]) rfl (fun j v hv => by rw [Nat.zero_add]; exact HS.out.row.at j v hv)) ?_
    simp only [Act.put, List.setIfInBounds_toArray, List.set_cons_succ, List.set_cons_zero]
    refine wpList_callW eN10 [.tmp 28] _ (by kernel_rfl) rfl [(.agg ([vd, vt]).toArray)] rfl ?_
    refine (puts_any u4 vd vt ds ts HS.out.sh).mono ?_
    rintro e u5 ⟨rfl, bW⟩
    refine ⟨_, rfl, ?_⟩
    rw [← HQ.out.2.2.2.1]
    have HW_ : Hid (Below w.heap.size w u5) := belowNext HW.out bW
    clear HW
    have HW := HW_
    clear HW_
    have HS_ : Hid (ShB u5 qs vd vt ds ts) := HS.out.later bW
    clear HS
    have HS := HS_
    clear HS_
    have HG_ : Hid (CfB u5 qc r) := HG.out.later bW
    clear HG
    have HG := HG_
    clear HG_
    have C1_ : Hid (CellI u5 b1 j1 x1) := C1.out.later bW
    clear C1
    have C1 := C1_
    clear C1_
    have C2_ : Hid (CellI u5 b2 j2 x2) := C2.out.later bW
    clear C2
    have C2 := C2_
    clear C2_
    clear bW
    simp only [Act.put, List.setIfInBounds_toArray, List.set_cons_succ, List.set_cons_zero]
    refine wl rfl (.int .i64 n) _ (run_asZ (.tmp 29) rfl (.int .i64 n) rfl) ?_
    simp only [Act.put, List.setIfInBounds_toArray, List.set_cons_succ, List.set_cons_zero]
    refine wpList_nil ?_
    go_upto_region 10 with fail
    refine wp_region_lit ?_
    refine wl rfl (.agg ([vd, vt]).toArray) _ (run_loadA ag24 (.tmp 2) rfl qs (0) rfl ([vd, vt]) rfl (fun j v hv => by rw [Nat.zero_add]; exact HS.out.row.at j v hv)) ?_
    simp only [Act.put, List.setIfInBounds_toArray, List.set_cons_succ, List.set_cons_zero]
    refine wpList_callW eN12 [.tmp 30] _ (by kernel_rfl) rfl [(.agg ([vd, vt]).toArray)] rfl ?_
    refine (sectors_any u5 vd vt ds ts HS.out.sh).mono ?_
    rintro e u6 ⟨rfl, bW⟩
    refine ⟨_, rfl, ?_⟩
    rw [← HQ.out.2.2.2.2.1]
    have HW_ : Hid (Below w.heap.size w u6) := belowNext HW.out bW
    clear HW
    have HW := HW_
    clear HW_
    have HS_ : Hid (ShB u6 qs vd vt ds ts) := HS.out.later bW
    clear HS
    have HS := HS_
    clear HS_
    have HG_ : Hid (CfB u6 qc r) := HG.out.later bW
    clear HG
    have HG := HG_
    clear HG_
    have C1_ : Hid (CellI u6 b1 j1 x1) := C1.out.later bW
    clear C1
    have C1 := C1_
    clear C1_
    have C2_ : Hid (CellI u6 b2 j2 x2) := C2.out.later bW
    clear C2
    have C2 := C2_
    clear C2_
    clear bW
    simp only [Act.put, List.setIfInBounds_toArray, List.set_cons_succ, List.set_cons_zero]
    refine wl rfl (.int .i64 k) _ (run_asZ (.tmp 31) rfl (.int .i64 k) rfl) ?_
    simp only [Act.put, List.setIfInBounds_toArray, List.set_cons_succ, List.set_cons_zero]
    refine wpList_nil ?_
    go_upto_region 11 with fail
    refine wp_region_lit ?_
    refine wl rfl (.bool true) _ (run_mvZ (.tmp 5) rfl (.bool true) rfl) ?_
    simp only [Act.put, List.setIfInBounds_toArray, List.set_cons_succ, List.set_cons_zero]
    refine wl rfl (.bool true) _ (run_mvZ (.tmp 32) rfl (.bool true) rfl) ?_
    simp only [Act.put, List.setIfInBounds_toArray, List.set_cons_succ, List.set_cons_zero]
    refine wl (by kernel_rfl) (.int .i64 n) _ (run_mvZ (.tmp 7) rfl (.int .i64 n) rfl) ?_
    simp only [Act.put, List.setIfInBounds_toArray, List.set_cons_succ, List.set_cons_zero]
    refine wl (by kernel_rfl) (.int .i64 (3 * n)) _ (run_mulZ (.const (.int .i64 3)) (.tmp 34) rfl 3 n _ rfl rfl rfl (by omega) (by omega)) ?_
    simp only [Act.put, List.setIfInBounds_toArray, List.set_cons_succ, List.set_cons_zero]
    refine wl (by kernel_rfl) (.int .i64 (3 * n + 1)) _ (run_addZ (.tmp 35) (.const (.int .i64 1)) rfl (3 * n) 1 _ rfl rfl rfl (by omega) (by omega)) ?_
    simp only [Act.put, List.setIfInBounds_toArray, List.set_cons_succ, List.set_cons_zero]
    refine wl (by kernel_rfl) (.int .i64 p) _ (run_mvZ (.tmp 6) rfl (.int .i64 p) rfl) ?_
    simp only [Act.put, List.setIfInBounds_toArray, List.set_cons_succ, List.set_cons_zero]
    refine wl (by kernel_rfl) (.int .i64 (p - 32)) _ (run_subZ (.tmp 37) (.const (.int .i64 32)) rfl p 32 _ rfl rfl rfl (by omega) (by omega)) ?_
    simp only [Act.put, List.setIfInBounds_toArray, List.set_cons_succ, List.set_cons_zero]
    refine wl (by kernel_rfl) (.int .i64 t) _ (run_quoZ (.tmp 38) (.const (.int .i64 3)) rfl (p - 32) 3 t rfl rfl (by decide) HQ.out.2.2.1 (by omega) (by omega)) ?_
    simp only [Act.put, List.setIfInBounds_toArray, List.set_cons_succ, List.set_cons_zero]
    refine wl (by kernel_rfl) (.bool true) _ (run_leqZ (.tmp 36) (.tmp 39) rfl (3 * n + 1) t rfl rfl true (decide_eq_true n5)) ?_
    simp only [Act.put, List.setIfInBounds_toArray, List.set_cons_succ, List.set_cons_zero]
    refine wl rfl (.bool true) _ (run_pickZ (.tmp 33) (.tmp 40) (.const (.bool false)) rfl true (.bool true) rfl rfl) ?_
    simp only [Act.put, List.setIfInBounds_toArray, List.set_cons_succ, List.set_cons_zero]
    refine wl rfl (.bool true) _ (run_mvZ (.tmp 41) rfl (.bool true) rfl) ?_
    simp only [Act.put, List.setIfInBounds_toArray, List.set_cons_succ, List.set_cons_zero]
    refine wl (by kernel_rfl) (.int .i64 n) _ (run_mvZ (.tmp 7) rfl (.int .i64 n) rfl) ?_
    simp only [Act.put, List.setIfInBounds_toArray, List.set_cons_succ, List.set_cons_zero]
    refine wl (by kernel_rfl) (.int .i64 (n + 1)) _ (run_addZ (.tmp 43) (.const (.int .i64 1)) rfl n 1 _ rfl rfl rfl (by omega) (by omega)) ?_
    simp only [Act.put, List.setIfInBounds_toArray, List.set_cons_succ, List.set_cons_zero]
    refine wl (by kernel_rfl) (.int .i64 (3 * (n + 1))) _ (run_mulZ (.const (.int .i64 3)) (.tmp 44) rfl 3 (n + 1) _ rfl rfl rfl (by omega) (by omega)) ?_
    simp only [Act.put, List.setIfInBounds_toArray, List.set_cons_succ, List.set_cons_zero]
    refine wl (by kernel_rfl) (.int .i64 (3 * (n + 1) + 1)) _ (run_addZ (.tmp 45) (.const (.int .i64 1)) rfl (3 * (n + 1)) 1 _ rfl rfl rfl (by omega) (by omega)) ?_
    simp only [Act.put, List.setIfInBounds_toArray, List.set_cons_succ, List.set_cons_zero]
    refine wl (by kernel_rfl) (.int .i64 p) _ (run_mvZ (.tmp 6) rfl (.int .i64 p) rfl) ?_
    simp only [Act.put, List.setIfInBounds_toArray, List.set_cons_succ, List.set_cons_zero]
    refine wl (by kernel_rfl) (.int .i64 (p - 32)) _ (run_subZ (.tmp 47) (.const (.int .i64 32)) rfl p 32 _ rfl rfl rfl (by omega) (by omega)) ?_
    simp only [Act.put, List.setIfInBounds_toArray, List.set_cons_succ, List.set_cons_zero]
    refine wl (by kernel_rfl) (.int .i64 t) _ (run_quoZ (.tmp 48) (.const (.int .i64 3)) rfl (p - 32) 3 t rfl rfl (by decide) HQ.out.2.2.1 (by omega) (by omega)) ?_
    simp only [Act.put, List.setIfInBounds_toArray, List.set_cons_succ, List.set_cons_zero]
    refine wl (by kernel_rfl) (.bool true) _ (run_gtrZ (.tmp 46) (.tmp 49) rfl (3 * (n + 1) + 1) t rfl rfl true (decide_eq_true n6)) ?_
    simp only [Act.put, List.setIfInBounds_toArray, List.set_cons_succ, List.set_cons_zero]
    refine wl rfl (.bool true) _ (run_pickZ (.tmp 42) (.tmp 50) (.const (.bool false)) rfl true (.bool true) rfl rfl) ?_
    simp only [Act.put, List.setIfInBounds_toArray, List.set_cons_succ, List.set_cons_zero]
    refine wl rfl (.bool true) _ (run_mvZ (.tmp 51) rfl (.bool true) rfl) ?_
    simp only [Act.put, List.setIfInBounds_toArray, List.set_cons_succ, List.set_cons_zero]
    refine wl (by kernel_rfl) (.int .i64 k) _ (run_mvZ (.tmp 8) rfl (.int .i64 k) rfl) ?_
    simp only [Act.put, List.setIfInBounds_toArray, List.set_cons_succ, List.set_cons_zero]
    refine wl (by kernel_rfl) (.int .i64 0) _ (run_remZ (.tmp 53) (.const (.int .i64 8)) rfl k 8 0 rfl rfl (by decide) HQ.out.2.2.2.2.2) ?_
    simp only [Act.put, List.setIfInBounds_toArray, List.set_cons_succ, List.set_cons_zero]
    refine wl (by kernel_rfl) (.bool true) _ (run_eqZ (.tmp 54) (.const (.int .i64 0)) rfl (0) (0) rfl rfl true rfl) ?_
    simp only [Act.put, List.setIfInBounds_toArray, List.set_cons_succ, List.set_cons_zero]
    refine wl rfl (.bool true) _ (run_pickZ (.tmp 52) (.tmp 55) (.const (.bool false)) rfl true (.bool true) rfl rfl) ?_
    simp only [Act.put, List.setIfInBounds_toArray, List.set_cons_succ, List.set_cons_zero]
    refine wl rfl (.bool true) _ (run_mvZ (.tmp 56) rfl (.bool true) rfl) ?_
    simp only [Act.put, List.setIfInBounds_toArray, List.set_cons_succ, List.set_cons_zero]
    refine wl (by kernel_rfl) (.int .i64 k) _ (run_mvZ (.tmp 8) rfl (.int .i64 k) rfl) ?_
    simp only [Act.put, List.setIfInBounds_toArray, List.set_cons_succ, List.set_cons_zero]
    refine wl (by kernel_rfl) (.int .i64 (2 * k)) _ (run_mulZ (.const (.int .i64 2)) (.tmp 58) rfl 2 k _ rfl rfl rfl (by omega) (by omega)) ?_
    simp only [Act.put, List.setIfInBounds_toArray, List.set_cons_succ, List.set_cons_zero]
    refine wl (by kernel_rfl) (.pointer (some ⟨qs, 0 + 0, none⟩)) _ (run_fieldOp' f24_0 (.tmp 2) rfl qs (0) rfl) ?_
    simp only [Act.put, List.setIfInBounds_toArray, List.set_cons_succ, List.set_cons_zero]
    refine wl (by kernel_rfl) vd _ (run_load1 o22 (.tmp 60) rfl qs (0 + 0) rfl vd (HS.out.row.at (0 + 0) _ rfl)) ?_
    simp only [Act.put, List.setIfInBounds_toArray, List.set_cons_succ, List.set_cons_zero]
    refine wl (by kernel_rfl) (.pointer (some ⟨b2, j2, none⟩)) _ (run_idx (.tmp 61) (.const (.int .i64 2)) rfl vd _ _ rfl rfl HX.out.2) ?_
    simp only [Act.put, List.setIfInBounds_toArray, List.set_cons_succ, List.set_cons_zero]
    refine wl (by kernel_rfl) (.int .i64 x2) _ (run_load1 o3 (.tmp 62) rfl b2 (j2) rfl (.int .i64 x2) C2.out.c) ?_
    simp only [Act.put, List.setIfInBounds_toArray, List.set_cons_succ, List.set_cons_zero]
    refine wl (by kernel_rfl) (.int .i64 (x2 - 16)) _ (run_subZ (.tmp 63) (.const (.int .i64 16)) rfl x2 16 _ rfl rfl rfl (by omega) (by omega)) ?_
    simp only [Act.put, List.setIfInBounds_toArray, List.set_cons_succ, List.set_cons_zero]
    refine wl (by kernel_rfl) (.bool true) _ (run_leqZ (.tmp 59) (.tmp 64) rfl (2 * k) (x2 - 16) rfl rfl true (decide_eq_true k4)) ?_
    simp only [Act.put, List.setIfInBounds_toArray, List.set_cons_succ, List.set_cons_zero]
    refine wl rfl (.bool true) _ (run_pickZ (.tmp 57) (.tmp 65) (.const (.bool false)) rfl true (.bool true) rfl rfl) ?_
    simp only [Act.put, List.setIfInBounds_toArray, List.set_cons_succ, List.set_cons_zero]
    refine wl rfl (.bool true) _ (run_mvZ (.tmp 66) rfl (.bool true) rfl) ?_
    simp only [Act.put, List.setIfInBounds_toArray, List.set_cons_succ, List.set_cons_zero]
    refine wl (by kernel_rfl) (.int .i64 k) _ (run_mvZ (.tmp 8) rfl (.int .i64 k) rfl) ?_
    simp only [Act.put, List.setIfInBounds_toArray, List.set_cons_succ, List.set_cons_zero]
    refine wl (by kernel_rfl) (.int .i64 (k + 8)) _ (run_addZ (.tmp 68) (.const (.int .i64 8)) rfl k 8 _ rfl rfl rfl (by omega) (by omega)) ?_
    simp only [Act.put, List.setIfInBounds_toArray, List.set_cons_succ, List.set_cons_zero]
    refine wl (by kernel_rfl) (.int .i64 (2 * (k + 8))) _ (run_mulZ (.const (.int .i64 2)) (.tmp 69) rfl 2 (k + 8) _ rfl rfl rfl (by omega) (by omega)) ?_
    simp only [Act.put, List.setIfInBounds_toArray, List.set_cons_succ, List.set_cons_zero]
    refine wl (by kernel_rfl) (.pointer (some ⟨qs, 0 + 0, none⟩)) _ (run_fieldOp' f24_0 (.tmp 2) rfl qs (0) rfl) ?_
    simp only [Act.put, List.setIfInBounds_toArray, List.set_cons_succ, List.set_cons_zero]
    refine wl (by kernel_rfl) vd _ (run_load1 o22 (.tmp 71) rfl qs (0 + 0) rfl vd (HS.out.row.at (0 + 0) _ rfl)) ?_
    simp only [Act.put, List.setIfInBounds_toArray, List.set_cons_succ, List.set_cons_zero]
    refine wl (by kernel_rfl) (.pointer (some ⟨b2, j2, none⟩)) _ (run_idx (.tmp 72) (.const (.int .i64 2)) rfl vd _ _ rfl rfl HX.out.2) ?_
    simp only [Act.put, List.setIfInBounds_toArray, List.set_cons_succ, List.set_cons_zero]
    refine wl (by kernel_rfl) (.int .i64 x2) _ (run_load1 o3 (.tmp 73) rfl b2 (j2) rfl (.int .i64 x2) C2.out.c) ?_
    simp only [Act.put, List.setIfInBounds_toArray, List.set_cons_succ, List.set_cons_zero]
    refine wl (by kernel_rfl) (.int .i64 (x2 - 32)) _ (run_subZ (.tmp 74) (.const (.int .i64 32)) rfl x2 32 _ rfl rfl rfl (by omega) (by omega)) ?_
    simp only [Act.put, List.setIfInBounds_toArray, List.set_cons_succ, List.set_cons_zero]
    refine wl (by kernel_rfl) (.bool true) _ (run_gtrZ (.tmp 70) (.tmp 75) rfl (2 * (k + 8)) (x2 - 32) rfl rfl true (decide_eq_true k5)) ?_
    simp only [Act.put, List.setIfInBounds_toArray, List.set_cons_succ, List.set_cons_zero]
    refine wl rfl (.bool true) _ (run_pickZ (.tmp 67) (.tmp 76) (.const (.bool false)) rfl true (.bool true) rfl rfl) ?_
    simp only [Act.put, List.setIfInBounds_toArray, List.set_cons_succ, List.set_cons_zero]
    refine wl rfl (.bool true) _ (run_asZ (.tmp 77) rfl (.bool true) rfl) ?_
    simp only [Act.put, List.setIfInBounds_toArray, List.set_cons_succ, List.set_cons_zero]
    refine wpList_nil ?_
    go_wp2_with fail
    rw [HPQ.out]
    exact ⟨rfl, HW.out⟩

end Go.Proofs.Ytbmlbnbhjligdaa

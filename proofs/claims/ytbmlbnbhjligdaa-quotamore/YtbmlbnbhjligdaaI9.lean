/- The document's own answer whether a shape may be. -/
import Derived.Test.YtbmlbnbhjligdaaI8
namespace Go.Proofs.Ytbmlbnbhjligdaa
open Go.RowKit Go.MapKept

theorem mn_one (x : Int) : mn [x] = x := by simp [mn, mnk, nth]
theorem mx_one (x : Int) : mx [x] = x := by simp [mx, mxk, nth]
/-- that a shape may be, number by number -/
theorem wideOk_iff (x0 x1 x2 : Int) (ts : List Int) (h : 0 < ts.length) : wideOk [x1] [x0] [x2] ts = true ↔ ((x0 ≤ 4096 ∧ x1 ≤ 4096 ∧ x2 ≤ 4096) ∧ (∀ t ∈ ts, 12 ≤ t ∧ t ≤ 4096) ∧ 64 ≤ x0 ∧ 386 ≤ x1 ∧ 32 ≤ x2) := by
  have e1 := le_mn ts h 12
  have e2 := mx_le ts h 4096
  unfold wideOk rowOk
  simp only [mn_one, mx_one, Bool.and_eq_true, decide_eq_true_eq]
  rw [e1, e2]
  constructor
  · rintro ⟨⟨a1, a2⟩, ⟨a3, a4⟩, ⟨a5, a6⟩, a7, a8⟩
    exact ⟨⟨a4, a2, a6⟩, fun t ht => ⟨a7 t ht, a8 t ht⟩, a3, a1, a5⟩
  · rintro ⟨⟨a4, a2, a6⟩, a7, a3, a1, a5⟩
    exact ⟨⟨a1, a2⟩, ⟨a3, a4⟩, ⟨a5, a6⟩, fun t ht => (a7 t ht).1, fun t ht => (a7 t ht).2⟩
theorem nth_mem (l : List Int) (k : Nat) (h : k < l.length) : nth l k ∈ l := by
  rw [nth_at l k h]
  exact List.getElem_mem h
theorem all_nth (l : List Int) (P : Int → Prop) : (∀ t ∈ l, P t) ↔ ∀ k, k < l.length → P (nth l k) :=
  ⟨fun h k hk => h _ (nth_mem l k hk), fun h t ht => by
    obtain ⟨k, hk, rfl⟩ := List.getElem_of_mem ht
    rw [← nth_at l k hk]
    exact h k hk⟩
set_option maxHeartbeats 4000000 in
set_option maxRecDepth 100000 in
theorem refMay_any (w : World) (vd vt : Value) (ds ts : List Int) (hs : ShIn w vd vt ds ts) (r : Int) : Calls Try.prog 9 #[.agg #[vd, vt], .agg #[.int .i64 r]] w fun e w' => e = .returned (.bool (mayOk ds ts r)) ∧ Below w.heap.size w w' := by
  obtain ⟨y, hy⟩ : ∃ y, y = mayOk ds ts r := ⟨_, rfl⟩
  have HV : Hid (y = mayOk ds ts r) := hy
  rw [← hy]
  clear hy
  go_enter Try.func9, Try.ntmps9
  go_upto_region 0 with fail
  refine wp_region_lit ?_
  refine wl_box (.tmp 0) rfl rfl [vd, vt] rfl ?_
  intro w1 r1 s1 b1
  simp only [Act.put, List.setIfInBounds_toArray, List.set_cons_succ, List.set_cons_zero]
  refine wl_box (.tmp 1) rfl rfl [.int .i64 r] rfl ?_
  intro w2 r2 s2 b2
  simp only [Act.put, List.setIfInBounds_toArray, List.set_cons_succ, List.set_cons_zero]
  refine wl rfl _ _ (run_asZ (.const (.bool false)) rfl _ rfl) ?_
  simp only [Act.put, List.setIfInBounds_toArray, List.set_cons_succ, List.set_cons_zero]
  refine wpList_nil ?_
  have r1' := r1.later b2 r1.lt
  have k0 := r1'.at 0 _ rfl
  have k1 := r1'.at 1 _ rfl
  have k2 := r2.at 0 _ rfl
  have HB : Hid (Below w.heap.size w w2) := b1.trans (b2.mono (by omega))
  have HR : Hid (Row w2 w.heap.size 24 [vd, vt]) := r1'
  have HI : Hid (ShIn w2 vd vt ds ts) := (hs.later b1).later b2
  have hl := hs.d.lt
  have hl2 := hs.t.lt
  clear r1 s1 b1 r2 s2 b2 r1' hs
  obtain ⟨B, hB⟩ : ∃ B, B = w.heap.size := ⟨_, rfl⟩
  have HBq : Hid (B = w.heap.size) := hB
  rw [← hB] at k0 k1 HR ⊢
  clear hB
  generalize w1.heap.size = C at k2 ⊢
  by_cases h_t3 : ds.length ≠ 3
  · have t3 : decide ((ds.length : Int) = 3) = false := by simp; omega
    obtain rfl : y = false := by rw [HV.out]; exact mayOk_no _ _ _ (by omega)
    go_wp2_with (first
        | (refine wl_lenI (.tmp 8) rfl rfl vd ds rfl HI.out.d ?_)
        | (refine wl_lenI (.tmp 13) (by kernel_rfl) rfl vt ts rfl HI.out.t ?_)
        | (refine wl_lenI (.tmp 19) (by kernel_rfl) rfl vt ts rfl HI.out.t ?_)
        | (refine wl_lenI (.tmp 35) (by kernel_rfl) rfl vt ts rfl HI.out.t ?_))
    go_ret
    exact ⟨rfl, HB.out⟩
  have t3 : decide ((ds.length : Int) = 3) = true := by simp; omega
  by_cases h_t6 : (ts.length : Int) < 1
  · have t6 : decide ((ts.length : Int) < 1) = true := by simp; omega
    obtain rfl : y = false := by rw [HV.out]; exact mayOk_no _ _ _ (by omega)
    go_wp2_with (first
        | (refine wl_lenI (.tmp 8) rfl rfl vd ds rfl HI.out.d ?_)
        | (refine wl_lenI (.tmp 13) (by kernel_rfl) rfl vt ts rfl HI.out.t ?_)
        | (refine wl_lenI (.tmp 19) (by kernel_rfl) rfl vt ts rfl HI.out.t ?_)
        | (refine wl_lenI (.tmp 35) (by kernel_rfl) rfl vt ts rfl HI.out.t ?_))
    go_ret
    exact ⟨rfl, HB.out⟩
  have t6 : decide ((ts.length : Int) < 1) = false := by simp; omega
  by_cases h_t5 : 9 < ts.length
  · have t5 : decide (9 < (ts.length : Int)) = true := by simp; omega
    obtain rfl : y = false := by rw [HV.out]; exact mayOk_no _ _ _ (by omega)
    go_wp2_with (first
        | (refine wl_lenI (.tmp 8) rfl rfl vd ds rfl HI.out.d ?_)
        | (refine wl_lenI (.tmp 13) (by kernel_rfl) rfl vt ts rfl HI.out.t ?_)
        | (refine wl_lenI (.tmp 19) (by kernel_rfl) rfl vt ts rfl HI.out.t ?_)
        | (refine wl_lenI (.tmp 35) (by kernel_rfl) rfl vt ts rfl HI.out.t ?_))
    go_ret
    exact ⟨rfl, HB.out⟩
  have t5 : decide (9 < (ts.length : Int)) = false := by simp; omega
  by_cases h_t1 : r < 1
  · have t1 : decide (r < 1) = true := by simp; omega
    obtain rfl : y = false := by rw [HV.out]; exact mayOk_no _ _ _ (by omega)
    go_wp2_with (first
        | (refine wl_lenI (.tmp 8) rfl rfl vd ds rfl HI.out.d ?_)
        | (refine wl_lenI (.tmp 13) (by kernel_rfl) rfl vt ts rfl HI.out.t ?_)
        | (refine wl_lenI (.tmp 19) (by kernel_rfl) rfl vt ts rfl HI.out.t ?_)
        | (refine wl_lenI (.tmp 35) (by kernel_rfl) rfl vt ts rfl HI.out.t ?_))
    go_ret
    exact ⟨rfl, HB.out⟩
  have t1 : decide (r < 1) = false := by simp; omega
  by_cases h_t2 : 4 < r
  · have t2 : decide (4 < r) = true := by simp; omega
    obtain rfl : y = false := by rw [HV.out]; exact mayOk_no _ _ _ (by omega)
    go_wp2_with (first
        | (refine wl_lenI (.tmp 8) rfl rfl vd ds rfl HI.out.d ?_)
        | (refine wl_lenI (.tmp 13) (by kernel_rfl) rfl vt ts rfl HI.out.t ?_)
        | (refine wl_lenI (.tmp 19) (by kernel_rfl) rfl vt ts rfl HI.out.t ?_)
        | (refine wl_lenI (.tmp 35) (by kernel_rfl) rfl vt ts rfl HI.out.t ?_))
    go_ret
    exact ⟨rfl, HB.out⟩
  have t2 : decide (4 < r) = false := by simp; omega
  by_cases h_t4 : (ts.length : Int) < r
  · have t4 : decide ((ts.length : Int) < r) = true := by simp; omega
    obtain rfl : y = false := by rw [HV.out]; exact mayOk_no _ _ _ (by omega)
    go_wp2_with (first
        | (refine wl_lenI (.tmp 8) rfl rfl vd ds rfl HI.out.d ?_)
        | (refine wl_lenI (.tmp 13) (by kernel_rfl) rfl vt ts rfl HI.out.t ?_)
        | (refine wl_lenI (.tmp 19) (by kernel_rfl) rfl vt ts rfl HI.out.t ?_)
        | (refine wl_lenI (.tmp 35) (by kernel_rfl) rfl vt ts rfl HI.out.t ?_))
    go_ret
    exact ⟨rfl, HB.out⟩
  have t4 : decide ((ts.length : Int) < r) = false := by simp; omega
  have hc : 1 ≤ r ∧ r ≤ 4 ∧ ds.length = 3 ∧ r ≤ (ts.length : Int) ∧ ts.length ≤ 9 := by omega
  have hts : 0 < ts.length := by omega
  have HW : Hid (y = wideOk [nth ds 1] [nth ds 0] [nth ds 2] ts) := by show _ = _; rw [HV.out]; exact mayOk_yes _ _ _ hc
  have HF := wideOk_iff (nth ds 0) (nth ds 1) (nth ds 2) ts hts
  rw [← HW.out] at HF
  have HFF : Hid (y = true ↔ ((nth ds 0 ≤ 4096 ∧ nth ds 1 ≤ 4096 ∧ nth ds 2 ≤ 4096) ∧ (∀ t ∈ ts, 12 ≤ t ∧ t ≤ 4096) ∧ 64 ≤ nth ds 0 ∧ 386 ≤ nth ds 1 ∧ 32 ≤ nth ds 2)) := HF
  have h3 := hc.2.2.1
  clear HV HW HF hc
  go_wp2_with (first
    | (refine wl_lenI (.tmp 8) rfl rfl vd ds rfl HI.out.d ?_)
    | (refine wl_lenI (.tmp 13) (by kernel_rfl) rfl vt ts rfl HI.out.t ?_)
    | (refine wl_lenI (.tmp 19) (by kernel_rfl) rfl vt ts rfl HI.out.t ?_)
    | (refine wl_lenI (.tmp 35) (by kernel_rfl) rfl vt ts rfl HI.out.t ?_))
  clear t1 t2 t3 t4 t5 t6 h_t1 h_t2 h_t3 h_t4 h_t5 h_t6 hts
  go_loopw [5] (fun vi W => ∃ k : Nat, vi = .int .i64 (k : Nat) ∧ k ≤ 3 ∧ Hid (∀ j, j < k → nth ds j ≤ 4096) ∧ W = w2) (fun vi _ => 3 - (intOf vi).toNat)
  case atStart => exact ⟨0, rfl, by omega, fun j hj => absurd hj (Nat.not_lt_zero j), rfl⟩
  case round =>
    obtain ⟨k, rfl, hk, HJ, rfl⟩ := hrel
    by_cases hlt : k < 3
    · have t1 : decide ((k : Int) < 3) = true := by simp; omega
      obtain ⟨x, hx⟩ : ∃ x, x = nth ds k := ⟨_, rfl⟩
      have HX : Hid (nth ds k = x) := hx.symm
      clear hx
      by_cases hgt : 4096 < x
      · have t2 : decide (4096 < x) = true := by simp; omega
        obtain rfl : y = false := by
          cases hy : y
          · rfl
          · have h := (HFF.out.1 hy).1
            have hxx := HX.out
            have e : k = 0 ∨ k = 1 ∨ k = 2 := by omega
            rcases e with rfl | rfl | rfl
            · omega
            · omega
            · omega
        go_wp2_with (refine wl_ixI (.tmp 46) (.tmp 47) rfl rfl vd ds rfl HI.out.d k (by omega) _ rfl rfl ?_; rw [HX.out]; intro b j c)
        go_ret
        exact ⟨rfl, HB.out⟩
      · have t2 : decide (4096 < x) = false := by simp; omega
        have HJ2 : Hid (∀ j, j < k + 1 → nth ds j ≤ 4096) := fun j hj => by
          rcases Nat.lt_succ_iff_lt_or_eq.1 hj with h | rfl
          · exact HJ.out j h
          · rw [HX.out]; omega
        go_wp2_with (refine wl_ixI (.tmp 46) (.tmp 47) rfl rfl vd ds rfl HI.out.d k (by omega) _ rfl rfl ?_; rw [HX.out]; intro b j c)
        refine ⟨⟨k + 1, by go_num, by omega, HJ2, by first | rfl | trivial⟩, ?_⟩
        simp [intOf]; omega
    · obtain rfl : k = 3 := by omega
      have t1 : decide (((3 : Nat) : Int) < 3) = false := by decide
      have HD : Hid (nth ds 0 ≤ 4096 ∧ nth ds 1 ≤ 4096 ∧ nth ds 2 ≤ 4096) := ⟨HJ.out 0 (by decide), HJ.out 1 (by decide), HJ.out 2 (by decide)⟩
      clear HJ hk hlt
      obtain ⟨w3, hw3⟩ : ∃ X, X = wr := ⟨_, rfl⟩
      subst hw3
      go_wp2
      clear t1
      go_loopw [6] (fun vi W => ∃ k : Nat, vi = .int .i64 (k : Nat) ∧ k ≤ ts.length ∧ Hid (∀ j, j < k → 12 ≤ nth ts j ∧ nth ts j ≤ 4096) ∧ W = w3) (fun vi _ => ts.length - (intOf vi).toNat)
      case atStart => exact ⟨0, rfl, Nat.zero_le _, fun j hj => absurd hj (Nat.not_lt_zero j), rfl⟩
      case round =>
        obtain ⟨k, rfl, hk, HJ, rfl⟩ := hrel
        by_cases hlt : k < ts.length
        · obtain ⟨x, hx⟩ : ∃ x, x = nth ts k := ⟨_, rfl⟩
          have HX : Hid (nth ts k = x) := hx.symm
          clear hx
          by_cases hlo : x < 12
          · have t2 : decide (x < 12) = true := by simp; omega
            obtain rfl : y = false := by
              cases hy : y
              · rfl
              · have h := (HFF.out.1 hy).2.1 _ (nth_mem ts k hlt)
                have hxx := HX.out
                omega
            go_wp2_with (first
              | (refine wl_lenI (.tmp 53) rfl rfl vt ts rfl HI.out.t ?_)
              | (refine wl_ixI (.tmp 59) (.tmp 60) rfl rfl vt ts rfl HI.out.t k (by omega) _ rfl rfl ?_; rw [HX.out]; intro b j c))
            go_ret
            exact ⟨rfl, HB.out⟩
          · have t2 : decide (x < 12) = false := by simp; omega
            by_cases hgt : 4096 < x
            · have t3 : decide (4096 < x) = true := by simp; omega
              obtain rfl : y = false := by
                cases hy : y
                · rfl
                · have h := (HFF.out.1 hy).2.1 _ (nth_mem ts k hlt)
                  have hxx := HX.out
                  omega
              go_wp2_with (first
                | (refine wl_lenI (.tmp 53) rfl rfl vt ts rfl HI.out.t ?_)
                | (refine wl_ixI (.tmp 59) (.tmp 60) rfl rfl vt ts rfl HI.out.t k (by omega) _ rfl rfl ?_; rw [HX.out]; intro b j c)
                | (refine wl_ixI (.tmp 66) (.tmp 67) (by kernel_rfl) rfl vt ts rfl HI.out.t k (by omega) _ rfl rfl ?_; rw [HX.out]; intro b2 j2 c2))
              go_ret
              exact ⟨rfl, HB.out⟩
            · have t3 : decide (4096 < x) = false := by simp; omega
              have HJ2 : Hid (∀ j, j < k + 1 → 12 ≤ nth ts j ∧ nth ts j ≤ 4096) := fun j hj => by
                rcases Nat.lt_succ_iff_lt_or_eq.1 hj with h | rfl
                · exact HJ.out j h
                · rw [HX.out]; omega
              go_wp2_with (first
                | (refine wl_lenI (.tmp 53) rfl rfl vt ts rfl HI.out.t ?_)
                | (refine wl_ixI (.tmp 59) (.tmp 60) rfl rfl vt ts rfl HI.out.t k (by omega) _ rfl rfl ?_; rw [HX.out]; intro b j c)
                | (refine wl_ixI (.tmp 66) (.tmp 67) (by kernel_rfl) rfl vt ts rfl HI.out.t k (by omega) _ rfl rfl ?_; rw [HX.out]; intro b2 j2 c2))
              refine ⟨⟨k + 1, by first | rfl | go_num | omega, by omega, ?_⟩, ?_⟩
              · first
                | exact HJ2
                | exact ⟨HJ2, by first | rfl | trivial⟩
              simp [intOf]; omega
        · obtain rfl : k = ts.length := by omega
          have hall : ∀ t ∈ ts, 12 ≤ t ∧ t ≤ 4096 := (all_nth ts fun t => 12 ≤ t ∧ t ≤ 4096).2 HJ.out
          have HY : Hid (y = true ↔ 64 ≤ nth ds 0 ∧ 386 ≤ nth ds 1 ∧ 32 ≤ nth ds 2) := ⟨fun h => (HFF.out.1 h).2.2, fun h => HFF.out.2 ⟨HD.out, hall, h⟩⟩
          clear hall HFF HD HJ
          obtain ⟨x0, h0⟩ : ∃ x, x = nth ds 0 := ⟨_, rfl⟩
          obtain ⟨x1, h1⟩ : ∃ x, x = nth ds 1 := ⟨_, rfl⟩
          obtain ⟨x2, h2⟩ : ∃ x, x = nth ds 2 := ⟨_, rfl⟩
          rw [← h0, ← h1, ← h2] at HY
          have HX : Hid (nth ds 0 = x0 ∧ nth ds 1 = x1 ∧ nth ds 2 = x2) := ⟨h0.symm, h1.symm, h2.symm⟩
          clear h0 h1 h2
          obtain ⟨b0, j0, q0, c0⟩ := HI.out.d.ix 0 (by omega)
          obtain ⟨b1, j1, q1, c1⟩ := HI.out.d.ix 1 (by omega)
          obtain ⟨b2, j2, q2, c2⟩ := HI.out.d.ix 2 (by omega)
          rw [HX.out.1] at c0
          rw [HX.out.2.1] at c1
          rw [HX.out.2.2] at c2
          have HQ : Hid ((∀ w', (Instr.indexAt 22 vd (.int .i64 0)).run Try.prog w' = .ok (.pointer (some ⟨b0, j0, none⟩)) w') ∧ (∀ w', (Instr.indexAt 22 vd (.int .i64 1)).run Try.prog w' = .ok (.pointer (some ⟨b1, j1, none⟩)) w') ∧ (∀ w', (Instr.indexAt 22 vd (.int .i64 2)).run Try.prog w' = .ok (.pointer (some ⟨b2, j2, none⟩)) w')) := ⟨q0, q1, q2⟩
          clear q0 q1 q2
          by_cases g0 : x0 < 64
          · have t0 : decide (64 ≤ x0) = false := by simp; omega
            obtain rfl : y = false := by
              cases hy : y
              · rfl
              · have h := HY.out.1 hy
                omega
            go_upto_region 9 with fail
            refine wp_region_lit ?_
            refine wl rfl (.int .i64 (ts.length : Nat)) _ (run_mvZ (.tmp 6) rfl (.int .i64 (ts.length : Nat)) rfl) ?_
            simp only [Act.put, List.setIfInBounds_toArray, List.set_cons_succ, List.set_cons_zero]
            refine wl rfl (.pointer (some ⟨B, 0 + 1, none⟩)) _ (run_fieldOp' f24_1 (.tmp 2) rfl B (0) rfl) ?_
            simp only [Act.put, List.setIfInBounds_toArray, List.set_cons_succ, List.set_cons_zero]
            refine wl rfl vt _ (run_load1 o22 (.tmp 52) rfl B (0 + 1) rfl vt k1) ?_
            simp only [Act.put, List.setIfInBounds_toArray, List.set_cons_succ, List.set_cons_zero]
            refine wl rfl (.int .i64 (ts.length : Nat)) _ (run_lenI (.tmp 53) rfl vt ts rfl HI.out.t) ?_
            simp only [Act.put, List.setIfInBounds_toArray, List.set_cons_succ, List.set_cons_zero]
            refine wl rfl (.bool false) _ (run_lssZ (.tmp 51) (.tmp 54) rfl (ts.length : Nat) (ts.length : Nat) rfl rfl false (decide_eq_false (by omega))) ?_
            simp only [Act.put, List.setIfInBounds_toArray, List.set_cons_succ, List.set_cons_zero]
            refine wpList_nil ?_
            go_upto_region 13 with fail
            refine wp_region_lit ?_
            refine wl rfl (.pointer (some ⟨B, 0 + 0, none⟩)) _ (run_fieldOp' f24_0 (.tmp 2) rfl B (0) rfl) ?_
            simp only [Act.put, List.setIfInBounds_toArray, List.set_cons_succ, List.set_cons_zero]
            refine wl rfl vd _ (run_load1 o22 (.tmp 72) rfl B (0 + 0) rfl vd k0) ?_
            simp only [Act.put, List.setIfInBounds_toArray, List.set_cons_succ, List.set_cons_zero]
            refine wl rfl (.pointer (some ⟨b0, j0, none⟩)) _ (run_idx (.tmp 73) (.const (.int .i64 0)) rfl vd _ _ rfl rfl HQ.out.1) ?_
            simp only [Act.put, List.setIfInBounds_toArray, List.set_cons_succ, List.set_cons_zero]
            refine wl rfl (.int .i64 x0) _ (run_load1 o3 (.tmp 74) rfl b0 (j0) rfl (.int .i64 x0) c0) ?_
            simp only [Act.put, List.setIfInBounds_toArray, List.set_cons_succ, List.set_cons_zero]
            refine wl rfl (.bool false) _ (run_geqZ (.tmp 75) (.const (.int .i64 64)) rfl x0 64 rfl rfl false t0) ?_
            simp only [Act.put, List.setIfInBounds_toArray, List.set_cons_succ, List.set_cons_zero]
            refine wl rfl (.bool false) _ (run_mvZ (.tmp 76) rfl (.bool false) rfl) ?_
            simp only [Act.put, List.setIfInBounds_toArray, List.set_cons_succ, List.set_cons_zero]
            with_reducible refine wpList_skip (by kernel_rfl) ?_
            simp only [Act.put, List.setIfInBounds_toArray, List.set_cons_succ, List.set_cons_zero]
            with_reducible refine wpList_skip (by kernel_rfl) ?_
            simp only [Act.put, List.setIfInBounds_toArray, List.set_cons_succ, List.set_cons_zero]
            with_reducible refine wpList_skip (by kernel_rfl) ?_
            simp only [Act.put, List.setIfInBounds_toArray, List.set_cons_succ, List.set_cons_zero]
            with_reducible refine wpList_skip (by kernel_rfl) ?_
            simp only [Act.put, List.setIfInBounds_toArray, List.set_cons_succ, List.set_cons_zero]
            with_reducible refine wpList_skip (by kernel_rfl) ?_
            simp only [Act.put, List.setIfInBounds_toArray, List.set_cons_succ, List.set_cons_zero]
            refine wl rfl (.bool false) _ (run_pickZ (.tmp 77) (.tmp 82) (.const (.bool false)) rfl false (.bool false) rfl rfl) ?_
            simp only [Act.put, List.setIfInBounds_toArray, List.set_cons_succ, List.set_cons_zero]
            refine wl rfl (.bool false) _ (run_mvZ (.tmp 83) rfl (.bool false) rfl) ?_
            simp only [Act.put, List.setIfInBounds_toArray, List.set_cons_succ, List.set_cons_zero]
            with_reducible refine wpList_skip (by kernel_rfl) ?_
            simp only [Act.put, List.setIfInBounds_toArray, List.set_cons_succ, List.set_cons_zero]
            with_reducible refine wpList_skip (by kernel_rfl) ?_
            simp only [Act.put, List.setIfInBounds_toArray, List.set_cons_succ, List.set_cons_zero]
            with_reducible refine wpList_skip (by kernel_rfl) ?_
            simp only [Act.put, List.setIfInBounds_toArray, List.set_cons_succ, List.set_cons_zero]
            with_reducible refine wpList_skip (by kernel_rfl) ?_
            simp only [Act.put, List.setIfInBounds_toArray, List.set_cons_succ, List.set_cons_zero]
            with_reducible refine wpList_skip (by kernel_rfl) ?_
            simp only [Act.put, List.setIfInBounds_toArray, List.set_cons_succ, List.set_cons_zero]
            refine wl rfl (.bool false) _ (run_pickZ (.tmp 84) (.tmp 89) (.const (.bool false)) rfl false (.bool false) rfl rfl) ?_
            simp only [Act.put, List.setIfInBounds_toArray, List.set_cons_succ, List.set_cons_zero]
            refine wl rfl (.bool false) _ (run_asZ (.tmp 90) rfl (.bool false) rfl) ?_
            simp only [Act.put, List.setIfInBounds_toArray, List.set_cons_succ, List.set_cons_zero]
            refine wpList_nil ?_
            go_wp2_with fail
            go_ret
            exact ⟨rfl, HB.out⟩
          have t0 : decide (64 ≤ x0) = true := by simp; omega
          by_cases g1 : x1 < 386
          · have t1 : decide (386 ≤ x1) = false := by simp; omega
            obtain rfl : y = false := by
              cases hy : y
              · rfl
              · have h := HY.out.1 hy
                omega
            go_upto_region 9 with fail
            refine wp_region_lit ?_
            refine wl rfl (.int .i64 (ts.length : Nat)) _ (run_mvZ (.tmp 6) rfl (.int .i64 (ts.length : Nat)) rfl) ?_
            simp only [Act.put, List.setIfInBounds_toArray, List.set_cons_succ, List.set_cons_zero]
            refine wl rfl (.pointer (some ⟨B, 0 + 1, none⟩)) _ (run_fieldOp' f24_1 (.tmp 2) rfl B (0) rfl) ?_
            simp only [Act.put, List.setIfInBounds_toArray, List.set_cons_succ, List.set_cons_zero]
            refine wl rfl vt _ (run_load1 o22 (.tmp 52) rfl B (0 + 1) rfl vt k1) ?_
            simp only [Act.put, List.setIfInBounds_toArray, List.set_cons_succ, List.set_cons_zero]
            refine wl rfl (.int .i64 (ts.length : Nat)) _ (run_lenI (.tmp 53) rfl vt ts rfl HI.out.t) ?_
            simp only [Act.put, List.setIfInBounds_toArray, List.set_cons_succ, List.set_cons_zero]
            refine wl rfl (.bool false) _ (run_lssZ (.tmp 51) (.tmp 54) rfl (ts.length : Nat) (ts.length : Nat) rfl rfl false (decide_eq_false (by omega))) ?_
            simp only [Act.put, List.setIfInBounds_toArray, List.set_cons_succ, List.set_cons_zero]
            refine wpList_nil ?_
            go_upto_region 13 with fail
            refine wp_region_lit ?_
            refine wl rfl (.pointer (some ⟨B, 0 + 0, none⟩)) _ (run_fieldOp' f24_0 (.tmp 2) rfl B (0) rfl) ?_
            simp only [Act.put, List.setIfInBounds_toArray, List.set_cons_succ, List.set_cons_zero]
            refine wl rfl vd _ (run_load1 o22 (.tmp 72) rfl B (0 + 0) rfl vd k0) ?_
            simp only [Act.put, List.setIfInBounds_toArray, List.set_cons_succ, List.set_cons_zero]
            refine wl rfl (.pointer (some ⟨b0, j0, none⟩)) _ (run_idx (.tmp 73) (.const (.int .i64 0)) rfl vd _ _ rfl rfl HQ.out.1) ?_
            simp only [Act.put, List.setIfInBounds_toArray, List.set_cons_succ, List.set_cons_zero]
            refine wl rfl (.int .i64 x0) _ (run_load1 o3 (.tmp 74) rfl b0 (j0) rfl (.int .i64 x0) c0) ?_
            simp only [Act.put, List.setIfInBounds_toArray, List.set_cons_succ, List.set_cons_zero]
            refine wl rfl (.bool true) _ (run_geqZ (.tmp 75) (.const (.int .i64 64)) rfl x0 64 rfl rfl true t0) ?_
            simp only [Act.put, List.setIfInBounds_toArray, List.set_cons_succ, List.set_cons_zero]
            refine wl rfl (.bool true) _ (run_mvZ (.tmp 76) rfl (.bool true) rfl) ?_
            simp only [Act.put, List.setIfInBounds_toArray, List.set_cons_succ, List.set_cons_zero]
            refine wl (by kernel_rfl) (.pointer (some ⟨B, 0 + 0, none⟩)) _ (run_fieldOp' f24_0 (.tmp 2) rfl B (0) rfl) ?_
            simp only [Act.put, List.setIfInBounds_toArray, List.set_cons_succ, List.set_cons_zero]
            refine wl (by kernel_rfl) vd _ (run_load1 o22 (.tmp 78) rfl B (0 + 0) rfl vd k0) ?_
            simp only [Act.put, List.setIfInBounds_toArray, List.set_cons_succ, List.set_cons_zero]
            refine wl (by kernel_rfl) (.pointer (some ⟨b1, j1, none⟩)) _ (run_idx (.tmp 79) (.const (.int .i64 1)) rfl vd _ _ rfl rfl HQ.out.2.1) ?_
            simp only [Act.put, List.setIfInBounds_toArray, List.set_cons_succ, List.set_cons_zero]
            refine wl (by kernel_rfl) (.int .i64 x1) _ (run_load1 o3 (.tmp 80) rfl b1 (j1) rfl (.int .i64 x1) c1) ?_
            simp only [Act.put, List.setIfInBounds_toArray, List.set_cons_succ, List.set_cons_zero]
            refine wl (by kernel_rfl) (.bool false) _ (run_geqZ (.tmp 81) (.const (.int .i64 386)) rfl x1 386 rfl rfl false t1) ?_
            simp only [Act.put, List.setIfInBounds_toArray, List.set_cons_succ, List.set_cons_zero]
            refine wl rfl (.bool false) _ (run_pickZ (.tmp 77) (.tmp 82) (.const (.bool false)) rfl true (.bool false) rfl rfl) ?_
            simp only [Act.put, List.setIfInBounds_toArray, List.set_cons_succ, List.set_cons_zero]
            refine wl rfl (.bool false) _ (run_mvZ (.tmp 83) rfl (.bool false) rfl) ?_
            simp only [Act.put, List.setIfInBounds_toArray, List.set_cons_succ, List.set_cons_zero]
            with_reducible refine wpList_skip (by kernel_rfl) ?_
            simp only [Act.put, List.setIfInBounds_toArray, List.set_cons_succ, List.set_cons_zero]
            with_reducible refine wpList_skip (by kernel_rfl) ?_
            simp only [Act.put, List.setIfInBounds_toArray, List.set_cons_succ, List.set_cons_zero]
            with_reducible refine wpList_skip (by kernel_rfl) ?_
            simp only [Act.put, List.setIfInBounds_toArray, List.set_cons_succ, List.set_cons_zero]
            with_reducible refine wpList_skip (by kernel_rfl) ?_
            simp only [Act.put, List.setIfInBounds_toArray, List.set_cons_succ, List.set_cons_zero]
            with_reducible refine wpList_skip (by kernel_rfl) ?_
            simp only [Act.put, List.setIfInBounds_toArray, List.set_cons_succ, List.set_cons_zero]
            refine wl rfl (.bool false) _ (run_pickZ (.tmp 84) (.tmp 89) (.const (.bool false)) rfl false (.bool false) rfl rfl) ?_
            simp only [Act.put, List.setIfInBounds_toArray, List.set_cons_succ, List.set_cons_zero]
            refine wl rfl (.bool false) _ (run_asZ (.tmp 90) rfl (.bool false) rfl) ?_
            simp only [Act.put, List.setIfInBounds_toArray, List.set_cons_succ, List.set_cons_zero]
            refine wpList_nil ?_
            go_wp2_with fail
            go_ret
            exact ⟨rfl, HB.out⟩
          have t1 : decide (386 ≤ x1) = true := by simp; omega
          by_cases g2 : x2 < 32
          · have t2 : decide (32 ≤ x2) = false := by simp; omega
            obtain rfl : y = false := by
              cases hy : y
              · rfl
              · have h := HY.out.1 hy
                omega
            go_upto_region 9 with fail
            refine wp_region_lit ?_
            refine wl rfl (.int .i64 (ts.length : Nat)) _ (run_mvZ (.tmp 6) rfl (.int .i64 (ts.length : Nat)) rfl) ?_
            simp only [Act.put, List.setIfInBounds_toArray, List.set_cons_succ, List.set_cons_zero]
            refine wl rfl (.pointer (some ⟨B, 0 + 1, none⟩)) _ (run_fieldOp' f24_1 (.tmp 2) rfl B (0) rfl) ?_
            simp only [Act.put, List.setIfInBounds_toArray, List.set_cons_succ, List.set_cons_zero]
            refine wl rfl vt _ (run_load1 o22 (.tmp 52) rfl B (0 + 1) rfl vt k1) ?_
            simp only [Act.put, List.setIfInBounds_toArray, List.set_cons_succ, List.set_cons_zero]
            refine wl rfl (.int .i64 (ts.length : Nat)) _ (run_lenI (.tmp 53) rfl vt ts rfl HI.out.t) ?_
            simp only [Act.put, List.setIfInBounds_toArray, List.set_cons_succ, List.set_cons_zero]
            refine wl rfl (.bool false) _ (run_lssZ (.tmp 51) (.tmp 54) rfl (ts.length : Nat) (ts.length : Nat) rfl rfl false (decide_eq_false (by omega))) ?_
            simp only [Act.put, List.setIfInBounds_toArray, List.set_cons_succ, List.set_cons_zero]
            refine wpList_nil ?_
            go_upto_region 13 with fail
            refine wp_region_lit ?_
            refine wl rfl (.pointer (some ⟨B, 0 + 0, none⟩)) _ (run_fieldOp' f24_0 (.tmp 2) rfl B (0) rfl) ?_
            simp only [Act.put, List.setIfInBounds_toArray, List.set_cons_succ, List.set_cons_zero]
            refine wl rfl vd _ (run_load1 o22 (.tmp 72) rfl B (0 + 0) rfl vd k0) ?_
            simp only [Act.put, List.setIfInBounds_toArray, List.set_cons_succ, List.set_cons_zero]
            refine wl rfl (.pointer (some ⟨b0, j0, none⟩)) _ (run_idx (.tmp 73) (.const (.int .i64 0)) rfl vd _ _ rfl rfl HQ.out.1) ?_
            simp only [Act.put, List.setIfInBounds_toArray, List.set_cons_succ, List.set_cons_zero]
            refine wl rfl (.int .i64 x0) _ (run_load1 o3 (.tmp 74) rfl b0 (j0) rfl (.int .i64 x0) c0) ?_
            simp only [Act.put, List.setIfInBounds_toArray, List.set_cons_succ, List.set_cons_zero]
            refine wl rfl (.bool true) _ (run_geqZ (.tmp 75) (.const (.int .i64 64)) rfl x0 64 rfl rfl true t0) ?_
            simp only [Act.put, List.setIfInBounds_toArray, List.set_cons_succ, List.set_cons_zero]
            refine wl rfl (.bool true) _ (run_mvZ (.tmp 76) rfl (.bool true) rfl) ?_
            simp only [Act.put, List.setIfInBounds_toArray, List.set_cons_succ, List.set_cons_zero]
            refine wl (by kernel_rfl) (.pointer (some ⟨B, 0 + 0, none⟩)) _ (run_fieldOp' f24_0 (.tmp 2) rfl B (0) rfl) ?_
            simp only [Act.put, List.setIfInBounds_toArray, List.set_cons_succ, List.set_cons_zero]
            refine wl (by kernel_rfl) vd _ (run_load1 o22 (.tmp 78) rfl B (0 + 0) rfl vd k0) ?_
            simp only [Act.put, List.setIfInBounds_toArray, List.set_cons_succ, List.set_cons_zero]
            refine wl (by kernel_rfl) (.pointer (some ⟨b1, j1, none⟩)) _ (run_idx (.tmp 79) (.const (.int .i64 1)) rfl vd _ _ rfl rfl HQ.out.2.1) ?_
            simp only [Act.put, List.setIfInBounds_toArray, List.set_cons_succ, List.set_cons_zero]
            refine wl (by kernel_rfl) (.int .i64 x1) _ (run_load1 o3 (.tmp 80) rfl b1 (j1) rfl (.int .i64 x1) c1) ?_
            simp only [Act.put, List.setIfInBounds_toArray, List.set_cons_succ, List.set_cons_zero]
            refine wl (by kernel_rfl) (.bool true) _ (run_geqZ (.tmp 81) (.const (.int .i64 386)) rfl x1 386 rfl rfl true t1) ?_
            simp only [Act.put, List.setIfInBounds_toArray, List.set_cons_succ, List.set_cons_zero]
            refine wl rfl (.bool true) _ (run_pickZ (.tmp 77) (.tmp 82) (.const (.bool false)) rfl true (.bool true) rfl rfl) ?_
            simp only [Act.put, List.setIfInBounds_toArray, List.set_cons_succ, List.set_cons_zero]
            refine wl rfl (.bool true) _ (run_mvZ (.tmp 83) rfl (.bool true) rfl) ?_
            simp only [Act.put, List.setIfInBounds_toArray, List.set_cons_succ, List.set_cons_zero]
            refine wl (by kernel_rfl) (.pointer (some ⟨B, 0 + 0, none⟩)) _ (run_fieldOp' f24_0 (.tmp 2) rfl B (0) rfl) ?_
            simp only [Act.put, List.setIfInBounds_toArray, List.set_cons_succ, List.set_cons_zero]
            refine wl (by kernel_rfl) vd _ (run_load1 o22 (.tmp 85) rfl B (0 + 0) rfl vd k0) ?_
            simp only [Act.put, List.setIfInBounds_toArray, List.set_cons_succ, List.set_cons_zero]
            refine wl (by kernel_rfl) (.pointer (some ⟨b2, j2, none⟩)) _ (run_idx (.tmp 86) (.const (.int .i64 2)) rfl vd _ _ rfl rfl HQ.out.2.2) ?_
            simp only [Act.put, List.setIfInBounds_toArray, List.set_cons_succ, List.set_cons_zero]
            refine wl (by kernel_rfl) (.int .i64 x2) _ (run_load1 o3 (.tmp 87) rfl b2 (j2) rfl (.int .i64 x2) c2) ?_
            simp only [Act.put, List.setIfInBounds_toArray, List.set_cons_succ, List.set_cons_zero]
            refine wl (by kernel_rfl) (.bool false) _ (run_geqZ (.tmp 88) (.const (.int .i64 32)) rfl x2 32 rfl rfl false t2) ?_
            simp only [Act.put, List.setIfInBounds_toArray, List.set_cons_succ, List.set_cons_zero]
            refine wl rfl (.bool false) _ (run_pickZ (.tmp 84) (.tmp 89) (.const (.bool false)) rfl true (.bool false) rfl rfl) ?_
            simp only [Act.put, List.setIfInBounds_toArray, List.set_cons_succ, List.set_cons_zero]
            refine wl rfl (.bool false) _ (run_asZ (.tmp 90) rfl (.bool false) rfl) ?_
            simp only [Act.put, List.setIfInBounds_toArray, List.set_cons_succ, List.set_cons_zero]
            refine wpList_nil ?_
            go_wp2_with fail
            go_ret
            exact ⟨rfl, HB.out⟩
          have t2 : decide (32 ≤ x2) = true := by simp; omega
          obtain rfl : y = true := HY.out.2 (by omega)
          go_upto_region 9 with fail
          refine wp_region_lit ?_
          refine wl rfl (.int .i64 (ts.length : Nat)) _ (run_mvZ (.tmp 6) rfl (.int .i64 (ts.length : Nat)) rfl) ?_
          simp only [Act.put, List.setIfInBounds_toArray, List.set_cons_succ, List.set_cons_zero]
          refine wl rfl (.pointer (some ⟨B, 0 + 1, none⟩)) _ (run_fieldOp' f24_1 (.tmp 2) rfl B (0) rfl) ?_
          simp only [Act.put, List.setIfInBounds_toArray, List.set_cons_succ, List.set_cons_zero]
          refine wl rfl vt _ (run_load1 o22 (.tmp 52) rfl B (0 + 1) rfl vt k1) ?_
          simp only [Act.put, List.setIfInBounds_toArray, List.set_cons_succ, List.set_cons_zero]
          refine wl rfl (.int .i64 (ts.length : Nat)) _ (run_lenI (.tmp 53) rfl vt ts rfl HI.out.t) ?_
          simp only [Act.put, List.setIfInBounds_toArray, List.set_cons_succ, List.set_cons_zero]
          refine wl rfl (.bool false) _ (run_lssZ (.tmp 51) (.tmp 54) rfl (ts.length : Nat) (ts.length : Nat) rfl rfl false (decide_eq_false (by omega))) ?_
          simp only [Act.put, List.setIfInBounds_toArray, List.set_cons_succ, List.set_cons_zero]
          refine wpList_nil ?_
          go_upto_region 13 with fail
          refine wp_region_lit ?_
          refine wl rfl (.pointer (some ⟨B, 0 + 0, none⟩)) _ (run_fieldOp' f24_0 (.tmp 2) rfl B (0) rfl) ?_
          simp only [Act.put, List.setIfInBounds_toArray, List.set_cons_succ, List.set_cons_zero]
          refine wl rfl vd _ (run_load1 o22 (.tmp 72) rfl B (0 + 0) rfl vd k0) ?_
          simp only [Act.put, List.setIfInBounds_toArray, List.set_cons_succ, List.set_cons_zero]
          refine wl rfl (.pointer (some ⟨b0, j0, none⟩)) _ (run_idx (.tmp 73) (.const (.int .i64 0)) rfl vd _ _ rfl rfl HQ.out.1) ?_
          simp only [Act.put, List.setIfInBounds_toArray, List.set_cons_succ, List.set_cons_zero]
          refine wl rfl (.int .i64 x0) _ (run_load1 o3 (.tmp 74) rfl b0 (j0) rfl (.int .i64 x0) c0) ?_
          simp only [Act.put, List.setIfInBounds_toArray, List.set_cons_succ, List.set_cons_zero]
          refine wl rfl (.bool true) _ (run_geqZ (.tmp 75) (.const (.int .i64 64)) rfl x0 64 rfl rfl true t0) ?_
          simp only [Act.put, List.setIfInBounds_toArray, List.set_cons_succ, List.set_cons_zero]
          refine wl rfl (.bool true) _ (run_mvZ (.tmp 76) rfl (.bool true) rfl) ?_
          simp only [Act.put, List.setIfInBounds_toArray, List.set_cons_succ, List.set_cons_zero]
          refine wl (by kernel_rfl) (.pointer (some ⟨B, 0 + 0, none⟩)) _ (run_fieldOp' f24_0 (.tmp 2) rfl B (0) rfl) ?_
          simp only [Act.put, List.setIfInBounds_toArray, List.set_cons_succ, List.set_cons_zero]
          refine wl (by kernel_rfl) vd _ (run_load1 o22 (.tmp 78) rfl B (0 + 0) rfl vd k0) ?_
          simp only [Act.put, List.setIfInBounds_toArray, List.set_cons_succ, List.set_cons_zero]
          refine wl (by kernel_rfl) (.pointer (some ⟨b1, j1, none⟩)) _ (run_idx (.tmp 79) (.const (.int .i64 1)) rfl vd _ _ rfl rfl HQ.out.2.1) ?_
          simp only [Act.put, List.setIfInBounds_toArray, List.set_cons_succ, List.set_cons_zero]
          refine wl (by kernel_rfl) (.int .i64 x1) _ (run_load1 o3 (.tmp 80) rfl b1 (j1) rfl (.int .i64 x1) c1) ?_
          simp only [Act.put, List.setIfInBounds_toArray, List.set_cons_succ, List.set_cons_zero]
          refine wl (by kernel_rfl) (.bool true) _ (run_geqZ (.tmp 81) (.const (.int .i64 386)) rfl x1 386 rfl rfl true t1) ?_
          simp only [Act.put, List.setIfInBounds_toArray, List.set_cons_succ, List.set_cons_zero]
          refine wl rfl (.bool true) _ (run_pickZ (.tmp 77) (.tmp 82) (.const (.bool false)) rfl true (.bool true) rfl rfl) ?_
          simp only [Act.put, List.setIfInBounds_toArray, List.set_cons_succ, List.set_cons_zero]
          refine wl rfl (.bool true) _ (run_mvZ (.tmp 83) rfl (.bool true) rfl) ?_
          simp only [Act.put, List.setIfInBounds_toArray, List.set_cons_succ, List.set_cons_zero]
          refine wl (by kernel_rfl) (.pointer (some ⟨B, 0 + 0, none⟩)) _ (run_fieldOp' f24_0 (.tmp 2) rfl B (0) rfl) ?_
          simp only [Act.put, List.setIfInBounds_toArray, List.set_cons_succ, List.set_cons_zero]
          refine wl (by kernel_rfl) vd _ (run_load1 o22 (.tmp 85) rfl B (0 + 0) rfl vd k0) ?_
          simp only [Act.put, List.setIfInBounds_toArray, List.set_cons_succ, List.set_cons_zero]
          refine wl (by kernel_rfl) (.pointer (some ⟨b2, j2, none⟩)) _ (run_idx (.tmp 86) (.const (.int .i64 2)) rfl vd _ _ rfl rfl HQ.out.2.2) ?_
          simp only [Act.put, List.setIfInBounds_toArray, List.set_cons_succ, List.set_cons_zero]
          refine wl (by kernel_rfl) (.int .i64 x2) _ (run_load1 o3 (.tmp 87) rfl b2 (j2) rfl (.int .i64 x2) c2) ?_
          simp only [Act.put, List.setIfInBounds_toArray, List.set_cons_succ, List.set_cons_zero]
          refine wl (by kernel_rfl) (.bool true) _ (run_geqZ (.tmp 88) (.const (.int .i64 32)) rfl x2 32 rfl rfl true t2) ?_
          simp only [Act.put, List.setIfInBounds_toArray, List.set_cons_succ, List.set_cons_zero]
          refine wl rfl (.bool true) _ (run_pickZ (.tmp 84) (.tmp 89) (.const (.bool false)) rfl true (.bool true) rfl rfl) ?_
          simp only [Act.put, List.setIfInBounds_toArray, List.set_cons_succ, List.set_cons_zero]
          refine wl rfl (.bool true) _ (run_asZ (.tmp 90) rfl (.bool true) rfl) ?_
          simp only [Act.put, List.setIfInBounds_toArray, List.set_cons_succ, List.set_cons_zero]
          refine wpList_nil ?_
          go_wp2_with fail
          go_ret
          exact ⟨rfl, HB.out⟩

end Go.Proofs.Ytbmlbnbhjligdaa

/- Whether a shape may be. -/
import Derived.Test.YtbmlbnbhjligdaaI7
namespace Go.Proofs.Ytbmlbnbhjligdaa
open Go.RowKit Go.MapKept

/-- which shapes may be -/
def mayOk (ds ts : List Int) (r : Int) : Bool := decide (1 ≤ r ∧ r ≤ 4 ∧ ds.length = 3 ∧ r ≤ (ts.length : Int) ∧ ts.length ≤ 9) && wideOk [nth ds 1] [nth ds 0] [nth ds 2] ts
theorem mayOk_no (ds ts : List Int) (r : Int) (h : ¬(1 ≤ r ∧ r ≤ 4 ∧ ds.length = 3 ∧ r ≤ (ts.length : Int) ∧ ts.length ≤ 9)) : mayOk ds ts r = false := by
  unfold mayOk
  rw [decide_eq_false h, Bool.false_and]
theorem mayOk_yes (ds ts : List Int) (r : Int) (h : 1 ≤ r ∧ r ≤ 4 ∧ ds.length = 3 ∧ r ≤ (ts.length : Int) ∧ ts.length ≤ 9) : mayOk ds ts r = wideOk [nth ds 1] [nth ds 0] [nth ds 2] ts := by
  unfold mayOk
  rw [decide_eq_true h, Bool.true_and]
set_option maxHeartbeats 4000000 in
set_option maxRecDepth 100000 in
theorem may_any (w : World) (vd vt : Value) (ds ts : List Int) (hs : ShIn w vd vt ds ts) (r : Int) : Calls Try.prog 8 #[.agg #[vd, vt], .agg #[.int .i64 r]] w fun e w' => e = .returned (.bool (mayOk ds ts r)) ∧ Below w.heap.size w w' := by
  obtain ⟨y, hy⟩ : ∃ y, y = mayOk ds ts r := ⟨_, rfl⟩
  have HV : Hid (y = mayOk ds ts r) := hy
  rw [← hy]
  clear hy
  go_enter Try.func8, Try.ntmps8
  go_upto_region 0 with fail
  refine wp_region_lit ?_
  refine wl_box (.tmp 0) rfl rfl [vd, vt] rfl ?_
  intro w1 r1 s1 b1
  simp only [Act.put, List.setIfInBounds_toArray, List.set_cons_succ, List.set_cons_zero]
  refine wl_box (.tmp 1) rfl rfl [.int .i64 r] rfl ?_
  intro w2 r2 s2 b2
  simp only [Act.put, List.setIfInBounds_toArray, List.set_cons_succ, List.set_cons_zero]
  refine wl rfl _ _ (run_asZ (.const (.bool false)) rfl _ rfl) ?_
  simp only [Act.put, List.setIfInBounds_toArray, List.set_cons_succ, List.set_cons_zero]
  refine wpList_nil ?_
  have r1' := r1.later b2 r1.lt
  have k0 := r1'.at 0 _ rfl
  have k1 := r1'.at 1 _ rfl
  have k2 := r2.at 0 _ rfl
  have HB : Hid (Below w.heap.size w w2) := b1.trans (b2.mono (by omega))
  have HR : Hid (Row w2 w.heap.size 24 [vd, vt]) := r1'
  have HI : Hid (ShIn w2 vd vt ds ts) := (hs.later b1).later b2
  have hl := hs.d.lt
  have hl2 := hs.t.lt
  clear r1 s1 b1 r2 s2 b2 r1' hs
  obtain ⟨B, hB⟩ : ∃ B, B = w.heap.size := ⟨_, rfl⟩
  have HBq : Hid (B = w.heap.size) := hB
  rw [← hB] at k0 k1 HR ⊢
  clear hB
  generalize w1.heap.size = C at k2 ⊢
  by_cases h_t1 : r < 1
  · have t1 : decide (r < 1) = true := by simp; omega
    obtain rfl : y = false := by rw [HV.out]; exact mayOk_no _ _ _ (by omega)
    go_wp2_with (first
        | (refine wl_lenI (.tmp 14) rfl rfl vd ds rfl HI.out.d ?_)
        | (refine wl_lenI (.tmp 19) (by kernel_rfl) rfl vt ts rfl HI.out.t ?_)
        | (refine wl_lenI (.tmp 27) (by kernel_rfl) rfl vt ts rfl HI.out.t ?_))
    go_ret
    exact ⟨rfl, HB.out⟩
  have t1 : decide (r < 1) = false := by simp; omega
  by_cases h_t2 : 4 < r
  · have t2 : decide (4 < r) = true := by simp; omega
    obtain rfl : y = false := by rw [HV.out]; exact mayOk_no _ _ _ (by omega)
    go_wp2_with (first
        | (refine wl_lenI (.tmp 14) rfl rfl vd ds rfl HI.out.d ?_)
        | (refine wl_lenI (.tmp 19) (by kernel_rfl) rfl vt ts rfl HI.out.t ?_)
        | (refine wl_lenI (.tmp 27) (by kernel_rfl) rfl vt ts rfl HI.out.t ?_))
    go_ret
    exact ⟨rfl, HB.out⟩
  have t2 : decide (4 < r) = false := by simp; omega
  by_cases h_t3 : ds.length ≠ 3
  · have t3 : decide ((ds.length : Int) = 3) = false := by simp; omega
    obtain rfl : y = false := by rw [HV.out]; exact mayOk_no _ _ _ (by omega)
    go_wp2_with (first
        | (refine wl_lenI (.tmp 14) rfl rfl vd ds rfl HI.out.d ?_)
        | (refine wl_lenI (.tmp 19) (by kernel_rfl) rfl vt ts rfl HI.out.t ?_)
        | (refine wl_lenI (.tmp 27) (by kernel_rfl) rfl vt ts rfl HI.out.t ?_))
    go_ret
    exact ⟨rfl, HB.out⟩
  have t3 : decide ((ds.length : Int) = 3) = true := by simp; omega
  by_cases h_t4 : (ts.length : Int) < r
  · have t4 : decide ((ts.length : Int) < r) = true := by simp; omega
    obtain rfl : y = false := by rw [HV.out]; exact mayOk_no _ _ _ (by omega)
    go_wp2_with (first
        | (refine wl_lenI (.tmp 14) rfl rfl vd ds rfl HI.out.d ?_)
        | (refine wl_lenI (.tmp 19) (by kernel_rfl) rfl vt ts rfl HI.out.t ?_)
        | (refine wl_lenI (.tmp 27) (by kernel_rfl) rfl vt ts rfl HI.out.t ?_))
    go_ret
    exact ⟨rfl, HB.out⟩
  have t4 : decide ((ts.length : Int) < r) = false := by simp; omega
  by_cases h_t5 : 9 < ts.length
  · have t5 : decide (9 < (ts.length : Int)) = true := by simp; omega
    obtain rfl : y = false := by rw [HV.out]; exact mayOk_no _ _ _ (by omega)
    go_wp2_with (first
        | (refine wl_lenI (.tmp 14) rfl rfl vd ds rfl HI.out.d ?_)
        | (refine wl_lenI (.tmp 19) (by kernel_rfl) rfl vt ts rfl HI.out.t ?_)
        | (refine wl_lenI (.tmp 27) (by kernel_rfl) rfl vt ts rfl HI.out.t ?_))
    go_ret
    exact ⟨rfl, HB.out⟩
  have t5 : decide (9 < (ts.length : Int)) = false := by simp; omega
  have hc : 1 ≤ r ∧ r ≤ 4 ∧ ds.length = 3 ∧ r ≤ (ts.length : Int) ∧ ts.length ≤ 9 := by omega
  have HW : Hid (y = wideOk [nth ds 1] [nth ds 0] [nth ds 2] ts) := by show _ = _; rw [HV.out]; exact mayOk_yes _ _ _ hc
  clear HV
  go_wp2_with (first
    | (refine wl_lenI (.tmp 14) rfl rfl vd ds rfl HI.out.d ?_)
    | (refine wl_lenI (.tmp 19) (by kernel_rfl) rfl vt ts rfl HI.out.t ?_)
    | (refine wl_lenI (.tmp 27) (by kernel_rfl) rfl vt ts rfl HI.out.t ?_)
    | (refine wl_ldA ag24 (.tmp 2) rfl rfl B 0 rfl [vd, vt] rfl (fun j v hv => by rw [Nat.zero_add]; exact HR.out.at j v hv) ?_))
  refine (rows_any w2 vd vt ds ts HI.out hc.2.2.1).mono ?_
  rintro e w3 ⟨c0, c1, c2, rfl, b3, i0, i1, i2⟩
  have HB3 : Hid (Below w.heap.size w w3) := HB.out.trans (b3.mono HB.out.size)
  have HI3 : Hid ((IntsIn w3 c0 [nth ds 1] ∧ 0 < [nth ds 1].length) ∧ (IntsIn w3 c1 [nth ds 0] ∧ 0 < [nth ds 0].length) ∧ (IntsIn w3 c2 [nth ds 2] ∧ 0 < [nth ds 2].length) ∧ (IntsIn w3 vt ts ∧ 0 < ts.length)) := ⟨⟨i0.later b3, by simp⟩, ⟨i1.later b3, by simp⟩, ⟨i2.later b3, by simp⟩, HI.out.t.later b3, by omega⟩
  clear b3 i0 i1 i2 k0 k1 k2 HR HI HB
  go_wp2_with (go_at_call 16; refine (wide_any w3 c0 c1 c2 vt _ _ _ ts HI3.out.1 HI3.out.2.1 HI3.out.2.2.1 HI3.out.2.2.2).mono ?_; rintro e w4 ⟨rfl, b4⟩; have HB4 : Hid (Below w.heap.size w w4) := HB3.out.trans (b4.mono HB3.out.size); rw [← HW.out]; clear b4)
  go_ret
  exact ⟨rfl, HB4.out⟩

end Go.Proofs.Ytbmlbnbhjligdaa

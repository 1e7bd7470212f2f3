/- How many sectors of objects are held for certain. -/
import Derived.Test.YtbmlbnbhjligdaaI4
namespace Go.Proofs.Ytbmlbnbhjligdaa
open Go.RowKit Go.MapKept

theorem sect_eq (x : Int) (h : 16 ≤ x) : 1 ≤ Int.tdiv (min x 4096) 16 ∧ Int.tdiv (min x 4096) 16 ≤ 256 := by
  rw [tdiv_nn _ _ (by omega) (by decide)]; omega
theorem sectZ_eq (ds : List Int) : sectZ ds = if Int.tdiv (secOf ds 2) 16 < 1 then 0 else 8 * (Int.tdiv (secOf ds 2) 16 - 1) := by
  unfold sectZ secOf
  by_cases h3 : ds.length < 3
  · rw [if_pos (Or.inl h3), if_pos h3]; decide
  · rw [if_neg h3]
    have h16 := tdiv16 (min (nth ds 2) 4096)
    generalize Int.tdiv (min (nth ds 2) 4096) 16 = q at h16 ⊢
    by_cases hx : nth ds 2 < 16
    · rw [if_pos (Or.inr hx), if_pos (by omega)]
    · rw [if_neg (by omega), if_neg (by omega)]
set_option maxHeartbeats 1000000 in
set_option maxRecDepth 100000 in
theorem sectors_any (w : World) (vd vt : Value) (ds ts : List Int) (hs : ShIn w vd vt ds ts) : Calls Try.prog 12 #[.agg #[vd, vt]] w fun e w' => e = .returned (.int .i64 (sectZ ds)) ∧ Below w.heap.size w w' := by
  obtain ⟨r, hr⟩ : ∃ r, r = sectZ ds := ⟨_, rfl⟩
  have HV : Hid (r = sectZ ds) := hr
  rw [← hr]
  clear hr
  go_enter Try.func12, Try.ntmps12
  go_upto_region 0 with fail
  refine wp_region_lit ?_
  refine wl_box (.tmp 0) rfl rfl [vd, vt] rfl ?_
  intro w1 r1 s1 b1
  simp only [Act.put, List.setIfInBounds_toArray, List.set_cons_succ, List.set_cons_zero]
  refine wl rfl _ _ (run_asZ (.const (.int .i64 0)) rfl _ rfl) ?_
  simp only [Act.put, List.setIfInBounds_toArray, List.set_cons_succ, List.set_cons_zero]
  refine wpList_nil ?_
  have k0 := r1.at 0 _ rfl
  have k1 := r1.at 1 _ rfl
  have HB : Hid (Below w.heap.size w w1) := b1
  have HR : Hid (Row w1 w.heap.size 24 [vd, vt]) := r1
  have HI : Hid (ShIn w1 vd vt ds ts) := hs.later b1
  have hl := hs.d.lt
  clear r1 s1 b1 hs
  obtain ⟨B, hB⟩ : ∃ B, B = w.heap.size := ⟨_, rfl⟩
  have HBq : Hid (B = w.heap.size) := hB
  rw [← hB] at k0 k1 HR ⊢
  clear hB
  go_wp2_with (refine wl_ldA ag24 (.tmp 1) rfl rfl B 0 rfl [vd, vt] rfl (fun j v hv => by rw [Nat.zero_add]; exact HR.out.at j v hv) ?_)
  refine (sectorsOf_any w1 vd vt ds ts HI.out 2 (by decide)).mono ?_
  rintro e w2 ⟨rfl, b2⟩
  have HB2 : Hid (Below w.heap.size w w2) := HB.out.trans (b2.mono HB.out.size)
  clear b2 k0 k1 HB HR
  have hb2 : ¬ ds.length < 3 → -9223372036854775808 ≤ nth ds 2 ∧ nth ds 2 ≤ 9223372036854775807 := fun h3 => HI.out.d.bd 2 (by omega)
  have he := sectZ_eq ds
  have hsb : -9223372036854775808 ≤ secOf ds 2 ∧ secOf ds 2 ≤ 4096 := by
    unfold secOf
    by_cases h3 : ds.length < 3
    · rw [if_pos h3]; decide
    · have := hb2 h3
      rw [if_neg h3]; omega
  have hv := HV.out
  rw [he] at hv
  clear HV he hb2
  generalize secOf ds 2 = s at hsb hv ⊢
  have h16 := tdiv16 s
  obtain ⟨q, hq⟩ : ∃ q, Int.tdiv s 16 = q := ⟨_, rfl⟩
  have HQ : Hid (Int.tdiv s 16 = q) := hq
  rw [hq] at h16 hv
  clear hq
  have hqb : -9223372036854775808 ≤ q ∧ q ≤ 256 := by omega
  clear h16
  by_cases hx : q < 1
  · rw [if_pos hx] at hv
    subst hv
    have t1 : decide (q < 1) = true := by simp; omega
    go_wp2_with (refine wl rfl _ _ (run_quoZ (.tmp 5) (.const (.int .i64 16)) rfl s 16 q rfl rfl (by decide) HQ.out (by omega) (by omega)) ?_)
    go_ret
    exact ⟨rfl, HB2.out⟩
  · rw [if_neg hx] at hv
    have t1 : decide (q < 1) = false := by simp; omega
    subst hv
    go_wp2_with (first
      | (refine wl rfl _ _ (run_quoZ (.tmp 5) (.const (.int .i64 16)) rfl s 16 q rfl rfl (by decide) HQ.out (by omega) (by omega)) ?_)
      | (refine wl rfl _ _ (run_subZ (.tmp 9) (.const (.int .i64 1)) rfl q 1 (q - 1) rfl rfl rfl (by omega) (by omega)) ?_)
      | (refine wl rfl _ _ (run_mulZ (.const (.int .i64 8)) (.tmp 10) rfl 8 (q - 1) (8 * (q - 1)) rfl rfl rfl (by omega) (by omega)) ?_))
    go_ret
    exact ⟨rfl, HB2.out⟩
set_option maxHeartbeats 1000000 in
set_option maxRecDepth 100000 in
theorem refSectors_any (w : World) (vd vt : Value) (ds ts : List Int) (hs : ShIn w vd vt ds ts) : Calls Try.prog 13 #[.agg #[vd, vt]] w fun e w' => e = .returned (.int .i64 (sectZ ds)) ∧ Below w.heap.size w w' := by
  obtain ⟨r, hr⟩ : ∃ r, r = sectZ ds := ⟨_, rfl⟩
  have HV : Hid (r = sectZ ds) := hr
  rw [← hr]
  clear hr
  go_enter Try.func13, Try.ntmps13
  go_upto_region 0 with fail
  refine wp_region_lit ?_
  refine wl_box (.tmp 0) rfl rfl [vd, vt] rfl ?_
  intro w1 r1 s1 b1
  simp only [Act.put, List.setIfInBounds_toArray, List.set_cons_succ, List.set_cons_zero]
  refine wl rfl _ _ (run_asZ (.const (.int .i64 0)) rfl _ rfl) ?_
  simp only [Act.put, List.setIfInBounds_toArray, List.set_cons_succ, List.set_cons_zero]
  refine wpList_nil ?_
  have k0 := r1.at 0 _ rfl
  have k1 := r1.at 1 _ rfl
  have HB : Hid (Below w.heap.size w w1) := b1
  have HR : Hid (Row w1 w.heap.size 24 [vd, vt]) := r1
  have HI : Hid (ShIn w1 vd vt ds ts) := hs.later b1
  have hl := hs.d.lt
  clear r1 s1 b1 hs
  obtain ⟨B, hB⟩ : ∃ B, B = w.heap.size := ⟨_, rfl⟩
  have HBq : Hid (B = w.heap.size) := hB
  rw [← hB] at k0 k1 HR ⊢
  clear hB
  by_cases h3 : ds.length < 3
  · have t1 : decide ((ds.length : Int) < 3) = true := by simp; omega
    obtain rfl : r = 0 := by rw [HV.out]; unfold sectZ; rw [if_pos (Or.inl h3)]
    go_wp2_with (refine wl_lenI (.tmp 4) rfl rfl vd ds rfl HI.out.d ?_)
    go_ret
    exact ⟨rfl, HB.out⟩
  · have t1 : decide ((ds.length : Int) < 3) = false := by simp; omega
    have hv := HV.out
    unfold sectZ at hv
    obtain ⟨x, hx⟩ : ∃ x, x = nth ds 2 := ⟨_, rfl⟩
    have HXE : Hid (nth ds 2 = x) := hx.symm
    rw [← hx] at hv
    clear hx HV
    have hbx := HI.out.d.bd 2 (by omega)
    rw [HXE.out] at hbx
    by_cases hx : x < 16
    · rw [if_pos (Or.inr hx)] at hv
      subst hv
      have t2 : decide (x < 16) = true := by simp; omega
      go_wp2_with (first
        | (refine wl_lenI (.tmp 4) rfl rfl vd ds rfl HI.out.d ?_)
        | (refine wl_ixI (.tmp 9) (.const (.int .i64 2)) (by kernel_rfl) rfl vd ds rfl HI.out.d 2 (by omega) _ rfl rfl ?_; rw [HXE.out]; intro b j c))
      go_ret
      exact ⟨rfl, HB.out⟩
    · rw [if_neg (by omega)] at hv
      have t2 : decide (x < 16) = false := by simp; omega
      have hb := sect_eq x (by omega)
      obtain ⟨s, hs⟩ : ∃ s, min x 4096 = s := ⟨_, rfl⟩
      obtain ⟨q, hq⟩ : ∃ q, Int.tdiv s 16 = q := ⟨_, rfl⟩
      rw [hs, hq] at hb hv
      have HQ : Hid (Int.tdiv s 16 = q) := hq
      have HS : Hid (min x 4096 = s) := hs
      clear hq hs
      subst hv
      go_wp2_with (first
        | (refine wl_lenI (.tmp 4) rfl rfl vd ds rfl HI.out.d ?_)
        | (refine wl_ixI (.tmp 9) (.const (.int .i64 2)) (by kernel_rfl) rfl vd ds rfl HI.out.d 2 (by omega) _ rfl rfl ?_; rw [HXE.out]; intro b j c)
        | (refine wl_ixI (.tmp 15) (.const (.int .i64 2)) rfl rfl vd ds rfl HI.out.d 2 (by omega) _ rfl rfl ?_; rw [HXE.out]; intro b2 j2 c2)
        | (refine wl rfl (.int .i64 s) _ (by rw [← HS.out]; exact run_minZ (.tmp 17) (.const (.int .i64 4096)) rfl _ _ rfl rfl) ?_)
        | (refine wl rfl _ _ (run_quoZ (.tmp 18) (.const (.int .i64 16)) rfl s 16 q rfl rfl (by decide) HQ.out (by omega) (by omega)) ?_)
        | (refine wl rfl _ _ (run_subZ (.tmp 19) (.const (.int .i64 1)) rfl q 1 (q - 1) rfl rfl rfl (by omega) (by omega)) ?_)
        | (refine wl rfl _ _ (run_mulZ (.const (.int .i64 8)) (.tmp 20) rfl 8 (q - 1) (8 * (q - 1)) rfl rfl rfl (by omega) (by omega)) ?_))
      go_ret
      exact ⟨rfl, HB.out⟩
end Go.Proofs.Ytbmlbnbhjligdaa

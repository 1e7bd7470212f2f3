/- How many sectors a disk has that count; what a shape holds for certain. -/
import Derived.Test.YtbmlbnbhjligdaaI3
namespace Go.Proofs.Ytbmlbnbhjligdaa
open Go.RowKit Go.MapKept

/-- a shape's two rows -/
structure ShIn (w : World) (vd vt : Value) (ds ts : List Int) : Prop where
  d : IntsIn w vd ds
  t : IntsIn w vt ts
theorem ShIn.later {w wx : World} {vd vt : Value} {ds ts : List Int} (h : ShIn w vd vt ds ts) (hb : Below w.heap.size w wx) : ShIn wx vd vt ds ts := ⟨h.d.later hb, h.t.later hb⟩
theorem ShIn.one {w : World} {vd vt : Value} {ds ts : List Int} (h : ShIn w vd vt ds ts) : ∀ v ∈ [vd, vt], v.oneCell' = true := by
  intro v hv
  simp only [List.mem_cons, List.not_mem_nil, or_false] at hv
  rcases hv with rfl | rfl
  · exact h.d.one
  · exact h.t.one
def secOf (ds : List Int) (k : Nat) : Int := if ds.length < 3 then 0 else min (nth ds k) 4096
set_option maxHeartbeats 1000000 in
set_option maxRecDepth 100000 in
theorem sectorsOf_any (w : World) (vd vt : Value) (ds ts : List Int) (hs : ShIn w vd vt ds ts) (k : Nat) (_hk : k < 3) : Calls Try.prog 18 #[.agg #[vd, vt], .int .i64 (k : Nat)] w fun e w' => e = .returned (.int .i64 (secOf ds k)) ∧ Below w.heap.size w w' := by
  obtain ⟨r, hr⟩ : ∃ r, r = secOf ds k := ⟨_, rfl⟩
  have HV : Hid (r = secOf ds k) := hr
  rw [← hr]
  clear hr
  go_enter Try.func18, Try.ntmps18
  go_upto_region 0 with fail
  refine wp_region_lit ?_
  refine wl_box (.tmp 0) rfl rfl [vd, vt] rfl ?_
  intro w1 r1 s1 b1
  simp only [Act.put, List.setIfInBounds_toArray, List.set_cons_succ, List.set_cons_zero]
  refine wl rfl _ _ (run_asZ (.const (.int .i64 0)) rfl _ rfl) ?_
  simp only [Act.put, List.setIfInBounds_toArray, List.set_cons_succ, List.set_cons_zero]
  refine wpList_nil ?_
  have k0 := r1.at 0 _ rfl
  have k1 := r1.at 1 _ rfl
  have HB : Hid (Below w.heap.size w w1) := b1
  have HR : Hid (Row w1 w.heap.size 24 [vd, vt]) := r1
  have HI : Hid (ShIn w1 vd vt ds ts) := hs.later b1
  have hl := hs.d.lt
  clear r1 s1 b1 hs
  obtain ⟨B, hB⟩ : ∃ B, B = w.heap.size := ⟨_, rfl⟩
  have HBq : Hid (B = w.heap.size) := hB
  rw [← hB] at k0 k1 HR ⊢
  clear hB
  by_cases h3 : ds.length < 3
  · have t1 : decide ((ds.length : Int) < 3) = true := by simp; omega
    obtain rfl : r = 0 := by rw [HV.out]; unfold secOf; rw [if_pos h3]
    go_wp2_with (refine wl_lenI (.tmp 6) rfl rfl vd ds rfl HI.out.d ?_)
    go_ret
    exact ⟨rfl, HB.out⟩
  · have t1 : decide ((ds.length : Int) < 3) = false := by simp; omega
    have hx : r = min (nth ds k) 4096 := by rw [HV.out]; unfold secOf; rw [if_neg h3]
    have HX : Hid (r = min (nth ds k) 4096) := hx
    clear hx HV
    go_wp2_with (first
      | (refine wl_lenI (.tmp 6) rfl rfl vd ds rfl HI.out.d ?_)
      | (refine wl_ixI (.tmp 10) (.tmp 11) rfl rfl vd ds rfl HI.out.d k (by omega) _ rfl rfl ?_; intro b j c)
      | (refine wl rfl _ _ (run_minZ (.tmp 13) (.const (.int .i64 4096)) rfl _ _ rfl rfl) ?_))
    go_ret
    exact ⟨by rw [HX.out]; rfl, HB.out⟩
/-- of a catalogue of x sectors, 34 at the least: its pages -/
def pagesZ (x : Int) : Int := min (Int.tdiv (min x 4096 - 2) 8) 384
def putsZ (ds : List Int) : Int := if ds.length < 3 ∨ nth ds 1 < 34 then 0 else max (Int.tdiv (Int.tdiv (pagesZ (nth ds 1) - 32) 3 - 1) 3) 0
def sectZ (ds : List Int) : Int := if ds.length < 3 ∨ nth ds 2 < 16 then 0 else 8 * (Int.tdiv (min (nth ds 2) 4096) 16 - 1)
theorem tdiv_nn (a k : Int) (ha : 0 ≤ a) (_hk : 0 < k) : Int.tdiv a k = a / k := Int.tdiv_eq_ediv_of_nonneg ha
theorem tdiv3 (a : Int) : (0 ≤ a → Int.tdiv a 3 = a / 3) ∧ (a ≤ 0 → Int.tdiv a 3 = -((-a) / 3)) := by
  refine ⟨fun h => Int.tdiv_eq_ediv_of_nonneg h, fun h => ?_⟩
  have e : Int.tdiv (-(-a)) 3 = -Int.tdiv (-a) 3 := Int.neg_tdiv ..
  rw [Int.neg_neg] at e
  rw [e, Int.tdiv_eq_ediv_of_nonneg (by omega)]
theorem tdiv16 (a : Int) : (0 ≤ a → Int.tdiv a 16 = a / 16) ∧ (a ≤ 0 → Int.tdiv a 16 = -((-a) / 16)) := by
  refine ⟨fun h => Int.tdiv_eq_ediv_of_nonneg h, fun h => ?_⟩
  have e : Int.tdiv (-(-a)) 16 = -Int.tdiv (-a) 16 := Int.neg_tdiv ..
  rw [Int.neg_neg] at e
  rw [e, Int.tdiv_eq_ediv_of_nonneg (by omega)]
theorem pagesZ_eq (x : Int) (h : 34 ≤ x) : pagesZ x = min ((min x 4096 - 2) / 8) 384 := by
  unfold pagesZ
  rw [tdiv_nn _ _ (by omega) (by decide)]
theorem pagesZ_bd (x : Int) (h : 34 ≤ x) : 4 ≤ pagesZ x ∧ pagesZ x ≤ 384 := by
  rw [pagesZ_eq x h]
  omega
/-- the chapter's number, of P pages -/
def putsP (p : Int) : Int := max (Int.tdiv (Int.tdiv (p - 32) 3 - 1) 3) 0
theorem putsP_bd (p : Int) (h : 4 ≤ p ∧ p ≤ 384) : (-10 ≤ Int.tdiv (p - 32) 3 ∧ Int.tdiv (p - 32) 3 ≤ 118) ∧ (-4 ≤ Int.tdiv (Int.tdiv (p - 32) 3 - 1) 3 ∧ Int.tdiv (Int.tdiv (p - 32) 3 - 1) 3 ≤ 39) := by
  have h1 := tdiv3 (p - 32)
  have h2 := tdiv3 (Int.tdiv (p - 32) 3 - 1)
  omega
theorem putsP_few (p : Int) (h : 4 ≤ p ∧ p < 32) : putsP p = 0 := by
  unfold putsP
  have h1 := tdiv3 (p - 32)
  have h2 := tdiv3 (Int.tdiv (p - 32) 3 - 1)
  omega
set_option maxHeartbeats 1000000 in
set_option maxRecDepth 100000 in
theorem puts_any (w : World) (vd vt : Value) (ds ts : List Int) (hs : ShIn w vd vt ds ts) : Calls Try.prog 10 #[.agg #[vd, vt]] w fun e w' => e = .returned (.int .i64 (putsZ ds)) ∧ Below w.heap.size w w' := by
  obtain ⟨r, hr⟩ : ∃ r, r = putsZ ds := ⟨_, rfl⟩
  have HV : Hid (r = putsZ ds) := hr
  rw [← hr]
  clear hr
  go_enter Try.func10, Try.ntmps10
  go_upto_region 0 with fail
  refine wp_region_lit ?_
  refine wl_box (.tmp 0) rfl rfl [vd, vt] rfl ?_
  intro w1 r1 s1 b1
  simp only [Act.put, List.setIfInBounds_toArray, List.set_cons_succ, List.set_cons_zero]
  refine wl rfl _ _ (run_asZ (.const (.int .i64 0)) rfl _ rfl) ?_
  simp only [Act.put, List.setIfInBounds_toArray, List.set_cons_succ, List.set_cons_zero]
  refine wpList_nil ?_
  have k0 := r1.at 0 _ rfl
  have k1 := r1.at 1 _ rfl
  have HB : Hid (Below w.heap.size w w1) := b1
  have HR : Hid (Row w1 w.heap.size 24 [vd, vt]) := r1
  have HI : Hid (ShIn w1 vd vt ds ts) := hs.later b1
  have hl := hs.d.lt
  clear r1 s1 b1 hs
  obtain ⟨B, hB⟩ : ∃ B, B = w.heap.size := ⟨_, rfl⟩
  have HBq : Hid (B = w.heap.size) := hB
  rw [← hB] at k0 k1 HR ⊢
  clear hB
  go_wp2_with (refine wl_ldA ag24 (.tmp 1) rfl rfl B 0 rfl [vd, vt] rfl (fun j v hv => by rw [Nat.zero_add]; exact HR.out.at j v hv) ?_)
  refine (sectorsOf_any w1 vd vt ds ts HI.out 1 (by decide)).mono ?_
  rintro e w2 ⟨rfl, b2⟩
  have HB2 : Hid (Below w.heap.size w w2) := HB.out.trans (b2.mono HB.out.size)
  clear b2 k0 k1 HB HR
  by_cases h3 : ds.length < 3
  · have e3 : secOf ds 1 = 0 := by unfold secOf; rw [if_pos h3]
    obtain rfl : r = 0 := by rw [HV.out]; unfold putsZ; rw [if_pos (Or.inl h3)]
    rw [e3]
    go_wp2
    go_ret
    exact ⟨rfl, HB2.out⟩
  · have e3 : secOf ds 1 = min (nth ds 1) 4096 := by unfold secOf; rw [if_neg h3]
    rw [e3]
    have hv := HV.out
    unfold putsZ pagesZ at hv
    generalize nth ds 1 = x at hv ⊢
    by_cases hx : x < 34
    · rw [if_pos (Or.inr hx)] at hv
      subst hv
      have t1 : decide (min x 4096 < 34) = true := by simp; omega
      go_wp2
      go_ret
      exact ⟨rfl, HB2.out⟩
    · rw [if_neg (by omega)] at hv
      have t1 : decide (min x 4096 < 34) = false := by simp; omega
      have hm : 34 ≤ min x 4096 ∧ min x 4096 ≤ 4096 := by omega
      clear HV
      generalize min x 4096 = s at hv t1 hm ⊢
      have hq : 4 ≤ Int.tdiv (s - 2) 8 ∧ Int.tdiv (s - 2) 8 ≤ 512 := by rw [tdiv_nn _ _ (by omega) (by decide)]; omega
      obtain ⟨p, hp⟩ : ∃ p, p = min (Int.tdiv (s - 2) 8) 384 := ⟨_, rfl⟩
      have hpb : 4 ≤ p ∧ p ≤ 384 := by omega
      have hb := putsP_bd p hpb
      rw [← hp] at hv
      have HV : Hid (r = max (Int.tdiv (Int.tdiv (p - 32) 3 - 1) 3) 0) := hv
      have HP : Hid (p = min (Int.tdiv (s - 2) 8) 384) := hp
      obtain ⟨y, hy⟩ : ∃ y, Int.tdiv (p - 32) 3 = y := ⟨_, rfl⟩
      obtain ⟨z, hz⟩ : ∃ z, Int.tdiv (y - 1) 3 = z := ⟨_, rfl⟩
      rw [hy, hz] at hb
      have HY : Hid (Int.tdiv (p - 32) 3 = y) := hy
      have HZ : Hid (Int.tdiv (y - 1) 3 = z) := hz
      clear hv hp hy hz
      go_wp2_with (first
        | (refine wl rfl _ _ (run_subZ (.tmp 9) (.const (.int .i64 2)) rfl s 2 (s - 2) rfl rfl rfl (by omega) (by omega)) ?_)
        | (refine wl rfl _ _ (run_quoZ (.tmp 10) (.const (.int .i64 8)) rfl (s - 2) 8 (Int.tdiv (s - 2) 8) rfl rfl (by decide) rfl (by omega) (by omega)) ?_)
        | (refine wl rfl (.int .i64 p) _ (by rw [HP.out]; exact run_minZ (.tmp 11) (.const (.int .i64 384)) rfl _ _ rfl rfl) ?_)
        | (refine wl rfl _ _ (run_subZ (.tmp 13) (.const (.int .i64 32)) rfl p 32 (p - 32) rfl rfl rfl (by omega) (by omega)) ?_)
        | (refine wl rfl _ _ (run_quoZ (.tmp 14) (.const (.int .i64 3)) rfl (p - 32) 3 y rfl rfl (by decide) HY.out (by omega) (by omega)) ?_)
        | (refine wl rfl _ _ (run_subZ (.tmp 15) (.const (.int .i64 1)) rfl y 1 (y - 1) rfl rfl rfl (by omega) (by omega)) ?_)
        | (refine wl rfl _ _ (run_quoZ (.tmp 16) (.const (.int .i64 3)) rfl (y - 1) 3 z rfl rfl (by decide) HZ.out (by omega) (by omega)) ?_)
        | (refine wl rfl _ _ (run_maxZ (.tmp 17) (.const (.int .i64 0)) rfl z 0 rfl rfl) ?_))
      go_ret
      exact ⟨by rw [HV.out, HY.out, HZ.out]; rfl, HB2.out⟩
set_option maxHeartbeats 1000000 in
set_option maxRecDepth 100000 in
theorem refPuts_any (w : World) (vd vt : Value) (ds ts : List Int) (hs : ShIn w vd vt ds ts) : Calls Try.prog 11 #[.agg #[vd, vt]] w fun e w' => e = .returned (.int .i64 (putsZ ds)) ∧ Below w.heap.size w w' := by
  obtain ⟨r, hr⟩ : ∃ r, r = putsZ ds := ⟨_, rfl⟩
  have HV : Hid (r = putsZ ds) := hr
  rw [← hr]
  clear hr
  go_enter Try.func11, Try.ntmps11
  go_upto_region 0 with fail
  refine wp_region_lit ?_
  refine wl_box (.tmp 0) rfl rfl [vd, vt] rfl ?_
  intro w1 r1 s1 b1
  simp only [Act.put, List.setIfInBounds_toArray, List.set_cons_succ, List.set_cons_zero]
  refine wl rfl _ _ (run_asZ (.const (.int .i64 0)) rfl _ rfl) ?_
  simp only [Act.put, List.setIfInBounds_toArray, List.set_cons_succ, List.set_cons_zero]
  refine wpList_nil ?_
  have k0 := r1.at 0 _ rfl
  have k1 := r1.at 1 _ rfl
  have HB : Hid (Below w.heap.size w w1) := b1
  have HR : Hid (Row w1 w.heap.size 24 [vd, vt]) := r1
  have HI : Hid (ShIn w1 vd vt ds ts) := hs.later b1
  have hl := hs.d.lt
  clear r1 s1 b1 hs
  obtain ⟨B, hB⟩ : ∃ B, B = w.heap.size := ⟨_, rfl⟩
  have HBq : Hid (B = w.heap.size) := hB
  rw [← hB] at k0 k1 HR ⊢
  clear hB
  by_cases h3 : ds.length < 3
  · have t1 : decide ((ds.length : Int) < 3) = true := by simp; omega
    obtain rfl : r = 0 := by rw [HV.out]; unfold putsZ; rw [if_pos (Or.inl h3)]
    go_wp2_with (refine wl_lenI (.tmp 5) rfl rfl vd ds rfl HI.out.d ?_)
    go_ret
    exact ⟨rfl, HB.out⟩
  · have t1 : decide ((ds.length : Int) < 3) = false := by simp; omega
    have hv := HV.out
    unfold putsZ at hv
    obtain ⟨x, hx⟩ : ∃ x, x = nth ds 1 := ⟨_, rfl⟩
    have HXE : Hid (nth ds 1 = x) := hx.symm
    rw [← hx] at hv
    clear hx
    have hbx := HI.out.d.bd 1 (by omega)
    rw [HXE.out] at hbx
    by_cases hx : x < 34
    · rw [if_pos (Or.inr hx)] at hv
      subst hv
      have t2 : decide (x < 34) = true := by simp; omega
      go_wp2_with (first
        | (refine wl_lenI (.tmp 5) rfl rfl vd ds rfl HI.out.d ?_)
        | (refine wl_ixI (.tmp 10) (.const (.int .i64 1)) (by kernel_rfl) rfl vd ds rfl HI.out.d 1 (by omega) _ rfl rfl ?_; rw [HXE.out]; intro b j c))
      go_ret
      exact ⟨rfl, HB.out⟩
    · rw [if_neg (by omega)] at hv
      have t2 : decide (x < 34) = false := by simp; omega
      obtain ⟨p, hp⟩ : ∃ p, p = pagesZ x := ⟨_, rfl⟩
      have hpb := pagesZ_bd x (by omega)
      rw [← hp] at hpb hv
      have HV2 : Hid (r = putsP p) := hv
      have HP : Hid (p = min (Int.tdiv (min x 4096 - 2) 8) 384) := hp
      have hm : 34 ≤ min x 4096 ∧ min x 4096 ≤ 4096 := by omega
      have hq : 4 ≤ Int.tdiv (min x 4096 - 2) 8 ∧ Int.tdiv (min x 4096 - 2) 8 ≤ 512 := by rw [tdiv_nn _ _ (by omega) (by decide)]; omega
      obtain ⟨s, hs⟩ : ∃ s, s = min x 4096 := ⟨_, rfl⟩
      have HS : Hid (min x 4096 = s) := hs.symm
      rw [← hs] at hm hq
      have HP2 : Hid (min (Int.tdiv (s - 2) 8) 384 = p) := by show _ = _; rw [hs]; exact HP.out.symm
      clear hv hp hs HV HP
      by_cases h32 : p < 32
      · have t3 : decide (p < 32) = true := by simp; omega
        obtain rfl : r = 0 := by rw [HV2.out]; exact putsP_few p ⟨hpb.1, h32⟩
        go_wp2_with (first
          | (refine wl_lenI (.tmp 5) rfl rfl vd ds rfl HI.out.d ?_)
          | (refine wl_ixI (.tmp 10) (.const (.int .i64 1)) (by kernel_rfl) rfl vd ds rfl HI.out.d 1 (by omega) _ rfl rfl ?_; rw [HXE.out]; intro b j c)
          | (refine wl_ixI (.tmp 16) (.const (.int .i64 1)) rfl rfl vd ds rfl HI.out.d 1 (by omega) _ rfl rfl ?_; rw [HXE.out]; intro b2 j2 c2)
          | (refine wl rfl (.int .i64 s) _ (by rw [← HS.out]; exact run_minZ (.tmp 18) (.const (.int .i64 4096)) rfl _ _ rfl rfl) ?_)
          | (refine wl rfl _ _ (run_subZ (.tmp 19) (.const (.int .i64 2)) rfl s 2 (s - 2) rfl rfl rfl (by omega) (by omega)) ?_)
          | (refine wl rfl _ _ (run_quoZ (.tmp 20) (.const (.int .i64 8)) rfl (s - 2) 8 (Int.tdiv (s - 2) 8) rfl rfl (by decide) rfl (by omega) (by omega)) ?_)
          | (refine wl rfl (.int .i64 p) _ (by rw [← HP2.out]; exact run_minZ (.tmp 21) (.const (.int .i64 384)) rfl _ _ rfl rfl) ?_))
        go_ret
        exact ⟨rfl, HB.out⟩
      · have t3 : decide (p < 32) = false := by simp; omega
        have hb := putsP_bd p hpb
        obtain ⟨y, hy⟩ : ∃ y, Int.tdiv (p - 32) 3 = y := ⟨_, rfl⟩
        obtain ⟨z, hz⟩ : ∃ z, Int.tdiv (y - 1) 3 = z := ⟨_, rfl⟩
        have HRZ : Hid (r = max 0 z) := by show _ = _; rw [HV2.out]; unfold putsP; rw [hy, hz]; omega
        rw [hy, hz] at hb
        have HY : Hid (Int.tdiv (p - 32) 3 = y) := hy
        have HZ : Hid (Int.tdiv (y - 1) 3 = z) := hz
        clear hy hz
        go_wp2_with (first
          | (refine wl_lenI (.tmp 5) rfl rfl vd ds rfl HI.out.d ?_)
          | (refine wl_ixI (.tmp 10) (.const (.int .i64 1)) (by kernel_rfl) rfl vd ds rfl HI.out.d 1 (by omega) _ rfl rfl ?_; rw [HXE.out]; intro b j c)
          | (refine wl_ixI (.tmp 16) (.const (.int .i64 1)) rfl rfl vd ds rfl HI.out.d 1 (by omega) _ rfl rfl ?_; rw [HXE.out]; intro b2 j2 c2)
          | (refine wl rfl (.int .i64 s) _ (by rw [← HS.out]; exact run_minZ (.tmp 18) (.const (.int .i64 4096)) rfl _ _ rfl rfl) ?_)
          | (refine wl rfl _ _ (run_subZ (.tmp 19) (.const (.int .i64 2)) rfl s 2 (s - 2) rfl rfl rfl (by omega) (by omega)) ?_)
          | (refine wl rfl _ _ (run_quoZ (.tmp 20) (.const (.int .i64 8)) rfl (s - 2) 8 (Int.tdiv (s - 2) 8) rfl rfl (by decide) rfl (by omega) (by omega)) ?_)
          | (refine wl rfl (.int .i64 p) _ (by rw [← HP2.out]; exact run_minZ (.tmp 21) (.const (.int .i64 384)) rfl _ _ rfl rfl) ?_)
          | (refine wl rfl _ _ (run_subZ (.tmp 25) (.const (.int .i64 32)) rfl p 32 (p - 32) rfl rfl rfl (by omega) (by omega)) ?_)
          | (refine wl rfl _ _ (run_quoZ (.tmp 26) (.const (.int .i64 3)) rfl (p - 32) 3 y rfl rfl (by decide) HY.out (by omega) (by omega)) ?_)
          | (refine wl rfl _ _ (run_subZ (.tmp 27) (.const (.int .i64 1)) rfl y 1 (y - 1) rfl rfl rfl (by omega) (by omega)) ?_)
          | (refine wl rfl _ _ (run_quoZ (.tmp 28) (.const (.int .i64 3)) rfl (y - 1) 3 z rfl rfl (by decide) HZ.out (by omega) (by omega)) ?_)
          | (refine wl rfl _ _ (run_maxZ (.const (.int .i64 0)) (.tmp 29) rfl 0 z rfl rfl) ?_))
        go_ret
        exact ⟨by rw [HRZ.out]; rfl, HB.out⟩
end Go.Proofs.Ytbmlbnbhjligdaa

/- The document's own plant: Boot. -/
import Derived.Test.YtdddfjkecmnggaaMG
namespace Go.Proofs.Ytdddfjkecmnggaa
open Go.RowKit Go.Maps

set_option maxHeartbeats 8000000 in
set_option maxRecDepth 100000 in
theorem refBoot_some {w : World} {c : Nat → Colour} {t g : Nat} {vd vt hv wv : Value} {ds ts : List Int} {m : Pl} (h : RefAt w c t g vd vt hv wv ds ts m) (hwf : m.WF) (ht0 : t ≠ 0) (ht1 : t ≠ 1) (hfr : ∀ b, w.heap.size ≤ b → (c b).1 = t + 1) (hst : m.steps < 1099511627775) (kv : Value) (ks : List Int) (hk : KeepIn w c t kv ks) (hks0 : ¬ ks = []) :
    Calls Try.prog 26 #[ptr g, kv] w fun e w' => e = .returned noResult ∧ ∃ wv', NextA w c t g vd vt hv wv' ds ts (m.boot ks) w' := by
  obtain ⟨left, hleft, hrow⟩ := h.row
  have k2 := hrow.at 2 _ rfl
  obtain ⟨us0, ho1, _⟩ := h.has.1
  have HA : Hid (RefAt w c t g vd vt hv wv ds ts m) := h
  have HF : Hid (∀ b, w.heap.size ≤ b → (c b).1 = t + 1) := hfr
  have HO : Hid (w.ownsRow 0 57 1 hv m.n us0) := ho1
  have HWF : Hid (m.WF) := hwf
  obtain ⟨kp, kcap, rfl, hkc, hkl, hks⟩ := hk
  obtain ⟨kl, hkle⟩ : ∃ kl, kl = ks.length := ⟨_, rfl⟩
  rw [← hkle] at hkl hkc ⊢
  have HKL : Hid (kl = ks.length) := hkle
  have HKS : Hid (ks = [] ∨ ∃ b off, kp = some ⟨b, off, none⟩ ∧ (c b).1 ≠ t ∧ b < w.heap.size ∧ ∀ j, j < ks.length → w.cell? ⟨b, off + j, none⟩ = some (.int .i64 (ks.getD j 0))) := hks
  have hN12 : m.n ≤ 12 := hwf.few
  have hcn := hwf.count
  obtain ⟨N, hN⟩ : ∃ N, N = m.n := ⟨_, rfl⟩
  have HN : Hid (N = m.n) := hN
  rw [← hN] at HO hN12
  obtain ⟨L, hL⟩ : ∃ L, L = m.wts.length := ⟨_, rfl⟩
  have HL : Hid (L = m.wts.length) := hL
  rw [← hL] at hcn
  obtain ⟨D, hD⟩ : ∃ D, D = ds.length := ⟨_, rfl⟩
  have HDL : Hid (D = ds.length) := hD
  clear h hleft hrow ho1 hkle hks hN hL hwf hfr hD
  go_enter Try.func26, Try.ntmps26
  go_upto_region 0 with fail
  refine wp_region_lit ?_
  refine wl_mv (.tmp 0) rfl rfl (ptr g) rfl ?_
  simp only [Act.put, List.setIfInBounds_toArray, List.set_cons_succ, List.set_cons_zero]
  refine wl_nil (.tmp 11) rfl rfl ⟨g, 0, none⟩ rfl ?_
  simp only [Act.put, List.setIfInBounds_toArray, List.set_cons_succ, List.set_cons_zero]
  refine wl_fld f56_h (.tmp 12) rfl rfl g 0 rfl ?_
  simp only [Act.put, List.setIfInBounds_toArray, List.set_cons_succ, List.set_cons_zero]
  refine wl_ld o53 (.tmp 13) rfl rfl g (0 + 2) rfl hv k2 ?_
  simp only [Act.put, List.setIfInBounds_toArray, List.set_cons_succ, List.set_cons_zero]
  refine wl_olen (.tmp 14) 53 rfl rfl sl53 hv rfl HO.out ?_
  simp only [Act.put, List.setIfInBounds_toArray, List.set_cons_succ, List.set_cons_zero]
  refine wl_make95 (.tmp 15) (.tmp 15) rfl rfl N (by omega) rfl rfl ?_; intro E w1 e1 r1 s1 b1; have R1 : Hid (E = w.heap.size ∧ Row w1 E 4 (ends N (fun _ => false)) ∧ Below w.heap.size w w1) := ⟨e1, r1, b1⟩; clear e1 r1 s1 b1
  simp only [Act.put, List.setIfInBounds_toArray, List.set_cons_succ, List.set_cons_zero]
  refine wl_as (.tmp 16) rfl rfl (.slice (some ⟨E, 0, none⟩) N N) rfl ?_
  simp only [Act.put, List.setIfInBounds_toArray, List.set_cons_succ, List.set_cons_zero]
  refine wpList_nil ?_
  have HI0 : Hid (∃ c', BootC w c t g vd vt hv wv ds ts m E N c' (bootTo m ks 0).1 (bootTo m ks 0).2 w1) := by
    refine ⟨c, ⟨fun _ _ => rfl, fun b hb => Or.inr (Or.inl (HF.out b hb)), fun b hb => HF.out b (Nat.le_trans R1.out.2.2.size hb), Ch.of_below R1.out.2.2⟩, HA.out.same (Same.below R1.out.2.2) R1.out.2.2.size, R1.out.2.1, HF.out E (by rw [R1.out.1]; exact Nat.le_refl _), by rw [R1.out.1]; exact Nat.le_refl _⟩
  clear k2
  go_wp2_with fail
  go_loopw [5] (fun ix W => ∃ n : Nat, n ≤ L ∧ ix = .int .i64 n ∧ ∃ c', BootC w c t g vd vt hv wv ds ts m E N c' (bootTo m ks n).1 (bootTo m ks n).2 W) (fun ix _ => L - (intOf ix).toNat)
  case atStart => exact ⟨0, Nat.zero_le _, rfl, HI0.out⟩
  case round =>
    obtain ⟨n, hn, rfl, c', hB⟩ := hrel
    clear HI0
    have HB : Hid (BootC w c t g vd vt hv wv ds ts m E N c' (bootTo m ks n).1 (bootTo m ks n).2 wr) := hB
    obtain ⟨left, hleft, hrow⟩ := hB.2.1.row
    have k3 := hrow.at 3 _ rfl
    obtain ⟨⟨us, hu1, hu2⟩, hu3⟩ := hB.2.1.waits
    have HW3 : Hid (wr.ownsRow 0 81 3 wv L (wtCells m.wts us)) := by rw [HL.out]; exact hu1
    have HUR : Hid (∀ j, j < L → RO wr c' (us j) (wtAt m.wts j).b) := by rw [HL.out]; exact hu2
    have HRW : Hid (Row wr g 56 (rcells vd vt hv wv (!m.on) (decide (0 ≤ m.fuse)) left (m.steps : Nat) m.clock)) := hrow
    clear hB hleft hrow hu1 hu2 hu3
    by_cases hlt : n < L
    case neg =>
      have hlt' : ¬ (n : Int) < (L : Int) := by omega
      have HEN : Hid (n = m.wts.length) := by show _ = _; rw [← HL.out]; omega
      go_upto_region 24 with (refine wl_olen (.tmp 21) 54 rfl rfl sl54 wv rfl HW3.out ?_)
      have HF5 : Hid (NextA w c t g vd vt hv (.slice none 0 0) ds ts (m.boot ks) (((wr.setCell ⟨g, 3, none⟩ (.slice none 0 0)).setCell ⟨g, 4, none⟩ (.bool false)).setCell ⟨g, 5, none⟩ (.bool false))) := by
        have hb := HB.out
        rw [HEN.out] at hb
        exact boot_end ks hb ht0 ht1 (by rw [HA.out.cg])
      have HR1 : Hid (Row (wr.setCell ⟨g, 3, none⟩ (.slice none 0 0)) g 56 ((rcells vd vt hv wv (!m.on) (decide (0 ≤ m.fuse)) left (m.steps : Nat) m.clock).set 3 (.slice none 0 0))) := row_cell HRW.out _
      have HR2 : Hid (Row ((wr.setCell ⟨g, 3, none⟩ (.slice none 0 0)).setCell ⟨g, 4, none⟩ (.bool false)) g 56 (((rcells vd vt hv wv (!m.on) (decide (0 ≤ m.fuse)) left (m.steps : Nat) m.clock).set 3 (.slice none 0 0)).set 4 (.bool false))) := row_cell HR1.out _
      refine wp_region_lit ?_
      refine wl_mv (.tmp 0) rfl rfl (ptr g) rfl ?_
      simp only [Act.put, List.setIfInBounds_toArray, List.set_cons_succ, List.set_cons_zero]
      refine wl_nil (.tmp 87) rfl rfl ⟨g, 0, none⟩ rfl ?_
      simp only [Act.put, List.setIfInBounds_toArray, List.set_cons_succ, List.set_cons_zero]
      refine wl_fld f56_w (.tmp 88) rfl rfl g 0 rfl ?_
      simp only [Act.put, List.setIfInBounds_toArray, List.set_cons_succ, List.set_cons_zero]
      refine wl_put s54 (.tmp 89) (.const (.slice none 0 0)) rfl rfl rfl g 3 56 _ rfl (.slice none 0 0) rfl ⟨rfl, rfl⟩ HRW.out (by show 3 < 9; decide) ?_
      refine wpList_nil ?_
      generalize wr.setCell ⟨g, 3, none⟩ (.slice none 0 0) = wA at HF5 HR1 HR2 ⊢
      go_upto_region 25 with fail
      refine wp_region_lit ?_
      refine wl_mv (.tmp 0) rfl rfl (ptr g) rfl ?_
      simp only [Act.put, List.setIfInBounds_toArray, List.set_cons_succ, List.set_cons_zero]
      refine wl_nil (.tmp 90) rfl rfl ⟨g, 0, none⟩ rfl ?_
      simp only [Act.put, List.setIfInBounds_toArray, List.set_cons_succ, List.set_cons_zero]
      refine wl_fld f56_off (.tmp 91) rfl rfl g 0 rfl ?_
      simp only [Act.put, List.setIfInBounds_toArray, List.set_cons_succ, List.set_cons_zero]
      refine wl_put s4 (.tmp 92) (.const (.bool false)) rfl rfl rfl g 4 56 _ rfl (.bool false) rfl ⟨rfl, rfl⟩ HR1.out (by show 4 < 9; decide) ?_
      refine wpList_nil ?_
      generalize wA.setCell ⟨g, 4, none⟩ (.bool false) = wB at HF5 HR2 ⊢
      go_upto_region 26 with fail
      refine wp_region_lit ?_
      refine wl_mv (.tmp 0) rfl rfl (ptr g) rfl ?_
      simp only [Act.put, List.setIfInBounds_toArray, List.set_cons_succ, List.set_cons_zero]
      refine wl_nil (.tmp 93) rfl rfl ⟨g, 0, none⟩ rfl ?_
      simp only [Act.put, List.setIfInBounds_toArray, List.set_cons_succ, List.set_cons_zero]
      refine wl_fld f56_burns (.tmp 94) rfl rfl g 0 rfl ?_
      simp only [Act.put, List.setIfInBounds_toArray, List.set_cons_succ, List.set_cons_zero]
      refine wl_put s4 (.tmp 95) (.const (.bool false)) rfl rfl rfl g 5 56 _ rfl (.bool false) rfl ⟨rfl, rfl⟩ HR2.out (by show 5 < 9; decide) ?_
      refine wpList_nil ?_
      generalize wB.setCell ⟨g, 5, none⟩ (.bool false) = wC at HF5 ⊢
      go_wp2_with fail
      go_end0
      exact ⟨rfl, _, HF5.out⟩
    case pos =>
      have hlt' : (n : Int) < (L : Int) := by omega
      have hn' : n < m.wts.length := by rw [← HL.out]; exact hlt
      have HWC : Hid (∀ q, q < 3 → (wtCells m.wts us)[n * 3 + q]? = (wtCell (wtAt m.wts n) (us n))[q]?) := fun q hq => wtCells_at m.wts us n q hn' hq
      have HCELL : Hid (∀ b, (∀ j, j < 3 → wr.cell? ⟨b, n * 3 + j, none⟩ = (wtCells m.wts us)[n * 3 + j]?) → ∀ j v, (wtCell (wtAt m.wts n) (us n))[j]? = some v → wr.cell? ⟨b, n * 3 + j, none⟩ = some v) := fun b hb j v hj => by
        have hj3 : j < 3 := by
          have := (List.getElem?_eq_some_iff.1 hj).1
          simpa [wtCell] using this
        rw [hb j hj3, HWC.out j hj3, hj]
      have HMEM : Hid (wtAt m.wts n ∈ m.wts) := List.mem_of_getElem? (wtAt_get m.wts n hn')
      have HUK : Hid (RO wr c' (us n) (wtAt m.wts n).b) := HUR.out n hlt
      have HSEC : Hid (Sec (wtAt m.wts n).b) := HWF.out.wsec _ HMEM.out
      have HDV : Hid ((wtAt m.wts n).dev < m.n ∧ (wtAt m.wts n).place < m.size (wtAt m.wts n).dev) := ⟨(HWF.out.wdev _ HMEM.out).1, (HWF.out.wdev _ HMEM.out).2.1⟩
      have HPL := boot_place HWF.out ks n (by omega) (wtAt m.wts n).dev HDV.out.1
      have HFL : Hid ((m.tape (wtAt m.wts n).dev = false → (wtAt m.wts n).place < ((bootTo m ks n).1 (wtAt m.wts n).dev).length) ∧ ((bootTo m ks n).1 (wtAt m.wts n).dev).length ≤ 1000000) := by
        refine ⟨fun ht => by rw [HPL.2.1 ht]; exact HDV.out.2, ?_⟩
        have hsz := (HWF.out.sizes _ HDV.out.1).2
        cases ht : m.tape (wtAt m.wts n).dev with
        | false => have := HPL.2.1 ht; omega
        | true =>
          have h4 := HPL.2.2.2 ht
          have h5 := (HWF.out.tapes _ HDV.out.1 ht).1
          have hs : ((m.wts.take n).filter fun x => x.dev == (wtAt m.wts n).dev).length ≤ (m.wt (wtAt m.wts n).dev).length := ((List.take_sublist n m.wts).filter _).length_le
          omega
      have HTP : Hid (m.tape (wtAt m.wts n).dev = decide (D ≤ (wtAt m.wts n).dev)) := by rw [HDL.out]; exact HA.out.shape.tape _ HDV.out.1
      have HROUND : Hid (∀ c'' W, BootC w c t g vd vt hv wv ds ts m E N c'' (bootTo m ks (n + 1)).1 (bootTo m ks (n + 1)).2 W → ∃ n' : Nat, n' ≤ L ∧ (n : Int) + 1 = n' ∧ ∃ c', BootC w c t g vd vt hv wv ds ts m E N c' (bootTo m ks n').1 (bootTo m ks n').2 W) := fun c'' W hB => ⟨n + 1, by omega, by omega, c'', hB⟩
      clear HPL HMEM HWC HUR hn'
      obtain ⟨kk, hkk⟩ : ∃ kk, kk = bootK ks n := ⟨_, rfl⟩
      have HKK : Hid (kk = bootK ks n) := hkk
      have HBT : Hid (n < m.wts.length) := by show _ < _; rw [← HL.out]; exact hlt
      obtain ⟨dv, hdv⟩ : ∃ dv, dv = (wtAt m.wts n).dev := ⟨_, rfl⟩
      obtain ⟨pl, hpl⟩ : ∃ pl, pl = (wtAt m.wts n).place := ⟨_, rfl⟩
      have HDP : Hid (dv = (wtAt m.wts n).dev ∧ pl = (wtAt m.wts n).place) := ⟨hdv, hpl⟩
      have hdn : dv < N := by rw [hdv, HN.out]; exact HDV.out.1
      have HCS : Hid (wtCell (wtAt m.wts n) (us n) = [.int .i64 (dv : Nat), .int .i64 (pl : Nat), us n]) := by show _ = _; unfold wtCell; rw [hdv, hpl]
      rw [HCS.out] at HCELL
      have HU1 : Hid ((us n).cells = #[us n] ∧ (us n).oneCell' = true) := by obtain ⟨a1, a2, a3, e⟩ := HUK.out.slices; rw [e]; exact ⟨rfl, rfl⟩
      generalize us n = uv at HCELL HUK HU1
      clear hkk hdv hpl HCS
      by_cases hk0 : ks = []
      · exact absurd hk0 hks0
      · obtain ⟨bk, off, rfl, hkc1, hkb, hkcell⟩ : ∃ b off, kp = some ⟨b, off, none⟩ ∧ (c b).1 ≠ t ∧ b < w.heap.size ∧ ∀ j, j < ks.length → w.cell? ⟨b, off + j, none⟩ = some (.int .i64 (ks.getD j 0)) := by
          rcases HKS.out with h0 | h0
          · exact absurd h0 hk0
          · exact h0
        have hklp : 0 < kl := by rw [HKL.out]; exact List.length_pos_iff.2 hk0
        obtain ⟨r, hr⟩ : ∃ r, r = n % kl := ⟨_, rfl⟩
        have hrk : r < kl := by rw [hr]; exact Nat.mod_lt _ hklp
        have ck : wr.cell? ⟨bk, off + r, none⟩ = some (.int .i64 kk) := by
          have h1 := hkcell r (by rw [← HKL.out]; exact hrk)
          have e : ks.getD r 0 = kk := by
            rw [HKK.out]
            unfold bootK
            rw [if_neg (by have := HKL.out; omega), ← HKL.out, hr]
          rw [e] at h1
          exact HB.out.1.2.2.2.cell hkc1 h1
        have hmod : (n : Int) % (kl : Int) = (r : Int) := by rw [hr]; simp
        have hpos : decide (0 < kl) = true := by simpa using hklp
        have hne0 : ¬ (kl : Int) = 0 := by omega
        clear hk0 hkcell hkb hr
        go_upto_region 7 with (refine wl_olen (.tmp 21) 54 rfl rfl sl54 wv rfl HW3.out ?_)
        refine wp_region_lit ?_
        refine wl_mv (.tmp 0) rfl rfl (ptr g) rfl ?_
        simp only [Act.put, List.setIfInBounds_toArray, List.set_cons_succ, List.set_cons_zero]
        refine wl_nil (.tmp 36) rfl rfl ⟨g, 0, none⟩ rfl ?_
        simp only [Act.put, List.setIfInBounds_toArray, List.set_cons_succ, List.set_cons_zero]
        refine wl_fld f56_w (.tmp 37) rfl rfl g 0 rfl ?_
        simp only [Act.put, List.setIfInBounds_toArray, List.set_cons_succ, List.set_cons_zero]
        refine wl_ld o54 (.tmp 38) rfl rfl g (0 + 3) rfl wv k3 ?_
        simp only [Act.put, List.setIfInBounds_toArray, List.set_cons_succ, List.set_cons_zero]
        refine wl_mv (.tmp 5) rfl rfl (.int .i64 (n : Nat)) rfl ?_
        simp only [Act.put, List.setIfInBounds_toArray, List.set_cons_succ, List.set_cons_zero]
        refine wl_oidx (.tmp 39) (.tmp 40) 54 81 rfl rfl Try.underlying54 s81 wv rfl HW3.out n _ rfl rfl hlt ?_; intro b3 hb3 hc3; have C3 : Hid (∀ j v, ([.int .i64 (dv : Nat), .int .i64 (pl : Nat), uv] : List Value)[j]? = some v → wr.cell? ⟨b3, n * 3 + j, none⟩ = some v) := HCELL.out b3 hc3; clear hb3 hc3
        simp only [Act.put, List.setIfInBounds_toArray, List.set_cons_succ, List.set_cons_zero]
        refine wl_ldA agg81 (.tmp 41) rfl rfl b3 (n * 3) rfl [.int .i64 (dv : Nat), .int .i64 (pl : Nat), uv] rfl C3.out ?_
        simp only [Act.put, List.setIfInBounds_toArray, List.set_cons_succ, List.set_cons_zero]
        refine wpList_alloc_store agg81 _ zero81 rfl rfl rfl rfl rfl (.tmp 42) rfl [.int .i64 (dv : Nat), .int .i64 (pl : Nat), uv] rfl rfl (by intro y hy; simp only [List.mem_cons, List.not_mem_nil, or_false] at hy; rcases hy with rfl | rfl | rfl; rfl; rfl; exact HU1.out.2) (fun _ => rfl) (fun _ => rfl) ?_; intro w4 r4 s4 b4
        refine wpList_nil ?_
        simp only [Act.put, List.setIfInBounds_toArray, List.set_cons_succ, List.set_cons_zero]
        obtain ⟨q, hq⟩ : ∃ q, q = wr.heap.size := ⟨_, rfl⟩
        rw [← hq] at r4 s4 ⊢
        have HB4 : Hid (BootC w c t g vd vt hv wv ds ts m E N c' (bootTo m ks n).1 (bootTo m ks n).2 w4) := HB.out.below b4
        have HU4 : Hid (RO w4 c' uv (wtAt m.wts n).b) := HUK.out.same (t := t) (Same.below b4) b4.size
        have HQ4 : Hid (Row w4 q 81 [.int .i64 (dv : Nat), .int .i64 (pl : Nat), uv] ∧ w.heap.size ≤ q ∧ E ≠ q ∧ (c' q).1 = t + 1 ∧ q < w4.heap.size) := ⟨r4, by rw [hq]; exact HB.out.1.2.2.2.size, by have := HB.out.2.2.1.lt; omega, HB.out.1.2.2.1 q (by omega), by omega⟩
        clear r4 s4 b4 hq C3 k3 HRW
        obtain ⟨od, hodq⟩ : ∃ od, od = decide (kk % 2 = 1) := ⟨_, rfl⟩
        have HOD : Hid (od = decide (kk % 2 = 1)) := hodq
        have hod : decide (kk.tmod 2 ≠ 0) = od := by
          rw [hodq]
          by_cases h : kk % 2 = 1
          · rw [decide_eq_true h, decide_eq_true ((odd_tmod kk).2 h)]
          · rw [decide_eq_false h, decide_eq_false (fun e => h ((odd_tmod kk).1 e))]
        clear hodq
        go_upto_region 8 with fail
        refine wp_region_lit ?_
        refine wl_mv (.tmp 6) rfl rfl (.int .i64 kk) rfl ?_
        simp only [Act.put, List.setIfInBounds_toArray, List.set_cons_succ, List.set_cons_zero]
        refine wl_rem2 (.tmp 43) rfl rfl kk rfl ?_
        simp only [Act.put, List.setIfInBounds_toArray, List.set_cons_succ, List.set_cons_zero]
        refine wl_ne0 (.tmp 44) rfl rfl (kk.tmod 2) rfl od hod ?_
        simp only [Act.put, List.setIfInBounds_toArray, List.set_cons_succ, List.set_cons_zero]
        refine wl_as (.tmp 45) rfl rfl (.bool od) rfl ?_
        simp only [Act.put, List.setIfInBounds_toArray, List.set_cons_succ, List.set_cons_zero]
        refine wpList_nil ?_
        clear hod
        go_upto_region 9 with fail
        refine wp_region_held (S := fun X => Row X q 81 [.int .i64 (dv : Nat), .int .i64 (pl : Nat), uv] ∧ Below w4.heap.size w4 X) (by kernel_rfl) ?_
        show wpAnyH _ _ _ _ _ 5 (Array.replicate 5 false) _ _
        have HWD : Hid ({ w4 with drawn := w4.drawn + 1 } = w4.drewN 1) := rfl
        rw [HWD.out]
        obtain ⟨W, hW⟩ : ∃ W, W = w4.drewN 1 := ⟨_, rfl⟩
        have bW : Below w4.heap.size w4 W := by rw [hW]; exact below_drewN' _ _
        rw [← hW]
        have hS : Row W q 81 [.int .i64 (dv : Nat), .int .i64 (pl : Nat), uv] ∧ Below w4.heap.size w4 W := ⟨HQ4.out.1.later bW HQ4.out.1.lt, bW⟩
        have HBW : Hid (BootC w c t g vd vt hv wv ds ts m E N c' (bootTo m ks n).1 (bootTo m ks n).2 W) := HB4.out.below bW
        have HUW : Hid (RO W c' uv (wtAt m.wts n).b) := HU4.out.same (t := t) (Same.below bW) bW.size
        have HDK : Hid (Calls Try.prog 44 #[ptr g] W fun e w' => e = .returned (.int .i64 (D : Nat)) ∧ W = w') := by rw [HDL.out]; exact refDisks_any HBW.out.2.1.row HBW.out.2.1.disks.1
        clear hW bW
        refine takeH (i := 0) (some 46) rfl rfl (by kernel_rfl) (by kernel_rfl) (by kernel_rfl) (fun _ _ _ h => h) (zField f81_0 rfl (.tmp 7) rfl q 0 rfl) hS ?_
        simp only [Act.put, List.setIfInBounds_toArray, List.set_cons_succ, List.set_cons_zero]
        refine takeH (i := 1) (some 47) rfl rfl (by kernel_rfl) (by kernel_rfl) (by kernel_rfl) (fun _ _ _ h => h) (zLoad o3 rfl (.tmp 46) rfl q (0 + 0) rfl (.int .i64 (dv : Nat)) (fun X hX => hX.1.at 0 _ rfl)) hS ?_
        simp only [Act.put, List.setIfInBounds_toArray, List.set_cons_succ, List.set_cons_zero]
        refine takeH (i := 2) (some 48) rfl rfl (by kernel_rfl) (by kernel_rfl) (by kernel_rfl) (fun _ _ _ h => h) (zMove rfl (.tmp 0) rfl (ptr g) rfl) hS ?_
        simp only [Act.put, List.setIfInBounds_toArray, List.set_cons_succ, List.set_cons_zero]
        refine oneH (i := 3) (by kernel_rfl) ?_
        refine opCallA (some 49) rfl rfl rfl 44 _ (run_call en44 [.tmp 48] _ rfl [ptr g] rfl) ?_
        refine (HDK.out).mono ?_
        rintro e w' ⟨rfl, rfl⟩
        refine ⟨_, rfl, hS, ?_⟩
        simp only [Act.put, List.setIfInBounds_toArray, List.set_cons_succ, List.set_cons_zero]
        refine oneH (i := 4) (by kernel_rfl) ?_
        refine opValZ (some 50) rfl rfl rfl (.bool (decide ((dv : Int) < (D : Int)))) _ (run_lss (.tmp 47) (.tmp 49) rfl dv D rfl rfl _ rfl) ?_
        refine ⟨hS, ?_⟩
        simp only [Act.put, List.setIfInBounds_toArray, List.set_cons_succ, List.set_cons_zero]
        refine wpAnyH_done (by kernel_rfl) ?_ _
        have HQW : Hid (∀ j v, ([.int .i64 (dv : Nat), .int .i64 (pl : Nat), uv] : List Value)[j]? = some v → W.cell? ⟨q, 0 + j, none⟩ = some v) := fun j v hj => by rw [Nat.zero_add]; exact hS.1.at j v hj
        have HSC : Hid (Calls Try.prog 51 #[ptr g, waitV dv pl uv] W fun e w' => e = .returned noResult ∧ NextA W c' t g vd vt hv wv ds ts { m.withFl (bootTo m ks n).1 with fl := upd (m.withFl (bootTo m ks n).1).fl (wtAt m.wts n).dev (lay (m.tape (wtAt m.wts n).dev) ((bootTo m ks n).1 (wtAt m.wts n).dev) (wtAt m.wts n).place (wtAt m.wts n).b) } w') := by
          rw [HDP.out.1, HDP.out.2]
          exact boot_call HBW.out.2.1 ht1 HBW.out.1.2.2.1 _ _ HDV.out.1 HFL.out.1 HFL.out.2 uv _ HUW.out
        have HQR : Hid (Row W q 81 [.int .i64 (dv : Nat), .int .i64 (pl : Nat), uv]) := hS.1
        clear hS HW3 HCELL HB HB4 HU4
        by_cases hdsk : (dv : Int) < (D : Int)
        · have hdsk' : decide ((dv : Int) < (D : Int)) = true := decide_eq_true hdsk
          have HTF : Hid (m.tape (wtAt m.wts n).dev = false) := by show _ = _; rw [HTP.out]; exact decide_eq_false (by rw [← HDP.out.1]; omega)
          have HEF : Hid ((bootTo m ks n).2 (wtAt m.wts n).dev = false) := boot_disk ks _ HTF.out n
          rw [hdsk']
          cases od with
          | true =>
            have hodd : kk % 2 = 1 := of_decide_eq_true HOD.out.symm
            have HNX : Hid (bootTo m ks (n + 1) = (upd (bootTo m ks n).1 (wtAt m.wts n).dev (lay (m.tape (wtAt m.wts n).dev) ((bootTo m ks n).1 (wtAt m.wts n).dev) (wtAt m.wts n).place (wtAt m.wts n).b), (bootTo m ks n).2)) := boot_odd ks n HBT.out HEF.out (by rw [← HKK.out]; exact hodd)
            rw [HNX.out] at HROUND
            go_upto_region 11 with fail
            refine wp_region_lit ?_
            refine wl_mv (.tmp 0) rfl rfl (ptr g) rfl ?_
            simp only [Act.put, List.setIfInBounds_toArray, List.set_cons_succ, List.set_cons_zero]
            refine wl_ldA agg81 (.tmp 7) rfl rfl q 0 rfl [.int .i64 (dv : Nat), .int .i64 (pl : Nat), uv] rfl HQW.out ?_
            simp only [Act.put, List.setIfInBounds_toArray, List.set_cons_succ, List.set_cons_zero]
            refine wpList_callF en51 [.tmp 52, .tmp 53] _ rfl rfl [ptr g, waitV dv pl uv] rfl ?_
            refine (HSC.out).mono ?_
            rintro e w6 ⟨rfl, n6⟩
            refine ⟨_, rfl, ?_⟩
            simp only [Act.put, List.setIfInBounds_toArray, List.set_cons_succ, List.set_cons_zero]
            refine wpList_nil ?_
            obtain ⟨c'', h6⟩ := HBW.out.settle _ _ n6
            have HN6 : Hid (BootC w c t g vd vt hv wv ds ts m E N c'' (upd (bootTo m ks n).1 (wtAt m.wts n).dev (lay (m.tape (wtAt m.wts n).dev) ((bootTo m ks n).1 (wtAt m.wts n).dev) (wtAt m.wts n).place (wtAt m.wts n).b)) (bootTo m ks n).2 w6) := h6
            clear n6 h6
            go_wp2_with fail
            exact ⟨HROUND.out _ _ HN6.out, by simp [intOf]; omega⟩
          | false =>
            have hodd : ¬ kk % 2 = 1 := of_decide_eq_false HOD.out.symm
            have HNX : Hid (bootTo m ks (n + 1) = bootTo m ks n) := boot_dskip ks n HBT.out HTF.out (by rw [← HKK.out]; exact hodd)
            rw [HNX.out] at HROUND
            go_wp2_with fail
            exact ⟨HROUND.out _ _ HBW.out, by simp [intOf]; omega⟩
        · have hdsk' : decide ((dv : Int) < (D : Int)) = false := decide_eq_false hdsk
          have HTT : Hid (m.tape (wtAt m.wts n).dev = true) := by show _ = _; rw [HTP.out]; exact decide_eq_true (by rw [← HDP.out.1]; omega)
          rw [hdsk']
          cases hend : (bootTo m ks n).2 (wtAt m.wts n).dev with
          | true =>
            have HNX : Hid (bootTo m ks (n + 1) = bootTo m ks n) := boot_same ks n HBT.out hend
            rw [HNX.out] at HROUND
            have HEC : Hid (W.cell? ⟨E, dv, none⟩ = some (.bool true)) := by rw [← hend, ← HDP.out.1]; exact HBW.out.2.2.1.at dv _ (ends_at N _ dv hdn)
            clear hend
            go_wp2_with ((first
      | (refine wl_ld o3 (.tmp 56) rfl rfl q (0 + 0) rfl (.int .i64 (dv : Nat)) (HQW.out 0 _ rfl) ?_)
      | (refine wl_ix (.tmp 55) (.tmp 57) rfl rfl (.slice (some ⟨E, 0, none⟩) N N) (.pointer (some ⟨E, dv, none⟩)) _ rfl rfl (idx95 E N dv hdn) ?_)
      | (refine wl_ld o4 (.tmp 58) rfl rfl E dv rfl _ HEC.out ?_)); try simp only [Act.put, List.setIfInBounds_toArray, List.set_cons_succ, List.set_cons_zero])
            exact ⟨HROUND.out _ _ HBW.out, by simp [intOf]; omega⟩
          | false =>
            have HEF : Hid ((bootTo m ks n).2 (wtAt m.wts n).dev = false) := hend
            have HEC : Hid (W.cell? ⟨E, dv, none⟩ = some (.bool false)) := by rw [← hend, ← HDP.out.1]; exact HBW.out.2.2.1.at dv _ (ends_at N _ dv hdn)
            clear hend
            cases od with
            | true =>
              have hodd : kk % 2 = 1 := of_decide_eq_true HOD.out.symm
              have HNX : Hid (bootTo m ks (n + 1) = (upd (bootTo m ks n).1 (wtAt m.wts n).dev (lay (m.tape (wtAt m.wts n).dev) ((bootTo m ks n).1 (wtAt m.wts n).dev) (wtAt m.wts n).place (wtAt m.wts n).b), (bootTo m ks n).2)) := boot_odd ks n HBT.out HEF.out (by rw [← HKK.out]; exact hodd)
              rw [HNX.out] at HROUND
              go_upto_region 14 with ((first
      | (refine wl_ld o3 (.tmp 56) rfl rfl q (0 + 0) rfl (.int .i64 (dv : Nat)) (HQW.out 0 _ rfl) ?_)
      | (refine wl_ix (.tmp 55) (.tmp 57) rfl rfl (.slice (some ⟨E, 0, none⟩) N N) (.pointer (some ⟨E, dv, none⟩)) _ rfl rfl (idx95 E N dv hdn) ?_)
      | (refine wl_ld o4 (.tmp 58) rfl rfl E dv rfl _ HEC.out ?_)); try simp only [Act.put, List.setIfInBounds_toArray, List.set_cons_succ, List.set_cons_zero])
              refine wp_region_lit ?_
              refine wl_mv (.tmp 0) rfl rfl (ptr g) rfl ?_
              simp only [Act.put, List.setIfInBounds_toArray, List.set_cons_succ, List.set_cons_zero]
              refine wl_ldA agg81 (.tmp 7) rfl rfl q 0 rfl [.int .i64 (dv : Nat), .int .i64 (pl : Nat), uv] rfl HQW.out ?_
              simp only [Act.put, List.setIfInBounds_toArray, List.set_cons_succ, List.set_cons_zero]
              refine wpList_callF en51 [.tmp 61, .tmp 62] _ rfl rfl [ptr g, waitV dv pl uv] rfl ?_
              refine (HSC.out).mono ?_
              rintro e w6 ⟨rfl, n6⟩
              refine ⟨_, rfl, ?_⟩
              simp only [Act.put, List.setIfInBounds_toArray, List.set_cons_succ, List.set_cons_zero]
              refine wpList_nil ?_
              obtain ⟨c'', h6⟩ := HBW.out.settle _ _ n6
              have HN6 : Hid (BootC w c t g vd vt hv wv ds ts m E N c'' (upd (bootTo m ks n).1 (wtAt m.wts n).dev (lay (m.tape (wtAt m.wts n).dev) ((bootTo m ks n).1 (wtAt m.wts n).dev) (wtAt m.wts n).place (wtAt m.wts n).b)) (bootTo m ks n).2 w6) := h6
              clear n6 h6
              go_wp2_with fail
              exact ⟨HROUND.out _ _ HN6.out, by simp [intOf]; omega⟩
            | false =>
              have hodd : ¬ kk % 2 = 1 := of_decide_eq_false HOD.out.symm
              have HNO : Hid (¬ bootK ks n % 2 = 1) := by rw [← HKK.out]; exact hodd
              have HBS : Hid (BootC w c t g vd vt hv wv ds ts m E N c' (bootTo m ks n).1 (fun d => if d = (wtAt m.wts n).dev then true else (bootTo m ks n).2 d) (W.setCell ⟨E, dv, none⟩ (.bool true))) := by rw [← HDP.out.1]; exact HBW.out.store ht0 dv
              have HER : Hid (Row W E 4 (ends N (bootTo m ks n).2) ∧ dv < (ends N (bootTo m ks n).2).length) := ⟨HBW.out.2.2.1, by rw [ends_length]; exact hdn⟩
              go_upto_region 15 with ((first
      | (refine wl_ld o3 (.tmp 56) rfl rfl q (0 + 0) rfl (.int .i64 (dv : Nat)) (HQW.out 0 _ rfl) ?_)
      | (refine wl_ix (.tmp 55) (.tmp 57) rfl rfl (.slice (some ⟨E, 0, none⟩) N N) (.pointer (some ⟨E, dv, none⟩)) _ rfl rfl (idx95 E N dv hdn) ?_)
      | (refine wl_ld o4 (.tmp 58) rfl rfl E dv rfl _ HEC.out ?_)); try simp only [Act.put, List.setIfInBounds_toArray, List.set_cons_succ, List.set_cons_zero])
              refine wp_region_lit ?_
              refine wl_mv (.tmp 4) rfl rfl (.slice (some ⟨E, 0, none⟩) N N) rfl ?_
              simp only [Act.put, List.setIfInBounds_toArray, List.set_cons_succ, List.set_cons_zero]
              refine wl_fld f81_0 (.tmp 7) rfl rfl q 0 rfl ?_
              simp only [Act.put, List.setIfInBounds_toArray, List.set_cons_succ, List.set_cons_zero]
              refine wl_ld o3 (.tmp 65) rfl rfl q (0 + 0) rfl (.int .i64 (dv : Nat)) (HQW.out 0 _ rfl) ?_
              simp only [Act.put, List.setIfInBounds_toArray, List.set_cons_succ, List.set_cons_zero]
              refine wl_ix (.tmp 64) (.tmp 66) rfl rfl (.slice (some ⟨E, 0, none⟩) N N) (.pointer (some ⟨E, dv, none⟩)) _ rfl rfl (idx95 E N dv hdn) ?_
              simp only [Act.put, List.setIfInBounds_toArray, List.set_cons_succ, List.set_cons_zero]
              refine wl_put s4 (.tmp 67) (.const (.bool true)) rfl rfl rfl E dv 4 _ rfl (.bool true) rfl ⟨rfl, rfl⟩ HER.out.1 HER.out.2 ?_
              refine wpList_nil ?_
              have HU5 : Hid (RO (W.setCell ⟨E, dv, none⟩ (.bool true)) c' uv (wtAt m.wts n).b) := by
                have hch : Ch (· = E) W (W.setCell ⟨E, dv, none⟩ (.bool true)) := (Ch.refl (· = E) W).setCell (g := E) (Or.inl rfl) dv _
                exact HUW.out.same (t := t) (Same.ch hch (fun b _ eq => by rw [eq, HBW.out.2.2.2.1]; omega) fun _ _ => rfl) hch.size
              have HQ5 : Hid (Row (W.setCell ⟨E, dv, none⟩ (.bool true)) q 81 [.int .i64 (dv : Nat), .int .i64 (pl : Nat), uv]) := by show _ = _; rw [Below.heap_setCell W ⟨E, dv, none⟩ _ q (Ne.symm HQ4.out.2.2.1)]; exact HQR.out
              clear HSC HQW HER HEC HQR
              generalize W.setCell ⟨E, dv, none⟩ (.bool true) = W5 at HBS HU5 HQ5 ⊢
              by_cases h4 : kk % 4 = 2
              case neg =>
                have HNX : Hid (bootTo m ks (n + 1) = ((bootTo m ks n).1, fun d => if d = (wtAt m.wts n).dev then true else (bootTo m ks n).2 d)) := boot_tskip ks n HBT.out HEF.out HTT.out HNO.out (by rw [← HKK.out]; exact h4)
                rw [HNX.out] at HROUND
                have h4' : decide (kk % 4 = 2) = false := decide_eq_false h4
                go_upto_region 16 with fail
                refine wp_region_lit ?_
                refine wl_mv (.tmp 6) rfl rfl (.int .i64 kk) rfl ?_
                simp only [Act.put, List.setIfInBounds_toArray, List.set_cons_succ, List.set_cons_zero]
                refine wl_and3 (.tmp 68) rfl rfl kk rfl ?_
                simp only [Act.put, List.setIfInBounds_toArray, List.set_cons_succ, List.set_cons_zero]
                refine wl_eqc 2 (.tmp 69) rfl rfl (kk % 4) rfl false h4' ?_
                simp only [Act.put, List.setIfInBounds_toArray, List.set_cons_succ, List.set_cons_zero]
                refine wpList_nil ?_
                go_wp2_with fail
                exact ⟨HROUND.out _ _ HBS.out, by simp [intOf]; omega⟩
              case pos =>
                have HNX : Hid (bootTo m ks (n + 1) = (upd (bootTo m ks n).1 (wtAt m.wts n).dev (lay true ((bootTo m ks n).1 (wtAt m.wts n).dev) (wtAt m.wts n).place (torn (wtAt m.wts n).b)), fun d => if d = (wtAt m.wts n).dev then true else (bootTo m ks n).2 d)) := boot_torn ks n HBT.out HEF.out HTT.out HNO.out (by rw [← HKK.out]; exact h4)
                rw [HNX.out] at HROUND
                have h4' : decide (kk % 4 = 2) = true := decide_eq_true h4
                go_upto_region 16 with fail
                refine wp_region_lit ?_
                refine wl_mv (.tmp 6) rfl rfl (.int .i64 kk) rfl ?_
                simp only [Act.put, List.setIfInBounds_toArray, List.set_cons_succ, List.set_cons_zero]
                refine wl_and3 (.tmp 68) rfl rfl kk rfl ?_
                simp only [Act.put, List.setIfInBounds_toArray, List.set_cons_succ, List.set_cons_zero]
                refine wl_eqc 2 (.tmp 69) rfl rfl (kk % 4) rfl true h4' ?_
                simp only [Act.put, List.setIfInBounds_toArray, List.set_cons_succ, List.set_cons_zero]
                refine wpList_nil ?_
                go_upto_region 17 with fail
                refine wp_region_lit ?_
                refine wl_none rfl rfl ?_; intro w6 r6 s6 b6; have R6 : Hid (Row w6 W5.heap.size 5 [] ∧ Below W5.heap.size W5 w6) := ⟨r6, b6⟩; generalize hgz : W5.heap.size = gz at R6 ⊢; have HGZ : Hid (W5.heap.size = gz) := hgz; clear r6 s6 b6 hgz
                simp only [Act.put, List.setIfInBounds_toArray, List.set_cons_succ, List.set_cons_zero]
                refine wl_fld f81_2 (.tmp 7) rfl rfl q 0 rfl ?_
                simp only [Act.put, List.setIfInBounds_toArray, List.set_cons_succ, List.set_cons_zero]
                refine wl_ld o40 (.tmp 72) rfl rfl q (0 + 2) rfl uv ((HQ5.out.later R6.out.2 (by rw [← HGZ.out]; exact HQ5.out.lt)).at 2 _ rfl) ?_
                simp only [Act.put, List.setIfInBounds_toArray, List.set_cons_succ, List.set_cons_zero]
                refine wl_appB (.tmp 71) (.tmp 73) rfl rfl gz uv (wtAt m.wts n).b rfl R6.out.1 rfl (HU5.out.1.later (by rw [HGZ.out]; exact R6.out.2)) (by rw [HSEC.out.1]; decide) (by rw [HSEC.out.1]; decide) ?_; intro v6 w7 q7 k7 b7; have R7 : Hid (w7.ownsRow 0 5 1 v6 64 (bcells (tornTo (wtAt m.wts n).b 32)) ∧ v6.ownBlock = some w6.heap.size ∧ W5.heap.size ≤ w6.heap.size ∧ Below W5.heap.size W5 w7) := ⟨by rw [tornTo_zero _ HSEC.out.1, ← HSEC.out.1]; exact q7, k7, R6.out.2.size, by rw [HGZ.out]; exact R6.out.2.trans (b7.mono (by rw [← HGZ.out]; exact R6.out.2.size))⟩; clear q7 k7 b7
                simp only [Act.put, List.setIfInBounds_toArray, List.set_cons_succ, List.set_cons_zero]
                refine wl_as (.tmp 74) rfl rfl v6 rfl ?_
                simp only [Act.put, List.setIfInBounds_toArray, List.set_cons_succ, List.set_cons_zero]
                refine wpList_nil ?_
                obtain ⟨z6, hz6⟩ : ∃ z6, z6 = w6.heap.size := ⟨_, rfl⟩
                rw [← hz6] at R7
                clear hz6 HGZ R6
                go_wp2_with fail
                go_loopw [10] (fun jv X => ∃ j : Nat, 32 ≤ j ∧ j ≤ 64 ∧ jv = .int .i64 j ∧ X.ownsRow 0 5 1 v6 64 (bcells (tornTo (wtAt m.wts n).b j)) ∧ Below W5.heap.size W5 X) (fun jv _ => 64 - (intOf jv).toNat)
                case atStart => exact ⟨32, Nat.le_refl _, by decide, rfl, R7.out.1, R7.out.2.2.2⟩
                case round =>
                  obtain ⟨j, hj1, hj2, rfl, hoj, hbj⟩ := hrel
                  have HOJ : Hid (wr.ownsRow 0 5 1 v6 64 (bcells (tornTo (wtAt m.wts n).b j)) ∧ Below W5.heap.size W5 wr) := ⟨hoj, hbj⟩
                  clear hoj hbj
                  by_cases hj : j < 64
                  · have hj' : (j : Int) < 64 := by omega
                    obtain ⟨z, hz, hi, _⟩ := own_index HOJ.out.1 Try.underlying40 size5' j hj
                    obtain ⟨cur, hcur, hcl⟩ := own_row HOJ.out.1 z hz
                    rw [Nat.mul_one] at hi
                    have HI6 : Hid (∀ w', (Instr.indexAt 40 v6 (.int .i64 (j : Nat))).run Try.prog w' = .ok (.pointer (some ⟨z, j, none⟩)) w') := hi
                    have HC6 : Hid (Row wr z 5 cur ∧ j < cur.length) := ⟨hcur, by omega⟩
                    have HO7 : Hid ((wr.setCell ⟨z, j, none⟩ (.int .u8 0)).ownsRow 0 5 1 v6 64 (bcells (tornTo (wtAt m.wts n).b (j + 1))) ∧ Below W5.heap.size W5 (wr.setCell ⟨z, j, none⟩ (.int .u8 0))) := by
                      have hzz : z = z6 := by rw [R7.out.2.1] at hz; injection hz with hz; exact hz.symm
                      refine ⟨?_, HOJ.out.2.setCell (by rw [hzz]; exact R7.out.2.2.1) _⟩
                      have := (own_set HOJ.out.1 z hz j (.int .u8 ((0 : Nat) : Int))).1
                      rw [bcells_set, tornTo_set _ _ hj1] at this
                      exact this
                    clear hz hi hcur hcl
                    go_upto_region 21 with fail
                    refine wp_region_lit ?_
                    refine wl_mv (.tmp 9) rfl rfl v6 rfl ?_
                    simp only [Act.put, List.setIfInBounds_toArray, List.set_cons_succ, List.set_cons_zero]
                    refine wl_mv (.tmp 10) rfl rfl (.int .i64 (j : Nat)) rfl ?_
                    simp only [Act.put, List.setIfInBounds_toArray, List.set_cons_succ, List.set_cons_zero]
                    refine wl_ix (.tmp 79) (.tmp 80) rfl rfl v6 (.pointer (some ⟨z, j, none⟩)) _ rfl rfl HI6.out ?_
                    simp only [Act.put, List.setIfInBounds_toArray, List.set_cons_succ, List.set_cons_zero]
                    refine wl_put size5' (.tmp 81) (.const (.int .u8 0)) rfl rfl rfl z j 5 cur rfl (.int .u8 0) rfl ⟨rfl, rfl⟩ HC6.out.1 HC6.out.2 ?_
                    refine wpList_nil ?_
                    generalize wr.setCell ⟨z, j, none⟩ (.int .u8 0) = wj at HO7 ⊢
                    go_wp2_with fail
                    exact ⟨⟨j + 1, by omega, by omega, by first | omega | go_num, HO7.out⟩, by simp [intOf]; omega⟩
                  · have hj' : ¬ (j : Int) < 64 := by omega
                    have hj64 : j = 64 := by omega
                    subst hj64
                    have hlt7 := (HOJ.out.1.lt z6 R7.out.2.1).2
                    have htn : tornTo (wtAt m.wts n).b 64 = torn (wtAt m.wts n).b := tornTo_all _ HSEC.out.1
                    have hts := torn_sec HSEC.out
                    have hqlt := HQ5.out.lt
                    have hzge := R7.out.2.2.1
                    have HB8 : Hid (BootC w c t g vd vt hv wv ds ts m E N (fun b => if b = z6 then (1, 0) else c' b) (bootTo m ks n).1 (fun d => if d = (wtAt m.wts n).dev then true else (bootTo m ks n).2 d) (wr.setCell ⟨q, 2, none⟩ v6)) := (HBS.out.recol HOJ.out.2 z6 hzge hlt7).other ht0 q 2 v6 (by show (if q = z6 then ((1, 0) : Colour) else c' q).1 = t + 1; rw [if_neg (show q ≠ z6 by omega)]; exact HQ4.out.2.2.2.1) HQ4.out.2.1 HQ4.out.2.2.1
                    have HU8 : Hid (RO (wr.setCell ⟨q, 2, none⟩ v6) (fun b => if b = z6 then (1, 0) else c' b) v6 (torn (wtAt m.wts n).b)) := by
                      have hs : SliceIn wr v6 (torn (wtAt m.wts n).b) := own_slice (by rw [hts.1, ← htn]; exact HOJ.out.1) hts.2
                      refine ⟨sliceK hs fun b hb _ => Below.heap_setCell wr ⟨q, 2, none⟩ v6 b (by rw [R7.out.2.1] at hb; injection hb with hb; show b ≠ q; omega), fun b hb => ?_⟩
                      rw [R7.out.2.1] at hb
                      injection hb with hb
                      subst hb
                      exact ⟨by rw [World.size_setCell]; exact hlt7, by simp⟩
                    have HRQ : Hid (Row wr q 81 [.int .i64 (dv : Nat), .int .i64 (pl : Nat), uv]) := HQ5.out.later HOJ.out.2 hqlt
                    have HRQ8 : Hid (∀ j v, ([.int .i64 (dv : Nat), .int .i64 (pl : Nat), v6] : List Value)[j]? = some v → (wr.setCell ⟨q, 2, none⟩ v6).cell? ⟨q, 0 + j, none⟩ = some v) := fun j v hj => by rw [Nat.zero_add]; exact (row_cell (i := 2) HRQ.out v6).at j v hj
                    have HV6 : Hid (v6.cells = #[v6] ∧ v6.oneCell' = true) := own_cells HOJ.out.1
                    clear hlt7 htn hts hqlt hzge HOJ
                    go_upto_region 22 with fail
                    refine wp_region_lit ?_
                    refine wl_mv (.tmp 9) rfl rfl v6 rfl ?_
                    simp only [Act.put, List.setIfInBounds_toArray, List.set_cons_succ, List.set_cons_zero]
                    refine wl_fld f81_2 (.tmp 7) rfl rfl q 0 rfl ?_
                    simp only [Act.put, List.setIfInBounds_toArray, List.set_cons_succ, List.set_cons_zero]
                    refine wl_put s40 (.tmp 83) (.tmp 82) rfl rfl rfl q 2 81 _ rfl v6 rfl HV6.out HRQ.out (by show 2 < 3; decide) ?_
                    refine wpList_nil ?_
                    generalize wr.setCell ⟨q, 2, none⟩ v6 = w8 at HB8 HU8 HRQ8 ⊢
                    have HS8 : Hid (Calls Try.prog 51 #[ptr g, waitV dv pl v6] w8 fun e w' => e = .returned noResult ∧ NextA w8 (fun b => if b = z6 then (1, 0) else c' b) t g vd vt hv wv ds ts { m.withFl (bootTo m ks n).1 with fl := upd (m.withFl (bootTo m ks n).1).fl (wtAt m.wts n).dev (lay (m.tape (wtAt m.wts n).dev) ((bootTo m ks n).1 (wtAt m.wts n).dev) (wtAt m.wts n).place (torn (wtAt m.wts n).b)) } w') := by
                      rw [HDP.out.1, HDP.out.2]
                      exact boot_call HB8.out.2.1 ht1 HB8.out.1.2.2.1 _ _ HDV.out.1 HFL.out.1 HFL.out.2 v6 _ HU8.out
                    go_upto_region 23 with fail
                    refine wp_region_lit ?_
                    refine wl_mv (.tmp 0) rfl rfl (ptr g) rfl ?_
                    simp only [Act.put, List.setIfInBounds_toArray, List.set_cons_succ, List.set_cons_zero]
                    refine wl_ldA agg81 (.tmp 7) rfl rfl q 0 rfl [.int .i64 (dv : Nat), .int .i64 (pl : Nat), v6] rfl HRQ8.out ?_
                    simp only [Act.put, List.setIfInBounds_toArray, List.set_cons_succ, List.set_cons_zero]
                    refine wpList_callF en51 [.tmp 84, .tmp 85] _ rfl rfl [ptr g, waitV dv pl v6] rfl ?_
                    refine (HS8.out).mono ?_
                    rintro e w9 ⟨rfl, n9⟩
                    refine ⟨_, rfl, ?_⟩
                    simp only [Act.put, List.setIfInBounds_toArray, List.set_cons_succ, List.set_cons_zero]
                    refine wpList_nil ?_
                    rw [HTT.out] at n9
                    obtain ⟨c'', h9⟩ := HB8.out.settle _ _ n9
                    have HN9 : Hid (BootC w c t g vd vt hv wv ds ts m E N c'' (upd (bootTo m ks n).1 (wtAt m.wts n).dev (lay true ((bootTo m ks n).1 (wtAt m.wts n).dev) (wtAt m.wts n).place (torn (wtAt m.wts n).b))) (fun d => if d = (wtAt m.wts n).dev then true else (bootTo m ks n).2 d) w9) := h9
                    clear n9 h9
                    go_wp2_with fail
                    exact ⟨HROUND.out _ _ HN9.out, by simp [intOf]; omega⟩
end Go.Proofs.Ytdddfjkecmnggaa

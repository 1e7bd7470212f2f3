/- The document's own plant: Append. -/
import Derived.Test.YtdddfjkecmnggaaRefWrite
namespace Go.Proofs.Ytdddfjkecmnggaa
open Go.RowKit Go.Maps

set_option maxHeartbeats 4000000 in
set_option maxRecDepth 100000 in
theorem refAppend_at {w : World} {c : Nat → Colour} {t g : Nat} {vd vt hv wv : Value} {ds ts : List Int} {m : Pl} (h : RefAt w c t g vd vt hv wv ds ts m) (hwf : m.WF) (ht0 : t ≠ 0) (ht1 : t ≠ 1) (hfr : ∀ b, w.heap.size ≤ b → (c b).1 = t + 1) (hst : m.steps < 1099511627775) (d : Int) (v : Value) (s : List Nat) (hsv : SliceIn w v s) (hvb : ∀ b, v.ownBlock = some b → b ≠ g) :
    Calls Try.prog 19 #[ptr g, .int .i64 d, v] w fun e w' => e = .returned (.tuple #[.int .i64 ((m.append d s).1 : Int), .int .i64 (m.append d s).2.1]) ∧ ∃ wv', NextA w c t g vd vt hv wv' ds ts (m.append d s).2.2 w' := by
  obtain ⟨r, hr⟩ : ∃ r, r = m.append d s := ⟨_, rfl⟩
  rw [← hr]
  obtain ⟨left, hleft, hrow⟩ := h.row
  have k4 : ∀ W, Below w.heap.size w W → W.cell? ⟨g, 4, none⟩ = some (.bool (!m.on)) := fun W hW => (hrow.later hW hrow.lt).at 4 _ rfl
  have K4 : Hid (∀ W, Below w.heap.size w W → W.cell? ⟨g, 4, none⟩ = some (.bool (!m.on))) := k4
  have HA : Hid (RefAt w c t g vd vt hv wv ds ts m) := h
  have HR : Hid (r = m.append d s) := hr
  have HF : Hid (∀ b, w.heap.size ≤ b → (c b).1 = t + 1) := hfr
  have hlive : LiveR w c t g m := ⟨⟨vd, vt, hv, wv, ds, ts, h⟩, hwf, fun b hb => by rw [hfr b hb]; omega⟩
  have HL : Hid (Calls Try.prog 47 #[ptr g, .int .i64 d] w fun e w' => e = .returned (.tuple #[.int .i64 ((if m.has d then m.len d.toNat else 0 : Nat) : Int), .int .i64 (if m.has d then 0 else 31)]) ∧ Below w.heap.size w w') := refLen_any hlive hst d
  have HD : Hid (∀ W, Below w.heap.size w W → Calls Try.prog 44 #[ptr g] W fun e w' => e = .returned (.int .i64 (ds.length : Nat)) ∧ W = w') := fun W hW => refDisks_any (h.same (Same.below hW) hW.size).row (h.disks.same (t := t) (Same.below hW) hW.size).1
  have HH : Hid (∀ W, Below w.heap.size w W → Calls Try.prog 48 #[ptr g, .int .i64 d] W fun e w' => e = .returned (.bool (decide (m.has d))) ∧ Below W.heap.size W w') := fun W hW => refHas' (h.same (Same.below hW) hW.size).row (h.disks.same (t := t) (Same.below hW) hW.size).1 (h.tapes.same (t := t) (Same.below hW) hW.size).1 h.shape d
  have hn := h.shape.n
  obtain ⟨pv, cv, rfl, hlen⟩ := hsv.shape
  clear hr hleft hrow k4 hlive
  by_cases hon : m.on = false
  · have er : r = (0, 2, m) := by rw [HR.out]; unfold Pl.append; rw [if_pos hon]
    rw [hon] at K4
    subst er
    clear HR h
    generalize (if m.has d then m.len d.toNat else 0 : Nat) = LL at HL
    generalize (if m.has d then 0 else 31 : Int) = EE at HL
    go_enter Try.func19, Try.ntmps19
    go_upto_region 2 with (go_at_call 47; refine (HL.out).mono ?_; rintro e wl ⟨rfl, bl⟩; have HBL : Hid (Below w.heap.size w wl) := bl; clear bl)
    have k4 := K4.out wl HBL.out
    go_wp2_with fail
    go_ret2
    exact ⟨rfl, _, NextA.below HF.out HA.out HBL.out⟩
  have hon' : m.on = true := by simpa using hon
  rw [hon'] at K4
  by_cases hd : m.has d ∧ (ds.length : Int) ≤ d
  case neg =>
    have er : r = (0, 31, m) := by
      rw [HR.out]
      unfold Pl.append
      rw [if_neg hon, if_pos]
      rintro ⟨h1, h2⟩
      have h3 := h1.1
      have h4 := h1.2
      have := h.shape.tape d.toNat (by omega)
      rw [h2] at this
      have := of_decide_eq_true this.symm
      exact hd ⟨h1, by omega⟩
    subst er
    clear HR h
    by_cases h0 : d < (ds.length : Int)
    · have h0' : decide (d < (ds.length : Int)) = true := decide_eq_true h0
      generalize (if m.has d then m.len d.toNat else 0 : Nat) = LL at HL
      generalize (if m.has d then 0 else 31 : Int) = EE at HL
      clear HH hn
      generalize ds.length = D at HD hd h0 h0'
      go_enter Try.func19, Try.ntmps19
      go_upto_region 2 with (go_at_call 47; refine (HL.out).mono ?_; rintro e wl ⟨rfl, bl⟩; have HBL : Hid (Below w.heap.size w wl) := bl; clear bl)
      have k4 := K4.out wl HBL.out
      go_wp2_with (first
        | (go_at_call 44; refine (HD.out wl HBL.out).mono ?_; rintro e wa ⟨rfl, rfl⟩))
      go_ret2
      exact ⟨rfl, _, NextA.below HF.out HA.out HBL.out⟩
    · have h0' : decide (d < (ds.length : Int)) = false := decide_eq_false h0
      have hhas : ¬ m.has d := fun e => hd ⟨e, by omega⟩
      rw [decide_eq_false hhas] at HH
      generalize (if m.has d then m.len d.toNat else 0 : Nat) = LL at HL
      generalize (if m.has d then 0 else 31 : Int) = EE at HL
      generalize ds.length = D at HD hd h0 h0' hn
      go_enter Try.func19, Try.ntmps19
      go_upto_region 2 with (go_at_call 47; refine (HL.out).mono ?_; rintro e wl ⟨rfl, bl⟩; have HBL : Hid (Below w.heap.size w wl) := bl; clear bl)
      have k4 := K4.out wl HBL.out
      go_wp2_with (first
        | (go_at_call 44; refine (HD.out wl HBL.out).mono ?_; rintro e wa ⟨rfl, rfl⟩)
        | (go_at_call 48; refine (HH.out wl HBL.out).mono ?_; rintro e wh ⟨rfl, bh⟩; have HBH : Hid (Below w.heap.size w wh) := HBL.out.trans (bh.mono HBL.out.size); clear bh))
      go_ret2
      exact ⟨rfl, _, NextA.below HF.out HA.out HBH.out⟩
  case pos =>
    obtain ⟨i, rfl⟩ : ∃ i : Nat, d = (i : Int) := ⟨d.toNat, by have := hd.1.1; omega⟩
    have hin : i < m.n := by have := hd.1.2; omega
    have hti : m.tape i = true := by rw [h.shape.tape i hin]; exact decide_eq_true (by omega)
    obtain ⟨j, hj⟩ : ∃ j, i = ds.length + j := ⟨i - ds.length, by omega⟩
    have hsize : (m.size i : Int) = ts.getD j 0 := by rw [hj]; exact h.shape.tapeSize j (by omega)
    have HM : Hid (∀ W, Below w.heap.size w W → Calls Try.prog 39 #[ptr g, .int .i64 (i : Nat)] W fun e w' => e = .returned (.int .i64 (m.size i : Nat)) ∧ Below W.heap.size W w') := fun W hW => by
      rw [hsize, hj]
      refine (refMost_tape (h.same (Same.below hW) hW.size).row (h.disks.same (t := t) (Same.below hW) hW.size).1 (h.tapes.same (t := t) (Same.below hW) hW.size).1 j (by omega)).mono ?_
      rintro e w' ⟨rfl, k, rfl⟩
      exact ⟨rfl, below_drewN' _ _⟩
    have h0' : decide ((i : Int) < (ds.length : Int)) = false := decide_eq_false (by omega)
    have h0 : ¬ (i : Int) < (ds.length : Int) := by omega
    have hhas : m.has (i : Int) := hd.1
    rw [decide_eq_true hhas] at HH
    rw [if_pos hhas, if_pos hhas] at HL
    have hi2 : (i : Int).toNat = i := by omega
    rw [hi2] at HL
    have hin2 : ¬ ¬ (m.has (i : Int) ∧ m.tape (i : Int).toNat = true) := fun h => h ⟨hhas, by rw [hi2]; exact hti⟩
    have hle : m.len i ≤ m.size i := by
      have := (hwf.tapes i hin hti).1
      unfold Pl.len
      rw [hti]
      exact this
    by_cases hl : s.length = 64
    case neg =>
      have er : r = (0, 32, m) := by
        rw [HR.out]
        unfold Pl.append
        rw [if_neg hon, if_neg hin2, if_pos hl]
      subst er
      have hl' : ((s.length : Int) != 64) = true := by simp; omega
      clear HR h hhas hd hsize hj hin2 hi2 hn
      generalize s.length = SL at hsv hl hl' hlen ⊢
      generalize ds.length = D at HD h0 h0'
      generalize m.len i = LL at HL hle
      go_enter Try.func19, Try.ntmps19
      go_upto_region 2 with (go_at_call 47; refine (HL.out).mono ?_; rintro e wl ⟨rfl, bl⟩; have HBL : Hid (Below w.heap.size w wl) := bl; clear bl)
      have k4 := K4.out wl HBL.out
      go_wp2_with (first
        | (go_at_call 44; refine (HD.out wl HBL.out).mono ?_; rintro e wa ⟨rfl, rfl⟩)
        | (go_at_call 48; refine (HH.out wl HBL.out).mono ?_; rintro e wh ⟨rfl, bh⟩; have HBH : Hid (Below w.heap.size w wh) := HBL.out.trans (bh.mono HBL.out.size); clear bh))
      go_ret2
      exact ⟨rfl, _, NextA.below HF.out HA.out HBH.out⟩
    case pos =>
      by_cases hfull : m.size i ≤ m.len i
      · have er : r = (0, 3, m) := by
          rw [HR.out]
          unfold Pl.append
          rw [if_neg hon, if_neg hin2, if_neg (by simp [hl]), if_pos (by rw [hi2]; exact hfull)]
        subst er
        have hEq : m.len i = m.size i := by omega
        rw [hEq] at HL
        rw [hl]
        clear HR h hhas hd hsize hj hin2 hi2 hn hsv hlen hvb hfull hle hEq
        generalize ds.length = D at HD h0 h0'
        generalize m.size i = Z at HL HM
        go_enter Try.func19, Try.ntmps19
        go_upto_region 2 with (go_at_call 47; refine (HL.out).mono ?_; rintro e wl ⟨rfl, bl⟩; have HBL : Hid (Below w.heap.size w wl) := bl; clear bl)
        have k4 := K4.out wl HBL.out
        go_wp2_with (first
        | (go_at_call 44; refine (HD.out wl HBL.out).mono ?_; rintro e wa ⟨rfl, rfl⟩)
        | (go_at_call 48; refine (HH.out wl HBL.out).mono ?_; rintro e wh ⟨rfl, bh⟩; have HBH : Hid (Below w.heap.size w wh) := HBL.out.trans (bh.mono HBL.out.size); clear bh)
        | (go_at_call 39; refine (HM.out wh HBH.out).mono ?_; rintro e wm ⟨rfl, bm⟩; have HBM : Hid (Below w.heap.size w wm) := HBH.out.trans (bm.mono HBH.out.size); clear bm))
        go_ret2
        exact ⟨rfl, _, NextA.below HF.out HA.out HBM.out⟩
      · have HSEC : Hid (s.length = 64 ∧ ∀ c ∈ s, c < 256) := ⟨hl, (hsv.sec hl).2⟩
        have HSV : Hid (SliceIn w (.slice pv 64 cv) s) := by rw [← hl]; exact hsv
        have HST : Hid (∀ W, Below w.heap.size w W → Calls Try.prog 45 #[ptr g] W fun e w' => e = .returned (.bool m.stepOk) ∧ RefRow w' g vd vt hv wv m.step ∧ Ch (· = g) W w') := fun W hW => refStep_any (h.same (Same.below hW) hW.size).row hon' (by omega) hwf.fuse1
        have HVB : Hid (∀ b, (Value.slice pv 64 cv).ownBlock = some b → b ≠ g) := by rw [← hl]; exact hvb
        have hne : ((m.len i : Int) == (m.size i : Int)) = false := by simp; omega
        have hne2 : ¬ (m.len i : Int) = (m.size i : Int) := by omega
        have hne3 : decide ((m.len i : Int) = (m.size i : Int)) = false := decide_eq_false hne2
        have hcn := hwf.count
        have HST1 : Hid (m.step.wts.length ≤ 1099511627776) := by show _ ≤ _; rw [m.step_wts]; omega
        have HSS : Hid (m.step.sh = m.sh ∧ m.step.fl = m.fl ∧ m.step.wts = m.wts) := ⟨m.step_sh, m.step_fl, m.step_wts⟩
        by_cases hf : m.fuse = 0
        · have er : r = (0, 2, m.step) := by
            rw [HR.out]
            unfold Pl.append
            rw [if_neg hon, if_neg hin2, if_neg (by simp [hl]), if_neg (by rw [hi2]; exact hfull), if_pos hf]
          subst er
          have hok : m.stepOk = false := by simp [Pl.stepOk, hf]
          rw [hok] at HST
          rw [hl]
          obtain ⟨m1, hm1⟩ : ∃ m1, m1 = m.step := ⟨_, rfl⟩
          rw [← hm1] at HST HST1 HSS ⊢
          clear HR h hhas hd hsize hj hin2 hi2 hn hsv hlen hvb hm1
          generalize ds.length = D at HD h0 h0'
          generalize m.size i = Z at HM hne hne2 hne3 hle hfull
          generalize m.len i = LL at HL hne hne2 hne3 hle hfull
          go_enter Try.func19, Try.ntmps19
          go_upto_region 2 with (go_at_call 47; refine (HL.out).mono ?_; rintro e wl ⟨rfl, bl⟩; have HBL : Hid (Below w.heap.size w wl) := bl; clear bl)
          have k4 := K4.out wl HBL.out
          go_wp2_with (first
        | (go_at_call 44; refine (HD.out wl HBL.out).mono ?_; rintro e wa ⟨rfl, rfl⟩)
        | (go_at_call 48; refine (HH.out wl HBL.out).mono ?_; rintro e wh ⟨rfl, bh⟩; have HBH : Hid (Below w.heap.size w wh) := HBL.out.trans (bh.mono HBL.out.size); clear bh)
        | (go_at_call 39; refine (HM.out wh HBH.out).mono ?_; rintro e wm ⟨rfl, bm⟩; have HBM : Hid (Below w.heap.size w wm) := HBH.out.trans (bm.mono HBH.out.size); clear bm)
        | (go_at_call 45; refine (HST.out wm HBM.out).mono ?_; rintro e wc ⟨rfl, r5, c5⟩; have R5 : Hid (RefRow wc g vd vt hv wv m1 ∧ Ch (· = g) w wc) := ⟨r5, (Ch.of_below HBM.out).trans c5⟩; clear r5 c5))
          go_ret2
          exact ⟨rfl, _, NextA.head HF.out ht1 HA.out R5.out.1 R5.out.2 HSS.out.1 HSS.out.2.1 HSS.out.2.2⟩
        · have er : r = (m.len i, 0, m.step.wait i (m.len i) s) := by
            rw [HR.out]
            unfold Pl.append
            rw [if_neg hon, if_neg hin2, if_neg (by simp [hl]), if_neg (by rw [hi2]; exact hfull), if_neg hf, hi2]
          subst er
          have hok : m.stepOk = true := by simp [Pl.stepOk, hf]
          rw [hok] at HST
          rw [hl]
          obtain ⟨m1, hm1⟩ : ∃ m1, m1 = m.step := ⟨_, rfl⟩
          rw [← hm1] at HST HST1 HSS ⊢
          clear HR h hhas hd hsize hj hin2 hi2 hn hsv hlen hvb hm1
          generalize ds.length = D at HD h0 h0'
          generalize m.size i = Z at HM hne hne2 hne3 hle hfull
          generalize m.len i = q at HL hne hne2 hne3 hle hfull ⊢
          go_enter Try.func19, Try.ntmps19
          go_upto_region 2 with (go_at_call 47; refine (HL.out).mono ?_; rintro e wl ⟨rfl, bl⟩; have HBL : Hid (Below w.heap.size w wl) := bl; clear bl)
          have k4 := K4.out wl HBL.out
          go_upto_region 12 with (first
        | (go_at_call 44; refine (HD.out wl HBL.out).mono ?_; rintro e wa ⟨rfl, rfl⟩)
        | (go_at_call 48; refine (HH.out wl HBL.out).mono ?_; rintro e wh ⟨rfl, bh⟩; have HBH : Hid (Below w.heap.size w wh) := HBL.out.trans (bh.mono HBL.out.size); clear bh)
        | (go_at_call 39; refine (HM.out wh HBH.out).mono ?_; rintro e wm ⟨rfl, bm⟩; have HBM : Hid (Below w.heap.size w wm) := HBH.out.trans (bm.mono HBH.out.size); clear bm)
        | (go_at_call 45; refine (HST.out wm HBM.out).mono ?_; rintro e wc ⟨rfl, r5, c5⟩; have R5 : Hid (RefRow wc g vd vt hv wv m1 ∧ Ch (· = g) w wc) := ⟨r5, (Ch.of_below HBM.out).trans c5⟩; clear r5 c5))
          have HA1 : Hid (RefAt wc c t g vd vt hv wv ds ts m1) := HA.out.head ht1 R5.out.1 R5.out.2 HSS.out.1 HSS.out.2.1 HSS.out.2.2
          have HV1 : Hid (SliceIn wc (.slice pv 64 cv) s) := SliceIn.ch HSV.out R5.out.2 fun b hb e => HVB.out b hb e
          have HF1 : Hid (∀ b, wc.heap.size ≤ b → (c b).1 = t + 1) := fun b hb => HF.out b (Nat.le_trans R5.out.2.size hb)
          have HCNT : Hid (m1.wts.length ≤ 1099511627776) := HST1.out
          have HCH1 : Hid (Ch (fun b => (c b).1 = t) w wc) := R5.out.2.mono fun b _ e => by rw [e, HA.out.cg]
          generalize Value.slice pv 64 cv = v at HV1 ⊢
          refine wp_region_until (S := fun X => X.cell? ⟨g, 3, none⟩ = some wv) 15 (by kernel_rfl) ?_
          show wpAnyU _ _ _ _ _ _ 16 (Array.replicate 16 false) _ _
          have HWD : Hid ({ wc with drawn := wc.drawn + 1 } = wc.drewN 1) := rfl
          rw [HWD.out]
          obtain ⟨X, hX⟩ : ∃ X, X = wc.drewN 1 := ⟨_, rfl⟩
          have bX : Below wc.heap.size wc X := by rw [hX]; exact ⟨rfl, rfl, rfl, Nat.le_refl _, fun _ _ => rfl⟩
          rw [← hX]
          have HAX : Hid (RefAt X c t g vd vt hv wv ds ts m1) := HA1.out.same (Same.below bX) bX.size
          have HVX : Hid (SliceIn X v s) := HV1.out.later bX
          have HFX : Hid (∀ b, X.heap.size ≤ b → (c b).1 = t + 1) := fun b hb => HF1.out b (Nat.le_trans bX.size hb)
          have HBX : Hid (Below wc.heap.size wc X) := bX
          clear hX bX
          obtain ⟨⟨us, hus1, hus2⟩, hus3⟩ := HAX.out.waits
          obtain ⟨vb, W2, hr2, hvs, b2, b3, hkb, v5, W5, hr5, ho5, hs5, hz5, hk5, hch5⟩ := wait_chain v s HVX.out HSEC.out.1 HSEC.out.2 wv _ _ hus1 HCNT.out i q
          have HUS : Hid (X.ownsRow 0 81 3 wv m1.wts.length (wtCells m1.wts us) ∧ ∀ i, i < m1.wts.length → RO X c (us i) (wtAt m1.wts i).b) := ⟨hus1, hus2⟩
          have HR2 : Hid ((Builtin.append_ #[40, 40] 40 #[.slice (some ⟨X.heap.size, 0, none⟩) 0 0, v]).run Try.prog (X.alloc (.cells #[] 5)) = .ok vb W2) := hr2
          have HR5 : Hid ((Builtin.append_ #[54, 54] 54 #[wv, .slice (some ⟨W2.heap.size, 0, none⟩) 1 1]).run Try.prog (W2.alloc (.cells ([.int .i64 (i : Nat), .int .i64 (q : Nat), vb] : List Value).toArray 81)) = .ok v5 W5) := hr5
          have HVS : Hid (∃ p n c, vb = .slice p n c) := hvs
          have HO5 : Hid (W5.ownsRow 0 81 3 v5 (m1.wts.length + 1) (wtCells m1.wts us ++ [.int .i64 (i : Nat), .int .i64 (q : Nat), vb]) ∧ SliceIn W5 vb s ∧ vb.ownBlock = some (X.heap.size + 1) ∧ X.heap.size + 2 ≤ W5.heap.size ∧ (∀ b, v5.ownBlock = some b → wv.ownBlock = some b ∨ X.heap.size + 2 ≤ b) ∧ Ch (fun b => wv.ownBlock = some b) X W5) := ⟨ho5, hs5, hkb, hz5, hk5, hch5⟩
          have hgx := HAX.out.row.lt
          obtain ⟨left, hleft, hrow⟩ := HAX.out.row
          have hS0 : X.cell? ⟨g, 3, none⟩ = some wv := hrow.at 3 _ rfl
          have hS1 : (X.alloc (.cells #[] 5)).cell? ⟨g, 3, none⟩ = some wv := by rw [((Below.refl X.heap.size X).alloc (Nat.le_refl _) (.cells #[] 5)).cell (by show g < _; exact hgx)]; exact hS0
          have hS2 : W2.cell? ⟨g, 3, none⟩ = some wv := by rw [b2.cell (by show g < _; exact hgx)]; exact hS0
          have hS3 : (W2.alloc (.cells ([.int .i64 (i : Nat), .int .i64 (q : Nat), vb] : List Value).toArray 81)).cell? ⟨g, 3, none⟩ = some wv := by rw [b3.cell (by show g < _; exact hgx)]; exact hS0
          have HGW : Hid (¬ wv.ownBlock = some g) := fun e => by have := hus3 g e; rw [HAX.out.cg] at this; simp at this
          have hS5 : W5.cell? ⟨g, 3, none⟩ = some wv := by rw [World.cell?_of_block (w := X) (hch5.block g hgx HGW.out)]; exact hS0
          have HC5 : Hid (Row W5 g 56 (rcells vd vt hv wv (!m1.on) (decide (0 ≤ m1.fuse)) left (m1.steps : Nat) m1.clock)) := by show _ = _; rw [hch5.block g hgx HGW.out]; exact hrow
          clear hr2 hvs b2 b3 hkb hr5 ho5 hs5 hz5 hk5 hch5 hus1 hus2 hus3 hleft hrow
          refine takeU (i := 0) (some 46) rfl rfl (by kernel_rfl) (by kernel_rfl) (by kernel_rfl) (by kernel_rfl) (by kernel_rfl) (fun _ _ _ h => h) (zMove rfl (.tmp 0) rfl (ptr g) rfl) hS0 ?_
          simp only [Act.put, List.setIfInBounds_toArray, List.set_cons_succ, List.set_cons_zero]
          refine takeU (i := 1) (some 47) rfl rfl (by kernel_rfl) (by kernel_rfl) (by kernel_rfl) (by kernel_rfl) (by kernel_rfl) (fun _ _ _ h => h) (zMove rfl (.tmp 0) rfl (ptr g) rfl) hS0 ?_
          simp only [Act.put, List.setIfInBounds_toArray, List.set_cons_succ, List.set_cons_zero]
          refine takeU (i := 2) (some 48) rfl rfl (by kernel_rfl) (by kernel_rfl) (by kernel_rfl) (by kernel_rfl) (by kernel_rfl) (fun _ _ _ h => h) (zNil rfl (.tmp 47) rfl ⟨g, 0, none⟩ rfl) hS0 ?_
          simp only [Act.put, List.setIfInBounds_toArray, List.set_cons_succ, List.set_cons_zero]
          refine takeU (i := 3) (some 49) rfl rfl (by kernel_rfl) (by kernel_rfl) (by kernel_rfl) (by kernel_rfl) (by kernel_rfl) (fun _ _ _ h => h) (zField f56_w rfl (.tmp 48) rfl g 0 rfl) hS0 ?_
          simp only [Act.put, List.setIfInBounds_toArray, List.set_cons_succ, List.set_cons_zero]
          refine takeU (i := 4) (some 50) rfl rfl (by kernel_rfl) (by kernel_rfl) (by kernel_rfl) (by kernel_rfl) (by kernel_rfl) (fun _ _ _ h => h) (zLoad o54 rfl (.tmp 49) rfl g (0 + 3) rfl wv (fun X hX => hX)) hS0 ?_
          simp only [Act.put, List.setIfInBounds_toArray, List.set_cons_succ, List.set_cons_zero]
          refine takeU (i := 5) (some 51) rfl rfl (by kernel_rfl) (by kernel_rfl) (by kernel_rfl) (by kernel_rfl) (by kernel_rfl) (fun _ _ _ h => h) (zMove rfl (.tmp 1) rfl (.int .i64 (i : Nat)) rfl) hS0 ?_
          simp only [Act.put, List.setIfInBounds_toArray, List.set_cons_succ, List.set_cons_zero]
          refine takeU (i := 6) (some 52) rfl rfl (by kernel_rfl) (by kernel_rfl) (by kernel_rfl) (by kernel_rfl) (by kernel_rfl) (fun _ _ _ h => h) (zMove rfl (.tmp 8) rfl (.int .i64 (q : Nat)) rfl) hS0 ?_
          simp only [Act.put, List.setIfInBounds_toArray, List.set_cons_succ, List.set_cons_zero]
          refine takeU (i := 8) (some 54) rfl rfl (by kernel_rfl) (by kernel_rfl) (by kernel_rfl) (by kernel_rfl) (by kernel_rfl) (fun _ _ _ h => h) (zMove rfl (.tmp 2) rfl v rfl) hS0 ?_
          simp only [Act.put, List.setIfInBounds_toArray, List.set_cons_succ, List.set_cons_zero]
          refine oneU (i := 7) (by kernel_rfl) ?_
          refine opValZ (some 53) rfl rfl rfl (.slice (some ⟨X.heap.size, 0, none⟩) 0 0) _ (run_lit40 rfl) ?_
          refine ⟨fun _ => hS1, ?_⟩
          simp only [Act.put, List.setIfInBounds_toArray, List.set_cons_succ, List.set_cons_zero]
          refine oneU (i := 9) (by kernel_rfl) ?_
          refine opValZ (some 55) rfl rfl rfl vb W2 (run_append (.tmp 53) (.tmp 54) rfl _ v vb rfl rfl HR2.out) ?_
          refine ⟨fun _ => hS2, ?_⟩
          simp only [Act.put, List.setIfInBounds_toArray, List.set_cons_succ, List.set_cons_zero]
          refine oneU (i := 10) (by kernel_rfl) ?_
          refine opValZ (some 56) rfl rfl rfl (.agg ([.int .i64 (i : Nat), .int .i64 (q : Nat), vb] : List Value).toArray) W2 (run_build81 (.tmp 51) (.tmp 52) (.tmp 55) rfl i q vb HVS.out rfl rfl rfl) ?_
          refine ⟨fun _ => hS2, ?_⟩
          simp only [Act.put, List.setIfInBounds_toArray, List.set_cons_succ, List.set_cons_zero]
          refine oneU (i := 11) (by kernel_rfl) ?_
          refine opValZ (some 57) rfl rfl rfl (.slice (some ⟨W2.heap.size, 0, none⟩) 1 1) _ (run_oneOp Try.underlying54 i81' (by decide) (by decide) (.tmp 56) rfl [.int .i64 (i : Nat), .int .i64 (q : Nat), vb] rfl rfl) ?_
          refine ⟨fun _ => hS3, ?_⟩
          simp only [Act.put, List.setIfInBounds_toArray, List.set_cons_succ, List.set_cons_zero]
          refine oneU (i := 12) (by kernel_rfl) ?_
          refine opValZ (some 58) rfl rfl rfl v5 W5 (run_append (.tmp 50) (.tmp 57) rfl wv _ v5 rfl rfl HR5.out) ?_
          refine ⟨fun _ => hS5, ?_⟩
          simp only [Act.put, List.setIfInBounds_toArray, List.set_cons_succ, List.set_cons_zero]
          refine oneU (i := 13) (by kernel_rfl) ?_
          refine opValZ (some 59) rfl rfl rfl (ptr g) W5 (run_nil (.tmp 46) rfl ⟨g, 0, none⟩ rfl) ?_
          refine ⟨fun _ => hS5, ?_⟩
          simp only [Act.put, List.setIfInBounds_toArray, List.set_cons_succ, List.set_cons_zero]
          refine oneU (i := 14) (by kernel_rfl) ?_
          refine opValZ (some 60) rfl rfl rfl (.pointer (some ⟨g, 0 + 3, none⟩)) W5 (run_fieldR f56_w (.tmp 59) rfl g 0 rfl) ?_
          refine ⟨fun _ => hS5, ?_⟩
          simp only [Act.put, List.setIfInBounds_toArray, List.set_cons_succ, List.set_cons_zero]
          refine oneU (i := 15) (by kernel_rfl) ?_
          refine opSkipZ rfl rfl rfl _ (run_putRow s54 (.tmp 60) (.tmp 58) rfl g 3 56 (rcells vd vt hv wv (!m1.on) (decide (0 ≤ m1.fuse)) left (m1.steps : Nat) m1.clock) rfl v5 rfl (own_cells HO5.out.1) HC5.out (by show 3 < 9; decide)) ?_
          refine ⟨fun h => Bool.noConfusion (show true = false from h), ?_⟩
          refine wpAnyU_done (by kernel_rfl) ?_ _
          go_wp2_with fail
          go_ret2
          refine ⟨rfl, v5, NextA.after HF.out (HCH1.out.trans (Ch.of_below HBX.out)) ?_⟩
          exact HAX.out.waitOne ht1 HFX.out i q s us HUS.out.1 HUS.out.2 HO5.out.1 HO5.out.2.1 HO5.out.2.2.1 HO5.out.2.2.2.1 HO5.out.2.2.2.2.1 HO5.out.2.2.2.2.2
end Go.Proofs.Ytdddfjkecmnggaa

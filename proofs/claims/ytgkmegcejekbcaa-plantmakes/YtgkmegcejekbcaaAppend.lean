/- The walks of Plant.Append, Plant.Len, Plant.Read. -/
import Derived.Test.YtgkmegcejekbcaaWrite
namespace Go.Proofs.Ytgkmegcejekbcaa
open Go.RowKit Go.Maps

theorem DevIn.drewN {w : World} {c : Nat → Colour} {k : Colour} {g : Nat} {tape : Bool} {size : Nat} {fl : List (List Nat)} {wt : List Wr} (h : DevIn w c k g tape size fl wt) (n : Nat) : DevIn (w.drewN n) c k g tape size fl wt :=
  h.kept fun _ _ hk => ⟨rfl, hk⟩
theorem length_is {w : World} {c : Nat → Colour} {t g db cap : Nat} {gs : Nat → Nat} {m : Pl} (h : PlantAt w c t g db cap gs m) (hwf : m.WF) (hst : m.steps < 1099511627776) (i : Nat) (hi : i < m.n) (L : Nat) (hL : L = m.len i) (n : Nat) :
    Calls Try.prog 46 #[ptr (gs i)] (w.drewN n) fun e w' => e = .returned (.int .i64 (L : Int)) ∧ ∃ k, w' = (w.drewN n).drewN k := by
  subst hL
  refine (length_any ((h.dev i hi).drewN n) (by have := m.wt_len i; have := hwf.count; omega)).mono ?_
  rintro e w' ⟨rfl, k, rfl⟩
  exact ⟨rfl, k, rfl⟩
theorem length_is0 {w : World} {c : Nat → Colour} {t g db cap : Nat} {gs : Nat → Nat} {m : Pl} (h : PlantAt w c t g db cap gs m) (hwf : m.WF) (hst : m.steps < 1099511627776) (i : Nat) (hi : i < m.n) (L : Nat) (hL : L = m.len i) :
    Calls Try.prog 46 #[ptr (gs i)] w fun e w' => e = .returned (.int .i64 (L : Int)) ∧ ∃ k, w' = w.drewN k := length_is h hwf hst i hi L hL 0
theorem Pl.len_le {m : Pl} (h : m.WF) (i : Nat) (hi : i < m.n) : m.len i ≤ 4096 := by
  have h1 := h.sizes i hi
  unfold Pl.len
  split
  · rename_i ht
    have := (h.tapes i hi ht).1
    omega
  · omega

set_option maxHeartbeats 400000 in
set_option maxRecDepth 100000 in
theorem append_any {w : World} {c : Nat → Colour} {t g db cap : Nat} {gs : Nat → Nat} {m : Pl} (h : PlantAt w c t g db cap gs m) (hwf : m.WF) (hst : m.steps < 1099511627775) (d : Int) (v : Value) (s : List Nat) (hv : SliceIn w v s) :
    Calls Try.prog 18 #[ptr g, .int .i64 d, v] w fun e w' => e = .returned (.tuple #[.int .i64 ((m.append d s).1 : Int), .int .i64 (m.append d s).2.1]) ∧ Post w c t g db cap gs (m.append d s).2.2 w' := by
  obtain ⟨r, hr⟩ : ∃ r, r = m.append d s := ⟨_, rfl⟩
  rw [← hr]
  have c1 := h.c1
  have HP : Hid (PlantAt w c t g db cap gs m) := h
  have HR : Hid (r = m.append d s) := hr
  clear h hr
  by_cases hon : m.on = false
  · have er : r = (0, 2, m) := by rw [HR.out]; unfold Pl.append; rw [if_pos hon]
    rw [hon] at c1
    subst er
    clear HR
    go_enter Try.func18, Try.ntmps18
    go_wp2_with (go_at_call 41; refine (device_any HP.out d).mono ?_; rintro e w' ⟨⟨vd, rfl, _, _⟩, rfl⟩)
    go_ret2
    exact ⟨rfl, Post.refl HP.out⟩
  · have hon' : m.on = true := by simpa using hon
    rw [hon'] at c1
    by_cases hd : m.has d
    · obtain ⟨i, rfl⟩ : ∃ i : Nat, d = (i : Int) := ⟨d.toNat, by have := hd.1; omega⟩
      have hi : i < m.n := by have := hd.2; omega
      have HD : Hid (DevIn w c (t, i + 1) (gs i) (m.tape i) (m.size i) (m.fl i) (m.wt i)) := HP.out.dev i hi
      have d0 := HD.out.d0
      have d1 := HD.out.d1
      by_cases ht : m.tape i = false
      · have er : r = (0, 31, m) := by rw [HR.out]; unfold Pl.append; rw [if_neg hon, if_pos (by simp [ht])]
        subst er
        rw [ht] at d0
        clear HR
        go_enter Try.func18, Try.ntmps18
        go_wp2_with (go_at_call 41; refine (device_at HP.out _ i rfl hi).mono ?_; rintro e w' ⟨rfl, rfl⟩)
        go_ret2
        exact ⟨rfl, Post.refl HP.out⟩
      · have ht' : m.tape i = true := by simpa using ht
        rw [ht'] at d0
        obtain ⟨pv, cv, rfl, _⟩ := hv.shape
        by_cases hl : s.length = 64
        · have hsec := hv.sec hl
          have HV : Hid (SliceIn w (.slice pv 64 cv) s) := by rw [← hl]; exact hv
          obtain ⟨L, hL⟩ : ∃ L, L = m.len i := ⟨_, rfl⟩
          have HL : Hid (L = m.len i) := hL
          have hL4 : L ≤ 4096 := by rw [hL]; exact Pl.len_le hwf i hi
          have hsz := hwf.sizes i hi
          have e0 : ¬ ¬ (m.has (i : Int) ∧ m.tape ((i : Int)).toNat = true) := by simp [hd, ht']
          have e1 : ¬ s.length ≠ 64 := by simp [hl]
          by_cases hful : m.size i ≤ L
          · have er : r = (0, 3, m) := by rw [HR.out]; unfold Pl.append; rw [if_neg hon, if_neg e0, if_neg e1, if_pos (by simp only [Int.toNat_natCast]; omega)]
            subst er
            have t2 : decide ((m.size i : Int) ≤ (L : Int)) = true := by simp; omega
            rw [hl]
            clear HR e0 e1 hl hL hv
            go_enter Try.func18, Try.ntmps18
            go_upto_region 8 with (go_at_call 41; refine (device_at HP.out _ i rfl hi).mono ?_; rintro e wd ⟨rfl, rfl⟩)
            go_quiet (first | (go_at_call 46; exact Calls.quiet_of (length_is HP.out hwf (by omega) i hi L HL.out _)))
            go_wp2
            go_ret2
            exact ⟨rfl, Post.same HP.out _ rfl⟩
          · have t2 : decide ((m.size i : Int) ≤ (L : Int)) = false := by simp; omega
            by_cases hf : m.fuse = 0
            · have er : r = (0, 2, m.step) := by rw [HR.out]; unfold Pl.append; rw [if_neg hon, if_neg e0, if_neg e1, if_neg (by simp only [Int.toNat_natCast]; omega), if_pos hf]
              subst er
              have hok : m.stepOk = false := by simp [Pl.stepOk, hf]
              rw [hl]
              clear HR e0 e1 hl hL hv
              go_enter Try.func18, Try.ntmps18
              go_upto_region 8 with (go_at_call 41; refine (device_at HP.out _ i rfl hi).mono ?_; rintro e wd ⟨rfl, rfl⟩)
              go_quiet (first | (go_at_call 46; exact Calls.quiet_of (length_is HP.out hwf (by omega) i hi L HL.out _)))
              rename_i nq
              go_wp2_with (go_at_call 42; refine (step_any (HP.out.drewN nq) (by omega) hwf.fuse1).mono ?_; rw [hok]; rintro e w1 ⟨rfl, h1, hc1⟩)
              go_ret2
              exact ⟨rfl, Post.stepped HP.out h1 (((Ch.refl (· = g) wd).drewN nq).trans hc1)⟩
            · have er : r = (L, 0, m.step.wait i L s) := by rw [HR.out]; unfold Pl.append; rw [if_neg hon, if_neg e0, if_neg e1, if_neg (by simp only [Int.toNat_natCast]; omega), if_neg hf]; simp [hL]
              subst er
              have hok : m.stepOk = true := by simp [Pl.stepOk, hf]
              rw [hl]
              clear HR e0 e1 hl hL hv
              go_enter Try.func18, Try.ntmps18
              go_upto_region 8 with (go_at_call 41; refine (device_at HP.out _ i rfl hi).mono ?_; rintro e wd ⟨rfl, rfl⟩)
              go_quiet (first | (go_at_call 46; exact Calls.quiet_of (length_is HP.out hwf (by omega) i hi L HL.out _)))
              rename_i nq
              go_upto_region 12 with (go_at_call 42; refine (step_any (HP.out.drewN nq) (by omega) hwf.fuse1).mono ?_; rw [hok]; rintro e w1 ⟨rfl, h1, hc1⟩)
              have hss := m.step_steps hf
              have HC : Hid (Ch (· = g) wd w1) := ((Ch.refl (· = g) wd).drewN nq).trans hc1
              have H1 : Hid (PlantAt w1 c t g db cap gs m.step) := h1
              have HV1 : Hid (SliceIn w1 (.slice pv 64 cv) s) := HV.out.stepped HP.out HC.out
              have hwl : (m.step.wt i).length < 1099511627776 := by
                have := m.wt_len i
                have := hwf.count
                rw [m.step_wt]
                omega
              have hi1 : i < m.step.n := by rw [m.step_n]; exact hi
              have hwf1 := Pl.step_wf hwf
              have hL1 : L = m.step.len i := by rw [m.step_len]; exact HL.out
              have HLN : Hid (Calls Try.prog 46 #[ptr (gs i)] w1 fun e w' => e = .returned (.int .i64 (L : Int)) ∧ ∃ k, w' = w1.drewN k) := length_is0 h1 hwf1 (by omega) i hi1 L hL1
              obtain ⟨st, hst1⟩ : ∃ st, st = m.steps + 1 := ⟨_, rfl⟩
              have HC3 : Hid (∀ k, (w1.drewN k).cell? ⟨g, 3, none⟩ = some (.int .i64 (st : Int))) := fun k => by
                have := (h1.drewN k).c3
                rw [hss, ← hst1] at this
                exact this
              have HW : Hid (∀ k, Calls Try.prog 43 #[ptr (gs i), .int .i64 (st : Int), .int .i64 (L : Int), .slice pv 64 cv] (w1.drewN k) fun e w' => e = .returned noResult ∧ ∃ c', (∀ b, b < w1.heap.size → c' b = c b) ∧ DevIn w' c' (t, i + 1) (gs i) (m.step.tape i) (m.step.size i) (m.step.fl i) (m.step.wt i ++ [⟨i, m.steps + 1, L, s⟩]) ∧ Ch (fun b => c b = (t, i + 1)) (w1.drewN k) w') := fun k => by
                rw [← hst1]
                exact wait_any ((h1.dev i hi1).drewN k) i st L (by omega) hwl s hsec _ (show SliceIn (w1.drewN k) _ s from HV1.out)
              clear h1 hc1 hst1 hL1 hwf1 hwl c1 d0 d1 t2
              go_wp2_with (first | (go_at_call 46; refine HLN.out.mono ?_; rintro e w2 ⟨rfl, k, rfl⟩; have c3 := HC3.out k) | (go_at_call 43; refine (HW.out k).mono ?_; rintro e w2 ⟨rfl, c', hcc, hd2, hc2⟩))
              go_ret2
              exact ⟨rfl, post_wait HP.out HC.out H1.out hf i L s hcc hd2 (((Ch.refl _ w1).drewN k).trans hc2)⟩
        · have er : r = (0, 32, m) := by rw [HR.out]; unfold Pl.append; rw [if_neg hon, if_neg (by simp [hd, ht']), if_pos (by simp [hl])]
          subst er
          clear HR
          have t3 : ((s.length : Int) != 64) = true := by simp; omega
          go_enter Try.func18, Try.ntmps18
          go_wp2_with (go_at_call 41; refine (device_at HP.out _ i rfl hi).mono ?_; rintro e w' ⟨rfl, rfl⟩)
          go_ret2
          exact ⟨rfl, Post.refl HP.out⟩
    · have er : r = (0, 31, m) := by rw [HR.out]; unfold Pl.append; rw [if_neg hon, if_pos (by intro hh; exact hd hh.1)]
      subst er
      clear HR
      go_enter Try.func18, Try.ntmps18
      go_wp2_with (go_at_call 41; refine (device_no HP.out d hd).mono ?_; rintro e w' ⟨rfl, rfl⟩)
      go_ret2
      exact ⟨rfl, Post.refl HP.out⟩

theorem len_any {w : World} {c : Nat → Colour} {t g db cap : Nat} {gs : Nat → Nat} {m : Pl} (h : PlantAt w c t g db cap gs m) (hwf : m.WF) (hst : m.steps < 1099511627776) (d : Int) :
    Calls Try.prog 36 #[ptr g, .int .i64 d] w fun e w' => e = .returned (.tuple #[.int .i64 ((if m.has d then m.len d.toNat else 0 : Nat) : Int), .int .i64 (if m.has d then 0 else 31)]) ∧ ∃ n, w' = w.drewN n := by
  by_cases hd : m.has d
  · rw [if_pos hd, if_pos hd]
    obtain ⟨i, rfl⟩ : ∃ i : Nat, d = (i : Int) := ⟨d.toNat, by have := hd.1; omega⟩
    have hi : i < m.n := by have := hd.2; omega
    have HP : Hid (PlantAt w c t g db cap gs m) := h
    rw [Int.toNat_natCast]
    obtain ⟨L, hL⟩ : ∃ L, L = m.len i := ⟨_, rfl⟩
    rw [← hL]
    have HL : Hid (L = m.len i) := hL
    clear h hL
    go_enter Try.func36, Try.ntmps36
    go_wp2_with (first | (go_at_call 41; refine (device_at HP.out _ i rfl hi).mono ?_; rintro e wd ⟨rfl, rfl⟩) | (go_at_call 46; refine (length_is0 HP.out hwf hst i hi L HL.out).mono ?_; rintro e w2 ⟨rfl, k, rfl⟩))
    go_ret2
    exact ⟨rfl, k, rfl⟩
  · rw [if_neg hd, if_neg hd]
    have HP : Hid (PlantAt w c t g db cap gs m) := h
    clear h
    go_enter Try.func36, Try.ntmps36
    go_wp2_with (go_at_call 41; refine (device_no HP.out d hd).mono ?_; rintro e w' ⟨rfl, rfl⟩)
    go_ret2
    exact ⟨rfl, 0, rfl⟩
end Go.Proofs.Ytgkmegcejekbcaa

/- The walks of Plant.Write, Plant.Append, Plant.Len. -/
import Derived.Test.YtgkmegcejekbcaaWait
import Derived.Test.YtgkmegcejekbcaaMath2
namespace Go.Proofs.Ytgkmegcejekbcaa
open Go.RowKit Go.Maps

/-- what a call leaves behind: the plant as m', old colours, nothing turned but the plant's own -/
def Post (w : World) (c : Nat → Colour) (t g db cap : Nat) (gs : Nat → Nat) (m' : Pl) (w' : World) : Prop :=
  ∃ c', (∀ b, b < w.heap.size → c' b = c b) ∧ PlantAt w' c' t g db cap gs m' ∧ Ch (fun b => (c b).1 = t) w w'

section
variable {w : World} {c : Nat → Colour} {t g db cap : Nat} {gs : Nat → Nat} {m : Pl}
theorem PlantAt.same {w' : World} (h : PlantAt w c t g db cap gs m) (he : w'.heap = w.heap) : PlantAt w' c t g db cap gs m := by
  refine ⟨?_, h.cg, h.cd, h.ne, by rw [he]; exact h.lt, h.cap, fun i hi => ?_, fun i hi => (h.dev i hi).kept fun b _ hk => ⟨by rw [he], hk⟩⟩
  · show w'.heap[g]? = _
    rw [he]
    exact h.row
  · rw [← h.cell i hi]
    exact World.cell?_of_block (by rw [he])
theorem PlantAt.drewN (h : PlantAt w c t g db cap gs m) (n : Nat) : PlantAt (w.drewN n) c t g db cap gs m := h.same rfl
theorem Post.refl (h : PlantAt w c t g db cap gs m) : Post w c t g db cap gs m w := ⟨c, fun _ _ => rfl, h, Ch.refl _ _⟩
theorem Post.same {w' : World} (h : PlantAt w c t g db cap gs m) (n : Nat) (hw : w' = w.drewN n) : Post w c t g db cap gs m w' := by
  subst hw
  exact ⟨c, fun _ _ => rfl, h.drewN n, (Ch.refl _ _).drewN n⟩
theorem Post.stepped {w' : World} (h : PlantAt w c t g db cap gs m) {m' : Pl} (h' : PlantAt w' c t g db cap gs m') (hc : Ch (· = g) w w') : Post w c t g db cap gs m' w' :=
  ⟨c, fun _ _ => rfl, h', hc.mono fun i _ e => by rw [e, h.cg]⟩
/-- a device's contract, as the plant's -/
theorem Post.device {w1 w2 : World} {m1 m2 : Pl} (h1 : PlantAt w1 c t g db cap gs m1) (hc : Ch (fun b => (c b).1 = t) w w1) (i : Nat) (e1 : m2.sh = m1.sh) (e2 : ∀ j, j ≠ i → m2.fl j = m1.fl j ∧ m2.wt j = m1.wt j)
    (e3 : m2.on = m1.on ∧ m2.fuse = m1.fuse ∧ m2.steps = m1.steps ∧ m2.clock = m1.clock) (c' : Nat → Colour) (hcc : ∀ b, b < w1.heap.size → c' b = c b) (hch : Ch (fun b => c b = (t, i + 1)) w1 w2)
    (hd : DevIn w2 c' (t, i + 1) (gs i) (m2.tape i) (m2.size i) (m2.fl i) (m2.wt i)) : Post w c t g db cap gs m2 w2 :=
  ⟨c', fun b hb => hcc b (Nat.lt_of_lt_of_le hb hc.size), h1.device m2 i e1 e2 e3 hch hcc (fun _ => hd), hc.trans' hch fun b _ e => by rw [e]⟩
/-- the device of that number, or none -/
theorem device_any (h : PlantAt w c t g db cap gs m) (d : Int) : Calls Try.prog 41 #[ptr g, .int .i64 d] w fun e w' => (∃ v, e = .returned v ∧ (m.has d → v = ptr (gs d.toNat)) ∧ (¬ m.has d → v = .pointer none)) ∧ w' = w := by
  by_cases hd : m.has d
  · obtain ⟨i, rfl⟩ : ∃ i : Nat, d = (i : Int) := ⟨d.toNat, by have := hd.1; omega⟩
    have hi : i < m.n := by have := hd.2; omega
    refine (device_in w g db m.n cap (gs i) i h.c0 hi (h.cell i hi)).mono ?_
    rintro e w' ⟨rfl, rfl⟩
    exact ⟨⟨_, rfl, fun _ => by simp, fun h => absurd hd h⟩, rfl⟩
  · refine (device_out w g db m.n cap d h.c0 (by unfold Pl.has at hd; omega)).mono ?_
    rintro e w' ⟨rfl, rfl⟩
    exact ⟨⟨_, rfl, fun h => absurd h hd, fun _ => rfl⟩, rfl⟩
theorem device_at (h : PlantAt w c t g db cap gs m) (d : Int) (i : Nat) (hd : d = (i : Int)) (hi : i < m.n) : Calls Try.prog 41 #[ptr g, .int .i64 d] w fun e w' => e = .returned (ptr (gs i)) ∧ w' = w := by
  subst hd
  exact device_in w g db m.n cap (gs i) i h.c0 hi (h.cell i hi)
theorem device_no (h : PlantAt w c t g db cap gs m) (d : Int) (hd : ¬ m.has d) : Calls Try.prog 41 #[ptr g, .int .i64 d] w fun e w' => e = .returned (.pointer none) ∧ w' = w :=
  device_out w g db m.n cap d h.c0 (by unfold Pl.has at hd; omega)
theorem DevIn.d0 {k : Colour} {gi : Nat} {tape : Bool} {size : Nat} {fl : List (List Nat)} {wt : List Wr} (h : DevIn w c k gi tape size fl wt) : w.cell? ⟨gi, 0, none⟩ = some (.bool tape) := by
  obtain ⟨bm, bl, v, hr, _⟩ := h
  exact hr.at 0 _ rfl
theorem DevIn.d1 {k : Colour} {gi : Nat} {tape : Bool} {size : Nat} {fl : List (List Nat)} {wt : List Wr} (h : DevIn w c k gi tape size fl wt) : w.cell? ⟨gi, 1, none⟩ = some (.int .i64 (size : Nat)) := by
  obtain ⟨bm, bl, v, hr, _⟩ := h
  exact hr.at 1 _ rfl
theorem SliceIn.shape {v : Value} {cs : List Nat} (h : SliceIn w v cs) : ∃ p cap, v = .slice p cs.length cap ∧ cs.length ≤ 9223372036854775807 := by
  obtain ⟨p, cap, rfl, hl, _⟩ := h
  exact ⟨p, cap, rfl, hl.2⟩
/-- bytes are no part of a plant's block -/
theorem SliceIn.stepped {w' : World} {v : Value} {cs : List Nat} (h : SliceIn w v cs) (hp : PlantAt w c t g db cap gs m) (hc : Ch (· = g) w w') : SliceIn w' v cs := by
  obtain ⟨p, cp, rfl, hl, h⟩ := h
  refine ⟨p, cp, rfl, hl, ?_⟩
  rcases h with h | ⟨b, off, rfl, hb, h2⟩
  · exact Or.inl h
  · refine Or.inr ⟨b, off, rfl, fun j hj => hc.cell ?_ (hb j hj), h2⟩
    rintro rfl
    have h1 := hb j hj
    rw [hp.row.cell] at h1
    have hlt : off + j < 5 := by
      have := (List.getElem?_eq_some_iff.1 h1).1
      simpa [plCells] using this
    generalize off + j = k at *
    match k, hlt with
    | 0, _ => simp [plCells] at h1
    | 1, _ => simp [plCells] at h1
    | 2, _ => simp [plCells] at h1
    | 3, _ => simp [plCells] at h1
    | 4, _ => simp [plCells] at h1
theorem SliceIn.sec {v : Value} {cs : List Nat} (h : SliceIn w v cs) (hl : cs.length = 64) : Sec cs := by
  refine ⟨hl, fun x hx => ?_⟩
  obtain ⟨p, cap, rfl, _, h⟩ := h
  rcases h with rfl | ⟨b, off, rfl, _, hb⟩
  · simp at hl
  · obtain ⟨j, hj, rfl⟩ := List.getElem_of_mem hx
    have := hb j
    simpa [hj] using this
end

theorem post_wait {w w1 w2 : World} {c c' : Nat → Colour} {t g db cap : Nat} {gs : Nat → Nat} {m : Pl} (h : PlantAt w c t g db cap gs m) (hc : Ch (· = g) w w1) (h1 : PlantAt w1 c t g db cap gs m.step) (hf : m.fuse ≠ 0) (i q : Nat) (s : List Nat)
    (hcc : ∀ b, b < w1.heap.size → c' b = c b) (hd : DevIn w2 c' (t, i + 1) (gs i) (m.step.tape i) (m.step.size i) (m.step.fl i) (m.step.wt i ++ [⟨i, m.steps + 1, q, s⟩])) (hc2 : Ch (fun b => c b = (t, i + 1)) w1 w2) : Post w c t g db cap gs (m.step.wait i q s) w2 := by
  refine Post.device (m1 := m.step) (m2 := m.step.wait i q s) h1 (hc.mono fun b _ e => by rw [e, h.cg]) i ?_ (fun j hj => ⟨?_, ?_⟩) ?_ c' hcc hc2 ?_
  · unfold Pl.wait; rfl
  · unfold Pl.wait; rfl
  · rw [Pl.wt_wait, if_neg (Ne.symm hj)]
  · unfold Pl.wait; exact ⟨rfl, rfl, rfl, rfl⟩
  · rw [Pl.wt_wait, if_pos rfl, m.step_steps hf]
    exact hd

set_option maxHeartbeats 400000 in
set_option maxRecDepth 100000 in
theorem write_any {w : World} {c : Nat → Colour} {t g db cap : Nat} {gs : Nat → Nat} {m : Pl} (h : PlantAt w c t g db cap gs m) (hwf : m.WF) (hst : m.steps < 1099511627776) (d p : Int) (v : Value) (s : List Nat) (hv : SliceIn w v s) :
    Calls Try.prog 16 #[ptr g, .int .i64 d, .int .i64 p, v] w fun e w' => e = .returned (.int .i64 (m.write d p s).1) ∧ Post w c t g db cap gs (m.write d p s).2 w' := by
  obtain ⟨r, hr⟩ : ∃ r, r = m.write d p s := ⟨_, rfl⟩
  rw [← hr]
  have c1 := h.c1
  have HP : Hid (PlantAt w c t g db cap gs m) := h
  have HR : Hid (r = m.write d p s) := hr
  clear h hr
  by_cases hon : m.on = false
  · have er : r = (2, m) := by rw [HR.out]; unfold Pl.write; rw [if_pos hon]
    rw [hon] at c1
    subst er
    clear HR
    go_enter Try.func16, Try.ntmps16
    go_wp2_with (go_at_call 41; refine (device_any HP.out d).mono ?_; rintro e w' ⟨⟨vd, rfl, _, _⟩, rfl⟩)
    go_ret
    exact ⟨rfl, Post.refl HP.out⟩
  · have hon' : m.on = true := by simpa using hon
    rw [hon'] at c1
    by_cases hd : m.has d
    · obtain ⟨i, rfl⟩ : ∃ i : Nat, d = (i : Int) := ⟨d.toNat, by have := hd.1; omega⟩
      have hi : i < m.n := by have := hd.2; omega
      have HD : Hid (DevIn w c (t, i + 1) (gs i) (m.tape i) (m.size i) (m.fl i) (m.wt i)) := HP.out.dev i hi
      have d0 := HD.out.d0
      have d1 := HD.out.d1
      by_cases ht : m.tape i = true
      · have er : r = (31, m) := by rw [HR.out]; unfold Pl.write; rw [if_neg hon, if_pos (by simp [ht])]
        subst er
        rw [ht] at d0
        clear HR
        go_enter Try.func16, Try.ntmps16
        go_wp2_with (go_at_call 41; refine (device_at HP.out _ i rfl hi).mono ?_; rintro e w' ⟨rfl, rfl⟩)
        go_ret
        exact ⟨rfl, Post.refl HP.out⟩
      · have ht' : m.tape i = false := by simpa using ht
        rw [ht'] at d0
        by_cases hp : 0 ≤ p ∧ p < (m.size i : Int)
        · obtain ⟨q, rfl⟩ : ∃ q : Nat, p = (q : Int) := ⟨p.toNat, by have := hp.1; omega⟩
          have hq : q < m.size i := by omega
          have hsz := (hwf.sizes i hi).2
          have t1 : decide ((q : Int) < 0) = false := by simp
          have t2 : decide ((m.size i : Int) ≤ (q : Int)) = false := by simp; omega
          obtain ⟨pv, cv, rfl, _⟩ := hv.shape
          by_cases hl : s.length = 64
          · have hsec := hv.sec hl
            by_cases hf : m.fuse = 0
            · have er : r = (2, m.step) := by rw [HR.out]; unfold Pl.write; rw [if_neg hon, if_neg (by simp [hd, ht', hq]), if_neg (by simp [hl]), if_pos hf]
              subst er
              have hok : m.stepOk = false := by simp [Pl.stepOk, hf]
              clear HR
              have t3 : ((s.length : Int) != 64) = false := by simp [hl]
              go_enter Try.func16, Try.ntmps16
              go_wp2_with (first | (go_at_call 41; refine (device_at HP.out _ i rfl hi).mono ?_; rintro e w' ⟨rfl, rfl⟩) | (go_at_call 42; refine (step_any HP.out (by omega) hwf.fuse1).mono ?_; rw [hok]; rintro e w' ⟨rfl, h1, hc1⟩))
              go_ret
              exact ⟨rfl, Post.stepped HP.out h1 hc1⟩
            · have er : r = (0, m.step.wait i q s) := by rw [HR.out]; unfold Pl.write; rw [if_neg hon, if_neg (by simp [hd, ht', hq]), if_neg (by simp [hl]), if_neg hf]; simp
              subst er
              have hok : m.stepOk = true := by simp [Pl.stepOk, hf]
              clear HR
              have HV : Hid (SliceIn w (.slice pv 64 cv) s) := by rw [← hl]; exact hv
              rw [hl]
              clear hv hl
              go_enter Try.func16, Try.ntmps16
              go_upto_region 10 with (first | (go_at_call 41; refine (device_at HP.out _ i rfl hi).mono ?_; rintro e wd ⟨rfl, rfl⟩) | (go_at_call 42; refine (step_any HP.out (by omega) hwf.fuse1).mono ?_; rw [hok]; rintro e w1 ⟨rfl, h1, hc1⟩))
              have HC : Hid (Ch (· = g) wd w1) := hc1
              have H1 : Hid (PlantAt w1 c t g db cap gs m.step) := h1
              have c3 := h1.c3
              rw [m.step_steps hf] at c3
              obtain ⟨st, hst1⟩ : ∃ st, st = m.steps + 1 := ⟨_, rfl⟩
              rw [← hst1] at c3
              have HST : Hid (st = m.steps + 1) := hst1
              have HV1 : Hid (SliceIn w1 (.slice pv 64 cv) s) := HV.out.stepped HP.out hc1
              have hwl : (m.step.wt i).length < 1099511627776 := by
                have := m.wt_len i
                have := hwf.count
                rw [m.step_wt]
                omega
              have hi1 : i < m.step.n := by rw [m.step_n]; exact hi
              have HW := wait_any (H1.out.dev i hi1) i st q (by omega) hwl s hsec _ HV1.out
              have HWW : Hid (Calls Try.prog 43 #[ptr (gs i), .int .i64 (st : Int), .int .i64 (q : Int), .slice pv 64 cv] w1 fun e w' => e = .returned noResult ∧ ∃ c', (∀ b, b < w1.heap.size → c' b = c b) ∧ DevIn w' c' (t, i + 1) (gs i) (m.step.tape i) (m.step.size i) (m.step.fl i) (m.step.wt i ++ [⟨i, m.steps + 1, q, s⟩]) ∧ Ch (fun b => c b = (t, i + 1)) w1 w') := by rw [← hst1]; exact HW
              clear h1 hc1 HW c1 d0 d1 t1 t2 hst1
              go_wp2_with (go_at_call 43; refine HWW.out.mono ?_; rintro e w2 ⟨rfl, c', hcc, hd2, hc2⟩)
              go_ret
              exact ⟨rfl, post_wait HP.out HC.out H1.out hf i q s hcc hd2 hc2⟩
          · have er : r = (32, m) := by rw [HR.out]; unfold Pl.write; rw [if_neg hon, if_neg (by simp [hd, ht', hq]), if_pos (by simp [hl])]
            subst er
            clear HR
            have t3 : ((s.length : Int) != 64) = true := by simp; omega
            go_enter Try.func16, Try.ntmps16
            go_wp2_with (go_at_call 41; refine (device_at HP.out _ i rfl hi).mono ?_; rintro e w' ⟨rfl, rfl⟩)
            go_ret
            exact ⟨rfl, Post.refl HP.out⟩
        · have er : r = (31, m) := by rw [HR.out]; unfold Pl.write; rw [if_neg hon, if_pos (by simp only [Int.toNat_natCast]; intro hh; exact hp hh.2.2)]
          subst er
          clear HR
          by_cases hp0 : p < 0
          · have t1 : decide (p < 0) = true := by simpa using hp0
            go_enter Try.func16, Try.ntmps16
            go_wp2_with (go_at_call 41; refine (device_at HP.out _ i rfl hi).mono ?_; rintro e w' ⟨rfl, rfl⟩)
            go_ret
            exact ⟨rfl, Post.refl HP.out⟩
          · have t1 : decide (p < 0) = false := by simpa using hp0
            have t2 : decide ((m.size i : Int) ≤ p) = true := by simp; omega
            go_enter Try.func16, Try.ntmps16
            go_wp2_with (go_at_call 41; refine (device_at HP.out _ i rfl hi).mono ?_; rintro e w' ⟨rfl, rfl⟩)
            go_ret
            exact ⟨rfl, Post.refl HP.out⟩
    · have er : r = (31, m) := by rw [HR.out]; unfold Pl.write; rw [if_neg hon, if_pos (by intro hh; exact hd hh.1)]
      subst er
      clear HR
      go_enter Try.func16, Try.ntmps16
      go_wp2_with (go_at_call 41; refine (device_no HP.out d hd).mono ?_; rintro e w' ⟨rfl, rfl⟩)
      go_ret
      exact ⟨rfl, Post.refl HP.out⟩
end Go.Proofs.Ytgkmegcejekbcaa

/- The document's own plant, from call to call, with the same Pl as the plant. -/
import Derived.Test.YtdddfjkecmnggaaRefClone
import Derived.Test.YtdddfjkecmnggaaRefRot
import Derived.Test.YtdddfjkecmnggaaPRot
namespace Go.Proofs.Ytdddfjkecmnggaa
open Go.RowKit Go.Maps

section
variable {w : World} {c : Nat → Colour} {t g : Nat} {m : Pl}
theorem LiveR.write (h : LiveR w c t g m) (ht0 : t ≠ 0) (ht1 : t ≠ 1) (hst : m.steps < 1099511627775) (d p : Int) (v : Value) (s : List Nat) (hsv : SliceIn w v s) (hs : ∀ c ∈ s, c < 256) (hvb : ∀ b, v.ownBlock = some b → b ≠ g) : Calls Try.prog 17 #[ptr g, .int .i64 d, .int .i64 p, v] w fun e w' => e = .returned (.int .i64 (m.write d p s).1) ∧ NextR w c t g (m.write d p s).2 w' := by
  obtain ⟨vd, vt, hv, wv, ds, ts, c0, hA, hfr, _, hnext⟩ := h.opened ht0
  exact (refWrite_at hA h.2.1 ht1 hfr hst d p v s hsv hvb).mono fun e w' ⟨he, wv', hn⟩ => ⟨he, hnext _ _ _ _ hn (Pl.write_wf h.2.1 d p s hs)⟩
theorem LiveR.append (h : LiveR w c t g m) (ht0 : t ≠ 0) (ht1 : t ≠ 1) (hst : m.steps < 1099511627775) (d : Int) (v : Value) (s : List Nat) (hsv : SliceIn w v s) (hs : ∀ c ∈ s, c < 256) (hvb : ∀ b, v.ownBlock = some b → b ≠ g) : Calls Try.prog 19 #[ptr g, .int .i64 d, v] w fun e w' => e = .returned (.tuple #[.int .i64 ((m.append d s).1 : Int), .int .i64 (m.append d s).2.1]) ∧ NextR w c t g (m.append d s).2.2 w' := by
  obtain ⟨vd, vt, hv, wv, ds, ts, c0, hA, hfr, _, hnext⟩ := h.opened ht0
  exact (refAppend_at hA h.2.1 ht0 ht1 hfr hst d v s hsv hvb).mono fun e w' ⟨he, wv', hn⟩ => ⟨he, hnext _ _ _ _ hn (Pl.append_wf h.2.1 d s hs)⟩
theorem LiveR.flush (h : LiveR w c t g m) (ht0 : t ≠ 0) (ht1 : t ≠ 1) (hst : m.steps < 1099511627775) (d : Int) : Calls Try.prog 22 #[ptr g, .int .i64 d] w fun e w' => e = .returned (.int .i64 (m.flush d).1) ∧ NextR w c t g (m.flush d).2 w' := by
  obtain ⟨vd, vt, hv, wv, ds, ts, c0, hA, hfr, _, hnext⟩ := h.opened ht0
  exact (refFlush_at hA h.2.1 ht0 ht1 hfr hst d).mono fun e w' ⟨he, wv', hn⟩ => ⟨he, hnext _ _ _ _ hn (Pl.flush_wf h.2.1 d)⟩
theorem LiveR.rot (h : LiveR w c t g m) (ht0 : t ≠ 0) (ht1 : t ≠ 1) (d p a y : Int) : Calls Try.prog 28 #[ptr g, .int .i64 d, .int .i64 p, .int .i64 a, .int .i64 y] w fun e w' => e = .returned (.bool (m.rot d p a y).1) ∧ NextR w c t g (m.rot d p a y).2 w' := by
  have hwf2 := Pl.rot_wf h.2.1 d p a y
  have hwf := h.2.1
  obtain ⟨vd, vt, hv, wv, ds, ts, c0, hA, hfr, _, hnext⟩ := h.opened ht0
  by_cases hc : m.has d ∧ (0 ≤ p ∧ p < ((m.fl d.toNat).length : Int)) ∧ 0 ≤ a ∧ a < 64
  · have e : m.rot d p a y = (true, m.rotted d.toNat p.toNat (turned ((m.fl d.toNat).getD p.toNat zeros) a.toNat y)) := if_pos hc
    rw [e] at hwf2 ⊢
    have hh := hc.1
    unfold Pl.has at hh
    have h0 := refRot_ok hA hwf ht1 hfr d.toNat p.toNat a.toNat (by omega) (by omega) (by omega) y
    rw [show (d.toNat : Int) = d by omega, show (p.toNat : Int) = p by omega, show (a.toNat : Int) = a by omega] at h0
    exact h0.mono fun e w' ⟨he, hn⟩ => ⟨he, hnext _ _ _ _ hn hwf2⟩
  · have e : m.rot d p a y = (false, m) := if_neg hc
    rw [e] at hwf2 ⊢
    exact (refRot_no hA d p a y hc).mono fun e w' ⟨he, hb⟩ => ⟨he, hnext _ _ _ _ (NextA.below hfr hA hb) hwf⟩
theorem LiveR.tick (h : LiveR w c t g m) (ht0 : t ≠ 0) (ht1 : t ≠ 1) (n : Int) (hn1 : n ≤ 9223372036854775807) : Calls Try.prog 30 #[ptr g, .int .i64 n] w fun e w' => e = .returned noResult ∧ NextR w c t g (m.tick n) w' := by
  have hwf := h.2.1
  obtain ⟨vd, vt, hv, wv, ds, ts, c0, hA, hfr, _, hnext⟩ := h.opened ht0
  refine (refTick_any hA.row hwf n hn1).mono fun e w' ⟨he, hr, hch⟩ => ⟨he, hnext _ _ _ _ (NextA.head hfr ht1 hA hr hch ?_ ?_ ?_) (Pl.tick_wf hwf n)⟩
  all_goals (unfold Pl.tick; split <;> rfl)
theorem LiveR.fuse (h : LiveR w c t g m) (ht0 : t ≠ 0) (ht1 : t ≠ 1) (n : Int) (h0 : -9223372036854775808 ≤ n) (h1 : n ≤ 9223372036854775807) : Calls Try.prog 24 #[ptr g, .int .i64 n] w fun e w' => e = .returned noResult ∧ NextR w c t g (m.fuseTo n) w' := by
  have hwf := h.2.1
  obtain ⟨vd, vt, hv, wv, ds, ts, c0, hA, hfr, _, hnext⟩ := h.opened ht0
  refine (refFuse_any hA.row n).mono fun e w' ⟨he, hr, hch⟩ => ⟨he, hnext _ _ _ _ (NextA.head hfr ht1 hA hr hch ?_ ?_ ?_) (Pl.fuse_wf hwf n h0 h1)⟩
  all_goals (unfold Pl.fuseTo; split <;> rfl)
theorem LiveR.isOn (h : LiveR w c t g m) : Calls Try.prog 56 #[ptr g] w fun e w' => e = .returned (.bool m.on) ∧ w = w' := by
  obtain ⟨⟨vd, vt, hv, wv, ds, ts, hA⟩, _, _⟩ := h
  exact refOn_any hA.row
/-- the clone has a tag of its own -/
theorem LiveR.clone (h : LiveR w c t g m) (ht0 : t ≠ 0) (hst : m.steps < 1099511627775) (t' : Nat) (ht0' : t' ≠ 0) (ht1' : t' ≠ 1) : Calls Try.prog 13 #[ptr g] w fun e w' => ∃ G c', e = .returned (ptr G) ∧ w.heap.size ≤ G ∧ (∀ b, b < w.heap.size → c' b = c b) ∧ (∀ b, w.heap.size ≤ b → (c' b).1 = t' ∨ (c' b).1 = t' + 1) ∧ LiveR w' c' t' G m ∧ Below w.heap.size w w' := by
  have hwf := h.2.1
  obtain ⟨vd, vt, hv, wv, ds, ts, c0, hA, hfr, hlt, _⟩ := h.opened ht0
  refine (refClone_at hA hwf hst t' ht1').mono fun e w' ⟨G, c', he, hG, h1, h2, h3, ⟨hv', wv', h4⟩, hb⟩ => ⟨G, c', he, hG, fun b hb => by rw [h1 b hb, hlt b hb], h2, ⟨⟨_, _, _, _, _, _, h4⟩, hwf, fun b hb => ?_⟩, hb⟩
  rw [h3 b hb]
  omega
end
end Go.Proofs.Ytdddfjkecmnggaa

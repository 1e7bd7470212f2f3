/- The law's own function alike: the plant and the document's own plant, of one Pl. -/
import Derived.Test.YtdddfjkecmnggaaPlaySec
import Derived.Test.YtdddfjkecmnggaaRefRead
namespace Go.Proofs.Ytdddfjkecmnggaa
open Go.RowKit Go.Maps

section
variable {w : World} {c : Nat → Colour} {t g : Nat} {m : Pl}
theorem nil_slice (w : World) : SliceIn w (.slice none 0 0) [] := ⟨none, 0, rfl, ⟨Nat.le_refl _, by decide⟩, Or.inl rfl⟩
theorem Pl.read_no {m : Pl} {d p : Int} (h : ¬ (m.on = true ∧ m.has d ∧ 0 ≤ p ∧ p < (m.len d.toNat : Int))) : m.read d p = (none, if m.on then 31 else 2) := by
  unfold Pl.read
  by_cases hon : m.on = false
  · rw [if_pos hon, hon]; rfl
  · rw [if_neg hon, if_pos (fun e => h ⟨by simpa using hon, e⟩)]
    have : m.on = true := by simpa using hon
    rw [this]; rfl
theorem Pl.read_yes {m : Pl} {d p : Int} (h : m.on = true ∧ m.has d ∧ 0 ≤ p ∧ p < (m.len d.toNat : Int)) : m.read d p = (some (m.rd d.toNat p.toNat), 0) := by
  unfold Pl.read
  rw [if_neg (by rw [h.1]; decide), if_neg (fun e => e h.2)]
theorem Live.readS (h : Live w c t g m) (hst : m.steps < 1099511627775) (d p : Int) : Calls Try.prog 20 #[ptr g, .int .i64 d, .int .i64 p] w fun e w' => ∃ v, e = .returned (.tuple #[v, .int .i64 (m.read d p).2]) ∧ SliceIn w' v ((m.read d p).1.getD []) ∧ Below w.heap.size w w' := by
  by_cases hc : m.on = true ∧ m.has d ∧ 0 ≤ p ∧ p < (m.len d.toNat : Int)
  · rw [Pl.read_yes hc]
    have hh := hc.2.1
    unfold Pl.has at hh
    have h0 := h.read hst hc.1 d.toNat p.toNat (by omega) (by omega)
    rw [show (d.toNat : Int) = d by omega, show (p.toNat : Int) = p by omega] at h0
    refine h0.mono fun e w' ⟨b, he, hb, hr, hbl⟩ => ⟨_, he, ?_, hbl⟩
    have hs := Pl.rd_sec h.2.1 d.toNat p.toNat
    have := hr.slice hs.2 (by rw [hs.1]; decide)
    rw [hs.1] at this
    exact this
  · rw [Pl.read_no hc]
    refine (h.readN hst d p hc).mono fun e w' ⟨he, n, hw⟩ => ⟨_, he, nil_slice _, ?_⟩
    rw [hw]
    exact below_drewN' _ _
theorem LiveR.readS (h : LiveR w c t g m) (hst : m.steps < 1099511627775) (d p : Int) : Calls Try.prog 55 #[ptr g, .int .i64 d, .int .i64 p] w fun e w' => ∃ v, e = .returned (.tuple #[v, .int .i64 (m.read d p).2]) ∧ SliceIn w' v ((m.read d p).1.getD []) ∧ Below w.heap.size w w' := by
  by_cases hc : m.on = true ∧ m.has d ∧ 0 ≤ p ∧ p < (m.len d.toNat : Int)
  · rw [Pl.read_yes hc]
    have hh := hc.2.1
    unfold Pl.has at hh
    have h0 := refRead_in h hst hc.1 d.toNat p.toNat (by omega) (by omega)
    rw [show (d.toNat : Int) = d by omega, show (p.toNat : Int) = p by omega] at h0
    exact h0
  · rw [Pl.read_no hc]
    exact (refRead_no h hst d p hc).mono fun e w' ⟨he, hb⟩ => ⟨_, he, nil_slice _, hb⟩
end
set_option maxHeartbeats 4000000 in
set_option maxRecDepth 100000 in
theorem alike_any {w : World} {c : Nat → Colour} {tx ty gx gy : Nat} {m : Pl} (hx : Live w c tx gx m) (hy : LiveR w c ty gy m) (hst : m.steps < 1099511627775) (d p : Int) :
    Calls Try.prog 31 #[ptr gx, ptr gy, .int .i64 d, .int .i64 p] w fun e w' => e = .returned (.bool true) ∧ Below w.heap.size w w' := by
  have HX : Hid (∀ W, Below w.heap.size w W → Live W c tx gx m) := fun W hW => hx.below hW
  have HY : Hid (∀ W, Below w.heap.size w W → LiveR W c ty gy m) := fun W hW => hy.below hW
  obtain ⟨s, hs⟩ : ∃ s, s = (m.read d p).1.getD [] := ⟨_, rfl⟩
  obtain ⟨er, her⟩ : ∃ er, er = (m.read d p).2 := ⟨_, rfl⟩
  obtain ⟨L, hL⟩ : ∃ L : Nat, L = if m.has d then m.len d.toNat else 0 := ⟨_, rfl⟩
  obtain ⟨el, hel⟩ : ∃ el : Int, el = if m.has d then 0 else 31 := ⟨_, rfl⟩
  have H1 : Hid (∀ W, Below w.heap.size w W → Calls Try.prog 20 #[ptr gx, .int .i64 d, .int .i64 p] W fun e w' => ∃ v, e = .returned (.tuple #[v, .int .i64 er]) ∧ SliceIn w' v s ∧ Below W.heap.size W w') := fun W hW => by rw [hs, her]; exact (HX.out W hW).readS hst d p
  have H2 : Hid (∀ W, Below w.heap.size w W → Calls Try.prog 55 #[ptr gy, .int .i64 d, .int .i64 p] W fun e w' => ∃ v, e = .returned (.tuple #[v, .int .i64 er]) ∧ SliceIn w' v s ∧ Below W.heap.size W w') := fun W hW => by rw [hs, her]; exact (HY.out W hW).readS hst d p
  have H3 : Hid (∀ W, Below w.heap.size w W → Calls Try.prog 36 #[ptr gx, .int .i64 d] W fun e w' => e = .returned (.tuple #[.int .i64 (L : Nat), .int .i64 el]) ∧ Below W.heap.size W w') := fun W hW => by rw [hL, hel]; exact ((HX.out W hW).len hst d).mono fun e w' ⟨he, n, hw⟩ => ⟨he, by rw [hw]; exact below_drewN' _ _⟩
  have H4 : Hid (∀ W, Below w.heap.size w W → Calls Try.prog 47 #[ptr gy, .int .i64 d] W fun e w' => e = .returned (.tuple #[.int .i64 (L : Nat), .int .i64 el]) ∧ Below W.heap.size W w') := fun W hW => by rw [hL, hel]; exact refLen_any (HY.out W hW) hst d
  have H5 : Hid (∀ W va vb, SliceIn W va s → SliceIn W vb s → Calls Try.prog 33 #[va, vb] W fun e w' => e = .returned (.bool true) ∧ W = w') := fun W va vb h1 h2 => (same_any W va vb s s h1 h2).mono fun e w' ⟨he, hw⟩ => ⟨by rw [he, decide_eq_true rfl], hw.symm⟩
  have H6 : Hid (∀ W n, Below w.heap.size w W → Calls Try.prog 35 #[ptr gx] (W.drewN n) fun e w' => e = .returned (.bool m.on) ∧ w' = W.drewN n) := fun W n hW => (HX.out _ (Go.Proofs.Ytdddfjkecmnggaa.Below.drewN hW n)).isOn
  have H7 : Hid (∀ W n, Below w.heap.size w W → Calls Try.prog 56 #[ptr gy] (W.drewN n) fun e w' => e = .returned (.bool m.on) ∧ w' = W.drewN n) := fun W n hW => ((HY.out _ (Go.Proofs.Ytdddfjkecmnggaa.Below.drewN hW n)).isOn).mono fun e w' ⟨he, hw⟩ => ⟨he, hw.symm⟩
  have H8 : Hid (∀ W n, Below w.heap.size w W → Calls Try.prog 34 #[ptr gx] (W.drewN n) fun e w' => e = .returned (.int .i64 (m.steps : Int)) ∧ w' = W.drewN n) := fun W n hW => (HX.out _ (Go.Proofs.Ytdddfjkecmnggaa.Below.drewN hW n)).steps
  have H9 : Hid (∀ W n, Below w.heap.size w W → Calls Try.prog 57 #[ptr gx] (W.drewN n) fun e w' => e = .returned (.int .i64 m.clock) ∧ w' = W.drewN n) := fun W n hW => by
    obtain ⟨⟨db, cap, gs, hP⟩, _, _⟩ := HX.out _ (Go.Proofs.Ytdddfjkecmnggaa.Below.drewN hW n)
    exact now_cells _ gx m.clock (hP.row.at 4 _ rfl)
  have HR : Hid (∀ W, Below w.heap.size w W → W.cell? ⟨gy, 7, none⟩ = some (.int .i64 (m.steps : Nat)) ∧ W.cell? ⟨gy, 8, none⟩ = some (.int .i64 m.clock)) := fun W hW => by
    obtain ⟨⟨vd, vt, hv, wv, ds, ts, hA⟩, _, _⟩ := HY.out W hW
    obtain ⟨left, _, hrow⟩ := hA.row
    exact ⟨hrow.at 7 _ rfl, hrow.at 8 _ rfl⟩
  generalize m.on = on at H6 H7
  generalize m.steps = st at H8 HR
  generalize m.clock = ck at H9 HR
  clear hx hy HX HY hs her hL hel hst
  go_enter Try.func31, Try.ntmps31
  go_upto_region 6 with (first
    | (go_at_call 20; refine (H1.out w (Below.refl _ _)).mono ?_; rintro e w1 ⟨va, rfl, s1, b1⟩; have R1 : Hid (SliceIn w1 va s ∧ Below w.heap.size w w1) := ⟨s1, b1⟩; clear s1 b1)
    | (go_at_call 55; refine (H2.out w1 R1.out.2).mono ?_; rintro e w2 ⟨vb, rfl, s2, b2⟩; have R2 : Hid (SliceIn w2 va s ∧ SliceIn w2 vb s ∧ Below w.heap.size w w2) := ⟨R1.out.1.later b2, s2, R1.out.2.trans (b2.mono R1.out.2.size)⟩; clear s2 b2)
    | (go_at_call 36; refine (H3.out w2 R2.out.2.2).mono ?_; rintro e w3 ⟨rfl, b3⟩; have R3 : Hid (SliceIn w3 va s ∧ SliceIn w3 vb s ∧ Below w.heap.size w w3) := ⟨R2.out.1.later b3, R2.out.2.1.later b3, R2.out.2.2.trans (b3.mono R2.out.2.2.size)⟩; clear b3)
    | (go_at_call 47; refine (H4.out w3 R3.out.2.2).mono ?_; rintro e w4 ⟨rfl, b4⟩; have R4 : Hid (SliceIn w4 va s ∧ SliceIn w4 vb s ∧ Below w.heap.size w w4) := ⟨R3.out.1.later b4, R3.out.2.1.later b4, R3.out.2.2.trans (b4.mono R3.out.2.2.size)⟩; clear b4)
    | (go_at_call 33; refine (H5.out w4 va vb R4.out.1 R4.out.2.1).mono ?_; rintro e w5 ⟨rfl, rfl⟩))
  have k7 := (HR.out w4 R4.out.2.2).1
  have k8 := (HR.out w4 R4.out.2.2).2
  go_quiet (first
    | (go_at_call 35; exact Calls.quiet_of_same (H6.out w4 _ R4.out.2.2))
    | (go_at_call 56; exact Calls.quiet_of_same (H7.out w4 _ R4.out.2.2))
    | (go_at_call 34; exact Calls.quiet_of_same (H8.out w4 _ R4.out.2.2))
    | (go_at_call 57; exact Calls.quiet_of_same (H9.out w4 _ R4.out.2.2)))
  go_wp2_with fail
  go_ret
  exact ⟨rfl, Go.Proofs.Ytdddfjkecmnggaa.Below.drewN R4.out.2.2 _⟩
end Go.Proofs.Ytdddfjkecmnggaa

/- The plant's own Rot where it refuses; Rot, Tick and Clone of a live plant. -/
import Derived.Test.YtdddfjkecmnggaaRot
import Derived.Test.YtdddfjkecmnggaaMH
namespace Go.Proofs.Ytdddfjkecmnggaa
open Go.RowKit Go.Maps

set_option maxHeartbeats 2000000 in
set_option maxRecDepth 100000 in
theorem rotNo_any {w : World} {c : Nat → Colour} {t g db cap : Nat} {gs : Nat → Nat} {m : Pl} (h : PlantAt w c t g db cap gs m) (hwf : m.WF) (d p a y : Int) (hno : ¬ (m.has d ∧ (0 ≤ p ∧ p < ((m.fl d.toNat).length : Int)) ∧ 0 ≤ a ∧ a < 64)) :
    Calls Try.prog 27 #[ptr g, .int .i64 d, .int .i64 p, .int .i64 a, .int .i64 y] w fun e w' => e = .returned (.bool false) ∧ w = w' := by
  by_cases hhas : m.has d
  case neg =>
    have C41 : Hid (Calls Try.prog 41 #[ptr g, .int .i64 d] w fun e w' => e = .returned (.pointer none) ∧ w = w') := (device_no h d hhas).mono fun _ _ h => ⟨h.1, h.2.symm⟩
    clear h hno hwf
    go_enter Try.func27, Try.ntmps27
    go_wp2_with (go_at_call 41; refine C41.out.mono ?_; rintro e wx ⟨rfl, rfl⟩)
    go_ret
    exact ⟨rfl, rfl⟩
  case pos =>
    obtain ⟨i, rfl⟩ : ∃ i : Nat, d = (i : Int) := ⟨d.toNat, by have := hhas.1; omega⟩
    have hi : i < m.n := by have := hhas.2; omega
    rw [show (i : Int).toNat = i by omega] at hno
    have hd := h.dev i hi
    have cs54 := lengthF_any hd
    have hLF : (if m.tape i then (m.fl i).length else m.size i) = (m.fl i).length := by
      split
      · rfl
      · rename_i ht
        exact (hwf.disk i hi (by simpa using ht)).symm
    rw [hLF] at cs54
    have C41 : Hid (Calls Try.prog 41 #[ptr g, .int .i64 (i : Int)] w fun e w' => e = .returned (ptr (gs i)) ∧ w = w') := (device_at h _ i rfl hi).mono fun _ _ h => ⟨h.1, h.2.symm⟩
    have C54 : Hid (Calls Try.prog 54 #[ptr (gs i)] w fun e w' => e = .returned (.int .i64 ((m.fl i).length : Int)) ∧ w = w') := cs54.mono fun _ _ h => ⟨h.1, h.2.symm⟩
    generalize (m.fl i).length = F at C54 hno
    generalize gs i = gd at C41 C54
    clear h hd cs54 hLF hwf
    by_cases hp0 : p < 0
    · have hp0' : decide (p < 0) = true := decide_eq_true hp0
      clear hno
      go_enter Try.func27, Try.ntmps27
      go_wp2_with (first | (go_at_call 41; refine C41.out.mono ?_; rintro e wx ⟨rfl, rfl⟩) | (go_at_call 54; refine C54.out.mono ?_; rintro e wx ⟨rfl, rfl⟩))
      go_ret
      exact ⟨rfl, rfl⟩
    have hp0' : decide (p < 0) = false := decide_eq_false hp0
    by_cases hpF : (F : Int) ≤ p
    · have hpF' : decide ((F : Int) ≤ p) = true := decide_eq_true hpF
      clear hno
      go_enter Try.func27, Try.ntmps27
      go_wp2_with (first | (go_at_call 41; refine C41.out.mono ?_; rintro e wx ⟨rfl, rfl⟩) | (go_at_call 54; refine C54.out.mono ?_; rintro e wx ⟨rfl, rfl⟩))
      go_ret
      exact ⟨rfl, rfl⟩
    have hpF' : decide ((F : Int) ≤ p) = false := decide_eq_false hpF
    by_cases ha0 : a < 0
    · have ha0' : decide (a < 0) = true := decide_eq_true ha0
      clear hno
      go_enter Try.func27, Try.ntmps27
      go_wp2_with (first | (go_at_call 41; refine C41.out.mono ?_; rintro e wx ⟨rfl, rfl⟩) | (go_at_call 54; refine C54.out.mono ?_; rintro e wx ⟨rfl, rfl⟩))
      go_ret
      exact ⟨rfl, rfl⟩
    have ha0' : decide (a < 0) = false := decide_eq_false ha0
    have ha64 : (64 : Int) ≤ a := by
      apply Classical.byContradiction
      intro hc
      exact hno ⟨hhas, ⟨by omega, by omega⟩, by omega, by omega⟩
    have ha64' : decide ((64 : Int) ≤ a) = true := decide_eq_true ha64
    clear hno
    go_enter Try.func27, Try.ntmps27
    go_wp2_with (first | (go_at_call 41; refine C41.out.mono ?_; rintro e wx ⟨rfl, rfl⟩) | (go_at_call 54; refine C54.out.mono ?_; rintro e wx ⟨rfl, rfl⟩))
    go_ret
    exact ⟨rfl, rfl⟩
/-- Rot: the answer, and the plant behind it -/
def Pl.rot (m : Pl) (d p a y : Int) : Bool × Pl := if m.has d ∧ (0 ≤ p ∧ p < ((m.fl d.toNat).length : Int)) ∧ 0 ≤ a ∧ a < 64 then (true, m.rotted d.toNat p.toNat (turned ((m.fl d.toNat).getD p.toNat zeros) a.toNat y)) else (false, m)
theorem Pl.rotted_wf {m : Pl} (h : m.WF) (i p : Nat) (s : List Nat) (hs : Sec s) : (m.rotted i p s).WF := by
  have hl : ∀ j, ((m.rotted i p s).fl j).length = (m.fl j).length := fun j => by
    show (upd m.fl i _ j).length = _
    unfold upd
    split
    · rename_i e; rw [e, List.length_set]
    · rfl
  refine ⟨h.few, h.pos, h.sizes, fun j x hx => ?_, fun j hj ht => by rw [hl j]; exact h.disk j hj ht, fun j hj ht => by rw [hl j]; exact h.tapes j hj ht, h.wsec, h.wdev, h.order, h.count, h.fuse0, h.fuse1, h.clock0, h.clock1⟩
  have hx : x ∈ upd m.fl i ((m.fl i).set p s) j := hx
  unfold upd at hx
  split at hx
  · rcases List.mem_or_eq_of_mem_set hx with hx | rfl
    · exact h.secs i x hx
    · exact hs
  · exact h.secs j x hx
theorem Pl.rot_wf {m : Pl} (h : m.WF) (d p a y : Int) : (m.rot d p a y).2.WF := by
  unfold Pl.rot
  split
  · rename_i hc
    refine Pl.rotted_wf h _ _ _ (turned_sec ?_ _ _)
    have hp : p.toNat < (m.fl d.toNat).length := by omega
    exact h.secs d.toNat _ (by rw [List.getD_eq_getElem?_getD, List.getElem?_eq_getElem hp]; exact List.getElem_mem hp)
  · exact h
theorem Live.rot {w : World} {c : Nat → Colour} {t g : Nat} {m : Pl} (h : Live w c t g m) (d p a y : Int) : Calls Try.prog 27 #[ptr g, .int .i64 d, .int .i64 p, .int .i64 a, .int .i64 y] w fun e w' => e = .returned (.bool (m.rot d p a y).1) ∧ Next w c t g (m.rot d p a y).2 w' := by
  have hwf2 := Pl.rot_wf h.2.1 d p a y
  obtain ⟨⟨db, cap, gs, hP⟩, hwf, hfr⟩ := h
  by_cases hc : m.has d ∧ (0 ≤ p ∧ p < ((m.fl d.toNat).length : Int)) ∧ 0 ≤ a ∧ a < 64
  · have e : m.rot d p a y = (true, m.rotted d.toNat p.toNat (turned ((m.fl d.toNat).getD p.toNat zeros) a.toNat y)) := if_pos hc
    rw [e] at hwf2 ⊢
    have hh := hc.1
    unfold Pl.has at hh
    have h0 := rotOk_any hP hwf d.toNat p.toNat a.toNat (by omega) (by omega) (by omega) y
    rw [show (d.toNat : Int) = d by omega, show (p.toNat : Int) = p by omega, show (a.toNat : Int) = a by omega] at h0
    exact h0.mono fun e w' ⟨he, hP', hch⟩ => ⟨he, Live.post ⟨c, fun _ _ => rfl, hP', hch.mono fun b _ hb => by rw [hb]⟩ hwf2⟩
  · have e : m.rot d p a y = (false, m) := if_neg hc
    rw [e] at hwf2 ⊢
    exact (rotNo_any hP hwf d p a y hc).mono fun e w' ⟨he, hw⟩ => ⟨he, by rw [← hw]; exact Live.post ⟨c, fun _ _ => rfl, hP, Ch.refl _ _⟩ hwf⟩
theorem Live.tick {w : World} {c : Nat → Colour} {t g : Nat} {m : Pl} (h : Live w c t g m) (n : Int) (hn1 : n ≤ 9223372036854775807) : Calls Try.prog 29 #[ptr g, .int .i64 n] w fun e w' => e = .returned noResult ∧ Next w c t g (m.tick n) w' := by
  obtain ⟨⟨db, cap, gs, hP⟩, hwf, hfr⟩ := h
  exact (tick_any hP hwf n hn1).mono fun e w' ⟨he, hP', hch⟩ => ⟨he, Live.post ⟨c, fun _ _ => rfl, hP', hch.mono fun b _ hb => by rw [hb, hP.cg]⟩ (Pl.tick_wf hwf n)⟩
end Go.Proofs.Ytdddfjkecmnggaa

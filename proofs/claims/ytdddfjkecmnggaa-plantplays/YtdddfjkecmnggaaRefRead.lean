/- The document's own plant: Read. -/
import Derived.Test.YtdddfjkecmnggaaMF
namespace Go.Proofs.Ytdddfjkecmnggaa
open Go.RowKit Go.Maps

/-- a value that holds what may be there -/
def MayBe (W : World) (v : Value) (s : Option (List Nat)) : Prop := match s with
  | none => v = .slice none 0 0
  | some b => SliceIn W v b
theorem MayBe.later {w W : World} {v : Value} {s : Option (List Nat)} (h : MayBe w v s) (hb : Below w.heap.size w W) : MayBe W v s := by
  cases s with
  | none => exact h
  | some b => exact SliceIn.later hb h
theorem own_at {w : World} {base e n : Nat} {v : Value} {xs : List Value} (h : w.ownsRow base e 1 v n xs) (i : Nat) (hi : i < n) : xs[i]? = some (xs.getD i undef) := by
  have : xs.length = n := by have := h.1; omega
  simp [show i < xs.length by omega]
set_option maxHeartbeats 16000000 in
set_option maxRecDepth 100000 in
theorem refRead_in {w : World} {c : Nat → Colour} {t g : Nat} {m : Pl} (h : LiveR w c t g m) (hst : m.steps < 1099511627775) (hon : m.on = true) (i p : Nat) (hi : i < m.n) (hp : p < m.len i) :
    Calls Try.prog 55 #[ptr g, .int .i64 (i : Nat), .int .i64 (p : Nat)] w fun e w' => ∃ v, e = .returned (.tuple #[v, .int .i64 0]) ∧ SliceIn w' v (m.rd i p) ∧ Below w.heap.size w w' := by
  have HLV : Hid (∀ W, Below w.heap.size w W → Calls Try.prog 47 #[ptr g, .int .i64 (i : Nat)] W fun e w' => e = .returned (.tuple #[.int .i64 (m.len i : Nat), .int .i64 0]) ∧ Below W.heap.size W w') := fun W hW => refLen_in (h.below hW) hst i hi
  obtain ⟨⟨vd, vt, hv, wv, ds, ts, hA⟩, hwf, _⟩ := h
  obtain ⟨⟨us, ho1, ho2⟩, ho3⟩ := hA.has
  obtain ⟨⟨xs, hr1, hr2⟩, hr3⟩ := ho2 i hi
  obtain ⟨⟨uw, hw1, hw2⟩, hw3⟩ := hA.waits
  obtain ⟨left, hleft, hrow⟩ := hA.row
  have HO : Hid (w.ownsRow 0 57 1 hv m.n us) := ho1
  have HR : Hid (w.ownsRow 0 40 1 (us.getD i undef) (m.fl i).length xs) := hr1
  have HWO : Hid (w.ownsRow 0 81 3 wv m.wts.length (wtCells m.wts uw)) := hw1
  have HUS : Hid (us[i]? = some (us.getD i undef)) := own_at ho1 i hi
  have HXS : Hid (∀ q, q < (m.fl i).length → xs[q]? = some (xs.getD q undef) ∧ SliceIn w (xs.getD q undef) ((m.fl i).getD q zeros)) := fun q hq => ⟨own_at hr1 q hq, by have := (hr2 q hq).1; simp [hq] at this ⊢; exact this⟩
  have HWS : Hid (∀ j, j < m.wts.length → SliceIn w (uw j) (wtAt m.wts j).b) := fun j hj => (hw2 j hj).1
  have HROW : Hid (∀ W, Below w.heap.size w W → W.cell? ⟨g, 2, none⟩ = some hv ∧ W.cell? ⟨g, 3, none⟩ = some wv ∧ W.cell? ⟨g, 4, none⟩ = some (.bool false)) := fun W hW => ⟨(hrow.later hW hrow.lt).at 2 _ rfl, (hrow.later hW hrow.lt).at 3 _ rfl, by have := (hrow.later hW hrow.lt).at 4 _ rfl; rw [hon] at this; exact this⟩
  have hcnt := hwf.count
  have HC0 : Hid (curTo m i p 0 = if p < (m.fl i).length then some ((m.fl i).getD p zeros) else none) := curTo_zero m i p
  have HCS : Hid (∀ k, k < m.wts.length → curTo m i p (k + 1) = if (wtAt m.wts k).dev = i ∧ (wtAt m.wts k).place = p then some (wtAt m.wts k).b else curTo m i p k) := curTo_succ m i p
  have HCA : Hid (curTo m i p m.wts.length = some (m.rd i p)) := curTo_all m hwf i p hi hp
  have HRD : Hid ((m.rd i p).length = 64 ∧ ∀ x ∈ m.rd i p, x < 256) := by
    have key : ∀ k, k ≤ m.wts.length → ∀ s, curTo m i p k = some s → s.length = 64 ∧ ∀ x ∈ s, x < 256 := by
      intro k
      induction k with
      | zero =>
        intro _ s hs
        rw [HC0.out] at hs
        split at hs
        · injection hs with hs
          rename_i hF
          rw [← hs]
          have : (m.fl i).getD p zeros ∈ m.fl i := by simp [hF]
          exact hwf.secs i _ this
        · cases hs
      | succ k ih =>
        intro hk s hs
        rw [HCS.out k (by omega)] at hs
        split at hs
        · injection hs with hs
          rw [← hs]
          have : wtAt m.wts k ∈ m.wts := by unfold wtAt; simp [show k < m.wts.length by omega]
          exact hwf.wsec _ this
        · exact ih (by omega) s hs
    exact key _ (Nat.le_refl _) _ HCA.out
  have HWC : Hid (∀ j, j < m.wts.length → ∀ q, q < 3 → (wtCells m.wts uw)[j * 3 + q]? = (wtCell (wtAt m.wts j) (uw j))[q]?) := fun j hj q hq => wtCells_at m.wts uw j q hj hq
  have hlm : (m.len i : Int) ≤ 9223372036854775807 := by
    have := (hwf.sizes i hi).2
    unfold Pl.len
    split
    · have := (hwf.tapes i hi (by assumption)).1; omega
    · omega
  generalize hcur : curTo m i p = cur at HC0 HCS HCA
  generalize hN : m.wts.length = N at HWO hcnt HCS HCA HWS HWC
  generalize hF : (m.fl i).length = F at HR HXS HC0
  generalize us.getD i undef = rv at HR HUS
  generalize hll : m.len i = LN at HLV hp hlm
  generalize m.rd i p = rd at HCA HRD ⊢
  have hpl : (p : Int) < (LN : Int) := by omega
  have hpl' : ¬ ((LN : Int) ≤ (p : Int)) := by omega
  clear hA ho1 ho2 ho3 hr1 hr2 hr3 hw1 hw2 hw3 hrow hleft hN hF hcur hll
  have k4 := (HROW.out w (Below.refl _ _)).2.2
  have hS0 : ∃ v0, (if p < F then v0 = xs.getD p undef else v0 = .slice none 0 0) ∧ MayBe w v0 (cur 0) := by
    rw [HC0.out]
    by_cases hpF : p < F
    · exact ⟨xs.getD p undef, by rw [if_pos hpF], by rw [if_pos hpF]; exact (HXS.out p hpF).2⟩
    · exact ⟨.slice none 0 0, by rw [if_neg hpF], by rw [if_neg hpF]; rfl⟩
  obtain ⟨v0, hv0, hm0⟩ := hS0
  have HM0 : Hid (MayBe w v0 (cur 0)) := hm0
  clear hm0
  go_enter Try.func55, Try.ntmps55
  by_cases hpF : p < F
  · rw [if_pos hpF] at hv0
    have hpF' : (p : Int) < (F : Int) := by omega
    have HX : Hid (xs[p]? = some v0) := by rw [hv0]; exact (HXS.out p hpF).1
    clear hv0
    go_wp2_with ((first
      | (go_at_call 47; refine (HLV.out w (Below.refl _ _)).mono ?_; rintro e w1 ⟨rfl, b1⟩; have R1 : Hid (Below w.heap.size w w1) := b1; have k2 := (HROW.out w1 b1).1; clear b1)
      | (refine wl_oidx (.tmp 37) (.tmp 38) 53 57 rfl rfl Try.underlying53 s57 hv rfl (ownK HO.out fun q hq => R1.out.block q (HO.out.lt q hq).2) i _ rfl rfl hi ?_; intro b hb hc; have C1 : Hid (w1.cell? ⟨b, i * 1, none⟩ = some rv) := (by have := hc 0 (by decide); rw [Nat.add_zero, Nat.mul_one] at this; rw [Nat.mul_one, this]; exact HUS.out); clear hb hc)
      | (refine wl_ld o57 (.tmp 39) rfl rfl b (i * 1) rfl rv C1.out ?_)
      | (refine wl_olen (.tmp 40) 57 rfl rfl sl57 rv rfl HR.out ?_)
      | (refine wl_oidx (.tmp 46) (.tmp 47) 53 57 rfl rfl Try.underlying53 s57 hv rfl (ownK HO.out fun q hq => R1.out.block q (HO.out.lt q hq).2) i _ rfl rfl hi ?_; intro b3 hb hc; have C3 : Hid (w1.cell? ⟨b3, i * 1, none⟩ = some rv) := (by have := hc 0 (by decide); rw [Nat.add_zero, Nat.mul_one] at this; rw [Nat.mul_one, this]; exact HUS.out); clear hb hc)
      | (refine wl_ld o57 (.tmp 48) rfl rfl b3 (i * 1) rfl rv C3.out ?_)
      | (refine wl_oidx (.tmp 49) (.tmp 50) 57 40 rfl rfl Try.underlying57 s40 rv rfl (ownK HR.out fun q hq => R1.out.block q (HR.out.lt q hq).2) p _ rfl rfl hpF ?_; intro b4 hb hc; have C4 : Hid (w1.cell? ⟨b4, p * 1, none⟩ = some v0) := (by have := hc 0 (by decide); rw [Nat.add_zero, Nat.mul_one] at this; rw [Nat.mul_one, this]; exact HX.out); clear hb hc)
      | (refine wl_ld o40 (.tmp 51) rfl rfl b4 (p * 1) rfl v0 C4.out ?_)); try simp only [Act.put, List.setIfInBounds_toArray, List.set_cons_succ, List.set_cons_zero])
    go_loopw [10, 11] (fun v j W => ∃ k : Nat, k ≤ N ∧ j = .int .i64 (k : Nat) ∧ MayBe W v (cur k) ∧ Below w.heap.size w W) (fun _ j _ => N - (intOf j).toNat)
    case atStart => exact ⟨0, Nat.zero_le _, rfl, HM0.out.later R1.out, R1.out⟩
    case round =>
      obtain ⟨k, hk, rfl, hmb, hbw⟩ := hrel
      have HB : Hid (Below w.heap.size w wr) := hbw
      have HMB : Hid (MayBe wr u10 (cur k)) := hmb
      have k2 := (HROW.out wr hbw).1
      have k3 := (HROW.out wr hbw).2.1
      have HW3 : Hid (wr.ownsRow 0 81 3 wv N (wtCells m.wts uw)) := ownK HWO.out fun q hq => hbw.block q (HWO.out.lt q hq).2
      clear hbw hmb
      by_cases hlt : k < N
      · have hlt' : (k : Int) < (N : Int) := by omega
        have HS : Hid (cur (k + 1) = if (wtAt m.wts k).dev = i ∧ (wtAt m.wts k).place = p then some (wtAt m.wts k).b else cur k) := HCS.out k hlt
        have HX0 : Hid ((wtCells m.wts uw)[k * 3 + 0]? = some (.int .i64 ((wtAt m.wts k).dev : Nat))) := by rw [HWC.out k hlt 0 (by decide)]; rfl
        have HX1 : Hid ((wtCells m.wts uw)[k * 3 + 1]? = some (.int .i64 ((wtAt m.wts k).place : Nat))) := by rw [HWC.out k hlt 1 (by decide)]; rfl
        have HX2 : Hid ((wtCells m.wts uw)[k * 3 + 2]? = some (uw k)) := by rw [HWC.out k hlt 2 (by decide)]; rfl
        have HXB : Hid (SliceIn wr (uw k) (wtAt m.wts k).b) := (HWS.out k hlt).later HB.out
        generalize (wtAt m.wts k).dev = d at HS HX0
        generalize (wtAt m.wts k).place = pl at HS HX1
        generalize (wtAt m.wts k).b = bb at HS HXB
        generalize uw k = uk at HX2 HXB
        by_cases hd : d = i
        · have HDE : Hid (decide ((d : Int) = (i : Int)) = true) := decide_eq_true (by omega)
          by_cases hpp : pl = p
          · have HPE : Hid (decide ((pl : Int) = (p : Int)) = true) := decide_eq_true (by omega)
            have HE : Hid (cur (k + 1) = some bb) := by show _ = _; rw [HS.out, if_pos ⟨hd, hpp⟩]
            clear hd hpp
            go_wp2_with ((first
              | (refine wl_olen (.tmp 57) 54 rfl rfl sl54 wv rfl HW3.out ?_)
              | (refine wl_oidx (.tmp 65) (.tmp 66) 54 81 rfl rfl Try.underlying54 s81 wv rfl HW3.out k _ rfl rfl hlt ?_; intro b2 hb2 hc2; have C2 : Hid (wr.cell? ⟨b2, k * 3 + 0, none⟩ = some (.int .i64 (d : Nat))) := (by rw [hc2 0 (by decide)]; exact HX0.out); clear hb2 hc2)
              | (refine wl_fld f81_0 (.tmp 67) rfl rfl b2 (k * 3) rfl ?_)
              | (refine wl_ld o3 (.tmp 68) rfl rfl b2 (k * 3 + 0) rfl _ C2.out ?_)
              | (refine wl_eqI (.tmp 69) (.tmp 70) rfl rfl (d : Nat) (i : Nat) rfl rfl true HDE.out ?_)
              | (refine wl_oidx (.tmp 76) (.tmp 77) 54 81 rfl rfl Try.underlying54 s81 wv rfl HW3.out k _ rfl rfl hlt ?_; intro b5 hb2 hc2; have C5 : Hid (wr.cell? ⟨b5, k * 3 + 1, none⟩ = some (.int .i64 (pl : Nat))) := (by rw [hc2 1 (by decide)]; exact HX1.out); clear hb2 hc2)
              | (refine wl_fld f81_1 (.tmp 78) rfl rfl b5 (k * 3) rfl ?_)
              | (refine wl_ld o3 (.tmp 79) rfl rfl b5 (k * 3 + 1) rfl _ C5.out ?_)
              | (refine wl_eqI (.tmp 80) (.tmp 81) rfl rfl (pl : Nat) (p : Nat) rfl rfl true HPE.out ?_)
              | (refine wl_oidx (.tmp 87) (.tmp 88) 54 81 rfl rfl Try.underlying54 s81 wv rfl HW3.out k _ rfl rfl hlt ?_; intro b6 hb2 hc2; have C6 : Hid (wr.cell? ⟨b6, k * 3 + 2, none⟩ = some uk) := (by rw [hc2 2 (by decide)]; exact HX2.out); clear hb2 hc2)
              | (refine wl_fld f81_2 (.tmp 89) rfl rfl b6 (k * 3) rfl ?_)
              | (refine wl_ld o40 (.tmp 90) rfl rfl b6 (k * 3 + 2) rfl _ C6.out ?_)); try simp only [Act.put, List.setIfInBounds_toArray, List.set_cons_succ, List.set_cons_zero])
            exact ⟨⟨k + 1, by omega, by go_num, by rw [HE.out]; exact HXB.out, HB.out⟩, by simp [intOf]; omega⟩
          · have HPE : Hid (decide ((pl : Int) = (p : Int)) = false) := decide_eq_false (by omega)
            have HE : Hid (cur (k + 1) = cur k) := by show _ = _; rw [HS.out, if_neg (fun e => hpp e.2)]
            clear hd hpp
            go_wp2_with ((first
              | (refine wl_olen (.tmp 57) 54 rfl rfl sl54 wv rfl HW3.out ?_)
              | (refine wl_oidx (.tmp 65) (.tmp 66) 54 81 rfl rfl Try.underlying54 s81 wv rfl HW3.out k _ rfl rfl hlt ?_; intro b2 hb2 hc2; have C2 : Hid (wr.cell? ⟨b2, k * 3 + 0, none⟩ = some (.int .i64 (d : Nat))) := (by rw [hc2 0 (by decide)]; exact HX0.out); clear hb2 hc2)
              | (refine wl_fld f81_0 (.tmp 67) rfl rfl b2 (k * 3) rfl ?_)
              | (refine wl_ld o3 (.tmp 68) rfl rfl b2 (k * 3 + 0) rfl _ C2.out ?_)
              | (refine wl_eqI (.tmp 69) (.tmp 70) rfl rfl (d : Nat) (i : Nat) rfl rfl true HDE.out ?_)
              | (refine wl_oidx (.tmp 76) (.tmp 77) 54 81 rfl rfl Try.underlying54 s81 wv rfl HW3.out k _ rfl rfl hlt ?_; intro b5 hb2 hc2; have C5 : Hid (wr.cell? ⟨b5, k * 3 + 1, none⟩ = some (.int .i64 (pl : Nat))) := (by rw [hc2 1 (by decide)]; exact HX1.out); clear hb2 hc2)
              | (refine wl_fld f81_1 (.tmp 78) rfl rfl b5 (k * 3) rfl ?_)
              | (refine wl_ld o3 (.tmp 79) rfl rfl b5 (k * 3 + 1) rfl _ C5.out ?_)
              | (refine wl_eqI (.tmp 80) (.tmp 81) rfl rfl (pl : Nat) (p : Nat) rfl rfl false HPE.out ?_)); try simp only [Act.put, List.setIfInBounds_toArray, List.set_cons_succ, List.set_cons_zero])
            exact ⟨⟨k + 1, by omega, by go_num, by rw [HE.out]; exact HMB.out, HB.out⟩, by simp [intOf]; omega⟩
        · have HDE : Hid (decide ((d : Int) = (i : Int)) = false) := decide_eq_false (by omega)
          have HE : Hid (cur (k + 1) = cur k) := by show _ = _; rw [HS.out, if_neg (fun e => hd e.1)]
          clear hd
          go_wp2_with ((first
            | (refine wl_olen (.tmp 57) 54 rfl rfl sl54 wv rfl HW3.out ?_)
            | (refine wl_oidx (.tmp 65) (.tmp 66) 54 81 rfl rfl Try.underlying54 s81 wv rfl HW3.out k _ rfl rfl hlt ?_; intro b2 hb2 hc2; have C2 : Hid (wr.cell? ⟨b2, k * 3 + 0, none⟩ = some (.int .i64 (d : Nat))) := (by rw [hc2 0 (by decide)]; exact HX0.out); clear hb2 hc2)
            | (refine wl_fld f81_0 (.tmp 67) rfl rfl b2 (k * 3) rfl ?_)
            | (refine wl_ld o3 (.tmp 68) rfl rfl b2 (k * 3 + 0) rfl _ C2.out ?_)
            | (refine wl_eqI (.tmp 69) (.tmp 70) rfl rfl (d : Nat) (i : Nat) rfl rfl false HDE.out ?_)); try simp only [Act.put, List.setIfInBounds_toArray, List.set_cons_succ, List.set_cons_zero])
          exact ⟨⟨k + 1, by omega, by go_num, by rw [HE.out]; exact HMB.out, HB.out⟩, by simp [intOf]; omega⟩
      · have hlt' : ¬ (k : Int) < (N : Int) := by omega
        have HSL : Hid (SliceIn wr u10 rd) := by
          have e : k = N := by omega
          have h := HMB.out
          rw [e, HCA.out] at h
          exact h
        go_wp2_with ((first
          | (refine wl_olen (.tmp 57) 54 rfl rfl sl54 wv rfl HW3.out ?_)
          | (refine wl_none rfl rfl ?_; intro w5 r5 s5 b5; have R5 : Hid (Row w5 wr.heap.size 5 [] ∧ SliceIn w5 u10 rd ∧ Below w.heap.size w w5) := ⟨r5, HSL.out.later b5, HB.out.trans (b5.mono HB.out.size)⟩; generalize wr.heap.size = gz at R5 ⊢; clear r5 s5 b5)
          | (refine wl_appB (.tmp 92) (.tmp 93) rfl rfl gz u10 rd rfl R5.out.1 rfl R5.out.2.1 (by rw [HRD.out.1]; decide) (by rw [HRD.out.1]; decide) ?_; intro v6 w6 o6 k6 b6; have R6 : Hid (SliceIn w6 v6 rd ∧ Below w.heap.size w w6) := ⟨own_slice o6 HRD.out.2, R5.out.2.2.trans (b6.mono R5.out.2.2.size)⟩; clear o6 k6 b6)); try simp only [Act.put, List.setIfInBounds_toArray, List.set_cons_succ, List.set_cons_zero])
        go_ret2
        exact ⟨v6, rfl, R6.out⟩
  · rw [if_neg hpF] at hv0
    have hpF' : ¬ (p : Int) < (F : Int) := by omega
    subst hv0
    go_wp2_with ((first
      | (go_at_call 47; refine (HLV.out w (Below.refl _ _)).mono ?_; rintro e w1 ⟨rfl, b1⟩; have R1 : Hid (Below w.heap.size w w1) := b1; have k2 := (HROW.out w1 b1).1; clear b1)
      | (refine wl_oidx (.tmp 37) (.tmp 38) 53 57 rfl rfl Try.underlying53 s57 hv rfl (ownK HO.out fun q hq => R1.out.block q (HO.out.lt q hq).2) i _ rfl rfl hi ?_; intro b hb hc; have C1 : Hid (w1.cell? ⟨b, i * 1, none⟩ = some rv) := (by have := hc 0 (by decide); rw [Nat.add_zero, Nat.mul_one] at this; rw [Nat.mul_one, this]; exact HUS.out); clear hb hc)
      | (refine wl_ld o57 (.tmp 39) rfl rfl b (i * 1) rfl rv C1.out ?_)
      | (refine wl_olen (.tmp 40) 57 rfl rfl sl57 rv rfl HR.out ?_)); try simp only [Act.put, List.setIfInBounds_toArray, List.set_cons_succ, List.set_cons_zero])
    go_loopw [10, 11] (fun v j W => ∃ k : Nat, k ≤ N ∧ j = .int .i64 (k : Nat) ∧ MayBe W v (cur k) ∧ Below w.heap.size w W) (fun _ j _ => N - (intOf j).toNat)
    case atStart => exact ⟨0, Nat.zero_le _, rfl, HM0.out.later R1.out, R1.out⟩
    case round =>
      obtain ⟨k, hk, rfl, hmb, hbw⟩ := hrel
      have HB : Hid (Below w.heap.size w wr) := hbw
      have HMB : Hid (MayBe wr u10 (cur k)) := hmb
      have k2 := (HROW.out wr hbw).1
      have k3 := (HROW.out wr hbw).2.1
      have HW3 : Hid (wr.ownsRow 0 81 3 wv N (wtCells m.wts uw)) := ownK HWO.out fun q hq => hbw.block q (HWO.out.lt q hq).2
      clear hbw hmb
      by_cases hlt : k < N
      · have hlt' : (k : Int) < (N : Int) := by omega
        have HS : Hid (cur (k + 1) = if (wtAt m.wts k).dev = i ∧ (wtAt m.wts k).place = p then some (wtAt m.wts k).b else cur k) := HCS.out k hlt
        have HX0 : Hid ((wtCells m.wts uw)[k * 3 + 0]? = some (.int .i64 ((wtAt m.wts k).dev : Nat))) := by rw [HWC.out k hlt 0 (by decide)]; rfl
        have HX1 : Hid ((wtCells m.wts uw)[k * 3 + 1]? = some (.int .i64 ((wtAt m.wts k).place : Nat))) := by rw [HWC.out k hlt 1 (by decide)]; rfl
        have HX2 : Hid ((wtCells m.wts uw)[k * 3 + 2]? = some (uw k)) := by rw [HWC.out k hlt 2 (by decide)]; rfl
        have HXB : Hid (SliceIn wr (uw k) (wtAt m.wts k).b) := (HWS.out k hlt).later HB.out
        generalize (wtAt m.wts k).dev = d at HS HX0
        generalize (wtAt m.wts k).place = pl at HS HX1
        generalize (wtAt m.wts k).b = bb at HS HXB
        generalize uw k = uk at HX2 HXB
        by_cases hd : d = i
        · have HDE : Hid (decide ((d : Int) = (i : Int)) = true) := decide_eq_true (by omega)
          by_cases hpp : pl = p
          · have HPE : Hid (decide ((pl : Int) = (p : Int)) = true) := decide_eq_true (by omega)
            have HE : Hid (cur (k + 1) = some bb) := by show _ = _; rw [HS.out, if_pos ⟨hd, hpp⟩]
            clear hd hpp
            go_wp2_with ((first
              | (refine wl_olen (.tmp 57) 54 rfl rfl sl54 wv rfl HW3.out ?_)
              | (refine wl_oidx (.tmp 65) (.tmp 66) 54 81 rfl rfl Try.underlying54 s81 wv rfl HW3.out k _ rfl rfl hlt ?_; intro b2 hb2 hc2; have C2 : Hid (wr.cell? ⟨b2, k * 3 + 0, none⟩ = some (.int .i64 (d : Nat))) := (by rw [hc2 0 (by decide)]; exact HX0.out); clear hb2 hc2)
              | (refine wl_fld f81_0 (.tmp 67) rfl rfl b2 (k * 3) rfl ?_)
              | (refine wl_ld o3 (.tmp 68) rfl rfl b2 (k * 3 + 0) rfl _ C2.out ?_)
              | (refine wl_eqI (.tmp 69) (.tmp 70) rfl rfl (d : Nat) (i : Nat) rfl rfl true HDE.out ?_)
              | (refine wl_oidx (.tmp 76) (.tmp 77) 54 81 rfl rfl Try.underlying54 s81 wv rfl HW3.out k _ rfl rfl hlt ?_; intro b5 hb2 hc2; have C5 : Hid (wr.cell? ⟨b5, k * 3 + 1, none⟩ = some (.int .i64 (pl : Nat))) := (by rw [hc2 1 (by decide)]; exact HX1.out); clear hb2 hc2)
              | (refine wl_fld f81_1 (.tmp 78) rfl rfl b5 (k * 3) rfl ?_)
              | (refine wl_ld o3 (.tmp 79) rfl rfl b5 (k * 3 + 1) rfl _ C5.out ?_)
              | (refine wl_eqI (.tmp 80) (.tmp 81) rfl rfl (pl : Nat) (p : Nat) rfl rfl true HPE.out ?_)
              | (refine wl_oidx (.tmp 87) (.tmp 88) 54 81 rfl rfl Try.underlying54 s81 wv rfl HW3.out k _ rfl rfl hlt ?_; intro b6 hb2 hc2; have C6 : Hid (wr.cell? ⟨b6, k * 3 + 2, none⟩ = some uk) := (by rw [hc2 2 (by decide)]; exact HX2.out); clear hb2 hc2)
              | (refine wl_fld f81_2 (.tmp 89) rfl rfl b6 (k * 3) rfl ?_)
              | (refine wl_ld o40 (.tmp 90) rfl rfl b6 (k * 3 + 2) rfl _ C6.out ?_)); try simp only [Act.put, List.setIfInBounds_toArray, List.set_cons_succ, List.set_cons_zero])
            exact ⟨⟨k + 1, by omega, by go_num, by rw [HE.out]; exact HXB.out, HB.out⟩, by simp [intOf]; omega⟩
          · have HPE : Hid (decide ((pl : Int) = (p : Int)) = false) := decide_eq_false (by omega)
            have HE : Hid (cur (k + 1) = cur k) := by show _ = _; rw [HS.out, if_neg (fun e => hpp e.2)]
            clear hd hpp
            go_wp2_with ((first
              | (refine wl_olen (.tmp 57) 54 rfl rfl sl54 wv rfl HW3.out ?_)
              | (refine wl_oidx (.tmp 65) (.tmp 66) 54 81 rfl rfl Try.underlying54 s81 wv rfl HW3.out k _ rfl rfl hlt ?_; intro b2 hb2 hc2; have C2 : Hid (wr.cell? ⟨b2, k * 3 + 0, none⟩ = some (.int .i64 (d : Nat))) := (by rw [hc2 0 (by decide)]; exact HX0.out); clear hb2 hc2)
              | (refine wl_fld f81_0 (.tmp 67) rfl rfl b2 (k * 3) rfl ?_)
              | (refine wl_ld o3 (.tmp 68) rfl rfl b2 (k * 3 + 0) rfl _ C2.out ?_)
              | (refine wl_eqI (.tmp 69) (.tmp 70) rfl rfl (d : Nat) (i : Nat) rfl rfl true HDE.out ?_)
              | (refine wl_oidx (.tmp 76) (.tmp 77) 54 81 rfl rfl Try.underlying54 s81 wv rfl HW3.out k _ rfl rfl hlt ?_; intro b5 hb2 hc2; have C5 : Hid (wr.cell? ⟨b5, k * 3 + 1, none⟩ = some (.int .i64 (pl : Nat))) := (by rw [hc2 1 (by decide)]; exact HX1.out); clear hb2 hc2)
              | (refine wl_fld f81_1 (.tmp 78) rfl rfl b5 (k * 3) rfl ?_)
              | (refine wl_ld o3 (.tmp 79) rfl rfl b5 (k * 3 + 1) rfl _ C5.out ?_)
              | (refine wl_eqI (.tmp 80) (.tmp 81) rfl rfl (pl : Nat) (p : Nat) rfl rfl false HPE.out ?_)); try simp only [Act.put, List.setIfInBounds_toArray, List.set_cons_succ, List.set_cons_zero])
            exact ⟨⟨k + 1, by omega, by go_num, by rw [HE.out]; exact HMB.out, HB.out⟩, by simp [intOf]; omega⟩
        · have HDE : Hid (decide ((d : Int) = (i : Int)) = false) := decide_eq_false (by omega)
          have HE : Hid (cur (k + 1) = cur k) := by show _ = _; rw [HS.out, if_neg (fun e => hd e.1)]
          clear hd
          go_wp2_with ((first
            | (refine wl_olen (.tmp 57) 54 rfl rfl sl54 wv rfl HW3.out ?_)
            | (refine wl_oidx (.tmp 65) (.tmp 66) 54 81 rfl rfl Try.underlying54 s81 wv rfl HW3.out k _ rfl rfl hlt ?_; intro b2 hb2 hc2; have C2 : Hid (wr.cell? ⟨b2, k * 3 + 0, none⟩ = some (.int .i64 (d : Nat))) := (by rw [hc2 0 (by decide)]; exact HX0.out); clear hb2 hc2)
            | (refine wl_fld f81_0 (.tmp 67) rfl rfl b2 (k * 3) rfl ?_)
            | (refine wl_ld o3 (.tmp 68) rfl rfl b2 (k * 3 + 0) rfl _ C2.out ?_)
            | (refine wl_eqI (.tmp 69) (.tmp 70) rfl rfl (d : Nat) (i : Nat) rfl rfl false HDE.out ?_)); try simp only [Act.put, List.setIfInBounds_toArray, List.set_cons_succ, List.set_cons_zero])
          exact ⟨⟨k + 1, by omega, by go_num, by rw [HE.out]; exact HMB.out, HB.out⟩, by simp [intOf]; omega⟩
      · have hlt' : ¬ (k : Int) < (N : Int) := by omega
        have HSL : Hid (SliceIn wr u10 rd) := by
          have e : k = N := by omega
          have h := HMB.out
          rw [e, HCA.out] at h
          exact h
        go_wp2_with ((first
          | (refine wl_olen (.tmp 57) 54 rfl rfl sl54 wv rfl HW3.out ?_)
          | (refine wl_none rfl rfl ?_; intro w5 r5 s5 b5; have R5 : Hid (Row w5 wr.heap.size 5 [] ∧ SliceIn w5 u10 rd ∧ Below w.heap.size w w5) := ⟨r5, HSL.out.later b5, HB.out.trans (b5.mono HB.out.size)⟩; generalize wr.heap.size = gz at R5 ⊢; clear r5 s5 b5)
          | (refine wl_appB (.tmp 92) (.tmp 93) rfl rfl gz u10 rd rfl R5.out.1 rfl R5.out.2.1 (by rw [HRD.out.1]; decide) (by rw [HRD.out.1]; decide) ?_; intro v6 w6 o6 k6 b6; have R6 : Hid (SliceIn w6 v6 rd ∧ Below w.heap.size w w6) := ⟨own_slice o6 HRD.out.2, R5.out.2.2.trans (b6.mono R5.out.2.2.size)⟩; clear o6 k6 b6)); try simp only [Act.put, List.setIfInBounds_toArray, List.set_cons_succ, List.set_cons_zero])
        go_ret2
        exact ⟨v6, rfl, R6.out⟩
set_option maxHeartbeats 16000000 in
set_option maxRecDepth 100000 in
theorem refRead_no {w : World} {c : Nat → Colour} {t g : Nat} {m : Pl} (h : LiveR w c t g m) (hst : m.steps < 1099511627775) (d p : Int) (hno : ¬ (m.on = true ∧ m.has d ∧ 0 ≤ p ∧ p < (m.len d.toNat : Int))) :
    Calls Try.prog 55 #[ptr g, .int .i64 d, .int .i64 p] w fun e w' => e = .returned (.tuple #[.slice none 0 0, .int .i64 (if m.on then 31 else 2)]) ∧ Below w.heap.size w w' := by
  have HLV : Hid (Calls Try.prog 47 #[ptr g, .int .i64 d] w fun e w' => e = .returned (.tuple #[.int .i64 ((if m.has d then m.len d.toNat else 0 : Nat) : Int), .int .i64 (if m.has d then 0 else 31)]) ∧ Below w.heap.size w w') := refLen_any h hst d
  obtain ⟨⟨vd, vt, hv, wv, ds, ts, hA⟩, hwf, _⟩ := h
  obtain ⟨left, hleft, hrow⟩ := hA.row
  have k4 := hrow.at 4 _ rfl
  clear hA hrow hleft
  cases hon : m.on with
  | false =>
    rw [hon] at k4
    go_enter Try.func55, Try.ntmps55
    go_wp2_with fail
    go_ret2
    exact ⟨rfl, Below.refl _ _⟩
  | true =>
    rw [hon] at k4
    by_cases hh : m.has d
    · rw [if_pos hh, if_pos hh] at HLV
      by_cases h0 : 0 ≤ p
      · have h0' : ¬ p < 0 := by omega
        have h0'' : decide (p < 0) = false := decide_eq_false h0'
        have hge : (m.len d.toNat : Int) ≤ p := by
          apply Classical.byContradiction
          intro hlt
          exact hno ⟨hon, hh, h0, by omega⟩
        have hge' : decide ((m.len d.toNat : Int) ≤ p) = true := decide_eq_true hge
        generalize m.len d.toNat = LN at HLV hge hge'
        clear hno hh hon
        go_enter Try.func55, Try.ntmps55
        go_wp2_with (first
          | (go_at_call 47; refine HLV.out.mono ?_; rintro e w1 ⟨rfl, b1⟩; have R1 : Hid (Below w.heap.size w w1) := b1; clear b1))
        go_ret2
        exact ⟨rfl, R1.out⟩
      · have h0' : p < 0 := by omega
        have h0'' : decide (p < 0) = true := decide_eq_true h0'
        generalize m.len d.toNat = LN at HLV
        clear hno hh hon
        go_enter Try.func55, Try.ntmps55
        go_wp2_with (first
          | (go_at_call 47; refine HLV.out.mono ?_; rintro e w1 ⟨rfl, b1⟩; have R1 : Hid (Below w.heap.size w w1) := b1; clear b1))
        go_ret2
        exact ⟨rfl, R1.out⟩
    · rw [if_neg hh, if_neg hh] at HLV
      clear hno hh hon
      go_enter Try.func55, Try.ntmps55
      go_wp2_with (first
        | (go_at_call 47; refine HLV.out.mono ?_; rintro e w1 ⟨rfl, b1⟩; have R1 : Hid (Below w.heap.size w w1) := b1; clear b1))
      go_ret2
      exact ⟨rfl, R1.out⟩
end Go.Proofs.Ytdddfjkecmnggaa

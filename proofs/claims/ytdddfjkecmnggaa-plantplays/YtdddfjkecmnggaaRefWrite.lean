/- The document's own plant: Write. -/
import Derived.Test.YtdddfjkecmnggaaRefNext
namespace Go.Proofs.Ytdddfjkecmnggaa
open Go.RowKit Go.Maps

theorem i81' : (Try.prog.info? 81).map (fun i => (i.zero, i.size, i.bytes)) = some (some (.agg ([.int .i64 0, .int .i64 0, .slice none 0 0] : List Value).toArray), 3, 40) := i81
theorem s54 : (Try.prog.info? 54).map (·.size) = some 1 := by kernel_rfl
theorem run_nil {w : World} {a : Act} {o : Oper} (x : Operand) (ho : o.op = .nilCheck x) (p : Addr) (hv : a.eval x = .pointer (some p)) : (execOp a.eval o).run Try.prog w = .ok (.value (.pointer (some p))) w := by
  simp [execOp, ho, hv]
theorem run_fieldR {w : World} {a : Act} {o : Oper} {T i k : Nat} (hf : FieldAt T i k) (x : Operand) (ho : o.op = .fieldAddr T x i) (g off : Nat) (hx : a.eval x = .pointer (some ⟨g, off, none⟩)) : (execOp a.eval o).run Try.prog w = .ok (.value (.pointer (some ⟨g, off + k, none⟩))) w := by
  simp [execOp, ho, hx, hf w g off]
theorem SliceIn.ch {w w' : World} {v : Value} {s : List Nat} (h : SliceIn w v s) {S : Nat → Prop} (hc : Ch S w w') (hS : ∀ b, v.ownBlock = some b → ¬ S b) : SliceIn w' v s := sliceK h fun b hb hlt => hc.block b hlt (hS b hb)

set_option maxHeartbeats 4000000 in
set_option maxRecDepth 100000 in
theorem refWrite_at {w : World} {c : Nat → Colour} {t g : Nat} {vd vt hv wv : Value} {ds ts : List Int} {m : Pl} (h : RefAt w c t g vd vt hv wv ds ts m) (hwf : m.WF) (ht1 : t ≠ 1) (hfr : ∀ b, w.heap.size ≤ b → (c b).1 = t + 1) (hst : m.steps < 1099511627775) (d p : Int) (v : Value) (s : List Nat) (hsv : SliceIn w v s) (hvb : ∀ b, v.ownBlock = some b → b ≠ g) :
    Calls Try.prog 17 #[ptr g, .int .i64 d, .int .i64 p, v] w fun e w' => e = .returned (.int .i64 (m.write d p s).1) ∧ ∃ wv', NextA w c t g vd vt hv wv' ds ts (m.write d p s).2 w' := by
  obtain ⟨r, hr⟩ : ∃ r, r = m.write d p s := ⟨_, rfl⟩
  rw [← hr]
  obtain ⟨left, hleft, hrow⟩ := h.row
  have k4 := hrow.at 4 _ rfl
  have HA : Hid (RefAt w c t g vd vt hv wv ds ts m) := h
  have HR : Hid (r = m.write d p s) := hr
  have HF : Hid (∀ b, w.heap.size ≤ b → (c b).1 = t + 1) := hfr
  have HD : Hid (Calls Try.prog 44 #[ptr g] w fun e w' => e = .returned (.int .i64 (ds.length : Nat)) ∧ w = w') := refDisks_any h.row h.disks.1
  have hn := h.shape.n
  obtain ⟨pv, cv, rfl, hlen⟩ := hsv.shape
  clear hr hleft hrow
  by_cases hon : m.on = false
  · have er : r = (2, m) := by rw [HR.out]; unfold Pl.write; rw [if_pos hon]
    rw [hon] at k4
    subst er
    clear HR h
    go_enter Try.func17, Try.ntmps17
    go_wp2_with fail
    go_ret
    exact ⟨rfl, _, NextA.refl HF.out HA.out⟩
  have hon' : m.on = true := by simpa using hon
  rw [hon'] at k4
  by_cases hd : 0 ≤ d ∧ d < (ds.length : Int)
  case neg =>
    have er : r = (31, m) := by
      rw [HR.out]
      unfold Pl.write
      rw [if_neg hon, if_pos]
      rintro ⟨h1, h2, _⟩
      have h3 := h1.1
      have h4 := h1.2
      have := h.shape.tape d.toNat (by omega)
      rw [h2] at this
      have := of_decide_eq_false this.symm
      omega
    subst er
    clear HR h
    by_cases h0 : d < 0
    · have h0' : decide (d < 0) = true := decide_eq_true h0
      generalize ds.length = D at HD hd
      go_enter Try.func17, Try.ntmps17
      go_wp2_with (first
      | (go_at_call 44; refine (HD.out).mono ?_; rintro e wa ⟨rfl, rfl⟩)
      | (go_at_call 39; refine (HM.out).mono ?_; rintro e wb ⟨rfl, k1, rfl⟩))
      go_ret
      exact ⟨rfl, _, NextA.refl HF.out HA.out⟩
    · have h0' : decide (d < 0) = false := decide_eq_false h0
      have hD : (ds.length : Int) ≤ d := by omega
      have hD' : decide ((ds.length : Int) ≤ d) = true := decide_eq_true hD
      clear hd
      generalize ds.length = D at HD hD hD' hn
      go_enter Try.func17, Try.ntmps17
      go_wp2_with (first
      | (go_at_call 44; refine (HD.out).mono ?_; rintro e wa ⟨rfl, rfl⟩)
      | (go_at_call 39; refine (HM.out).mono ?_; rintro e wb ⟨rfl, k1, rfl⟩))
      go_ret
      exact ⟨rfl, _, NextA.refl HF.out HA.out⟩
  case pos =>
    obtain ⟨i, rfl⟩ : ∃ i : Nat, d = (i : Int) := ⟨d.toNat, by have := hd.1; omega⟩
    have hi : i < ds.length := by omega
    have hin : i < m.n := by omega
    have hti : m.tape i = false := by rw [h.shape.tape i hin]; exact decide_eq_false (by omega)
    have hsize := h.shape.disk i hi
    have HM : Hid (Calls Try.prog 39 #[ptr g, .int .i64 (i : Nat)] w fun e w' => e = .returned (.int .i64 (m.size i : Nat)) ∧ ∃ k, w' = w.drewN k) := by
      rw [hsize]
      exact refMost_disk h.row h.disks.1 i hi
    have hD : (i : Int) < (ds.length : Int) := by omega
    have hD' : decide ((ds.length : Int) ≤ (i : Int)) = false := decide_eq_false (by omega)
    have h0' : decide ((i : Int) < 0) = false := decide_eq_false (by omega)
    have hhas : m.has (i : Int) := ⟨by omega, by omega⟩
    by_cases hp : 0 ≤ p ∧ p < (m.size i : Int)
    case neg =>
      have er : r = (31, m) := by
        rw [HR.out]
        unfold Pl.write
        rw [if_neg hon, if_pos]
        rintro ⟨_, _, h3, h4⟩
        exact hp ⟨h3, by simpa using h4⟩
      subst er
      generalize ds.length = D at HD hD hD'
      generalize m.size i = Z at HM hp
      clear HR h hhas hd hsize hi hn
      by_cases hp0 : p < 0
      · have hp0' : decide (p < 0) = true := decide_eq_true hp0
        go_enter Try.func17, Try.ntmps17
        go_wp2_with (first
      | (go_at_call 44; refine (HD.out).mono ?_; rintro e wa ⟨rfl, rfl⟩)
      | (go_at_call 39; refine (HM.out).mono ?_; rintro e wb ⟨rfl, k1, rfl⟩))
        go_ret
        exact ⟨rfl, _, NextA.refl HF.out HA.out⟩
      · have hp0' : decide (p < 0) = false := decide_eq_false hp0
        have hpz : (Z : Int) ≤ p := by omega
        have hpz' : decide ((Z : Int) ≤ p) = true := decide_eq_true hpz
        go_enter Try.func17, Try.ntmps17
        go_wp2_with (first
      | (go_at_call 44; refine (HD.out).mono ?_; rintro e wa ⟨rfl, rfl⟩)
      | (go_at_call 39; refine (HM.out).mono ?_; rintro e wb ⟨rfl, k1, rfl⟩))
        go_ret
        exact ⟨rfl, _, NextA.below HF.out HA.out (below_drewN' _ _)⟩
    case pos =>
      obtain ⟨q, rfl⟩ : ∃ q : Nat, p = (q : Int) := ⟨p.toNat, by have := hp.1; omega⟩
      have hp0' : decide ((q : Int) < 0) = false := decide_eq_false (by omega)
      have hpz' : decide ((m.size i : Int) ≤ (q : Int)) = false := decide_eq_false (by omega)
      have hqz : q < m.size i := by omega
      have hin2 : ¬ ¬ (m.has (i : Int) ∧ m.tape (i : Int).toNat = false ∧ 0 ≤ (q : Int) ∧ (q : Int) < (m.size (i : Int).toNat : Int)) := fun h => h ⟨hhas, by simpa using hti, by omega, by simpa using hqz⟩
      by_cases hl : s.length = 64
      case neg =>
        have er : r = (32, m) := by
          rw [HR.out]
          unfold Pl.write
          rw [if_neg hon, if_neg hin2, if_pos hl]
        subst er
        have hl' : ((s.length : Int) != 64) = true := by simp; omega
        generalize s.length = SL at hsv hl hl' hlen ⊢
        generalize ds.length = D at HD hD hD'
        generalize m.size i = Z at HM hpz' hp hin2 hqz
        clear HR h hhas hd hsize hi hn hin2
        go_enter Try.func17, Try.ntmps17
        go_wp2_with (first
      | (go_at_call 44; refine (HD.out).mono ?_; rintro e wa ⟨rfl, rfl⟩)
      | (go_at_call 39; refine (HM.out).mono ?_; rintro e wb ⟨rfl, k1, rfl⟩))
        go_ret
        exact ⟨rfl, _, NextA.below HF.out HA.out (below_drewN' _ _)⟩
      case pos =>
        have HSEC : Hid (s.length = 64 ∧ ∀ c ∈ s, c < 256) := ⟨hl, (hsv.sec hl).2⟩
        have HSV : Hid (SliceIn w (.slice pv 64 cv) s) := by rw [← hl]; exact hsv
        have HST : Hid (∀ k, Calls Try.prog 45 #[ptr g] (w.drewN k) fun e w' => e = .returned (.bool m.stepOk) ∧ RefRow w' g vd vt hv wv m.step ∧ Ch (· = g) (w.drewN k) w') := fun k => refStep_any (h.same (Same.below (below_drewN' w k)) (below_drewN' w k).size).row hon' (by omega) hwf.fuse1
        have HVB : Hid (∀ b, (Value.slice pv 64 cv).ownBlock = some b → b ≠ g) := by rw [← hl]; exact hvb
        by_cases hf : m.fuse = 0
        · have er : r = (2, m.step) := by
            rw [HR.out]
            unfold Pl.write
            rw [if_neg hon, if_neg hin2, if_neg (by simp [hl]), if_pos hf]
          subst er
          have hok : m.stepOk = false := by simp [Pl.stepOk, hf]
          rw [hok] at HST
          rw [hl]
          clear hsv hlen hvb
          generalize ds.length = D at HD hD hD'
          generalize m.size i = Z at HM hpz' hp hin2 hqz
          clear HR h hhas hd hsize hi hn hin2
          go_enter Try.func17, Try.ntmps17
          go_wp2_with (first
            | (go_at_call 44; refine (HD.out).mono ?_; rintro e wa ⟨rfl, rfl⟩)
            | (go_at_call 39; refine (HM.out).mono ?_; rintro e wb ⟨rfl, k1, rfl⟩)
            | (go_at_call 45; refine (HST.out k1).mono ?_; rintro e wc ⟨rfl, r5, c5⟩; have R5 : Hid (RefRow wc g vd vt hv wv m.step ∧ Ch (· = g) w wc) := ⟨r5, (Ch.refl _ _ |>.drewN k1).trans c5⟩; clear r5 c5))
          go_ret
          exact ⟨rfl, _, NextA.head HF.out ht1 HA.out R5.out.1 R5.out.2 m.step_sh m.step_fl m.step_wts⟩
        · have er : r = (0, m.step.wait i q s) := by
            rw [HR.out]
            unfold Pl.write
            rw [if_neg hon, if_neg hin2, if_neg (by simp [hl]), if_neg hf]
            simp
          subst er
          have hok : m.stepOk = true := by simp [Pl.stepOk, hf]
          rw [hok] at HST
          have hcn := hwf.count
          rw [hl]
          clear hsv hlen hvb
          generalize ds.length = D at HD hD hD'
          generalize m.size i = Z at HM hpz' hp hin2 hqz
          have HST1 : Hid (m.step.wts.length ≤ 1099511627776) := by show _ ≤ _; rw [m.step_wts]; omega
          have HSS : Hid (m.step.sh = m.sh ∧ m.step.fl = m.fl ∧ m.step.wts = m.wts) := ⟨m.step_sh, m.step_fl, m.step_wts⟩
          obtain ⟨m1, hm1⟩ : ∃ m1, m1 = m.step := ⟨_, rfl⟩
          rw [← hm1] at HST HST1 HSS ⊢
          clear HR h hhas hd hsize hi hn hin2 hm1
          go_enter Try.func17, Try.ntmps17
          go_upto_region 9 with (first
            | (go_at_call 44; refine (HD.out).mono ?_; rintro e wa ⟨rfl, rfl⟩)
            | (go_at_call 39; refine (HM.out).mono ?_; rintro e wb ⟨rfl, k1, rfl⟩)
            | (go_at_call 45; refine (HST.out k1).mono ?_; rintro e wc ⟨rfl, r5, c5⟩; have R5 : Hid (RefRow wc g vd vt hv wv m1 ∧ Ch (· = g) w wc) := ⟨r5, (Ch.refl _ _ |>.drewN k1).trans c5⟩; clear r5 c5))
          have HA1 : Hid (RefAt wc c t g vd vt hv wv ds ts m1) := HA.out.head ht1 R5.out.1 R5.out.2 HSS.out.1 HSS.out.2.1 HSS.out.2.2
          have HV1 : Hid (SliceIn wc (.slice pv 64 cv) s) := SliceIn.ch HSV.out R5.out.2 fun b hb e => HVB.out b hb e
          have HF1 : Hid (∀ b, wc.heap.size ≤ b → (c b).1 = t + 1) := fun b hb => HF.out b (Nat.le_trans R5.out.2.size hb)
          have HCNT : Hid (m1.wts.length ≤ 1099511627776) := HST1.out
          have HCH1 : Hid (Ch (fun b => (c b).1 = t) w wc) := R5.out.2.mono fun b _ e => by rw [e, HA.out.cg]
          generalize Value.slice pv 64 cv = v at HV1 ⊢
          refine wp_region_until (S := fun X => X.cell? ⟨g, 3, none⟩ = some wv) 15 (by kernel_rfl) ?_
          show wpAnyU _ _ _ _ _ _ 16 (Array.replicate 16 false) _ _
          have HWD : Hid ({ wc with drawn := wc.drawn + 1 } = wc.drewN 1) := rfl
          rw [HWD.out]
          obtain ⟨X, hX⟩ : ∃ X, X = wc.drewN 1 := ⟨_, rfl⟩
          have bX : Below wc.heap.size wc X := by rw [hX]; exact ⟨rfl, rfl, rfl, Nat.le_refl _, fun _ _ => rfl⟩
          rw [← hX]
          have HAX : Hid (RefAt X c t g vd vt hv wv ds ts m1) := HA1.out.same (Same.below bX) bX.size
          have HVX : Hid (SliceIn X v s) := HV1.out.later bX
          have HFX : Hid (∀ b, X.heap.size ≤ b → (c b).1 = t + 1) := fun b hb => HF1.out b (Nat.le_trans bX.size hb)
          have HBX : Hid (Below wc.heap.size wc X) := bX
          clear hX bX
          obtain ⟨⟨us, hus1, hus2⟩, hus3⟩ := HAX.out.waits
          obtain ⟨vb, W2, hr2, hvs, b2, b3, hkb, v5, W5, hr5, ho5, hs5, hz5, hk5, hch5⟩ := wait_chain v s HVX.out HSEC.out.1 HSEC.out.2 wv _ _ hus1 HCNT.out i q
          have HUS : Hid (X.ownsRow 0 81 3 wv m1.wts.length (wtCells m1.wts us) ∧ ∀ i, i < m1.wts.length → RO X c (us i) (wtAt m1.wts i).b) := ⟨hus1, hus2⟩
          have HR2 : Hid ((Builtin.append_ #[40, 40] 40 #[.slice (some ⟨X.heap.size, 0, none⟩) 0 0, v]).run Try.prog (X.alloc (.cells #[] 5)) = .ok vb W2) := hr2
          have HR5 : Hid ((Builtin.append_ #[54, 54] 54 #[wv, .slice (some ⟨W2.heap.size, 0, none⟩) 1 1]).run Try.prog (W2.alloc (.cells ([.int .i64 (i : Nat), .int .i64 (q : Nat), vb] : List Value).toArray 81)) = .ok v5 W5) := hr5
          have HVS : Hid (∃ p n c, vb = .slice p n c) := hvs
          have HO5 : Hid (W5.ownsRow 0 81 3 v5 (m1.wts.length + 1) (wtCells m1.wts us ++ [.int .i64 (i : Nat), .int .i64 (q : Nat), vb]) ∧ SliceIn W5 vb s ∧ vb.ownBlock = some (X.heap.size + 1) ∧ X.heap.size + 2 ≤ W5.heap.size ∧ (∀ b, v5.ownBlock = some b → wv.ownBlock = some b ∨ X.heap.size + 2 ≤ b) ∧ Ch (fun b => wv.ownBlock = some b) X W5) := ⟨ho5, hs5, hkb, hz5, hk5, hch5⟩
          have hgx := HAX.out.row.lt
          obtain ⟨left, hleft, hrow⟩ := HAX.out.row
          have hS0 : X.cell? ⟨g, 3, none⟩ = some wv := hrow.at 3 _ rfl
          have hS1 : (X.alloc (.cells #[] 5)).cell? ⟨g, 3, none⟩ = some wv := by rw [((Below.refl X.heap.size X).alloc (Nat.le_refl _) (.cells #[] 5)).cell (by show g < _; exact hgx)]; exact hS0
          have hS2 : W2.cell? ⟨g, 3, none⟩ = some wv := by rw [b2.cell (by show g < _; exact hgx)]; exact hS0
          have hS3 : (W2.alloc (.cells ([.int .i64 (i : Nat), .int .i64 (q : Nat), vb] : List Value).toArray 81)).cell? ⟨g, 3, none⟩ = some wv := by rw [b3.cell (by show g < _; exact hgx)]; exact hS0
          have HGW : Hid (¬ wv.ownBlock = some g) := fun e => by have := hus3 g e; rw [HAX.out.cg] at this; simp at this
          have hS5 : W5.cell? ⟨g, 3, none⟩ = some wv := by rw [World.cell?_of_block (w := X) (hch5.block g hgx HGW.out)]; exact hS0
          have HC5 : Hid (Row W5 g 56 (rcells vd vt hv wv (!m1.on) (decide (0 ≤ m1.fuse)) left (m1.steps : Nat) m1.clock)) := by show _ = _; rw [hch5.block g hgx HGW.out]; exact hrow
          clear hr2 hvs b2 b3 hkb hr5 ho5 hs5 hz5 hk5 hch5 hus1 hus2 hus3 hleft hrow
          refine takeU (i := 0) (some 42) rfl rfl (by kernel_rfl) (by kernel_rfl) (by kernel_rfl) (by kernel_rfl) (by kernel_rfl) (fun _ _ _ h => h) (zMove rfl (.tmp 0) rfl (ptr g) rfl) hS0 ?_
          simp only [Act.put, List.setIfInBounds_toArray, List.set_cons_succ, List.set_cons_zero]
          refine takeU (i := 1) (some 43) rfl rfl (by kernel_rfl) (by kernel_rfl) (by kernel_rfl) (by kernel_rfl) (by kernel_rfl) (fun _ _ _ h => h) (zMove rfl (.tmp 0) rfl (ptr g) rfl) hS0 ?_
          simp only [Act.put, List.setIfInBounds_toArray, List.set_cons_succ, List.set_cons_zero]
          refine takeU (i := 2) (some 44) rfl rfl (by kernel_rfl) (by kernel_rfl) (by kernel_rfl) (by kernel_rfl) (by kernel_rfl) (fun _ _ _ h => h) (zNil rfl (.tmp 43) rfl ⟨g, 0, none⟩ rfl) hS0 ?_
          simp only [Act.put, List.setIfInBounds_toArray, List.set_cons_succ, List.set_cons_zero]
          refine takeU (i := 3) (some 45) rfl rfl (by kernel_rfl) (by kernel_rfl) (by kernel_rfl) (by kernel_rfl) (by kernel_rfl) (fun _ _ _ h => h) (zField f56_w rfl (.tmp 44) rfl g 0 rfl) hS0 ?_
          simp only [Act.put, List.setIfInBounds_toArray, List.set_cons_succ, List.set_cons_zero]
          refine takeU (i := 4) (some 46) rfl rfl (by kernel_rfl) (by kernel_rfl) (by kernel_rfl) (by kernel_rfl) (by kernel_rfl) (fun _ _ _ h => h) (zLoad o54 rfl (.tmp 45) rfl g (0 + 3) rfl wv (fun X hX => hX)) hS0 ?_
          simp only [Act.put, List.setIfInBounds_toArray, List.set_cons_succ, List.set_cons_zero]
          refine takeU (i := 5) (some 47) rfl rfl (by kernel_rfl) (by kernel_rfl) (by kernel_rfl) (by kernel_rfl) (by kernel_rfl) (fun _ _ _ h => h) (zMove rfl (.tmp 1) rfl (.int .i64 (i : Nat)) rfl) hS0 ?_
          simp only [Act.put, List.setIfInBounds_toArray, List.set_cons_succ, List.set_cons_zero]
          refine takeU (i := 6) (some 48) rfl rfl (by kernel_rfl) (by kernel_rfl) (by kernel_rfl) (by kernel_rfl) (by kernel_rfl) (fun _ _ _ h => h) (zMove rfl (.tmp 2) rfl (.int .i64 (q : Nat)) rfl) hS0 ?_
          simp only [Act.put, List.setIfInBounds_toArray, List.set_cons_succ, List.set_cons_zero]
          refine takeU (i := 8) (some 50) rfl rfl (by kernel_rfl) (by kernel_rfl) (by kernel_rfl) (by kernel_rfl) (by kernel_rfl) (fun _ _ _ h => h) (zMove rfl (.tmp 3) rfl v rfl) hS0 ?_
          simp only [Act.put, List.setIfInBounds_toArray, List.set_cons_succ, List.set_cons_zero]
          refine oneU (i := 7) (by kernel_rfl) ?_
          refine opValZ (some 49) rfl rfl rfl (.slice (some ⟨X.heap.size, 0, none⟩) 0 0) _ (run_lit40 rfl) ?_
          refine ⟨fun _ => hS1, ?_⟩
          simp only [Act.put, List.setIfInBounds_toArray, List.set_cons_succ, List.set_cons_zero]
          refine oneU (i := 9) (by kernel_rfl) ?_
          refine opValZ (some 51) rfl rfl rfl vb W2 (run_append (.tmp 49) (.tmp 50) rfl _ v vb rfl rfl HR2.out) ?_
          refine ⟨fun _ => hS2, ?_⟩
          simp only [Act.put, List.setIfInBounds_toArray, List.set_cons_succ, List.set_cons_zero]
          refine oneU (i := 10) (by kernel_rfl) ?_
          refine opValZ (some 52) rfl rfl rfl (.agg ([.int .i64 (i : Nat), .int .i64 (q : Nat), vb] : List Value).toArray) W2 (run_build81 (.tmp 47) (.tmp 48) (.tmp 51) rfl i q vb HVS.out rfl rfl rfl) ?_
          refine ⟨fun _ => hS2, ?_⟩
          simp only [Act.put, List.setIfInBounds_toArray, List.set_cons_succ, List.set_cons_zero]
          refine oneU (i := 11) (by kernel_rfl) ?_
          refine opValZ (some 53) rfl rfl rfl (.slice (some ⟨W2.heap.size, 0, none⟩) 1 1) _ (run_oneOp Try.underlying54 i81' (by decide) (by decide) (.tmp 52) rfl [.int .i64 (i : Nat), .int .i64 (q : Nat), vb] rfl rfl) ?_
          refine ⟨fun _ => hS3, ?_⟩
          simp only [Act.put, List.setIfInBounds_toArray, List.set_cons_succ, List.set_cons_zero]
          refine oneU (i := 12) (by kernel_rfl) ?_
          refine opValZ (some 54) rfl rfl rfl v5 W5 (run_append (.tmp 46) (.tmp 53) rfl wv _ v5 rfl rfl HR5.out) ?_
          refine ⟨fun _ => hS5, ?_⟩
          simp only [Act.put, List.setIfInBounds_toArray, List.set_cons_succ, List.set_cons_zero]
          refine oneU (i := 13) (by kernel_rfl) ?_
          refine opValZ (some 55) rfl rfl rfl (ptr g) W5 (run_nil (.tmp 42) rfl ⟨g, 0, none⟩ rfl) ?_
          refine ⟨fun _ => hS5, ?_⟩
          simp only [Act.put, List.setIfInBounds_toArray, List.set_cons_succ, List.set_cons_zero]
          refine oneU (i := 14) (by kernel_rfl) ?_
          refine opValZ (some 56) rfl rfl rfl (.pointer (some ⟨g, 0 + 3, none⟩)) W5 (run_fieldR f56_w (.tmp 55) rfl g 0 rfl) ?_
          refine ⟨fun _ => hS5, ?_⟩
          simp only [Act.put, List.setIfInBounds_toArray, List.set_cons_succ, List.set_cons_zero]
          refine oneU (i := 15) (by kernel_rfl) ?_
          refine opSkipZ rfl rfl rfl _ (run_putRow s54 (.tmp 56) (.tmp 54) rfl g 3 56 (rcells vd vt hv wv (!m1.on) (decide (0 ≤ m1.fuse)) left (m1.steps : Nat) m1.clock) rfl v5 rfl (own_cells HO5.out.1) HC5.out (by show 3 < 9; decide)) ?_
          refine ⟨fun h => Bool.noConfusion (show true = false from h), ?_⟩
          refine wpAnyU_done (by kernel_rfl) ?_ _
          go_wp2_with fail
          go_ret
          refine ⟨rfl, v5, NextA.after HF.out (HCH1.out.trans (Ch.of_below HBX.out)) ?_⟩
          exact HAX.out.waitOne ht1 HFX.out i q s us HUS.out.1 HUS.out.2 HO5.out.1 HO5.out.2.1 HO5.out.2.2.1 HO5.out.2.2.2.1 HO5.out.2.2.2.2.1 HO5.out.2.2.2.2.2
end Go.Proofs.Ytdddfjkecmnggaa

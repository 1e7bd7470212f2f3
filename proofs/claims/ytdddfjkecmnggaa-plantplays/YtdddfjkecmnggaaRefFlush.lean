/- The document's own plant: Flush. -/
import Derived.Test.YtdddfjkecmnggaaRefFlush0
namespace Go.Proofs.Ytdddfjkecmnggaa
open Go.RowKit Go.Maps

section
variable {w w0 : World} {ops : Array Oper} {rest : List Oper} {o : Oper} {a : Act} {Q : Exit → Act → World → Prop}
theorem wlS (hgd : Region.wanted o (yielded ops a.tmps) = true) (hd : o.dst = none) (w' : World) (hrun : (execOp a.eval o).run Try.prog w = .ok .skip w') (h : wpList Try.prog ops Q rest a w') : wpList Try.prog ops Q (o :: rest) a w :=
  BigFrame.wpList_want hgd fun K hK => by
    unfold Oper.wp
    rw [hrun]
    simp only [Oper.upon, hd]
    exact hK _ _ h
theorem wl_ldA {t n : Nat} (ht : AggT t n) (x : Operand) (hgd : Region.wanted o (yielded ops a.tmps) = true) (ho : o.op = .load t x) (g off : Nat) (hx : a.eval x = .pointer (some ⟨g, off, none⟩)) (cs : List Value) (hn : cs.length = n) (hc : ∀ j v, cs[j]? = some v → w.cell? ⟨g, off + j, none⟩ = some v)
    (h : wpList Try.prog ops Q rest (a.put o.dst (.agg cs.toArray)) w) : wpList Try.prog ops Q (o :: rest) a w := wl hgd _ _ (run_loadA ht x ho g off hx cs hn hc) h
theorem wl_mv (x : Operand) (hgd : Region.wanted o (yielded ops a.tmps) = true) (ho : o.op = .move x) (v : Value) (hx : a.eval x = v) (h : wpList Try.prog ops Q rest (a.put o.dst v) w) : wpList Try.prog ops Q (o :: rest) a w := wl hgd v w (by simp [execOp, ho, hx]) h
theorem wl_as (x : Operand) (hgd : Region.wanted o (yielded ops a.tmps) = true) (ho : o.op = .assign x) (v : Value) (hx : a.eval x = v) (h : wpList Try.prog ops Q rest (a.put o.dst v) w) : wpList Try.prog ops Q (o :: rest) a w := wl hgd v w (by simp [execOp, ho, hx]) h
theorem wl_nil (x : Operand) (hgd : Region.wanted o (yielded ops a.tmps) = true) (ho : o.op = .nilCheck x) (p : Addr) (hx : a.eval x = .pointer (some p)) (h : wpList Try.prog ops Q rest (a.put o.dst (.pointer (some p))) w) : wpList Try.prog ops Q (o :: rest) a w := wl hgd _ w (run_nil x ho p hx) h
theorem wl_lit54 (x : Operand) (hgd : Region.wanted o (yielded ops a.tmps) = true) (ho : o.op = .buildSlice 54 1 #[(0, x)]) (cs : List Value) (hc : cs.length = 3) (hx : a.eval x = .agg cs.toArray)
    (h : ∀ z w', z = w.heap.size → w' = w.alloc (.cells cs.toArray 81) → wpList Try.prog ops Q rest (a.put o.dst (.slice (some ⟨z, 0, none⟩) 1 1)) w') : wpList Try.prog ops Q (o :: rest) a w :=
  wl hgd _ _ (run_oneOp Try.underlying54 i81' (by decide) (by decide) x ho cs hc hx) (h _ _ rfl rfl)
theorem wl_app {t : TypeId} {w' : World} (sv x : Operand) (hgd : Region.wanted o (yielded ops a.tmps) = true) (ho : o.op = .call { callee := .builtin .append, args := #[sv, x], argTypes := #[t, t] }) (v vx v' : Value) (hs : a.eval sv = v) (hx : a.eval x = vx) (hr : (Builtin.append_ #[t, t] o.type #[v, vx]).run Try.prog w = .ok v' w')
    (h : wpList Try.prog ops Q rest (a.put o.dst v') w') : wpList Try.prog ops Q (o :: rest) a w := wl hgd _ _ (run_append sv x ho v vx v' hs hx hr) h
theorem wl_put {t : Nat} (hs : (Try.prog.info? t).map (·.size) = some 1) (x y : Operand) (hgd : Region.wanted o (yielded ops a.tmps) = true) (hd : o.dst = none) (ho : o.op = .store t x y) (g i T : Nat) (cur : List Value) (hx : a.eval x = .pointer (some ⟨g, i, none⟩)) (v : Value) (hy : a.eval y = v) (hv : v.cells = #[v] ∧ v.oneCell' = true) (hr : Row w g T cur) (hi : i < cur.length)
    (h : wpList Try.prog ops Q rest a (w.setCell ⟨g, i, none⟩ v)) : wpList Try.prog ops Q (o :: rest) a w := wlS hgd hd _ (run_putRow hs x y ho g i T cur hx v hy hv hr hi) h
end
theorem flush_end {w W : World} {c c' : Nat → Colour} {t g : Nat} {vd vt hv wv lv : Value} {ds ts : List Int} {m : Pl} {L : List Wr} (hN : NextC w c t c' W) (hA : RefAt W c' t g vd vt hv wv ds ts m) (hL : LeftOf w.heap.size W c' t lv L) (ht1 : t ≠ 1) (ht0 : t ≠ 0) (hcg : (c g).1 = t) : NextA w c t g vd vt hv lv ds ts { m with wts := L } (W.setCell ⟨g, 3, none⟩ lv) := by
  obtain ⟨us, o1, o2, o3⟩ := hL
  obtain ⟨c2, hc2⟩ : ∃ c2 : Nat → Colour, c2 = fun b => if lv.ownBlock = some b then (t, 2) else c' b := ⟨_, rfl⟩
  have hcy : ∀ b, lv.ownBlock = some b → c2 b = (t, 2) := fun b hb => by rw [hc2]; exact if_pos hb
  have hcn : ∀ b, lv.ownBlock ≠ some b → c2 b = c' b := fun b hb => by rw [hc2]; exact if_neg hb
  have hsz : (W.setCell ⟨g, 3, none⟩ lv).heap.size = W.heap.size := World.size_setCell _ _ _
  have hgl : lv.ownBlock ≠ some g := fun e => by have := (o3 g e).1; rw [hA.cg] at this; simp at this
  have hkept : KeptC (fun x => x.1 = 1 ∨ (x.1 = t ∧ x ≠ (t, 0) ∧ x ≠ (t, 2))) W c' (W.setCell ⟨g, 3, none⟩ lv) c2 := ⟨fun b hb hK => ⟨Below.heap_setCell W ⟨g, 3, none⟩ lv b (by
      rintro rfl
      rw [hA.cg] at hK
      rcases hK with e | e
      · exact ht1 e
      · exact e.2.1 rfl), hcn b fun e => by
      have h1 := (o3 b e).1
      rcases hK with e | e
      · omega
      · omega⟩, by omega⟩
  refine ⟨c2, fun b hb => ?_, fun b hb => ?_, fun b hb => ?_, hA.setWaits (m' := { m with wts := L }) ?_ hkept (by rw [hcn g hgl]; exact hA.cg) rfl rfl ?_, hN.2.2.2.setCell (Or.inl hcg) 3 lv⟩
  · rw [hcn b fun e => by have := (o3 b e).2; omega]
    exact hN.1 b hb
  · by_cases e : lv.ownBlock = some b
    · exact Or.inl (by rw [hcy b e])
    · rw [hcn b e]
      exact hN.2.1 b hb
  · rw [hcn b fun e => by have := (o1.lt b e).2; omega]
    exact hN.2.2.1 b (by omega)
  · obtain ⟨left, hl, hr⟩ := hA.row
    refine ⟨left, hl, ?_⟩
    have := setCell_eq_setRow W g 3 _ 56 (0, 0) lv hr
    rw [this]
    have h2 := hr.setRow (rcells vd vt hv lv (!m.on) (decide (0 ≤ m.fuse)) left (m.steps : Nat) m.clock)
    show Row _ g 56 (rcells vd vt hv lv (!m.on) (decide (0 ≤ m.fuse)) left (m.steps : Nat) m.clock)
    simpa [rcells] using h2
  · have hk1 : KeptC (fun x => x.1 = 1) W c' (W.setCell ⟨g, 3, none⟩ lv) c2 := ⟨fun b hb hK => hkept.1 b hb (Or.inl hK), hkept.2⟩
    exact ⟨⟨us, ownK o1 fun b hb => Below.heap_setCell W ⟨g, 3, none⟩ lv b (by rintro rfl; exact hgl hb), fun i hi => (o2 i hi).k hk1 fun _ => rfl⟩, hcy⟩
theorem left_nil (B : Nat) (W : World) (c : Nat → Colour) (t : Nat) : LeftOf B W c t (.slice none 0 0) [] := ⟨fun _ => undef, World.ownsRow_nil W _ _ _, fun j hj => by simp at hj, fun b hb => by cases hb⟩
set_option maxHeartbeats 4000000 in
set_option maxRecDepth 100000 in
theorem refFlush_at {w : World} {c : Nat → Colour} {t g : Nat} {vd vt hv wv : Value} {ds ts : List Int} {m : Pl} (h : RefAt w c t g vd vt hv wv ds ts m) (hwf : m.WF) (ht0 : t ≠ 0) (ht1 : t ≠ 1) (hfr : ∀ b, w.heap.size ≤ b → (c b).1 = t + 1) (hst : m.steps < 1099511627775) (d : Int) :
    Calls Try.prog 22 #[ptr g, .int .i64 d] w fun e w' => e = .returned (.int .i64 (m.flush d).1) ∧ ∃ wv', NextA w c t g vd vt hv wv' ds ts (m.flush d).2 w' := by
  obtain ⟨r, hr⟩ : ∃ r, r = m.flush d := ⟨_, rfl⟩
  rw [← hr]
  obtain ⟨left, hleft, hrow⟩ := h.row
  have k4 := hrow.at 4 _ rfl
  have HA : Hid (RefAt w c t g vd vt hv wv ds ts m) := h
  have HR : Hid (r = m.flush d) := hr
  have HF : Hid (∀ b, w.heap.size ≤ b → (c b).1 = t + 1) := hfr
  have HH : Hid (Calls Try.prog 48 #[ptr g, .int .i64 d] w fun e w' => e = .returned (.bool (decide (m.has d))) ∧ Below w.heap.size w w') := refHas' h.row h.disks.1 h.tapes.1 h.shape d
  have HST : Hid (∀ W, Below w.heap.size w W → m.on = true → Calls Try.prog 45 #[ptr g] W fun e w' => e = .returned (.bool m.stepOk) ∧ RefRow w' g vd vt hv wv m.step ∧ Ch (· = g) W w') := fun W hW hon => refStep_any (h.same (Same.below hW) hW.size).row hon (by omega) hwf.fuse1
  have HSS : Hid (m.step.sh = m.sh ∧ m.step.fl = m.fl ∧ m.step.wts = m.wts) := ⟨m.step_sh, m.step_fl, m.step_wts⟩
  clear hr hleft hrow
  by_cases hon : m.on = false
  · have er : r = (2, m) := by rw [HR.out]; unfold Pl.flush; rw [if_pos hon]
    rw [hon] at k4
    subst er
    clear HR h
    go_enter Try.func22, Try.ntmps22
    go_wp2_with fail
    go_ret
    exact ⟨rfl, _, NextA.refl HF.out HA.out⟩
  have hon' : m.on = true := by simpa using hon
  rw [hon'] at k4
  by_cases hd : m.has d
  case neg =>
    have er : r = (31, m) := by rw [HR.out]; unfold Pl.flush; rw [if_neg hon, if_pos hd]
    rw [decide_eq_false hd] at HH
    subst er
    clear HR h
    go_enter Try.func22, Try.ntmps22
    go_wp2_with (go_at_call 48; refine (HH.out).mono ?_; rintro e wh ⟨rfl, bh⟩; have HBH : Hid (Below w.heap.size w wh) := bh; clear bh)
    go_ret
    exact ⟨rfl, _, NextA.below HF.out HA.out HBH.out⟩
  case pos =>
    rw [decide_eq_true hd] at HH
    obtain ⟨i, rfl⟩ : ∃ i : Nat, d = (i : Int) := ⟨d.toNat, by have := hd.1; omega⟩
    have hin : i < m.n := by have := hd.2; omega
    by_cases hf : m.fuse = 0
    · have er : r = (2, m.step) := by rw [HR.out]; unfold Pl.flush; rw [if_neg hon, if_neg (by simpa using hd), if_pos hf]
      subst er
      have hok : m.stepOk = false := by simp [Pl.stepOk, hf]
      rw [hok] at HST
      obtain ⟨m1, hm1⟩ : ∃ m1, m1 = m.step := ⟨_, rfl⟩
      rw [← hm1] at HST HSS ⊢
      clear HR h hm1
      go_enter Try.func22, Try.ntmps22
      go_wp2_with (first
        | (go_at_call 48; refine (HH.out).mono ?_; rintro e wh ⟨rfl, bh⟩; have HBH : Hid (Below w.heap.size w wh) := bh; clear bh)
        | (go_at_call 45; refine (HST.out wh HBH.out hon').mono ?_; rintro e wc ⟨rfl, r5, c5⟩; have R5 : Hid (RefRow wc g vd vt hv wv m1 ∧ Ch (· = g) w wc) := ⟨r5, (Ch.of_below HBH.out).trans c5⟩; clear r5 c5))
      go_ret
      exact ⟨rfl, _, NextA.head HF.out ht1 HA.out R5.out.1 R5.out.2 HSS.out.1 HSS.out.2.1 HSS.out.2.2⟩
    · have er : r = (0, m.step.flushed i) := by rw [HR.out]; unfold Pl.flush; rw [if_neg hon, if_neg (by simpa using hd), if_neg hf]; simp
      subst er
      have hok : m.stepOk = true := by simp [Pl.stepOk, hf]
      rw [hok] at HST
      have hcn := hwf.count
      have HWF : Hid (m.step.WF) := Pl.step_wf hwf
      have HIN : Hid (i < m.step.n) := by show _ < _; rw [m.step_n]; exact hin
      have HNL : Hid (m.step.wts.length ≤ 1099511627775) := by show _ ≤ _; rw [m.step_wts]; omega
      obtain ⟨m1, hm1⟩ : ∃ m1, m1 = m.step := ⟨_, rfl⟩
      rw [← hm1] at HST HSS HWF HIN HNL ⊢
      clear HR h hm1 hd hin hcn
      obtain ⟨N, hN⟩ : ∃ N, N = m1.wts.length := ⟨_, rfl⟩
      have HN : Hid (N = m1.wts.length) := hN
      have hNL : N ≤ 1099511627775 := by rw [hN]; exact HNL.out
      clear hN
      go_enter Try.func22, Try.ntmps22
      go_wp2_with (first
        | (go_at_call 48; refine (HH.out).mono ?_; rintro e wh ⟨rfl, bh⟩; have HBH : Hid (Below w.heap.size w wh) := bh; clear bh)
        | (go_at_call 45; refine (HST.out wh HBH.out hon').mono ?_; rintro e wc ⟨rfl, r5, c5⟩; have R5 : Hid (RefRow wc g vd vt hv wv m1 ∧ Ch (· = g) w wc) := ⟨r5, (Ch.of_below HBH.out).trans c5⟩; clear r5 c5))
      go_loopw [5, 6] (fun lv j W => ∃ k : Nat, k ≤ N ∧ j = .int .i64 (k : Nat) ∧ ∃ c', NextC w c t c' W ∧ RefAt W c' t g vd vt hv wv ds ts (flMid m1 i k) ∧ LeftOf w.heap.size W c' t lv (leftTo m1 i k)) (fun _ j _ => N - (intOf j).toNat)
      case atStart =>
        refine ⟨0, Nat.zero_le _, rfl, c, ⟨fun _ _ => rfl, fun b hb => Or.inr (Or.inl (HF.out b hb)), fun b hb => HF.out b (Nat.le_trans R5.out.2.size hb), R5.out.2.mono fun b _ e => by rw [e, HA.out.cg]⟩, ?_, left_nil _ _ _ _⟩
        rw [flMid_zero]
        exact HA.out.head ht1 R5.out.1 R5.out.2 HSS.out.1 HSS.out.2.1 HSS.out.2.2
      case round =>
        obtain ⟨k, hk, rfl, c', hNC, hAR, hLO⟩ := hrel
        have HNC : Hid (NextC w c t c' wr) := hNC
        have HAR : Hid (RefAt wr c' t g vd vt hv wv ds ts (flMid m1 i k)) := hAR
        have HLO : Hid (LeftOf w.heap.size wr c' t u5 (leftTo m1 i k)) := hLO
        obtain ⟨left, hleft, hrow⟩ := hAR.row
        have k3 := hrow.at 3 _ rfl
        obtain ⟨⟨us, hu1, hu2⟩, hu3⟩ := hAR.waits
        have HRW : Hid (Row wr g 56 (rcells vd vt hv wv (!(flMid m1 i k).on) (decide (0 ≤ (flMid m1 i k).fuse)) left ((flMid m1 i k).steps : Nat) (flMid m1 i k).clock)) := hrow
        have HW3 : Hid (wr.ownsRow 0 81 3 wv N (wtCells m1.wts us)) := by rw [HN.out]; exact hu1
        have HUR : Hid (∀ j, j < N → RO wr c' (us j) (wtAt m1.wts j).b) := by rw [HN.out]; exact hu2
        clear hNC hAR hLO hleft hrow hu1 hu2 hu3
        by_cases hlt : k < N
        · have hlt' : (k : Int) < (N : Int) := by omega
          have hk' : k < m1.wts.length := by rw [← HN.out]; exact hlt
          have HWC : Hid (∀ q, q < 3 → (wtCells m1.wts us)[k * 3 + q]? = (wtCell (wtAt m1.wts k) (us k))[q]?) := fun q hq => wtCells_at m1.wts us k q hk' hq
          have HX0 : Hid ((wtCells m1.wts us)[k * 3 + 0]? = some (.int .i64 ((wtAt m1.wts k).dev : Nat))) := by rw [HWC.out 0 (by decide)]; rfl
          have HWD : Hid (wtAt m1.wts k ∈ m1.wts) := by
            have := wtAt_get m1.wts k hk'
            exact List.mem_of_getElem? this
          have HUK : Hid (RO wr c' (us k) (wtAt m1.wts k).b) := HUR.out k hlt
          have HCELL : Hid (∀ b, (∀ j, j < 3 → wr.cell? ⟨b, k * 3 + j, none⟩ = (wtCells m1.wts us)[k * 3 + j]?) → ∀ j v, (wtCell (wtAt m1.wts k) (us k))[j]? = some v → wr.cell? ⟨b, k * 3 + j, none⟩ = some v) := fun b hb j v hj => by
            have hj3 : j < 3 := by
              have := (List.getElem?_eq_some_iff.1 hj).1
              simpa [wtCell] using this
            rw [hb j hj3, HWC.out j hj3, hj]
          by_cases hdv : (wtAt m1.wts k).dev = i
          · have HFH := flMid_hit m1 i k hk' hdv
            have HLH := leftTo_hit m1 i k hk' hdv
            have HFL : Hid (flMid m1 i (k + 1) = { flMid m1 i k with fl := upd (flMid m1 i k).fl i (lay ((flMid m1 i k).tape i) ((flMid m1 i k).fl i) (wtAt m1.wts k).place (wtAt m1.wts k).b) } ∧ leftTo m1 i (k + 1) = leftTo m1 i k) := ⟨HFH, HLH⟩
            have HSE : Hid (Calls Try.prog 51 #[ptr g, waitV i (wtAt m1.wts k).place (us k)] wr fun e w' => e = .returned noResult ∧ NextA wr c' t g vd vt hv wv ds ts { flMid m1 i k with fl := upd (flMid m1 i k).fl i (lay ((flMid m1 i k).tape i) ((flMid m1 i k).fl i) (wtAt m1.wts k).place (wtAt m1.wts k).b) } w') := by
              have hl := flMid_length HWF.out i k HIN.out
              refine refSettle HAR.out ht1 HNC.out.2.2.1 i _ HIN.out (fun ht => ?_) (by omega) (us k) _ HUK.out
              rw [hl.2 ht]
              have := (HWF.out.wdev _ HWD.out).2.1
              rw [hdv] at this
              exact this
            have HDE : Hid (decide (((wtAt m1.wts k).dev : Int) = (i : Int)) = true) := decide_eq_true (by omega)
            have HCS : Hid (wtCell (wtAt m1.wts k) (us k) = [.int .i64 (i : Nat), .int .i64 ((wtAt m1.wts k).place : Nat), us k]) := by show _ = _; unfold wtCell; rw [hdv]
            rw [HCS.out] at HCELL
            clear HFH HLH hdv HWC HWD HUK HUR
            generalize (wtAt m1.wts k).dev = dv at HX0 HDE
            go_wp2_with ((first
              | (refine wl_olen (.tmp 25) 54 rfl rfl sl54 wv rfl HW3.out ?_)
              | (refine wl_oidx (.tmp 33) (.tmp 34) 54 81 rfl rfl Try.underlying54 s81 wv rfl HW3.out k _ rfl rfl hlt ?_; intro b2 hb2 hc2; have C2 : Hid (wr.cell? ⟨b2, k * 3 + 0, none⟩ = some (.int .i64 (dv : Nat))) := (by rw [hc2 0 (by decide)]; exact HX0.out); clear hb2 hc2)
              | (refine wl_fld f81_0 (.tmp 35) rfl rfl b2 (k * 3) rfl ?_)
              | (refine wl_ld o3 (.tmp 36) rfl rfl b2 (k * 3 + 0) rfl _ C2.out ?_)
              | (refine wl_eqI (.tmp 37) (.tmp 38) rfl rfl (dv : Nat) (i : Nat) rfl rfl true HDE.out ?_)
              | (refine wl_oidx (.tmp 44) (.tmp 45) 54 81 rfl rfl Try.underlying54 s81 wv rfl HW3.out k _ rfl rfl hlt ?_; intro b3 hb3 hc3; have C3 : Hid (∀ j v, ([.int .i64 (i : Nat), .int .i64 ((wtAt m1.wts k).place : Nat), us k] : List Value)[j]? = some v → wr.cell? ⟨b3, k * 3 + j, none⟩ = some v) := HCELL.out b3 hc3; clear hb3 hc3)
              | (refine wl_ldA agg81 (.tmp 46) rfl rfl b3 (k * 3) rfl [.int .i64 (i : Nat), .int .i64 ((wtAt m1.wts k).place : Nat), us k] rfl C3.out ?_)
              | (go_at_call 51; refine (HSE.out).mono ?_; rintro e w2 ⟨rfl, n2⟩; have HN2 : Hid (NextA wr c' t g vd vt hv wv ds ts { flMid m1 i k with fl := upd (flMid m1 i k).fl i (lay ((flMid m1 i k).tape i) ((flMid m1 i k).fl i) (wtAt m1.wts k).place (wtAt m1.wts k).b) } w2) := n2; clear n2)); try simp only [Act.put, List.setIfInBounds_toArray, List.set_cons_succ, List.set_cons_zero])
            refine ⟨⟨k + 1, by omega, by go_num, ?_⟩, by simp [intOf]; omega⟩
            rw [HFL.out.1, HFL.out.2]
            exact flush_hit HNC.out HLO.out ht1 HN2.out
          · have HFL : Hid (flMid m1 i (k + 1) = flMid m1 i k ∧ leftTo m1 i (k + 1) = leftTo m1 i k ++ [wtAt m1.wts k]) := ⟨flMid_miss m1 i k hk' hdv, leftTo_miss m1 i k hk' hdv⟩
            have HDE : Hid (decide (((wtAt m1.wts k).dev : Int) = (i : Int)) = false) := decide_eq_false (by omega)
            obtain ⟨ul, hl1, hl2, hl3⟩ := HLO.out
            obtain ⟨v5, w5, hr5, hn5, ha5, hlo5⟩ := flush_miss HNC.out HAR.out ht0 (wtAt m1.wts k) (us k) HUK.out ul hl1 hl2 hl3 (by have := leftTo_le m1 i k; rw [← HN.out] at this; omega)
            have HR5 : Hid ((Builtin.append_ #[54, 54] 54 #[u5, .slice (some ⟨wr.heap.size, 0, none⟩) 1 1]).run Try.prog (wr.alloc (.cells (wtCell (wtAt m1.wts k) (us k)).toArray 81)) = .ok v5 w5) := hr5
            have HI5 : Hid (NextC w c t c' w5 ∧ RefAt w5 c' t g vd vt hv wv ds ts (flMid m1 i k) ∧ LeftOf w.heap.size w5 c' t v5 (leftTo m1 i k ++ [wtAt m1.wts k])) := ⟨hn5, ha5, hlo5⟩
            clear hl1 hl2 hl3 hr5 hn5 ha5 hlo5 hdv HWC HWD HUK HUR
            have HLC : Hid ((wtCell (wtAt m1.wts k) (us k)).length = 3) := rfl
            generalize wtCell (wtAt m1.wts k) (us k) = cs at HCELL HR5 HLC
            generalize (wtAt m1.wts k).dev = dv at HX0 HDE
            go_upto_region 13 with ((first
              | (refine wl_olen (.tmp 25) 54 rfl rfl sl54 wv rfl HW3.out ?_)
              | (refine wl_oidx (.tmp 33) (.tmp 34) 54 81 rfl rfl Try.underlying54 s81 wv rfl HW3.out k _ rfl rfl hlt ?_; intro b2 hb2 hc2; have C2 : Hid (wr.cell? ⟨b2, k * 3 + 0, none⟩ = some (.int .i64 (dv : Nat))) := (by rw [hc2 0 (by decide)]; exact HX0.out); clear hb2 hc2)
              | (refine wl_fld f81_0 (.tmp 35) rfl rfl b2 (k * 3) rfl ?_)
              | (refine wl_ld o3 (.tmp 36) rfl rfl b2 (k * 3 + 0) rfl _ C2.out ?_)
              | (refine wl_eqI (.tmp 37) (.tmp 38) rfl rfl (dv : Nat) (i : Nat) rfl rfl false HDE.out ?_)); try simp only [Act.put, List.setIfInBounds_toArray, List.set_cons_succ, List.set_cons_zero])
            refine wp_region_lit ?_
            refine wl_mv (.tmp 5) rfl rfl u5 rfl ?_
            simp only [Act.put, List.setIfInBounds_toArray, List.set_cons_succ, List.set_cons_zero]
            refine wl_mv (.tmp 0) rfl rfl (ptr g) rfl ?_
            simp only [Act.put, List.setIfInBounds_toArray, List.set_cons_succ, List.set_cons_zero]
            refine wl_nil (.tmp 50) rfl rfl ⟨g, 0, none⟩ rfl ?_
            simp only [Act.put, List.setIfInBounds_toArray, List.set_cons_succ, List.set_cons_zero]
            refine wl_fld f56_w (.tmp 51) rfl rfl g 0 rfl ?_
            simp only [Act.put, List.setIfInBounds_toArray, List.set_cons_succ, List.set_cons_zero]
            refine wl_ld o54 (.tmp 52) rfl rfl g (0 + 3) rfl wv k3 ?_
            simp only [Act.put, List.setIfInBounds_toArray, List.set_cons_succ, List.set_cons_zero]
            refine wl_mv (.tmp 6) rfl rfl (.int .i64 (k : Nat)) rfl ?_
            simp only [Act.put, List.setIfInBounds_toArray, List.set_cons_succ, List.set_cons_zero]
            refine wl_oidx (.tmp 53) (.tmp 54) 54 81 rfl rfl Try.underlying54 s81 wv rfl HW3.out k _ rfl rfl hlt ?_; intro b3 hb3 hc3; have C3 : Hid (∀ j v, cs[j]? = some v → wr.cell? ⟨b3, k * 3 + j, none⟩ = some v) := HCELL.out b3 hc3; clear hb3 hc3
            simp only [Act.put, List.setIfInBounds_toArray, List.set_cons_succ, List.set_cons_zero]
            refine wl_ldA agg81 (.tmp 55) rfl rfl b3 (k * 3) rfl cs HLC.out C3.out ?_
            simp only [Act.put, List.setIfInBounds_toArray, List.set_cons_succ, List.set_cons_zero]
            refine wl_lit54 (.tmp 56) rfl rfl cs HLC.out rfl ?_; intro z4 w4 ez4 ew4; have HR6 : Hid ((Builtin.append_ #[54, 54] 54 #[u5, .slice (some ⟨z4, 0, none⟩) 1 1]).run Try.prog w4 = .ok v5 w5) := (by rw [ez4, ew4]; exact HR5.out); clear ez4 ew4
            simp only [Act.put, List.setIfInBounds_toArray, List.set_cons_succ, List.set_cons_zero]
            refine wl_app (.tmp 49) (.tmp 57) rfl rfl u5 _ v5 rfl rfl HR6.out ?_
            simp only [Act.put, List.setIfInBounds_toArray, List.set_cons_succ, List.set_cons_zero]
            refine wl_as (.tmp 58) rfl rfl v5 rfl ?_
            simp only [Act.put, List.setIfInBounds_toArray, List.set_cons_succ, List.set_cons_zero]
            refine wpList_nil ?_
            go_wp2_with fail
            refine ⟨⟨k + 1, by omega, by go_num, c', ?_⟩, by simp [intOf]; omega⟩
            rw [HFL.out.1, HFL.out.2]
            exact HI5.out
        · have hlt' : ¬ (k : Int) < (N : Int) := by omega
          have HEN : Hid (NextA w c t g vd vt hv u5 ds ts (m1.flushed i) (wr.setCell ⟨g, 3, none⟩ u5)) := by
            have e : k = m1.wts.length := by have := HN.out; omega
            rw [← flMid_all m1 i, ← e]
            exact flush_end HNC.out HAR.out HLO.out ht1 ht0 (by rw [HA.out.cg])
          have HU5 : Hid (u5.cells = #[u5] ∧ u5.oneCell' = true) := by obtain ⟨ul, hl1, _⟩ := HLO.out; exact own_cells hl1
          go_wp2_with ((first
            | (refine wl_olen (.tmp 25) 54 rfl rfl sl54 wv rfl HW3.out ?_)
            | (refine wl_put s54 (.tmp 62) (.tmp 60) rfl rfl rfl g 3 56 _ rfl u5 rfl HU5.out HRW.out (by show 3 < 9; decide) ?_)); try simp only [Act.put, List.setIfInBounds_toArray, List.set_cons_succ, List.set_cons_zero])
          go_ret
          exact ⟨rfl, u5, HEN.out⟩
end Go.Proofs.Ytdddfjkecmnggaa

/- Layer 9: images written. -/
import Derived.Test.YtkpnflgnhhfjoaaDoorZ29
namespace Go.Proofs.YtkpnflgnhhfjoaaDoor
open Go.RowKit Go.Maps
open Fr.Frame (be val)

/-- what holds ahead of each round -/
structure WrI (w W : World) (c c1 : Nat → Colour) (t g : Nat) (m m1 : Pl) (d : Int) (a : Nat) (L : List (List Nat)) (j : Nat) : Prop where
  cc : ∀ b, b < w.heap.size → c1 b = c b
  live : Live W c1 t g m1
  ch : Ch (fun b => (c b).1 = t) w W
  lay : m.wrs d a L = m1.wrs d (a + j) (L.drop j)
  le : m1.steps ≤ m.steps + j
theorem secs8_drop (x : List Nat) (j : Nat) (hj : j < 8) : (secs8 x).drop j = secAt x j :: (secs8 x).drop (j + 1) := by
  match j, hj with
  | 0, _ => rfl
  | 1, _ => rfl
  | 2, _ => rfl
  | 3, _ => rfl
  | 4, _ => rfl
  | 5, _ => rfl
  | 6, _ => rfl
  | 7, _ => rfl
theorem secAt_get (x : List Nat) (j k : Nat) (hx : x.length = 512) (hj : j < 8) (hk : k < 64) : (bcells x)[64 * j + k]? = some (.int .u8 ((secAt x j).getD k 0 : Nat)) := by
  rw [bat (by omega)]
  unfold secAt
  simp [List.getD_eq_getElem?_getD, hk]
set_option maxHeartbeats 8000000 in
set_option maxRecDepth 100000 in
theorem writeImage_any {w : World} {c : Nat → Colour} {t g : Nat} {m : Pl} (h : Live w c t g m) (hst : m.steps + 60 < 1099511627775) (d : Int) (p : Nat) (hp : p < 384) (x : List Nat) (hx : x.length = 512) (hxb : ∀ c ∈ x, c < 256) : Calls Tryd.prog 42 #[ptr g, .int .i64 d, .int .i64 (p : Nat), .agg (bcells x).toArray] w fun e w' => e = .returned (.int .i64 (m.wrs d (2 + 8 * p) (secs8 x)).1) ∧ Nx w c t g (m.wrs d (2 + 8 * p) (secs8 x)).2 w' := by
  have HX : Hid (x.length = 512) := hx
  have HXB : Hid (∀ c ∈ x, c < 256) := hxb
  obtain ⟨er, her⟩ : ∃ er, er = (m.wrs d (2 + 8 * p) (secs8 x)).1 := ⟨_, rfl⟩
  obtain ⟨M, hM⟩ : ∃ M, M = (m.wrs d (2 + 8 * p) (secs8 x)).2 := ⟨_, rfl⟩
  have HER : Hid (m.wrs d (2 + 8 * p) (secs8 x) = (er, M)) := by rw [her, hM]; exact rfl
  have HST : Hid (m.steps + 60 < 1099511627775) := hst
  have HL0 : Hid (Live w c t g m) := h
  have HFS : Hid (∀ W, Calls Tryd.prog 70 #[.int .i64 (p : Nat)] W fun e w' => e = .returned (.int .i64 ((2 + 8 * p : Nat) : Int)) ∧ W = w') := fun W => first_any W p (by omega)
  obtain ⟨PQ, hPQ⟩ : ∃ PQ : Ending → World → Prop, PQ = fun (e : Ending) (w' : World) => e = .returned (.int .i64 er) ∧ Nx w c t g M w' := ⟨_, rfl⟩
  have HPQ : Hid (PQ = fun (e : Ending) (w' : World) => e = .returned (.int .i64 er) ∧ Nx w c t g M w') := hPQ
  rw [← her, ← hM, ← hPQ]
  clear her hM hPQ h hst hx hxb
  have R0 : Hid (Loc w w []) := Loc.nil (Below.refl _ w)
  go_enter Tryd.func42, Tryd.ntmps42
  go_upto_region 0 with fail
  refine wp_region_lit ?_
  refine wl rfl (ptr w.heap.size) _ (run_boxA (.tmp 3) rfl (bcells x) rfl) ?_
  have k_ := R0.out.box 91 (bcells x)
  obtain ⟨w1, hW_⟩ : ∃ W, W = w.alloc (.cells (bcells x).toArray 91) := ⟨_, rfl⟩
  obtain ⟨q1, hq_⟩ : ∃ q, q = w.heap.size := ⟨_, rfl⟩
  rw [← hW_, ← hq_] at k_
  rw [← hW_, ← hq_]
  clear hq_
  have Rw1 : Hid (Loc w w1 [(q1, 91, bcells x)]) := k_
  clear k_ hW_ R0
  simp only [Act.put, aS, aC, aZ]
  refine wl rfl (.int .i64 0) _ (run_asZ (.const (.int .i64 0)) rfl (.int .i64 0) rfl) ?_
  simp only [Act.put, aS, aC, aZ]
  refine wpList_nil ?_
  have HQ : Hid (w.heap.size ≤ q1 ∧ (∀ b, w.heap.size ≤ b → (c b).1 ≠ t)) := ⟨Rw1.out.ge 0 rfl, HL0.out.2.2⟩
  go_upto_region 1 with fail
  go_wp2_with fail
  go_loopw [12] (fun vj W => ∃ (j : Nat) (c1 : Nat → Colour) (m1 : Pl), vj = .int .i64 (j : Nat) ∧ j ≤ 8 ∧ Row W q1 91 (bcells x) ∧ (c1 q1).1 ≠ t ∧ WrI w W c c1 t g m m1 d (2 + 8 * p) (secs8 x) j) (fun vj _ => 8 - (intOf vj).toNat)
  case atStart => exact ⟨0, c, m, rfl, Nat.zero_le _, Rw1.out.at 0 rfl, HQ.out.2 q1 HQ.out.1, fun _ _ => rfl, HL0.out.below Rw1.out.below, Ch.of_below Rw1.out.below, rfl, Nat.le_refl _⟩
  case round =>
    obtain ⟨j, c1, m1, rfl, hj, hrow, hqc, hI⟩ := hrel
    have HI : Hid (WrI w wr c c1 t g m m1 d (2 + 8 * p) (secs8 x) j) := hI
    have HRW : Hid (Row wr q1 91 (bcells x) ∧ (c1 q1).1 ≠ t) := ⟨hrow, hqc⟩
    clear hI Rw1 hrow hqc
    by_cases hlt : j < 8
    · have t1 : decide ((j : Int) < 8) = true := decide_eq_true (by omega)
      obtain ⟨s, hs⟩ : ∃ s, s = secAt x j := ⟨_, rfl⟩
      have HSS : Hid (Sec s) := by show Sec s; rw [hs]; exact ⟨secAt_length HX.out hlt, secAt_lt HXB.out j⟩
      have HSG : Hid (∀ k, k < 64 → (bcells x)[64 * j + k]? = some (.int .u8 (s.getD k 0 : Nat))) := fun k hk => by rw [hs]; exact secAt_get x j k HX.out hlt hk
      obtain ⟨e1, he1⟩ : ∃ e1, e1 = (m1.write d ((2 + 8 * p + j : Nat) : Int) s).1 := ⟨_, rfl⟩
      obtain ⟨M1, hM1⟩ : ∃ M1, M1 = (m1.write d ((2 + 8 * p + j : Nat) : Int) s).2 := ⟨_, rfl⟩
      have HWR : Hid (∀ W, Below wr.heap.size wr W → Calls Tryd.prog 66 #[ptr g, .int .i64 d, .int .i64 ((2 + 8 * p + j : Nat) : Int), .agg (bcells s).toArray] W fun e w' => e = .returned (.int .i64 e1) ∧ Nx wr c1 t g M1 w') := fun W hW => by
        refine (writeSector_any (HI.out.live.below hW) (by have := HST.out; have := HI.out.le; omega) d _ s HSS.out).mono fun e w' he => ⟨by rw [he1]; exact he.1, ?_⟩
        rw [hM1]
        exact Nx.after (fun _ _ => rfl) (Ch.of_below hW) he.2
      have HM1 : Hid (M1.steps ≤ m1.steps + 1) := by show _ ≤ _; rw [hM1]; exact m1.write_le d _ s
      have HLY : Hid (m.wrs d (2 + 8 * p) (secs8 x) = if e1 = 0 then M1.wrs d (2 + 8 * p + (j + 1)) ((secs8 x).drop (j + 1)) else (e1, M1)) := by
        show _ = _
        rw [HI.out.lay, secs8_drop x j hlt, he1, hM1, hs]
        rfl
      clear hs he1 hM1
      have RL : Hid (Loc wr wr []) := Loc.nil (Below.refl _ wr)
      go_upto_region 4 with fail
      refine wp_region_lit ?_
      refine wl rfl (ptr wr.heap.size) _ (run_allocA (zerosU8 64) zero122 rfl) ?_
      have k_ := RL.out.box 122 (zerosU8 64)
      obtain ⟨w2, hW_⟩ : ∃ W, W = wr.alloc (.cells (zerosU8 64).toArray 122) := ⟨_, rfl⟩
      obtain ⟨q2, hq_⟩ : ∃ q, q = wr.heap.size := ⟨_, rfl⟩
      rw [← hW_, ← hq_] at k_
      rw [← hW_, ← hq_]
      clear hq_
      have Rw2 : Hid (Loc wr w2 [(q2, 122, zerosU8 64)]) := k_
      clear k_ hW_ RL
      simp only [Act.put, aS, aC, aZ]
      refine wpList_nil ?_
      go_upto_region 5 with fail
      refine wp_region_until (S := fun X => (Loc wr X [(q2, 122, zerosU8 64)])) 4 (by kernel_rfl) ?_
      show wpAnyU _ _ _ _ _ _ 5 (Array.replicate 5 false) _ _
      obtain ⟨X, hX⟩ : ∃ X : World, X = { w2 with drawn := w2.drawn + 1 } := ⟨_, rfl⟩
      rw [← hX]
      have hS : Loc wr X [(q2, 122, zerosU8 64)] := by rw [hX]; exact Rw2.out.drew
      clear Rw2
      clear hX
      refine takeV (i := 0) [4] (some 15) rfl rfl (by kernel_rfl) (by kernel_rfl) (by kernel_rfl) (by kernel_rfl) (fun _ _ _ h => h) (gRun rfl (.slice (some ⟨q2, 0 + 0, none⟩) (64) (64)) fun _ h => run_slA arr122 (.tmp 10) none none rfl q2 (0) 0 64 rfl ⟨(Or.inl ⟨rfl, rfl⟩), (Or.inl ⟨rfl, rfl⟩), by omega, by omega, by omega⟩) hS ?_
      simp only [Act.put, aS, aC, aZ]
      refine takeV (i := 1) [2, 3, 4] (some 16) rfl rfl (by kernel_rfl) (by kernel_rfl) (by kernel_rfl) (by kernel_rfl) (fun _ _ _ h => h) (gRun rfl (.int .i64 (j : Nat)) fun _ h => run_mvZ (.tmp 9) rfl (.int .i64 (j : Nat)) rfl) hS ?_
      simp only [Act.put, aS, aC, aZ]
      refine takeV (i := 2) [3, 4] (some 17) rfl rfl (by kernel_rfl) (by kernel_rfl) (by kernel_rfl) (by kernel_rfl) (fun _ _ _ h => h) (gRun rfl (.int .i64 ((64 * j : Nat) : Int)) fun _ h => run_mulI (.tmp 16) (.const (.int .i64 64)) rfl (j : Nat) 64 ((64 * j : Nat) : Int) (by omega) (by omega) (by omega) rfl rfl) hS ?_
      simp only [Act.put, aS, aC, aZ]
      refine takeV (i := 3) [4] (some 18) rfl rfl (by kernel_rfl) (by kernel_rfl) (by kernel_rfl) (by kernel_rfl) (fun _ _ _ h => h) (gRun rfl (.slice (some ⟨q1, 0 + 64 * j, none⟩) (512 - 64 * j) (512 - 64 * j)) fun _ h => run_slA arr91 (.tmp 7) (some (.tmp 17)) none rfl q1 0 (64 * j) 512 rfl ⟨Or.inr rfl, Or.inl ⟨rfl, rfl⟩, by omega, by omega, by omega⟩) hS ?_
      simp only [Act.put, aS, aC, aZ]
      refine oneU (i := 4) (by kernel_rfl) ?_
      refine opValueG (some 19) rfl rfl rfl (.int .i64 (64 : Nat)) _ (run_copyL (.tmp 15) (.tmp 18) rfl hS 0 rfl 0 64 64 q1 (0 + 64 * j) (512 - 64 * j) (512 - 64 * j) 64 rfl rfl s HSS.out.1 (by show 64 = min (512 - 64 * j) 64; omega) (fun k hk => by rw [Nat.zero_add]; exact (HRW.out.1.later hS.below HRW.out.1.lt).at (64 * j + k) _ (HSG.out k (by rw [← HSS.out.1]; exact hk))) (by rw [z64]; decide)).1 ?_
      have k_ := hS.lay 0 rfl 0 (bcells s)
      rw [splice64 s HSS.out.1] at k_ ⊢
      obtain ⟨w3, hW_⟩ : ∃ W, W = X.setRow q2 (bcells s).toArray := ⟨_, rfl⟩
      rw [← hW_] at k_ ⊢
      have Rw3 : Hid (Loc wr w3 [(q2, 122, bcells s)]) := k_
      clear k_ hW_ hS
      refine ⟨fun h => absurd (show true = false from h) (by decide), ?_⟩
      simp only [Act.put, aS, aC, aZ]
      refine wpAnyU_done (by kernel_rfl) ?_ _
      go_upto_region 6 with fail
      refine wp_region_until (S := fun X => (Loc wr X [(q2, 122, bcells s)])) 7 (by kernel_rfl) ?_
      show wpAnyU _ _ _ _ _ _ 9 (Array.replicate 9 false) _ _
      obtain ⟨Y, hX⟩ : ∃ Y : World, Y = { w3 with drawn := w3.drawn + 1 } := ⟨_, rfl⟩
      rw [← hX]
      have hS : Loc wr Y [(q2, 122, bcells s)] := by rw [hX]; exact Rw3.out.drew
      clear Rw3
      clear hX
      refine takeV (i := 0) [7] (some 20) rfl rfl (by kernel_rfl) (by kernel_rfl) (by kernel_rfl) (by kernel_rfl) (fun _ _ _ h => h) (gRun rfl (ptr g) fun _ h => run_mvZ (.tmp 0) rfl (ptr g) rfl) hS ?_
      simp only [Act.put, aS, aC, aZ]
      refine takeV (i := 1) [7] (some 21) rfl rfl (by kernel_rfl) (by kernel_rfl) (by kernel_rfl) (by kernel_rfl) (fun _ _ _ h => h) (gRun rfl (.int .i64 d) fun _ h => run_mvZ (.tmp 1) rfl (.int .i64 d) rfl) hS ?_
      simp only [Act.put, aS, aC, aZ]
      refine takeV (i := 2) [3, 7] (some 22) rfl rfl (by kernel_rfl) (by kernel_rfl) (by kernel_rfl) (by kernel_rfl) (fun _ _ _ h => h) (gRun rfl (.int .i64 (p : Nat)) fun _ h => run_mvZ (.tmp 2) rfl (.int .i64 (p : Nat)) rfl) hS ?_
      simp only [Act.put, aS, aC, aZ]
      refine takeV (i := 4) [5, 7] (some 24) rfl rfl (by kernel_rfl) (by kernel_rfl) (by kernel_rfl) (by kernel_rfl) (fun _ _ _ h => h) (gRun rfl (.int .i64 (j : Nat)) fun _ h => run_mvZ (.tmp 9) rfl (.int .i64 (j : Nat)) rfl) hS ?_
      simp only [Act.put, aS, aC, aZ]
      refine takeV (i := 6) [7] (some 26) rfl rfl (by kernel_rfl) (by kernel_rfl) (by kernel_rfl) (by kernel_rfl) (fun _ _ _ h => h) (gRun rfl (.agg (bcells s).toArray) fun _ h => run_loadA ag122 (.tmp 10) rfl q2 (0) rfl (bcells s) (bc64 s HSS.out.1) (rows_all h 0 rfl)) hS ?_
      simp only [Act.put, aS, aC, aZ]
      refine oneU (i := 3) (by kernel_rfl) ?_
      refine opCallG (some 23) rfl rfl rfl 70 _ (run_call eN70 [.tmp 22] _ rfl [(.int .i64 (p : Nat))] rfl) ?_
      refine (HFS.out _).mono ?_
      rintro e w4 ⟨rfl, e4⟩
      subst e4
      refine ⟨_, rfl, ?_⟩
      refine ⟨fun _ => hS, ?_⟩
      simp only [Act.put, aS, aC, aZ]
      refine takeV (i := 5) [7] (some 25) rfl rfl (by kernel_rfl) (by kernel_rfl) (by kernel_rfl) (by kernel_rfl) (fun _ _ _ h => h) (gRun rfl (.int .i64 ((2 + 8 * p + j : Nat) : Int)) fun _ h => run_addI (.tmp 23) (.tmp 24) rfl ((2 + 8 * p : Nat) : Int) (j : Nat) ((2 + 8 * p + j : Nat) : Int) (by omega) (by omega) (by omega) rfl rfl) hS ?_
      simp only [Act.put, aS, aC, aZ]
      refine oneU (i := 7) (by kernel_rfl) ?_
      refine opCallG (some 27) rfl rfl rfl 66 _ (run_call eN66 [.tmp 20, .tmp 21, .tmp 25, .tmp 26] _ rfl [(ptr g), (.int .i64 d), (.int .i64 ((2 + 8 * p + j : Nat) : Int)), (.agg (bcells s).toArray)] rfl) ?_
      refine (HWR.out _ hS.below).mono ?_
      rintro e w5 ⟨rfl, n5⟩
      refine ⟨_, rfl, ?_⟩
      have RN : Hid (Nx wr c1 t g M1 w5) := n5
      clear n5 hS
      refine ⟨fun h => absurd (show true = false from h) (by decide), ?_⟩
      simp only [Act.put, aS, aC, aZ]
      refine oneU (i := 8) (by kernel_rfl) ?_
      refine opValueG (some 11) rfl rfl rfl (.int .i64 e1) _ (run_asZ (.tmp 27) rfl (.int .i64 e1) rfl) ?_
      refine ⟨fun h => absurd (show true = false from h) (by decide), ?_⟩
      simp only [Act.put, aS, aC, aZ]
      refine wpAnyU_done (by kernel_rfl) ?_ _
      go_upto_region 7 with fail
      by_cases hz : e1 = 0
      · have hd0 : (!decide (e1 = 0)) = false := by rw [decide_eq_true hz]; rfl
        refine wp_region_lit ?_
        refine wl rfl (.int .i64 e1) _ (run_mvZ (.tmp 11) rfl (.int .i64 e1) rfl) ?_
        simp only [Act.put, aS, aC, aZ]
        refine wl rfl (.bool false) _ (run_neZ (.tmp 28) (.const (.int .i64 0)) rfl e1 0 rfl rfl false hd0) ?_
        simp only [Act.put, aS, aC, aZ]
        refine wpList_nil ?_
        have HN : Hid (∃ c2, Row w5 q1 91 (bcells x) ∧ (c2 q1).1 ≠ t ∧ WrI w w5 c c2 t g m M1 d (2 + 8 * p) (secs8 x) (j + 1)) := by
          obtain ⟨c2, k1, k2, k3⟩ := RN.out
          refine ⟨c2, k3.row HRW.out.2 HRW.out.1, by rw [k1 q1 HRW.out.1.lt]; exact HRW.out.2, fun b hb => by rw [k1 b (Nat.lt_of_lt_of_le hb HI.out.ch.size)]; exact HI.out.cc b hb, k2, HI.out.ch.trans' k3 fun b hb e => by rw [← HI.out.cc b hb]; exact e, by rw [HLY.out, if_pos hz], by have := HM1.out; have := HI.out.le; omega⟩
        clear hz hd0 RN HI HWR
        go_wp2_with fail
        obtain ⟨c2, hr2, hq2, hN⟩ := HN.out
        refine ⟨⟨j + 1, c2, M1, by go_num, by omega, hr2, hq2, hN⟩, ?_⟩
        simp [intOf]; omega
      · have hd0 : (!decide (e1 = 0)) = true := by rw [decide_eq_false hz]; rfl
        refine wp_region_lit ?_
        refine wl rfl (.int .i64 e1) _ (run_mvZ (.tmp 11) rfl (.int .i64 e1) rfl) ?_
        simp only [Act.put, aS, aC, aZ]
        refine wl rfl (.bool true) _ (run_neZ (.tmp 28) (.const (.int .i64 0)) rfl e1 0 rfl rfl true hd0) ?_
        simp only [Act.put, aS, aC, aZ]
        refine wpList_nil ?_
        have HE : Hid (er = e1 ∧ M = M1) := by
          have h1 := HER.out
          rw [HLY.out, if_neg hz] at h1
          injection h1 with h1 h2
          exact ⟨h1.symm, h2.symm⟩
        clear hz hd0
        go_wp2_with fail
        rw [HPQ.out]
        exact ⟨by rw [HE.out.1]; try rfl, by rw [HE.out.2]; exact Nx.after HI.out.cc HI.out.ch RN.out⟩
    · have t1 : decide ((j : Int) < 8) = false := decide_eq_false (by omega)
      have HE : Hid (er = 0 ∧ M = m1) := by
        have h1 := HER.out
        have ej : j = 8 := by omega
        subst ej
        rw [HI.out.lay] at h1
        have h2 : (0, m1) = (er, M) := h1
        injection h2 with h2 h3
        exact ⟨h2.symm, h3.symm⟩
      go_wp2_with fail
      rw [HPQ.out]
      exact ⟨by rw [HE.out.1]; try rfl, by rw [HE.out.2]; exact ⟨c1, HI.out.cc, HI.out.live, HI.out.ch⟩⟩
end Go.Proofs.YtkpnflgnhhfjoaaDoor

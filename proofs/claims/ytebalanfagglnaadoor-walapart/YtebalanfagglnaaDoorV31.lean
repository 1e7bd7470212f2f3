/- Layer 8: a journal opened. Layer 8: a journal that no device can hold. -/
import Derived.Test.YtebalanfagglnaaDoorV30
namespace Go.Proofs.YtebalanfagglnaaDoor
open Go.RowKit Go.Maps

theorem eN45 : EntersF 29 := Go.Proofs.enters_of Tryd.func29 (by kernel_rfl) rfl
theorem eN46 : EntersF 30 := Go.Proofs.enters_of Tryd.func30 (by kernel_rfl) rfl
theorem eN47' : EntersF 31 := Go.Proofs.enters_of Tryd.func31 (by kernel_rfl) rfl
theorem run_build108 (w : World) (g i u : Nat) : (Instr.build 70 #[(0, ptr g), (1, .int .i64 (i : Nat)), (3, .int .i64 (u : Nat))]).run Tryd.prog w = .ok (.agg (walCells g (i : Int) 0 u).toArray) w := by kernel_rfl
theorem run_build108Op {w : World} {a : Act} {o : Oper} (x0 x1 x2 : Operand) (ho : o.op = .build 70 #[(0, x0), (1, x1), (3, x2)]) (g i u : Nat) (h0 : a.eval x0 = ptr g) (h1 : a.eval x1 = .int .i64 (i : Nat)) (h2 : a.eval x2 = .int .i64 (u : Nat)) : (execOp a.eval o).run Tryd.prog w = .ok (.value (.agg (walCells g (i : Int) 0 u).toArray)) w := by
  simp only [execOp, ho, List.map_toArray, List.map_cons, List.map_nil, h0, h1, h2, run_build108, Sem.run_bind, Sem.run_pure, Result.andThen_ok]
/-- what Open answers, and the plant behind it -/
def Pl.openR (m : Pl) (n i : Nat) : Int × Pl :=
  if headOk (m.rd i 0) then
    if logEr (logOf m n i (hS (m.rd i 0)) (hF (m.rd i 0))) = 0 then m.begin (i : Int) (hS (m.rd i 0) + 1) (hF (m.rd i 0))
    else (logEr (logOf m n i (hS (m.rd i 0)) (hF (m.rd i 0))), m)
  else (4, m)
theorem headOk_lt (b : List Nat) (h : headOk b = true) : hS b < 4611686018427387904 := by
  unfold headOk at h
  simp only [Bool.and_eq_true, decide_eq_true_eq] at h
  exact h.2.2.2
set_option maxHeartbeats 4000000 in
set_option maxRecDepth 100000 in
theorem open_any {w : World} {c : Nat → Colour} {t g : Nat} {m : Pl} (h : Live w c t g m) {ds ts : List Nat} {i : Nat} (hd : DiskOn m ds ts i) (ht : Fr.TabIn w) (htc : (c 0).1 ≠ t) :
    Calls Tryd.prog 12 #[ptr g, .int .i64 (i : Nat)] w fun e w' => ∃ wv tv, e = .returned (.tuple #[wv, tv, .int .i64 (m.openR (ds.getD i 0) i).1]) ∧ ∃ c', (∀ b, b < w.heap.size → c' b = c b) ∧ Live w' c' t g (m.openR (ds.getD i 0) i).2 ∧ Ch (fun b => (c b).1 = t) w w' ∧ ((m.openR (ds.getD i 0) i).1 = 0 → ∃ gw D used, wv = ptr gw ∧ w.heap.size ≤ gw ∧ (logOf m (ds.getD i 0) i (hS (m.rd i 0)) (hF (m.rd i 0))).1 = some (D, used) ∧ used ≤ 4096 ∧ WalAt w' c' t gw g (i : Int) (hS (m.rd i 0) + 1) used ∧ (∀ b, b < gw → c' b = c b) ∧ ∃ W5, W5.heap.size = gw ∧ TxsTo W5 w.heap.size tv D ∧ ∀ b, w.heap.size ≤ b → b < gw → w'.heap[b]? = W5.heap[b]?) ∧ ((m.openR (ds.getD i 0) i).1 ≠ 0 → wv = .pointer none ∧ tv = .slice none 0 0) := by
  obtain ⟨n, hn⟩ : ∃ n, n = ds.getD i 0 := ⟨_, rfl⟩
  have hhold : holds ds (i : Int) = true := by
    unfold holds
    have := hd.lt
    have := hd.big
    exact decide_eq_true ⟨by omega, by omega, by rw [Int.toNat_natCast]; exact hd.big⟩
  have HMH : Hid (Calls Tryd.prog 24 #[ptr g, .int .i64 (i : Nat)] w fun e w' => e = .returned (.bool true) ∧ Below w.heap.size w w') := by have := mayHold_any h hd.shape (i : Int); rw [hhold] at this; exact this
  obtain ⟨b0, hb0⟩ : ∃ b0, b0 = m.rd i 0 := ⟨_, rfl⟩
  obtain ⟨hk, hhk⟩ : ∃ hk, hk = headOk b0 := ⟨_, rfl⟩
  obtain ⟨he, hhe⟩ : ∃ he : Int, he = if hk then 0 else 4 := ⟨_, rfl⟩
  obtain ⟨N, hN⟩ : ∃ N, N = w.heap.size := ⟨_, rfl⟩
  have HN : Hid (N = w.heap.size) := hN
  have HHE : Hid (he = if hk then 0 else 4) := hhe
  have HHD : Hid (∀ W, Below N w W → Calls Tryd.prog 29 #[ptr g, .int .i64 (i : Nat)] W fun e w' => ∃ s f, e = .returned (.tuple #[.agg (headCells s f).toArray, .int .i64 he]) ∧ (hk = true → s = hS b0 ∧ f = hF b0) ∧ Below W.heap.size W w') := fun W hW => by
    rw [hhe, hhk, hb0]
    rw [hN] at hW
    exact readHead_any (h.below hW) hd (TabIn.later ht hW)
  obtain ⟨S, hSS⟩ : ∃ S, S = hS b0 := ⟨_, rfl⟩
  obtain ⟨F, hFF⟩ : ∃ F, F = hF b0 := ⟨_, rfl⟩
  obtain ⟨TT, hTT⟩ : ∃ TT, TT = logOf m n i S F := ⟨_, rfl⟩
  obtain ⟨le, hle⟩ : ∃ le, le = logEr TT := ⟨_, rfl⟩
  have HLG : Hid (∀ W, Below N w W → Calls Tryd.prog 30 #[ptr g, .int .i64 (i : Nat), .agg (headCells S F).toArray] W fun e w' => ∃ tv z, e = .returned (.tuple #[tv, .int .i64 z, .int .i64 le]) ∧ (le = 0 → ∃ D used, TT.1 = some (D, used) ∧ z = ((used : Nat) : Int) ∧ used ≤ 4096 ∧ TxsTo w' W.heap.size tv D) ∧ Below W.heap.size W w') := fun W hW => by
    rw [hle, hTT, hn]
    rw [hN] at hW
    exact readLog_any (h.below hW) hd (TabIn.later ht hW) S F
  obtain ⟨be, hbe⟩ : ∃ be, be = (m.begin (i : Int) (S + 1) F).1 := ⟨_, rfl⟩
  obtain ⟨M, hM⟩ : ∃ M, M = (m.begin (i : Int) (S + 1) F).2 := ⟨_, rfl⟩
  have HBG : Hid (∀ W gw used, Live W c t g m → WalAt W c t gw g (i : Int) 0 used → Calls Tryd.prog 31 #[ptr gw, .agg (headCells (S + 1) F).toArray] W fun e w' => e = .returned (.int .i64 be) ∧ ∃ c', (∀ b, b < W.heap.size → c' b = c b) ∧ Live w' c' t g M ∧ Ch (fun b => (c b).1 = t ∨ b = gw) W w' ∧ WalAt w' c' t gw g (i : Int) (if be = 0 then S + 1 else 0) used) := fun W gw used hL hW => by
    rw [hbe, hM]
    exact begin_any hL (i : Int) 0 used (S + 1) F hW (by have := hd.steps; omega)
  have HS : Hid (hk = true → S < 4611686018427387904) := fun e => by rw [hSS]; exact headOk_lt b0 (by rw [← hhk]; exact e)
  have HOP : Hid (m.openR n i = if hk then if le = 0 then (be, M) else (le, m) else (4, m)) := by
    show _ = _
    unfold Pl.openR
    rw [← hb0, ← hhk, ← hSS, ← hFF, ← hTT, ← hle, hbe, hM]
  have HL : Hid (Live w c t g m ∧ Fr.TabIn w ∧ (c 0).1 ≠ t) := ⟨h, ht, htc⟩
  rw [← hn, ← hb0, ← hSS, ← hFF, ← hTT]
  obtain ⟨PQ, hPQ⟩ : ∃ PQ : Ending → World → Prop, PQ = fun (e : Ending) (w' : World) => ∃ wv tv, e = .returned (.tuple #[wv, tv, .int .i64 (m.openR n i).1]) ∧ ∃ c', (∀ b, b < w.heap.size → c' b = c b) ∧ Live w' c' t g (m.openR n i).2 ∧ Ch (fun b => (c b).1 = t) w w' ∧ ((m.openR n i).1 = 0 → ∃ gw D used, wv = ptr gw ∧ w.heap.size ≤ gw ∧ TT.1 = some (D, used) ∧ used ≤ 4096 ∧ WalAt w' c' t gw g (i : Int) (S + 1) used ∧ (∀ b, b < gw → c' b = c b) ∧ ∃ W5, W5.heap.size = gw ∧ TxsTo W5 w.heap.size tv D ∧ ∀ b, w.heap.size ≤ b → b < gw → w'.heap[b]? = W5.heap[b]?) ∧ ((m.openR n i).1 ≠ 0 → wv = .pointer none ∧ tv = .slice none 0 0) := ⟨_, rfl⟩
  have HPQ : Hid (PQ = fun (e : Ending) (w' : World) => ∃ wv tv, e = .returned (.tuple #[wv, tv, .int .i64 (m.openR n i).1]) ∧ ∃ c', (∀ b, b < w.heap.size → c' b = c b) ∧ Live w' c' t g (m.openR n i).2 ∧ Ch (fun b => (c b).1 = t) w w' ∧ ((m.openR n i).1 = 0 → ∃ gw D used, wv = ptr gw ∧ w.heap.size ≤ gw ∧ TT.1 = some (D, used) ∧ used ≤ 4096 ∧ WalAt w' c' t gw g (i : Int) (S + 1) used ∧ (∀ b, b < gw → c' b = c b) ∧ ∃ W5, W5.heap.size = gw ∧ TxsTo W5 w.heap.size tv D ∧ ∀ b, w.heap.size ≤ b → b < gw → w'.heap[b]? = W5.heap[b]?) ∧ ((m.openR n i).1 ≠ 0 → wv = .pointer none ∧ tv = .slice none 0 0)) := hPQ
  rw [← hPQ]
  have HSF : Hid (S = hS b0 ∧ F = hF b0) := ⟨hSS, hFF⟩
  clear hPQ hTT hle hn h hd ht htc hhold hb0 hhk hhe hN hSS hFF hbe hM
  go_enter Tryd.func12, Tryd.ntmps12
  go_upto_region 3 with (go_at_call 24; refine HMH.out.mono ?_; rintro e w2 ⟨rfl, b2⟩; have R2 : Hid (Below N w w2) := (by rw [HN.out]; exact b2); clear b2)
  refine wp_region_lit ?_
  refine wl_mv (.tmp 0) rfl rfl (ptr g) rfl ?_
  simp only [Act.put, aS, aC, aZ]
  refine wl_mv (.tmp 1) rfl rfl (.int .i64 (i : Nat)) rfl ?_
  simp only [Act.put, aS, aC, aZ]
  refine wpList_callF eN45 [.tmp 18, .tmp 19] _ rfl rfl [ptr g, .int .i64 (i : Nat)] rfl ?_
  refine (HHD.out w2 R2.out).mono ?_
  rintro e w3 ⟨s, f, rfl, hsf, b3⟩
  refine ⟨_, rfl, ?_⟩
  have R3 : Hid ((hk = true → s = S ∧ f = F) ∧ Below N w w3) := ⟨fun e => by rw [HSF.out.1, HSF.out.2]; exact hsf e, R2.out.trans (b3.mono (by have := R2.out.size; have := HN.out; omega))⟩
  clear hsf b3 R2
  simp only [Act.put, aS, aC, aZ]
  refine wl_mv (.tmp 20) rfl rfl (.tuple #[.agg (headCells s f).toArray, .int .i64 he]) rfl ?_
  simp only [Act.put, aS, aC, aZ]
  refine wl rfl (.agg (headCells s f).toArray) w3 (by simp [execOp, Act.eval, Instr.extract]) ?_
  simp only [Act.put, aS, aC, aZ]
  refine wl rfl (.int .i64 he) w3 (by simp [execOp, Act.eval, Instr.extract]) ?_
  simp only [Act.put, aS, aC, aZ]
  refine wpList_alloc_store agg101 _ zero101 rfl rfl rfl rfl rfl (.tmp 21) rfl (headCells s f) rfl rfl (headCells_one s f) (fun _ => rfl) (fun _ => rfl) ?_
  intro w4 r4 s4 b4
  obtain ⟨g7, hg7⟩ : ∃ g7, g7 = w3.heap.size := ⟨_, rfl⟩
  rw [← hg7] at r4 s4 ⊢
  have hN7 : N ≤ g7 := by have := R3.out.2.size; have := HN.out; omega
  have R4 : Hid (Row w4 g7 63 (headCells s f) ∧ Below N w w4 ∧ N ≤ g7 ∧ w4.heap.size = g7 + 1) := ⟨r4, R3.out.2.trans (b4.mono (by rw [← hg7]; exact hN7)), hN7, s4⟩
  clear r4 s4 b4 hg7 hN7
  simp only [Act.put, aS, aC, aZ]
  refine wl_as (.tmp 22) rfl rfl (.int .i64 he) rfl ?_
  simp only [Act.put, aS, aC, aZ]
  refine wpList_nil ?_
  cases hk with
  | false =>
    have e4 : he = 4 := HHE.out
    subst e4
    have HO : Hid (m.openR n i = (4, m)) := HOP.out
    go_wp2_with fail
    go_ret3
    rw [HPQ.out]
    exact ⟨_, _, by rw [HO.out]; rfl, c, fun _ _ => rfl, by rw [HO.out]; exact HL.out.1.below (by rw [← HN.out]; exact R4.out.2.1), Ch.of_below (by rw [← HN.out]; exact R4.out.2.1), fun h => by rw [HO.out] at h; exact absurd (show (4 : Int) = 0 from h) (by decide), fun _ => ⟨rfl, rfl⟩⟩
  | true =>
    have e0 : he = 0 := HHE.out
    subst e0
    obtain ⟨rfl, rfl⟩ := R3.out.1 rfl
    go_upto_region 6 with fail
    refine wp_region_lit ?_
    refine wl_mv (.tmp 0) rfl rfl (ptr g) rfl ?_
    simp only [Act.put, aS, aC, aZ]
    refine wl_mv (.tmp 1) rfl rfl (.int .i64 (i : Nat)) rfl ?_
    simp only [Act.put, aS, aC, aZ]
    refine wl_ldA agg101 (.tmp 7) rfl rfl g7 0 rfl (headCells s f) rfl (fun j v hj => by rw [Nat.zero_add]; exact R4.out.1.at j v hj) ?_
    simp only [Act.put, aS, aC, aZ]
    refine wpList_callF eN46 [.tmp 27, .tmp 28, .tmp 29] _ rfl rfl [ptr g, .int .i64 (i : Nat), .agg (headCells s f).toArray] rfl ?_
    refine (HLG.out w4 R4.out.2.1).mono ?_
    rintro e w5 ⟨tv, z, rfl, hz, b5⟩
    refine ⟨_, rfl, ?_⟩
    have R5 : Hid ((le = 0 → ∃ D used, TT.1 = some (D, used) ∧ z = ((used : Nat) : Int) ∧ used ≤ 4096 ∧ TxsTo w5 w4.heap.size tv D) ∧ Row w5 g7 63 (headCells s f) ∧ Below N w w5 ∧ N ≤ w5.heap.size ∧ w4.heap.size ≤ w5.heap.size) := ⟨hz, R4.out.1.later b5 R4.out.1.lt, R4.out.2.1.trans (b5.mono (by have := R4.out.2.2.1; have := R4.out.2.2.2; omega)), by have := b5.size; have := R4.out.2.2.1; have := R4.out.2.2.2; omega, b5.size⟩
    clear hz b5 HLG HHD
    simp only [Act.put, aS, aC, aZ]
    refine wl_mv (.tmp 30) rfl rfl (.tuple #[tv, .int .i64 z, .int .i64 le]) rfl ?_
    simp only [Act.put, aS, aC, aZ]
    refine wl rfl tv w5 (by simp [execOp, Act.eval, Instr.extract]) ?_
    simp only [Act.put, aS, aC, aZ]
    refine wl rfl (.int .i64 z) w5 (by simp [execOp, Act.eval, Instr.extract]) ?_
    simp only [Act.put, aS, aC, aZ]
    refine wl rfl (.int .i64 le) w5 (by simp [execOp, Act.eval, Instr.extract]) ?_
    simp only [Act.put, aS, aC, aZ]
    refine wl_as (.tmp 31) rfl rfl tv rfl ?_
    simp only [Act.put, aS, aC, aZ]
    refine wl_as (.tmp 32) rfl rfl (.int .i64 z) rfl ?_
    simp only [Act.put, aS, aC, aZ]
    refine wl_as (.tmp 33) rfl rfl (.int .i64 le) rfl ?_
    simp only [Act.put, aS, aC, aZ]
    refine wpList_nil ?_
    by_cases hl0 : le = 0
    · obtain ⟨D, used, hD, hzz, hu, htx⟩ := R5.out.1 hl0
      subst hl0 hzz
      have HD : Hid (TT.1 = some (D, used) ∧ used ≤ 4096 ∧ TxsTo w5 w4.heap.size tv D) := ⟨hD, hu, htx⟩
      have HO : Hid (m.openR n i = (be, M)) := HOP.out
      clear hD htx
      go_upto_region 9 with fail
      refine wp_region_lit ?_
      refine wl_mv (.tmp 0) rfl rfl (ptr g) rfl ?_
      simp only [Act.put, aS, aC, aZ]
      refine wl_mv (.tmp 1) rfl rfl (.int .i64 (i : Nat)) rfl ?_
      simp only [Act.put, aS, aC, aZ]
      refine wl_mv (.tmp 10) rfl rfl (.int .i64 (used : Nat)) rfl ?_
      simp only [Act.put, aS, aC, aZ]
      refine wl rfl _ w5 (run_build108Op (.tmp 37) (.tmp 38) (.tmp 39) rfl g i used rfl rfl rfl) ?_
      simp only [Act.put, aS, aC, aZ]
      refine wpList_box (.tmp 40) rfl rfl (walCells g (i : Int) 0 used) rfl ?_
      intro w6 r6 s6 b6
      obtain ⟨gw, hgw⟩ : ∃ gw, gw = w5.heap.size := ⟨_, rfl⟩
      rw [← hgw] at r6 s6 ⊢
      have hbw : Below w.heap.size w w6 := by rw [← HN.out]; exact R5.out.2.2.1.trans (b6.mono R5.out.2.2.2.1)
      have R6 : Hid (Row w6 g7 63 (headCells s f) ∧ Below w.heap.size w w6 ∧ WalAt w6 c t gw g (i : Int) 0 used ∧ Live w6 c t g m ∧ Below w5.heap.size w5 w6 ∧ gw = w5.heap.size) := ⟨R5.out.2.1.later b6 R5.out.2.1.lt, hbw, ⟨r6, HL.out.1.2.2 gw (by have := R5.out.2.2.2.1; have := HN.out; omega), TabIn.later HL.out.2.1 hbw, HL.out.2.2⟩, HL.out.1.below hbw, b6, hgw⟩
      clear r6 s6 b6 hgw hbw
      simp only [Act.put, aS, aC, aZ]
      refine wl_as (.tmp 41) rfl rfl (ptr gw) rfl ?_
      simp only [Act.put, aS, aC, aZ]
      refine wpList_nil ?_
      go_upto_region 10 with fail
      refine wp_region_lit ?_
      refine wl_mv (.tmp 11) rfl rfl (ptr gw) rfl ?_
      simp only [Act.put, aS, aC, aZ]
      refine wl_fld f101_0 (.tmp 7) rfl rfl g7 0 rfl ?_
      simp only [Act.put, aS, aC, aZ]
      refine wl_ld o99 (.tmp 43) rfl rfl g7 (0 + 0) rfl (.int .u64 (s : Nat)) (R6.out.1.at 0 _ rfl) ?_
      simp only [Act.put, aS, aC, aZ]
      refine wl_inc64 (.tmp 44) rfl rfl s (by have := HS.out rfl; omega) rfl ?_
      simp only [Act.put, aS, aC, aZ]
      refine wl_fld f101_1 (.tmp 7) rfl rfl g7 0 rfl ?_
      simp only [Act.put, aS, aC, aZ]
      refine wl_ld o99 (.tmp 46) rfl rfl g7 (0 + 1) rfl (.int .u64 (f : Nat)) (R6.out.1.at 1 _ rfl) ?_
      simp only [Act.put, aS, aC, aZ]
      refine wl rfl _ w6 (run_build101xOp (.tmp 45) (.tmp 47) rfl (s + 1) f rfl rfl) ?_
      simp only [Act.put, aS, aC, aZ]
      refine wpList_callF eN47' [.tmp 42, .tmp 48] _ rfl rfl [ptr gw, .agg (headCells (s + 1) f).toArray] rfl ?_
      refine (HBG.out w6 gw used R6.out.2.2.2.1 R6.out.2.2.1).mono ?_
      rintro e w7 ⟨rfl, c7, q1, q2, q3, q4⟩
      refine ⟨_, rfl, ?_⟩
      have R7 : Hid ((∀ b, b < w6.heap.size → c7 b = c b) ∧ Live w7 c7 t g M ∧ Ch (fun b => (c b).1 = t ∨ b = gw) w6 w7 ∧ WalAt w7 c7 t gw g (i : Int) (if be = 0 then s + 1 else 0) used) := ⟨q1, q2, q3, q4⟩
      clear q1 q2 q3 q4
      simp only [Act.put, aS, aC, aZ]
      refine wl_as (.tmp 49) rfl rfl (.int .i64 be) rfl ?_
      simp only [Act.put, aS, aC, aZ]
      refine wpList_nil ?_
      have HCH : Hid ((∀ b, b < w.heap.size → c7 b = c b) ∧ Ch (fun b => (c b).1 = t) w w7 ∧ w.heap.size ≤ gw) := by
        have hgw : w.heap.size ≤ gw := by have := R6.out.2.2.2.2.2; have := R5.out.2.2.2.1; have := HN.out; omega
        refine ⟨fun b hb => R7.out.1 b (Nat.lt_of_lt_of_le hb R6.out.2.1.size), (Ch.of_below R6.out.2.1).trans' R7.out.2.2.1 (fun b hb e => ?_), hgw⟩
        rcases e with e | e
        · exact e
        · omega
      by_cases hb0 : be = 0
      · subst hb0
        have HW7 : Hid (WalAt w7 c7 t gw g (i : Int) (s + 1) used ∧ (∀ b, b < gw → c7 b = c b) ∧ ∃ W5, W5.heap.size = gw ∧ TxsTo W5 w.heap.size tv D ∧ ∀ b, w.heap.size ≤ b → b < gw → w7.heap[b]? = W5.heap[b]?) := by
          refine ⟨by have := R7.out.2.2.2; rw [if_pos rfl] at this; exact this, fun b hb => R7.out.1 b (by have := R6.out.2.2.2.2.1.size; have := R6.out.2.2.2.2.2; omega), w5, R6.out.2.2.2.2.2.symm, HD.out.2.2.weaken (by have := R4.out.2.2.1; have := R4.out.2.2.2; have := HN.out; omega), fun b hb hlt => ?_⟩
          have hlt5 : b < w5.heap.size := by have := R6.out.2.2.2.2.2; omega
          rw [R7.out.2.2.1.block b (Nat.lt_of_lt_of_le hlt5 R6.out.2.2.2.2.1.size) (fun e => ?_), R6.out.2.2.2.2.1.block b hlt5]
          rcases e with e | e
          · exact HL.out.1.2.2 b hb e
          · omega
        go_wp2_with fail
        go_ret3
        rw [HPQ.out]
        refine ⟨ptr gw, tv, by rw [HO.out]; rfl, c7, HCH.out.1, by rw [HO.out]; exact R7.out.2.1, HCH.out.2.1, fun _ => ⟨gw, D, used, rfl, HCH.out.2.2, HD.out.1, HD.out.2.1, HW7.out.1, HW7.out.2⟩, fun h => absurd (show (m.openR n i).1 = 0 by rw [HO.out]) h⟩
      · have t2 : (be != 0) = true := by simp [hb0]
        have t3 : decide (be = 0) = false := decide_eq_false hb0
        have t4 : (be == 0) = false := by simp [hb0]
        go_wp2_with fail
        go_ret3
        rw [HPQ.out]
        refine ⟨_, _, by rw [HO.out]; rfl, c7, HCH.out.1, by rw [HO.out]; exact R7.out.2.1, HCH.out.2.1, fun h => ?_, fun _ => ⟨rfl, rfl⟩⟩
        rw [HO.out] at h
        exact absurd h hb0
    · have t2 : (le != 0) = true := by simp [hl0]
      have t3 : decide (le = 0) = false := decide_eq_false hl0
      have t4 : (le == 0) = false := by simp [hl0]
      have HO : Hid (m.openR n i = (le, m)) := by have := HOP.out; rw [if_pos rfl, if_neg hl0] at this; exact this
      go_wp2_with fail
      go_ret3
      rw [HPQ.out]
      refine ⟨_, _, by rw [HO.out]; rfl, c, fun _ _ => rfl, by rw [HO.out]; exact HL.out.1.below (by rw [← HN.out]; exact R5.out.2.2.1), Ch.of_below (by rw [← HN.out]; exact R5.out.2.2.1), fun h => ?_, fun _ => ⟨rfl, rfl⟩⟩
      rw [HO.out] at h
      exact absurd h hl0
end Go.Proofs.YtebalanfagglnaaDoor

namespace Go.Proofs.YtebalanfagglnaaDoor
open Go.RowKit Go.Maps

end Go.Proofs.YtebalanfagglnaaDoor

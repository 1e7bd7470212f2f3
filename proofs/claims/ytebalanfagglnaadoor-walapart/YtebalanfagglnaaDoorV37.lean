/- Layer 8: the desk appends a transaction: the walk. Layer 8: the desk formats its disk anew. -/
import Derived.Test.YtebalanfagglnaaDoorV36
namespace Go.Proofs.YtebalanfagglnaaDoor
open Go.RowKit Go.Maps
variable {T : Nat → Prop}

set_option maxHeartbeats 16000000 in
set_option maxRecDepth 100000 in
theorem dappend_any {w : World} {c : Nat → Colour} {t gd gw g : Nat} {m : Pl} {ds ts : List Nat} {i n S E : Nat} {D : List (List (List Nat))} {nv : Value} {dims : Nat} (h : Desk T w c t gd gw g m ds ts i n S E D nv dims) (hst : m.steps + 30000 < 1099511627775) (hdm : dims ≤ 999999900) {k N : Int} {txv kv : Value} {L : List (List Nat)} {ks : List Int} (ho : OpR w (Fr3 T c t gd gw) k N txv kv L ks) :
    Calls Tryd.prog 21 #[ptr gd, .agg (opCells k N txv kv).toArray] w fun e w' => e = .returned (.bool true) ∧ ∃ c' gw' m' S' E' D' nv' dims', Done T w c t gd gw g m ds ts i n dims w' c' gw' m' S' E' D' nv' dims' := by
  obtain ⟨us, hnow⟩ := h.now
  obtain ⟨tp, tn, tc, htx⟩ := ho.tx.now.isSl
  obtain ⟨kp, kn, kc, hkv⟩ := ho.keep.isSl
  subst htx hkv
  have htn : tn = L.length := by obtain ⟨p, cap, e, _⟩ := ho.tx.now; injection e with _ e
  have hlen := row_len L ho.size
  have HI : Hid (Desk T w c t gd gw g m ds ts i n S E D nv dims) := h
  have HO : Hid (OpR w (Fr3 T c t gd gw) k N (.slice tp tn tc) (.slice kp kn kc) L ks) := ho
  have HNOW : Hid (Rob (Fr3 T c t gd gw) (fun W => TxsC W nv D us) w) := hnow
  have HTN : Hid (tn = L.length ∧ L.length < 100000000 ∧ (∀ r ∈ L, r.length ≤ 100000000) ∧ bytesOf L ≤ 1099511627776) := ⟨htn, hlen.1, hlen.2, by have := ho.size; unfold txSize at this; omega⟩
  have HTX : Hid (∀ W, Below w.heap.size w W → RowsIn W (.slice tp tn tc) L) := fun W hW => (ho.tx.below hW).now
  have hle := h.jo.le
  have hsm := h.jo.jc.small
  have HSM : Hid (D.length ≤ 10000 ∧ costs D ≤ 1000000 ∧ n ≤ 4096 ∧ E ≤ 4096 ∧ costOf L ≤ 1000000 ∧ 8 ≤ n) := ⟨by omega, by have := costs_small D hsm.2; omega, hle.2.2, by omega, by have := ho.size; unfold costOf; omega, h.jo.jc.lv.2.2.2⟩
  have HST : Hid (m.steps + 30000 < 1099511627775 ∧ dims ≤ 999999900) := ⟨hst, hdm⟩
  have htb : tn ≤ 100000000 := by omega
  have HCS := app_cases h.jo (by omega) L ho.tx.now.mem
  obtain ⟨lg, hlg⟩ : ∃ lg, lg = longTx L := ⟨_, rfl⟩
  obtain ⟨fb, hfb⟩ : ∃ fb, fb = fitsB L n E := ⟨_, rfl⟩
  obtain ⟨AP, hAP⟩ : ∃ AP, AP = m.app i S E n L := ⟨_, rfl⟩
  rw [← hlg, ← hfb, ← hAP] at HCS
  obtain ⟨er, M, un⟩ := AP
  have HC : Hid ((lg = true ∧ fb = false ∧ (er, M, un) = (5, m, E)) ∨ (lg = false ∧ fb = false ∧ (er, M, un) = (3, m, E) ∧ n - 4 < costs D + costOf L) ∨ (lg = false ∧ fb = true ∧ ∃ M' un', (er, M, un) = (0, M', un') ∧ Jo M' i n S un' (D ++ [L]) ∧ Rel m M' i ∧ M'.steps ≤ m.steps + 100) ∨ (lg = false ∧ fb = true ∧ ∃ M', (er, M, un) = (2, M', E) ∧ M'.on = false ∧ Rel m M' i ∧ M'.steps ≤ m.steps + 100 ∧ ∀ ks, Jc (M'.boot ks) i n D ∨ Jc (M'.boot ks) i n (D ++ [L]))) := HCS
  have HLO : Hid (∀ W, Below w.heap.size w W → Calls Tryd.prog 41 #[.slice tp tn tc] W fun e w' => e = .returned (.bool lg) ∧ W = w') := fun W hW => by rw [hlg]; exact longR_any W _ L (HTX.out W hW) HTN.out.2.2.2
  have HFI : Hid (∀ W v, Below w.heap.size w W → RowsIn W v L → Calls Tryd.prog 33 #[ptr gw, v] W fun e w' => e = .returned (.bool fb) ∧ Below W.heap.size W w') := fun W v hW hv => by
    have := fits_any (h.dk.live.below hW) i S E (h.wal.below hW) (by omega) h.dk.shape h.dk.lt (by rw [h.dk.size]; have := HSM.out.2.2.2.2.2; omega) (by omega) v L hv (by have := ho.size; omega)
    rw [h.dk.size] at this
    rw [hfb]
    exact this
  have HAD : Hid (∀ W v, Below w.heap.size w W → RowsIn W v L → Calls Tryd.prog 14 #[ptr gw, v] W fun e w' => e = .returned (.int .i64 er) ∧ ∃ c', (∀ b, b < W.heap.size → c' b = c b) ∧ Live w' c' t g M ∧ Ch (fun b => (c b).1 = t ∨ b = gw) W w' ∧ WalAt w' c' t gw g (i : Int) S un) := fun W v hW hv => by
    have := append_any' (h.dk.live.below hW) i S E (h.wal.below hW) (by omega) h.dk.shape h.dk.lt (by rw [h.dk.size]; have := HSM.out.2.2.2.2.2; omega) (by omega) v L hv (by have := ho.size; omega)
    rw [h.dk.size, ← hAP] at this
    exact this
  have HSH : Hid (M.sh = m.sh) := by
    show _ = _
    rcases HCS with ⟨_, _, e⟩ | ⟨_, _, e, _⟩ | ⟨_, _, M', un', e, _, r, _⟩ | ⟨_, _, M', e, _, r, _⟩
    · injection e with _ e; injection e with e; rw [e]
    · injection e with _ e; injection e with e; rw [e]
    · injection e with _ e; injection e with e; rw [e]; exact r.sh
    · injection e with _ e; injection e with e; rw [e]; exact r.sh
  obtain ⟨PQ, hPQ⟩ : ∃ PQ : Ending → World → Prop, PQ = fun (e : Ending) (w' : World) => e = .returned (.bool true) ∧ ∃ c' gw' m' S' E' D' nv' dims', Done T w c t gd gw g m ds ts i n dims w' c' gw' m' S' E' D' nv' dims' := ⟨_, rfl⟩
  have HPQ : Hid (PQ = fun (e : Ending) (w' : World) => e = .returned (.bool true) ∧ ∃ c' gw' m' S' E' D' nv' dims', Done T w c t gd gw g m ds ts i n dims w' c' gw' m' S' E' D' nv' dims') := hPQ
  rw [← hPQ]
  clear hPQ h ho hnow htn hlen hle hsm hst hdm HCS hlg hfb hAP
  go_enter Tryd.func21, Tryd.ntmps21
  go_upto_region 0 with fail
  refine wp_region_lit ?_
  refine wpList_box (.tmp 1) rfl rfl (opCells k N (.slice tp tn tc) (.slice kp kn kc)) rfl ?_
  intro w1 r1 s1 b1
  obtain ⟨gop, hgop⟩ : ∃ gop, gop = w.heap.size := ⟨_, rfl⟩
  rw [← hgop] at r1 s1 ⊢
  have R1 : Hid (Row w1 gop 31 (opCells k N (.slice tp tn tc) (.slice kp kn kc)) ∧ Below w.heap.size w w1 ∧ w.heap.size ≤ gop ∧ w1.heap.size = gop + 1) := ⟨r1, b1, by omega, s1⟩
  clear r1 s1 b1 hgop
  simp only [Act.put, aS, aC, aZ]
  refine wl_as (.const (.bool false)) rfl rfl (.bool false) rfl ?_
  simp only [Act.put, aS, aC, aZ]
  refine wpList_nil ?_
  go_upto_region 1 with fail
  refine wp_region_lit ?_
  refine lit30 rfl rfl ?_
  obtain ⟨g5, hg5⟩ : ∃ g5, g5 = w1.heap.size := ⟨_, rfl⟩
  obtain ⟨w2, hw2⟩ : ∃ w2, w2 = w1.alloc (.cells #[] 50) := ⟨_, rfl⟩
  rw [← hg5, ← hw2]
  have R2 : Hid (Row w2 gop 31 (opCells k N (.slice tp tn tc) (.slice kp kn kc)) ∧ Below w.heap.size w w2 ∧ w.heap.size ≤ gop ∧ gop < g5 ∧ Row w2 g5 50 [] ∧ w2.heap.size = g5 + 1) := by
    have b2 : Below w1.heap.size w1 w2 := by rw [hw2]; exact below_alloc w1 _
    have r2 : Row w2 g5 50 [] := by rw [hw2, hg5]; exact Row.new w1 50 []
    exact ⟨R1.out.1.later b2 R1.out.1.lt, R1.out.2.1.trans (b2.mono R1.out.2.1.size), R1.out.2.2.1, by have := R1.out.2.2.2; omega, r2, by rw [hw2, World.size_alloc]; omega⟩
  clear hg5 hw2 R1
  simp only [Act.put, aS, aC, aZ]
  refine wl_as (.tmp 15) rfl rfl (.slice (some ⟨g5, 0, none⟩) 0 0) rfl ?_
  simp only [Act.put, aS, aC, aZ]
  refine wpList_nil ?_
  obtain ⟨v6, w3, he3, ho3, hb3⟩ := app_many (HNOW.out.below R2.out.2.1).now
  have hb2 : Below w2.heap.size w2 (w2.alloc (.cells #[] 28)) := below_alloc w2 _
  have kd3 : (w2.alloc (.cells #[] 28)).cell? ⟨gd, 3, none⟩ = some nv := ((HI.out.dk.below R2.out.2.1).below hb2).row.at 3 _ rfl
  have HE3 : Hid ((Builtin.append_ #[36, 36] 36 #[.slice (some ⟨w2.heap.size, 0, none⟩) 0 0, nv]).run Tryd.prog (w2.alloc (.cells #[] 28)) = .ok v6 w3 ∧ (w2.alloc (.cells #[] 28)).cell? ⟨gd, 3, none⟩ = some nv) := ⟨he3, kd3⟩
  have R3 : Hid (Row w3 gop 31 (opCells k N (.slice tp tn tc) (.slice kp kn kc)) ∧ Below w.heap.size w w3 ∧ w.heap.size ≤ gop ∧ gop < g5 ∧ Row w3 g5 50 [] ∧ w3.ownsRow (g5 + 1) 28 1 v6 D.length us ∧ g5 + 1 ≤ w3.heap.size) := by
    have h6 := R2.out.2.2.2.2.2
    refine ⟨R2.out.1.later hb3 R2.out.1.lt, R2.out.2.1.trans (hb3.mono R2.out.2.1.size), R2.out.2.2.1, R2.out.2.2.2.1, R2.out.2.2.2.2.1.later hb3 R2.out.2.2.2.2.1.lt, by rw [← h6]; exact ho3, by have := hb3.size; omega⟩
  clear he3 ho3 hb3 hb2 kd3 R2
  go_upto_region 2 with fail
  refine wp_region_lit ?_
  refine lit38 rfl rfl ?_
  simp only [Act.put, aS, aC, aZ]
  refine wl_mv (.tmp 0) rfl rfl (ptr gd) rfl ?_
  simp only [Act.put, aS, aC, aZ]
  refine wl_nil (.tmp 17) rfl rfl ⟨gd, 0, none⟩ rfl ?_
  simp only [Act.put, aS, aC, aZ]
  refine wl_fld f40_3 (.tmp 18) rfl rfl gd 0 rfl ?_
  simp only [Act.put, aS, aC, aZ]
  refine wl_ld o38 (.tmp 19) rfl rfl gd (0 + 3) rfl nv HE3.out.2 ?_
  simp only [Act.put, aS, aC, aZ]
  refine wl_app (.tmp 16) (.tmp 20) rfl rfl _ nv v6 rfl rfl HE3.out.1 ?_
  simp only [Act.put, aS, aC, aZ]
  refine wl_as (.tmp 21) rfl rfl v6 rfl ?_
  simp only [Act.put, aS, aC, aZ]
  refine wpList_nil ?_
  clear HE3
  go_upto_region 3 with fail
  refine wp_region_lit ?_
  refine lit30 rfl rfl ?_
  obtain ⟨g7, hg7⟩ : ∃ g7, g7 = w3.heap.size := ⟨_, rfl⟩
  obtain ⟨w4, hw4⟩ : ∃ w4, w4 = w3.alloc (.cells #[] 50) := ⟨_, rfl⟩
  rw [← hg7, ← hw4]
  have H1 : Hid (Ap1 w gop (opCells k N (.slice tp tn tc) (.slice kp kn kc)) v6 D.length us L 0 0 (.slice (some ⟨g5, 0, none⟩) 0 0) (.slice (some ⟨g7, 0, none⟩) 0 0) w4) := by
    have b4 : Below w3.heap.size w3 w4 := by rw [hw4]; exact below_alloc w3 _
    have r4 : Row w4 g7 50 [] := by rw [hw4, hg7]; exact Row.new w3 50 []
    have z4 : w4.heap.size = g7 + 1 := by rw [hw4, World.size_alloc]; omega
    have q1 := R3.out.2.2.1
    have q2 := R3.out.2.2.2.1
    have q3 := R3.out.2.2.2.2.2.2
    have q4 := R3.out.2.2.2.2.2.1
    have q5 : ∀ b, v6.ownBlock = some b → g5 + 1 ≤ b ∧ b < w3.heap.size := fun b hb => World.ownsRow.lt q4 b hb
    have q6 : w4.ownsRow w.heap.size 28 1 v6 D.length us := by
      have h1 : w4.ownsRow (g5 + 1) 28 1 v6 D.length us := ownK q4 fun b hb => b4.block b (q5 b hb).2
      obtain ⟨h2, h3⟩ := h1
      refine ⟨h2, ?_⟩
      rcases h3 with h3 | ⟨g', cap, cur, e, h0, hg⟩
      · exact Or.inl h3
      · exact Or.inr ⟨g', cap, cur, e, by omega, hg⟩
    refine ⟨R3.out.2.1.trans (b4.mono R3.out.2.1.size), R3.out.1.later b4 R3.out.1.lt, q6, q1, (· = g5), (· = g7), [], [], AccZ.nil w4 g5 (R3.out.2.2.2.2.1.later b4 R3.out.2.2.2.2.1.lt) _ rfl (fun b hb => by omega), AccZ.nil w4 g7 r4 _ rfl (fun b hb => by omega), fun b hb => ⟨by omega, by omega, by omega, fun e => by have := (q5 b e).1; omega⟩, fun b hb => ⟨by omega, by omega, fun e => by have := (q5 b e).2; omega⟩⟩
  clear hg7 hw4 R3
  simp only [Act.put, aS, aC, aZ]
  refine wl_as (.tmp 22) rfl rfl (.slice (some ⟨g7, 0, none⟩) 0 0) rfl ?_
  simp only [Act.put, aS, aC, aZ]
  refine wpList_nil ?_
  go_upto_region 4 with fail
  go_wp2_with fail
  simp only [Nat.zero_add]
  go_loopw [5, 7, 8] (fun v5 v7 vi W => ∃ q : Nat, vi = .int .i64 (q : Nat) ∧ q ≤ tn ∧ Ap1 w gop (opCells k N (.slice tp tn tc) (.slice kp kn kc)) v6 D.length us L q q v5 v7 W) (fun _ _ vi _ => tn - (intOf vi).toNat)
  case atStart => exact ⟨0, rfl, Nat.zero_le _, H1.out⟩
  case round =>
    obtain ⟨q, rfl, hq, hI⟩ := hrel
    have HP : Hid (Ap1 w gop (opCells k N (.slice tp tn tc) (.slice kp kn kc)) v6 D.length us L q q u5 u7 wr) := hI
    have kop : wr.cell? ⟨gop, 2, none⟩ = some (.slice tp tn tc) := hI.op.at 2 _ rfl
    clear hI H1
    by_cases hlt : q < tn
    · have t1 : decide ((q : Int) < (tn : Int)) = true := decide_eq_true (by omega)
      have hqL : q < L.length := by rw [← HTN.out.1]; exact hlt
      obtain ⟨b, off, xv, htp, hcx, hx⟩ := (HTX.out wr HP.out.below).at q hqL
      obtain ⟨x1, W1, v5, W2, e1, e2, hs1, hP2⟩ := HP.out.push5 hqL HTN.out.2.1 xv hx (HTN.out.2.2.1 _ (getD_mem hqL))
      obtain ⟨b', off', xw, htp', hcx', hx'⟩ := (HTX.out W2 hP2.below).at q hqL
      obtain ⟨x2, W3, v7, W4, e3, e4, hs2, hP4⟩ := hP2.push7 hqL HTN.out.2.1 xw hx' (HTN.out.2.2.1 _ (getD_mem hqL))
      rw [htp] at htp'
      injection htp' with htp'
      injection htp' with hbb hoo
      subst hbb hoo
      have k1 : (wr.alloc (.cells #[] 5)).cell? ⟨gop, 0 + 2, none⟩ = some (.slice tp tn tc) := (HP.out.op.later (below_alloc wr _) HP.out.op.lt).at 2 _ rfl
      have k2 : (wr.alloc (.cells #[] 5)).cell? ⟨b, off + q, none⟩ = some xv := by rw [← hcx]; exact World.cell?_of_block ((below_alloc wr _).block b (block_lt_of_cell hcx))
      have k3 : (W2.alloc (.cells #[] 5)).cell? ⟨gop, 0 + 2, none⟩ = some (.slice tp tn tc) := (hP2.op.later (below_alloc W2 _) hP2.op.lt).at 2 _ rfl
      have k4 : (W2.alloc (.cells #[] 5)).cell? ⟨b, off + q, none⟩ = some xw := by rw [← hcx']; exact World.cell?_of_block ((below_alloc W2 _).block b (block_lt_of_cell hcx'))
      have HE : Hid ((Builtin.append_ #[50, 50] 50 #[whole wr.heap.size 0, xv]).run Tryd.prog (wr.alloc (.cells #[] 5)) = .ok x1 W1 ∧ (Builtin.append_ #[28, 28] 28 #[u5, .slice (some ⟨W1.heap.size, 0, none⟩) 1 1]).run Tryd.prog (W1.alloc (.cells #[x1] 50)) = .ok v5 W2 ∧ (Builtin.append_ #[50, 50] 50 #[whole W2.heap.size 0, xw]).run Tryd.prog (W2.alloc (.cells #[] 5)) = .ok x2 W3 ∧ (Builtin.append_ #[28, 28] 28 #[u7, .slice (some ⟨W3.heap.size, 0, none⟩) 1 1]).run Tryd.prog (W3.alloc (.cells #[x2] 50)) = .ok v7 W4) := ⟨e1, e2, e3, e4⟩
      have HK : Hid ((wr.alloc (.cells #[] 5)).cell? ⟨gop, 0 + 2, none⟩ = some (.slice tp tn tc) ∧ (wr.alloc (.cells #[] 5)).cell? ⟨b, off + q, none⟩ = some xv ∧ (W2.alloc (.cells #[] 5)).cell? ⟨gop, 0 + 2, none⟩ = some (.slice tp tn tc) ∧ (W2.alloc (.cells #[] 5)).cell? ⟨b, off + q, none⟩ = some xw) := ⟨k1, k2, k3, k4⟩
      have HS : Hid ((∃ p n c, x1 = .slice p n c) ∧ (∃ p n c, x2 = .slice p n c)) := ⟨hs1, hs2⟩
      have R4 : Hid (Ap1 w gop (opCells k N (.slice tp tn tc) (.slice kp kn kc)) v6 D.length us L (q + 1) (q + 1) v5 v7 W4) := hP4
      have HTP : Hid (tp = some ⟨b, off, none⟩) := htp
      clear hqL htp hcx hx e1 e2 hs1 hP2 hcx' hx' e3 e4 hs2 hP4 k1 k2 k3 k4
      go_upto_region 7 with (refine wl_sl sl30 (.tmp 25) rfl rfl tp tn tc rfl ?_)
      refine wp_region_lit ?_
      refine wl_mv (.tmp 5) rfl rfl u5 rfl ?_
      simp only [Act.put, aS, aC, aZ]
      refine lit51 rfl rfl ?_
      simp only [Act.put, aS, aC, aZ]
      refine wl_fld f33_2 (.tmp 3) rfl rfl gop 0 rfl ?_
      simp only [Act.put, aS, aC, aZ]
      refine wl_ld o30 (.tmp 32) rfl rfl gop (0 + 2) rfl (.slice tp tn tc) HK.out.1 ?_
      simp only [Act.put, aS, aC, aZ]
      refine wl_mv (.tmp 8) rfl rfl (.int .i64 (q : Nat)) rfl ?_
      simp only [Act.put, aS, aC, aZ]
      refine wl_ix (.tmp 33) (.tmp 34) rfl rfl (.slice tp tn tc) (.pointer (some ⟨b, off + q, none⟩)) (.int .i64 (q : Nat)) rfl rfl (fun w' => by rw [HTP.out]; exact idx30 b off tn tc q hlt w') ?_
      simp only [Act.put, aS, aC, aZ]
      refine wl_ld o51 (.tmp 35) rfl rfl b (off + q) rfl xv HK.out.2.1 ?_
      simp only [Act.put, aS, aC, aZ]
      refine wl_app (.tmp 31) (.tmp 36) rfl rfl _ xv x1 rfl rfl HE.out.1 ?_
      simp only [Act.put, aS, aC, aZ]
      refine wl rfl _ _ (run_lit30 (.tmp 37) rfl x1 HS.out.1 rfl) ?_
      simp only [Act.put, aS, aC, aZ]
      refine wl_app (.tmp 30) (.tmp 38) rfl rfl u5 _ v5 rfl rfl HE.out.2.1 ?_
      simp only [Act.put, aS, aC, aZ]
      refine wl_as (.tmp 39) rfl rfl v5 rfl ?_
      simp only [Act.put, aS, aC, aZ]
      refine wpList_nil ?_
      go_upto_region 8 with fail
      refine wp_region_lit ?_
      refine wl_mv (.tmp 7) rfl rfl u7 rfl ?_
      simp only [Act.put, aS, aC, aZ]
      refine lit51 rfl rfl ?_
      simp only [Act.put, aS, aC, aZ]
      refine wl_fld f33_2 (.tmp 3) rfl rfl gop 0 rfl ?_
      simp only [Act.put, aS, aC, aZ]
      refine wl_ld o30 (.tmp 42) rfl rfl gop (0 + 2) rfl (.slice tp tn tc) HK.out.2.2.1 ?_
      simp only [Act.put, aS, aC, aZ]
      refine wl_mv (.tmp 8) rfl rfl (.int .i64 (q : Nat)) rfl ?_
      simp only [Act.put, aS, aC, aZ]
      refine wl_ix (.tmp 43) (.tmp 44) rfl rfl (.slice tp tn tc) (.pointer (some ⟨b, off + q, none⟩)) (.int .i64 (q : Nat)) rfl rfl (fun w' => by rw [HTP.out]; exact idx30 b off tn tc q hlt w') ?_
      simp only [Act.put, aS, aC, aZ]
      refine wl_ld o51 (.tmp 45) rfl rfl b (off + q) rfl xw HK.out.2.2.2 ?_
      simp only [Act.put, aS, aC, aZ]
      refine wl_app (.tmp 41) (.tmp 46) rfl rfl _ xw x2 rfl rfl HE.out.2.2.1 ?_
      simp only [Act.put, aS, aC, aZ]
      refine wl rfl _ _ (run_lit30 (.tmp 47) rfl x2 HS.out.2 rfl) ?_
      simp only [Act.put, aS, aC, aZ]
      refine wl_app (.tmp 40) (.tmp 48) rfl rfl u7 _ v7 rfl rfl HE.out.2.2.2 ?_
      simp only [Act.put, aS, aC, aZ]
      refine wl_as (.tmp 49) rfl rfl v7 rfl ?_
      simp only [Act.put, aS, aC, aZ]
      refine wpList_nil ?_
      go_wp2_with fail
      refine ⟨⟨q + 1, by go_num, by omega, R4.out⟩, ?_⟩
      simp [intOf]; omega
    · obtain rfl : tn = q := by omega
      have t1 : decide ((tn : Int) < (tn : Int)) = false := decide_eq_false (by omega)
      have hP : Ap1 w gop (opCells k N (.slice tp tn tc) (.slice kp kn kc)) v6 D.length us L L.length L.length u5 u7 wr := Eq.mp (congrArg (fun z => Ap1 w gop (opCells k N (.slice tp tn tc) (.slice kp kn kc)) v6 D.length us L z z u5 u7 wr) HTN.out.1) HP.out
      obtain ⟨v6n, W5, us7, us1, Z1, e5, hA⟩ := hP.next HNOW.out HI.out.dk.live.2.2 HI.out.dk.row.lt HI.out.wal.row.lt HI.out.dk.str HSM.out.1
      have HE : Hid ((Builtin.append_ #[36, 36] 36 #[v6, .slice (some ⟨wr.heap.size, 0, none⟩) 1 1]).run Tryd.prog (wr.alloc (.cells #[u7] 28)) = .ok v6n W5 ∧ ∃ p n c, u7 = .slice p n c) := ⟨e5, hP.isSl7⟩
      have R5 : Hid (Ap2 T w c t gd gw gop (opCells k N (.slice tp tn tc) (.slice kp kn kc)) D L u5 v6n us7 us1 Z1 W5) := hA
      clear hP e5 hA
      go_upto_region 9 with (refine wl_sl sl30 (.tmp 25) rfl rfl tp tn tc rfl ?_)
      clear kop HP
      refine wp_region_lit ?_
      refine wl_mv (.tmp 6) rfl rfl v6 rfl ?_
      simp only [Act.put, aS, aC, aZ]
      refine wl_mv (.tmp 7) rfl rfl u7 rfl ?_
      simp only [Act.put, aS, aC, aZ]
      refine wl rfl _ _ (run_lit38 (.tmp 51) rfl u7 HE.out.2 rfl) ?_
      simp only [Act.put, aS, aC, aZ]
      refine wl_app (.tmp 50) (.tmp 52) rfl rfl v6 _ v6n rfl rfl HE.out.1 ?_
      simp only [Act.put, aS, aC, aZ]
      refine wl_as (.tmp 53) rfl rfl v6n rfl ?_
      simp only [Act.put, aS, aC, aZ]
      refine wpList_nil ?_
      clear HE
      go_upto_region 10 with fail
      refine wp_region_lit ?_
      refine wl_fld f33_2 (.tmp 3) rfl rfl gop 0 rfl ?_
      simp only [Act.put, aS, aC, aZ]
      refine wl_ld o30 (.tmp 54) rfl rfl gop (0 + 2) rfl (.slice tp tn tc) (R5.out.op.at 2 _ rfl) ?_
      simp only [Act.put, aS, aC, aZ]
      refine wpList_callF eN24 [.tmp 55] _ rfl rfl [(.slice tp tn tc)] rfl ?_
      refine (HLO.out W5 R5.out.below).mono ?_
      rintro e wx ⟨rfl, hwx⟩
      subst hwx
      refine ⟨_, rfl, ?_⟩
      simp only [Act.put, aS, aC, aZ]
      refine wl_as (.tmp 56) rfl rfl (.bool lg) rfl ?_
      simp only [Act.put, aS, aC, aZ]
      refine wpList_nil ?_
      go_upto_region 11 with fail
      refine wp_region_lit ?_
      refine wl_mv (.tmp 0) rfl rfl (ptr gd) rfl ?_
      simp only [Act.put, aS, aC, aZ]
      refine wl_nil (.tmp 57) rfl rfl ⟨gd, 0, none⟩ rfl ?_
      simp only [Act.put, aS, aC, aZ]
      refine wl_fld f40_2 (.tmp 58) rfl rfl gd 0 rfl ?_
      simp only [Act.put, aS, aC, aZ]
      refine wl_ld o37 (.tmp 59) rfl rfl gd (0 + 2) rfl (ptr gw) ((HI.out.dk.below R5.out.below).row.at 2 _ rfl) ?_
      simp only [Act.put, aS, aC, aZ]
      refine wl_mv (.tmp 5) rfl rfl u5 rfl ?_
      simp only [Act.put, aS, aC, aZ]
      refine wpList_callF eN49 [.tmp 60, .tmp 61] _ rfl rfl [(ptr gw), u5] rfl ?_
      refine (HFI.out W5 u5 R5.out.below R5.out.own.rows).mono ?_
      rintro e W6 ⟨rfl, b6⟩
      refine ⟨_, rfl, ?_⟩
      have R6 : Hid (Ap2 T w c t gd gw gop (opCells k N (.slice tp tn tc) (.slice kp kn kc)) D L u5 v6n us7 us1 Z1 W6) := ⟨R5.out.below.trans (b6.mono R5.out.below.size), R5.out.op.later b6 R5.out.op.lt, R5.out.gge, R5.out.own.kept b6.size fun b hb => b6.block b (R5.out.own.lt b hb), R5.out.z, R5.out.next.below b6, R5.out.sl6⟩
      clear b6
      simp only [Act.put, aS, aC, aZ]
      refine wl_as (.tmp 62) rfl rfl (.bool fb) rfl ?_
      simp only [Act.put, aS, aC, aZ]
      refine wpList_nil ?_
      clear R5
      go_upto_region 12 with fail
      refine wp_region_lit ?_
      refine wl_mv (.tmp 0) rfl rfl (ptr gd) rfl ?_
      simp only [Act.put, aS, aC, aZ]
      refine wl_nil (.tmp 63) rfl rfl ⟨gd, 0, none⟩ rfl ?_
      simp only [Act.put, aS, aC, aZ]
      refine wl_fld f40_2 (.tmp 64) rfl rfl gd 0 rfl ?_
      simp only [Act.put, aS, aC, aZ]
      refine wl_ld o37 (.tmp 65) rfl rfl gd (0 + 2) rfl (ptr gw) ((HI.out.dk.below R6.out.below).row.at 2 _ rfl) ?_
      simp only [Act.put, aS, aC, aZ]
      refine wl_mv (.tmp 5) rfl rfl u5 rfl ?_
      simp only [Act.put, aS, aC, aZ]
      refine wpList_callF eN21 [.tmp 66, .tmp 67] _ rfl rfl [(ptr gw), u5] rfl ?_
      refine (HAD.out W6 u5 R6.out.below R6.out.own.rows).mono ?_
      rintro e W7 ⟨rfl, c7, q1, q2, q3, q4⟩
      refine ⟨_, rfl, ?_⟩
      have hF := R6.out.fin HI.out HNOW.out HO.out q1 q2 q3 q4 HSH.out
      have R7 : Hid (ApF T w c t gd gw g ds ts i n S D nv dims gop (opCells k N (.slice tp tn tc) (.slice kp kn kc)) (.slice tp tn tc) (.slice kp kn kc) L ks us M un v6n us7 Z1 c7 W7) := hF.1
      have RA : Hid (AccZ W7 Z1 u5 L us1 ∧ ∃ p n c, v6n = .slice p n c) := ⟨hF.2, R6.out.sl6⟩
      clear hF q1 q2 q3 q4
      simp only [Act.put, aS, aC, aZ]
      refine wl_as (.tmp 68) rfl rfl (.int .i64 er) rfl ?_
      simp only [Act.put, aS, aC, aZ]
      refine wpList_nil ?_
      clear R6
      obtain ⟨p5, n5, c5, h5⟩ := own_isSlice RA.out.1.own
      subst h5
      have hn5 : n5 = tn := by
        obtain ⟨p, cap, e, _⟩ := RA.out.1.rows
        injection e with _ e
        rw [e, HTN.out.1]
      subst hn5
      go_upto_region 13 with fail
      go_wp2_with fail
      simp only [Nat.zero_add]
      go_loopw [12] (fun vi W => ∃ q : Nat, vi = .int .i64 (q : Nat) ∧ q ≤ n5 ∧ Ch (fun b => ∃ j, j < q ∧ (us1.getD j undef).ownBlock = some b) W7 W) (fun vi _ => n5 - (intOf vi).toNat)
      case atStart => exact ⟨0, rfl, Nat.zero_le _, Ch.refl _ _⟩
      case round =>
        obtain ⟨q, rfl, hq, hI⟩ := hrel
        have HP : Hid (Ch (fun b => ∃ j, j < q ∧ (us1.getD j undef).ownBlock = some b) W7 wr) := hI
        have HPZ : Hid (Ch Z1 W7 wr) := hI.mono fun b _ e => by obtain ⟨j, h1, h2⟩ := e; exact (RA.out.1.uz j (by have := HTN.out.1; omega) b h2).1
        clear hI
        by_cases hlt : q < n5
        · have t1 : decide ((q : Int) < (n5 : Int)) = true := decide_eq_true (by omega)
          have hqL : q < L.length := by rw [← HTN.out.1]; exact hlt
          obtain ⟨g5', hp5, hn5, hc5⟩ := RA.out.1.at q hqL
          obtain ⟨uq, huq⟩ : ∃ uq, uq = us1.getD q undef := ⟨_, rfl⟩
          have hBq := RA.out.1.row q hqL
          rw [← huq] at hc5 hBq
          have hne : ∀ b, b < W7.heap.size → (uq.ownBlock = some b ∨ (.slice p5 n5 c5 : Value).ownBlock = some b) → wr.heap[b]? = W7.heap[b]? := fun b hb e => HP.out.block b hb (fun hj => by
            obtain ⟨j, h1, h2⟩ := hj
            rcases e with e | e
            · rw [huq] at e
              exact RA.out.1.ap j q h1 hqL b h2 e
            · exact (RA.out.1.uz j (by omega) b h2).2 e)
          have hBq2 : BOwn wr 0 uq (L.getD q []) := ownK hBq fun b hb => hne b (World.ownsRow.lt hBq b hb).2 (Or.inl hb)
          obtain ⟨pq, cq, hsq, hrq⟩ := hBq2.parts
          obtain ⟨ln, hln⟩ : ∃ ln, ln = (L.getD q []).length := ⟨_, rfl⟩
          rw [← hln] at hsq hrq
          have hslq : SliceIn wr uq (L.getD q []) := BOwn.slice hBq2 (RA.out.1.byt _ (getD_mem hqL)) (by have := HTN.out.2.2.1 _ (getD_mem (d := []) hqL); omega)
          have hcw : wr.cell? ⟨g5', 0 + q, none⟩ = some uq := by rw [← hc5]; exact World.cell?_of_block (hne g5' (block_lt_of_cell hc5) (Or.inr (by rw [hp5]; rfl)))
          have hF := R7.out.spoilt HPZ.out
          obtain ⟨b, off, xv, htp, hcx, hx⟩ := hF.tx.now.at q hqL
          have HQ : Hid (wr.cell? ⟨g5', 0 + q, none⟩ = some uq ∧ SliceIn wr uq (L.getD q []) ∧ wr.cell? ⟨gop, 0 + 2, none⟩ = some (.slice tp n5 tc) ∧ wr.cell? ⟨b, off + q, none⟩ = some xv ∧ SliceIn wr xv (L.getD q [])) := ⟨hcw, hslq, hF.op.at 2 _ rfl, hcx, hx⟩
          have HX : Hid (p5 = some ⟨g5', 0, none⟩ ∧ tp = some ⟨b, off, none⟩ ∧ uq = us1.getD q undef ∧ uq = .slice pq ln cq ∧ (L.getD q [] = [] ∨ ∃ g cur, pq = some ⟨g, 0, none⟩ ∧ uq.ownBlock = some g ∧ Row wr g 5 cur ∧ ln ≤ cur.length) ∧ ln = (L.getD q []).length) := ⟨hp5, htp, huq, hsq, hrq, hln⟩
          obtain ⟨sq, hsq'⟩ : ∃ sq, sq = strOfNums ((L.getD q []).map Int.ofNat) := ⟨_, rfl⟩
          have HSQ : Hid (sq = strOfNums ((L.getD q []).map Int.ofNat)) := hsq'
          have hlnb : ln ≤ 100000000 := by rw [hln]; exact HTN.out.2.2.1 _ (getD_mem hqL)
          clear hqL hp5 hn5 hc5 huq hBq hne hBq2 hsq hrq hln hslq hcw hF htp hcx hx hsq'
          go_upto_region 16 with (refine wl_sl sl30 (.tmp 70) rfl rfl p5 n5 c5 rfl ?_)
          refine wp_region_held (S := fun X => X.cell? ⟨g5', 0 + q, none⟩ = some uq ∧ SliceIn X uq (L.getD q []) ∧ X.cell? ⟨gop, 0 + 2, none⟩ = some (.slice tp n5 tc) ∧ X.cell? ⟨b, off + q, none⟩ = some xv ∧ SliceIn X xv (L.getD q [])) (by kernel_rfl) ?_
          show wpAnyH _ _ _ _ _ 12 (Array.replicate 12 false) _ _
          obtain ⟨X, hX⟩ : ∃ X : World, X = { wr with drawn := wr.drawn + 1 } := ⟨_, rfl⟩
          rw [← hX]
          have hbX : Below wr.heap.size wr X := by rw [hX]; exact ⟨rfl, rfl, rfl, Nat.le_refl _, fun _ _ => rfl⟩
          have hS0 : X.cell? ⟨g5', 0 + q, none⟩ = some uq ∧ SliceIn X uq (L.getD q []) ∧ X.cell? ⟨gop, 0 + 2, none⟩ = some (.slice tp n5 tc) ∧ X.cell? ⟨b, off + q, none⟩ = some xv ∧ SliceIn X xv (L.getD q []) := ⟨by rw [← HQ.out.1]; exact World.cell?_of_block (hbX.block _ (block_lt_of_cell HQ.out.1)), HQ.out.2.1.later hbX, by rw [← HQ.out.2.2.1]; exact World.cell?_of_block (hbX.block _ (block_lt_of_cell HQ.out.2.2.1)), by rw [← HQ.out.2.2.2.1]; exact World.cell?_of_block (hbX.block _ (block_lt_of_cell HQ.out.2.2.2.1)), HQ.out.2.2.2.2.later hbX⟩
          have HbX : Hid (Below wr.heap.size wr X) := hbX
          clear hX hbX
          refine takeH (i := 0) (some 75) rfl rfl (by kernel_rfl) (by kernel_rfl) (by kernel_rfl) (fun _ _ _ h => h) (gMove rfl (.tmp 5) rfl (.slice p5 n5 c5) rfl) hS0 ?_
          simp only [Act.put, aS, aC, aZ]
          refine takeH (i := 1) (some 76) rfl rfl (by kernel_rfl) (by kernel_rfl) (by kernel_rfl) (fun _ _ _ h => h) (gMove rfl (.tmp 12) rfl (.int .i64 (q : Nat)) rfl) hS0 ?_
          simp only [Act.put, aS, aC, aZ]
          refine takeH (i := 2) (some 77) rfl rfl (by kernel_rfl) (by kernel_rfl) (by kernel_rfl) (fun _ _ _ h => h) (gIx rfl (.tmp 75) (.tmp 76) rfl (.slice p5 n5 c5) (.pointer (some ⟨g5', 0 + q, none⟩)) (.int .i64 (q : Nat)) rfl rfl (fun w' => by rw [HX.out.1]; exact idx30 g5' 0 n5 c5 q hlt w')) hS0 ?_
          simp only [Act.put, aS, aC, aZ]
          refine takeH (i := 3) (some 78) rfl rfl (by kernel_rfl) (by kernel_rfl) (by kernel_rfl) (fun _ _ _ h => h) (gLoad o51 rfl (.tmp 77) rfl g5' (0 + q) rfl uq (fun _ h => h.1)) hS0 ?_
          simp only [Act.put, aS, aC, aZ]
          refine takeH (i := 4) (some 79) rfl rfl (by kernel_rfl) (by kernel_rfl) (by kernel_rfl) (fun _ _ _ h => h) (gRun rfl (.string sq) fun X h => by rw [HSQ.out]; simp [execOp, Act.eval, run_bstring h.2.1]) hS0 ?_
          simp only [Act.put, aS, aC, aZ]
          refine takeH (i := 5) (some 80) rfl rfl (by kernel_rfl) (by kernel_rfl) (by kernel_rfl) (fun _ _ _ h => h) (gField f33_2 rfl (.tmp 3) rfl gop 0 rfl) hS0 ?_
          simp only [Act.put, aS, aC, aZ]
          refine takeH (i := 6) (some 81) rfl rfl (by kernel_rfl) (by kernel_rfl) (by kernel_rfl) (fun _ _ _ h => h) (gLoad o30 rfl (.tmp 80) rfl gop (0 + 2) rfl (.slice tp n5 tc) (fun _ h => h.2.2.1)) hS0 ?_
          simp only [Act.put, aS, aC, aZ]
          refine takeH (i := 7) (some 82) rfl rfl (by kernel_rfl) (by kernel_rfl) (by kernel_rfl) (fun _ _ _ h => h) (gMove rfl (.tmp 12) rfl (.int .i64 (q : Nat)) rfl) hS0 ?_
          simp only [Act.put, aS, aC, aZ]
          refine takeH (i := 8) (some 83) rfl rfl (by kernel_rfl) (by kernel_rfl) (by kernel_rfl) (fun _ _ _ h => h) (gIx rfl (.tmp 81) (.tmp 82) rfl (.slice tp n5 tc) (.pointer (some ⟨b, off + q, none⟩)) (.int .i64 (q : Nat)) rfl rfl (fun w' => by rw [HX.out.2.1]; exact idx30 b off n5 tc q hlt w')) hS0 ?_
          simp only [Act.put, aS, aC, aZ]
          refine takeH (i := 9) (some 84) rfl rfl (by kernel_rfl) (by kernel_rfl) (by kernel_rfl) (fun _ _ _ h => h) (gLoad o51 rfl (.tmp 83) rfl b (off + q) rfl xv (fun _ h => h.2.2.2.1)) hS0 ?_
          simp only [Act.put, aS, aC, aZ]
          refine takeH (i := 10) (some 85) rfl rfl (by kernel_rfl) (by kernel_rfl) (by kernel_rfl) (fun _ _ _ h => h) (gRun rfl (.string sq) fun X h => by rw [HSQ.out]; simp [execOp, Act.eval, run_bstring h.2.2.2.2]) hS0 ?_
          simp only [Act.put, aS, aC, aZ]
          refine takeH (i := 11) (some 86) rfl rfl (by kernel_rfl) (by kernel_rfl) (by kernel_rfl) (fun _ _ _ h => h) (gSne rfl (.tmp 79) (.tmp 85) rfl sq rfl rfl) hS0 ?_
          simp only [Act.put, aS, aC, aZ]
          clear hS0
          refine wpAnyH_done (by kernel_rfl) ?_ _
          have HU : Hid (Ch (fun b => ∃ j, j < q + 1 ∧ (us1.getD j undef).ownBlock = some b) W7 X ∧ X.cell? ⟨g5', 0 + q, none⟩ = some uq ∧ (ln = 0 ∨ ∃ g cur, pq = some ⟨g, 0, none⟩ ∧ uq.ownBlock = some g ∧ Row X g 5 cur ∧ ln ≤ cur.length)) := by
            refine ⟨(HP.out.mono fun b _ e => by obtain ⟨j, h1, h2⟩ := e; exact ⟨j, by omega, h2⟩).trans (Ch.of_below HbX.out), by rw [← HQ.out.1]; exact World.cell?_of_block (HbX.out.block _ (block_lt_of_cell HQ.out.1)), ?_⟩
            rcases HX.out.2.2.2.2.1 with e | ⟨g, cur, e1, e2, e3, e4⟩
            · left; rw [HX.out.2.2.2.2.2, e]; rfl
            · exact Or.inr ⟨g, cur, e1, e2, e3.later HbX.out e3.lt, e4⟩
          clear HbX HQ HSQ HP HPZ
          go_upto_region 18 with fail
          go_wp2_with fail
          simp only [Nat.zero_add]
          rename World => WX
          go_loopw [13] (fun vj W => ∃ j : Nat, vj = .int .i64 (j : Nat) ∧ j ≤ ln ∧ Ch (fun b => ∃ j, j < q + 1 ∧ (us1.getD j undef).ownBlock = some b) W7 W ∧ W.cell? ⟨g5', 0 + q, none⟩ = some uq ∧ (ln = 0 ∨ ∃ g cur, pq = some ⟨g, 0, none⟩ ∧ uq.ownBlock = some g ∧ Row W g 5 cur ∧ ln ≤ cur.length)) (fun vj _ => ln - (intOf vj).toNat)
          case atStart => exact ⟨0, rfl, Nat.zero_le _, HU.out.1, HU.out.2.1, HU.out.2.2⟩
          case round =>
            obtain ⟨j, rfl, hj, hI1, hI2, hI3⟩ := hrel
            have HJ : Hid (Ch (fun b => ∃ j, j < q + 1 ∧ (us1.getD j undef).ownBlock = some b) W7 wr ∧ wr.cell? ⟨g5', 0 + q, none⟩ = some uq) := ⟨hI1, hI2⟩
            by_cases hjl : j < ln
            · have t2 : decide ((j : Int) < (ln : Int)) = true := decide_eq_true (by omega)
              obtain ⟨gq, cur, hg1, hg2, hg3, hg4⟩ : ∃ g cur, pq = some ⟨g, 0, none⟩ ∧ uq.ownBlock = some g ∧ Row wr g 5 cur ∧ ln ≤ cur.length := by
                rcases hI3 with e | e
                · omega
                · exact e
              have HG : Hid (pq = some ⟨gq, 0, none⟩ ∧ uq.ownBlock = some gq ∧ Row wr gq 5 cur ∧ ln ≤ cur.length) := ⟨hg1, hg2, hg3, hg4⟩
              have HUQ : Hid (uq = .slice (some ⟨gq, 0, none⟩) ln cq) := by show _ = _; rw [HX.out.2.2.2.1, hg1]
              have k1 := hI2
              clear hI1 hI2 hI3 hg1 hg2 hg3 hg4
              go_upto_region 21 with (first
                | (refine wl_ix (.tmp 88) (.tmp 89) rfl rfl (.slice p5 n5 c5) (.pointer (some ⟨g5', 0 + q, none⟩)) (.int .i64 (q : Nat)) rfl rfl (fun w' => by rw [HX.out.1]; exact idx30 g5' 0 n5 c5 q hlt w') ?_)
                | (refine wl_ld o51 (.tmp 90) rfl rfl g5' (0 + q) rfl uq HJ.out.2 ?_)
                | (refine wl_sl sl51 (.tmp 91) rfl rfl (some ⟨gq, 0, none⟩) ln cq HUQ.out ?_))
              clear k1
              refine wp_region_lit ?_
              refine wl_mv (.tmp 5) rfl rfl (.slice p5 n5 c5) rfl ?_
              simp only [Act.put, aS, aC, aZ]
              refine wl_mv (.tmp 12) rfl rfl (.int .i64 (q : Nat)) rfl ?_
              simp only [Act.put, aS, aC, aZ]
              refine wl_ix (.tmp 96) (.tmp 97) rfl rfl (.slice p5 n5 c5) (.pointer (some ⟨g5', 0 + q, none⟩)) (.int .i64 (q : Nat)) rfl rfl (fun w' => by rw [HX.out.1]; exact idx30 g5' 0 n5 c5 q hlt w') ?_
              simp only [Act.put, aS, aC, aZ]
              refine wl_ld o51 (.tmp 98) rfl rfl g5' (0 + q) rfl uq HJ.out.2 ?_
              simp only [Act.put, aS, aC, aZ]
              refine wl_mv (.tmp 13) rfl rfl (.int .i64 (j : Nat)) rfl ?_
              simp only [Act.put, aS, aC, aZ]
              refine wl_ix (.tmp 99) (.tmp 100) rfl rfl uq (.pointer (some ⟨gq, 0 + j, none⟩)) (.int .i64 (j : Nat)) rfl rfl (fun w' => by rw [HUQ.out]; exact idx51 gq 0 ln cq j hjl w') ?_
              simp only [Act.put, aS, aC, aZ]
              refine wl_put s5 (.tmp 101) (.const (.int .u8 99)) rfl rfl rfl gq (0 + j) 5 cur rfl (.int .u8 99) rfl ⟨rfl, rfl⟩ HG.out.2.2.1 (by have := HG.out.2.2.2; omega) ?_
              refine wpList_nil ?_
              obtain ⟨wj, hwj⟩ : ∃ wj, wj = wr.setCell ⟨gq, 0 + j, none⟩ (.int .u8 99) := ⟨_, rfl⟩
              rw [← hwj]
              have R9 : Hid (Ch (fun b => ∃ j, j < q + 1 ∧ (us1.getD j undef).ownBlock = some b) W7 wj ∧ wj.cell? ⟨g5', 0 + q, none⟩ = some uq ∧ (ln = 0 ∨ ∃ g cur, pq = some ⟨g, 0, none⟩ ∧ uq.ownBlock = some g ∧ Row wj g 5 cur ∧ ln ≤ cur.length)) := by
                have hin : ∃ j, j < q + 1 ∧ (us1.getD j undef).ownBlock = some gq := ⟨q, by omega, by rw [← HX.out.2.2.1]; exact HG.out.2.1⟩
                have hne : g5' ≠ gq := fun e => by
                  have h1 := (RA.out.1.uz q (by have := HTN.out.1; omega) gq (by rw [← HX.out.2.2.1]; exact HG.out.2.1)).2
                  exact h1 (by rw [HX.out.1, e]; rfl)
                refine ⟨by rw [hwj]; exact HJ.out.1.setCell (Or.inl hin) _ _, ?_, Or.inr ⟨gq, cur.set (0 + j) (.int .u8 99), HG.out.1, HG.out.2.1, by rw [hwj]; exact row_cell' HG.out.2.2.1 _, by rw [List.length_set]; exact HG.out.2.2.2⟩⟩
                rw [hwj, ← HJ.out.2]
                exact World.cell?_of_block (Below.heap_setCell wr _ _ g5' hne)
              clear hwj
              go_wp2_with fail
              refine ⟨⟨j + 1, by go_num, by omega, R9.out.1, R9.out.2.1, R9.out.2.2⟩, ?_⟩
              simp [intOf]; omega
            · obtain rfl : ln = j := by omega
              have t2 : decide ((ln : Int) < (ln : Int)) = false := decide_eq_false (by omega)
              clear hI3 hI1
              have k1 := hI2
              clear hI2
              go_wp2_with (first
                | (refine wl_ix (.tmp 88) (.tmp 89) rfl rfl (.slice p5 n5 c5) (.pointer (some ⟨g5', 0 + q, none⟩)) (.int .i64 (q : Nat)) rfl rfl (fun w' => by rw [HX.out.1]; exact idx30 g5' 0 n5 c5 q hlt w') ?_)
                | (refine wl_ld o51 (.tmp 90) rfl rfl g5' (0 + q) rfl uq HJ.out.2 ?_)
                | (refine wl_sl sl51 (.tmp 91) rfl rfl pq ln cq HX.out.2.2.2.1 ?_))
              refine ⟨⟨q + 1, by go_num, by omega, HJ.out.1⟩, ?_⟩
              simp [intOf]; omega
        · obtain rfl : n5 = q := by omega
          have t1 : decide ((n5 : Int) < (n5 : Int)) = false := decide_eq_false (by omega)
          have R8 : Hid (ApF T w c t gd gw g ds ts i n S D nv dims gop (opCells k N (.slice tp n5 tc) (.slice kp kn kc)) (.slice tp n5 tc) (.slice kp kn kc) L ks us M un v6n us7 Z1 c7 wr) := R7.out.spoilt HPZ.out
          clear HP HPZ R7 hq
          go_upto_region 22 with (refine wl_sl sl30 (.tmp 70) rfl rfl p5 n5 c5 rfl ?_)
          refine wp_region_held (S := fun X => Row X gd 38 (dkCells g i (ptr gw) nv (costs D) n dims) ∧ Row X gop 31 (opCells k N (.slice tp n5 tc) (.slice kp kn kc))) (by kernel_rfl) ?_
          show wpAnyH _ _ _ _ _ 15 (Array.replicate 15 false) _ _
          obtain ⟨X, hX⟩ : ∃ X : World, X = { wr with drawn := wr.drawn + 1 } := ⟨_, rfl⟩
          rw [← hX]
          have hbX : Below wr.heap.size wr X := by rw [hX]; exact ⟨rfl, rfl, rfl, Nat.le_refl _, fun _ _ => rfl⟩
          have RX : Hid (ApF T w c t gd gw g ds ts i n S D nv dims gop (opCells k N (.slice tp n5 tc) (.slice kp kn kc)) (.slice tp n5 tc) (.slice kp kn kc) L ks us M un v6n us7 Z1 c7 X) := R8.out.spoilt (Ch.of_below hbX)
          have hS0 : Row X gd 38 (dkCells g i (ptr gw) nv (costs D) n dims) ∧ Row X gop 31 (opCells k N (.slice tp n5 tc) (.slice kp kn kc)) := ⟨RX.out.dk.row, RX.out.op⟩
          clear hX hbX R8
          refine takeH (i := 0) (some 102) rfl rfl (by kernel_rfl) (by kernel_rfl) (by kernel_rfl) (fun _ _ _ h => h) (gMove rfl (.tmp 0) rfl (ptr gd) rfl) hS0 ?_
          simp only [Act.put, aS, aC, aZ]
          refine takeH (i := 1) (some 103) rfl rfl (by kernel_rfl) (by kernel_rfl) (by kernel_rfl) (fun _ _ _ h => h) (nilOp rfl (.tmp 102) rfl ⟨gd, 0, none⟩ rfl) hS0 ?_
          simp only [Act.put, aS, aC, aZ]
          refine takeH (i := 2) (some 104) rfl rfl (by kernel_rfl) (by kernel_rfl) (by kernel_rfl) (fun _ _ _ h => h) (gField f40_4 rfl (.tmp 103) rfl gd 0 rfl) hS0 ?_
          simp only [Act.put, aS, aC, aZ]
          refine takeH (i := 3) (some 105) rfl rfl (by kernel_rfl) (by kernel_rfl) (by kernel_rfl) (fun _ _ _ h => h) (gLoad o3' rfl (.tmp 104) rfl gd (0 + 4) rfl (.int .i64 (costs D : Nat)) (fun _ h => (h.1.at 4 _ rfl))) hS0 ?_
          simp only [Act.put, aS, aC, aZ]
          refine takeH (i := 4) (some 106) rfl rfl (by kernel_rfl) (by kernel_rfl) (by kernel_rfl) (fun _ _ _ h => h) (gField f33_2 rfl (.tmp 3) rfl gop 0 rfl) hS0 ?_
          simp only [Act.put, aS, aC, aZ]
          refine takeH (i := 5) (some 107) rfl rfl (by kernel_rfl) (by kernel_rfl) (by kernel_rfl) (fun _ _ _ h => h) (gLoad o30 rfl (.tmp 106) rfl gop (0 + 2) rfl (.slice tp n5 tc) (fun _ h => (h.2.at 2 _ rfl))) hS0 ?_
          simp only [Act.put, aS, aC, aZ]
          refine takeH (i := 8) (some 110) rfl rfl (by kernel_rfl) (by kernel_rfl) (by kernel_rfl) (fun _ _ _ h => h) (gMove rfl (.tmp 0) rfl (ptr gd) rfl) hS0 ?_
          simp only [Act.put, aS, aC, aZ]
          refine takeH (i := 9) (some 111) rfl rfl (by kernel_rfl) (by kernel_rfl) (by kernel_rfl) (fun _ _ _ h => h) (nilOp rfl (.tmp 110) rfl ⟨gd, 0, none⟩ rfl) hS0 ?_
          simp only [Act.put, aS, aC, aZ]
          refine takeH (i := 10) (some 112) rfl rfl (by kernel_rfl) (by kernel_rfl) (by kernel_rfl) (fun _ _ _ h => h) (gField f40_5 rfl (.tmp 111) rfl gd 0 rfl) hS0 ?_
          simp only [Act.put, aS, aC, aZ]
          refine takeH (i := 11) (some 113) rfl rfl (by kernel_rfl) (by kernel_rfl) (by kernel_rfl) (fun _ _ _ h => h) (gLoad o3' rfl (.tmp 112) rfl gd (0 + 5) rfl (.int .i64 (n : Nat)) (fun _ h => (h.1.at 5 _ rfl))) hS0 ?_
          simp only [Act.put, aS, aC, aZ]
          refine takeH (i := 12) (some 114) rfl rfl (by kernel_rfl) (by kernel_rfl) (by kernel_rfl) (fun _ _ _ h => h) (gSubN rfl (.tmp 113) rfl n (by have := HSM.out.2.2.1; omega) rfl) hS0 ?_
          simp only [Act.put, aS, aC, aZ]
          clear hS0
          refine oneH (i := 6) (by kernel_rfl) ?_
          refine opCallA (some 108) rfl rfl rfl 42 _ (run_call eN54 [.tmp 107] _ rfl [(.slice tp n5 tc)] rfl) ?_
          refine (cost_any X (.slice tp n5 tc) L RX.out.tx.now HTN.out.2.2.2).mono ?_
          rintro e X2 ⟨rfl, hX2⟩
          subst hX2
          refine ⟨_, rfl, ?_⟩
          have hS1 : Row X gd 38 (dkCells g i (ptr gw) nv (costs D) n dims) ∧ Row X gop 31 (opCells k N (.slice tp n5 tc) (.slice kp kn kc)) := ⟨RX.out.dk.row, RX.out.op⟩
          refine ⟨hS1, ?_⟩
          simp only [Act.put, aS, aC, aZ]
          refine takeH (i := 7) (some 109) rfl rfl (by kernel_rfl) (by kernel_rfl) (by kernel_rfl) (fun _ _ _ h => h) (gAddN rfl (.tmp 105) (.tmp 108) rfl (costs D) (costOf L) (by have := HSM.out.2.1; omega) (by have := HSM.out.2.2.2.2.1; omega) rfl rfl) hS1 ?_
          simp only [Act.put, aS, aC, aZ]
          refine takeH (i := 13) (some 115) rfl rfl (by kernel_rfl) (by kernel_rfl) (by kernel_rfl) (fun _ _ _ h => h) (gLeqI rfl (.tmp 109) (.tmp 114) rfl ((costs D + costOf L : Nat) : Int) ((n : Int) - 4) rfl rfl) hS1 ?_
          simp only [Act.put, aS, aC, aZ]
          obtain ⟨rm, hrm⟩ : ∃ rm, rm = decide (((costs D + costOf L : Nat) : Int) ≤ (n : Int) - 4) := ⟨_, rfl⟩
          have HRM : Hid (rm = decide (((costs D + costOf L : Nat) : Int) ≤ (n : Int) - 4)) := hrm
          rw [← hrm]
          clear hrm
          refine takeH (i := 14) (some 14) rfl rfl (by kernel_rfl) (by kernel_rfl) (by kernel_rfl) (fun _ _ _ h => h) (gAssign rfl (.tmp 115) rfl (.bool rm) rfl) hS1 ?_
          simp only [Act.put, aS, aC, aZ]
          clear hS1
          refine wpAnyH_done (by kernel_rfl) ?_ _
          rcases HC.out with ⟨hl, hf, he⟩ | ⟨hl, hf, he, hr⟩ | ⟨hl, hf, M2, un2, he, hj, hrl, hs⟩ | ⟨hl, hf, M2, he, hof, hrl, hs, hb⟩
          · subst hl hf
            injection he with h1 h2
            injection h2 with h2 h3
            subst h1 h2 h3
            have HD : Hid (Done T w c t gd gw g M ds ts i n dims X c7 gw M S un D nv dims) := RX.out.done HI.out.ne HI.out.jo (Rel.refl M i) (by omega)
            go_wp2_with fail
            rw [HPQ.out]
            exact ⟨rfl, c7, gw, M, S, un, D, nv, dims, HD.out⟩
          · subst hl hf
            injection he with h1 h2
            injection h2 with h2 h3
            subst h1 h2 h3
            have hrm : rm = false := by rw [HRM.out]; exact decide_eq_false (by have := HSM.out.2.2.2.2.2; omega)
            subst hrm
            clear hr
            have HD : Hid (Done T w c t gd gw g M ds ts i n dims X c7 gw M S un D nv dims) := RX.out.done HI.out.ne HI.out.jo (Rel.refl M i) (by omega)
            go_wp2_with fail
            rw [HPQ.out]
            exact ⟨rfl, c7, gw, M, S, un, D, nv, dims, HD.out⟩
          · subst hl hf
            injection he with h1 h2
            injection h2 with h2 h3
            subst h1 h2 h3
            have HJ : Hid (Jo M i n S un (D ++ [L]) ∧ Rel m M i ∧ M.steps ≤ m.steps + 100) := ⟨hj, hrl, hs⟩
            clear hj hrl hs
            go_upto_region 31 with fail
            refine wp_region_lit ?_
            refine wl_mv (.tmp 0) rfl rfl (ptr gd) rfl ?_
            simp only [Act.put, aS, aC, aZ]
            refine wl_mv (.tmp 6) rfl rfl v6n rfl ?_
            simp only [Act.put, aS, aC, aZ]
            refine wl_nil (.tmp 157) rfl rfl ⟨gd, 0, none⟩ rfl ?_
            simp only [Act.put, aS, aC, aZ]
            refine wl_fld f40_3 (.tmp 159) rfl rfl gd 0 rfl ?_
            simp only [Act.put, aS, aC, aZ]
            refine wl_put s38 (.tmp 160) (.tmp 158) rfl rfl rfl gd (0 + 3) 38 (dkCells g i (ptr gw) nv (costs D) n dims) rfl v6n rfl (by obtain ⟨p, q, r, e⟩ := RA.out.2; rw [e]; exact ⟨rfl, rfl⟩) RX.out.dk.row (show 0 + 3 < 7 by decide) ?_
            refine wpList_nil ?_
            obtain ⟨w9, hw9⟩ : ∃ w9, w9 = X.setCell ⟨gd, 0 + 3, none⟩ v6n := ⟨_, rfl⟩
            have hset := RX.out.dk.set (0 + 3) v6n (wv' := ptr gw) (nv' := v6n) (cost' := costs D) (dims' := dims) rfl RX.out.dk.dim
            rw [← hw9] at hset
            rw [← hw9]
            have R9 : Hid (Dk T w9 c7 t gd g M ds ts i n (ptr gw) v6n (costs D) dims ∧ Ch (· = gd) X w9 ∧ Row w9 gop 31 (opCells k N (.slice tp n5 tc) (.slice kp kn kc)) ∧ RowsIn w9 (.slice tp n5 tc) L ∧ WalAt w9 c7 t gw g (i : Int) S un ∧ Rob (Fr3 T c7 t gd gw) (fun W => TxsC W v6n (D ++ [L]) us7) w9) := by
              have hz9 : X.heap.size ≤ w9.heap.size := hset.2.size
              refine ⟨hset.1, hset.2, hset.2.row (by have := RX.out.gge; have := RX.out.lts.1; omega) RX.out.op, (RX.out.tx.kept hz9 fun b hb hp => hset.2.block b hb hp.1.2.1).now, ⟨hset.2.row (fun e => HI.out.ne e.symm) RX.out.wal.row, RX.out.wal.ap, hset.1.tab, RX.out.wal.tap⟩, ?_⟩
              exact RX.out.next.next hz9 fun b hb hp => ⟨hset.2.block b hb hp.1.2.1, hp.1⟩
            clear hset hw9
            go_upto_region 32 with fail
            refine wp_region_until (S := fun X => Row X gd 38 (dkCells g i (ptr gw) v6n (costs D) n dims) ∧ Row X gop 31 (opCells k N (.slice tp n5 tc) (.slice kp kn kc))) 11 (by kernel_rfl) ?_
            show wpAnyU _ _ _ _ _ _ 12 (Array.replicate 12 false) _ _
            obtain ⟨Y, hX⟩ : ∃ Y : World, Y = { w9 with drawn := w9.drawn + 1 } := ⟨_, rfl⟩
            rw [← hX]
            have hbX : Below w9.heap.size w9 Y := by rw [hX]; exact ⟨rfl, rfl, rfl, Nat.le_refl _, fun _ _ => rfl⟩
            have RY : Hid (Dk T Y c7 t gd g M ds ts i n (ptr gw) v6n (costs D) dims ∧ Row Y gop 31 (opCells k N (.slice tp n5 tc) (.slice kp kn kc)) ∧ RowsIn Y (.slice tp n5 tc) L ∧ Below w9.heap.size w9 Y) := ⟨R9.out.1.below hbX, R9.out.2.2.1.later hbX R9.out.2.2.1.lt, R9.out.2.2.2.1.later hbX, hbX⟩
            have hS0 : Row Y gd 38 (dkCells g i (ptr gw) v6n (costs D) n dims) ∧ Row Y gop 31 (opCells k N (.slice tp n5 tc) (.slice kp kn kc)) := ⟨RY.out.1.row, RY.out.2.1⟩
            clear hbX
            clear hX
            refine takeV (i := 0) [11] (some 161) rfl rfl (by kernel_rfl) (by kernel_rfl) (by kernel_rfl) (by kernel_rfl) (fun _ _ _ h => h) (gMove rfl (.tmp 0) rfl (ptr gd) rfl) hS0 ?_
            simp only [Act.put, aS, aC, aZ]
            refine takeV (i := 1) [11] (some 162) rfl rfl (by kernel_rfl) (by kernel_rfl) (by kernel_rfl) (by kernel_rfl) (fun _ _ _ h => h) (gMove rfl (.tmp 0) rfl (ptr gd) rfl) hS0 ?_
            simp only [Act.put, aS, aC, aZ]
            refine takeV (i := 2) [11] (some 163) rfl rfl (by kernel_rfl) (by kernel_rfl) (by kernel_rfl) (by kernel_rfl) (fun _ _ _ h => h) (nilOp rfl (.tmp 162) rfl ⟨gd, 0, none⟩ rfl) hS0 ?_
            simp only [Act.put, aS, aC, aZ]
            refine takeV (i := 3) [11] (some 164) rfl rfl (by kernel_rfl) (by kernel_rfl) (by kernel_rfl) (by kernel_rfl) (fun _ _ _ h => h) (gField f40_4 rfl (.tmp 163) rfl gd 0 rfl) hS0 ?_
            simp only [Act.put, aS, aC, aZ]
            refine takeV (i := 4) [11] (some 165) rfl rfl (by kernel_rfl) (by kernel_rfl) (by kernel_rfl) (by kernel_rfl) (fun _ _ _ h => h) (gLoad o3' rfl (.tmp 164) rfl gd (0 + 4) rfl (.int .i64 (costs D : Nat)) (fun _ h => (h.1.at 4 _ rfl))) hS0 ?_
            simp only [Act.put, aS, aC, aZ]
            refine takeV (i := 5) [11] (some 166) rfl rfl (by kernel_rfl) (by kernel_rfl) (by kernel_rfl) (by kernel_rfl) (fun _ _ _ h => h) (gField f33_2 rfl (.tmp 3) rfl gop 0 rfl) hS0 ?_
            simp only [Act.put, aS, aC, aZ]
            refine takeV (i := 6) [11] (some 167) rfl rfl (by kernel_rfl) (by kernel_rfl) (by kernel_rfl) (by kernel_rfl) (fun _ _ _ h => h) (gLoad o30 rfl (.tmp 166) rfl gop (0 + 2) rfl (.slice tp n5 tc) (fun _ h => (h.2.at 2 _ rfl))) hS0 ?_
            simp only [Act.put, aS, aC, aZ]
            clear hS0
            refine oneU (i := 7) (by kernel_rfl) ?_
            refine opCallA (some 168) rfl rfl rfl 42 _ (run_call eN54 [.tmp 167] _ rfl [(.slice tp n5 tc)] rfl) ?_
            refine (cost_any Y (.slice tp n5 tc) L RY.out.2.2.1 HTN.out.2.2.2).mono ?_
            rintro e Y2 ⟨rfl, hY2⟩
            subst hY2
            refine ⟨_, rfl, ?_⟩
            have hS0 : Row Y gd 38 (dkCells g i (ptr gw) v6n (costs D) n dims) ∧ Row Y gop 31 (opCells k N (.slice tp n5 tc) (.slice kp kn kc)) := ⟨RY.out.1.row, RY.out.2.1⟩
            refine ⟨fun _ => hS0, ?_⟩
            simp only [Act.put, aS, aC, aZ]
            refine takeV (i := 8) [11] (some 169) rfl rfl (by kernel_rfl) (by kernel_rfl) (by kernel_rfl) (by kernel_rfl) (fun _ _ _ h => h) (gAddN rfl (.tmp 165) (.tmp 168) rfl (costs D) (costOf L) (by have := HSM.out.2.1; omega) (by have := HSM.out.2.2.2.2.1; omega) rfl rfl) hS0 ?_
            simp only [Act.put, aS, aC, aZ]
            refine takeV (i := 9) [10, 11] (some 170) rfl rfl (by kernel_rfl) (by kernel_rfl) (by kernel_rfl) (by kernel_rfl) (fun _ _ _ h => h) (nilOp rfl (.tmp 161) rfl ⟨gd, 0, none⟩ rfl) hS0 ?_
            simp only [Act.put, aS, aC, aZ]
            refine takeV (i := 10) [11] (some 171) rfl rfl (by kernel_rfl) (by kernel_rfl) (by kernel_rfl) (by kernel_rfl) (fun _ _ _ h => h) (gField f40_4 rfl (.tmp 170) rfl gd 0 rfl) hS0 ?_
            simp only [Act.put, aS, aC, aZ]
            clear hS0
            refine oneU (i := 11) (by kernel_rfl) ?_
            refine opSkipZ rfl rfl rfl _ (run_putRow s3 (.tmp 171) (.tmp 169) rfl gd (0 + 4) 38 (dkCells g i (ptr gw) v6n (costs D) n dims) rfl (.int .i64 ((costs D + costOf L : Nat) : Int)) rfl ⟨rfl, rfl⟩ RY.out.1.row (show 0 + 4 < 7 by decide)) ?_
            refine ⟨fun h => absurd (show true = false from h) (by decide), ?_⟩
            refine wpAnyU_done (by kernel_rfl) ?_ _
            obtain ⟨wz, hwz⟩ : ∃ wz, wz = Y.setCell ⟨gd, 0 + 4, none⟩ (.int .i64 ((costs D + costOf L : Nat) : Int)) := ⟨_, rfl⟩
            have hset := RY.out.1.set (0 + 4) (.int .i64 ((costs D + costOf L : Nat) : Int)) (wv' := ptr gw) (nv' := v6n) (cost' := costs D + costOf L) (dims' := dims) rfl RY.out.1.dim
            rw [← hwz] at hset
            rw [← hwz]
            have HD : Hid (Done T w c t gd gw g m ds ts i n dims wz c7 gw M S un (D ++ [L]) v6n dims) := by
              have hcg : Ch (· = gd) X wz := (R9.out.2.1.trans (Ch.of_below RY.out.2.2.2)).trans hset.2
              refine ⟨⟨by rw [costs_snoc]; exact hset.1, ⟨hcg.row (fun e => HI.out.ne e.symm) RX.out.wal.row, RX.out.wal.ap, hset.1.tab, RX.out.wal.tap⟩, HI.out.ne, HJ.out.1, us7, (R9.out.2.2.2.2.2.below RY.out.2.2.2).kept hset.2.size fun b hb hp => hset.2.block b hb hp.2.1⟩, RX.out.cc, ?_, Or.inl rfl, HJ.out.2.1, by have := HJ.out.2.2; omega, by omega⟩
              exact (RX.out.ch.mono fun b _ e => e.elim Or.inl (fun e => Or.inr (Or.inr e))).trans' (hcg.mono fun b _ e => Or.inr (Or.inl e)) fun b _ e => e
            clear hset hwz R9 RY
            go_wp2_with fail
            rw [HPQ.out]
            exact ⟨rfl, c7, gw, M, S, un, D ++ [L], v6n, dims, HD.out⟩
          · subst hl hf
            injection he with h1 h2
            injection h2 with h2 h3
            subst h1 h2 h3
            have HJ : Hid (M.on = false ∧ Rel m M i ∧ M.steps ≤ m.steps + 100 ∧ ∀ ks, Jc (M.boot ks) i n D ∨ Jc (M.boot ks) i n (D ++ [L])) := ⟨hof, hrl, hs, hb⟩
            clear hof hrl hs hb
            have HNV : Hid (∃ p n c, nv = .slice p n c) := by obtain ⟨p, cap, e, _⟩ := RX.out.now.now; exact ⟨p, _, cap, e⟩
            go_upto_region 29 with fail
            refine wp_region_until (S := fun X => Row X gd 38 (dkCells g i (ptr gw) nv (costs D) n dims) ∧ Row X gop 31 (opCells k N (.slice tp n5 tc) (.slice kp kn kc))) 15 (by kernel_rfl) ?_
            show wpAnyU _ _ _ _ _ _ 18 (Array.replicate 18 false) _ _
            obtain ⟨Y, hX⟩ : ∃ Y : World, Y = { X with drawn := X.drawn + 1 } := ⟨_, rfl⟩
            rw [← hX]
            have hbX : Below X.heap.size X Y := by rw [hX]; exact ⟨rfl, rfl, rfl, Nat.le_refl _, fun _ _ => rfl⟩
            have RY : Hid (ApF T w c t gd gw g ds ts i n S D nv dims gop (opCells k N (.slice tp n5 tc) (.slice kp kn kc)) (.slice tp n5 tc) (.slice kp kn kc) L ks us M un v6n us7 Z1 c7 Y) := RX.out.spoilt (Ch.of_below hbX)
            have hS0 : Row Y gd 38 (dkCells g i (ptr gw) nv (costs D) n dims) ∧ Row Y gop 31 (opCells k N (.slice tp n5 tc) (.slice kp kn kc)) := ⟨RY.out.dk.row, RY.out.op⟩
            clear hbX RX
            clear hX
            refine takeV (i := 0) [1, 2, 5, 15] (some 138) rfl rfl (by kernel_rfl) (by kernel_rfl) (by kernel_rfl) (by kernel_rfl) (fun _ _ _ h => h) (gMove rfl (.tmp 9) rfl (.bool false) rfl) hS0 ?_
            simp only [Act.put, aS, aC, aZ]
            refine takeV (i := 1) [2, 5, 15] (some 139) rfl rfl (by kernel_rfl) (by kernel_rfl) (by kernel_rfl) (by kernel_rfl) (fun _ _ _ h => h) (gRun rfl (.bool true) fun _ _ => by simp [execOp, Act.eval, go_sem]) hS0 ?_
            simp only [Act.put, aS, aC, aZ]
            refine takeV (i := 2) [5, 15] (some 140) rfl rfl (by kernel_rfl) (by kernel_rfl) (by kernel_rfl) (by kernel_rfl) (fun _ _ _ h => h) (gMove rfl (.tmp 139) rfl (.bool true) rfl) hS0 ?_
            simp only [Act.put, aS, aC, aZ]
            refine takeV (i := 3) [4, 5, 15] (some 141) rfl rfl (by kernel_rfl) (by kernel_rfl) (by kernel_rfl) (by kernel_rfl) (fun _ _ _ h => h) (gMove (by kernel_rfl) (.tmp 10) rfl (.bool true) rfl) hS0 ?_
            simp only [Act.put, aS, aC, aZ]
            refine takeV (i := 4) [5, 15] (some 142) rfl rfl (by kernel_rfl) (by kernel_rfl) (by kernel_rfl) (by kernel_rfl) (fun _ _ _ h => h) (gPick rfl (.tmp 140) (.tmp 141) (.const (.bool false)) rfl true (.bool true) rfl rfl) hS0 ?_
            simp only [Act.put, aS, aC, aZ]
            refine takeV (i := 5) [15] (some 143) rfl rfl (by kernel_rfl) (by kernel_rfl) (by kernel_rfl) (by kernel_rfl) (fun _ _ _ h => h) (gMove rfl (.tmp 142) rfl (.bool true) rfl) hS0 ?_
            simp only [Act.put, aS, aC, aZ]
            refine takeV (i := 6) [15] (some 144) rfl rfl (by kernel_rfl) (by kernel_rfl) (by kernel_rfl) (by kernel_rfl) (fun _ _ _ h => h) (gMove (by kernel_rfl) (.tmp 0) rfl (ptr gd) rfl) hS0 ?_
            simp only [Act.put, aS, aC, aZ]
            refine takeV (i := 7) [8, 15] (some 145) rfl rfl (by kernel_rfl) (by kernel_rfl) (by kernel_rfl) (by kernel_rfl) (fun _ _ _ h => h) (gField f33_3 (by kernel_rfl) (.tmp 3) rfl gop 0 rfl) hS0 ?_
            simp only [Act.put, aS, aC, aZ]
            refine takeV (i := 8) [15] (some 146) rfl rfl (by kernel_rfl) (by kernel_rfl) (by kernel_rfl) (by kernel_rfl) (fun _ _ _ h => h) (gLoad o31 (by kernel_rfl) (.tmp 145) rfl gop (0 + 3) rfl (.slice kp kn kc) (fun _ h => (h.2.at 3 _ rfl))) hS0 ?_
            simp only [Act.put, aS, aC, aZ]
            refine takeV (i := 9) [10, 11, 12, 14, 15] (some 147) rfl rfl (by kernel_rfl) (by kernel_rfl) (by kernel_rfl) (by kernel_rfl) (fun _ _ _ h => h) (gMove (by kernel_rfl) (.tmp 0) rfl (ptr gd) rfl) hS0 ?_
            simp only [Act.put, aS, aC, aZ]
            refine takeV (i := 10) [11, 12, 14, 15] (some 148) rfl rfl (by kernel_rfl) (by kernel_rfl) (by kernel_rfl) (by kernel_rfl) (fun _ _ _ h => h) (nilOp (by kernel_rfl) (.tmp 147) rfl ⟨gd, 0, none⟩ rfl) hS0 ?_
            simp only [Act.put, aS, aC, aZ]
            refine takeV (i := 11) [12, 14, 15] (some 149) rfl rfl (by kernel_rfl) (by kernel_rfl) (by kernel_rfl) (by kernel_rfl) (fun _ _ _ h => h) (gField f40_3 (by kernel_rfl) (.tmp 148) rfl gd 0 rfl) hS0 ?_
            simp only [Act.put, aS, aC, aZ]
            refine takeV (i := 12) [14, 15] (some 150) rfl rfl (by kernel_rfl) (by kernel_rfl) (by kernel_rfl) (by kernel_rfl) (fun _ _ _ h => h) (gLoad o38 (by kernel_rfl) (.tmp 149) rfl gd (0 + 3) rfl nv (fun _ h => (h.1.at 3 _ rfl))) hS0 ?_
            simp only [Act.put, aS, aC, aZ]
            refine takeV (i := 13) [14, 15] (some 151) rfl rfl (by kernel_rfl) (by kernel_rfl) (by kernel_rfl) (by kernel_rfl) (fun _ _ _ h => h) (gMove (by kernel_rfl) (.tmp 6) rfl v6n rfl) hS0 ?_
            simp only [Act.put, aS, aC, aZ]
            clear hS0
            refine oneU (i := 14) (by kernel_rfl) ?_
            refine opValueG (some 152) rfl rfl (by kernel_rfl) _ _ (run_lit41_2 (.tmp 150) (.tmp 151) rfl nv v6n HNV.out RA.out.2 rfl rfl) ?_
            obtain ⟨Y2, hY2⟩ : ∃ Y2, Y2 = Y.alloc (.cells #[nv, v6n] 36) := ⟨_, rfl⟩
            obtain ⟨gm, hgm⟩ : ∃ gm, gm = Y.heap.size := ⟨_, rfl⟩
            have hbY : Below Y.heap.size Y Y2 := by rw [hY2]; exact below_alloc Y _
            have hcg : (c7 Y.heap.size).1 ≠ t := RY.out.dk.live.2.2 _ (Nat.le_refl _)
            have hmay := may_new (w := Y) (P := Fr2 T c7 t gd) (l := [(nv, D, us), (v6n, D ++ [L], us7)]) (by
              intro x hx
              rcases List.mem_cons.1 hx with e | e
              · rw [e]; exact RY.out.now.next (Nat.le_refl _) fun b hb hp => ⟨rfl, hp.1.1, hp.1.2.1, hp.1.2.2.2⟩
              · rw [List.mem_singleton.1 e]; exact RY.out.next.next (Nat.le_refl _) fun b hb hp => ⟨rfl, hp.1.1, hp.1.2.1, hp.1.2.2.2⟩) (by simp) ⟨hcg, (by have := RY.out.dk.row.lt; omega), fun e => by have := RY.out.dk.str _ e; omega⟩
            have hmay2 : Rob (Fr2 T c7 t gd) (fun W => MayIn W (.slice (some ⟨gm, 0, none⟩) 2 2) [(nv, D, us), (v6n, D ++ [L], us7)]) Y2 := by rw [hY2, hgm]; exact hmay
            have RY2 : Hid (ApF T w c t gd gw g ds ts i n S D nv dims gop (opCells k N (.slice tp n5 tc) (.slice kp kn kc)) (.slice tp n5 tc) (.slice kp kn kc) L ks us M un v6n us7 Z1 c7 Y2 ∧ Rob (Fr2 T c7 t gd) (fun W => MayIn W (.slice (some ⟨gm, 0, none⟩) 2 2) [(nv, D, us), (v6n, D ++ [L], us7)]) Y2) := ⟨RY.out.spoilt (Ch.of_below hbY), hmay2⟩
            rw [← hY2, ← hgm]
            have hS0 : Row Y2 gd 38 (dkCells g i (ptr gw) nv (costs D) n dims) ∧ Row Y2 gop 31 (opCells k N (.slice tp n5 tc) (.slice kp kn kc)) := ⟨RY2.out.1.dk.row, RY2.out.1.op⟩
            clear hY2 hgm hbY hcg hmay hmay2 RY
            refine ⟨fun _ => hS0, ?_⟩
            simp only [Act.put, aS, aC, aZ]
            clear hS0
            have HDK : Hid (Calls Tryd.prog 19 #[ptr gd, .slice kp kn kc, .slice (some ⟨gm, 0, none⟩) 2 2] Y2 fun e w' => e = .returned (.bool true) ∧ ∃ c' gw' m' S' E' D' nv' dims', Done T w c t gd gw g m ds ts i n dims w' c' gw' m' S' E' D' nv' dims') := by
              have hch2 : Ch (fun b => (c b).1 = t ∨ b = gd ∨ b = gw) w Y2 := RY2.out.1.ch.mono fun b _ e => e.elim Or.inl (fun e => Or.inr (Or.inr e))
              have hk2 : KeepX Y2 (Fr2 T c7 t gd) (.slice kp kn kc) ks := RY2.out.1.keep.next (Nat.le_refl _) fun b hb hp => ⟨rfl, hp.1.1, hp.1.2.1, hp.1.2.2.2⟩
              have h1 := HJ.out.2.2.1
              have h2 := HST.out
              rcases HJ.out.2.2.2 ks with hj | hj
              · refine (dark_any RY2.out.1.dk HJ.out.1 (by omega) (by omega) hj hk2 RY2.out.2 (Or.inl rfl)).mono ?_
                rintro e w' ⟨rfl, c', gw', m', S', E', nv', dims', hO⟩
                exact ⟨rfl, c', gw', m', S', E', D, nv', dims', hO.done RY2.out.1.cc hch2 HJ.out.2.1 RY2.out.1.lts.1 (by omega) (by omega)⟩
              · refine (dark_any RY2.out.1.dk HJ.out.1 (by omega) (by omega) hj hk2 RY2.out.2 (Or.inr ⟨by simp, Or.inl rfl⟩)).mono ?_
                rintro e w' ⟨rfl, c', gw', m', S', E', nv', dims', hO⟩
                exact ⟨rfl, c', gw', m', S', E', D ++ [L], nv', dims', hO.done RY2.out.1.cc hch2 HJ.out.2.1 RY2.out.1.lts.1 (by omega) (by omega)⟩
            refine oneU (i := 15) (by kernel_rfl) ?_
            refine opCallG (some 153) rfl rfl (by kernel_rfl) 19 _ (run_call eN28 [.tmp 144, .tmp 146, .tmp 152] _ rfl [ptr gd, .slice kp kn kc, .slice (some ⟨gm, 0, none⟩) 2 2] rfl) ?_
            refine HDK.out.mono ?_
            rintro e wz ⟨rfl, hD⟩
            have HD : Hid (∃ c' gw' m' S' E' D' nv' dims', Done T w c t gd gw g m ds ts i n dims wz c' gw' m' S' E' D' nv' dims') := hD
            clear hD HDK RY2
            refine ⟨_, rfl, ?_⟩
            refine ⟨fun h => absurd (show true = false from h) (by decide), ?_⟩
            simp only [Act.put, aS, aC, aZ]
            refine oneU (i := 16) (by kernel_rfl) ?_
            refine opValue (some 154) rfl rfl rfl (.bool true) _ (run_pickZ (.tmp 143) (.tmp 153) (.const (.bool false)) rfl true (.bool true) rfl rfl) ?_
            refine ⟨fun h => absurd (show true = false from h) (by decide), ?_⟩
            simp only [Act.put, aS, aC, aZ]
            refine oneU (i := 17) (by kernel_rfl) ?_
            refine opValue (some 4) rfl rfl rfl (.bool true) _ (run_asZ (.tmp 154) rfl (.bool true) rfl) ?_
            refine ⟨fun h => absurd (show true = false from h) (by decide), ?_⟩
            simp only [Act.put, aS, aC, aZ]
            refine wpAnyU_done (by kernel_rfl) ?_ _
            go_wp2_with fail
            rw [HPQ.out]
            exact ⟨rfl, HD.out⟩
end Go.Proofs.YtebalanfagglnaaDoor

namespace Go.Proofs.YtebalanfagglnaaDoor
open Go.RowKit Go.Maps
variable {T : Nat → Prop}

theorem wpList_callW {w : World} {ops : Array Oper} {rest : List Oper} {o : Oper} {a : Act} {Q : Exit → Act → World → Prop} {f : Nat} (ef : EntersF f) (xs : List Operand) (ts : Array TypeId) (hgd : Region.wanted o (yielded ops a.tmps) = true) (ho : o.op = .call { callee := .value (.func f), args := xs.toArray, argTypes := ts }) (vs : List Value) (hv : xs.map a.eval = vs)
    (h : Calls Tryd.prog f vs.toArray w fun e w' => ∃ v, e = .returned v ∧ wpList Tryd.prog ops Q rest (a.put o.dst v) w') : wpList Tryd.prog ops Q (o :: rest) a w :=
  BigFrame.wpList_want hgd fun K hK => by
    unfold Oper.wp
    rw [run_call ef xs ts ho vs hv]
    refine h.mono fun e w' he => ?_
    obtain ⟨v, rfl, hw⟩ := he
    exact hK _ _ hw
/-- Format of a disk that may have a journal -/
theorem formatJ_any {w : World} {c : Nat → Colour} {t g : Nat} {m : Pl} (h : Live w c t g m) {ds ts : List Nat} {i n : Nat} (hsh : ShapeOf m ds ts) (hi : i < ds.length) (hn : ds.getD i 0 = n) (h8 : 8 ≤ n) (hon : m.on = true) (ht : Fr.TabIn w) (htc : (c 0).1 ≠ t) (hst : m.steps + 20000 < 1099511627775) :
    Calls Tryd.prog 11 #[ptr g, .int .i64 (i : Nat)] w fun e w' => ∃ c' m', (∀ b, b < w.heap.size → c' b = c b) ∧ Live w' c' t g m' ∧ Ch (fun b => (c b).1 = t) w w' ∧ Rel m m' i ∧ m'.steps ≤ m.steps + 5000 ∧
      ((e = .returned (.int .i64 0) ∧ Jc m' i n [] ∧ (m.fuse < 0 → m'.fuse < 0)) ∨
       (0 ≤ m.fuse ∧ e = .returned (.int .i64 2) ∧ m'.on = false ∧ (m.wt i = [] → ∀ ks, (∀ p, (m'.boot ks).rd i p = m.rd i p) ∨ Blank (m'.boot ks) i n ∨ Jc (m'.boot ks) i n []))) := by
  have hhold : holds ds (i : Int) = true := by
    unfold holds
    exact decide_eq_true ⟨by omega, by omega, by rw [Int.toNat_natCast, hn]; exact h8⟩
  have hf : m.format ds (i : Int) = m.format3 i n := by
    unfold Pl.format
    rw [hhold, if_pos rfl, Int.toNat_natCast, hn]
  have hd := hsh.disk i hi
  have hlv : Lv m i := ⟨h.2.1, hon, by rw [hsh.n]; omega, hd.1⟩
  have hsz : m.size i = n := by rw [hd.2, hn]
  have hn4 : n ≤ 4096 := by rw [← hsz]; exact (h.2.1.sizes i hlv.lt).2
  refine (format_any h hsh (i : Int) ht htc hst).mono fun e w' he => ?_
  obtain ⟨he, c', hcc, hl, hch⟩ := he
  rw [hf] at he hl
  refine ⟨c', _, hcc, hl, hch, ?_⟩
  rcases format_C hlv hsz h8 with ⟨k1, k2, k3, k4, k5⟩ | ⟨k1, k2, k3, k4, k5, k6, k7⟩
  · exact ⟨k2.rel, by omega, Or.inl ⟨by rw [he, k1], ⟨1, 1, 1, [], k5, rfl⟩, k4⟩⟩
  · refine ⟨k2.rel, by omega, Or.inr ⟨k4, by rw [he, k1], k5, fun hw ks => ?_⟩⟩
    rcases k7 hw ks with k | k | k
    · exact Or.inl k
    · exact Or.inr (Or.inl k)
    · exact Or.inr (Or.inr ⟨1, 1, 1, [], k, rfl⟩)
/-- Open of a disk whose head is blank -/
theorem openB_any {w : World} {c : Nat → Colour} {t g : Nat} {m : Pl} (h : Live w c t g m) {ds ts : List Nat} {i n : Nat} (hd : DiskOn m ds ts i) (hn : ds.getD i 0 = n) (ht : Fr.TabIn w) (htc : (c 0).1 ≠ t) (hb : Blank m i n) :
    Calls Tryd.prog 12 #[ptr g, .int .i64 (i : Nat)] w fun e w' => e = .returned (.tuple #[.pointer none, .slice none 0 0, .int .i64 4]) ∧ ∃ c', (∀ b, b < w.heap.size → c' b = c b) ∧ Live w' c' t g m ∧ Ch (fun b => (c b).1 = t) w w' := by
  have h1 := hb.openR
  refine (open_any h hd ht htc).mono fun e w' he => ?_
  obtain ⟨wv, tv, he, c', hcc, hl, hch, _, hx⟩ := he
  rw [hn, h1] at he hl hx
  obtain ⟨q1, q2⟩ := hx (show (4 : Int) ≠ 0 by decide)
  exact ⟨by rw [he, q1, q2], c', hcc, hl, hch⟩
theorem Jd.back {m m' : Pl} {i n : Nat} {D : List (List (List Nat))} (h : Jc m i n D) (lv : Lv m' i) (wt : m'.wt i = []) (sh : m'.sh = m.sh) (st : m.steps ≤ m'.steps) (rd : ∀ p, m'.rd i p = m.rd i p) : Jc m' i n D := by
  obtain ⟨S, B, F, rows, h1, h2⟩ := h
  exact ⟨S, B, F, rows, h1.same lv wt sh st rd, h2⟩
/-- a list of nothing: what may be told -/
theorem may_one {w : World} {c : Nat → Colour} {t gd : Nat} {tv : Value} {D : List (List (List Nat))} {us : List Value} (h : Rob (Fr2 T c t gd) (fun W => TxsC W tv D us) w) (hc : (c w.heap.size).1 ≠ t) (hg : gd < w.heap.size) (hT : ¬ T w.heap.size) : Rob (Fr2 T c t gd) (fun W => MayIn W (.slice (some ⟨w.heap.size, 0, none⟩) 1 1) [(tv, D, us)]) (w.alloc (.cells #[tv] 36)) :=
  may_new (l := [(tv, D, us)]) (by intro x hx; rw [List.mem_singleton.1 hx]; exact h) (by simp) ⟨hc, by omega, hT⟩
set_option maxHeartbeats 16000000 in
set_option maxRecDepth 100000 in
theorem dformat_any {w : World} {c : Nat → Colour} {t gd gw g : Nat} {m : Pl} {ds ts : List Nat} {i n S E : Nat} {D : List (List (List Nat))} {nv : Value} {dims : Nat} (h : Desk T w c t gd gw g m ds ts i n S E D nv dims) (hst : m.steps + 40000 < 1099511627775) (hdm : dims ≤ 999999900) {k N : Int} {txv kv : Value} {L : List (List Nat)} {ks : List Int} (ho : OpR w (Fr3 T c t gd gw) k N txv kv L ks) :
    Calls Tryd.prog 20 #[ptr gd, .agg (opCells k N txv kv).toArray] w fun e w' => e = .returned (.bool true) ∧ ∃ c' gw' m' S' E' D' nv' dims', Done T w c t gd gw g m ds ts i n dims w' c' gw' m' S' E' D' nv' dims' := by
  obtain ⟨us, hnow⟩ := h.now
  obtain ⟨tp, tn, tc, htx⟩ := ho.tx.now.isSl
  obtain ⟨kp, kn, kc, hkv⟩ := ho.keep.isSl
  subst hkv
  have HI : Hid (Desk T w c t gd gw g m ds ts i n S E D nv dims) := h
  have HO : Hid (KeepX w (Fr2 T c t gd) (.slice kp kn kc) ks) := ho.keep.next (Nat.le_refl _) fun b hb hp => ⟨rfl, hp.1, hp.2.1, hp.2.2.2⟩
  have HNOW : Hid (Rob (Fr2 T c t gd) (fun W => TxsC W nv D us) w) := hnow.next (Nat.le_refl _) fun b hb hp => ⟨rfl, hp.1, hp.2.1, hp.2.2.2⟩
  have HB : Hid (8 ≤ n ∧ m.on = true ∧ m.wt i = [] ∧ m.steps + 40000 < 1099511627775 ∧ dims ≤ 999999900 ∧ gd < w.heap.size) := ⟨h.jo.jc.lv.2.2.2, h.jo.jc.lv.1.on, h.jo.jc.lv.2.1, hst, hdm, h.dk.row.lt⟩
  obtain ⟨PQ, hPQ⟩ : ∃ PQ : Ending → World → Prop, PQ = fun (e : Ending) (w' : World) => e = .returned (.bool true) ∧ ∃ c' gw' m' S' E' D' nv' dims', Done T w c t gd gw g m ds ts i n dims w' c' gw' m' S' E' D' nv' dims' := ⟨_, rfl⟩
  have HPQ : Hid (PQ = fun (e : Ending) (w' : World) => e = .returned (.bool true) ∧ ∃ c' gw' m' S' E' D' nv' dims', Done T w c t gd gw g m ds ts i n dims w' c' gw' m' S' E' D' nv' dims') := hPQ
  rw [← hPQ]
  have HSL : Hid (∃ p n c, txv = .slice p n c) := ⟨tp, tn, tc, htx⟩
  -- what an opening answers from a state of the desk's
  have HOP : Hid (∀ (w1 : World) (c1 : Nat → Colour) (m1 : Pl) (d1 : Nat) (mv : Value) (l : List (Value × List (List (List Nat)) × List Value)) (D1 : List (List (List Nat))), (∀ b, b < w.heap.size → c1 b = c b) → Ch (fun b => (c b).1 = t ∨ b = gd) w w1 → Dk T w1 c1 t gd g m1 ds ts i n (ptr gw) nv (costs D) d1 → Rel m m1 i → m1.steps ≤ m.steps + 11000 → d1 ≤ dims + 1 → Jc m1 i n D1 → Rob (Fr2 T c1 t gd) (fun W => MayIn W mv l) w1 → Among D1 (l.map (·.2.1)) → Calls Tryd.prog 10 #[ptr gd, .slice kp kn kc, mv] w1 fun e w' => e = .returned (.bool true) ∧ PQ e w') := fun w1 c1 m1 d1 mv l D1 hcc hch hdk hrl hs hd hj hm ha => by
    refine (opened_any hdk hj (by omega) (by omega) (HO.out.next hch.size (Dk.later hcc hch)) hm ha).mono ?_
    rintro e w' ⟨rfl, c', gw', m', S', E', nv', dims', hO⟩
    refine ⟨rfl, ?_⟩
    rw [hPQ]
    exact ⟨rfl, c', gw', m', S', E', D1, nv', dims', hO.done hcc (hch.mono fun b _ e => e.elim Or.inl (fun e => Or.inr (Or.inl e))) hrl h.dk.row.lt (by omega) (by omega)⟩
  clear hPQ h ho hnow hst hdm htx
  go_enter Tryd.func20, Tryd.ntmps20
  go_upto_region 0 with fail
  refine wp_region_lit ?_
  refine wpList_box (.tmp 1) rfl rfl (opCells k N txv (.slice kp kn kc)) rfl ?_
  intro w1 r1 s1 b1
  obtain ⟨gop, hgop⟩ : ∃ gop, gop = w.heap.size := ⟨_, rfl⟩
  rw [← hgop] at r1 s1 ⊢
  have R1 : Hid (Row w1 gop 31 (opCells k N txv (.slice kp kn kc)) ∧ Below w.heap.size w w1 ∧ w.heap.size ≤ gop) := ⟨r1, b1, by omega⟩
  clear r1 s1 b1 hgop
  simp only [Act.put, aS, aC, aZ]
  refine wl_as (.const (.bool false)) rfl rfl (.bool false) rfl ?_
  simp only [Act.put, aS, aC, aZ]
  refine wpList_nil ?_
  go_upto_region 1 with fail
  refine wp_region_held (S := fun X => Row X gd 38 (dkCells g i (ptr gw) nv (costs D) n dims) ∧ Row X gop 31 (opCells k N txv (.slice kp kn kc))) (by kernel_rfl) ?_
  show wpAnyH _ _ _ _ _ 10 (Array.replicate 10 false) _ _
  obtain ⟨X, hX⟩ : ∃ X : World, X = { w1 with drawn := w1.drawn + 1 } := ⟨_, rfl⟩
  rw [← hX]
  have hbX : Below w1.heap.size w1 X := by rw [hX]; exact ⟨rfl, rfl, rfl, Nat.le_refl _, fun _ _ => rfl⟩
  have RX : Hid (Below w.heap.size w X ∧ Row X gop 31 (opCells k N txv (.slice kp kn kc)) ∧ Dk T X c t gd g m ds ts i n (ptr gw) nv (costs D) dims) := ⟨R1.out.2.1.trans (hbX.mono R1.out.2.1.size), R1.out.1.later hbX R1.out.1.lt, HI.out.dk.below (R1.out.2.1.trans (hbX.mono R1.out.2.1.size))⟩
  have hS0 : Row X gd 38 (dkCells g i (ptr gw) nv (costs D) n dims) ∧ Row X gop 31 (opCells k N txv (.slice kp kn kc)) := ⟨RX.out.2.2.row, RX.out.2.1⟩
  clear hbX
  clear hX
  refine takeH (i := 0) (some 9) rfl rfl (by kernel_rfl) (by kernel_rfl) (by kernel_rfl) (fun _ _ _ h => h) (gMove rfl (.tmp 0) rfl (ptr gd) rfl) hS0 ?_
  simp only [Act.put, aS, aC, aZ]
  refine takeH (i := 1) (some 10) rfl rfl (by kernel_rfl) (by kernel_rfl) (by kernel_rfl) (fun _ _ _ h => h) (nilOp rfl (.tmp 9) rfl ⟨gd, 0, none⟩ rfl) hS0 ?_
  simp only [Act.put, aS, aC, aZ]
  refine takeH (i := 2) (some 11) rfl rfl (by kernel_rfl) (by kernel_rfl) (by kernel_rfl) (fun _ _ _ h => h) (gField f40_0 rfl (.tmp 10) rfl gd 0 rfl) hS0 ?_
  simp only [Act.put, aS, aC, aZ]
  refine takeH (i := 3) (some 12) rfl rfl (by kernel_rfl) (by kernel_rfl) (by kernel_rfl) (fun _ _ _ h => h) (gLoad o25 rfl (.tmp 11) rfl gd (0 + 0) rfl (ptr g) (fun _ h => (h.1.at 0 _ rfl))) hS0 ?_
  simp only [Act.put, aS, aC, aZ]
  refine takeH (i := 4) (some 13) rfl rfl (by kernel_rfl) (by kernel_rfl) (by kernel_rfl) (fun _ _ _ h => h) (gMove rfl (.tmp 0) rfl (ptr gd) rfl) hS0 ?_
  simp only [Act.put, aS, aC, aZ]
  refine takeH (i := 5) (some 14) rfl rfl (by kernel_rfl) (by kernel_rfl) (by kernel_rfl) (fun _ _ _ h => h) (nilOp rfl (.tmp 13) rfl ⟨gd, 0, none⟩ rfl) hS0 ?_
  simp only [Act.put, aS, aC, aZ]
  refine takeH (i := 6) (some 15) rfl rfl (by kernel_rfl) (by kernel_rfl) (by kernel_rfl) (fun _ _ _ h => h) (gField f40_1 rfl (.tmp 14) rfl gd 0 rfl) hS0 ?_
  simp only [Act.put, aS, aC, aZ]
  refine takeH (i := 7) (some 16) rfl rfl (by kernel_rfl) (by kernel_rfl) (by kernel_rfl) (fun _ _ _ h => h) (gLoad o3' rfl (.tmp 15) rfl gd (0 + 1) rfl (.int .i64 (i : Nat)) (fun _ h => (h.1.at 1 _ rfl))) hS0 ?_
  simp only [Act.put, aS, aC, aZ]
  clear hS0
  refine oneH (i := 8) (by kernel_rfl) ?_
  refine opCallA (some 17) rfl rfl rfl 11 _ (run_call eN19 [.tmp 12, .tmp 16] _ rfl [ptr g, .int .i64 (i : Nat)] rfl) ?_
  refine (formatJ_any RX.out.2.2.live RX.out.2.2.shape RX.out.2.2.lt RX.out.2.2.size HB.out.1 HB.out.2.1 RX.out.2.2.tab RX.out.2.2.tap (by have := HB.out.2.2.2.1; omega)).mono ?_
  rintro e w2 ⟨c2, m2, q1, q2, q3, q4, q5, q6⟩
  have hgc : (c gop).1 ≠ t := HI.out.dk.live.2.2 gop R1.out.2.2
  have R2 : Hid (Dk T w2 c2 t gd g m2 ds ts i n (ptr gw) nv (costs D) dims ∧ Row w2 gop 31 (opCells k N txv (.slice kp kn kc)) ∧ (∀ b, b < w.heap.size → c2 b = c b) ∧ Ch (fun b => (c b).1 = t) w w2 ∧ Rel m m2 i ∧ m2.steps ≤ m.steps + 5000 ∧ (c2 gop).1 ≠ t ∧ w.heap.size ≤ gop) := ⟨RX.out.2.2.nx q1 q2 q3 q4.sh, q3.row hgc RX.out.2.1, fun b hb => q1 b (Nat.lt_of_lt_of_le hb RX.out.1.size), (Ch.of_below RX.out.1).trans q3, q4, q5, by rw [q1 gop RX.out.2.1.lt]; exact hgc, R1.out.2.2⟩
  have hS2 : Row w2 gd 38 (dkCells g i (ptr gw) nv (costs D) n dims) ∧ Row w2 gop 31 (opCells k N txv (.slice kp kn kc)) := ⟨R2.out.1.row, R2.out.2.1⟩
  clear q1 q2 q3 q4 q5 hgc RX R1
  rcases q6 with ⟨rfl, q7, q8⟩ | ⟨q7, rfl, q8, q9⟩
  · have RA : Hid (Jc m2 i n []) := q7
    clear q7 q8
    refine ⟨_, rfl, ?_⟩
    refine ⟨hS2, ?_⟩
    simp only [Act.put, aS, aC, aZ]
    refine takeH (i := 9) (some 5) rfl rfl (by kernel_rfl) (by kernel_rfl) (by kernel_rfl) (fun _ _ _ h => h) (gAssign rfl (.tmp 17) rfl (.int .i64 0) rfl) hS2 ?_
    simp only [Act.put, aS, aC, aZ]
    clear hS2
    refine wpAnyH_done (by kernel_rfl) ?_ _
    go_upto_region 3 with fail
    refine wp_region_lit ?_
    refine wl_mv (.tmp 0) rfl rfl (ptr gd) rfl ?_
    simp only [Act.put, aS, aC, aZ]
    refine wl_fld f33_3 (.tmp 3) rfl rfl gop 0 rfl ?_
    simp only [Act.put, aS, aC, aZ]
    refine wl_ld o31 (.tmp 21) rfl rfl gop (0 + 3) rfl (.slice kp kn kc) (R2.out.2.1.at 3 _ rfl) ?_
    simp only [Act.put, aS, aC, aZ]
    refine lit38 rfl rfl ?_
    obtain ⟨g23, hg23⟩ : ∃ g23, g23 = w2.heap.size := ⟨_, rfl⟩
    obtain ⟨w5, hw5⟩ : ∃ w5, w5 = w2.alloc (.cells #[] 28) := ⟨_, rfl⟩
    have b5 : Below w2.heap.size w2 w5 := by rw [hw5]; exact below_alloc w2 _
    rw [← hg23, ← hw5]
    simp only [Act.put, aS, aC, aZ]
    refine wl rfl _ _ (run_lit41_1 (.tmp 23) rfl (.slice (some ⟨g23, 0, none⟩) 0 0) ⟨_, _, _, rfl⟩ rfl) ?_
    obtain ⟨gm, hgm⟩ : ∃ gm, gm = w5.heap.size := ⟨_, rfl⟩
    obtain ⟨w6, hw6⟩ : ∃ w6, w6 = w5.alloc (.cells #[.slice (some ⟨g23, 0, none⟩) 0 0] 36) := ⟨_, rfl⟩
    have b6 : Below w5.heap.size w5 w6 := by rw [hw6]; exact below_alloc w5 _
    have b56 : Below w2.heap.size w2 w6 := b5.trans (b6.mono b5.size)
    have hmay : Rob (Fr2 T c2 t gd) (fun W => MayIn W (.slice (some ⟨gm, 0, none⟩) 1 1) [(.slice (some ⟨g23, 0, none⟩) 0 0, [], [])]) w6 := by
      rw [hw6, hgm]
      exact may_one (fun W _ _ => TxsC.none W _ _) ((R2.out.1).live.2.2 _ b5.size) (by have := (R2.out.1).row.lt; have := b5.size; omega) (fun e => by have := (R2.out.1).str _ e; have := b5.size; omega)
    rw [← hgm, ← hw6]
    have HCL : Hid (Calls Tryd.prog 10 #[ptr gd, .slice kp kn kc, .slice (some ⟨gm, 0, none⟩) 1 1] w6 fun e w' => e = .returned (.bool true) ∧ PQ e w') := HOP.out w6 c2 _ _ _ [(.slice (some ⟨g23, 0, none⟩) 0 0, [], [])] [] R2.out.2.2.1 ((chT R2.out.2.2.2.1).trans (Ch.of_below b56)) ((R2.out.1).below b56) R2.out.2.2.2.2.1 (by have := R2.out.2.2.2.2.2.1; omega) (by omega) RA.out hmay (Or.inl rfl)
    clear hg23 hw5 b5 hgm hw6 b6 b56 hmay
    simp only [Act.put, aS, aC, aZ]
    refine wpList_callW eN16 [.tmp 20, .tmp 22, .tmp 24] _ rfl rfl [ptr gd, .slice kp kn kc, .slice (some ⟨gm, 0, none⟩) 1 1] rfl ?_
    refine HCL.out.mono ?_
    rintro e wz ⟨rfl, hQ⟩
    have HQ : Hid (PQ (.returned (.bool true)) wz) := hQ
    clear hQ HCL
    refine ⟨_, rfl, ?_⟩
    simp only [Act.put, aS, aC, aZ]
    refine wl_as (.tmp 25) rfl rfl (.bool true) rfl ?_
    simp only [Act.put, aS, aC, aZ]
    refine wpList_nil ?_
    go_wp2_with fail
    exact HQ.out
  · have RB : Hid (m2.on = false ∧ ∀ ks, (∀ p, (m2.boot ks).rd i p = m.rd i p) ∨ Blank (m2.boot ks) i n ∨ Jc (m2.boot ks) i n []) := ⟨q8, q9 HB.out.2.2.1⟩
    clear q7 q8 q9
    refine ⟨_, rfl, ?_⟩
    refine ⟨hS2, ?_⟩
    simp only [Act.put, aS, aC, aZ]
    refine takeH (i := 9) (some 5) rfl rfl (by kernel_rfl) (by kernel_rfl) (by kernel_rfl) (fun _ _ _ h => h) (gAssign rfl (.tmp 17) rfl (.int .i64 2) rfl) hS2 ?_
    simp only [Act.put, aS, aC, aZ]
    clear hS2
    refine wpAnyH_done (by kernel_rfl) ?_ _
    have HON : Hid (Calls Tryd.prog 22 #[ptr g] w2 fun e w' => e = .returned (.bool false) ∧ w2 = w') := (by have := R2.out.1.live.isOn; rw [RB.out.1] at this; exact this.mono fun e w' h => ⟨h.1, h.2.symm⟩)
    have kc0 := R2.out.1.row.at 0 _ rfl
    go_upto_region 6 with (go_at_call 22; refine HON.out.mono ?_; rintro e w3 ⟨rfl, hw23⟩; subst hw23)
    clear kc0 HON
    skip
    refine wp_region_held (S := fun X => Row X gd 38 (dkCells g i (ptr gw) nv (costs D) n dims) ∧ Row X gop 31 (opCells k N txv (.slice kp kn kc))) (by kernel_rfl) ?_
    show wpAnyH _ _ _ _ _ 7 (Array.replicate 7 false) _ _
    obtain ⟨X, hX⟩ : ∃ X : World, X = { w2 with drawn := w2.drawn + 1 } := ⟨_, rfl⟩
    rw [← hX]
    have hbX : Below w2.heap.size w2 X := by rw [hX]; exact ⟨rfl, rfl, rfl, Nat.le_refl _, fun _ _ => rfl⟩
    have RX : Hid (Below w2.heap.size w2 X ∧ Row X gop 31 (opCells k N txv (.slice kp kn kc)) ∧ Dk T X c2 t gd g m2 ds ts i n (ptr gw) nv (costs D) dims) := ⟨hbX, R2.out.2.1.later hbX R2.out.2.1.lt, R2.out.1.below hbX⟩
    have hS0 : Row X gd 38 (dkCells g i (ptr gw) nv (costs D) n dims) ∧ Row X gop 31 (opCells k N txv (.slice kp kn kc)) := ⟨RX.out.2.2.row, RX.out.2.1⟩
    clear hbX
    clear hX
    refine takeH (i := 0) (some 35) rfl rfl (by kernel_rfl) (by kernel_rfl) (by kernel_rfl) (fun _ _ _ h => h) (gMove rfl (.tmp 0) rfl (ptr gd) rfl) hS0 ?_
    simp only [Act.put, aS, aC, aZ]
    refine takeH (i := 1) (some 36) rfl rfl (by kernel_rfl) (by kernel_rfl) (by kernel_rfl) (fun _ _ _ h => h) (nilOp rfl (.tmp 35) rfl ⟨gd, 0, none⟩ rfl) hS0 ?_
    simp only [Act.put, aS, aC, aZ]
    refine takeH (i := 2) (some 37) rfl rfl (by kernel_rfl) (by kernel_rfl) (by kernel_rfl) (fun _ _ _ h => h) (gField f40_0 rfl (.tmp 36) rfl gd 0 rfl) hS0 ?_
    simp only [Act.put, aS, aC, aZ]
    refine takeH (i := 3) (some 38) rfl rfl (by kernel_rfl) (by kernel_rfl) (by kernel_rfl) (fun _ _ _ h => h) (gLoad o25 rfl (.tmp 37) rfl gd (0 + 0) rfl (ptr g) (fun _ h => (h.1.at 0 _ rfl))) hS0 ?_
    simp only [Act.put, aS, aC, aZ]
    refine takeH (i := 4) (some 39) rfl rfl (by kernel_rfl) (by kernel_rfl) (by kernel_rfl) (fun _ _ _ h => h) (gField f33_3 rfl (.tmp 3) rfl gop 0 rfl) hS0 ?_
    simp only [Act.put, aS, aC, aZ]
    refine takeH (i := 5) (some 40) rfl rfl (by kernel_rfl) (by kernel_rfl) (by kernel_rfl) (fun _ _ _ h => h) (gLoad o31 rfl (.tmp 39) rfl gop (0 + 3) rfl (.slice kp kn kc) (fun _ h => (h.2.at 3 _ rfl))) hS0 ?_
    simp only [Act.put, aS, aC, aZ]
    clear hS0
    refine oneH (i := 6) (by kernel_rfl) ?_
    refine opCallA (some 41) rfl rfl rfl 15 _ (run_call eN15 [.tmp 38, .tmp 40] _ rfl [ptr g, .slice kp kn kc] rfl) ?_
    have hcc2 := R2.out.2.2.1
    have hch2 : Ch (fun b => (c b).1 = t ∨ b = gd) w X := (chT R2.out.2.2.2.1).trans (Ch.of_below RX.out.1)
    refine (RX.out.2.2.live.boot (by have := R2.out.2.2.2.2.2.1; have := HB.out.2.2.2.1; omega) _ ks ((HO.out.next hch2.size (Dk.later hcc2 hch2)).keep fun b hb hp => hp.1)).mono ?_
    rintro e w4 ⟨rfl, hnx⟩
    refine ⟨_, rfl, ?_⟩
    obtain ⟨c4, q1, q2, q3⟩ := hnx.nx
    have R4 : Hid (Dk T w4 c4 t gd g (m2.boot ks) ds ts i n (ptr gw) nv (costs D) dims ∧ Row w4 gop 31 (opCells k N txv (.slice kp kn kc)) ∧ (∀ b, b < w.heap.size → c4 b = c b) ∧ Ch (fun b => (c b).1 = t ∨ b = gd) w w4 ∧ Rel m (m2.boot ks) i ∧ (c4 gop).1 ≠ t) := ⟨RX.out.2.2.nx q1 q2 q3 rfl, q3.row R2.out.2.2.2.2.2.2.1 RX.out.2.1, fun b hb => by rw [q1 b (Nat.lt_of_lt_of_le hb hch2.size)]; exact hcc2 b hb, hch2.trans' (chT q3) fun b hb e => by rw [← hcc2 b hb]; exact e, R2.out.2.2.2.2.1.trans (Rel.boot m2 i ks), by rw [q1 gop RX.out.2.1.lt]; exact R2.out.2.2.2.2.2.2.1⟩
    have RS : Hid ((m2.boot ks).steps ≤ m.steps + 5000 ∧ (m2.boot ks).on = true ∧ (m2.boot ks).fuse < 0 ∧ ((∀ p, (m2.boot ks).rd i p = m.rd i p) ∨ Blank (m2.boot ks) i n ∨ Jc (m2.boot ks) i n []) ∧ w.heap.size ≤ gop ∧ (m2.boot ks).wt i = []) := ⟨R2.out.2.2.2.2.2.1, rfl, (by decide : (-1 : Int) < 0), RB.out.2 ks, R2.out.2.2.2.2.2.2.2, rfl⟩
    have hS4 : Row w4 gd 38 (dkCells g i (ptr gw) nv (costs D) n dims) ∧ Row w4 gop 31 (opCells k N txv (.slice kp kn kc)) := ⟨R4.out.1.row, R4.out.2.1⟩
    clear q1 q2 q3 hnx hcc2 hch2 RX R2 RB
    obtain ⟨m4, hm4⟩ : ∃ m4, m4 = m2.boot ks := ⟨_, rfl⟩
    rw [← hm4] at R4 RS
    clear hm4
    refine ⟨hS4, ?_⟩
    simp only [Act.put, aS, aC, aZ]
    clear hS4
    refine wpAnyH_done (by kernel_rfl) ?_ _
    go_upto_region 7 with fail
    refine wp_region_lit ?_
    refine wl_mv (.tmp 0) rfl rfl (ptr gd) rfl ?_
    simp only [Act.put, aS, aC, aZ]
    refine wl_nil (.tmp 42) rfl rfl ⟨gd, 0, none⟩ rfl ?_
    simp only [Act.put, aS, aC, aZ]
    refine wl_fld f40_6 (.tmp 43) rfl rfl gd 0 rfl ?_
    simp only [Act.put, aS, aC, aZ]
    refine wl_ld o3' (.tmp 44) rfl rfl gd (0 + 6) rfl (.int .i64 (dims : Nat)) (R4.out.1.row.at 6 _ rfl) ?_
    simp only [Act.put, aS, aC, aZ]
    refine wl_addN (.tmp 45) (.const (.int .i64 1)) rfl rfl dims 1 (by have := R4.out.1.dim; omega) (by decide) rfl rfl ?_
    simp only [Act.put, aS, aC, aZ]
    refine wl_nil (.tmp 42) rfl rfl ⟨gd, 0, none⟩ rfl ?_
    simp only [Act.put, aS, aC, aZ]
    refine wl_fld f40_6 (.tmp 47) rfl rfl gd 0 rfl ?_
    simp only [Act.put, aS, aC, aZ]
    refine wl_put s3 (.tmp 48) (.tmp 46) rfl rfl rfl gd (0 + 6) 38 (dkCells g i (ptr gw) nv (costs D) n dims) rfl (.int .i64 ((dims + 1 : Nat) : Int)) rfl ⟨rfl, rfl⟩ R4.out.1.row (show 0 + 6 < 7 by decide) ?_
    refine wpList_nil ?_
    obtain ⟨w5, hw5⟩ : ∃ w5, w5 = w4.setCell ⟨gd, 0 + 6, none⟩ (.int .i64 ((dims + 1 : Nat) : Int)) := ⟨_, rfl⟩
    have hset := R4.out.1.set (0 + 6) (.int .i64 ((dims + 1 : Nat) : Int)) (wv' := ptr gw) (nv' := nv) (cost' := costs D) (dims' := dims + 1) rfl (by have := HB.out.2.2.2.2.1; omega)
    rw [← hw5] at hset
    rw [← hw5]
    have R5 : Hid (Dk T w5 c4 t gd g m4 ds ts i n (ptr gw) nv (costs D) (dims + 1) ∧ Row w5 gop 31 (opCells k N txv (.slice kp kn kc)) ∧ (∀ b, b < w.heap.size → c4 b = c b) ∧ Ch (fun b => (c b).1 = t ∨ b = gd) w w5 ∧ Rel m m4 i ∧ (c4 gop).1 ≠ t) := ⟨hset.1, hset.2.row (by have := RS.out.2.2.2.2.1; have := HB.out.2.2.2.2.2; omega) R4.out.2.1, R4.out.2.2.1, R4.out.2.2.2.1.trans (chG hset.2), R4.out.2.2.2.2.1, R4.out.2.2.2.2.2⟩
    clear hset hw5 R4
    rcases Classical.em (Blank m4 i n) with hbl | hbl
    · have HBL : Hid (Blank m4 i n) := hbl
      clear hbl
      go_upto_region 8 with fail
      refine wp_region_held (S := fun X => Row X gd 38 (dkCells g i (ptr gw) nv (costs D) n (dims + 1)) ∧ Row X gop 31 (opCells k N txv (.slice kp kn kc))) (by kernel_rfl) ?_
      show wpAnyH _ _ _ _ _ 16 (Array.replicate 16 false) _ _
      obtain ⟨X, hX⟩ : ∃ X : World, X = { w5 with drawn := w5.drawn + 1 } := ⟨_, rfl⟩
      rw [← hX]
      have hbX : Below w5.heap.size w5 X := by rw [hX]; exact ⟨rfl, rfl, rfl, Nat.le_refl _, fun _ _ => rfl⟩
      have RX : Hid (Below w5.heap.size w5 X ∧ Row X gop 31 (opCells k N txv (.slice kp kn kc)) ∧ Dk T X c4 t gd g m4 ds ts i n (ptr gw) nv (costs D) (dims + 1)) := ⟨hbX, R5.out.2.1.later hbX R5.out.2.1.lt, R5.out.1.below hbX⟩
      have hS0 : Row X gd 38 (dkCells g i (ptr gw) nv (costs D) n (dims + 1)) ∧ Row X gop 31 (opCells k N txv (.slice kp kn kc)) := ⟨RX.out.2.2.row, RX.out.2.1⟩
      clear hbX
      clear hX
      refine takeH (i := 0) (some 50) rfl rfl (by kernel_rfl) (by kernel_rfl) (by kernel_rfl) (fun _ _ _ h => h) (gMove rfl (.tmp 0) rfl (ptr gd) rfl) hS0 ?_
      simp only [Act.put, aS, aC, aZ]
      refine takeH (i := 1) (some 51) rfl rfl (by kernel_rfl) (by kernel_rfl) (by kernel_rfl) (fun _ _ _ h => h) (nilOp rfl (.tmp 50) rfl ⟨gd, 0, none⟩ rfl) hS0 ?_
      simp only [Act.put, aS, aC, aZ]
      refine takeH (i := 2) (some 52) rfl rfl (by kernel_rfl) (by kernel_rfl) (by kernel_rfl) (fun _ _ _ h => h) (gField f40_0 rfl (.tmp 51) rfl gd 0 rfl) hS0 ?_
      simp only [Act.put, aS, aC, aZ]
      refine takeH (i := 3) (some 53) rfl rfl (by kernel_rfl) (by kernel_rfl) (by kernel_rfl) (fun _ _ _ h => h) (gLoad o25 rfl (.tmp 52) rfl gd (0 + 0) rfl (ptr g) (fun _ h => (h.1.at 0 _ rfl))) hS0 ?_
      simp only [Act.put, aS, aC, aZ]
      refine takeH (i := 4) (some 54) rfl rfl (by kernel_rfl) (by kernel_rfl) (by kernel_rfl) (fun _ _ _ h => h) (gMove rfl (.tmp 0) rfl (ptr gd) rfl) hS0 ?_
      simp only [Act.put, aS, aC, aZ]
      refine takeH (i := 5) (some 55) rfl rfl (by kernel_rfl) (by kernel_rfl) (by kernel_rfl) (fun _ _ _ h => h) (nilOp rfl (.tmp 54) rfl ⟨gd, 0, none⟩ rfl) hS0 ?_
      simp only [Act.put, aS, aC, aZ]
      refine takeH (i := 6) (some 56) rfl rfl (by kernel_rfl) (by kernel_rfl) (by kernel_rfl) (fun _ _ _ h => h) (gField f40_1 rfl (.tmp 55) rfl gd 0 rfl) hS0 ?_
      simp only [Act.put, aS, aC, aZ]
      refine takeH (i := 7) (some 57) rfl rfl (by kernel_rfl) (by kernel_rfl) (by kernel_rfl) (fun _ _ _ h => h) (gLoad o3' rfl (.tmp 56) rfl gd (0 + 1) rfl (.int .i64 (i : Nat)) (fun _ h => (h.1.at 1 _ rfl))) hS0 ?_
      simp only [Act.put, aS, aC, aZ]
      clear hS0
      refine oneH (i := 8) (by kernel_rfl) ?_
      refine opCallA (some 58) rfl rfl rfl 12 _ (run_call eN20 [.tmp 53, .tmp 57] _ rfl [ptr g, .int .i64 (i : Nat)] rfl) ?_
      refine (openB_any RX.out.2.2.live (RX.out.2.2.diskOn HB.out.1 RS.out.2.1 (by have := RS.out.1; have := HB.out.2.2.2.1; omega)) RX.out.2.2.size RX.out.2.2.tab RX.out.2.2.tap HBL.out).mono ?_
      rintro e w6 ⟨rfl, c6, q1, q2, q3⟩
      have R6 : Hid (Dk T w6 c6 t gd g m4 ds ts i n (ptr gw) nv (costs D) (dims + 1) ∧ Row w6 gop 31 (opCells k N txv (.slice kp kn kc)) ∧ (∀ b, b < w.heap.size → c6 b = c b) ∧ Ch (fun b => (c b).1 = t ∨ b = gd) w w6 ∧ Rel m m4 i ∧ (c6 gop).1 ≠ t) := ⟨RX.out.2.2.nx q1 q2 q3 rfl, q3.row R5.out.2.2.2.2.2 RX.out.2.1, fun b hb => by rw [q1 b (Nat.lt_of_lt_of_le hb (Nat.le_trans R5.out.2.2.2.1.size RX.out.1.size))]; exact R5.out.2.2.1 b hb, (R5.out.2.2.2.1.trans (Ch.of_below RX.out.1)).trans' (chT q3) fun b hb e => by rw [← R5.out.2.2.1 b hb]; exact e, R5.out.2.2.2.2.1, by rw [q1 gop RX.out.2.1.lt]; exact R5.out.2.2.2.2.2⟩
      have hS2 : Row w6 gd 38 (dkCells g i (ptr gw) nv (costs D) n (dims + 1)) ∧ Row w6 gop 31 (opCells k N txv (.slice kp kn kc)) := ⟨R6.out.1.row, R6.out.2.1⟩
      clear q1 q2 q3 RX R5
      refine ⟨_, rfl, ?_⟩
      refine ⟨hS2, ?_⟩
      simp only [Act.put, aS, aC, aZ]
      refine takeH (i := 9) (some 49) rfl rfl (by kernel_rfl) (by kernel_rfl) (by kernel_rfl) (fun _ _ _ h => h) (gMove rfl (.tmp 58) rfl (.tuple #[(.pointer none), (.slice none 0 0), (.int .i64 4)]) rfl) hS2 ?_
      simp only [Act.put, aS, aC, aZ]
      refine takeH (i := 10) (some 59) rfl rfl (by kernel_rfl) (by kernel_rfl) (by kernel_rfl) (fun _ _ _ h => h) (gRun rfl (.pointer none) fun _ _ => by simp [execOp, Act.eval, Instr.extract]) hS2 ?_
      simp only [Act.put, aS, aC, aZ]
      refine takeH (i := 11) (some 60) rfl rfl (by kernel_rfl) (by kernel_rfl) (by kernel_rfl) (fun _ _ _ h => h) (gRun rfl (.slice none 0 0) fun _ _ => by simp [execOp, Act.eval, Instr.extract]) hS2 ?_
      simp only [Act.put, aS, aC, aZ]
      refine takeH (i := 12) (some 61) rfl rfl (by kernel_rfl) (by kernel_rfl) (by kernel_rfl) (fun _ _ _ h => h) (gRun rfl (.int .i64 4) fun _ _ => by simp [execOp, Act.eval, Instr.extract]) hS2 ?_
      simp only [Act.put, aS, aC, aZ]
      refine takeH (i := 13) (some 6) rfl rfl (by kernel_rfl) (by kernel_rfl) (by kernel_rfl) (fun _ _ _ h => h) (gAssign rfl (.tmp 59) rfl (.pointer none) rfl) hS2 ?_
      simp only [Act.put, aS, aC, aZ]
      refine takeH (i := 14) (some 7) rfl rfl (by kernel_rfl) (by kernel_rfl) (by kernel_rfl) (fun _ _ _ h => h) (gAssign rfl (.tmp 60) rfl (.slice none 0 0) rfl) hS2 ?_
      simp only [Act.put, aS, aC, aZ]
      refine takeH (i := 15) (some 8) rfl rfl (by kernel_rfl) (by kernel_rfl) (by kernel_rfl) (fun _ _ _ h => h) (gAssign rfl (.tmp 61) rfl (.int .i64 4) rfl) hS2 ?_
      simp only [Act.put, aS, aC, aZ]
      clear hS2
      refine wpAnyH_done (by kernel_rfl) ?_ _
      go_upto_region 10 with (refine wl_sl sl38 (.tmp 69) rfl rfl none 0 0 rfl ?_)
      skip
      refine wp_region_held (S := fun X => Row X gd 38 (dkCells g i (ptr gw) nv (costs D) n (dims + 1)) ∧ Row X gop 31 (opCells k N txv (.slice kp kn kc))) (by kernel_rfl) ?_
      show wpAnyH _ _ _ _ _ 10 (Array.replicate 10 false) _ _
      obtain ⟨X, hX⟩ : ∃ X : World, X = { w6 with drawn := w6.drawn + 1 } := ⟨_, rfl⟩
      rw [← hX]
      have hbX : Below w6.heap.size w6 X := by rw [hX]; exact ⟨rfl, rfl, rfl, Nat.le_refl _, fun _ _ => rfl⟩
      have RX : Hid (Below w6.heap.size w6 X ∧ Row X gop 31 (opCells k N txv (.slice kp kn kc)) ∧ Dk T X c6 t gd g m4 ds ts i n (ptr gw) nv (costs D) (dims + 1)) := ⟨hbX, R6.out.2.1.later hbX R6.out.2.1.lt, R6.out.1.below hbX⟩
      have hS0 : Row X gd 38 (dkCells g i (ptr gw) nv (costs D) n (dims + 1)) ∧ Row X gop 31 (opCells k N txv (.slice kp kn kc)) := ⟨RX.out.2.2.row, RX.out.2.1⟩
      clear hbX
      clear hX
      refine takeH (i := 0) (some 73) rfl rfl (by kernel_rfl) (by kernel_rfl) (by kernel_rfl) (fun _ _ _ h => h) (gMove rfl (.tmp 0) rfl (ptr gd) rfl) hS0 ?_
      simp only [Act.put, aS, aC, aZ]
      refine takeH (i := 1) (some 74) rfl rfl (by kernel_rfl) (by kernel_rfl) (by kernel_rfl) (fun _ _ _ h => h) (nilOp rfl (.tmp 73) rfl ⟨gd, 0, none⟩ rfl) hS0 ?_
      simp only [Act.put, aS, aC, aZ]
      refine takeH (i := 2) (some 75) rfl rfl (by kernel_rfl) (by kernel_rfl) (by kernel_rfl) (fun _ _ _ h => h) (gField f40_0 rfl (.tmp 74) rfl gd 0 rfl) hS0 ?_
      simp only [Act.put, aS, aC, aZ]
      refine takeH (i := 3) (some 76) rfl rfl (by kernel_rfl) (by kernel_rfl) (by kernel_rfl) (fun _ _ _ h => h) (gLoad o25 rfl (.tmp 75) rfl gd (0 + 0) rfl (ptr g) (fun _ h => (h.1.at 0 _ rfl))) hS0 ?_
      simp only [Act.put, aS, aC, aZ]
      refine takeH (i := 4) (some 77) rfl rfl (by kernel_rfl) (by kernel_rfl) (by kernel_rfl) (fun _ _ _ h => h) (gMove rfl (.tmp 0) rfl (ptr gd) rfl) hS0 ?_
      simp only [Act.put, aS, aC, aZ]
      refine takeH (i := 5) (some 78) rfl rfl (by kernel_rfl) (by kernel_rfl) (by kernel_rfl) (fun _ _ _ h => h) (nilOp rfl (.tmp 77) rfl ⟨gd, 0, none⟩ rfl) hS0 ?_
      simp only [Act.put, aS, aC, aZ]
      refine takeH (i := 6) (some 79) rfl rfl (by kernel_rfl) (by kernel_rfl) (by kernel_rfl) (fun _ _ _ h => h) (gField f40_1 rfl (.tmp 78) rfl gd 0 rfl) hS0 ?_
      simp only [Act.put, aS, aC, aZ]
      refine takeH (i := 7) (some 80) rfl rfl (by kernel_rfl) (by kernel_rfl) (by kernel_rfl) (fun _ _ _ h => h) (gLoad o3' rfl (.tmp 79) rfl gd (0 + 1) rfl (.int .i64 (i : Nat)) (fun _ h => (h.1.at 1 _ rfl))) hS0 ?_
      simp only [Act.put, aS, aC, aZ]
      clear hS0
      refine oneH (i := 8) (by kernel_rfl) ?_
      refine opCallA (some 81) rfl rfl rfl 11 _ (run_call eN19 [.tmp 76, .tmp 80] _ rfl [ptr g, .int .i64 (i : Nat)] rfl) ?_
      refine (formatJ_any RX.out.2.2.live RX.out.2.2.shape RX.out.2.2.lt RX.out.2.2.size HB.out.1 RS.out.2.1 RX.out.2.2.tab RX.out.2.2.tap (by have := RS.out.1; have := HB.out.2.2.2.1; omega)).mono ?_
      rintro e w7 ⟨c7, m7, q1, q2, q3, q4, q5, q6⟩
      have R7 : Hid (Dk T w7 c7 t gd g m7 ds ts i n (ptr gw) nv (costs D) (dims + 1) ∧ Row w7 gop 31 (opCells k N txv (.slice kp kn kc)) ∧ (∀ b, b < w.heap.size → c7 b = c b) ∧ Ch (fun b => (c b).1 = t ∨ b = gd) w w7 ∧ Rel m m7 i ∧ m7.steps ≤ m.steps + 10000) := ⟨RX.out.2.2.nx q1 q2 q3 q4.sh, q3.row R6.out.2.2.2.2.2 RX.out.2.1, fun b hb => by rw [q1 b (Nat.lt_of_lt_of_le hb (Nat.le_trans R6.out.2.2.2.1.size RX.out.1.size))]; exact R6.out.2.2.1 b hb, (R6.out.2.2.2.1.trans (Ch.of_below RX.out.1)).trans' (chT q3) fun b hb e => by rw [← R6.out.2.2.1 b hb]; exact e, R6.out.2.2.2.2.1.trans q4, by have := RS.out.1; omega⟩
      obtain ⟨he7, hj7, _⟩ : e = .returned (.int .i64 0) ∧ Jc m7 i n [] ∧ (m4.fuse < 0 → m7.fuse < 0) := by
        rcases q6 with q6 | q6
        · exact q6
        · exact absurd q6.1 (by have := RS.out.2.2.1; omega)
      subst he7
      have RJ : Hid (Jc m7 i n []) := hj7
      have hS7 : Row w7 gd 38 (dkCells g i (ptr gw) nv (costs D) n (dims + 1)) ∧ Row w7 gop 31 (opCells k N txv (.slice kp kn kc)) := ⟨R7.out.1.row, R7.out.2.1⟩
      clear q1 q2 q3 q4 q5 q6 hj7 RX R6
      refine ⟨_, rfl, ?_⟩
      refine ⟨hS7, ?_⟩
      simp only [Act.put, aS, aC, aZ]
      refine takeH (i := 9) (some 5) rfl rfl (by kernel_rfl) (by kernel_rfl) (by kernel_rfl) (fun _ _ _ h => h) (gAssign rfl (.tmp 81) rfl (.int .i64 0) rfl) hS7 ?_
      simp only [Act.put, aS, aC, aZ]
      clear hS7
      refine wpAnyH_done (by kernel_rfl) ?_ _
      go_upto_region 11 with fail
      refine wp_region_lit ?_
      refine wl_mv (.tmp 5) rfl rfl (.int .i64 0) rfl ?_
      simp only [Act.put, aS, aC, aZ]
      refine wl_eqI (.tmp 82) (.const (.int .i64 0)) rfl rfl 0 0 rfl rfl true rfl ?_
      simp only [Act.put, aS, aC, aZ]
      refine wl_mv (.tmp 83) rfl rfl (.bool true) rfl ?_
      simp only [Act.put, aS, aC, aZ]
      refine wl_mv (.tmp 0) rfl rfl (ptr gd) rfl ?_
      simp only [Act.put, aS, aC, aZ]
      refine wl_fld f33_3 (.tmp 3) rfl rfl gop 0 rfl ?_
      simp only [Act.put, aS, aC, aZ]
      refine wl_ld o31 (.tmp 86) rfl rfl gop (0 + 3) rfl (.slice kp kn kc) (R7.out.2.1.at 3 _ rfl) ?_
      simp only [Act.put, aS, aC, aZ]
      refine lit38 rfl rfl ?_
      obtain ⟨g23, hg23⟩ : ∃ g23, g23 = w7.heap.size := ⟨_, rfl⟩
      obtain ⟨w5, hw5⟩ : ∃ w5, w5 = w7.alloc (.cells #[] 28) := ⟨_, rfl⟩
      have b5 : Below w7.heap.size w7 w5 := by rw [hw5]; exact below_alloc w7 _
      rw [← hg23, ← hw5]
      simp only [Act.put, aS, aC, aZ]
      refine wl rfl _ _ (run_lit41_1 (.tmp 88) rfl (.slice (some ⟨g23, 0, none⟩) 0 0) ⟨_, _, _, rfl⟩ rfl) ?_
      obtain ⟨gm, hgm⟩ : ∃ gm, gm = w5.heap.size := ⟨_, rfl⟩
      obtain ⟨w6, hw6⟩ : ∃ w6, w6 = w5.alloc (.cells #[.slice (some ⟨g23, 0, none⟩) 0 0] 36) := ⟨_, rfl⟩
      have b6 : Below w5.heap.size w5 w6 := by rw [hw6]; exact below_alloc w5 _
      have b56 : Below w7.heap.size w7 w6 := b5.trans (b6.mono b5.size)
      have hmay : Rob (Fr2 T c7 t gd) (fun W => MayIn W (.slice (some ⟨gm, 0, none⟩) 1 1) [(.slice (some ⟨g23, 0, none⟩) 0 0, [], [])]) w6 := by
        rw [hw6, hgm]
        exact may_one (fun W _ _ => TxsC.none W _ _) ((R7.out.1).live.2.2 _ b5.size) (by have := (R7.out.1).row.lt; have := b5.size; omega) (fun e => by have := (R7.out.1).str _ e; have := b5.size; omega)
      rw [← hgm, ← hw6]
      have HCL : Hid (Calls Tryd.prog 10 #[ptr gd, .slice kp kn kc, .slice (some ⟨gm, 0, none⟩) 1 1] w6 fun e w' => e = .returned (.bool true) ∧ PQ e w') := HOP.out w6 c7 _ _ _ [(.slice (some ⟨g23, 0, none⟩) 0 0, [], [])] [] R7.out.2.2.1 (R7.out.2.2.2.1.trans (Ch.of_below b56)) ((R7.out.1).below b56) R7.out.2.2.2.2.1 (by have := R7.out.2.2.2.2.2; omega) (by omega) RJ.out hmay (Or.inl rfl)
      clear hg23 hw5 b5 hgm hw6 b6 b56 hmay
      simp only [Act.put, aS, aC, aZ]
      refine wpList_callW eN16 [.tmp 85, .tmp 87, .tmp 89] _ rfl rfl [ptr gd, .slice kp kn kc, .slice (some ⟨gm, 0, none⟩) 1 1] rfl ?_
      refine HCL.out.mono ?_
      rintro e wz ⟨rfl, hQ⟩
      have HQ : Hid (PQ (.returned (.bool true)) wz) := hQ
      clear hQ HCL
      refine ⟨_, rfl, ?_⟩
      simp only [Act.put, aS, aC, aZ]
      refine wl rfl (.bool true) _ (run_pickZ (.tmp 84) (.tmp 90) (.const (.bool false)) rfl true (.bool true) rfl rfl) ?_
      simp only [Act.put, aS, aC, aZ]
      refine wl_as (.tmp 91) rfl rfl (.bool true) rfl ?_
      simp only [Act.put, aS, aC, aZ]
      refine wpList_nil ?_
      go_wp2_with fail
      exact HQ.out
    · obtain ⟨D6, hD6⟩ : ∃ D6, Jc m4 i n D6 ∧ (D6 = D ∨ (D6 = [] ∧ D.length ≠ 0)) := by
        rcases RS.out.2.2.2.1 with e | e | e
        · exact ⟨D, Jd.back HI.out.jo.jc ⟨R5.out.1.live.2.1, RS.out.2.1, by have := R5.out.1.shape.n; have := R5.out.1.lt; omega, (R5.out.1.shape.disk i R5.out.1.lt).1⟩ (RS.out.2.2.2.2.2) R5.out.2.2.2.2.1.sh R5.out.2.2.2.2.1.steps e, Or.inl rfl⟩
        · exact absurd e hbl
        · by_cases e0 : D = []
          · exact ⟨[], e, Or.inl e0.symm⟩
          · exact ⟨[], e, Or.inr ⟨rfl, fun h => e0 (List.length_eq_zero_iff.1 h)⟩⟩
      have HJ : Hid (Jc m4 i n D6 ∧ (D6 = D ∨ (D6 = [] ∧ D.length ≠ 0))) := hD6
      clear hbl hD6
      go_upto_region 8 with fail
      refine wp_region_held (S := fun X => Row X gd 38 (dkCells g i (ptr gw) nv (costs D) n (dims + 1)) ∧ Row X gop 31 (opCells k N txv (.slice kp kn kc))) (by kernel_rfl) ?_
      show wpAnyH _ _ _ _ _ 16 (Array.replicate 16 false) _ _
      obtain ⟨X, hX⟩ : ∃ X : World, X = { w5 with drawn := w5.drawn + 1 } := ⟨_, rfl⟩
      rw [← hX]
      have hbX : Below w5.heap.size w5 X := by rw [hX]; exact ⟨rfl, rfl, rfl, Nat.le_refl _, fun _ _ => rfl⟩
      have RX : Hid (Below w5.heap.size w5 X ∧ Row X gop 31 (opCells k N txv (.slice kp kn kc)) ∧ Dk T X c4 t gd g m4 ds ts i n (ptr gw) nv (costs D) (dims + 1)) := ⟨hbX, R5.out.2.1.later hbX R5.out.2.1.lt, R5.out.1.below hbX⟩
      have hS0 : Row X gd 38 (dkCells g i (ptr gw) nv (costs D) n (dims + 1)) ∧ Row X gop 31 (opCells k N txv (.slice kp kn kc)) := ⟨RX.out.2.2.row, RX.out.2.1⟩
      clear hbX
      clear hX
      refine takeH (i := 0) (some 50) rfl rfl (by kernel_rfl) (by kernel_rfl) (by kernel_rfl) (fun _ _ _ h => h) (gMove rfl (.tmp 0) rfl (ptr gd) rfl) hS0 ?_
      simp only [Act.put, aS, aC, aZ]
      refine takeH (i := 1) (some 51) rfl rfl (by kernel_rfl) (by kernel_rfl) (by kernel_rfl) (fun _ _ _ h => h) (nilOp rfl (.tmp 50) rfl ⟨gd, 0, none⟩ rfl) hS0 ?_
      simp only [Act.put, aS, aC, aZ]
      refine takeH (i := 2) (some 52) rfl rfl (by kernel_rfl) (by kernel_rfl) (by kernel_rfl) (fun _ _ _ h => h) (gField f40_0 rfl (.tmp 51) rfl gd 0 rfl) hS0 ?_
      simp only [Act.put, aS, aC, aZ]
      refine takeH (i := 3) (some 53) rfl rfl (by kernel_rfl) (by kernel_rfl) (by kernel_rfl) (fun _ _ _ h => h) (gLoad o25 rfl (.tmp 52) rfl gd (0 + 0) rfl (ptr g) (fun _ h => (h.1.at 0 _ rfl))) hS0 ?_
      simp only [Act.put, aS, aC, aZ]
      refine takeH (i := 4) (some 54) rfl rfl (by kernel_rfl) (by kernel_rfl) (by kernel_rfl) (fun _ _ _ h => h) (gMove rfl (.tmp 0) rfl (ptr gd) rfl) hS0 ?_
      simp only [Act.put, aS, aC, aZ]
      refine takeH (i := 5) (some 55) rfl rfl (by kernel_rfl) (by kernel_rfl) (by kernel_rfl) (fun _ _ _ h => h) (nilOp rfl (.tmp 54) rfl ⟨gd, 0, none⟩ rfl) hS0 ?_
      simp only [Act.put, aS, aC, aZ]
      refine takeH (i := 6) (some 56) rfl rfl (by kernel_rfl) (by kernel_rfl) (by kernel_rfl) (fun _ _ _ h => h) (gField f40_1 rfl (.tmp 55) rfl gd 0 rfl) hS0 ?_
      simp only [Act.put, aS, aC, aZ]
      refine takeH (i := 7) (some 57) rfl rfl (by kernel_rfl) (by kernel_rfl) (by kernel_rfl) (fun _ _ _ h => h) (gLoad o3' rfl (.tmp 56) rfl gd (0 + 1) rfl (.int .i64 (i : Nat)) (fun _ h => (h.1.at 1 _ rfl))) hS0 ?_
      simp only [Act.put, aS, aC, aZ]
      clear hS0
      refine oneH (i := 8) (by kernel_rfl) ?_
      refine opCallA (some 58) rfl rfl rfl 12 _ (run_call eN20 [.tmp 53, .tmp 57] _ rfl [ptr g, .int .i64 (i : Nat)] rfl) ?_
      refine (openJ_any RX.out.2.2.live (RX.out.2.2.diskOn HB.out.1 RS.out.2.1 (by have := RS.out.1; have := HB.out.2.2.2.1; omega)) RX.out.2.2.size RX.out.2.2.tab RX.out.2.2.tap HJ.out.1).mono ?_
      rintro e w6 ⟨c6, m6, q1, q2, q3, q4, q5, q6⟩
      have R6 : Hid (Dk T w6 c6 t gd g m6 ds ts i n (ptr gw) nv (costs D) (dims + 1) ∧ Row w6 gop 31 (opCells k N txv (.slice kp kn kc)) ∧ (∀ b, b < w.heap.size → c6 b = c b) ∧ Ch (fun b => (c b).1 = t ∨ b = gd) w w6 ∧ Rel m m6 i ∧ (c6 gop).1 ≠ t) := ⟨RX.out.2.2.nx q1 q2 q3 q4.sh, q3.row R5.out.2.2.2.2.2 RX.out.2.1, fun b hb => by rw [q1 b (Nat.lt_of_lt_of_le hb (Nat.le_trans R5.out.2.2.2.1.size RX.out.1.size))]; exact R5.out.2.2.1 b hb, (R5.out.2.2.2.1.trans (Ch.of_below RX.out.1)).trans' (chT q3) fun b hb e => by rw [← R5.out.2.2.1 b hb]; exact e, R5.out.2.2.2.2.1.trans q4, by rw [q1 gop RX.out.2.1.lt]; exact R5.out.2.2.2.2.2⟩
      have hS2 : Row w6 gd 38 (dkCells g i (ptr gw) nv (costs D) n (dims + 1)) ∧ Row w6 gop 31 (opCells k N txv (.slice kp kn kc)) := ⟨R6.out.1.row, R6.out.2.1⟩
      obtain ⟨gw6, tv, S6, E6, he6, q7, q8, q9, q10, us6, q11⟩ : ∃ gw tv S E, e = .returned (.tuple #[ptr gw, tv, .int .i64 0]) ∧ X.heap.size ≤ gw ∧ WalAt w6 c6 t gw g (i : Int) S E ∧ Jo m6 i n S E D6 ∧ (m4.fuse < 0 → m6.fuse < 0) ∧ ∃ us, Rob (fun b => X.heap.size ≤ b ∧ b < gw ∧ (c6 b).1 ≠ t) (fun W => TxsC W tv D6 us) w6 := by
        rcases q6 with q6 | q6
        · exact q6
        · exact absurd q6.1 (by have := RS.out.2.2.1; omega)
      subst he6
      have hgX : gd < X.heap.size := RX.out.2.2.row.lt
      have RT : Hid (Rob (Fr2 T c6 t gd) (fun W => TxsC W tv D6 us6) w6 ∧ Jc m6 i n D6 ∧ m6.steps ≤ m.steps + 5002 ∧ (∃ p cap, tv = .slice p D6.length cap)) := ⟨q11.next (Nat.le_refl _) fun b hb hp => ⟨rfl, hp.2.2, by omega, fun e => Nat.lt_irrefl _ (Nat.lt_of_lt_of_le (RX.out.2.2.str _ e) hp.1)⟩, q9.jc, by have := RS.out.1; omega, by obtain ⟨p, cap, e, _⟩ := q11.now; exact ⟨p, cap, e⟩⟩
      clear q1 q2 q3 q4 q5 q6 q7 q8 q9 q10 q11 hgX RX R5
      refine ⟨_, rfl, ?_⟩
      refine ⟨hS2, ?_⟩
      simp only [Act.put, aS, aC, aZ]
      refine takeH (i := 9) (some 49) rfl rfl (by kernel_rfl) (by kernel_rfl) (by kernel_rfl) (fun _ _ _ h => h) (gMove rfl (.tmp 58) rfl (.tuple #[(ptr gw6), tv, (.int .i64 0)]) rfl) hS2 ?_
      simp only [Act.put, aS, aC, aZ]
      refine takeH (i := 10) (some 59) rfl rfl (by kernel_rfl) (by kernel_rfl) (by kernel_rfl) (fun _ _ _ h => h) (gRun rfl (ptr gw6) fun _ _ => by simp [execOp, Act.eval, Instr.extract]) hS2 ?_
      simp only [Act.put, aS, aC, aZ]
      refine takeH (i := 11) (some 60) rfl rfl (by kernel_rfl) (by kernel_rfl) (by kernel_rfl) (fun _ _ _ h => h) (gRun rfl tv fun _ _ => by simp [execOp, Act.eval, Instr.extract]) hS2 ?_
      simp only [Act.put, aS, aC, aZ]
      refine takeH (i := 12) (some 61) rfl rfl (by kernel_rfl) (by kernel_rfl) (by kernel_rfl) (fun _ _ _ h => h) (gRun rfl (.int .i64 0) fun _ _ => by simp [execOp, Act.eval, Instr.extract]) hS2 ?_
      simp only [Act.put, aS, aC, aZ]
      refine takeH (i := 13) (some 6) rfl rfl (by kernel_rfl) (by kernel_rfl) (by kernel_rfl) (fun _ _ _ h => h) (gAssign rfl (.tmp 59) rfl (ptr gw6) rfl) hS2 ?_
      simp only [Act.put, aS, aC, aZ]
      refine takeH (i := 14) (some 7) rfl rfl (by kernel_rfl) (by kernel_rfl) (by kernel_rfl) (fun _ _ _ h => h) (gAssign rfl (.tmp 60) rfl tv rfl) hS2 ?_
      simp only [Act.put, aS, aC, aZ]
      refine takeH (i := 15) (some 8) rfl rfl (by kernel_rfl) (by kernel_rfl) (by kernel_rfl) (fun _ _ _ h => h) (gAssign rfl (.tmp 61) rfl (.int .i64 0) rfl) hS2 ?_
      simp only [Act.put, aS, aC, aZ]
      clear hS2
      refine wpAnyH_done (by kernel_rfl) ?_ _
      obtain ⟨pt, ct, htv⟩ := RT.out.2.2.2
      obtain ⟨n6, hn6⟩ : ∃ n6, n6 = D6.length := ⟨_, rfl⟩
      rw [← hn6] at htv
      subst htv
      have HN6 : Hid (n6 = D6.length) := hn6
      have hn6b : n6 ≤ 10000 := by rw [hn6]; have := RT.out.2.1.small.1; omega
      clear hn6
      have hnw : Rob (Fr2 T c6 t gd) (fun W => TxsC W nv D us) w6 := HNOW.out.next R6.out.2.2.2.1.size (Dk.later R6.out.2.2.1 R6.out.2.2.2.1)
      have kc3 := R6.out.1.row.at 3 _ rfl
      rcases HJ.out.2 with hDD | hDD
      · have HSY : Hid (Calls Tryd.prog 16 #[.slice pt n6 ct, nv] w6 fun e w' => e = .returned (.bool true) ∧ Below w6.heap.size w6 w') := (same_any RT.out.1.now.ins (by rw [hDD]; exact hnw.now.ins))
        clear hnw hDD
        go_upto_region 14 with (first | (refine wl_sl sl38 (.tmp 69) rfl rfl pt n6 ct rfl ?_) | (refine wl_sl sl38 (.tmp 107) rfl rfl pt n6 ct rfl ?_) | (go_at_call 16; refine HSY.out.mono ?_; rintro e w8 ⟨rfl, b8⟩; have R8 : Hid (Dk T w8 c6 t gd g m6 ds ts i n (ptr gw) nv (costs D) (dims + 1) ∧ Row w8 gop 31 (opCells k N txv (.slice kp kn kc)) ∧ Ch (fun b => (c b).1 = t ∨ b = gd) w w8 ∧ Rob (Fr2 T c6 t gd) (fun W => TxsC W (.slice pt n6 ct) D6 us6) w8 ∧ True) := ⟨R6.out.1.below b8, R6.out.2.1.later b8 R6.out.2.1.lt, R6.out.2.2.2.1.trans (Ch.of_below b8), RT.out.1.below b8, trivial⟩; clear b8))
        clear kc3 HSY
        refine wp_region_lit ?_
        refine wl_mv (.tmp 0) rfl rfl (ptr gd) rfl ?_
        simp only [Act.put, aS, aC, aZ]
        refine wl_fld f33_3 (.tmp 3) rfl rfl gop 0 rfl ?_
        simp only [Act.put, aS, aC, aZ]
        refine wl_ld o31 (.tmp 113) rfl rfl gop (0 + 3) rfl (.slice kp kn kc) (R8.out.2.1.at 3 _ rfl) ?_
        simp only [Act.put, aS, aC, aZ]
        refine wl_mv (.tmp 7) rfl rfl (.slice pt n6 ct) rfl ?_
        simp only [Act.put, aS, aC, aZ]
        refine wl rfl _ _ (run_lit41_1 (.tmp 115) rfl (.slice pt n6 ct) ⟨_, _, _, rfl⟩ rfl) ?_
        obtain ⟨gm, hgm⟩ : ∃ gm, gm = w8.heap.size := ⟨_, rfl⟩
        obtain ⟨w9, hw9⟩ : ∃ w9, w9 = w8.alloc (.cells #[.slice pt n6 ct] 36) := ⟨_, rfl⟩
        have b9 : Below w8.heap.size w8 w9 := by rw [hw9]; exact below_alloc w8 _
        have hmay : Rob (Fr2 T c6 t gd) (fun W => MayIn W (.slice (some ⟨gm, 0, none⟩) 1 1) [(.slice pt n6 ct, D6, us6)]) w9 := by
          rw [hw9, hgm]
          exact may_one R8.out.2.2.2.1 (R8.out.1.live.2.2 _ (Nat.le_refl _)) R8.out.1.row.lt (fun e => by have := R8.out.1.str _ e; omega)
        rw [← hgm, ← hw9]
        have HCL : Hid (Calls Tryd.prog 10 #[ptr gd, .slice kp kn kc, .slice (some ⟨gm, 0, none⟩) 1 1] w9 fun e w' => e = .returned (.bool true) ∧ PQ e w') := HOP.out w9 c6 _ _ _ [(.slice pt n6 ct, D6, us6)] D6 R6.out.2.2.1 (R8.out.2.2.1.trans (Ch.of_below b9)) (R8.out.1.below b9) R6.out.2.2.2.2.1 (by have := RT.out.2.2.1; omega) (by omega) RT.out.2.1 hmay (Or.inl rfl)
        clear hgm hw9 b9 hmay
        simp only [Act.put, aS, aC, aZ]
        refine wpList_callW eN16 [.tmp 112, .tmp 114, .tmp 116] _ rfl rfl [ptr gd, .slice kp kn kc, .slice (some ⟨gm, 0, none⟩) 1 1] rfl ?_
        refine HCL.out.mono ?_
        rintro e wz ⟨rfl, hQ⟩
        have HQ : Hid (PQ (.returned (.bool true)) wz) := hQ
        clear hQ HCL
        refine ⟨_, rfl, ?_⟩
        simp only [Act.put, aS, aC, aZ]
        refine wl_as (.tmp 117) rfl rfl (.bool true) rfl ?_
        simp only [Act.put, aS, aC, aZ]
        refine wpList_nil ?_
        go_wp2_with fail
        exact HQ.out
      · obtain rfl : n6 = 0 := by rw [HN6.out, hDD.1]; rfl
        have HSY : Hid (Calls Tryd.prog 16 #[.slice pt 0 ct, nv] w6 fun e w' => e = .returned (.bool false) ∧ Below w6.heap.size w6 w') := (sameNo_any RT.out.1.now.ins hnw.now.ins (by rw [hDD.1]; exact hDD.2))
        clear hnw hDD
        go_upto_region 14 with (first | (refine wl_sl sl38 (.tmp 69) rfl rfl pt 0 ct rfl ?_) | (refine wl_sl sl38 (.tmp 107) rfl rfl pt 0 ct rfl ?_) | (go_at_call 16; refine HSY.out.mono ?_; rintro e w8 ⟨rfl, b8⟩; have R8 : Hid (Dk T w8 c6 t gd g m6 ds ts i n (ptr gw) nv (costs D) (dims + 1) ∧ Row w8 gop 31 (opCells k N txv (.slice kp kn kc)) ∧ Ch (fun b => (c b).1 = t ∨ b = gd) w w8 ∧ Rob (Fr2 T c6 t gd) (fun W => TxsC W (.slice pt 0 ct) D6 us6) w8 ∧ True) := ⟨R6.out.1.below b8, R6.out.2.1.later b8 R6.out.2.1.lt, R6.out.2.2.2.1.trans (Ch.of_below b8), RT.out.1.below b8, trivial⟩; clear b8))
        clear kc3 HSY
        refine wp_region_lit ?_
        refine wl_mv (.tmp 0) rfl rfl (ptr gd) rfl ?_
        simp only [Act.put, aS, aC, aZ]
        refine wl_fld f33_3 (.tmp 3) rfl rfl gop 0 rfl ?_
        simp only [Act.put, aS, aC, aZ]
        refine wl_ld o31 (.tmp 113) rfl rfl gop (0 + 3) rfl (.slice kp kn kc) (R8.out.2.1.at 3 _ rfl) ?_
        simp only [Act.put, aS, aC, aZ]
        refine wl_mv (.tmp 7) rfl rfl (.slice pt 0 ct) rfl ?_
        simp only [Act.put, aS, aC, aZ]
        refine wl rfl _ _ (run_lit41_1 (.tmp 115) rfl (.slice pt 0 ct) ⟨_, _, _, rfl⟩ rfl) ?_
        obtain ⟨gm, hgm⟩ : ∃ gm, gm = w8.heap.size := ⟨_, rfl⟩
        obtain ⟨w9, hw9⟩ : ∃ w9, w9 = w8.alloc (.cells #[.slice pt 0 ct] 36) := ⟨_, rfl⟩
        have b9 : Below w8.heap.size w8 w9 := by rw [hw9]; exact below_alloc w8 _
        have hmay : Rob (Fr2 T c6 t gd) (fun W => MayIn W (.slice (some ⟨gm, 0, none⟩) 1 1) [(.slice pt 0 ct, D6, us6)]) w9 := by
          rw [hw9, hgm]
          exact may_one R8.out.2.2.2.1 (R8.out.1.live.2.2 _ (Nat.le_refl _)) R8.out.1.row.lt (fun e => by have := R8.out.1.str _ e; omega)
        rw [← hgm, ← hw9]
        have HCL : Hid (Calls Tryd.prog 10 #[ptr gd, .slice kp kn kc, .slice (some ⟨gm, 0, none⟩) 1 1] w9 fun e w' => e = .returned (.bool true) ∧ PQ e w') := HOP.out w9 c6 _ _ _ [(.slice pt 0 ct, D6, us6)] D6 R6.out.2.2.1 (R8.out.2.2.1.trans (Ch.of_below b9)) (R8.out.1.below b9) R6.out.2.2.2.2.1 (by have := RT.out.2.2.1; omega) (by omega) RT.out.2.1 hmay (Or.inl rfl)
        clear hgm hw9 b9 hmay
        simp only [Act.put, aS, aC, aZ]
        refine wpList_callW eN16 [.tmp 112, .tmp 114, .tmp 116] _ rfl rfl [ptr gd, .slice kp kn kc, .slice (some ⟨gm, 0, none⟩) 1 1] rfl ?_
        refine HCL.out.mono ?_
        rintro e wz ⟨rfl, hQ⟩
        have HQ : Hid (PQ (.returned (.bool true)) wz) := hQ
        clear hQ HCL
        refine ⟨_, rfl, ?_⟩
        simp only [Act.put, aS, aC, aZ]
        refine wl_as (.tmp 117) rfl rfl (.bool true) rfl ?_
        simp only [Act.put, aS, aC, aZ]
        refine wpList_nil ?_
        go_wp2_with fail
        exact HQ.out
end Go.Proofs.YtebalanfagglnaaDoor

/- Layer 8: a journal that is opened till it tells what it must. Layer 8: the power went off within a call: booted, and opened. -/
import Derived.Test.YtebalanfagglnaaDoorV34
namespace Go.Proofs.YtebalanfagglnaaDoor
open Go.RowKit Go.Maps
variable {T : Nat → Prop}

/-- Open of a journal at rest: it tells what it has; or the power goes off -/
theorem openJ_any {w : World} {c : Nat → Colour} {t g : Nat} {m : Pl} (h : Live w c t g m) {ds ts : List Nat} {i n : Nat} (hd : DiskOn m ds ts i) (hn : ds.getD i 0 = n) (ht : Fr.TabIn w) (htc : (c 0).1 ≠ t) {D : List (List (List Nat))} (hj : Jc m i n D) :
    Calls Tryd.prog 12 #[ptr g, .int .i64 (i : Nat)] w fun e w' => ∃ c' m', (∀ b, b < w.heap.size → c' b = c b) ∧ Live w' c' t g m' ∧ Ch (fun b => (c b).1 = t) w w' ∧ Rel m m' i ∧ m'.steps ≤ m.steps + 2 ∧
      ((∃ gw tv S E, e = .returned (.tuple #[ptr gw, tv, .int .i64 0]) ∧ w.heap.size ≤ gw ∧ WalAt w' c' t gw g (i : Int) S E ∧ Jo m' i n S E D ∧ (m.fuse < 0 → m'.fuse < 0) ∧ ∃ us, Rob (fun b => w.heap.size ≤ b ∧ b < gw ∧ (c' b).1 ≠ t) (fun W => TxsC W tv D us) w') ∨
       (0 ≤ m.fuse ∧ e = .returned (.tuple #[.pointer none, .slice none 0 0, .int .i64 2]) ∧ m'.on = false ∧ m'.WF ∧ ∀ ks, Jc (m'.boot ks) i n D)) := by
  have hst := hd.steps
  obtain ⟨S, B, F, rows, hJ, hD⟩ := hj
  have hsm := Jc.small ⟨S, B, F, rows, hJ, hD⟩
  have hS := hJ.lt (by omega)
  have h1 := hJ.openR (by omega)
  obtain ⟨_, hs1, hs2⟩ := headOpen hJ.head hJ.le hS
  have hlog := hJ.logOf (by omega)
  refine (open_any h hd ht htc).mono fun e w' he => ?_
  obtain ⟨wv, tv, he, c', hcc, hl, hch, ho, hx⟩ := he
  rw [hn, h1] at he hl ho hx
  refine ⟨c', (m.begin (i : Int) (S + 1) F).2, hcc, hl, hch, ?_⟩
  rcases hJ.beginC hJ.ltB with ⟨k1, k2, k3⟩ | ⟨k1, k2, k3⟩
  · have hle := k2.le
    simp only [List.length_singleton] at hle
    refine ⟨k2.oth.rel, by omega, Or.inl ?_⟩
    obtain ⟨gw, D', used, q1, q2, q3, q4, q5, q6, W5, q7, q8, q9⟩ := ho k1
    rw [hs1, hs2, hlog] at q3
    rw [hs1] at q5
    injection q3 with q3
    injection q3 with q3 q3'
    rw [hD] at q3
    subst q3 q3'
    obtain ⟨us, hus⟩ := q8.con (by omega) fun tx htx => by have := (notLong (hsm.2 tx htx)).1; omega
    refine ⟨gw, tv, S + 1, logLen rows, by rw [he, k1, q1], q2, q5, ⟨F, rows, k3, hD, rfl⟩, k2.fuse, us, fun W h2 h3 => ?_⟩
    exact hus W (by have := q5.row.lt; omega) fun b h4 h5 => (h3 b (by have := q5.row.lt; omega) ⟨h4, by omega, by rw [q6 b (by omega)]; exact h.2.2 b h4⟩).trans (q9 b h4 (by omega))
  · have hle := k2.le
    simp only [List.length_singleton] at hle
    refine ⟨k2.oth.rel, by omega, Or.inr ⟨k2.fuse, ?_, k2.off, k2.wf, fun ks => ?_⟩⟩
    · obtain ⟨q1, q2⟩ := hx (by rw [k1]; decide)
      rw [he, k1, q1, q2]
    · rcases k3 ks with k | k
      · exact ⟨S, B, F, rows, k, hD⟩
      · exact ⟨S + 1, B, F, rows, k, hD⟩
/-- what holds behind an opening of the desk's journal -/
structure Opn (T : Nat → Prop) (w : World) (c : Nat → Colour) (t gd g : Nat) (m : Pl) (ds ts : List Nat) (i n : Nat) (D : List (List (List Nat))) (dims K Kd : Nat) (w' : World) (c' : Nat → Colour) (gw : Nat) (m' : Pl) (S E : Nat) (nv' : Value) (dims' : Nat) : Prop where
  cc : ∀ b, b < w.heap.size → c' b = c b
  ch : Ch (fun b => (c b).1 = t ∨ b = gd) w w'
  dk : Dk T w' c' t gd g m' ds ts i n (ptr gw) nv' (costs D) dims'
  wal : WalAt w' c' t gw g (i : Int) S E
  new : w.heap.size ≤ gw
  jo : Jo m' i n S E D
  now : ∃ us, Rob (Fr3 T c' t gd gw) (fun W => TxsC W nv' D us) w'
  rel : Rel m m' i
  le : m'.steps ≤ m.steps + K
  dim : dims' ≤ dims + Kd
/-- what holds ahead of each round -/
structure OpSt (T : Nat → Prop) (w : World) (c : Nat → Colour) (t gd g : Nat) (m : Pl) (ds ts : List Nat) (i n : Nat) (D : List (List (List Nat))) (wv nv : Value) (cost dims : Nat) (kv : Value) (ks : List Int) (mv : Value) (l : List (Value × List (List (List Nat)) × List Value)) (k : Nat) (W : World) (c1 : Nat → Colour) (m1 : Pl) (d1 : Nat) : Prop where
  le : k ≤ 1
  fuse : k = 1 → m1.fuse < 0
  dk : Dk T W c1 t gd g m1 ds ts i n wv nv cost d1
  jc : Jc m1 i n D
  cc : ∀ b, b < w.heap.size → c1 b = c b
  ch : Ch (fun b => (c b).1 = t ∨ b = gd) w W
  rel : Rel m m1 i
  steps : m1.steps ≤ m.steps + 4 * k
  dim : d1 ≤ dims + k
  keep : KeepX W (Fr2 T c1 t gd) kv ks
  may : Rob (Fr2 T c1 t gd) (fun W => MayIn W mv l) W
theorem Dk.later {w w1 : World} {c c1 : Nat → Colour} {t gd : Nat} (hcc : ∀ b, b < w.heap.size → c1 b = c b) (hch : Ch (fun b => (c b).1 = t ∨ b = gd) w w1) : ∀ b, b < w.heap.size → Fr2 T c t gd b → w1.heap[b]? = w.heap[b]? ∧ Fr2 T c1 t gd b := fun b hb hp => ⟨hch.block b hb (fun e => e.elim hp.1 hp.2.1), by unfold Fr2; rw [hcc b hb]; exact hp⟩
theorem chT {w w1 : World} {c : Nat → Colour} {t gd : Nat} (h : Ch (fun b => (c b).1 = t) w w1) : Ch (fun b => (c b).1 = t ∨ b = gd) w w1 := h.mono fun _ _ e => Or.inl e
theorem chG {w w1 : World} {c : Nat → Colour} {t gd : Nat} (h : Ch (· = gd) w w1) : Ch (fun b => (c b).1 = t ∨ b = gd) w w1 := h.mono fun _ _ e => Or.inr e
set_option maxHeartbeats 4000000 in
set_option maxRecDepth 100000 in
theorem opened_any {w : World} {c : Nat → Colour} {t gd g : Nat} {m : Pl} {ds ts : List Nat} {i n : Nat} {wv nv : Value} {cost dims : Nat} (h : Dk T w c t gd g m ds ts i n wv nv cost dims) {D : List (List (List Nat))} (hj : Jc m i n D) (hst : m.steps + 20010 < 1099511627775) (hdm : dims ≤ 999999990) {kv : Value} {ks : List Int} (hk : KeepX w (Fr2 T c t gd) kv ks) {mv : Value} {l : List (Value × List (List (List Nat)) × List Value)} (hm : Rob (Fr2 T c t gd) (fun W => MayIn W mv l) w) (ha : Among D (l.map (·.2.1))) :
    Calls Tryd.prog 10 #[ptr gd, kv, mv] w fun e w' => e = .returned (.bool true) ∧ ∃ c' gw m' S E nv' dims', Opn T w c t gd g m ds ts i n D dims 8 1 w' c' gw m' S E nv' dims' := by
  have H0 : Hid (OpSt T w c t gd g m ds ts i n D wv nv cost dims kv ks mv l 0 w c m dims) := ⟨Nat.zero_le _, fun e => absurd e (by decide), h, hj, fun _ _ => rfl, Ch.refl _ _, Rel.refl m i, Nat.le_refl _, Nat.le_refl _, hk, hm⟩
  have HST : Hid (m.steps + 20010 < 1099511627775 ∧ dims ≤ 999999990 ∧ 8 ≤ n) := ⟨hst, hdm, hj.lv.2.2.2⟩
  obtain ⟨mb, mo, mc, hmv, hml, hmx⟩ := hm.now
  obtain ⟨L, hL⟩ : ∃ L, L = l.length := ⟨_, rfl⟩
  have HA : Hid (∃ (j : Nat) (v : Value) (us : List Value), l[j]? = some (v, D, us) ∧ ∀ k : Nat, k < j → ∃ x : Value × List (List (List Nat)) × List Value, l[k]? = some x ∧ x.2.1.length ≠ D.length) := by
    obtain ⟨j, h1, h2⟩ := ha.at
    rw [List.getElem?_map] at h1
    obtain ⟨x, h3, h4⟩ := Option.map_eq_some_iff.1 h1
    refine ⟨j, x.1, x.2.2, by rw [h3, ← h4], fun k hk => ?_⟩
    obtain ⟨y, h5, h6⟩ := h2 k hk
    rw [List.getElem?_map] at h5
    obtain ⟨x', h7, h8⟩ := Option.map_eq_some_iff.1 h5
    exact ⟨x', h7, by rw [h8]; exact h6⟩
  have HM : Hid (∀ W, MayIn W mv l → ∀ j x, l[j]? = some x → W.cell? ⟨mb, mo + j, none⟩ = some x.1 ∧ TxsC W x.1 x.2.1 x.2.2) := fun W hW j x hx => by
    obtain ⟨b', o', c', e, _, h2⟩ := hW
    rw [hmv] at e
    injection e with e1 e2 e3
    injection e1 with e1
    injection e1 with e1 e4
    rw [e1, e4]
    exact h2 j x hx
  have HLL : Hid (L = l.length) := hL
  have hL1 : L ≤ 1000 := by omega
  rw [← hL] at hmv
  obtain ⟨PQ, hPQ⟩ : ∃ PQ : Ending → World → Prop, PQ = fun (e : Ending) (w' : World) => e = .returned (.bool true) ∧ ∃ c' gw m' S E nv' dims', Opn T w c t gd g m ds ts i n D dims 8 1 w' c' gw m' S E nv' dims' := ⟨_, rfl⟩
  have HPQ : Hid (PQ = fun (e : Ending) (w' : World) => e = .returned (.bool true) ∧ ∃ c' gw m' S E nv' dims', Opn T w c t gd g m ds ts i n D dims 8 1 w' c' gw m' S E nv' dims') := hPQ
  rw [← hPQ]
  obtain ⟨kp, kn, kc, hkv⟩ := hk.isSl
  have HKV : Hid (kv = .slice kp kn kc) := hkv
  have HMV : Hid (mv = .slice (some ⟨mb, mo, none⟩) L mc) := hmv
  rw [hkv, hmv]
  clear hPQ h hj hst hdm hk hm ha hml hmx hL hkv hmv
  go_enter Tryd.func10, Tryd.ntmps10
  go_upto_region 1 with fail
  go_wp2_with fail
  go_loopw [7] (fun vi W => ∃ (k : Nat) (c1 : Nat → Colour) (m1 : Pl) (d1 : Nat), vi = .int .i64 (k : Nat) ∧ OpSt T w c t gd g m ds ts i n D wv nv cost dims kv ks mv l k W c1 m1 d1) (fun vi _ => 3 - (intOf vi).toNat)
  case atStart => exact ⟨0, c, m, dims, rfl, H0.out⟩
  case round =>
    obtain ⟨k, c1, m1, d1, rfl, hI⟩ := hrel
    have HI : Hid (OpSt T w c t gd g m ds ts i n D wv nv cost dims kv ks mv l k wr c1 m1 d1) := hI
    have hk1 := hI.le
    have t0 : decide ((k : Int) < 3) = true := decide_eq_true (by omega)
    have HOJ : Hid (∀ W, Below wr.heap.size wr W → Calls Tryd.prog 12 #[ptr g, .int .i64 (i : Nat)] W fun e w' => ∃ c' m', (∀ b, b < W.heap.size → c' b = c1 b) ∧ Live w' c' t g m' ∧ Ch (fun b => (c1 b).1 = t) W w' ∧ Rel m1 m' i ∧ m'.steps ≤ m1.steps + 2 ∧
      ((∃ gw tv S E, e = .returned (.tuple #[ptr gw, tv, .int .i64 0]) ∧ W.heap.size ≤ gw ∧ WalAt w' c' t gw g (i : Int) S E ∧ Jo m' i n S E D ∧ (m1.fuse < 0 → m'.fuse < 0) ∧ ∃ us, Rob (fun b => W.heap.size ≤ b ∧ b < gw ∧ (c' b).1 ≠ t) (fun W => TxsC W tv D us) w') ∨
       (0 ≤ m1.fuse ∧ e = .returned (.tuple #[.pointer none, .slice none 0 0, .int .i64 2]) ∧ m'.on = false ∧ m'.WF ∧ ∀ ks, Jc (m'.boot ks) i n D))) := fun W hW => openJ_any (HI.out.dk.live.below hW) (HI.out.dk.diskOn HST.out.2.2 HI.out.jc.lv.1.on (by have := HI.out.steps; have := HI.out.le; have := HST.out.1; omega)) HI.out.dk.size (TabIn.later HI.out.dk.tab hW) HI.out.dk.tap HI.out.jc
    clear hI H0
    go_upto_region 4 with fail
    skip
    refine wp_region_held (S := fun X => Row X gd 38 (dkCells g i wv nv cost n d1)) (by kernel_rfl) ?_
    show wpAnyH _ _ _ _ _ 16 (Array.replicate 16 false) _ _
    obtain ⟨X, hX⟩ : ∃ X : World, X = { wr with drawn := wr.drawn + 1 } := ⟨_, rfl⟩
    rw [← hX]
    have hbX : Below wr.heap.size wr X := by rw [hX]; exact ⟨rfl, rfl, rfl, Nat.le_refl _, fun _ _ => rfl⟩
    have RX : Hid (Below wr.heap.size wr X ∧ Dk T X c1 t gd g m1 ds ts i n wv nv cost d1) := ⟨hbX, HI.out.dk.below hbX⟩
    have hS0 : Row X gd 38 (dkCells g i wv nv cost n d1) := RX.out.2.row
    clear hbX
    clear hX
    refine takeH (i := 0) (some 17) rfl rfl (by kernel_rfl) (by kernel_rfl) (by kernel_rfl) (fun _ _ _ h => h) (gMove rfl (.tmp 0) rfl (ptr gd) rfl) hS0 ?_
    simp only [Act.put, aS, aC, aZ]
    refine takeH (i := 1) (some 18) rfl rfl (by kernel_rfl) (by kernel_rfl) (by kernel_rfl) (fun _ _ _ h => h) (nilOp rfl (.tmp 17) rfl ⟨gd, 0, none⟩ rfl) hS0 ?_
    simp only [Act.put, aS, aC, aZ]
    refine takeH (i := 2) (some 19) rfl rfl (by kernel_rfl) (by kernel_rfl) (by kernel_rfl) (fun _ _ _ h => h) (gField f40_0 rfl (.tmp 18) rfl gd 0 rfl) hS0 ?_
    simp only [Act.put, aS, aC, aZ]
    refine takeH (i := 3) (some 20) rfl rfl (by kernel_rfl) (by kernel_rfl) (by kernel_rfl) (fun _ _ _ h => h) (gLoad o25 rfl (.tmp 19) rfl gd (0 + 0) rfl (ptr g) (fun _ h => (h.at 0 _ rfl))) hS0 ?_
    simp only [Act.put, aS, aC, aZ]
    refine takeH (i := 4) (some 21) rfl rfl (by kernel_rfl) (by kernel_rfl) (by kernel_rfl) (fun _ _ _ h => h) (gMove rfl (.tmp 0) rfl (ptr gd) rfl) hS0 ?_
    simp only [Act.put, aS, aC, aZ]
    refine takeH (i := 5) (some 22) rfl rfl (by kernel_rfl) (by kernel_rfl) (by kernel_rfl) (fun _ _ _ h => h) (nilOp rfl (.tmp 21) rfl ⟨gd, 0, none⟩ rfl) hS0 ?_
    simp only [Act.put, aS, aC, aZ]
    refine takeH (i := 6) (some 23) rfl rfl (by kernel_rfl) (by kernel_rfl) (by kernel_rfl) (fun _ _ _ h => h) (gField f40_1 rfl (.tmp 22) rfl gd 0 rfl) hS0 ?_
    simp only [Act.put, aS, aC, aZ]
    refine takeH (i := 7) (some 24) rfl rfl (by kernel_rfl) (by kernel_rfl) (by kernel_rfl) (fun _ _ _ h => h) (gLoad o3' rfl (.tmp 23) rfl gd (0 + 1) rfl (.int .i64 (i : Nat)) (fun _ h => (h.at 1 _ rfl))) hS0 ?_
    simp only [Act.put, aS, aC, aZ]
    clear hS0
    refine oneH (i := 8) (by kernel_rfl) ?_
    refine opCallA (some 25) rfl rfl rfl 12 _ (run_call eN20 [.tmp 20, .tmp 24] _ rfl [ptr g, .int .i64 (i : Nat)] rfl) ?_
    refine (HOJ.out X RX.out.1).mono ?_
    rintro e w2 ⟨c2, m2, q1, q2, q3, q4, q5, q6⟩
    have hS2 : Row w2 gd 38 (dkCells g i wv nv cost n d1) := q3.row RX.out.2.ap RX.out.2.row
    have R2 : Hid (Dk T w2 c2 t gd g m2 ds ts i n wv nv cost d1 ∧ (∀ b, b < wr.heap.size → c2 b = c1 b) ∧ Ch (fun b => (c1 b).1 = t) wr w2 ∧ Rel m1 m2 i ∧ m2.steps ≤ m1.steps + 2) := ⟨RX.out.2.nx q1 q2 q3 q4.sh, fun b hb => q1 b (Nat.lt_of_lt_of_le hb RX.out.1.size), (Ch.of_below RX.out.1).trans q3, q4, q5⟩
    have hXs := RX.out.1.size
    clear q1 q2 q3 q4 q5 HOJ RX
    rcases q6 with ⟨gw, tv, S, E, rfl, q7, q8, q9, q10, q11⟩ | ⟨q7, rfl, q8, q9, q10⟩
    · have RA : Hid (wr.heap.size ≤ gw ∧ WalAt w2 c2 t gw g (i : Int) S E ∧ Jo m2 i n S E D ∧ Rob (fun b => wr.heap.size ≤ b ∧ b < gw ∧ (c2 b).1 ≠ t) (fun W => TxsIn W tv D) w2) := ⟨by omega, q8, q9, by obtain ⟨us, q11⟩ := q11; exact fun W h1 h2 => (q11 W h1 fun b h3 h4 => h2 b h3 ⟨by omega, h4.2⟩).ins⟩
      clear q7 q8 q9 q10 q11 hXs
      refine ⟨_, rfl, ?_⟩
      refine ⟨hS2, ?_⟩
      simp only [Act.put, aS, aC, aZ]
      refine takeH (i := 9) (some 16) rfl rfl (by kernel_rfl) (by kernel_rfl) (by kernel_rfl) (fun _ _ _ h => h) (gMove rfl (.tmp 25) rfl (.tuple #[(ptr gw), tv, (.int .i64 0)]) rfl) hS2 ?_
      simp only [Act.put, aS, aC, aZ]
      refine takeH (i := 10) (some 26) rfl rfl (by kernel_rfl) (by kernel_rfl) (by kernel_rfl) (fun _ _ _ h => h) (gRun rfl (ptr gw) fun _ _ => by simp [execOp, Act.eval, Instr.extract]) hS2 ?_
      simp only [Act.put, aS, aC, aZ]
      refine takeH (i := 11) (some 27) rfl rfl (by kernel_rfl) (by kernel_rfl) (by kernel_rfl) (fun _ _ _ h => h) (gRun rfl tv fun _ _ => by simp [execOp, Act.eval, Instr.extract]) hS2 ?_
      simp only [Act.put, aS, aC, aZ]
      refine takeH (i := 12) (some 28) rfl rfl (by kernel_rfl) (by kernel_rfl) (by kernel_rfl) (fun _ _ _ h => h) (gRun rfl (.int .i64 0) fun _ _ => by simp [execOp, Act.eval, Instr.extract]) hS2 ?_
      simp only [Act.put, aS, aC, aZ]
      refine takeH (i := 13) (some 8) rfl rfl (by kernel_rfl) (by kernel_rfl) (by kernel_rfl) (fun _ _ _ h => h) (gAssign rfl (.tmp 26) rfl (ptr gw) rfl) hS2 ?_
      simp only [Act.put, aS, aC, aZ]
      refine takeH (i := 14) (some 9) rfl rfl (by kernel_rfl) (by kernel_rfl) (by kernel_rfl) (fun _ _ _ h => h) (gAssign rfl (.tmp 27) rfl tv rfl) hS2 ?_
      simp only [Act.put, aS, aC, aZ]
      refine takeH (i := 15) (some 10) rfl rfl (by kernel_rfl) (by kernel_rfl) (by kernel_rfl) (fun _ _ _ h => h) (gAssign rfl (.tmp 28) rfl (.int .i64 0) rfl) hS2 ?_
      simp only [Act.put, aS, aC, aZ]
      clear hS2
      refine wpAnyH_done (by kernel_rfl) ?_ _
      go_upto_region 10 with fail
      refine wp_region_lit ?_
      refine wl_mv (.tmp 0) rfl rfl (ptr gd) rfl ?_
      simp only [Act.put, aS, aC, aZ]
      refine wl_mv (.tmp 8) rfl rfl (ptr gw) rfl ?_
      simp only [Act.put, aS, aC, aZ]
      refine wl_nil (.tmp 67) rfl rfl ⟨gd, 0, none⟩ rfl ?_
      simp only [Act.put, aS, aC, aZ]
      refine wl_fld f40_2 (.tmp 69) rfl rfl gd 0 rfl ?_
      simp only [Act.put, aS, aC, aZ]
      refine wl_put s37 (.tmp 70) (.tmp 68) rfl rfl rfl gd (0 + 2) 38 (dkCells g i wv nv cost n d1) rfl (ptr gw) rfl ⟨rfl, rfl⟩ R2.out.1.row (show 0 + 2 < 7 by decide) ?_
      refine wpList_nil ?_
      obtain ⟨w3, hw3⟩ : ∃ w3, w3 = w2.setCell ⟨gd, 0 + 2, none⟩ (ptr gw) := ⟨_, rfl⟩
      have hset := R2.out.1.set (0 + 2) (ptr gw) (wv' := ptr gw) (nv' := nv) (cost' := cost) (dims' := d1) rfl R2.out.1.dim
      rw [← hw3] at hset
      rw [← hw3]
      have hz3 : w3.heap.size = w2.heap.size := by rw [hw3]; exact World.size_setCell _ _ _
      have R3 : Hid (Dk T w3 c2 t gd g m2 ds ts i n (ptr gw) nv cost d1 ∧ Ch (· = gd) w2 w3 ∧ w3.heap.size = w2.heap.size) := ⟨hset.1, hset.2, hz3⟩
      clear hset hw3 hz3
      have hgd := HI.out.dk.row.lt
      have RW : Hid (WalAt w3 c2 t gw g (i : Int) S E ∧ Rob (fun b => wr.heap.size ≤ b ∧ b < gw ∧ (c2 b).1 ≠ t) (fun W => TxsIn W tv D) w3 ∧ Rob (Fr3 T c2 t gd gw) (fun W => MayIn W mv l) w3) := by
        have hne : gw ≠ gd := by have := RA.out.1; omega
        refine ⟨⟨R3.out.2.1.row hne RA.out.2.1.row, RA.out.2.1.ap, R3.out.1.tab, RA.out.2.1.tap⟩, RA.out.2.2.2.kept (by rw [R3.out.2.2]; exact Nat.le_refl _) fun b hb hp => R3.out.2.1.block b hb (by omega), ?_⟩
        refine (HI.out.may.next (P' := Fr3 T c2 t gd gw) R2.out.2.2.1.size fun b hb hp => ⟨R2.out.2.2.1.block b hb hp.1, by rw [R2.out.2.1 b hb]; exact hp.1, hp.2.1, (by have := RA.out.1; omega), hp.2.2⟩).kept (by rw [R3.out.2.2]; exact Nat.le_refl _) fun b hb hp => R3.out.2.1.block b hb hp.2.1
      have RC : Hid ((∀ b, b < w.heap.size → c2 b = c b) ∧ Ch (fun b => (c b).1 = t ∨ b = gd) w w3 ∧ w.heap.size ≤ gw ∧ Rel m m2 i ∧ m2.steps ≤ m.steps + 6) := by
        refine ⟨fun b hb => by rw [R2.out.2.1 b (Nat.lt_of_lt_of_le hb HI.out.ch.size)]; exact HI.out.cc b hb, (HI.out.ch.trans' (chT R2.out.2.2.1) fun b hb e => by rw [← HI.out.cc b hb]; exact e).trans (chG R3.out.2.1), Nat.le_trans HI.out.ch.size RA.out.1, HI.out.rel.trans R2.out.2.2.2.1, by have := R2.out.2.2.2.2; have := HI.out.steps; have := HI.out.le; omega⟩
      have RD : Hid (d1 ≤ dims + 1 ∧ gd < gw) := ⟨by have := HI.out.dim; have := HI.out.le; omega, by have := RA.out.1; omega⟩
      have RJO : Hid (Jo m2 i n S E D) := RA.out.2.2.1
      clear hgd R2 RA HI t0 hk1 HKV HST
      obtain ⟨j0, v0, us0, hj0, hj1⟩ := HA.out
      have HJ0 : Hid (l[j0]? = some (v0, D, us0) ∧ ∀ k : Nat, k < j0 → ∃ x : Value × List (List (List Nat)) × List Value, l[k]? = some x ∧ x.2.1.length ≠ D.length) := ⟨hj0, hj1⟩
      have hjL : j0 < L := by rw [HLL.out]; exact (List.getElem?_eq_some_iff.1 hj0).1
      clear hj0 hj1 HA
      go_upto_region 11 with fail
      go_wp2_with fail
      simp only [Nat.zero_add]
      go_loopw [11] (fun vj W => ∃ j : Nat, vj = .int .i64 (j : Nat) ∧ j ≤ j0 ∧ Below w3.heap.size w3 W) (fun vj _ => L - (intOf vj).toNat)
      case atStart => exact ⟨0, rfl, Nat.zero_le _, Below.refl _ _⟩
      case round =>
        obtain ⟨j, rfl, hjj, hW⟩ := hrel
        have HW : Hid (Below w3.heap.size w3 wr) := hW
        clear hW
        have t1 : decide ((j : Int) < (L : Int)) = true := decide_eq_true (by omega)
        rcases Nat.lt_or_ge j j0 with hlt | hge
        · obtain ⟨x, hx1, hx2⟩ := HJ0.out.2 j hlt
          obtain ⟨hc, hin⟩ := HM.out wr (RW.out.2.2.below HW.out).now j x hx1
          have hno := sameNo_any (RW.out.2.1.below HW.out).now hin.ins hx2
          obtain ⟨xv, hxv⟩ : ∃ xv, xv = x.1 := ⟨_, rfl⟩
          rw [← hxv] at hc hno
          have HSN : Hid (Calls Tryd.prog 16 #[tv, xv] wr fun e w' => e = .returned (.bool false) ∧ Below wr.heap.size wr w') := hno
          have hjn : j < L := by omega
          clear hx1 hx2 hin hno hxv
          go_wp2_with (first
            | (refine wl_sl sl41 (.tmp 72) rfl rfl _ L mc rfl ?_)
            | (refine wl_ix (.tmp 78) (.tmp 79) rfl rfl _ _ _ rfl rfl (idx41 mb mo L mc j hjn) ?_)
            | (go_at_call 16; refine HSN.out.mono ?_; rintro e w4 ⟨rfl, b4⟩; have R4 : Hid (Below w3.heap.size w3 w4) := HW.out.trans (b4.mono HW.out.size); clear b4))
          refine ⟨⟨j + 1, by go_num, by omega, R4.out⟩, ?_⟩
          simp [intOf]; omega
        · obtain rfl : j = j0 := by omega
          obtain ⟨hc, hin⟩ := HM.out wr (RW.out.2.2.below HW.out).now j _ HJ0.out.1
          simp only at hc hin
          have HSY : Hid (Calls Tryd.prog 16 #[tv, v0] wr fun e w' => e = .returned (.bool true) ∧ Below wr.heap.size wr w') := same_any (RW.out.2.1.below HW.out).now hin.ins
          have HV : Hid (∃ p q r, v0 = .slice p q r) := by obtain ⟨p, cap, e, _⟩ := hin; exact ⟨p, _, cap, e⟩
          clear hin
          go_upto_region 15 with (first
            | (refine wl_sl sl41 (.tmp 72) rfl rfl _ L mc rfl ?_)
            | (refine wl_ix (.tmp 78) (.tmp 79) rfl rfl _ _ _ rfl rfl (idx41 mb mo L mc j hjL) ?_)
            | (go_at_call 16; refine HSY.out.mono ?_; rintro e w4 ⟨rfl, b4⟩; have R4 : Hid (Below w3.heap.size w3 w4) := HW.out.trans (b4.mono HW.out.size); clear b4))
          have hc4 : w4.cell? ⟨mb, mo + j, none⟩ = some v0 := (HM.out w4 (RW.out.2.2.below R4.out).now j _ HJ0.out.1).1
          have RDk : Hid (Dk T w4 c2 t gd g m2 ds ts i n (ptr gw) nv cost d1) := R3.out.1.below R4.out
          refine wp_region_lit ?_
          refine wl_mv (.tmp 0) rfl rfl (ptr gd) rfl ?_
          simp only [Act.put, aS, aC, aZ]
          refine wl_mv (.tmp 2) rfl rfl (.slice (some ⟨mb, mo, none⟩) L mc) rfl ?_
          simp only [Act.put, aS, aC, aZ]
          refine wl_mv (.tmp 11) rfl rfl (.int .i64 (j : Nat)) rfl ?_
          simp only [Act.put, aS, aC, aZ]
          refine wl_ix (.tmp 84) (.tmp 85) rfl rfl _ _ _ rfl rfl (idx41 mb mo L mc j hjL) ?_
          simp only [Act.put, aS, aC, aZ]
          refine wl_ld o38 (.tmp 86) rfl rfl mb (mo + j) rfl v0 hc4 ?_
          simp only [Act.put, aS, aC, aZ]
          refine wl_nil (.tmp 83) rfl rfl ⟨gd, 0, none⟩ rfl ?_
          simp only [Act.put, aS, aC, aZ]
          refine wl_fld f40_3 (.tmp 88) rfl rfl gd 0 rfl ?_
          simp only [Act.put, aS, aC, aZ]
          refine wl_put s38 (.tmp 89) (.tmp 87) rfl rfl rfl gd (0 + 3) 38 (dkCells g i (ptr gw) nv cost n d1) rfl v0 rfl (by obtain ⟨p, q, r, e⟩ := HV.out; rw [e]; exact ⟨rfl, rfl⟩) RDk.out.row (show 0 + 3 < 7 by decide) ?_
          refine wpList_nil ?_
          obtain ⟨w5, hw5⟩ : ∃ w5, w5 = w4.setCell ⟨gd, 0 + 3, none⟩ v0 := ⟨_, rfl⟩
          have hset := RDk.out.set (0 + 3) v0 (wv' := ptr gw) (nv' := v0) (cost' := cost) (dims' := d1) rfl RDk.out.dim
          rw [← hw5] at hset
          rw [← hw5]
          have hz5 : w5.heap.size = w4.heap.size := by rw [hw5]; exact World.size_setCell _ _ _
          have hnow : Rob (Fr3 T c2 t gd gw) (fun W => TxsC W v0 D us0) w5 := (((RW.out.2.2.mono fun W hW => (HM.out W hW j _ HJ0.out.1).2).below R4.out).kept (by rw [hz5]; exact Nat.le_refl _) fun b hb hp => hset.2.block b hb hp.2.1)
          have R5 : Hid (Dk T w5 c2 t gd g m2 ds ts i n (ptr gw) v0 cost d1 ∧ Ch (fun b => b = gd) w3 w5 ∧ Rob (Fr3 T c2 t gd gw) (fun W => TxsC W v0 D us0) w5) := ⟨hset.1, (Ch.of_below R4.out).trans hset.2, hnow⟩
          have hsm := Jc.small (Jo.jc RJO.out)
          have HSU : Hid (Calls Tryd.prog 23 #[v0] w5 fun e w' => e = .returned (.int .i64 (costs D : Nat)) ∧ w5 = w') := sum_any w5 v0 D hnow.now.ins hsm.2 hsm.1
          clear hset hw5 hz5 hnow hc4 RDk hc hsm
          go_upto_region 16 with fail
          refine wp_region_lit ?_
          refine wl_mv (.tmp 0) rfl rfl (ptr gd) rfl ?_
          simp only [Act.put, aS, aC, aZ]
          refine wl_mv (.tmp 0) rfl rfl (ptr gd) rfl ?_
          simp only [Act.put, aS, aC, aZ]
          refine wl_nil (.tmp 91) rfl rfl ⟨gd, 0, none⟩ rfl ?_
          simp only [Act.put, aS, aC, aZ]
          refine wl_fld f40_3 (.tmp 92) rfl rfl gd 0 rfl ?_
          simp only [Act.put, aS, aC, aZ]
          refine wl_ld o38 (.tmp 93) rfl rfl gd (0 + 3) rfl v0 (R5.out.1.row.at 3 _ rfl) ?_
          simp only [Act.put, aS, aC, aZ]
          refine wpList_callF eN34 [.tmp 94] _ rfl rfl [v0] rfl ?_
          refine HSU.out.mono ?_
          rintro e w6 ⟨rfl, rfl⟩
          refine ⟨_, rfl, ?_⟩
          simp only [Act.put, aS, aC, aZ]
          refine wl_nil (.tmp 90) rfl rfl ⟨gd, 0, none⟩ rfl ?_
          simp only [Act.put, aS, aC, aZ]
          refine wl_fld f40_4 (.tmp 96) rfl rfl gd 0 rfl ?_
          simp only [Act.put, aS, aC, aZ]
          refine wl_put s3 (.tmp 97) (.tmp 95) rfl rfl rfl gd (0 + 4) 38 (dkCells g i (ptr gw) v0 cost n d1) rfl (.int .i64 (costs D : Nat)) rfl ⟨rfl, rfl⟩ R5.out.1.row (show 0 + 4 < 7 by decide) ?_
          refine wpList_nil ?_
          obtain ⟨w7, hw7⟩ : ∃ w7, w7 = w5.setCell ⟨gd, 0 + 4, none⟩ (.int .i64 (costs D : Nat)) := ⟨_, rfl⟩
          have hset := R5.out.1.set (0 + 4) (.int .i64 (costs D : Nat)) (wv' := ptr gw) (nv' := v0) (cost' := costs D) (dims' := d1) rfl R5.out.1.dim
          rw [← hw7] at hset
          rw [← hw7]
          have hz7 : w7.heap.size = w5.heap.size := by rw [hw7]; exact World.size_setCell _ _ _
          have hch : Ch (fun b => b = gd) w3 w7 := R5.out.2.1.trans hset.2
          have RE : Hid (Opn T w c t gd g m ds ts i n D dims 8 1 w7 c2 gw m2 S E v0 d1) := by
            refine ⟨RC.out.1, RC.out.2.1.trans (chG hch), hset.1, ⟨hch.row (by have := RD.out.2; omega) RW.out.1.row, RW.out.1.ap, hset.1.tab, RW.out.1.tap⟩, RC.out.2.2.1, RJO.out, ⟨us0, R5.out.2.2.kept (by rw [hz7]; exact Nat.le_refl _) fun b hb hp => hset.2.block b hb hp.2.1⟩, RC.out.2.2.2.1, by have := RC.out.2.2.2.2; omega, by have := RD.out.1; omega⟩
          clear hset hw7 hz7 hch R5
          go_wp2_with fail
          rw [HPQ.out]
          exact ⟨rfl, c2, gw, m2, S, E, v0, d1, RE.out⟩
    · have RB : Hid (m2.on = false ∧ m2.WF ∧ (∀ ks, Jc (m2.boot ks) i n D) ∧ k = 0) := ⟨q8, q9, q10, Classical.byContradiction fun hne => absurd (HI.out.fuse (by omega)) (by omega)⟩
      clear q7 q8 q9 q10 hXs
      refine ⟨_, rfl, ?_⟩
      refine ⟨hS2, ?_⟩
      simp only [Act.put, aS, aC, aZ]
      refine takeH (i := 9) (some 16) rfl rfl (by kernel_rfl) (by kernel_rfl) (by kernel_rfl) (fun _ _ _ h => h) (gMove rfl (.tmp 25) rfl (.tuple #[(.pointer none), (.slice none 0 0), (.int .i64 2)]) rfl) hS2 ?_
      simp only [Act.put, aS, aC, aZ]
      refine takeH (i := 10) (some 26) rfl rfl (by kernel_rfl) (by kernel_rfl) (by kernel_rfl) (fun _ _ _ h => h) (gRun rfl (.pointer none) fun _ _ => by simp [execOp, Act.eval, Instr.extract]) hS2 ?_
      simp only [Act.put, aS, aC, aZ]
      refine takeH (i := 11) (some 27) rfl rfl (by kernel_rfl) (by kernel_rfl) (by kernel_rfl) (fun _ _ _ h => h) (gRun rfl (.slice none 0 0) fun _ _ => by simp [execOp, Act.eval, Instr.extract]) hS2 ?_
      simp only [Act.put, aS, aC, aZ]
      refine takeH (i := 12) (some 28) rfl rfl (by kernel_rfl) (by kernel_rfl) (by kernel_rfl) (fun _ _ _ h => h) (gRun rfl (.int .i64 2) fun _ _ => by simp [execOp, Act.eval, Instr.extract]) hS2 ?_
      simp only [Act.put, aS, aC, aZ]
      refine takeH (i := 13) (some 8) rfl rfl (by kernel_rfl) (by kernel_rfl) (by kernel_rfl) (fun _ _ _ h => h) (gAssign rfl (.tmp 26) rfl (.pointer none) rfl) hS2 ?_
      simp only [Act.put, aS, aC, aZ]
      refine takeH (i := 14) (some 9) rfl rfl (by kernel_rfl) (by kernel_rfl) (by kernel_rfl) (fun _ _ _ h => h) (gAssign rfl (.tmp 27) rfl (.slice none 0 0) rfl) hS2 ?_
      simp only [Act.put, aS, aC, aZ]
      refine takeH (i := 15) (some 10) rfl rfl (by kernel_rfl) (by kernel_rfl) (by kernel_rfl) (fun _ _ _ h => h) (gAssign rfl (.tmp 28) rfl (.int .i64 2) rfl) hS2 ?_
      simp only [Act.put, aS, aC, aZ]
      clear hS2
      refine wpAnyH_done (by kernel_rfl) ?_ _
      have hp2 : Row w2 gd 38 (dkCells g i wv nv cost n d1) := R2.out.1.row
      have kc0 := hp2.at 0 _ rfl
      clear hp2
      have HON : Hid (Calls Tryd.prog 22 #[ptr g] w2 fun e w' => e = .returned (.bool false) ∧ w2 = w') := (by have := R2.out.1.live.isOn; rw [RB.out.1] at this; exact this.mono fun e w' h => ⟨h.1, h.2.symm⟩)
      go_upto_region 6 with (first | (refine wl_sl sl38 (.tmp 36) rfl rfl none 0 0 rfl ?_) | (go_at_call 22; refine HON.out.mono ?_; rintro e w3 ⟨rfl, hw23⟩; subst hw23))
      have hkx : KeepX w2 (Fr2 T c2 t gd) kv ks := HI.out.keep.next R2.out.2.2.1.size fun b hb hp => ⟨R2.out.2.2.1.block b hb hp.1, by unfold Fr2; rw [R2.out.2.1 b hb]; exact hp⟩
      have hbt := R2.out.1.live.boot (by have := R2.out.2.2.2.2; have := HI.out.steps; have := HI.out.le; have := HST.out.1; omega) kv ks (hkx.keep fun b hb hp => hp.1)
      rw [HKV.out] at hbt
      have HBT : Hid (Calls Tryd.prog 15 #[ptr g, .slice kp kn kc] w2 fun e w' => e = .returned noResult ∧ Next w2 c2 t g (m2.boot ks) w') := hbt
      have RK : Hid (KeepX w2 (Fr2 T c2 t gd) kv ks) := hkx
      clear hbt hkx kc0
      refine wp_region_lit ?_
      refine wl_mv (.tmp 0) rfl rfl (ptr gd) rfl ?_
      simp only [Act.put, aS, aC, aZ]
      refine wl_nil (.tmp 48) rfl rfl ⟨gd, 0, none⟩ rfl ?_
      simp only [Act.put, aS, aC, aZ]
      refine wl_fld f40_0 (.tmp 49) rfl rfl gd 0 rfl ?_
      simp only [Act.put, aS, aC, aZ]
      refine wl_ld o25 (.tmp 50) rfl rfl gd (0 + 0) rfl (ptr g) (R2.out.1.row.at 0 _ rfl) ?_
      simp only [Act.put, aS, aC, aZ]
      refine wl_mv (.tmp 1) rfl rfl (.slice kp kn kc) rfl ?_
      simp only [Act.put, aS, aC, aZ]
      refine wpList_callF eN15 [.tmp 51, .tmp 52] _ rfl rfl [(ptr g), (.slice kp kn kc)] rfl ?_
      refine HBT.out.mono ?_
      rintro e w4 ⟨rfl, hnx⟩
      refine ⟨_, rfl, ?_⟩
      simp only [Act.put, aS, aC, aZ]
      refine wpList_nil ?_
      obtain ⟨c4, q1, q2, q3⟩ := hnx.nx
      have R4 : Hid (Dk T w4 c4 t gd g (m2.boot ks) ds ts i n wv nv cost d1 ∧ (∀ b, b < w2.heap.size → c4 b = c2 b) ∧ Ch (fun b => (c2 b).1 = t) w2 w4) := ⟨R2.out.1.nx q1 q2 q3 rfl, q1, q3⟩
      clear q1 q2 q3 hnx
      go_upto_region 7 with fail
      refine wp_region_lit ?_
      refine wl_mv (.tmp 0) rfl rfl (ptr gd) rfl ?_
      simp only [Act.put, aS, aC, aZ]
      refine wl_nil (.tmp 54) rfl rfl ⟨gd, 0, none⟩ rfl ?_
      simp only [Act.put, aS, aC, aZ]
      refine wl_fld f40_6 (.tmp 55) rfl rfl gd 0 rfl ?_
      simp only [Act.put, aS, aC, aZ]
      refine wl_ld o3' (.tmp 56) rfl rfl gd (0 + 6) rfl (.int .i64 (d1 : Nat)) (R4.out.1.row.at 6 _ rfl) ?_
      simp only [Act.put, aS, aC, aZ]
      refine wl_addN (.tmp 57) (.const (.int .i64 1)) rfl rfl d1 1 (by have := R4.out.1.dim; omega) (by decide) rfl rfl ?_
      simp only [Act.put, aS, aC, aZ]
      refine wl_nil (.tmp 54) rfl rfl ⟨gd, 0, none⟩ rfl ?_
      simp only [Act.put, aS, aC, aZ]
      refine wl_fld f40_6 (.tmp 59) rfl rfl gd 0 rfl ?_
      simp only [Act.put, aS, aC, aZ]
      refine wl_put s3 (.tmp 60) (.tmp 58) rfl rfl rfl gd (0 + 6) 38 (dkCells g i wv nv cost n d1) rfl (.int .i64 ((d1 + 1 : Nat) : Int)) rfl ⟨rfl, rfl⟩ R4.out.1.row (show 0 + 6 < 7 by decide) ?_
      refine wpList_nil ?_
      obtain ⟨w5, hw5⟩ : ∃ w5, w5 = w4.setCell ⟨gd, 0 + 6, none⟩ (.int .i64 ((d1 + 1 : Nat) : Int)) := ⟨_, rfl⟩
      have hset := R4.out.1.set (0 + 6) (.int .i64 ((d1 + 1 : Nat) : Int)) (wv' := wv) (nv' := nv) (cost' := cost) (dims' := d1 + 1) rfl (by have := HI.out.dim; have := HI.out.le; have := HST.out.2.1; omega)
      rw [← hw5] at hset
      rw [← hw5]
      have hz5 : w5.heap.size = w4.heap.size := by rw [hw5]; exact World.size_setCell _ _ _
      have hcc4 : ∀ b, b < wr.heap.size → c4 b = c1 b := fun b hb => by rw [R4.out.2.1 b (Nat.lt_of_lt_of_le hb R2.out.2.2.1.size), R2.out.2.1 b hb]
      have hch4 : Ch (fun b => (c1 b).1 = t ∨ b = gd) wr w5 := ((chT R2.out.2.2.1).trans' (chT R4.out.2.2) fun b hb e => by rw [← R2.out.2.1 b hb]; exact e).trans (chG hset.2)
      have R5 : Hid (OpSt T w c t gd g m ds ts i n D wv nv cost dims kv ks mv l 1 w5 c4 (m2.boot ks) (d1 + 1)) := by
        have hk0 := RB.out.2.2.2
        refine ⟨Nat.le_refl _, fun _ => (by decide : (-1 : Int) < 0), hset.1, RB.out.2.2.1 ks, fun b hb => by rw [hcc4 b (Nat.lt_of_lt_of_le hb HI.out.ch.size)]; exact HI.out.cc b hb, HI.out.ch.trans' hch4 fun b hb e => by rw [← HI.out.cc b hb]; exact e, (HI.out.rel.trans R2.out.2.2.2.1).trans (Rel.boot m2 i ks), ?_, by have := HI.out.dim; omega, HI.out.keep.next hch4.size (Dk.later hcc4 hch4), HI.out.may.next hch4.size (Dk.later hcc4 hch4)⟩
        have h1 := R2.out.2.2.2.2
        have h2 := HI.out.steps
        show m2.steps ≤ _
        omega
      have hk0 := RB.out.2.2.2
      subst hk0
      clear hset hw5 hz5 hcc4 hch4 R4 R2 RB HI RK
      go_wp2_with fail
      refine ⟨⟨1, c4, _, d1 + 1, rfl, R5.out⟩, ?_⟩
      simp [intOf]
end Go.Proofs.YtebalanfagglnaaDoor

namespace Go.Proofs.YtebalanfagglnaaDoor
open Go.RowKit Go.Maps
variable {T : Nat → Prop}

theorem Opn.after {w w1 : World} {c c1 : Nat → Colour} {t gd g : Nat} {m m1 : Pl} {ds ts : List Nat} {i n : Nat} {D : List (List (List Nat))} {dims dims1 K Kd K' Kd' : Nat} {w' : World} {c' : Nat → Colour} {gw : Nat} {m' : Pl} {S E : Nat} {nv' : Value} {dims' : Nat} (h : Opn T w1 c1 t gd g m1 ds ts i n D dims1 K Kd w' c' gw m' S E nv' dims') (hcc : ∀ b, b < w.heap.size → c1 b = c b) (hch : Ch (fun b => (c b).1 = t ∨ b = gd) w w1) (hr : Rel m m1 i) (hs : m1.steps + K ≤ m.steps + K') (hd : dims1 + Kd ≤ dims + Kd') : Opn T w c t gd g m ds ts i n D dims K' Kd' w' c' gw m' S E nv' dims' :=
  ⟨fun b hb => by rw [h.cc b (Nat.lt_of_lt_of_le hb hch.size)]; exact hcc b hb, hch.trans' h.ch fun b hb e => by rw [← hcc b hb]; exact e, h.dk, h.wal, Nat.le_trans hch.size h.new, h.jo, h.now, hr.trans h.rel, by have := h.le; omega, by have := h.dim; omega⟩
set_option maxHeartbeats 4000000 in
set_option maxRecDepth 100000 in
theorem dark_any {w : World} {c : Nat → Colour} {t gd g : Nat} {m : Pl} {ds ts : List Nat} {i n : Nat} {wv nv : Value} {cost dims : Nat} (h : Dk T w c t gd g m ds ts i n wv nv cost dims) (hoff : m.on = false) {D : List (List (List Nat))} (hst : m.steps + 20010 < 1099511627775) (hdm : dims ≤ 999999980) {kv : Value} {ks : List Int} (hj : Jc (m.boot ks) i n D) (hk : KeepX w (Fr2 T c t gd) kv ks) {mv : Value} {l : List (Value × List (List (List Nat)) × List Value)} (hm : Rob (Fr2 T c t gd) (fun W => MayIn W mv l) w) (ha : Among D (l.map (·.2.1))) :
    Calls Tryd.prog 19 #[ptr gd, kv, mv] w fun e w' => e = .returned (.bool true) ∧ ∃ c' gw m' S E nv' dims', Opn T w c t gd g m ds ts i n D dims 8 2 w' c' gw m' S E nv' dims' := by
  have HI : Hid (Dk T w c t gd g m ds ts i n wv nv cost dims) := h
  have HON : Hid (Calls Tryd.prog 22 #[ptr g] w fun e w' => e = .returned (.bool false) ∧ w = w') := by have := h.live.isOn; rw [hoff] at this; exact this.mono fun e w' h => ⟨h.1, h.2.symm⟩
  have HBT : Hid (Calls Tryd.prog 15 #[ptr g, kv] w fun e w' => e = .returned noResult ∧ Next w c t g (m.boot ks) w') := h.live.boot (by omega) kv ks (hk.keep fun b hb hp => hp.1)
  have HOP : Hid (∀ w1 c1, (∀ b, b < w.heap.size → c1 b = c b) → Ch (fun b => (c b).1 = t ∨ b = gd) w w1 → Dk T w1 c1 t gd g (m.boot ks) ds ts i n wv nv cost (dims + 1) → Calls Tryd.prog 10 #[ptr gd, kv, mv] w1 fun e w' => e = .returned (.bool true) ∧ ∃ c' gw m' S E nv' dims', Opn T w c t gd g m ds ts i n D dims 8 2 w' c' gw m' S E nv' dims') := fun w1 c1 hcc hch hd => by
    refine (opened_any hd hj hst (by omega) (hk.next hch.size (Dk.later hcc hch)) (hm.next hch.size (Dk.later hcc hch)) ha).mono ?_
    rintro e w' ⟨rfl, c', gw, m', S, E, nv', dims', ho⟩
    exact ⟨rfl, c', gw, m', S, E, nv', dims', ho.after hcc hch (Rel.boot m i ks) (Nat.le_refl _) (by omega)⟩
  obtain ⟨PQ, hPQ⟩ : ∃ PQ : Ending → World → Prop, PQ = fun (e : Ending) (w' : World) => e = .returned (.bool true) ∧ ∃ c' gw m' S E nv' dims', Opn T w c t gd g m ds ts i n D dims 8 2 w' c' gw m' S E nv' dims' := ⟨_, rfl⟩
  have HPQ : Hid (PQ = fun (e : Ending) (w' : World) => e = .returned (.bool true) ∧ ∃ c' gw m' S E nv' dims', Opn T w c t gd g m ds ts i n D dims 8 2 w' c' gw m' S E nv' dims') := hPQ
  rw [← hPQ] at HOP ⊢
  have HDM : Hid (dims ≤ 999999980) := hdm
  obtain ⟨kp, kn, kc, hkv⟩ := hk.isSl
  obtain ⟨mb, mo, mc, hmv, _⟩ := hm.now
  obtain ⟨L, hL⟩ : ∃ L, L = l.length := ⟨_, rfl⟩
  rw [← hL] at hmv
  rw [hkv] at HBT
  rw [hkv, hmv] at HOP ⊢
  clear hPQ h hoff hj hst hdm hk hm ha hkv hmv hL
  go_enter Tryd.func19, Tryd.ntmps19
  have kc0 := HI.out.row.at 0 _ rfl
  go_upto_region 3 with (go_at_call 22; refine HON.out.mono ?_; rintro e w3 ⟨rfl, hw3⟩; subst hw3)
  clear kc0
  refine wp_region_lit ?_
  refine wl_mv (.tmp 0) rfl rfl (ptr gd) rfl ?_
  simp only [Act.put, aS, aC, aZ]
  refine wl_nil (.tmp 12) rfl rfl ⟨gd, 0, none⟩ rfl ?_
  simp only [Act.put, aS, aC, aZ]
  refine wl_fld f40_0 (.tmp 13) rfl rfl gd 0 rfl ?_
  simp only [Act.put, aS, aC, aZ]
  refine wl_ld o25 (.tmp 14) rfl rfl gd (0 + 0) rfl (ptr g) (HI.out.row.at 0 _ rfl) ?_
  simp only [Act.put, aS, aC, aZ]
  refine wl_mv (.tmp 1) rfl rfl (.slice kp kn kc) rfl ?_
  simp only [Act.put, aS, aC, aZ]
  refine wpList_callF eN15 [.tmp 15, .tmp 16] _ rfl rfl [(ptr g), (.slice kp kn kc)] rfl ?_
  refine HBT.out.mono ?_
  rintro e w4 ⟨rfl, hnx⟩
  refine ⟨_, rfl, ?_⟩
  simp only [Act.put, aS, aC, aZ]
  refine wpList_nil ?_
  obtain ⟨c4, q1, q2, q3⟩ := hnx.nx
  have R4 : Hid (Dk T w4 c4 t gd g (m.boot ks) ds ts i n wv nv cost dims ∧ (∀ b, b < w.heap.size → c4 b = c b) ∧ Ch (fun b => (c b).1 = t) w w4) := ⟨HI.out.nx q1 q2 q3 rfl, q1, q3⟩
  clear q1 q2 q3 hnx
  go_upto_region 4 with fail
  refine wp_region_lit ?_
  refine wl_mv (.tmp 0) rfl rfl (ptr gd) rfl ?_
  simp only [Act.put, aS, aC, aZ]
  refine wl_nil (.tmp 18) rfl rfl ⟨gd, 0, none⟩ rfl ?_
  simp only [Act.put, aS, aC, aZ]
  refine wl_fld f40_6 (.tmp 19) rfl rfl gd 0 rfl ?_
  simp only [Act.put, aS, aC, aZ]
  refine wl_ld o3' (.tmp 20) rfl rfl gd (0 + 6) rfl (.int .i64 (dims : Nat)) (R4.out.1.row.at 6 _ rfl) ?_
  simp only [Act.put, aS, aC, aZ]
  refine wl_addN (.tmp 21) (.const (.int .i64 1)) rfl rfl dims 1 (by have := R4.out.1.dim; omega) (by decide) rfl rfl ?_
  simp only [Act.put, aS, aC, aZ]
  refine wl_nil (.tmp 18) rfl rfl ⟨gd, 0, none⟩ rfl ?_
  simp only [Act.put, aS, aC, aZ]
  refine wl_fld f40_6 (.tmp 23) rfl rfl gd 0 rfl ?_
  simp only [Act.put, aS, aC, aZ]
  refine wl_put s3 (.tmp 24) (.tmp 22) rfl rfl rfl gd (0 + 6) 38 (dkCells g i wv nv cost n dims) rfl (.int .i64 ((dims + 1 : Nat) : Int)) rfl ⟨rfl, rfl⟩ R4.out.1.row (show 0 + 6 < 7 by decide) ?_
  refine wpList_nil ?_
  obtain ⟨w5, hw5⟩ : ∃ w5, w5 = w4.setCell ⟨gd, 0 + 6, none⟩ (.int .i64 ((dims + 1 : Nat) : Int)) := ⟨_, rfl⟩
  have hset := R4.out.1.set (0 + 6) (.int .i64 ((dims + 1 : Nat) : Int)) (wv' := wv) (nv' := nv) (cost' := cost) (dims' := dims + 1) rfl (by have := HDM.out; omega)
  rw [← hw5] at hset
  rw [← hw5]
  have R5 : Hid (Dk T w5 c4 t gd g (m.boot ks) ds ts i n wv nv cost (dims + 1) ∧ Ch (fun b => (c b).1 = t ∨ b = gd) w w5) := ⟨hset.1, (chT R4.out.2.2).trans (chG hset.2)⟩
  clear hset hw5
  have HOC : Hid (Calls Tryd.prog 10 #[ptr gd, .slice kp kn kc, .slice (some ⟨mb, mo, none⟩) L mc] w5 PQ) := HOP.out w5 c4 R4.out.2.1 R5.out.2 R5.out.1
  clear HOP
  go_wp2_with (go_at_call 10; refine HOC.out.mono ?_; intro e w6 hE; have RE : Hid (PQ e w6) := hE; have he : e = .returned (.bool true) := (by rw [HPQ.out] at hE; exact hE.1); subst he; clear hE)
  exact RE.out
end Go.Proofs.YtebalanfagglnaaDoor

/- Layer 8: the document's examples: the calls, one by one. Layer 8: the document's examples. -/
import Derived.Test.YtebalanfagglnaaDoorV38
namespace Go.Proofs.YtebalanfagglnaaDoor
open Go.RowKit Go.Maps

/-- within the examples: a plant of one disk of 64 sectors; nothing that was there is turned -/
structure Sw (w0 W : World) (c : Nat → Colour) (g n : Nat) (m : Pl) (K : Nat) : Prop where
  live : Live W c 2 g m
  tab : Fr.TabIn W
  cc : ∀ b, b < w0.heap.size → c b = (0, 0)
  below : Below w0.heap.size w0 W
  shape : ShapeOf m [n] []
  le : m.steps ≤ K
  tab0 : 0 < w0.heap.size
theorem Sw.c0 {w0 W : World} {c : Nat → Colour} {g n : Nat} {m : Pl} {K : Nat} (h : Sw w0 W c g n m K) : (c 0).1 ≠ 2 := by rw [h.cc 0 h.tab0]; decide
theorem Sw.next {w0 W W' : World} {c c' : Nat → Colour} {g n gw : Nat} {m m' : Pl} {K K' : Nat} (h : Sw w0 W c g n m K) (hcc : ∀ b, b < W.heap.size → c' b = c b) (hl : Live W' c' 2 g m') (hch : Ch (fun b => (c b).1 = 2 ∨ b = gw) W W') (hgw : w0.heap.size ≤ gw) (hsh : m'.sh = m.sh) (hs : m'.steps ≤ K') : Sw w0 W' c' g n m' K' :=
  ⟨hl, TabIn.ch h.tab hch (fun e => e.elim h.c0 (fun e => by have := h.tab0; omega)), fun b hb => by rw [hcc b (Nat.lt_of_lt_of_le hb h.below.size)]; exact h.cc b hb, h.below.trans (hch.below h.below.size fun b hb e => e.elim (fun e => by rw [h.cc b hb] at e; exact absurd e (by decide)) (fun e => by omega)), by unfold ShapeOf; rw [hsh]; exact h.shape, hs, h.tab0⟩
theorem Sw.nx {w0 W W' : World} {c c' : Nat → Colour} {g n : Nat} {m m' : Pl} {K K' : Nat} (h : Sw w0 W c g n m K) (hcc : ∀ b, b < W.heap.size → c' b = c b) (hl : Live W' c' 2 g m') (hch : Ch (fun b => (c b).1 = 2) W W') (hsh : m'.sh = m.sh) (hs : m'.steps ≤ K') : Sw w0 W' c' g n m' K' :=
  h.next (gw := w0.heap.size) hcc hl (hch.mono fun _ _ e => Or.inl e) (Nat.le_refl _) hsh hs
theorem Sw.bel {w0 W W' : World} {c : Nat → Colour} {g n : Nat} {m : Pl} {K : Nat} (h : Sw w0 W c g n m K) (hb : Below W.heap.size W W') : Sw w0 W' c g n m K := h.nx (fun _ _ => rfl) (h.live.below hb) (Ch.of_below hb) rfl h.le
theorem Sw.disk {w0 W : World} {c : Nat → Colour} {g n : Nat} {m : Pl} {K : Nat} (h : Sw w0 W c g n m K) (h8 : 8 ≤ n) (hon : m.on = true) (hK : K ≤ 1000000) : DiskOn m [n] [] 0 := ⟨h.shape, by simp, h8, hon, by have := h.le; omega⟩
section
variable {w0 W : World} {c : Nat → Colour} {g n : Nat} {m : Pl} {K : Nat}
theorem sOpenB (h : Sw w0 W c g n m K) (hK : K ≤ 1000000) (hb : Blank m 0 n) : Calls Tryd.prog 12 #[ptr g, .int .i64 0] W fun e W' => e = .returned (.tuple #[.pointer none, .slice none 0 0, .int .i64 4]) ∧ ∃ c', Sw w0 W' c' g n m K := by
  refine (openB_any h.live (h.disk hb.big hb.lv.on hK) rfl h.tab h.c0 hb).mono ?_
  rintro e W' ⟨rfl, c', q1, q2, q3⟩
  exact ⟨rfl, c', h.nx q1 q2 q3 rfl h.le⟩
theorem sFormat (h : Sw w0 W c g n m K) (hK : K ≤ 1000000) (h8 : 8 ≤ n) (hon : m.on = true) (hf : m.fuse < 0) : Calls Tryd.prog 11 #[ptr g, .int .i64 0] W fun e W' => e = .returned (.int .i64 0) ∧ ∃ c' m', Sw w0 W' c' g n m' (K + 5000) ∧ Jc m' 0 n [] ∧ m'.fuse < 0 := by
  have hle := h.le
  refine (formatJ_any (i := 0) h.live h.shape (by simp) rfl h8 hon h.tab h.c0 (by omega)).mono ?_
  rintro e W' ⟨c', m', q1, q2, q3, q4, q5, q6⟩
  rcases q6 with ⟨rfl, q7, q8⟩ | q6
  · exact ⟨rfl, c', m', h.nx q1 q2 q3 q4.sh (by omega), q7, q8 hf⟩
  · exact absurd q6.1 (by omega)
theorem sOpen (h : Sw w0 W c g n m K) (hK : K ≤ 1000000) {D : List (List (List Nat))} (hj : Jc m 0 n D) (hf : m.fuse < 0) : Calls Tryd.prog 12 #[ptr g, .int .i64 0] W fun e W' => ∃ gw p cap S E c' m', e = .returned (.tuple #[ptr gw, .slice p D.length cap, .int .i64 0]) ∧ Sw w0 W' c' g n m' (K + 2) ∧ W.heap.size ≤ gw ∧ WalAt W' c' 2 gw g (0 : Nat) S E ∧ Jo m' 0 n S E D ∧ m'.fuse < 0 ∧ (∀ b, b < W.heap.size → c' b = c b) ∧ Ch (fun b => (c b).1 = 2) W W' ∧ ∃ us, Rob (fun b => W.heap.size ≤ b ∧ b < gw ∧ (c' b).1 ≠ 2) (fun W => TxsC W (.slice p D.length cap) D us) W' := by
  have hle := h.le
  refine (openJ_any h.live (h.disk hj.lv.2.2.2 hj.lv.1.on hK) rfl h.tab h.c0 hj).mono ?_
  rintro e W' ⟨c', m', q1, q2, q3, q4, q5, q6⟩
  rcases q6 with ⟨gw, tv, S, E, rfl, q7, q8, q9, q10, us, q11⟩ | q6
  · obtain ⟨p, cap, e, _⟩ := q11.now
    subst e
    exact ⟨gw, p, cap, S, E, c', m', rfl, h.nx q1 q2 q3 q4.sh (by omega), q7, q8, q9, q10 hf, q1, q3, us, q11⟩
  · exact absurd q6.1 (by omega)
/-- an Append that has room, the fuse not burning -/
theorem app_ok {S E : Nat} {D : List (List (List Nat))} (h : Jo m 0 n S E D) (hst : m.steps < 1099511627775) (L : List (List Nat)) (hb : ∀ r ∈ L, ∀ c ∈ r, c < 256) (hl : longTx L = false) (hr : costs D + costOf L ≤ n - 1) (hf : m.fuse < 0) : ∃ M un, m.app 0 S E n L = (0, M, un) ∧ Jo M 0 n S un (D ++ [L]) ∧ Rel m M 0 ∧ M.steps ≤ m.steps + 100 ∧ M.fuse < 0 := by
  have hle := h.le
  obtain ⟨F, rows, hJ, hD, hE⟩ := h
  subst hE
  have hS := hJ.lt (by omega)
  have hsc := secs_cost L
  have hK : (rowSecs S (bodyOf L)).length ≤ 90 := by rw [rowSecs_length, bodyOf_length]; have := (notLong hl).2.2.1; unfold secsOf; omega
  rcases hJ.appC hS L hl hb (by omega) with ⟨k1, k2, k3, k4⟩ | ⟨k1, k2, k3⟩
  · exact ⟨_, _, Prod.ext k1 rfl, ⟨F, _, k3, by rw [List.map_append, hD]; rfl, k4.symm⟩, k2.oth.rel, by have := k2.le; show (m.app 0 S (logLen rows) n L).2.1.steps ≤ _; omega, k2.fuse hf⟩
  · exact absurd k2.fuse (by omega)
theorem sAppend (h : Sw w0 W c g n m K) (hK : K ≤ 1000000) {gw S E : Nat} {D : List (List (List Nat))} (hw : WalAt W c 2 gw g (0 : Nat) S E) (hgw : w0.heap.size ≤ gw) (hj : Jo m 0 n S E D) (hf : m.fuse < 0) (v : Value) (L : List (List Nat)) (hr : RowsIn W v L) (hl : longTx L = false) (hro : costs D + costOf L ≤ n - 1) :
    Calls Tryd.prog 14 #[ptr gw, v] W fun e W' => e = .returned (.int .i64 0) ∧ ∃ c' m' un, Sw w0 W' c' g n m' (K + 100) ∧ WalAt W' c' 2 gw g (0 : Nat) S un ∧ Jo m' 0 n S un (D ++ [L]) ∧ m'.fuse < 0 ∧ (∀ b, b < W.heap.size → c' b = c b) ∧ Ch (fun b => (c b).1 = 2 ∨ b = gw) W W' := by
  have hle := h.le
  have hjl := hj.le
  obtain ⟨M, un, e1, e2, e3, e4, e5⟩ := app_ok hj (by omega) L hr.mem hl hro hf
  have h8 := hj.jc.lv.2.2.2
  have := append_any' h.live 0 S E hw (by omega) h.shape (by simp) (show 1 ≤ n by omega) (by omega) v L hr (by have := (notLong hl).2.2.1; omega)
  refine this.mono ?_
  rintro e W' ⟨rfl, c', q1, q2, q3, q4⟩
  have e1' : m.app 0 S E ([n].getD 0 0) L = (0, M, un) := e1
  rw [e1'] at q2 q4 ⊢
  exact ⟨rfl, c', M, un, h.next q1 q2 q3 hgw e3.sh (by omega), q4, e2, e5, q1, q3⟩
theorem sAppendLong (h : Sw w0 W c g n m K) (hK : K ≤ 1000000) {gw S E : Nat} {D : List (List (List Nat))} (hw : WalAt W c 2 gw g (0 : Nat) S E) (hgw : w0.heap.size ≤ gw) (hj : Jo m 0 n S E D) (v : Value) (L : List (List Nat)) (hr : RowsIn W v L) (hl : longTx L = true) (hsz : txSize L ≤ 100000) :
    Calls Tryd.prog 14 #[ptr gw, v] W fun e W' => e = .returned (.int .i64 5) ∧ ∃ c', Sw w0 W' c' g n m K ∧ WalAt W' c' 2 gw g (0 : Nat) S E := by
  have hle := h.le
  have hjl := hj.le
  have h8 := hj.jc.lv.2.2.2
  have := append_any' h.live 0 S E hw (by omega) h.shape (by simp) (show 1 ≤ n by omega) (by omega) v L hr (by omega)
  refine this.mono ?_
  rintro e W' ⟨rfl, c', q1, q2, q3, q4⟩
  have e1' : m.app 0 S E ([n].getD 0 0) L = (5, m, E) := by unfold Pl.app; rw [hl, if_pos rfl]
  rw [e1'] at q2 q4 ⊢
  exact ⟨rfl, c', h.next q1 q2 q3 hgw rfl h.le, q4⟩
/-- with a fuse of nothing an Append does nothing, and the power is off -/
theorem app_dark {S E : Nat} {D : List (List (List Nat))} (h : Jo m 0 n S E D) (L : List (List Nat)) (hb : ∀ r ∈ L, ∀ c ∈ r, c < 256) (hl : longTx L = false) (hr : costs D + costOf L ≤ n - 1) (hf : m.fuse = 0) : m.app 0 S E n L = (2, m.step, E) ∧ ∀ ks, Jc (m.step.boot ks) 0 n D := by
  have hle := h.le
  obtain ⟨F, rows, hJ, hD, hE⟩ := h
  subst hE
  have hsc := secs_cost L
  have hfb : fitsB L n (logLen rows) = true := by unfold fitsB; rw [hl, decide_eq_true (by omega)]; rfl
  have hlay : m.lay ((0 : Nat) : Int) (1 + logLen rows) (rowSecs S (bodyOf L)) = (2, m.step) := by
    have hlen : 0 < (rowSecs S (bodyOf L)).length := by rw [rowSecs_length]; exact secsOf_pos _
    match hR : rowSecs S (bodyOf L), hlen with
    | s :: r, _ =>
      have hs : Sec s := rowSecs_sec S _ (bodyOf_lt L hb) s (by rw [hR]; simp)
      unfold Pl.lay
      rw [hJ.lv.write (1 + logLen rows) s hs (by rw [hJ.size]; have := secsOf_pos (txSize L); omega), if_pos hf, if_neg (show ¬ (2 : Int) = 0 by decide)]
  refine ⟨?_, fun ks => ?_⟩
  · unfold Pl.app
    rw [hl, hfb, if_neg (by decide), if_pos rfl, hlay]
    rfl
  · refine ⟨S, S, F, rows, hJ.same (Lv.boot (Pl.step_wf hJ.lv.wf) (by rw [m.step_n]; exact hJ.lv.lt) (by rw [m.step_tape]; exact hJ.lv.disk) ks) rfl m.step_sh m.step_ge fun p => ?_, hD⟩
    rw [boot_rd m.step ks 0 p (by rw [m.step_wt]; exact hJ.wt), m.step_rd]
theorem sAppendDark (h : Sw w0 W c g n m K) (hK : K ≤ 1000000) {gw S E : Nat} {D : List (List (List Nat))} (hw : WalAt W c 2 gw g (0 : Nat) S E) (hgw : w0.heap.size ≤ gw) (hj : Jo m 0 n S E D) (hf : m.fuse = 0) (v : Value) (L : List (List Nat)) (hr : RowsIn W v L) (hl : longTx L = false) (hro : costs D + costOf L ≤ n - 1) :
    Calls Tryd.prog 14 #[ptr gw, v] W fun e W' => e = .returned (.int .i64 2) ∧ ∃ c', Sw w0 W' c' g n m.step (K + 1) ∧ (∀ ks, Jc (m.step.boot ks) 0 n D) ∧ (∀ b, b < W.heap.size → c' b = c b) ∧ Ch (fun b => (c b).1 = 2 ∨ b = gw) W W' := by
  have hle := h.le
  have hjl := hj.le
  have h8 := hj.jc.lv.2.2.2
  obtain ⟨e1, e2⟩ := app_dark hj L hr.mem hl hro hf
  have := append_any' h.live 0 S E hw (by omega) h.shape (by simp) (show 1 ≤ n by omega) (by omega) v L hr (by have := (notLong hl).2.2.1; omega)
  refine this.mono ?_
  rintro e W' ⟨rfl, c', q1, q2, q3, q4⟩
  have e1' : m.app 0 S E ([n].getD 0 0) L = (2, m.step, E) := e1
  rw [e1'] at q2 ⊢
  exact ⟨rfl, c', h.next q1 q2 q3 hgw m.step_sh (by have := m.step_le; omega), e2, q1, q3⟩
theorem sFuse (h : Sw w0 W c g n m K) (N : Int) (h0 : -9223372036854775808 ≤ N) (h1 : N ≤ 9223372036854775807) : Calls Tryd.prog 17 #[ptr g, .int .i64 N] W fun e W' => e = .returned noResult ∧ ∃ c', Sw w0 W' c' g n (m.fuseTo N) K ∧ (∀ b, b < W.heap.size → c' b = c b) ∧ Ch (fun b => (c b).1 = 2) W W' := by
  refine (h.live.fuse N h0 h1).mono ?_
  rintro e W' ⟨rfl, hnx⟩
  obtain ⟨c', q1, q2, q3⟩ := hnx.nx
  exact ⟨rfl, c', h.nx q1 q2 q3 (Rel.fuse m 0 N).sh (by have := h.le; unfold Pl.fuseTo; split <;> exact this), q1, q3⟩
theorem sBoot (h : Sw w0 W c g n m K) (hK : K ≤ 1000000) (kv : Value) (ks : List Int) (hk : KeepIn W c 2 kv ks) : Calls Tryd.prog 15 #[ptr g, kv] W fun e W' => e = .returned noResult ∧ ∃ c', Sw w0 W' c' g n (m.boot ks) K ∧ (∀ b, b < W.heap.size → c' b = c b) ∧ Ch (fun b => (c b).1 = 2) W W' := by
  have hle := h.le
  refine (h.live.boot (by omega) kv ks hk).mono ?_
  rintro e W' ⟨rfl, hnx⟩
  obtain ⟨c', q1, q2, q3⟩ := hnx.nx
  exact ⟨rfl, c', h.nx q1 q2 q3 rfl h.le, q1, q3⟩
theorem sTrunc (h : Sw w0 W c g n m K) (hK : K ≤ 1000000) {gw S E : Nat} {D : List (List (List Nat))} (hw : WalAt W c 2 gw g (0 : Nat) S E) (hgw : w0.heap.size ≤ gw) (hj : Jo m 0 n S E D) (hf : m.fuse < 0) :
    Calls Tryd.prog 13 #[ptr gw] W fun e W' => e = .returned (.int .i64 0) ∧ ∃ c' m', Sw w0 W' c' g n m' (K + 2) ∧ WalAt W' c' 2 gw g (0 : Nat) (S + 1) 0 ∧ Jo m' 0 n (S + 1) 0 [] ∧ m'.fuse < 0 ∧ (∀ b, b < W.heap.size → c' b = c b) ∧ Ch (fun b => (c b).1 = 2 ∨ b = gw) W W' := by
  have hle := h.le
  obtain ⟨F, rows, hJ, hD, hE⟩ := hj
  have hS := hJ.lt (by omega)
  refine (truncate_any h.live ((0 : Nat) : Int) S E hS hw (by omega)).mono ?_
  rintro e W' ⟨rfl, c', q1, q2, q3, q4⟩
  rcases hJ.truncC hS with ⟨k1, k2, k3⟩ | ⟨k1, k2, k3⟩
  · rw [k1] at q4 ⊢
    rw [if_pos rfl, if_pos rfl] at q4
    have hl2 := k2.le
    simp only [List.length_singleton] at hl2
    exact ⟨rfl, c', _, h.next q1 q2 q3 hgw k2.oth.sh (by omega), q4, ⟨S + 1, [], k3, rfl, rfl⟩, k2.fuse hf, q1, q3⟩
  · exact absurd k2.fuse (by omega)
end
section
variable {w : World} {ops : Array Oper} {rest : List Oper} {o : Oper} {a : Act} {Q : Exit → Act → World → Prop}
theorem lit51b (x : Nat) (hgd : Region.wanted o (yielded ops a.tmps) = true) (ho : o.op = .buildSlice 50 1 #[(0, .const (.int .u8 (x : Nat)))]) (h : wpList Tryd.prog ops Q rest (a.put o.dst (.slice (some ⟨w.heap.size, 0, none⟩) 1 1)) (w.alloc (.cells #[.int .u8 (x : Nat)] 5))) : wpList Tryd.prog ops Q (o :: rest) a w := by
  have hr : (Instr.buildSlice 50 1 #[(0, .int .u8 (x : Nat))]).run Tryd.prog w = .ok (.slice (some ⟨w.heap.size, 0, none⟩) 1 1) (w.alloc (.cells #[.int .u8 (x : Nat)] 5)) := by kernel_rfl
  have hx : a.eval (.const (.int .u8 (x : Nat))) = .int .u8 (x : Nat) := rfl
  exact wl hgd _ _ (by simp only [execOp, ho, List.map_toArray, List.map_cons, List.map_nil, hx, hr, Sem.run_bind, Sem.run_pure, Result.andThen_ok]) h
theorem run_lit30_2 {w : World} {a : Act} {o : Oper} (x y : Operand) (ho : o.op = .buildSlice 28 2 #[(0, x), (1, y)]) (u v : Value) (hu : ∃ p n c, u = .slice p n c) (hv : ∃ p n c, v = .slice p n c) (hx : a.eval x = u) (hy : a.eval y = v) : (execOp a.eval o).run Tryd.prog w = .ok (.value (.slice (some ⟨w.heap.size, 0, none⟩) 2 2)) (w.alloc (.cells #[u, v] 50)) := by
  obtain ⟨p, n, c, rfl⟩ := hu
  obtain ⟨p', n', c', rfl⟩ := hv
  have hr : (Instr.buildSlice 28 2 #[(0, .slice p n c), (1, .slice p' n' c')]).run Tryd.prog w = .ok (.slice (some ⟨w.heap.size, 0, none⟩) 2 2) (w.alloc (.cells #[.slice p n c, .slice p' n' c'] 50)) := by kernel_rfl
  simp only [execOp, ho, List.map_toArray, List.map_cons, List.map_nil, hx, hy, hr, Sem.run_bind, Sem.run_pure, Result.andThen_ok]
theorem run_lit38_2 {w : World} {a : Act} {o : Oper} (x y : Operand) (ho : o.op = .buildSlice 36 2 #[(0, x), (1, y)]) (u v : Value) (hu : ∃ p n c, u = .slice p n c) (hv : ∃ p n c, v = .slice p n c) (hx : a.eval x = u) (hy : a.eval y = v) : (execOp a.eval o).run Tryd.prog w = .ok (.value (.slice (some ⟨w.heap.size, 0, none⟩) 2 2)) (w.alloc (.cells #[u, v] 28)) := by
  obtain ⟨p, n, c, rfl⟩ := hu
  obtain ⟨p', n', c', rfl⟩ := hv
  have hr : (Instr.buildSlice 36 2 #[(0, .slice p n c), (1, .slice p' n' c')]).run Tryd.prog w = .ok (.slice (some ⟨w.heap.size, 0, none⟩) 2 2) (w.alloc (.cells #[.slice p n c, .slice p' n' c'] 28)) := by kernel_rfl
  simp only [execOp, ho, List.map_toArray, List.map_cons, List.map_nil, hx, hy, hr, Sem.run_bind, Sem.run_pure, Result.andThen_ok]
set_option maxRecDepth 10000 in
theorem wl_neI {t : Nat} (x y : Operand) (hgd : Region.wanted o (yielded ops a.tmps) = true) (ho : o.op = .binOp .neq t x y t) (z z' : Int) (hx : a.eval x = .int .i64 z) (hy : a.eval y = .int .i64 z') (b : Bool) (hb : (!decide (z = z')) = b) (h : wpList Tryd.prog ops Q rest (a.put o.dst (.bool b)) w) : wpList Tryd.prog ops Q (o :: rest) a w := wl hgd _ w (by
  have e : (eqGuard .neq t x y (.int .i64 z) (.int .i64 z')).run Tryd.prog w = .ok () w := rfl
  have hr : (binOp .neq t (.int .i64 z) (.int .i64 z')).run Tryd.prog w = .ok (.bool b) w := by rw [← hb]; simp [binOp, Op.intCmp, bne]; rfl
  simp only [execOp, ho, hx, hy, e, hr, Sem.run_bind, Sem.run_pure, Result.andThen_ok]) h
theorem wl_not (x : Operand) (hgd : Region.wanted o (yielded ops a.tmps) = true) (ho : o.op = .unOp .not 4 x) (b : Bool) (hx : a.eval x = .bool b) (h : wpList Tryd.prog ops Q rest (a.put o.dst (.bool !b)) w) : wpList Tryd.prog ops Q (o :: rest) a w := wl hgd _ w (by
  simp only [execOp, ho, hx]
  simp [go_sem]) h
end
/-- a row of one byte -/
theorem one_byte {w w' : World} {x : Nat} (hx : x < 256) (h : Below (w.heap.size + 1) (w.alloc (.cells #[.int .u8 (x : Nat)] 5)) w') : SliceIn w' (.slice (some ⟨w.heap.size, 0, none⟩) 1 1) [x] := by
  have r : Row (w.alloc (.cells #[.int .u8 (x : Nat)] 5)) w.heap.size 5 [.int .u8 (x : Nat)] := Row.new w 5 _
  have r' : Row w' w.heap.size 5 (bcells [x]) := by unfold Row; rw [h.block _ (by omega)]; exact r
  exact whole_slice r' (by intro c hc; rw [List.mem_singleton.1 hc]; exact hx) (by simp)
end Go.Proofs.YtebalanfagglnaaDoor

namespace Go.Proofs.YtebalanfagglnaaDoor
open Go.RowKit Go.Maps

section
variable {w : World} {ops : Array Oper} {rest : List Oper} {o : Oper} {a : Act} {Q : Exit → Act → World → Prop}
theorem wl_ptrE1 (x : Operand) (hgd : Region.wanted o (yielded ops a.tmps) = true) (ho : o.op = .binOp .eql 35 x (.const (.pointer none)) 35) (g : Nat) (hx : a.eval x = ptr g) (h : wpList Tryd.prog ops Q rest (a.put o.dst (.bool false)) w) : wpList Tryd.prog ops Q (o :: rest) a w := wl hgd _ w (run_binOp' x (.const (.pointer none)) ho _ _ _ hx rfl rfl (by kernel_rfl)) h
theorem wl_ptrN0 (x : Operand) (hgd : Region.wanted o (yielded ops a.tmps) = true) (ho : o.op = .binOp .neq 35 x (.const (.pointer none)) 35) (hx : a.eval x = .pointer none) (h : wpList Tryd.prog ops Q rest (a.put o.dst (.bool false)) w) : wpList Tryd.prog ops Q (o :: rest) a w := wl hgd _ w (run_binOp' x (.const (.pointer none)) ho _ _ _ hx rfl rfl (by kernel_rfl)) h
end
theorem blank_new (n : Nat) (h : 8 ≤ n ∧ n ≤ 4096) : Blank (newPl (List.replicate 1 (n : Int)) []) 0 n := by
  have hwf := newPl_wf (List.replicate 1 (n : Int)) [] (shapeOk_rep 1 n ⟨by decide, by decide⟩ ⟨by omega, h.2⟩)
  have hsh := newPl_rep 1 n
  have hd := hsh.disk 0 (by simp)
  refine ⟨⟨hwf, rfl, by rw [hsh.n]; simp, hd.1⟩, rfl, by rw [hd.2]; simp, h.1, ?_⟩
  show Option.getD none ((fresh ((newPl (List.replicate 1 (n : Int)) []).tape 0) ((newPl (List.replicate 1 (n : Int)) []).size 0)).getD 0 zeros) = zeros
  rw [hd.1, hd.2]
  unfold fresh
  rw [if_neg (by decide), List.getD_eq_getElem?_getD, List.getElem?_replicate]
  split <;> rfl
def D2 : List (List (List Nat)) := [[[97], [98]], []]
theorem exL1 : longTx [[97], [98]] = false ∧ costOf [[97], [98]] = 1 ∧ longTx ([] : List (List Nat)) = false ∧ costOf ([] : List (List Nat)) = 1 ∧ longTx [[99]] = false ∧ costOf [[99]] = 1 ∧ costs [] = 0 ∧ costs [[[97], [98]]] = 1 ∧ costs D2 = 2 ∧ longTx (List.replicate 17 ([] : List Nat)) = true ∧ txSize (List.replicate 17 ([] : List Nat)) ≤ 100000 := by decide
theorem rows_nil (w : World) : RowsIn w (.slice none 0 0) [] := ⟨none, 0, rfl, by decide, Or.inl rfl⟩
theorem rows_17 {w : World} {b : Nat} (h : Row w b 50 (List.replicate 17 (.slice none 0 0))) : RowsIn w (whole b 17) (List.replicate 17 []) := by
  refine ⟨some ⟨b, 0, none⟩, 17, rfl, by decide, Or.inr ⟨b, 0, rfl, fun i hi => ⟨.slice none 0 0, ?_, ?_⟩⟩⟩
  · rw [Nat.zero_add]
    rw [List.length_replicate] at hi
    exact h.at i _ (by rw [List.getElem?_replicate, if_pos hi])
  · rw [List.length_replicate] at hi
    rw [show (List.replicate 17 ([] : List Nat)).getD i [] = [] by rw [List.getD_eq_getElem?_getD, List.getElem?_replicate, if_pos hi]; rfl]
    exact nil_in w
/-- rows in a block that is new -/
theorem rows_two {w : World} {u v : Value} {r s : List Nat} (hu : SliceIn w u r) (hv : SliceIn w v s) : RowsIn (w.alloc (.cells #[u, v] 50)) (.slice (some ⟨w.heap.size, 0, none⟩) 2 2) [r, s] := by
  have b := below_alloc w (.cells #[u, v] 50)
  have rr : Row (w.alloc (.cells #[u, v] 50)) w.heap.size 50 [u, v] := Row.new w 50 _
  refine ⟨_, 2, rfl, (by show 2 ≤ 1099511627776; decide), Or.inr ⟨w.heap.size, 0, rfl, fun i hi => ?_⟩⟩
  rw [Nat.zero_add]
  match i, hi with
  | 0, _ => exact ⟨u, rr.at 0 _ rfl, hu.later b⟩
  | 1, _ => exact ⟨v, rr.at 1 _ rfl, hv.later b⟩
theorem rows_one {w : World} {u : Value} {r : List Nat} (hu : SliceIn w u r) : RowsIn (w.alloc (.cells #[u] 50)) (.slice (some ⟨w.heap.size, 0, none⟩) 1 1) [r] := by
  have b := below_alloc w (.cells #[u] 50)
  have rr : Row (w.alloc (.cells #[u] 50)) w.heap.size 50 [u] := Row.new w 50 _
  refine ⟨_, 1, rfl, (by show 1 ≤ 1099511627776; decide), Or.inr ⟨w.heap.size, 0, rfl, fun i hi => ?_⟩⟩
  have hi0 : i = 0 := by simp at hi; omega
  subst hi0
  exact ⟨u, rr.at 0 _ rfl, hu.later b⟩
theorem txs_two {w : World} {u v : Value} {r s : List (List Nat)} (hu : RowsIn w u r) (hv : RowsIn w v s) : TxsIn (w.alloc (.cells #[u, v] 28)) (.slice (some ⟨w.heap.size, 0, none⟩) 2 2) [r, s] := by
  have b := below_alloc w (.cells #[u, v] 28)
  have rr : Row (w.alloc (.cells #[u, v] 28)) w.heap.size 28 [u, v] := Row.new w 28 _
  refine ⟨_, 2, rfl, (by show 2 ≤ 1000000; decide), Or.inr ⟨w.heap.size, 0, rfl, fun i hi => ?_⟩⟩
  rw [Nat.zero_add]
  match i, hi with
  | 0, _ => exact ⟨u, rr.at 0 _ rfl, hu.later b⟩
  | 1, _ => exact ⟨v, rr.at 1 _ rfl, hv.later b⟩
set_option maxHeartbeats 16000000 in
set_option maxRecDepth 100000 in
theorem shown_any (w : World) (ht : Fr.TabIn w) : Calls Tryd.prog 5 #[] w fun e w' => e = .returned (.bool true) ∧ Below w.heap.size w w' := by
  have HT : Hid (Fr.TabIn w) := ht
  have HMD : Hid (Calls Tryd.prog 6 #[.int .i64 1, .int .i64 64] w fun e w' => ∃ g c', e = .returned (ptr g) ∧ Sw w w' c' g 64 (newPl (List.replicate 1 (64 : Int)) []) 0) := by
    refine (made_any w (fun _ => (0, 0)) 2 1 64 ⟨by decide, by decide⟩ ⟨by decide, by decide⟩).mono ?_
    rintro e w' ⟨g, c', rfl, h1, h2, h3, h4⟩
    exact ⟨g, c', rfl, h3, TabIn.later ht h4, h2, h4, newPl_rep 1 64, Nat.le_refl _, tab_lt ht⟩
  obtain ⟨PQ, hPQ⟩ : ∃ PQ : Ending → World → Prop, PQ = fun (e : Ending) (w' : World) => e = .returned (.bool true) ∧ Below w.heap.size w w' := ⟨_, rfl⟩
  have HPQ : Hid (PQ = fun (e : Ending) (w' : World) => e = .returned (.bool true) ∧ Below w.heap.size w w') := hPQ
  rw [← hPQ]
  clear hPQ ht
  go_enter Tryd.func5, Tryd.ntmps5
  go_upto_region 1 with fail
  refine wp_region_lit ?_
  refine wpList_callF eN11 [.const (.int .i64 1), .const (.int .i64 64)] _ rfl rfl [.int .i64 1, .int .i64 64] rfl ?_
  refine (HMD.out).mono ?_
  rintro e w1 ⟨g, c1, rfl, q⟩
  refine ⟨_, rfl, ?_⟩
  have R1 : Hid (Sw w w1 c1 g 64 (newPl (List.replicate 1 (64 : Int)) []) 0) := q
  clear q HMD
  obtain ⟨m1, hm1⟩ : ∃ m1, m1 = newPl (List.replicate 1 (64 : Int)) [] := ⟨_, rfl⟩
  have RB : Hid (Blank m1 0 64 ∧ m1.fuse < 0) := (by rw [hm1]; exact ⟨blank_new 64 ⟨by decide, by decide⟩, (by decide : (-1 : Int) < 0)⟩)
  rw [← hm1] at R1
  clear hm1
  simp only [Act.put, aS, aC, aZ]
  refine wl_as (.tmp 23) rfl rfl (ptr g) rfl ?_
  simp only [Act.put, aS, aC, aZ]
  refine wpList_nil ?_
  go_upto_region 4 with fail
  refine wp_region_lit ?_
  refine wl_mv (.tmp 1) rfl rfl (ptr g) rfl ?_
  simp only [Act.put, aS, aC, aZ]
  refine wpList_callF eN20 [.tmp 27, .const (.int .i64 0)] _ rfl rfl [(ptr g), .int .i64 0] rfl ?_
  refine (sOpenB R1.out (by decide) RB.out.1).mono ?_
  rintro e w2 ⟨rfl, c2, q⟩
  refine ⟨_, rfl, ?_⟩
  have R2 : Hid (Sw w w2 c2 g 64 m1 0) := q
  clear q R1
  simp only [Act.put, aS, aC, aZ]
  refine wl_mv (.tmp 28) rfl rfl (.tuple #[(.pointer none), (.slice none 0 0), (.int .i64 4)]) rfl ?_
  simp only [Act.put, aS, aC, aZ]
  refine wl_ext (.tmp 26) 0 rfl rfl #[(.pointer none), (.slice none 0 0), (.int .i64 4)] rfl (.pointer none) rfl ?_
  simp only [Act.put, aS, aC, aZ]
  refine wl_ext (.tmp 26) 1 rfl rfl #[(.pointer none), (.slice none 0 0), (.int .i64 4)] rfl (.slice none 0 0) rfl ?_
  simp only [Act.put, aS, aC, aZ]
  refine wl_ext (.tmp 26) 2 rfl rfl #[(.pointer none), (.slice none 0 0), (.int .i64 4)] rfl (.int .i64 4) rfl ?_
  simp only [Act.put, aS, aC, aZ]
  refine wl_as (.tmp 29) rfl rfl (.pointer none) rfl ?_
  simp only [Act.put, aS, aC, aZ]
  refine wl_as (.tmp 30) rfl rfl (.slice none 0 0) rfl ?_
  simp only [Act.put, aS, aC, aZ]
  refine wl_as (.tmp 31) rfl rfl (.int .i64 4) rfl ?_
  simp only [Act.put, aS, aC, aZ]
  refine wpList_nil ?_
  go_upto_region 5 with fail
  refine wp_region_lit ?_
  refine wl_mv (.tmp 1) rfl rfl (ptr g) rfl ?_
  simp only [Act.put, aS, aC, aZ]
  refine wpList_callF eN19 [.tmp 32, .const (.int .i64 0)] _ rfl rfl [(ptr g), .int .i64 0] rfl ?_
  refine (sFormat R2.out (by decide) (by decide) RB.out.1.lv.on RB.out.2).mono ?_
  rintro e w3 ⟨rfl, c3, m3, q1, q2, q3⟩
  refine ⟨_, rfl, ?_⟩
  have R3 : Hid (Sw w w3 c3 g 64 m3 5000 ∧ Jc m3 0 64 [] ∧ m3.fuse < 0) := ⟨q1, q2, q3⟩
  clear q1 q2 q3 R2 RB
  simp only [Act.put, aS, aC, aZ]
  refine wl_as (.tmp 33) rfl rfl (.int .i64 0) rfl ?_
  simp only [Act.put, aS, aC, aZ]
  refine wpList_nil ?_
  go_upto_region 6 with fail
  refine wp_region_lit ?_
  refine wl_mv (.tmp 1) rfl rfl (ptr g) rfl ?_
  simp only [Act.put, aS, aC, aZ]
  refine wpList_callF eN20 [.tmp 35, .const (.int .i64 0)] _ rfl rfl [(ptr g), .int .i64 0] rfl ?_
  refine (sOpen R3.out.1 (by decide) R3.out.2.1 R3.out.2.2).mono ?_
  rintro e w4 ⟨ga, pa, ca, Sa, Ea, c4, m4, rfl, q1, q2, q3, q4, q5, qc, qh, us4, q6⟩
  refine ⟨_, rfl, ?_⟩
  have R4 : Hid (Sw w w4 c4 g 64 m4 5002 ∧ w.heap.size ≤ ga ∧ WalAt w4 c4 2 ga g (0 : Nat) Sa Ea ∧ Jo m4 0 64 Sa Ea [] ∧ m4.fuse < 0) := ⟨q1, Nat.le_trans R3.out.1.below.size q2, q3, q4, q5⟩
  clear q1 q2 q3 q4 q5 q6 qc qh R3
  simp only [Act.put, aS, aC, aZ]
  refine wl_mv (.tmp 36) rfl rfl (.tuple #[(ptr ga), (.slice pa 0 ca), (.int .i64 0)]) rfl ?_
  simp only [Act.put, aS, aC, aZ]
  refine wl_ext (.tmp 34) 0 rfl rfl #[(ptr ga), (.slice pa 0 ca), (.int .i64 0)] rfl (ptr ga) rfl ?_
  simp only [Act.put, aS, aC, aZ]
  refine wl_ext (.tmp 34) 1 rfl rfl #[(ptr ga), (.slice pa 0 ca), (.int .i64 0)] rfl (.slice pa 0 ca) rfl ?_
  simp only [Act.put, aS, aC, aZ]
  refine wl_ext (.tmp 34) 2 rfl rfl #[(ptr ga), (.slice pa 0 ca), (.int .i64 0)] rfl (.int .i64 0) rfl ?_
  simp only [Act.put, aS, aC, aZ]
  refine wl_as (.tmp 37) rfl rfl (ptr ga) rfl ?_
  simp only [Act.put, aS, aC, aZ]
  refine wl_as (.tmp 38) rfl rfl (.slice pa 0 ca) rfl ?_
  simp only [Act.put, aS, aC, aZ]
  refine wl_as (.tmp 39) rfl rfl (.int .i64 0) rfl ?_
  simp only [Act.put, aS, aC, aZ]
  refine wpList_nil ?_
  go_upto_region 7 with fail
  refine wp_region_lit ?_
  refine wl_mv (.tmp 2) rfl rfl (.pointer none) rfl ?_
  simp only [Act.put, aS, aC, aZ]
  refine wl_ptrN0 (.tmp 40) rfl rfl rfl ?_
  simp only [Act.put, aS, aC, aZ]
  refine wl_mv (.tmp 41) rfl rfl (.bool false) rfl ?_
  simp only [Act.put, aS, aC, aZ]
  refine wl_mv (.tmp 4) rfl rfl (.int .i64 4) rfl ?_
  simp only [Act.put, aS, aC, aZ]
  refine wl_neI (.tmp 43) (.const (.int .i64 4)) rfl rfl 4 4 rfl rfl false rfl ?_
  simp only [Act.put, aS, aC, aZ]
  refine wl rfl _ _ (run_pickZ (.tmp 42) (.const (.bool true)) (.tmp 44) rfl false (.bool false) rfl rfl) ?_
  simp only [Act.put, aS, aC, aZ]
  refine wl_mv (.tmp 45) rfl rfl (.bool false) rfl ?_
  simp only [Act.put, aS, aC, aZ]
  refine wl_mv (.tmp 5) rfl rfl (.int .i64 0) rfl ?_
  simp only [Act.put, aS, aC, aZ]
  refine wl_neI (.tmp 47) (.const (.int .i64 0)) rfl rfl 0 0 rfl rfl false rfl ?_
  simp only [Act.put, aS, aC, aZ]
  refine wl rfl _ _ (run_pickZ (.tmp 46) (.const (.bool true)) (.tmp 48) rfl false (.bool false) rfl rfl) ?_
  simp only [Act.put, aS, aC, aZ]
  refine wl_mv (.tmp 49) rfl rfl (.bool false) rfl ?_
  simp only [Act.put, aS, aC, aZ]
  refine wl_mv (.tmp 6) rfl rfl (ptr ga) rfl ?_
  simp only [Act.put, aS, aC, aZ]
  refine wl_ptrE1 (.tmp 51) rfl rfl ga rfl ?_
  simp only [Act.put, aS, aC, aZ]
  refine wl rfl _ _ (run_pickZ (.tmp 50) (.const (.bool true)) (.tmp 52) rfl false (.bool false) rfl rfl) ?_
  simp only [Act.put, aS, aC, aZ]
  refine wl_mv (.tmp 53) rfl rfl (.bool false) rfl ?_
  simp only [Act.put, aS, aC, aZ]
  refine wl_mv (.tmp 7) rfl rfl (.slice pa 0 ca) rfl ?_
  simp only [Act.put, aS, aC, aZ]
  refine wl_sl sl38 (.tmp 55) rfl rfl pa 0 ca rfl ?_
  simp only [Act.put, aS, aC, aZ]
  refine wl_neI (.tmp 56) (.const (.int .i64 0)) rfl rfl 0 0 rfl rfl false rfl ?_
  simp only [Act.put, aS, aC, aZ]
  refine wl rfl _ _ (run_pickZ (.tmp 54) (.const (.bool true)) (.tmp 57) rfl false (.bool false) rfl rfl) ?_
  simp only [Act.put, aS, aC, aZ]
  refine wl_mv (.tmp 58) rfl rfl (.bool false) rfl ?_
  simp only [Act.put, aS, aC, aZ]
  refine wl_mv (.tmp 8) rfl rfl (.int .i64 0) rfl ?_
  simp only [Act.put, aS, aC, aZ]
  refine wl_neI (.tmp 60) (.const (.int .i64 0)) rfl rfl 0 0 rfl rfl false rfl ?_
  simp only [Act.put, aS, aC, aZ]
  refine wl rfl _ _ (run_pickZ (.tmp 59) (.const (.bool true)) (.tmp 61) rfl false (.bool false) rfl rfl) ?_
  simp only [Act.put, aS, aC, aZ]
  refine wpList_nil ?_
  go_upto_region 9 with fail
  refine wp_region_lit ?_
  refine wl_mv (.tmp 6) rfl rfl (ptr ga) rfl ?_
  simp only [Act.put, aS, aC, aZ]
  refine lit51b 97 rfl rfl ?_
  obtain ⟨y1, hy1⟩ : ∃ y1, y1 = w4.alloc (.cells #[.int .u8 ((97 : Nat) : Int)] 5) := ⟨_, rfl⟩
  obtain ⟨gy1, hgy1⟩ : ∃ gy1, gy1 = w4.heap.size := ⟨_, rfl⟩
  have by1 : Below w4.heap.size w4 y1 := by rw [hy1]; exact below_alloc w4 _
  have sy1 : SliceIn y1 (.slice (some ⟨gy1, 0, none⟩) 1 1) [97] := by rw [hy1, hgy1]; exact one_byte (by decide) (Below.refl _ _)
  rw [← hy1, ← hgy1]
  simp only [Act.put, aS, aC, aZ]
  refine lit51b 98 rfl rfl ?_
  obtain ⟨y2, hy2⟩ : ∃ y2, y2 = y1.alloc (.cells #[.int .u8 ((98 : Nat) : Int)] 5) := ⟨_, rfl⟩
  obtain ⟨gy2, hgy2⟩ : ∃ gy2, gy2 = y1.heap.size := ⟨_, rfl⟩
  have by2 : Below y1.heap.size y1 y2 := by rw [hy2]; exact below_alloc y1 _
  have sy2 : SliceIn y2 (.slice (some ⟨gy2, 0, none⟩) 1 1) [98] := by rw [hy2, hgy2]; exact one_byte (by decide) (Below.refl _ _)
  rw [← hy2, ← hgy2]
  simp only [Act.put, aS, aC, aZ]
  refine wl rfl _ _ (run_lit30_2 (.tmp 64) (.tmp 65) rfl (.slice (some ⟨gy1, 0, none⟩) 1 1) (.slice (some ⟨gy2, 0, none⟩) 1 1) ⟨_, _, _, rfl⟩ ⟨_, _, _, rfl⟩ rfl rfl) ?_
  obtain ⟨y3, hy3⟩ : ∃ y3, y3 = y2.alloc (.cells #[.slice (some ⟨gy1, 0, none⟩) 1 1, .slice (some ⟨gy2, 0, none⟩) 1 1] 50) := ⟨_, rfl⟩
  obtain ⟨gy3, hgy3⟩ : ∃ gy3, gy3 = y2.heap.size := ⟨_, rfl⟩
  have by3 : Below y2.heap.size y2 y3 := by rw [hy3]; exact below_alloc y2 _
  have ry3 : RowsIn y3 (.slice (some ⟨gy3, 0, none⟩) 2 2) [[97], [98]] := by rw [hy3, hgy3]; exact rows_two (sy1.later by2) sy2
  rw [← hy3, ← hgy3]
  have Ry : Hid (Below w4.heap.size w4 y3 ∧ RowsIn y3 (.slice (some ⟨gy3, 0, none⟩) 2 2) [[97], [98]]) := ⟨(by1.trans (by2.mono by1.size)).trans (by3.mono (Nat.le_trans by1.size by2.size)), ry3⟩
  clear hy1 hgy1 by1 sy1 hy2 hgy2 by2 sy2 hy3 hgy3 by3 ry3
  simp only [Act.put, aS, aC, aZ]
  refine wpList_callF eN21 [.tmp 63, .tmp 66] _ rfl rfl [(ptr ga), (.slice (some ⟨gy3, 0, none⟩) 2 2)] rfl ?_
  refine (sAppend (R4.out.1.bel Ry.out.1) (by decide) (R4.out.2.2.1.below Ry.out.1) R4.out.2.1 R4.out.2.2.2.1 R4.out.2.2.2.2 _ [[97], [98]] Ry.out.2 exL1.1 (by rw [exL1.2.2.2.2.2.2.1, exL1.2.1]; decide)).mono ?_
  rintro e w5 ⟨rfl, c5, m5, un5, q1, q2, q3, q4, _, _⟩
  refine ⟨_, rfl, ?_⟩
  have R5 : Hid (Sw w w5 c5 g 64 m5 5102 ∧ WalAt w5 c5 2 ga g (0 : Nat) Sa un5 ∧ Jo m5 0 64 Sa un5 [[[97], [98]]] ∧ m5.fuse < 0 ∧ w.heap.size ≤ ga) := ⟨q1, q2, q3, q4, R4.out.2.1⟩
  clear q1 q2 q3 q4 R4 Ry
  simp only [Act.put, aS, aC, aZ]
  refine wl_as (.tmp 67) rfl rfl (.int .i64 0) rfl ?_
  simp only [Act.put, aS, aC, aZ]
  refine wpList_nil ?_
  go_upto_region 10 with fail
  refine wp_region_lit ?_
  refine wl_mv (.tmp 6) rfl rfl (ptr ga) rfl ?_
  simp only [Act.put, aS, aC, aZ]
  refine wpList_callF eN21 [.tmp 68, .const (.slice none 0 0)] _ rfl rfl [(ptr ga), .slice none 0 0] rfl ?_
  refine (sAppend R5.out.1 (by decide) R5.out.2.1 R5.out.2.2.2.2 R5.out.2.2.1 R5.out.2.2.2.1 _ [] (rows_nil w5) exL1.2.2.1 (by rw [exL1.2.2.2.2.2.2.2.1, exL1.2.2.2.1]; decide)).mono ?_
  rintro e w6 ⟨rfl, c6, m6, un6, q1, q2, q3, q4, _, _⟩
  refine ⟨_, rfl, ?_⟩
  have R6 : Hid (Sw w w6 c6 g 64 m6 5202 ∧ WalAt w6 c6 2 ga g (0 : Nat) Sa un6 ∧ Jo m6 0 64 Sa un6 D2 ∧ m6.fuse < 0 ∧ w.heap.size ≤ ga) := ⟨q1, q2, q3, q4, R5.out.2.2.2.2⟩
  clear q1 q2 q3 q4 R5
  simp only [Act.put, aS, aC, aZ]
  refine wl_as (.tmp 69) rfl rfl (.int .i64 0) rfl ?_
  simp only [Act.put, aS, aC, aZ]
  refine wpList_nil ?_
  go_upto_region 11 with fail
  refine wp_region_lit ?_
  refine wl_mv (.tmp 6) rfl rfl (ptr ga) rfl ?_
  simp only [Act.put, aS, aC, aZ]
  refine wl_make (.const (.int .i64 17)) (.const (.int .i64 17)) 28 50 (.slice none 0 0) 1 24 rfl rfl Tryd.underlying28 info51z 17 rfl rfl (by decide) (by decide) ?_
  intro w7 r7 s7 b7
  rw [made51] at r7
  obtain ⟨g7, hg7⟩ : ∃ g7, g7 = w6.heap.size := ⟨_, rfl⟩
  rw [← hg7] at r7 ⊢
  have R7 : Hid (RowsIn w7 (whole g7 17) (List.replicate 17 []) ∧ Below w6.heap.size w6 w7) := ⟨rows_17 r7, b7⟩
  clear r7 s7 b7 hg7
  simp only [Act.put, aS, aC, aZ]
  refine wpList_callF eN21 [.tmp 70, .tmp 71] _ rfl rfl [(ptr ga), (whole g7 17)] rfl ?_
  refine (sAppendLong (R6.out.1.bel R7.out.2) (by decide) (R6.out.2.1.below R7.out.2) R6.out.2.2.2.2 R6.out.2.2.1 _ (List.replicate 17 []) R7.out.1 exL1.2.2.2.2.2.2.2.2.2.1 exL1.2.2.2.2.2.2.2.2.2.2).mono ?_
  rintro e w8 ⟨rfl, c8, q1, q2⟩
  refine ⟨_, rfl, ?_⟩
  have R8 : Hid (Sw w w8 c8 g 64 m6 5202 ∧ Jc m6 0 64 D2 ∧ m6.fuse < 0) := ⟨q1, R6.out.2.2.1.jc, R6.out.2.2.2.1⟩
  clear q1 q2 R6 R7
  simp only [Act.put, aS, aC, aZ]
  refine wl_as (.tmp 72) rfl rfl (.int .i64 5) rfl ?_
  simp only [Act.put, aS, aC, aZ]
  refine wpList_nil ?_
  go_upto_region 12 with fail
  refine wp_region_lit ?_
  refine wl_mv (.tmp 1) rfl rfl (ptr g) rfl ?_
  simp only [Act.put, aS, aC, aZ]
  refine wpList_callF eN20 [.tmp 74, .const (.int .i64 0)] _ rfl rfl [(ptr g), .int .i64 0] rfl ?_
  refine (sOpen R8.out.1 (by decide) R8.out.2.1 R8.out.2.2).mono ?_
  rintro e w9 ⟨gb, pb, cb, Sb, Eb, c9, m9, rfl, q1, q2, q3, q4, q5, qc, qh, us9, q6⟩
  refine ⟨_, rfl, ?_⟩
  have R9 : Hid (Sw w w9 c9 g 64 m9 5204 ∧ w.heap.size ≤ gb ∧ WalAt w9 c9 2 gb g (0 : Nat) Sb Eb ∧ Jo m9 0 64 Sb Eb D2 ∧ m9.fuse < 0 ∧ Rob (fun b => b < gb ∧ (c9 b).1 ≠ 2) (fun W => TxsIn W (.slice pb 2 cb) D2) w9) := ⟨q1, Nat.le_trans R8.out.1.below.size q2, q3, q4, q5, fun W h1 h2 => (q6 W h1 fun b hb hp => h2 b hb ⟨hp.2.1, hp.2.2⟩).ins⟩
  clear q1 q2 q3 q4 q5 q6 qc qh R8
  simp only [Act.put, aS, aC, aZ]
  refine wl_mv (.tmp 75) rfl rfl (.tuple #[(ptr gb), (.slice pb 2 cb), (.int .i64 0)]) rfl ?_
  simp only [Act.put, aS, aC, aZ]
  refine wl_ext (.tmp 73) 0 rfl rfl #[(ptr gb), (.slice pb 2 cb), (.int .i64 0)] rfl (ptr gb) rfl ?_
  simp only [Act.put, aS, aC, aZ]
  refine wl_ext (.tmp 73) 1 rfl rfl #[(ptr gb), (.slice pb 2 cb), (.int .i64 0)] rfl (.slice pb 2 cb) rfl ?_
  simp only [Act.put, aS, aC, aZ]
  refine wl_ext (.tmp 73) 2 rfl rfl #[(ptr gb), (.slice pb 2 cb), (.int .i64 0)] rfl (.int .i64 0) rfl ?_
  simp only [Act.put, aS, aC, aZ]
  refine wl_as (.tmp 76) rfl rfl (ptr gb) rfl ?_
  simp only [Act.put, aS, aC, aZ]
  refine wl_as (.tmp 77) rfl rfl (.slice pb 2 cb) rfl ?_
  simp only [Act.put, aS, aC, aZ]
  refine wl_as (.tmp 78) rfl rfl (.int .i64 0) rfl ?_
  simp only [Act.put, aS, aC, aZ]
  refine wpList_nil ?_
  go_upto_region 13 with fail
  refine wp_region_lit ?_
  refine wl_mv (.tmp 12) rfl rfl (ptr gb) rfl ?_
  simp only [Act.put, aS, aC, aZ]
  refine wl_ptrE1 (.tmp 79) rfl rfl gb rfl ?_
  simp only [Act.put, aS, aC, aZ]
  refine wl_mv (.tmp 80) rfl rfl (.bool false) rfl ?_
  simp only [Act.put, aS, aC, aZ]
  refine wl_mv (.tmp 9) rfl rfl (.int .i64 0) rfl ?_
  simp only [Act.put, aS, aC, aZ]
  refine wl_neI (.tmp 82) (.const (.int .i64 0)) rfl rfl 0 0 rfl rfl false rfl ?_
  simp only [Act.put, aS, aC, aZ]
  refine wl rfl _ _ (run_pickZ (.tmp 81) (.const (.bool true)) (.tmp 83) rfl false (.bool false) rfl rfl) ?_
  simp only [Act.put, aS, aC, aZ]
  refine wl_mv (.tmp 84) rfl rfl (.bool false) rfl ?_
  simp only [Act.put, aS, aC, aZ]
  refine wl_mv (.tmp 10) rfl rfl (.int .i64 0) rfl ?_
  simp only [Act.put, aS, aC, aZ]
  refine wl_neI (.tmp 86) (.const (.int .i64 0)) rfl rfl 0 0 rfl rfl false rfl ?_
  simp only [Act.put, aS, aC, aZ]
  refine wl rfl _ _ (run_pickZ (.tmp 85) (.const (.bool true)) (.tmp 87) rfl false (.bool false) rfl rfl) ?_
  simp only [Act.put, aS, aC, aZ]
  refine wl_mv (.tmp 88) rfl rfl (.bool false) rfl ?_
  simp only [Act.put, aS, aC, aZ]
  refine wl_mv (.tmp 11) rfl rfl (.int .i64 5) rfl ?_
  simp only [Act.put, aS, aC, aZ]
  refine wl_neI (.tmp 90) (.const (.int .i64 5)) rfl rfl 5 5 rfl rfl false rfl ?_
  simp only [Act.put, aS, aC, aZ]
  refine wl rfl _ _ (run_pickZ (.tmp 89) (.const (.bool true)) (.tmp 91) rfl false (.bool false) rfl rfl) ?_
  simp only [Act.put, aS, aC, aZ]
  refine wl_mv (.tmp 92) rfl rfl (.bool false) rfl ?_
  simp only [Act.put, aS, aC, aZ]
  refine wl_mv (.tmp 14) rfl rfl (.int .i64 0) rfl ?_
  simp only [Act.put, aS, aC, aZ]
  refine wl_neI (.tmp 94) (.const (.int .i64 0)) rfl rfl 0 0 rfl rfl false rfl ?_
  simp only [Act.put, aS, aC, aZ]
  refine wl rfl _ _ (run_pickZ (.tmp 93) (.const (.bool true)) (.tmp 95) rfl false (.bool false) rfl rfl) ?_
  simp only [Act.put, aS, aC, aZ]
  refine wl_mv (.tmp 96) rfl rfl (.bool false) rfl ?_
  simp only [Act.put, aS, aC, aZ]
  refine wl_mv (.tmp 13) rfl rfl (.slice pb 2 cb) rfl ?_
  simp only [Act.put, aS, aC, aZ]
  refine lit51b 97 rfl rfl ?_
  obtain ⟨z1, hz1⟩ : ∃ z1, z1 = w9.alloc (.cells #[.int .u8 ((97 : Nat) : Int)] 5) := ⟨_, rfl⟩
  obtain ⟨gz1, hgz1⟩ : ∃ gz1, gz1 = w9.heap.size := ⟨_, rfl⟩
  have bz1 : Below w9.heap.size w9 z1 := by rw [hz1]; exact below_alloc w9 _
  have sz1 : SliceIn z1 (.slice (some ⟨gz1, 0, none⟩) 1 1) [97] := by rw [hz1, hgz1]; exact one_byte (by decide) (Below.refl _ _)
  rw [← hz1, ← hgz1]
  simp only [Act.put, aS, aC, aZ]
  refine lit51b 98 rfl rfl ?_
  obtain ⟨z2, hz2⟩ : ∃ z2, z2 = z1.alloc (.cells #[.int .u8 ((98 : Nat) : Int)] 5) := ⟨_, rfl⟩
  obtain ⟨gz2, hgz2⟩ : ∃ gz2, gz2 = z1.heap.size := ⟨_, rfl⟩
  have bz2 : Below z1.heap.size z1 z2 := by rw [hz2]; exact below_alloc z1 _
  have sz2 : SliceIn z2 (.slice (some ⟨gz2, 0, none⟩) 1 1) [98] := by rw [hz2, hgz2]; exact one_byte (by decide) (Below.refl _ _)
  rw [← hz2, ← hgz2]
  simp only [Act.put, aS, aC, aZ]
  refine wl rfl _ _ (run_lit30_2 (.tmp 99) (.tmp 100) rfl (.slice (some ⟨gz1, 0, none⟩) 1 1) (.slice (some ⟨gz2, 0, none⟩) 1 1) ⟨_, _, _, rfl⟩ ⟨_, _, _, rfl⟩ rfl rfl) ?_
  obtain ⟨z3, hz3⟩ : ∃ z3, z3 = z2.alloc (.cells #[.slice (some ⟨gz1, 0, none⟩) 1 1, .slice (some ⟨gz2, 0, none⟩) 1 1] 50) := ⟨_, rfl⟩
  obtain ⟨gz3, hgz3⟩ : ∃ gz3, gz3 = z2.heap.size := ⟨_, rfl⟩
  have bz3 : Below z2.heap.size z2 z3 := by rw [hz3]; exact below_alloc z2 _
  have rz3 : RowsIn z3 (.slice (some ⟨gz3, 0, none⟩) 2 2) [[97], [98]] := by rw [hz3, hgz3]; exact rows_two (sz1.later bz2) sz2
  rw [← hz3, ← hgz3]
  have Rz : Hid (Below w9.heap.size w9 z3 ∧ RowsIn z3 (.slice (some ⟨gz3, 0, none⟩) 2 2) [[97], [98]]) := ⟨(bz1.trans (bz2.mono bz1.size)).trans (bz3.mono (Nat.le_trans bz1.size bz2.size)), rz3⟩
  clear hz1 hgz1 bz1 sz1 hz2 hgz2 bz2 sz2 hz3 hgz3 bz3 rz3
  simp only [Act.put, aS, aC, aZ]
  refine lit30 rfl rfl ?_
  obtain ⟨z4, hz4⟩ : ∃ z4, z4 = z3.alloc (.cells #[] 50) := ⟨_, rfl⟩
  obtain ⟨gz4, hgz4⟩ : ∃ gz4, gz4 = z3.heap.size := ⟨_, rfl⟩
  have bz4 : Below z3.heap.size z3 z4 := by rw [hz4]; exact below_alloc z3 _
  rw [← hz4, ← hgz4]
  simp only [Act.put, aS, aC, aZ]
  refine wl rfl _ _ (run_lit38_2 (.tmp 101) (.tmp 102) rfl (.slice (some ⟨gz3, 0, none⟩) 2 2) (.slice (some ⟨gz4, 0, none⟩) 0 0) ⟨_, _, _, rfl⟩ ⟨_, _, _, rfl⟩ rfl rfl) ?_
  obtain ⟨z5, hz5⟩ : ∃ z5, z5 = z4.alloc (.cells #[.slice (some ⟨gz3, 0, none⟩) 2 2, .slice (some ⟨gz4, 0, none⟩) 0 0] 28) := ⟨_, rfl⟩
  obtain ⟨gz5, hgz5⟩ : ∃ gz5, gz5 = z4.heap.size := ⟨_, rfl⟩
  have bz5 : Below z4.heap.size z4 z5 := by rw [hz5]; exact below_alloc z4 _
  have tz5 : TxsIn z5 (.slice (some ⟨gz5, 0, none⟩) 2 2) D2 := by rw [hz5, hgz5]; exact txs_two (Rz.out.2.later bz4) ⟨_, 0, rfl, by decide, Or.inl rfl⟩
  rw [← hz5, ← hgz5]
  have b95 : Below w9.heap.size w9 z5 := (Rz.out.1.trans (bz4.mono Rz.out.1.size)).trans (bz5.mono (Nat.le_trans Rz.out.1.size bz4.size))
  have HSM : Hid (Calls Tryd.prog 16 #[.slice pb 2 cb, .slice (some ⟨gz5, 0, none⟩) 2 2] z5 fun e w' => e = .returned (.bool true) ∧ Below z5.heap.size z5 w') := same_any (R9.out.2.2.2.2.2.below b95).now tz5
  have RZ : Hid (Below w9.heap.size w9 z5) := b95
  clear hz4 hgz4 bz4 hz5 hgz5 bz5 tz5 b95 Rz
  simp only [Act.put, aS, aC, aZ]
  refine wpList_callW eN22 [.tmp 98, .tmp 103] _ rfl rfl [(.slice pb 2 cb), (.slice (some ⟨gz5, 0, none⟩) 2 2)] rfl ?_
  refine HSM.out.mono ?_
  rintro e wa ⟨rfl, ba⟩
  have RA : Hid (Sw w wa c9 g 64 m9 5204 ∧ w.heap.size ≤ gb ∧ WalAt wa c9 2 gb g (0 : Nat) Sb Eb ∧ Jo m9 0 64 Sb Eb D2 ∧ m9.fuse < 0 ∧ Rob (fun b => b < gb ∧ (c9 b).1 ≠ 2) (fun W => TxsIn W (.slice pb 2 cb) D2) wa) := by
    have bb : Below w9.heap.size w9 wa := RZ.out.trans (ba.mono RZ.out.size)
    exact ⟨R9.out.1.bel bb, R9.out.2.1, R9.out.2.2.1.below bb, R9.out.2.2.2.1, R9.out.2.2.2.2.1, R9.out.2.2.2.2.2.below bb⟩
  clear ba R9 RZ HSM
  refine ⟨_, rfl, ?_⟩
  simp only [Act.put, aS, aC, aZ]
  refine wl_not (.tmp 104) rfl rfl true rfl ?_
  simp only [Act.put, aS, aC, aZ]
  refine wl rfl _ _ (run_pickZ (.tmp 97) (.const (.bool true)) (.tmp 105) rfl false (.bool false) rfl rfl) ?_
  simp only [Act.put, aS, aC, aZ]
  refine wpList_nil ?_
  go_upto_region 15 with fail
  refine wp_region_lit ?_
  refine wl_mv (.tmp 1) rfl rfl (ptr g) rfl ?_
  simp only [Act.put, aS, aC, aZ]
  refine wpList_callF eN14 [.tmp 107, .const (.int .i64 0)] _ rfl rfl [(ptr g), .int .i64 0] rfl ?_
  refine (sFuse RA.out.1 0 (by decide) (by decide)).mono ?_
  rintro e wb ⟨rfl, cb2, q1, q2, q3⟩
  refine ⟨_, rfl, ?_⟩
  have RBB : Hid (Sw w wb cb2 g 64 (m9.fuseTo 0) 5204 ∧ w.heap.size ≤ gb ∧ WalAt wb cb2 2 gb g (0 : Nat) Sb Eb ∧ Jo (m9.fuseTo 0) 0 64 Sb Eb D2 ∧ (m9.fuseTo 0).fuse = 0 ∧ Rob (fun b => b < gb ∧ (cb2 b).1 ≠ 2) (fun W => TxsIn W (.slice pb 2 cb) D2) wb) := by
    have hgb := RA.out.2.2.1.row.lt
    refine ⟨q1, RA.out.2.1, RA.out.2.2.1.kept q2 q3, ?_, ?_, RA.out.2.2.2.2.2.next q3.size fun b hb hp => ⟨q3.block b hb hp.2, hp.1, by rw [q2 b hb]; exact hp.2⟩⟩
    · obtain ⟨F, rows, hJ, h2, h3⟩ := RA.out.2.2.2.1
      exact ⟨F, rows, hJ.fuse 0 (by decide) (by decide), h2, h3⟩
    · unfold Pl.fuseTo
      rw [if_pos RA.out.2.2.2.1.jc.lv.1.on]
  obtain ⟨mb, hmb⟩ : ∃ mb, mb = m9.fuseTo 0 := ⟨_, rfl⟩
  rw [← hmb] at RBB
  clear q1 q2 q3 RA hmb
  simp only [Act.put, aS, aC, aZ]
  refine wpList_nil ?_
  go_upto_region 16 with fail
  refine wp_region_lit ?_
  refine wl_mv (.tmp 12) rfl rfl (ptr gb) rfl ?_
  simp only [Act.put, aS, aC, aZ]
  refine lit51b 99 rfl rfl ?_
  obtain ⟨x1, hx1⟩ : ∃ x1, x1 = wb.alloc (.cells #[.int .u8 ((99 : Nat) : Int)] 5) := ⟨_, rfl⟩
  obtain ⟨gx1, hgx1⟩ : ∃ gx1, gx1 = wb.heap.size := ⟨_, rfl⟩
  have bx1 : Below wb.heap.size wb x1 := by rw [hx1]; exact below_alloc wb _
  have sx1 : SliceIn x1 (.slice (some ⟨gx1, 0, none⟩) 1 1) [99] := by rw [hx1, hgx1]; exact one_byte (by decide) (Below.refl _ _)
  rw [← hx1, ← hgx1]
  simp only [Act.put, aS, aC, aZ]
  refine wl rfl _ _ (run_lit30 (.tmp 110) rfl (.slice (some ⟨gx1, 0, none⟩) 1 1) ⟨_, _, _, rfl⟩ rfl) ?_
  obtain ⟨x2, hx2⟩ : ∃ x2, x2 = x1.alloc (.cells #[.slice (some ⟨gx1, 0, none⟩) 1 1] 50) := ⟨_, rfl⟩
  obtain ⟨gx2, hgx2⟩ : ∃ gx2, gx2 = x1.heap.size := ⟨_, rfl⟩
  have bx2 : Below x1.heap.size x1 x2 := by rw [hx2]; exact below_alloc x1 _
  have rx2 : RowsIn x2 (.slice (some ⟨gx2, 0, none⟩) 1 1) [[99]] := by rw [hx2, hgx2]; exact rows_one sx1
  rw [← hx2, ← hgx2]
  have RX : Hid (Below wb.heap.size wb x2 ∧ RowsIn x2 (.slice (some ⟨gx2, 0, none⟩) 1 1) [[99]]) := ⟨bx1.trans (bx2.mono bx1.size), rx2⟩
  clear hx1 hgx1 bx1 sx1 hx2 hgx2 bx2 rx2
  simp only [Act.put, aS, aC, aZ]
  refine wpList_callF eN21 [.tmp 109, .tmp 111] _ rfl rfl [(ptr gb), (.slice (some ⟨gx2, 0, none⟩) 1 1)] rfl ?_
  refine (sAppendDark (RBB.out.1.bel RX.out.1) (by decide) (RBB.out.2.2.1.below RX.out.1) RBB.out.2.1 RBB.out.2.2.2.1 RBB.out.2.2.2.2.1 _ [[99]] RX.out.2 exL1.2.2.2.2.1 (by rw [exL1.2.2.2.2.2.2.2.2.1, exL1.2.2.2.2.2.1]; decide)).mono ?_
  rintro e wd ⟨rfl, cd, q1, q2, q3, q4⟩
  refine ⟨_, rfl, ?_⟩
  have RD : Hid (Sw w wd cd g 64 mb.step 5205 ∧ Jc (mb.step.boot []) 0 64 D2 ∧ Rob (fun b => b < gb ∧ (cd b).1 ≠ 2) (fun W => TxsIn W (.slice pb 2 cb) D2) wd ∧ w.heap.size ≤ gb) := ⟨q1, q2 [], (RBB.out.2.2.2.2.2.below RX.out.1).next q4.size fun b hb hp => ⟨q4.block b hb (fun e => e.elim hp.2 (fun e => by have := hp.1; omega)), hp.1, by rw [q3 b hb]; exact hp.2⟩, RBB.out.2.1⟩
  clear q1 q2 q3 q4 RBB RX
  simp only [Act.put, aS, aC, aZ]
  refine wl_as (.tmp 112) rfl rfl (.int .i64 2) rfl ?_
  simp only [Act.put, aS, aC, aZ]
  refine wpList_nil ?_
  go_upto_region 17 with fail
  refine wp_region_lit ?_
  refine wl_mv (.tmp 1) rfl rfl (ptr g) rfl ?_
  simp only [Act.put, aS, aC, aZ]
  refine wpList_callF eN15 [.tmp 113, .const (.slice none 0 0)] _ rfl rfl [(ptr g), .slice none 0 0] rfl ?_
  refine (sBoot RD.out.1 (by decide) _ [] ⟨none, 0, rfl, Nat.le_refl _, by decide, Or.inl rfl⟩).mono ?_
  rintro e we ⟨rfl, ce, q1, q2, q3⟩
  refine ⟨_, rfl, ?_⟩
  have RE : Hid (Sw w we ce g 64 (mb.step.boot []) 5205 ∧ Jc (mb.step.boot []) 0 64 D2 ∧ (mb.step.boot []).fuse < 0 ∧ Rob (fun b => b < gb ∧ (ce b).1 ≠ 2) (fun W => TxsIn W (.slice pb 2 cb) D2) we) := ⟨q1, RD.out.2.1, (by decide : (-1 : Int) < 0), RD.out.2.2.1.next q3.size fun b hb hp => ⟨q3.block b hb hp.2, hp.1, by rw [q2 b hb]; exact hp.2⟩⟩
  obtain ⟨me, hme⟩ : ∃ me, me = mb.step.boot [] := ⟨_, rfl⟩
  rw [← hme] at RE
  clear q1 q2 q3 RD hme
  simp only [Act.put, aS, aC, aZ]
  refine wpList_nil ?_
  go_upto_region 18 with fail
  refine wp_region_lit ?_
  refine wl_mv (.tmp 1) rfl rfl (ptr g) rfl ?_
  simp only [Act.put, aS, aC, aZ]
  refine wpList_callF eN20 [.tmp 116, .const (.int .i64 0)] _ rfl rfl [(ptr g), .int .i64 0] rfl ?_
  refine (sOpen RE.out.1 (by decide) RE.out.2.1 RE.out.2.2.1).mono ?_
  rintro e wf ⟨gf, pf, cf, Sf, Ef, cF, mf, rfl, q1, q2, q3, q4, q5, qc, qh, usf, q6⟩
  refine ⟨_, rfl, ?_⟩
  have RF : Hid (Sw w wf cF g 64 mf 5207 ∧ w.heap.size ≤ gf ∧ WalAt wf cF 2 gf g (0 : Nat) Sf Ef ∧ Jo mf 0 64 Sf Ef D2 ∧ mf.fuse < 0 ∧ TxsIn wf (.slice pf 2 cf) D2 ∧ TxsIn wf (.slice pb 2 cb) D2) := ⟨q1, Nat.le_trans RE.out.1.below.size q2, q3, q4, q5, q6.now.ins, (RE.out.2.2.2.kept qh.size fun b hb hp => qh.block b hb hp.2).now⟩
  clear q1 q2 q3 q4 q5 q6 qc qh RE
  simp only [Act.put, aS, aC, aZ]
  refine wl_mv (.tmp 117) rfl rfl (.tuple #[(ptr gf), (.slice pf 2 cf), (.int .i64 0)]) rfl ?_
  simp only [Act.put, aS, aC, aZ]
  refine wl_ext (.tmp 115) 0 rfl rfl #[(ptr gf), (.slice pf 2 cf), (.int .i64 0)] rfl (ptr gf) rfl ?_
  simp only [Act.put, aS, aC, aZ]
  refine wl_ext (.tmp 115) 1 rfl rfl #[(ptr gf), (.slice pf 2 cf), (.int .i64 0)] rfl (.slice pf 2 cf) rfl ?_
  simp only [Act.put, aS, aC, aZ]
  refine wl_ext (.tmp 115) 2 rfl rfl #[(ptr gf), (.slice pf 2 cf), (.int .i64 0)] rfl (.int .i64 0) rfl ?_
  simp only [Act.put, aS, aC, aZ]
  refine wl_as (.tmp 118) rfl rfl (ptr gf) rfl ?_
  simp only [Act.put, aS, aC, aZ]
  refine wl_as (.tmp 119) rfl rfl (.slice pf 2 cf) rfl ?_
  simp only [Act.put, aS, aC, aZ]
  refine wl_as (.tmp 120) rfl rfl (.int .i64 0) rfl ?_
  simp only [Act.put, aS, aC, aZ]
  refine wpList_nil ?_
  go_upto_region 19 with fail
  refine wp_region_lit ?_
  refine wl_mv (.tmp 16) rfl rfl (ptr gf) rfl ?_
  simp only [Act.put, aS, aC, aZ]
  refine wl_ptrE1 (.tmp 121) rfl rfl gf rfl ?_
  simp only [Act.put, aS, aC, aZ]
  refine wl_mv (.tmp 122) rfl rfl (.bool false) rfl ?_
  simp only [Act.put, aS, aC, aZ]
  refine wl_mv (.tmp 15) rfl rfl (.int .i64 2) rfl ?_
  simp only [Act.put, aS, aC, aZ]
  refine wl_neI (.tmp 124) (.const (.int .i64 2)) rfl rfl 2 2 rfl rfl false rfl ?_
  simp only [Act.put, aS, aC, aZ]
  refine wl rfl _ _ (run_pickZ (.tmp 123) (.const (.bool true)) (.tmp 125) rfl false (.bool false) rfl rfl) ?_
  simp only [Act.put, aS, aC, aZ]
  refine wl_mv (.tmp 126) rfl rfl (.bool false) rfl ?_
  simp only [Act.put, aS, aC, aZ]
  refine wl_mv (.tmp 18) rfl rfl (.int .i64 0) rfl ?_
  simp only [Act.put, aS, aC, aZ]
  refine wl_neI (.tmp 128) (.const (.int .i64 0)) rfl rfl 0 0 rfl rfl false rfl ?_
  simp only [Act.put, aS, aC, aZ]
  refine wl rfl _ _ (run_pickZ (.tmp 127) (.const (.bool true)) (.tmp 129) rfl false (.bool false) rfl rfl) ?_
  simp only [Act.put, aS, aC, aZ]
  refine wl_mv (.tmp 130) rfl rfl (.bool false) rfl ?_
  simp only [Act.put, aS, aC, aZ]
  refine wl_mv (.tmp 13) rfl rfl (.slice pb 2 cb) rfl ?_
  simp only [Act.put, aS, aC, aZ]
  refine wl_mv (.tmp 17) rfl rfl (.slice pf 2 cf) rfl ?_
  simp only [Act.put, aS, aC, aZ]
  have HS2 : Hid (Calls Tryd.prog 16 #[.slice pb 2 cb, .slice pf 2 cf] wf fun e w' => e = .returned (.bool true) ∧ Below wf.heap.size wf w') := same_any RF.out.2.2.2.2.2.2 RF.out.2.2.2.2.2.1
  refine wpList_callW eN22 [.tmp 132, .tmp 133] _ rfl rfl [(.slice pb 2 cb), (.slice pf 2 cf)] rfl ?_
  refine HS2.out.mono ?_
  rintro e wh ⟨rfl, bh⟩
  have RH : Hid (Sw w wh cF g 64 mf 5207 ∧ w.heap.size ≤ gf ∧ WalAt wh cF 2 gf g (0 : Nat) Sf Ef ∧ Jo mf 0 64 Sf Ef D2 ∧ mf.fuse < 0) := ⟨RF.out.1.bel bh, RF.out.2.1, RF.out.2.2.1.below bh, RF.out.2.2.2.1, RF.out.2.2.2.2.1⟩
  clear bh RF HS2
  refine ⟨_, rfl, ?_⟩
  simp only [Act.put, aS, aC, aZ]
  refine wl_not (.tmp 134) rfl rfl true rfl ?_
  simp only [Act.put, aS, aC, aZ]
  refine wl rfl _ _ (run_pickZ (.tmp 131) (.const (.bool true)) (.tmp 135) rfl false (.bool false) rfl rfl) ?_
  simp only [Act.put, aS, aC, aZ]
  refine wpList_nil ?_
  go_upto_region 21 with fail
  refine wp_region_lit ?_
  refine wl_mv (.tmp 16) rfl rfl (ptr gf) rfl ?_
  simp only [Act.put, aS, aC, aZ]
  refine wpList_callF eN25 [.tmp 137] _ rfl rfl [(ptr gf)] rfl ?_
  refine (sTrunc RH.out.1 (by decide) RH.out.2.2.1 RH.out.2.1 RH.out.2.2.2.1 RH.out.2.2.2.2).mono ?_
  rintro e wi ⟨rfl, ci, mi, q1, q2, q3, q4, _, _⟩
  refine ⟨_, rfl, ?_⟩
  have RI : Hid (Sw w wi ci g 64 mi 5209 ∧ Jc mi 0 64 [] ∧ mi.fuse < 0) := ⟨q1, q3.jc, q4⟩
  clear q1 q2 q3 q4 RH
  simp only [Act.put, aS, aC, aZ]
  refine wl_as (.tmp 138) rfl rfl (.int .i64 0) rfl ?_
  simp only [Act.put, aS, aC, aZ]
  refine wpList_nil ?_
  go_upto_region 22 with fail
  refine wp_region_lit ?_
  refine wl_mv (.tmp 1) rfl rfl (ptr g) rfl ?_
  simp only [Act.put, aS, aC, aZ]
  refine wpList_callF eN20 [.tmp 140, .const (.int .i64 0)] _ rfl rfl [(ptr g), .int .i64 0] rfl ?_
  refine (sOpen RI.out.1 (by decide) RI.out.2.1 RI.out.2.2).mono ?_
  rintro e wj ⟨gj, pj, cj, Sj, Ej, cJ, mj, rfl, q1, q2, q3, q4, q5, qc, qh, usj, q6⟩
  refine ⟨_, rfl, ?_⟩
  have RJ : Hid (Below w.heap.size w wj) := q1.below
  clear q1 q2 q3 q4 q5 q6 qc qh RI
  simp only [Act.put, aS, aC, aZ]
  refine wl_mv (.tmp 141) rfl rfl (.tuple #[(ptr gj), (.slice pj 0 cj), (.int .i64 0)]) rfl ?_
  simp only [Act.put, aS, aC, aZ]
  refine wl_ext (.tmp 139) 0 rfl rfl #[(ptr gj), (.slice pj 0 cj), (.int .i64 0)] rfl (ptr gj) rfl ?_
  simp only [Act.put, aS, aC, aZ]
  refine wl_ext (.tmp 139) 1 rfl rfl #[(ptr gj), (.slice pj 0 cj), (.int .i64 0)] rfl (.slice pj 0 cj) rfl ?_
  simp only [Act.put, aS, aC, aZ]
  refine wl_ext (.tmp 139) 2 rfl rfl #[(ptr gj), (.slice pj 0 cj), (.int .i64 0)] rfl (.int .i64 0) rfl ?_
  simp only [Act.put, aS, aC, aZ]
  refine wl_as (.tmp 142) rfl rfl (ptr gj) rfl ?_
  simp only [Act.put, aS, aC, aZ]
  refine wl_as (.tmp 143) rfl rfl (.slice pj 0 cj) rfl ?_
  simp only [Act.put, aS, aC, aZ]
  refine wl_as (.tmp 144) rfl rfl (.int .i64 0) rfl ?_
  simp only [Act.put, aS, aC, aZ]
  refine wpList_nil ?_
  go_wp2_with (refine wl_sl sl38 (.tmp 156) rfl rfl pj 0 cj rfl ?_)
  rw [HPQ.out]
  exact ⟨rfl, RJ.out⟩
end Go.Proofs.YtebalanfagglnaaDoor

/- Layer 8: a journal over whatever a disk has. -/
import Derived.Test.YtgcecejamcnkiaaDoorV43
namespace Go.Proofs.YtgcecejamcnkiaaDoor
open Go.RowKit Go.Maps

/-- a plant of one disk and a tape; nothing that was there is turned -/
structure So (w0 W : World) (c : Nat → Colour) (g n : Nat) (m : Pl) (K : Nat) : Prop where
  live : Live W c 2 g m
  tab : Fr.TabIn W
  cc : ∀ b, b < w0.heap.size → c b = (0, 0)
  below : Below w0.heap.size w0 W
  shape : ShapeOf m [n] [9]
  le : m.steps ≤ K
  tab0 : 0 < w0.heap.size
theorem So.c0 {w0 W : World} {c : Nat → Colour} {g n : Nat} {m : Pl} {K : Nat} (h : So w0 W c g n m K) : (c 0).1 ≠ 2 := by rw [h.cc 0 h.tab0]; decide
theorem So.next {w0 W W' : World} {c c' : Nat → Colour} {g n gw : Nat} {m m' : Pl} {K K' : Nat} (h : So w0 W c g n m K) (hcc : ∀ b, b < W.heap.size → c' b = c b) (hl : Live W' c' 2 g m') (hch : Ch (fun b => (c b).1 = 2 ∨ b = gw) W W') (hgw : w0.heap.size ≤ gw) (hsh : m'.sh = m.sh) (hs : m'.steps ≤ K') : So w0 W' c' g n m' K' :=
  ⟨hl, TabIn.ch h.tab hch (fun e => e.elim h.c0 (fun e => by have := h.tab0; omega)), fun b hb => by rw [hcc b (Nat.lt_of_lt_of_le hb h.below.size)]; exact h.cc b hb, h.below.trans (hch.below h.below.size fun b hb e => e.elim (fun e => by rw [h.cc b hb] at e; exact absurd e (by decide)) (fun e => by omega)), by unfold ShapeOf; rw [hsh]; exact h.shape, hs, h.tab0⟩
theorem So.nx {w0 W W' : World} {c c' : Nat → Colour} {g n : Nat} {m m' : Pl} {K K' : Nat} (h : So w0 W c g n m K) (hcc : ∀ b, b < W.heap.size → c' b = c b) (hl : Live W' c' 2 g m') (hch : Ch (fun b => (c b).1 = 2) W W') (hsh : m'.sh = m.sh) (hs : m'.steps ≤ K') : So w0 W' c' g n m' K' :=
  h.next (gw := w0.heap.size) hcc hl (hch.mono fun _ _ e => Or.inl e) (Nat.le_refl _) hsh hs
theorem So.bel {w0 W W' : World} {c : Nat → Colour} {g n : Nat} {m : Pl} {K : Nat} (h : So w0 W c g n m K) (hb : Below W.heap.size W W') : So w0 W' c g n m K := h.nx (fun _ _ => rfl) (h.live.below hb) (Ch.of_below hb) rfl h.le
theorem So.disk {w0 W : World} {c : Nat → Colour} {g n : Nat} {m : Pl} {K : Nat} (h : So w0 W c g n m K) (h8 : 8 ≤ n) (hon : m.on = true) (hK : K ≤ 1000000000) : DiskOn m [n] [9] 0 := ⟨h.shape, by simp, h8, hon, by have := h.le; omega⟩
section
variable {w0 W : World} {c : Nat → Colour} {g n : Nat} {m : Pl} {K : Nat}
theorem oFormat (h : So w0 W c g n m K) (hK : K ≤ 1000000000) (h8 : 8 ≤ n) (hon : m.on = true) (hf : m.fuse < 0) : Calls Tryd.prog 19 #[ptr g, .int .i64 0] W fun e W' => e = .returned (.int .i64 0) ∧ ∃ c' m', So w0 W' c' g n m' (K + 5000) ∧ Jc m' 0 n [] ∧ m'.fuse < 0 := by
  have hle := h.le
  refine (formatJ_any (i := 0) h.live h.shape (by simp) rfl h8 hon h.tab h.c0 (by omega)).mono ?_
  rintro e W' ⟨c', m', q1, q2, q3, q4, q5, q6⟩
  rcases q6 with ⟨rfl, q7, q8⟩ | q6
  · exact ⟨rfl, c', m', h.nx q1 q2 q3 q4.sh (by omega), q7, q8 hf⟩
  · exact absurd q6.1 (by omega)
theorem oOpen (h : So w0 W c g n m K) (hK : K ≤ 1000000000) {D : List (List (List Nat))} (hj : Jc m 0 n D) (hf : m.fuse < 0) : Calls Tryd.prog 20 #[ptr g, .int .i64 0] W fun e W' => ∃ gw p cap S E c' m', e = .returned (.tuple #[ptr gw, .slice p D.length cap, .int .i64 0]) ∧ So w0 W' c' g n m' (K + 2) ∧ W.heap.size ≤ gw ∧ WalAt W' c' 2 gw g (0 : Nat) S E ∧ Jo m' 0 n S E D ∧ m'.fuse < 0 ∧ (∀ b, b < W.heap.size → c' b = c b) ∧ Ch (fun b => (c b).1 = 2) W W' ∧ ∃ us, Rob (fun b => W.heap.size ≤ b ∧ b < gw ∧ (c' b).1 ≠ 2) (fun W => TxsC W (.slice p D.length cap) D us) W' := by
  have hle := h.le
  refine (openJ_any h.live (h.disk hj.lv.2.2.2 hj.lv.1.on hK) rfl h.tab h.c0 hj).mono ?_
  rintro e W' ⟨c', m', q1, q2, q3, q4, q5, q6⟩
  rcases q6 with ⟨gw, tv, S, E, rfl, q7, q8, q9, q10, us, q11⟩ | q6
  · obtain ⟨p, cap, e, _⟩ := q11.now
    subst e
    exact ⟨gw, p, cap, S, E, c', m', rfl, h.nx q1 q2 q3 q4.sh (by omega), q7, q8, q9, q10 hf, q1, q3, us, q11⟩
  · exact absurd q6.1 (by omega)
theorem oAppend (h : So w0 W c g n m K) (hK : K ≤ 1000000000) {gw S E : Nat} {D : List (List (List Nat))} (hw : WalAt W c 2 gw g (0 : Nat) S E) (hgw : w0.heap.size ≤ gw) (hj : Jo m 0 n S E D) (hf : m.fuse < 0) (v : Value) (L : List (List Nat)) (hr : RowsIn W v L) (hl : longTx L = false) (hro : costs D + costOf L ≤ n - 1) :
    Calls Tryd.prog 21 #[ptr gw, v] W fun e W' => e = .returned (.int .i64 0) ∧ ∃ c' m' un, So w0 W' c' g n m' (K + 100) ∧ WalAt W' c' 2 gw g (0 : Nat) S un ∧ Jo m' 0 n S un (D ++ [L]) ∧ m'.fuse < 0 ∧ (∀ b, b < W.heap.size → c' b = c b) ∧ Ch (fun b => (c b).1 = 2 ∨ b = gw) W W' := by
  have hle := h.le
  have hjl := hj.le
  obtain ⟨M, un, e1, e2, e3, e4, e5⟩ := app_ok hj (by omega) L hr.mem hl hro hf
  have h8 := hj.jc.lv.2.2.2
  have := append_any' h.live 0 S E hw (by omega) h.shape (by simp) (show 1 ≤ n by omega) (by omega) v L hr (by have := (notLong hl).2.2.1; omega)
  refine this.mono ?_
  rintro e W' ⟨rfl, c', q1, q2, q3, q4⟩
  have e1' : m.app 0 S E ([n].getD 0 0) L = (0, M, un) := e1
  rw [e1'] at q2 q4 ⊢
  exact ⟨rfl, c', M, un, h.next q1 q2 q3 hgw e3.sh (by omega), q4, e2, e5, q1, q3⟩
theorem oBoot (h : So w0 W c g n m K) (hK : K ≤ 1000000000) (kv : Value) (ks : List Int) (hk : KeepIn W c 2 kv ks) : Calls Tryd.prog 15 #[ptr g, kv] W fun e W' => e = .returned noResult ∧ ∃ c', So w0 W' c' g n (m.boot ks) K ∧ (∀ b, b < W.heap.size → c' b = c b) ∧ Ch (fun b => (c b).1 = 2) W W' := by
  have hle := h.le
  refine (h.live.boot (by omega) kv ks hk).mono ?_
  rintro e W' ⟨rfl, hnx⟩
  obtain ⟨c', q1, q2, q3⟩ := hnx.nx
  exact ⟨rfl, c', h.nx q1 q2 q3 rfl h.le, q1, q3⟩
end

theorem write_calm (m : Pl) (hf : m.fuse < 0) (d p : Int) (s : List Nat) : (m.write d p s).2.on = m.on ∧ (m.write d p s).2.fuse < 0 ∧ (m.write d p s).2.sh = m.sh ∧ (m.write d p s).2.steps ≤ m.steps + 1 := by
  unfold Pl.write
  split
  · exact ⟨rfl, hf, rfl, Nat.le_succ _⟩
  · split
    · exact ⟨rfl, hf, rfl, Nat.le_succ _⟩
    · split
      · exact ⟨rfl, hf, rfl, Nat.le_succ _⟩
      · rw [if_neg (by omega)]
        exact ⟨m.step_on (by omega), m.step_neg hf, m.step_sh, m.step_le⟩
theorem oWrite {w0 W : World} {c : Nat → Colour} {g n : Nat} {m : Pl} {K : Nat} (h : So w0 W c g n m K) (hK : K ≤ 1000000000) (hon : m.on = true) (hf : m.fuse < 0) (p : Int) (v : Value) (s : List Nat) (hv : SliceIn W v s) :
    Calls Tryd.prog 18 #[ptr g, .int .i64 0, .int .i64 p, v] W fun e W' => (∃ z, e = .returned (.int .i64 z)) ∧ ∃ c' m', So w0 W' c' g n m' (K + 1) ∧ m'.on = true ∧ m'.fuse < 0 := by
  have hle := h.le
  obtain ⟨k1, k2, k3, k4⟩ := write_calm m hf 0 p s
  refine (h.live.write (by omega) 0 p v s hv).mono ?_
  rintro e W' ⟨rfl, hnx⟩
  obtain ⟨c', q1, q2, q3⟩ := hnx.nx
  exact ⟨⟨_, rfl⟩, c', _, h.nx q1 q2 q3 k3 (by omega), k1.trans hon, k2⟩
theorem oNo {w0 W : World} {c : Nat → Colour} {g n : Nat} {m : Pl} {K : Nat} (h : So w0 W c g n m K) (hK : K ≤ 1000000000) (d : Int) (hno : holds [n] d = false) :
    Calls Tryd.prog 19 #[ptr g, .int .i64 d] W fun e W' => e = .returned (.int .i64 1) ∧ ∃ c', So w0 W' c' g n m K := by
  have hle := h.le
  refine (format_any h.live h.shape d h.tab h.c0 (by omega)).mono ?_
  rintro e W' ⟨rfl, c', q1, q2, q3⟩
  have e1 : m.format [n] d = (1, m) := by unfold Pl.format; rw [hno]; rfl
  rw [e1] at q2 ⊢
  exact ⟨rfl, c', h.nx q1 q2 q3 rfl h.le⟩
theorem shapeOk_one (n : Nat) (hn : 1 ≤ n ∧ n ≤ 4096) : shapeOk [(n : Int)] [9] = true := by
  unfold shapeOk sizesOk
  simp
  omega
theorem newPl_one (n : Nat) : ShapeOf (newPl [(n : Int)] [9]) [n] [9] := by
  unfold ShapeOf newPl
  simp
theorem oNew {w W : World} (hb : Below w.heap.size w W) (ht : Fr.TabIn w) (n : Nat) (hn : 1 ≤ n ∧ n ≤ 4096) (vd vt : Value) (hd : IntsIn W vd [(n : Int)]) (hv : IntsIn W vt [9]) :
    Calls Tryd.prog 17 #[.agg #[vd, vt]] W fun e W' => ∃ g c' m, e = .returned (.tuple #[ptr g, .int .i64 0]) ∧ So w W' c' g n m 0 ∧ m.on = true ∧ m.fuse < 0 := by
  refine (Live.new W (fun _ => (0, 0)) 2 vd vt _ _ hd hv (shapeOk_one n hn)).mono ?_
  rintro e W' ⟨g, c', rfl, h1, h2, _, h4, h5⟩
  exact ⟨g, c', _, rfl, ⟨h4, TabIn.later ht (hb.trans (h5.mono hb.size)), fun b hlt => h2 b (Nat.lt_of_lt_of_le hlt hb.size), hb.trans (h5.mono hb.size), newPl_one n, Nat.le_refl _, tab_lt ht⟩, rfl, (by decide : (-1 : Int) < 0)⟩
theorem ints_lit (w : World) (z : Int) : IntsIn (w.alloc (.cells #[.int .i64 z] 3)) (.slice (some ⟨w.heap.size, 0, none⟩) 1 1) [z] := by
  have rr : Row (w.alloc (.cells #[.int .i64 z] 3)) w.heap.size 3 [.int .i64 z] := Row.new w 3 _
  refine ⟨_, 1, rfl, Nat.le_refl _, (by show 1 < 4611686018427387904; decide), Or.inr ⟨w.heap.size, 0, rfl, fun j hj => ?_⟩⟩
  have hj0 : j = 0 := by simp at hj; omega
  subst hj0
  exact rr.at 0 _ rfl
theorem run_build50_2 {w : World} {a : Act} {o : Oper} (x y : Operand) (ho : o.op = .build 50 #[(0, x), (1, y)]) (v u : Value) (hv : ∃ p n c, v = .slice p n c) (hu : ∃ p n c, u = .slice p n c) (hx : a.eval x = v) (hy : a.eval y = u) : (execOp a.eval o).run Tryd.prog w = .ok (.value (.agg #[v, u])) w := by
  obtain ⟨p, n, c, rfl⟩ := hv
  obtain ⟨p', n', c', rfl⟩ := hu
  have hr : (Instr.build 50 #[(0, .slice p n c), (1, .slice p' n' c')]).run Tryd.prog w = .ok (.agg #[.slice p n c, .slice p' n' c']) w := by kernel_rfl
  simp only [execOp, ho, List.map_toArray, List.map_cons, List.map_nil, hx, hy, hr, Sem.run_bind, Sem.run_pure, Result.andThen_ok]
theorem rows_three {w : World} {u v x : Value} {r s t : List Nat} (hu : SliceIn w u r) (hv : SliceIn w v s) (hx : SliceIn w x t) : RowsIn (w.alloc (.cells #[u, v, x] 51)) (.slice (some ⟨w.heap.size, 0, none⟩) 3 3) [r, s, t] := by
  have b := below_alloc w (.cells #[u, v, x] 51)
  have rr : Row (w.alloc (.cells #[u, v, x] 51)) w.heap.size 51 [u, v, x] := Row.new w 51 _
  refine ⟨_, 3, rfl, (by show 3 ≤ 1099511627776; decide), Or.inr ⟨w.heap.size, 0, rfl, fun i hi => ?_⟩⟩
  rw [Nat.zero_add]
  match i, hi with
  | 0, _ => exact ⟨u, rr.at 0 _ rfl, hu.later b⟩
  | 1, _ => exact ⟨v, rr.at 1 _ rfl, hv.later b⟩
  | 2, _ => exact ⟨x, rr.at 2 _ rfl, hx.later b⟩
theorem txs_one {w : World} {u : Value} {r : List (List Nat)} (hu : RowsIn w u r) : TxsIn (w.alloc (.cells #[u] 30)) (.slice (some ⟨w.heap.size, 0, none⟩) 1 1) [r] := by
  have b := below_alloc w (.cells #[u] 30)
  have rr : Row (w.alloc (.cells #[u] 30)) w.heap.size 30 [u] := Row.new w 30 _
  refine ⟨_, 1, rfl, (by show 1 ≤ 1000000; decide), Or.inr ⟨w.heap.size, 0, rfl, fun i hi => ?_⟩⟩
  have hi0 : i = 0 := by simp at hi; omega
  subst hi0
  exact ⟨u, rr.at 0 _ rfl, hu.later b⟩
theorem run_lit30_3 {w : World} {a : Act} {o : Oper} (x y z : Operand) (ho : o.op = .buildSlice 30 3 #[(0, x), (1, y), (2, z)]) (u v t : Value) (hu : ∃ p n c, u = .slice p n c) (hv : ∃ p n c, v = .slice p n c) (ht : ∃ p n c, t = .slice p n c) (hx : a.eval x = u) (hy : a.eval y = v) (hz : a.eval z = t) : (execOp a.eval o).run Tryd.prog w = .ok (.value (.slice (some ⟨w.heap.size, 0, none⟩) 3 3)) (w.alloc (.cells #[u, v, t] 51)) := by
  obtain ⟨p, n, c, rfl⟩ := hu
  obtain ⟨p', n', c', rfl⟩ := hv
  obtain ⟨p2, n2, c2, rfl⟩ := ht
  have hr : (Instr.buildSlice 30 3 #[(0, .slice p n c), (1, .slice p' n' c'), (2, .slice p2 n2 c2)]).run Tryd.prog w = .ok (.slice (some ⟨w.heap.size, 0, none⟩) 3 3) (w.alloc (.cells #[.slice p n c, .slice p' n' c', .slice p2 n2 c2] 51)) := by kernel_rfl
  simp only [execOp, ho, List.map_toArray, List.map_cons, List.map_nil, hx, hy, hz, hr, Sem.run_bind, Sem.run_pure, Result.andThen_ok]
theorem run_lit38_o {w : World} {a : Act} {o : Oper} (x : Operand) (ho : o.op = .buildSlice 38 1 #[(0, x)]) (u : Value) (hu : ∃ p n c, u = .slice p n c) (hx : a.eval x = u) : (execOp a.eval o).run Tryd.prog w = .ok (.value (.slice (some ⟨w.heap.size, 0, none⟩) 1 1)) (w.alloc (.cells #[u] 30)) := by
  obtain ⟨p, n, c, rfl⟩ := hu
  have hr : (Instr.buildSlice 38 1 #[(0, .slice p n c)]).run Tryd.prog w = .ok (.slice (some ⟨w.heap.size, 0, none⟩) 1 1) (w.alloc (.cells #[.slice p n c] 30)) := by kernel_rfl
  simp only [execOp, ho, List.map_toArray, List.map_cons, List.map_nil, hx, hr, Sem.run_bind, Sem.run_pure, Result.andThen_ok]
section
variable {w : World} {ops : Array Oper} {rest : List Oper} {o : Oper} {a : Act} {Q : Exit → Act → World → Prop}
theorem lit51c (hgd : Region.wanted o (yielded ops a.tmps) = true) (ho : o.op = .buildSlice 51 2 #[(0, .const (.int .u8 2)), (1, .const (.int .u8 3))]) (h : wpList Tryd.prog ops Q rest (a.put o.dst (.slice (some ⟨w.heap.size, 0, none⟩) 2 2)) (w.alloc (.cells #[.int .u8 2, .int .u8 3] 5))) : wpList Tryd.prog ops Q (o :: rest) a w := by
  have hr : (Instr.buildSlice 51 2 #[(0, .int .u8 2), (1, .int .u8 3)]).run Tryd.prog w = .ok (.slice (some ⟨w.heap.size, 0, none⟩) 2 2) (w.alloc (.cells #[.int .u8 2, .int .u8 3] 5)) := by kernel_rfl
  have hx : a.eval (.const (.int .u8 2)) = .int .u8 2 := rfl
  have hy : a.eval (.const (.int .u8 3)) = .int .u8 3 := rfl
  exact wl hgd _ _ (by simp only [execOp, ho, List.map_toArray, List.map_cons, List.map_nil, hx, hy, hr, Sem.run_bind, Sem.run_pure, Result.andThen_ok]) h
/-- a sector's bytes, of whatever bytes there are -/
theorem wl_copyS (d s : Operand) (hgd : o.guard = none) (ho : o.op = .call { callee := .builtin .copy, args := #[d, s], argTypes := #[51, 51] }) (g : Nat) (hd : a.eval d = whole g 64) (u : Value) (hs : a.eval s = u) (cs : List Nat) (hu : SliceIn w u cs) (hr : Row w g 5 (bcells (List.replicate 64 0)))
    (h : ∀ w' k r, Row w' g 5 (bcells r) → r.length = 64 → (∀ c ∈ r, c < 256) → Ch (· = g) w w' → wpList Tryd.prog ops Q rest (a.put o.dst (.int .i64 (k : Nat))) w') : wpList Tryd.prog ops Q (o :: rest) a w := by
  have hlt := hu.lt256
  obtain ⟨p, cap, rfl, hl, h1⟩ := hu
  rcases h1 with rfl | ⟨b, off, rfl, h2, h3⟩
  · exact wpList_copy_nothing hgd d s 51 51 ho 5 Tryd.underlying51 info5 (some ⟨g, 0, none⟩) p 64 64 0 cap hd hs (by decide) (h w 0 _ hr (by simp) (fun c hc => by rw [List.eq_of_mem_replicate hc]; decide) (Ch.refl _ _))
  · refine wl_copy d s hgd ho g 0 64 64 b off cs.length cap 5 (Nat.min cs.length 64) hd hs _ hr (cs.take 64) (by rw [List.length_take, Nat.min_comm]) rfl (fun j hj => ?_) (by rw [bcells_length, List.length_replicate, Nat.zero_add]; exact Nat.min_le_right _ _) fun w' r1 r2 r3 => ?_
    · rw [List.length_take] at hj
      rw [h2 j (by omega), List.getD_eq_getElem?_getD, List.getD_eq_getElem?_getD, List.getElem?_take_of_lt (by omega)]
    · rw [splice_pad] at r1
      refine h w' _ _ r1 (pad_length _ _ (by rw [List.length_take]; omega)) (pad_lt _ _ fun c hc => ?_) r2
      exact hlt c (List.mem_of_mem_take hc)
end
/-- junk that comes in -/
def JunkIn (W : World) (v : Value) (js : List (Int × List Nat)) : Prop :=
  ∃ p cap, v = .slice p js.length cap ∧ js.length ≤ 1048576 ∧ (∀ x ∈ js, -9223372036854775808 ≤ x.1 ∧ x.1 ≤ 9223372036854775807) ∧ (js = [] ∨ ∃ b off, p = some ⟨b, off, none⟩ ∧ ∀ i, i < js.length → W.cell? ⟨b, off + i * 2 + 0, none⟩ = some (.int .i64 (js.getD i default).1) ∧ ∃ u, W.cell? ⟨b, off + i * 2 + 1, none⟩ = some u ∧ SliceIn W u (js.getD i default).2)
theorem s53 : (Tryd.prog.info? 53).map (·.size) = some 2 := by kernel_rfl
theorem sl45 : Tryd.prog.underlying 45 = some (.slice (Tryd.prog.elem 45)) := by kernel_rfl
theorem idx45 (b off n cap k : Nat) (h : k < n) (w' : World) : (Instr.indexAt 45 (.slice (some ⟨b, off, none⟩) n cap) (.int .i64 (k : Nat))).run Tryd.prog w' = .ok (.pointer (some ⟨b, off + k * 2, none⟩)) w' := by
  obtain ⟨i5, hi5, hsz⟩ := Option.map_eq_some_iff.1 s53
  simp [Instr.indexAt, asIntOf, run_underlying Tryd.underlying45, h, sizeOf, typeInfo, hi5, hsz, add_none]
theorem f53_0 : FieldAt 53 0 0 := fun w g off => by kernel_rfl
theorem f53_1 : FieldAt 53 1 1 := fun w g off => by kernel_rfl

theorem eN18 : EntersF 18 := Go.Proofs.enters_of Tryd.func18 (by kernel_rfl) rfl
theorem lit_two (w : World) : SliceIn (w.alloc (.cells #[.int .u8 2, .int .u8 3] 5)) (.slice (some ⟨w.heap.size, 0, none⟩) 2 2) [2, 3] := by
  have r : Row (w.alloc (.cells #[.int .u8 2, .int .u8 3] 5)) w.heap.size 5 (bcells [2, 3]) := Row.new w 5 _
  exact whole_slice r (by decide) (by decide)
set_option maxHeartbeats 32000000 in
set_option maxRecDepth 100000 in
theorem walOver_any (w : World) (ht : Fr.TabIn w) (sc : Int) (hsc : -9223372036854775808 ≤ sc ∧ sc ≤ 9223372036854775807) (v : Value) (js : List (Int × List Nat)) (hj : JunkIn w v js) (dv : Int) : Calls Tryd.prog 6 #[.int .i64 sc, v, .int .i64 dv] w fun e w' => e = .returned (.bool true) ∧ Below w.heap.size w w' := by
  obtain ⟨p, cap, rfl, hjl, hjr, hjx⟩ := hj
  obtain ⟨jn, hjn⟩ : ∃ jn, jn = js.length := ⟨_, rfl⟩
  rw [← hjn] at hjl ⊢
  have HJ : Hid (∀ k, k < jn → ∃ x b off u cs, (-9223372036854775808 ≤ x ∧ x ≤ 9223372036854775807) ∧ p = some ⟨b, off, none⟩ ∧ ∀ W, Below w.heap.size w W → W.cell? ⟨b, off + k * 2 + 0, none⟩ = some (.int .i64 x) ∧ W.cell? ⟨b, off + k * 2 + 1, none⟩ = some u ∧ SliceIn W u cs) := fun k hlt => by
    have hkl : k < js.length := by rw [← hjn]; exact hlt
    rcases hjx with e | ⟨b, off, h1, h2⟩
    · rw [e] at hkl; exact absurd hkl (Nat.not_lt_zero _)
    · obtain ⟨h3, u, h4, h5⟩ := h2 k hkl
      exact ⟨_, b, off, u, _, hjr _ (getD_mem hkl), h1, fun W hW => ⟨by rw [← h3]; exact World.cell?_of_block (hW.block b (block_lt_of_cell h3)), by rw [← h4]; exact World.cell?_of_block (hW.block b (block_lt_of_cell h4)), h5.later hW⟩⟩
  have HT : Hid (Fr.TabIn w) := ht
  obtain ⟨PQ, hPQ⟩ : ∃ PQ : Ending → World → Prop, PQ = fun (e : Ending) (w' : World) => e = .returned (.bool true) ∧ Below w.heap.size w w' := ⟨_, rfl⟩
  have HPQ : Hid (PQ = fun (e : Ending) (w' : World) => e = .returned (.bool true) ∧ Below w.heap.size w w') := hPQ
  rw [← hPQ]
  have HSH : Hid (Calls Tryd.prog 9 #[] w fun e w' => e = .returned (.bool true) ∧ Below w.heap.size w w') := shown_any w ht
  obtain ⟨q, hq⟩ : ∃ q, q = whichOf sc 40 := ⟨_, rfl⟩
  have HWS : Hid (∀ W, Calls Tryd.prog 10 #[.int .i64 sc, .int .i64 40] W fun e w' => e = .returned (.int .i64 (q : Nat)) ∧ W = w') := fun W => by rw [hq]; exact which_any W sc 40 (by decide) hsc.1 hsc.2
  have hq40 : q < 40 := by rw [hq]; exact whichOf_lt _ 40 (by decide)
  clear hPQ ht hjn hjx hjr hq hsc
  go_enter Tryd.func6, Tryd.ntmps6
  go_upto_region 4 with (go_at_call 9; refine HSH.out.mono ?_; rintro e w1 ⟨rfl, b1⟩; have R1 : Hid (Below w.heap.size w w1) := b1; clear b1 HSH)
  refine wp_region_lit ?_
  refine wl_mv (.tmp 0) rfl rfl (.int .i64 sc) rfl ?_
  simp only [Act.put, zA, List.set_cons_succ, zC]
  refine wpList_callF eN10 [.tmp 21, .const (.int .i64 40)] _ rfl rfl [.int .i64 sc, .int .i64 40] rfl ?_
  refine (HWS.out _).mono ?_
  rintro e wx ⟨rfl, hwx⟩
  refine ⟨_, rfl, ?_⟩
  subst hwx
  simp only [Act.put, zA, List.set_cons_succ, zC]
  refine wl_addN (.const (.int .i64 1)) (.tmp 22) rfl rfl 1 q (by decide) (by omega) rfl rfl ?_
  obtain ⟨n, hn⟩ : ∃ n, n = 1 + q := ⟨_, rfl⟩
  rw [← hn]
  have hn40 : 1 ≤ n ∧ n ≤ 40 := by omega
  clear hn HWS hq40
  simp only [Act.put, zA, List.set_cons_succ, zC]
  refine wl_as (.tmp 23) rfl rfl (.int .i64 (n : Nat)) rfl ?_
  simp only [Act.put, zA, List.set_cons_succ, zC]
  refine wpList_nil ?_
  go_upto_region 5 with fail
  refine wp_region_lit ?_
  refine wl_mv (.tmp 8) rfl rfl (.int .i64 (n : Nat)) rfl ?_
  simp only [Act.put, zA, List.set_cons_succ, zC]
  refine wl rfl _ _ (run_lit31 (.tmp 25) rfl (n : Nat) rfl) ?_
  obtain ⟨y1, hy1⟩ : ∃ y1, y1 = w1.alloc (.cells #[.int .i64 (n : Nat)] 3) := ⟨_, rfl⟩
  obtain ⟨g1, hg1⟩ : ∃ g1, g1 = w1.heap.size := ⟨_, rfl⟩
  have by1 : Below w1.heap.size w1 y1 := by rw [hy1]; exact below_alloc w1 _
  have iy1 : IntsIn y1 (.slice (some ⟨g1, 0, none⟩) 1 1) [(n : Int)] := by rw [hy1, hg1]; exact ints_lit w1 _
  rw [← hy1, ← hg1]
  clear hy1 hg1
  simp only [Act.put, zA, List.set_cons_succ, zC]
  refine wl rfl _ _ (run_lit31 (.const (.int .i64 9)) rfl 9 rfl) ?_
  obtain ⟨y2, hy2⟩ : ∃ y2, y2 = y1.alloc (.cells #[.int .i64 9] 3) := ⟨_, rfl⟩
  obtain ⟨g2, hg2⟩ : ∃ g2, g2 = y1.heap.size := ⟨_, rfl⟩
  have by2 : Below y1.heap.size y1 y2 := by rw [hy2]; exact below_alloc y1 _
  have iy2 : IntsIn y2 (.slice (some ⟨g2, 0, none⟩) 1 1) [9] := by rw [hy2, hg2]; exact ints_lit y1 _
  have RY : Hid (Below w.heap.size w y2 ∧ IntsIn y2 (.slice (some ⟨g1, 0, none⟩) 1 1) [(n : Int)] ∧ IntsIn y2 (.slice (some ⟨g2, 0, none⟩) 1 1) [9]) := ⟨(R1.out.trans (by1.mono R1.out.size)).trans (by2.mono (Nat.le_trans R1.out.size by1.size)), iy1.later by2, iy2⟩
  rw [← hy2, ← hg2]
  clear hy2 hg2 by1 by2 iy1 iy2 R1
  simp only [Act.put, zA, List.set_cons_succ, zC]
  refine wl rfl _ _ (run_build50_2 (.tmp 26) (.tmp 27) rfl (.slice (some ⟨g1, 0, none⟩) 1 1) (.slice (some ⟨g2, 0, none⟩) 1 1) ⟨_, _, _, rfl⟩ ⟨_, _, _, rfl⟩ rfl rfl) ?_
  simp only [Act.put, zA, List.set_cons_succ, zC]
  refine wpList_callF eN17 [.tmp 28] _ rfl rfl [(.agg #[.slice (some ⟨g1, 0, none⟩) 1 1, .slice (some ⟨g2, 0, none⟩) 1 1])] rfl ?_
  refine (oNew RY.out.1 HT.out n ⟨hn40.1, by omega⟩ _ _ RY.out.2.1 RY.out.2.2).mono ?_
  rintro e w3 ⟨g, c3, m3, rfl, q1, q2, q3⟩
  refine ⟨_, rfl, ?_⟩
  have R3 : Hid (So w w3 c3 g n m3 0 ∧ m3.on = true ∧ m3.fuse < 0) := ⟨q1, q2, q3⟩
  clear q1 q2 q3 RY
  simp only [Act.put, zA, List.set_cons_succ, zC]
  refine wl_mv (.tmp 29) rfl rfl (.tuple #[(ptr g), (.int .i64 0)]) rfl ?_
  simp only [Act.put, zA, List.set_cons_succ, zC]
  refine wl_ext (.tmp 24) 0 rfl rfl #[ptr g, .int .i64 0] rfl (ptr g) rfl ?_
  simp only [Act.put, zA, List.set_cons_succ, zC]
  refine wl_ext (.tmp 24) 1 rfl rfl #[ptr g, .int .i64 0] rfl (.int .i64 0) rfl ?_
  simp only [Act.put, zA, List.set_cons_succ, zC]
  refine wl_as (.tmp 30) rfl rfl (ptr g) rfl ?_
  simp only [Act.put, zA, List.set_cons_succ, zC]
  refine wl_as (.tmp 31) rfl rfl (.int .i64 0) rfl ?_
  simp only [Act.put, zA, List.set_cons_succ, zC]
  refine wpList_nil ?_
  go_upto_region 8 with fail
  go_wp2_with fail
  go_loopw [11] (fun vi W => ∃ (k : Nat) (c : Nat → Colour) (m : Pl), vi = .int .i64 (k : Nat) ∧ k ≤ jn ∧ So w W c g n m k ∧ m.on = true ∧ m.fuse < 0) (fun vi _ => jn - (intOf vi).toNat)
  case atStart => exact ⟨0, c3, m3, rfl, Nat.zero_le _, R3.out⟩
  case round =>
    obtain ⟨k, c, m, rfl, hk, hI⟩ := hrel
    have HI : Hid (So w wr c g n m k ∧ m.on = true ∧ m.fuse < 0) := hI
    clear hI R3
    by_cases hlt : k < jn
    · have t1 : decide ((k : Int) < (jn : Int)) = true := decide_eq_true (by omega)
      obtain ⟨x, b0, off, u, cs, hxr, hpp, hcl⟩ := HJ.out k hlt
      have HC : Hid (p = some ⟨b0, off, none⟩ ∧ ∀ W, Below w.heap.size w W → W.cell? ⟨b0, off + k * 2 + 0, none⟩ = some (.int .i64 x) ∧ W.cell? ⟨b0, off + k * 2 + 1, none⟩ = some u ∧ SliceIn W u cs) := ⟨hpp, hcl⟩
      have HWX : Hid (∀ W, Calls Tryd.prog 10 #[.int .i64 x, .int .i64 (n : Nat)] W fun e w' => e = .returned (.int .i64 (whichOf x n : Nat)) ∧ W = w') := fun W => which_any W x n (by omega) hxr.1 hxr.2
      clear hpp hcl hxr
      go_upto_region 11 with (refine wl_sl sl45 (.tmp 39) rfl rfl p jn cap rfl ?_)
      refine wp_region_lit ?_
      refine wl_make (.const (.int .i64 64)) (.const (.int .i64 64)) 51 5 _ 1 1 rfl rfl Tryd.underlying51 info5z 64 rfl rfl (by decide) (by decide) ?_
      intro w6 r6 s6 b6
      rw [made5] at r6
      obtain ⟨gb, hgb⟩ : ∃ gb, gb = wr.heap.size := ⟨_, rfl⟩
      rw [← hgb] at r6 s6 ⊢
      have R6 : Hid (Row w6 gb 5 (bcells (List.replicate 64 0)) ∧ Below wr.heap.size wr w6 ∧ wr.heap.size ≤ gb) := ⟨r6, b6, by omega⟩
      clear r6 s6 b6 hgb
      simp only [Act.put, zA, List.set_cons_succ, zC]
      refine wl_as (.tmp 44) rfl rfl (whole gb 64) rfl ?_
      simp only [Act.put, zA, List.set_cons_succ, zC]
      refine wpList_nil ?_
      go_upto_region 12 with fail
      refine wp_region_lit ?_
      refine wl_mv (.tmp 12) rfl rfl (whole gb 64) rfl ?_
      simp only [Act.put, zA, List.set_cons_succ, zC]
      refine wl_mv (.tmp 1) rfl rfl (.slice p jn cap) rfl ?_
      simp only [Act.put, zA, List.set_cons_succ, zC]
      refine wl_mv (.tmp 11) rfl rfl (.int .i64 (k : Nat)) rfl ?_
      simp only [Act.put, zA, List.set_cons_succ, zC]
      refine wl_ix (.tmp 46) (.tmp 47) rfl rfl (.slice p jn cap) (.pointer (some ⟨b0, off + k * 2, none⟩)) (.int .i64 (k : Nat)) rfl rfl (fun w' => by rw [HC.out.1]; exact idx45 b0 off jn cap k hlt w') ?_
      simp only [Act.put, zA, List.set_cons_succ, zC]
      refine wl_fld f53_1 (.tmp 48) rfl rfl b0 (off + k * 2) rfl ?_
      simp only [Act.put, zA, List.set_cons_succ, zC]
      refine wl_ld o51 (.tmp 49) rfl rfl b0 (off + k * 2 + 1) rfl u (HC.out.2 _ (HI.out.1.below.trans (R6.out.2.1.mono HI.out.1.below.size))).2.1 ?_
      simp only [Act.put, zA, List.set_cons_succ, zC]
      refine wl_copyS (.tmp 45) (.tmp 50) rfl rfl gb rfl u rfl cs (HC.out.2 _ (HI.out.1.below.trans (R6.out.2.1.mono HI.out.1.below.size))).2.2 R6.out.1 ?_
      intro w7 kk r r7 l7 h7 c7
      have R7 : Hid (SliceIn w7 (whole gb 64) r ∧ Below wr.heap.size wr w7) := by
        refine ⟨?_, R6.out.2.1.trans (c7.below R6.out.2.1.size fun b hb e => by have := R6.out.2.2; omega)⟩
        have h1 := whole_slice r7 h7 (by omega)
        rw [l7] at h1
        exact h1
      clear r7 l7 h7 c7 R6
      simp only [Act.put, zA, List.set_cons_succ, zC]
      refine wpList_nil ?_
      go_upto_region 13 with fail
      refine wp_region_lit ?_
      refine wl_mv (.tmp 9) rfl rfl (ptr g) rfl ?_
      simp only [Act.put, zA, List.set_cons_succ, zC]
      refine wl_mv (.tmp 1) rfl rfl (.slice p jn cap) rfl ?_
      simp only [Act.put, zA, List.set_cons_succ, zC]
      refine wl_mv (.tmp 11) rfl rfl (.int .i64 (k : Nat)) rfl ?_
      simp only [Act.put, zA, List.set_cons_succ, zC]
      refine wl_ix (.tmp 53) (.tmp 54) rfl rfl (.slice p jn cap) (.pointer (some ⟨b0, off + k * 2, none⟩)) (.int .i64 (k : Nat)) rfl rfl (fun w' => by rw [HC.out.1]; exact idx45 b0 off jn cap k hlt w') ?_
      simp only [Act.put, zA, List.set_cons_succ, zC]
      refine wl_fld f53_0 (.tmp 55) rfl rfl b0 (off + k * 2) rfl ?_
      simp only [Act.put, zA, List.set_cons_succ, zC]
      refine wl_ld o3' (.tmp 56) rfl rfl b0 (off + k * 2 + 0) rfl (.int .i64 x) (HC.out.2 _ (HI.out.1.below.trans (R7.out.2.mono HI.out.1.below.size))).1 ?_
      simp only [Act.put, zA, List.set_cons_succ, zC]
      refine wl_mv (.tmp 8) rfl rfl (.int .i64 (n : Nat)) rfl ?_
      simp only [Act.put, zA, List.set_cons_succ, zC]
      refine wpList_callF eN10 [.tmp 57, .tmp 58] _ rfl rfl [.int .i64 x, .int .i64 (n : Nat)] rfl ?_
      refine (HWX.out _).mono ?_
      rintro e wx ⟨rfl, hwx⟩
      refine ⟨_, rfl, ?_⟩
      subst hwx
      simp only [Act.put, zA, List.set_cons_succ, zC]
      refine wl_mv (.tmp 12) rfl rfl (whole gb 64) rfl ?_
      simp only [Act.put, zA, List.set_cons_succ, zC]
      refine wpList_callF eN18 [.tmp 52, .const (.int .i64 0), .tmp 59, .tmp 60] _ rfl rfl [ptr g, .int .i64 0, .int .i64 (whichOf x n : Nat), whole gb 64] rfl ?_
      refine (oWrite (HI.out.1.bel R7.out.2) (by omega) HI.out.2.1 HI.out.2.2 _ _ r R7.out.1).mono ?_
      rintro e w8 ⟨⟨zz, rfl⟩, c8, m8, q1, q2, q3⟩
      refine ⟨_, rfl, ?_⟩
      have R8 : Hid (So w w8 c8 g n m8 (k + 1) ∧ m8.on = true ∧ m8.fuse < 0) := ⟨q1, q2, q3⟩
      clear q1 q2 q3 R7 HI HC HWX
      simp only [Act.put, zA, List.set_cons_succ, zC]
      refine wpList_nil ?_
      go_wp2_with fail
      refine ⟨⟨k + 1, c8, m8, by go_num, by omega, R8.out⟩, ?_⟩
      simp [intOf]; omega
    · obtain rfl : jn = k := by omega
      have t1 : decide ((jn : Int) < (jn : Int)) = false := decide_eq_false (by omega)
      go_upto_region 14 with (refine wl_sl sl45 (.tmp 39) rfl rfl p jn cap rfl ?_)
      refine wp_region_lit ?_
      by_cases hgood : dv = 0 ∧ 8 ≤ n
      · obtain ⟨rfl, h8⟩ := hgood
        refine wl_mv (.tmp 9) rfl rfl (ptr g) rfl ?_
        simp only [Act.put, zA, List.set_cons_succ, zC]
        refine wl_mv (.tmp 2) rfl rfl (.int .i64 0) rfl ?_
        simp only [Act.put, zA, List.set_cons_succ, zC]
        refine wpList_callF eN19 [.tmp 62, .tmp 63] _ rfl rfl [(ptr g), (.int .i64 0)] rfl ?_
        refine (oFormat HI.out.1 (by omega) h8 HI.out.2.1 HI.out.2.2).mono ?_
        rintro e w5 ⟨rfl, c5, m5, q1, q2, q3⟩
        refine ⟨_, rfl, ?_⟩
        have R5 : Hid (So w w5 c5 g n m5 (jn + 5000) ∧ Jc m5 0 n [] ∧ m5.fuse < 0) := ⟨q1, q2, q3⟩
        clear q1 q2 q3 HI
        simp only [Act.put, zA, List.set_cons_succ, zC]
        refine wl_as (.tmp 64) rfl rfl (.int .i64 0) rfl ?_
        simp only [Act.put, zA, List.set_cons_succ, zC]
        refine wpList_nil ?_
        go_upto_region 15 with fail
        refine wp_region_lit ?_
        refine wl_mv (.tmp 9) rfl rfl (ptr g) rfl ?_
        simp only [Act.put, zA, List.set_cons_succ, zC]
        refine wl_mv (.tmp 2) rfl rfl (.int .i64 0) rfl ?_
        simp only [Act.put, zA, List.set_cons_succ, zC]
        refine wpList_callF eN20 [.tmp 66, .tmp 67] _ rfl rfl [(ptr g), (.int .i64 0)] rfl ?_
        refine (oOpen R5.out.1 (by omega) R5.out.2.1 R5.out.2.2).mono ?_
        rintro e w6 ⟨gw, p6, cap6, S6, E6, c6, m6, rfl, q1, q2, q3, q4, q5, _⟩
        refine ⟨_, rfl, ?_⟩
        have R6 : Hid (So w w6 c6 g n m6 (jn + 5002) ∧ w.heap.size ≤ gw ∧ WalAt w6 c6 2 gw g (0 : Nat) S6 E6 ∧ Jo m6 0 n S6 E6 [] ∧ m6.fuse < 0) := ⟨q1, Nat.le_trans R5.out.1.below.size q2, q3, q4, q5⟩
        clear q1 q2 q3 q4 q5 R5
        simp only [Act.put, zA, List.set_cons_succ, zC]
        refine wl_mv (.tmp 68) rfl rfl (.tuple #[(ptr gw), (.slice p6 0 cap6), (.int .i64 0)]) rfl ?_
        simp only [Act.put, zA, List.set_cons_succ, zC]
        refine wl_ext (.tmp 65) 0 rfl rfl #[ptr gw, .slice p6 0 cap6, .int .i64 0] rfl (ptr gw) rfl ?_
        simp only [Act.put, zA, List.set_cons_succ, zC]
        refine wl_ext (.tmp 65) 1 rfl rfl #[ptr gw, .slice p6 0 cap6, .int .i64 0] rfl (.slice p6 0 cap6) rfl ?_
        simp only [Act.put, zA, List.set_cons_succ, zC]
        refine wl_ext (.tmp 65) 2 rfl rfl #[ptr gw, .slice p6 0 cap6, .int .i64 0] rfl (.int .i64 0) rfl ?_
        simp only [Act.put, zA, List.set_cons_succ, zC]
        refine wl_as (.tmp 69) rfl rfl (ptr gw) rfl ?_
        simp only [Act.put, zA, List.set_cons_succ, zC]
        refine wl_as (.tmp 70) rfl rfl (.slice p6 0 cap6) rfl ?_
        simp only [Act.put, zA, List.set_cons_succ, zC]
        refine wl_as (.tmp 71) rfl rfl (.int .i64 0) rfl ?_
        simp only [Act.put, zA, List.set_cons_succ, zC]
        refine wpList_nil ?_
        have t8 : decide ((n : Int) < 8) = false := decide_eq_false (by omega)
        have t9 : decide ((n : Int) ≥ 8) = true := decide_eq_true (by omega)
        have t9' : decide ((8 : Int) ≤ (n : Int)) = true := decide_eq_true (by omega)
        go_upto_region 18 with fail
        refine wp_region_lit ?_
        refine wl_mv (.tmp 13) rfl rfl (.int .i64 0) rfl ?_
        simp only [Act.put, zA, List.set_cons_succ, zC]
        refine wl_neI (.tmp 96) (.const (.int .i64 0)) rfl rfl 0 0 rfl rfl false rfl ?_
        simp only [Act.put, zA, List.set_cons_succ, zC]
        refine wl_mv (.tmp 97) rfl rfl (.bool false) rfl ?_
        simp only [Act.put, zA, List.set_cons_succ, zC]
        refine wl_mv (.tmp 16) rfl rfl (.int .i64 0) rfl ?_
        simp only [Act.put, zA, List.set_cons_succ, zC]
        refine wl_neI (.tmp 99) (.const (.int .i64 0)) rfl rfl 0 0 rfl rfl false rfl ?_
        simp only [Act.put, zA, List.set_cons_succ, zC]
        refine wl rfl _ _ (run_pickZ (.tmp 98) (.const (.bool true)) (.tmp 100) rfl false (.bool false) rfl rfl) ?_
        simp only [Act.put, zA, List.set_cons_succ, zC]
        refine wl_mv (.tmp 101) rfl rfl (.bool false) rfl ?_
        simp only [Act.put, zA, List.set_cons_succ, zC]
        refine wl_mv (.tmp 14) rfl rfl (ptr gw) rfl ?_
        simp only [Act.put, zA, List.set_cons_succ, zC]
        refine wl_ptrE1 (.tmp 103) rfl rfl gw rfl ?_
        simp only [Act.put, zA, List.set_cons_succ, zC]
        refine wl rfl _ _ (run_pickZ (.tmp 102) (.const (.bool true)) (.tmp 104) rfl false (.bool false) rfl rfl) ?_
        simp only [Act.put, zA, List.set_cons_succ, zC]
        refine wl_mv (.tmp 105) rfl rfl (.bool false) rfl ?_
        simp only [Act.put, zA, List.set_cons_succ, zC]
        refine wl_mv (.tmp 15) rfl rfl (.slice p6 0 cap6) rfl ?_
        simp only [Act.put, zA, List.set_cons_succ, zC]
        refine wl_sl sl38 (.tmp 107) rfl rfl p6 0 cap6 rfl ?_
        simp only [Act.put, zA, List.set_cons_succ, zC]
        refine wl_neI (.tmp 108) (.const (.int .i64 0)) rfl rfl 0 0 rfl rfl false rfl ?_
        simp only [Act.put, zA, List.set_cons_succ, zC]
        refine wl rfl _ _ (run_pickZ (.tmp 106) (.const (.bool true)) (.tmp 109) rfl false (.bool false) rfl rfl) ?_
        simp only [Act.put, zA, List.set_cons_succ, zC]
        refine wpList_nil ?_
        go_upto_region 20 with fail
        refine wp_region_lit ?_
        refine wl_mv (.tmp 14) rfl rfl (ptr gw) rfl ?_
        simp only [Act.put, zA, List.set_cons_succ, zC]
        refine lit51b 1 rfl rfl ?_
        obtain ⟨z1, hz1⟩ : ∃ z1, z1 = w6.alloc (.cells #[.int .u8 (1 : Nat)] 5) := ⟨_, rfl⟩
        obtain ⟨gz1, hgz1⟩ : ∃ gz1, gz1 = w6.heap.size := ⟨_, rfl⟩
        have bz1 : Below w6.heap.size w6 z1 := by rw [hz1]; exact below_alloc w6 _
        have sz1 : SliceIn z1 (.slice (some ⟨gz1, 0, none⟩) 1 1) [1] := by rw [hz1, hgz1]; exact one_byte (by decide) (Below.refl _ _)
        rw [← hz1, ← hgz1]
        clear hz1 hgz1
        simp only [Act.put, zA, List.set_cons_succ, zC]
        refine lit51 rfl rfl ?_
        obtain ⟨z2, hz2⟩ : ∃ z2, z2 = z1.alloc (.cells #[] 5) := ⟨_, rfl⟩
        obtain ⟨gz2, hgz2⟩ : ∃ gz2, gz2 = z1.heap.size := ⟨_, rfl⟩
        have bz2 : Below z1.heap.size z1 z2 := by rw [hz2]; exact below_alloc z1 _
        rw [← hz2, ← hgz2]
        clear hz2 hgz2
        simp only [Act.put, zA, List.set_cons_succ, zC]
        refine lit51c rfl rfl ?_
        obtain ⟨z3, hz3⟩ : ∃ z3, z3 = z2.alloc (.cells #[.int .u8 2, .int .u8 3] 5) := ⟨_, rfl⟩
        obtain ⟨gz3, hgz3⟩ : ∃ gz3, gz3 = z2.heap.size := ⟨_, rfl⟩
        have bz3 : Below z2.heap.size z2 z3 := by rw [hz3]; exact below_alloc z2 _
        have sz3 : SliceIn z3 (.slice (some ⟨gz3, 0, none⟩) 2 2) [2, 3] := by rw [hz3, hgz3]; exact lit_two z2
        rw [← hz3, ← hgz3]
        clear hz3 hgz3
        simp only [Act.put, zA, List.set_cons_succ, zC]
        refine wl rfl _ _ (run_lit30_3 (.tmp 112) (.tmp 113) (.tmp 114) rfl (.slice (some ⟨gz1, 0, none⟩) 1 1) (.slice (some ⟨gz2, 0, none⟩) 0 0) (.slice (some ⟨gz3, 0, none⟩) 2 2) ⟨_, _, _, rfl⟩ ⟨_, _, _, rfl⟩ ⟨_, _, _, rfl⟩ rfl rfl rfl) ?_
        obtain ⟨z4, hz4⟩ : ∃ z4, z4 = z3.alloc (.cells #[.slice (some ⟨gz1, 0, none⟩) 1 1, .slice (some ⟨gz2, 0, none⟩) 0 0, .slice (some ⟨gz3, 0, none⟩) 2 2] 51) := ⟨_, rfl⟩
        obtain ⟨gz4, hgz4⟩ : ∃ gz4, gz4 = z3.heap.size := ⟨_, rfl⟩
        have bz4 : Below z3.heap.size z3 z4 := by rw [hz4]; exact below_alloc z3 _
        have rz4 : RowsIn z4 (.slice (some ⟨gz4, 0, none⟩) 3 3) [[1], [], [2, 3]] := by rw [hz4, hgz4]; exact rows_three ((sz1.later bz2).later bz3) ⟨_, 0, rfl, ⟨Nat.le_refl _, by decide⟩, Or.inl rfl⟩ sz3
        rw [← hz4, ← hgz4]
        have Rz : Hid (Below w6.heap.size w6 z4 ∧ RowsIn z4 (.slice (some ⟨gz4, 0, none⟩) 3 3) [[1], [], [2, 3]]) := ⟨((bz1.trans (bz2.mono bz1.size)).trans (bz3.mono (Nat.le_trans bz1.size bz2.size))).trans (bz4.mono (Nat.le_trans (Nat.le_trans bz1.size bz2.size) bz3.size)), rz4⟩
        clear hz4 hgz4 bz1 bz2 bz3 bz4 sz1 sz3 rz4
        simp only [Act.put, zA, List.set_cons_succ, zC]
        refine wpList_callF eN21 [.tmp 111, .tmp 115] _ rfl rfl [(ptr gw), (.slice (some ⟨gz4, 0, none⟩) 3 3)] rfl ?_
        refine (oAppend (R6.out.1.bel Rz.out.1) (by omega) (R6.out.2.2.1.below Rz.out.1) R6.out.2.1 R6.out.2.2.2.1 R6.out.2.2.2.2 _ [[1], [], [2, 3]] Rz.out.2 (by decide) (by show 0 + 1 ≤ n - 1; omega)).mono ?_
        rintro e w7 ⟨rfl, c7, m7, un, q1, _, q2, q3, _⟩
        refine ⟨_, rfl, ?_⟩
        have R7 : Hid (So w w7 c7 g n m7 (jn + 5102) ∧ Jc m7 0 n [[[1], [], [2, 3]]] ∧ m7.fuse < 0) := ⟨q1, q2.jc, q3⟩
        clear q1 q2 q3 R6 Rz
        simp only [Act.put, zA, List.set_cons_succ, zC]
        refine wl_as (.tmp 116) rfl rfl (.int .i64 0) rfl ?_
        simp only [Act.put, zA, List.set_cons_succ, zC]
        refine wpList_nil ?_
        go_upto_region 23 with fail
        refine wp_region_lit ?_
        refine wl_mv (.tmp 9) rfl rfl (ptr g) rfl ?_
        simp only [Act.put, zA, List.set_cons_succ, zC]
        refine wpList_callF eN15 [.tmp 123, .const (.slice none 0 0)] _ rfl rfl [ptr g, .slice none 0 0] rfl ?_
        refine (oBoot R7.out.1 (by omega) _ [] ⟨none, 0, rfl, Nat.le_refl _, by decide, Or.inl rfl⟩).mono ?_
        rintro e w8 ⟨rfl, c8, q1, _⟩
        refine ⟨_, rfl, ?_⟩
        obtain ⟨m8, hm8⟩ : ∃ m8, m8 = m7.boot [] := ⟨_, rfl⟩
        have R8 : Hid (So w w8 c8 g n m8 (jn + 5102) ∧ Jc m8 0 n [[[1], [], [2, 3]]] ∧ m8.fuse < 0) := by rw [hm8]; exact ⟨q1, R7.out.2.1.boot [], (by decide : (-1 : Int) < 0)⟩
        clear q1 R7 hm8
        simp only [Act.put, zA, List.set_cons_succ, zC]
        refine wpList_nil ?_
        go_upto_region 24 with fail
        refine wp_region_lit ?_
        refine wl_mv (.tmp 9) rfl rfl (ptr g) rfl ?_
        simp only [Act.put, zA, List.set_cons_succ, zC]
        refine wpList_callF eN20 [.tmp 126, .const (.int .i64 0)] _ rfl rfl [ptr g, .int .i64 0] rfl ?_
        refine (oOpen R8.out.1 (by omega) R8.out.2.1 R8.out.2.2).mono ?_
        rintro e w9 ⟨gv, p9, cap9, S9, E9, c9, m9, rfl, q1, _, _, _, _, _, _, us, q2⟩
        refine ⟨_, rfl, ?_⟩
        have R9 : Hid (Below w.heap.size w w9 ∧ ∀ W, Below w9.heap.size w9 W → TxsIn W (.slice p9 1 cap9) [[[1], [], [2, 3]]]) := ⟨q1.below, fun W hW => (q2.below hW).now.ins⟩
        clear q1 q2 R8
        simp only [Act.put, zA, List.set_cons_succ, zC]
        refine wl_mv (.tmp 127) rfl rfl (.tuple #[(ptr gv), (.slice p9 1 cap9), (.int .i64 0)]) rfl ?_
        simp only [Act.put, zA, List.set_cons_succ, zC]
        refine wl_ext (.tmp 125) 0 rfl rfl #[ptr gv, .slice p9 1 cap9, .int .i64 0] rfl (ptr gv) rfl ?_
        simp only [Act.put, zA, List.set_cons_succ, zC]
        refine wl_ext (.tmp 125) 1 rfl rfl #[ptr gv, .slice p9 1 cap9, .int .i64 0] rfl (.slice p9 1 cap9) rfl ?_
        simp only [Act.put, zA, List.set_cons_succ, zC]
        refine wl_ext (.tmp 125) 2 rfl rfl #[ptr gv, .slice p9 1 cap9, .int .i64 0] rfl (.int .i64 0) rfl ?_
        simp only [Act.put, zA, List.set_cons_succ, zC]
        refine wl_as (.tmp 129) rfl rfl (.slice p9 1 cap9) rfl ?_
        simp only [Act.put, zA, List.set_cons_succ, zC]
        refine wl_as (.tmp 130) rfl rfl (.int .i64 0) rfl ?_
        simp only [Act.put, zA, List.set_cons_succ, zC]
        refine wpList_nil ?_
        go_upto_region 25 with fail
        refine wp_region_lit ?_
        refine wl_mv (.tmp 7) rfl rfl (.bool true) rfl ?_
        simp only [Act.put, zA, List.set_cons_succ, zC]
        refine wl_mv (.tmp 131) rfl rfl (.bool true) rfl ?_
        simp only [Act.put, zA, List.set_cons_succ, zC]
        refine wl_mv (.tmp 16) rfl rfl (.int .i64 0) rfl ?_
        simp only [Act.put, zA, List.set_cons_succ, zC]
        refine wl_eqI (.tmp 133) (.const (.int .i64 0)) rfl rfl 0 0 rfl rfl true rfl ?_
        simp only [Act.put, zA, List.set_cons_succ, zC]
        refine wl rfl _ _ (run_pickZ (.tmp 132) (.tmp 134) (.const (.bool false)) rfl true (.bool true) rfl rfl) ?_
        simp only [Act.put, zA, List.set_cons_succ, zC]
        refine wl_mv (.tmp 135) rfl rfl (.bool true) rfl ?_
        simp only [Act.put, zA, List.set_cons_succ, zC]
        refine wl_mv (.tmp 15) rfl rfl (.slice p9 1 cap9) rfl ?_
        simp only [Act.put, zA, List.set_cons_succ, zC]
        refine lit51b 1 rfl rfl ?_
        obtain ⟨x1, hx1⟩ : ∃ x1, x1 = w9.alloc (.cells #[.int .u8 (1 : Nat)] 5) := ⟨_, rfl⟩
        obtain ⟨gx1, hgx1⟩ : ∃ gx1, gx1 = w9.heap.size := ⟨_, rfl⟩
        have bx1 : Below w9.heap.size w9 x1 := by rw [hx1]; exact below_alloc w9 _
        have sx1 : SliceIn x1 (.slice (some ⟨gx1, 0, none⟩) 1 1) [1] := by rw [hx1, hgx1]; exact one_byte (by decide) (Below.refl _ _)
        rw [← hx1, ← hgx1]
        clear hx1 hgx1
        simp only [Act.put, zA, List.set_cons_succ, zC]
        refine lit51 rfl rfl ?_
        obtain ⟨x2, hx2⟩ : ∃ x2, x2 = x1.alloc (.cells #[] 5) := ⟨_, rfl⟩
        obtain ⟨gx2, hgx2⟩ : ∃ gx2, gx2 = x1.heap.size := ⟨_, rfl⟩
        have bx2 : Below x1.heap.size x1 x2 := by rw [hx2]; exact below_alloc x1 _
        rw [← hx2, ← hgx2]
        clear hx2 hgx2
        simp only [Act.put, zA, List.set_cons_succ, zC]
        refine lit51c rfl rfl ?_
        obtain ⟨x3, hx3⟩ : ∃ x3, x3 = x2.alloc (.cells #[.int .u8 2, .int .u8 3] 5) := ⟨_, rfl⟩
        obtain ⟨gx3, hgx3⟩ : ∃ gx3, gx3 = x2.heap.size := ⟨_, rfl⟩
        have bx3 : Below x2.heap.size x2 x3 := by rw [hx3]; exact below_alloc x2 _
        have sx3 : SliceIn x3 (.slice (some ⟨gx3, 0, none⟩) 2 2) [2, 3] := by rw [hx3, hgx3]; exact lit_two x2
        rw [← hx3, ← hgx3]
        clear hx3 hgx3
        simp only [Act.put, zA, List.set_cons_succ, zC]
        refine wl rfl _ _ (run_lit30_3 (.tmp 138) (.tmp 139) (.tmp 140) rfl (.slice (some ⟨gx1, 0, none⟩) 1 1) (.slice (some ⟨gx2, 0, none⟩) 0 0) (.slice (some ⟨gx3, 0, none⟩) 2 2) ⟨_, _, _, rfl⟩ ⟨_, _, _, rfl⟩ ⟨_, _, _, rfl⟩ rfl rfl rfl) ?_
        obtain ⟨x4, hx4⟩ : ∃ x4, x4 = x3.alloc (.cells #[.slice (some ⟨gx1, 0, none⟩) 1 1, .slice (some ⟨gx2, 0, none⟩) 0 0, .slice (some ⟨gx3, 0, none⟩) 2 2] 51) := ⟨_, rfl⟩
        obtain ⟨gx4, hgx4⟩ : ∃ gx4, gx4 = x3.heap.size := ⟨_, rfl⟩
        have bx4 : Below x3.heap.size x3 x4 := by rw [hx4]; exact below_alloc x3 _
        have rx4 : RowsIn x4 (.slice (some ⟨gx4, 0, none⟩) 3 3) [[1], [], [2, 3]] := by rw [hx4, hgx4]; exact rows_three ((sx1.later bx2).later bx3) ⟨_, 0, rfl, ⟨Nat.le_refl _, by decide⟩, Or.inl rfl⟩ sx3
        rw [← hx4, ← hgx4]
        have Rx : Hid (Below w9.heap.size w9 x4 ∧ RowsIn x4 (.slice (some ⟨gx4, 0, none⟩) 3 3) [[1], [], [2, 3]]) := ⟨((bx1.trans (bx2.mono bx1.size)).trans (bx3.mono (Nat.le_trans bx1.size bx2.size))).trans (bx4.mono (Nat.le_trans (Nat.le_trans bx1.size bx2.size) bx3.size)), rx4⟩
        clear hx4 hgx4 bx1 bx2 bx3 bx4 sx1 sx3 rx4
        simp only [Act.put, zA, List.set_cons_succ, zC]
        refine wl rfl _ _ (run_lit38_o (.tmp 141) rfl (.slice (some ⟨gx4, 0, none⟩) 3 3) ⟨_, _, _, rfl⟩ rfl) ?_
        obtain ⟨x5, hx5⟩ : ∃ x5, x5 = x4.alloc (.cells #[.slice (some ⟨gx4, 0, none⟩) 3 3] 30) := ⟨_, rfl⟩
        obtain ⟨gx5, hgx5⟩ : ∃ gx5, gx5 = x4.heap.size := ⟨_, rfl⟩
        have bx5 : Below x4.heap.size x4 x5 := by rw [hx5]; exact below_alloc x4 _
        have tx5 : TxsIn x5 (.slice (some ⟨gx5, 0, none⟩) 1 1) [[[1], [], [2, 3]]] := by rw [hx5, hgx5]; exact txs_one Rx.out.2
        have b95 : Below w9.heap.size w9 x5 := Rx.out.1.trans (bx5.mono Rx.out.1.size)
        rw [← hx5, ← hgx5]
        have HSM : Hid (Calls Tryd.prog 22 #[.slice p9 1 cap9, .slice (some ⟨gx5, 0, none⟩) 1 1] x5 fun e w' => e = .returned (.bool true) ∧ Below x5.heap.size x5 w') := same_any (R9.out.2 _ b95) tx5
        have RZ : Hid (Below w.heap.size w x5) := R9.out.1.trans (b95.mono R9.out.1.size)
        clear hx5 hgx5 bx5 tx5 b95 Rx R9
        simp only [Act.put, zA, List.set_cons_succ, zC]
        refine wpList_callW eN22 [.tmp 137, .tmp 142] _ rfl rfl [.slice p9 1 cap9, .slice (some ⟨gx5, 0, none⟩) 1 1] rfl ?_
        refine HSM.out.mono ?_
        rintro e wa ⟨rfl, ba⟩
        refine ⟨_, rfl, ?_⟩
        have RE : Hid (Below w.heap.size w wa) := RZ.out.trans (ba.mono RZ.out.size)
        clear ba RZ HSM
        simp only [Act.put, zA, List.set_cons_succ, zC]
        refine wl rfl _ _ (run_pickZ (.tmp 136) (.tmp 143) (.const (.bool false)) rfl true (.bool true) rfl rfl) ?_
        simp only [Act.put, zA, List.set_cons_succ, zC]
        refine wl_as (.tmp 144) rfl rfl (.bool true) rfl ?_
        simp only [Act.put, zA, List.set_cons_succ, zC]
        refine wpList_nil ?_
        go_wp2_with fail
        rw [HPQ.out]
        exact ⟨rfl, RE.out⟩
      · have HNO : Hid (holds [n] dv = false) := by
          show holds [n] dv = false
          unfold holds
          refine decide_eq_false fun h => hgood ?_
          have h0 : dv = 0 := by have := h.2.1; simp at this; omega
          refine ⟨h0, ?_⟩
          have := h.2.2
          rw [h0] at this
          simpa using this
        refine wl_mv (.tmp 9) rfl rfl (ptr g) rfl ?_
        simp only [Act.put, zA, List.set_cons_succ, zC]
        refine wl_mv (.tmp 2) rfl rfl (.int .i64 dv) rfl ?_
        simp only [Act.put, zA, List.set_cons_succ, zC]
        refine wpList_callF eN19 [.tmp 62, .tmp 63] _ rfl rfl [(ptr g), (.int .i64 dv)] rfl ?_
        refine (oNo HI.out.1 (by omega) dv HNO.out).mono ?_
        rintro e w5 ⟨rfl, c5, q1⟩
        refine ⟨_, rfl, ?_⟩
        have R5 : Hid (So w w5 c5 g n m jn) := q1
        clear q1
        simp only [Act.put, zA, List.set_cons_succ, zC]
        refine wl_as (.tmp 64) rfl rfl (.int .i64 1) rfl ?_
        simp only [Act.put, zA, List.set_cons_succ, zC]
        refine wpList_nil ?_
        go_upto_region 15 with fail
        refine wp_region_lit ?_
        refine wl_mv (.tmp 9) rfl rfl (ptr g) rfl ?_
        simp only [Act.put, zA, List.set_cons_succ, zC]
        refine wl_mv (.tmp 2) rfl rfl (.int .i64 dv) rfl ?_
        simp only [Act.put, zA, List.set_cons_succ, zC]
        refine wpList_callF eN20 [.tmp 66, .tmp 67] _ rfl rfl [(ptr g), (.int .i64 dv)] rfl ?_
        refine (openNo_any R5.out.live R5.out.shape dv HNO.out).mono ?_
        rintro e w6 ⟨rfl, b6⟩
        refine ⟨_, rfl, ?_⟩
        have R6 : Hid (Below w.heap.size w w6) := R5.out.below.trans (b6.mono R5.out.below.size)
        clear b6 R5
        simp only [Act.put, zA, List.set_cons_succ, zC]
        refine wl_mv (.tmp 68) rfl rfl (.tuple #[(.pointer none), (.slice none 0 0), (.int .i64 1)]) rfl ?_
        simp only [Act.put, zA, List.set_cons_succ, zC]
        refine wl_ext (.tmp 65) 0 rfl rfl #[.pointer none, .slice none 0 0, .int .i64 1] rfl (.pointer none) rfl ?_
        simp only [Act.put, zA, List.set_cons_succ, zC]
        refine wl_ext (.tmp 65) 1 rfl rfl #[.pointer none, .slice none 0 0, .int .i64 1] rfl (.slice none 0 0) rfl ?_
        simp only [Act.put, zA, List.set_cons_succ, zC]
        refine wl_ext (.tmp 65) 2 rfl rfl #[.pointer none, .slice none 0 0, .int .i64 1] rfl (.int .i64 1) rfl ?_
        simp only [Act.put, zA, List.set_cons_succ, zC]
        refine wl_as (.tmp 69) rfl rfl (.pointer none) rfl ?_
        simp only [Act.put, zA, List.set_cons_succ, zC]
        refine wl_as (.tmp 70) rfl rfl (.slice none 0 0) rfl ?_
        simp only [Act.put, zA, List.set_cons_succ, zC]
        refine wl_as (.tmp 71) rfl rfl (.int .i64 1) rfl ?_
        simp only [Act.put, zA, List.set_cons_succ, zC]
        refine wpList_nil ?_
        by_cases hd0 : dv = 0
        · subst hd0
          have t8 : decide ((n : Int) < 8) = true := decide_eq_true (by omega)
          go_wp2_with (refine wl_sl sl38 (.tmp 92) rfl rfl none 0 0 rfl ?_)
          rw [HPQ.out]
          exact ⟨rfl, R6.out⟩
        · have ta : (dv == 0) = false := by simp; exact hd0
          have tb : decide (dv = 0) = false := decide_eq_false hd0
          go_wp2_with (refine wl_sl sl38 (.tmp 92) rfl rfl none 0 0 rfl ?_)
          rw [HPQ.out]
          exact ⟨rfl, R6.out⟩
end Go.Proofs.YtgcecejamcnkiaaDoor
namespace Go.Proofs.YtgcecejamcnkiaaDoor
open Go.ChangeShapes Go.WideShapes Go.ChangeAt Go.RowKit Go.Deep
theorem cells53 : Tryd.prog.cellsOf 53 = 2 := by kernel_rfl
theorem und53 : ∃ f0 f1 : Field, Tryd.prog.underlying 53 = some (.struct #[f0, f1]) ∧ (f0.type = 3 ∧ f0.offset = 0) ∧ (f1.type = 51 ∧ f1.offset = 1) :=
  ⟨_, _, Tryd.underlying53, ⟨rfl, rfl⟩, rfl, rfl⟩
set_option maxRecDepth 100000 in
/-- bytes inside another thing -/
theorem open_bfield {H : Type} {enc : TypeId × Value → H} {W : World} {v : Value} {y : DataW H × List MemPlace} {n : Nat} (hf : DataW.trod enc Tryd.prog W 0 (fun _ => true) true n 51 [v] = some y) : ∃ cs, SliceIn W v cs := by
  rcases open_ints Tryd.underlying51 Tryd.underlying5 cells5 hf with ⟨hcs, _⟩ | ⟨x, l, c, zs, hcs, _, hl, hm, hz, hx, hcell, hwz⟩
  · simp at hcs
    subst hcs
    exact ⟨[], none, 0, rfl, ⟨Nat.le_refl _, by decide⟩, Or.inl rfl⟩
  · simp at hcs
    subst hcs
    unfold maxLen at hm
    have hz' : zs.length = c := by simpa using hz
    by_cases h0 : l = 0
    · subst h0
      exact ⟨[], some x, c, rfl, ⟨Nat.zero_le _, by decide⟩, Or.inl rfl⟩
    · have hbd : ∀ z ∈ zs, 0 ≤ z ∧ z ≤ 255 := fun z hz => by
        have := hwz z hz
        simpa [Lit.wf, IntKind.min, IntKind.max, IntKind.signed, IntKind.bits] using this
      have hlen : ((zs.take l).map Int.toNat).length = l := by rw [List.length_map, List.length_take]; omega
      have hplain : ∃ b off, x = ⟨b, off, none⟩ := by
        have h1 := hcell 0 (by omega)
        obtain ⟨ab, ao, sp⟩ := x
        have hsp : sp = none := by simpa [Addr.add] using World.cell?_spot h1
        subst hsp
        exact ⟨ab, ao, rfl⟩
      obtain ⟨b, off, rfl⟩ := hplain
      refine ⟨(zs.take l).map Int.toNat, some ⟨b, off, none⟩, c, by rw [hlen], ⟨by omega, by omega⟩, Or.inr ⟨b, off, rfl, fun j hj => ?_, fun j => ?_⟩⟩
      · rw [hlen] at hj
        have hj' : j < zs.length := by omega
        have h1 := hcell j hj'
        rw [add_none] at h1
        have h2 := (hbd _ (List.getElem_mem hj')).1
        have e1 : zs.getD j 0 = zs[j] := by rw [List.getD_eq_getElem?_getD, List.getElem?_eq_getElem hj']; rfl
        have e2 : ((zs.take l).map Int.toNat).getD j 0 = (zs[j]).toNat := by simp [hj, hj']
        rw [h1, e1, e2, Int.toNat_of_nonneg h2]
      · rw [List.getD_eq_getElem?_getD, List.getElem?_map]
        cases hx' : (zs.take l)[j]? with
        | none => exact (by decide : (0 : Nat) < 256)
        | some z =>
          have h3 := hbd z (List.mem_of_mem_take (List.mem_of_getElem? hx'))
          show z.toNat < 256
          omega
set_option maxRecDepth 100000 in
theorem open_junk1 {H : Type} {enc : TypeId × Value → H} {W : World} {cs : List Value} {y : DataW H × List MemPlace} {n : Nat} (hf : DataW.trod enc Tryd.prog W 0 (fun _ => true) true n 53 cs = some y) : ∃ o : Int × List Nat, ∃ u, cs = [.int .i64 o.1, u] ∧ SliceIn W u o.2 ∧ (-9223372036854775808 ≤ o.1 ∧ o.1 ≤ 9223372036854775807) := by
  obtain ⟨f0, f1, hu, ⟨t0, o0⟩, t1, o1⟩ := und53
  obtain ⟨xs, m, _, hxy, hl, hxl, hx⟩ := DataW.trod_struct hu hf
  rw [cells53] at hl
  match cs, hl, xs, hxl with
  | [v0, v1], _, [y0, y1], _ =>
    have g0 := hx 0 f0 rfl
    have g1 := hx 1 f1 rfl
    simp only [t0, t1, o0, o1, cells3, cells51] at g0 g1
    simp at g0 g1
    obtain ⟨z0, rfl, i0⟩ := open_i64 g0
    obtain ⟨bs, hb⟩ := open_bfield g1
    exact ⟨(z0, bs), v1, rfl, hb, i0⟩
set_option maxRecDepth 100000 in
/-- A SLICE OF JUNK THAT CAME IN -/
theorem open_junk {H : Type} {enc : TypeId × Value → H} {W : World} {v : Value} {d : DataW H} {p : List MemPlace} {base : Nat}
    (hv : Value.okWide Tryd.prog W .any base 45 v) (h : DataW.Trod enc Tryd.prog W 0 (fun _ => true) true 45 v d p) (hk : Rows.uptoBulk d ≤ 1048576) : ∃ L, JunkIn W v L := by
  obtain ⟨a0, len0, cap0, rfl⟩ := okWide_slice Tryd.underlying45 hv
  obtain ⟨fuel, hf⟩ := h
  rcases open_slice Tryd.underlying45 hf with ⟨hcs, _⟩ | ⟨a, len, cap, m, n, D, Pl, hcs, _, hl, hm, hmm, hx, hrow⟩
  · simp [Value.cells] at hcs
    obtain ⟨rfl, rfl, rfl⟩ := hcs
    exact ⟨[], none, 0, rfl, by simp, fun x hx => (by cases hx), Or.inl rfl⟩
  · simp [Value.cells] at hcs
    obtain ⟨rfl, rfl, rfl⟩ := hcs
    have hd := congrArg Prod.fst hx
    simp only at hd
    rw [hd] at hk
    simp only [Rows.uptoBulk] at hk
    have hlm : len0 ≤ m := by rw [hmm]; split <;> omega
    have hb := bulk_length ((List.range len0).map D)
    rw [List.length_map, List.length_range] at hb
    obtain ⟨F, hF⟩ := choose_lt (α := Int × List Nat) (n := len0) (p := fun i o => ∃ u, W.cells? 0 (a.add (i * 2)) 2 = some [.int .i64 o.1, u] ∧ SliceIn W u o.2 ∧ (-9223372036854775808 ≤ o.1 ∧ o.1 ≤ 9223372036854775807)) (fun i hi => by
      obtain ⟨cs', h1, h2⟩ := hrow i (by omega)
      rw [cells53] at h1
      obtain ⟨o, u, ho, hin⟩ := open_junk1 h2
      exact ⟨o, u, by rw [← ho]; exact h1, hin⟩)
    refine ⟨(List.range len0).map F, some a, cap0, by simp, by simp; omega, fun o ho => ?_, ?_⟩
    · obtain ⟨i, hi, rfl⟩ := List.mem_map.1 ho
      obtain ⟨u, h1⟩ := hF i (List.mem_range.1 hi)
      exact h1.2.2
    · by_cases h0 : len0 = 0
      · subst h0
        exact Or.inl (by simp)
      · right
        obtain ⟨u0, hF0, _⟩ := hF 0 (by omega)
        obtain ⟨_, _, hcell0⟩ := World.cells?_some hF0
        have hplain : ∃ b off, a = ⟨b, off, none⟩ := by
          have h1 := hcell0 0 (by omega)
          obtain ⟨ab, ao, sp⟩ := a
          have h1' : W.cell? ⟨ab, ao, sp⟩ = some (.int .i64 (F 0).1) := by
            simpa [Addr.add] using h1
          have hsp : sp = none := by simpa [Addr.add] using World.cell?_spot h1'
          subst hsp
          exact ⟨ab, ao, rfl⟩
        obtain ⟨b, off, rfl⟩ := hplain
        refine ⟨b, off, rfl, fun i hi => ?_⟩
        rw [List.length_map, List.length_range] at hi
        obtain ⟨u, hFi, hin, _⟩ := hF i hi
        obtain ⟨_, _, hcell⟩ := World.cells?_some hFi
        have e : ((List.range len0).map F).getD i default = F i := by simp [hi]
        rw [e]
        have h0' := hcell 0 (by omega)
        have h1' := hcell 1 (by omega)
        rw [add_none, add_none] at h0' h1'
        exact ⟨h0', u, h1', hin⟩
end Go.Proofs.YtgcecejamcnkiaaDoor

/- The calls of PlantPlays, over four plants at once. -/
import Derived.Test.YtdddfjkecmnggaaQuad
namespace Go.Proofs.Ytdddfjkecmnggaa
open Go.RowKit Go.Maps

/-- a call that is asked for -/
structure OpD where
  k : Int
  d : Int
  p : Int
  a : Int
  n : Int
  x : Nat
  kv : Value
  ks : List Int
def OpD.cells (o : OpD) : List Value := opCells o.k o.d o.p o.a o.n o.x o.kv
def I64 (z : Int) : Prop := -9223372036854775808 ≤ z ∧ z ≤ 9223372036854775807
structure OpIn (W : World) (o : OpD) : Prop where
  k : I64 o.k
  d : I64 o.d
  p : I64 o.p
  a : I64 o.a
  n : I64 o.n
  b : o.x < 256
  keep : IntsIn W o.kv o.ks
theorem OpIn.keepIn {W0 W : World} {c : Nat → Colour} {t : Nat} {o : OpD} (h : OpIn W0 o) (hb : Below W0.heap.size W0 W) (hl : ∀ b, b < W0.heap.size → (c b).1 = 0) (ht : t ≠ 0) : KeepIn W c t o.kv o.ks := by
  obtain ⟨p, cap, e, h1, h2, h3⟩ := h.keep
  refine ⟨p, cap, e, h1, h2, ?_⟩
  by_cases h0 : o.ks = []
  · exact Or.inl h0
  rcases h3 with h3 | ⟨b, off, rfl, h3⟩
  · exact Or.inl h3
  have hpos : 0 < o.ks.length := List.length_pos_iff.2 h0
  have hlt := block_lt_of_cell (h3 0 hpos)
  exact Or.inr ⟨b, off, rfl, by rw [hl b hlt]; exact ht.symm, Nat.lt_of_lt_of_le hlt hb.size, fun j hj => by rw [hb.cell (by exact hlt)]; exact h3 j hj⟩
theorem Pl.step_le (m : Pl) : m.step.steps ≤ m.steps + 1 := by
  unfold Pl.step
  split
  · exact Nat.le_succ _
  · exact Nat.le_refl _
theorem Pl.write_le (m : Pl) (d p : Int) (s : List Nat) : (m.write d p s).2.steps ≤ m.steps + 1 := by
  have := m.step_le
  unfold Pl.write
  repeat' split
  all_goals first
    | exact Nat.le_succ _
    | exact this
theorem Pl.append_le (m : Pl) (d : Int) (s : List Nat) : (m.append d s).2.2.steps ≤ m.steps + 1 := by
  have := m.step_le
  unfold Pl.append
  repeat' split
  all_goals first
    | exact Nat.le_succ _
    | exact this
theorem Pl.flush_le (m : Pl) (d : Int) : (m.flush d).2.steps ≤ m.steps + 1 := by
  have := m.step_le
  unfold Pl.flush
  repeat' split
  all_goals first
    | exact Nat.le_succ _
    | exact this
theorem Pl.rot_le (m : Pl) (d p a y : Int) : (m.rot d p a y).2.steps ≤ m.steps + 1 := by
  unfold Pl.rot
  split <;> exact Nat.le_succ _
theorem Pl.tick_le (m : Pl) (n : Int) : (m.tick n).steps ≤ m.steps + 1 := by
  unfold Pl.tick
  split <;> exact Nat.le_succ _
theorem Pl.fuse_le (m : Pl) (n : Int) : (m.fuseTo n).steps ≤ m.steps + 1 := by
  unfold Pl.fuseTo
  split <;> exact Nat.le_succ _
theorem Pl.boot_le (m : Pl) (ks : List Int) : (m.boot ks).steps ≤ m.steps + 1 := Nat.le_succ _

/-- four plants, the call's own copy, the bytes that are handed in -/
def St4 (W0 : World) (o : OpD) (bo bq : Nat) (cells : List Value) (gx : Nat) (mx : Pl) (gy : Nat) (my : Pl) (gz : Nat) (mz : Pl) (gw : Nat) (mw : Pl) (W : World) : Prop :=
  ∃ c T tx ty tz tw, Quad W0 W c T tx gx mx ty gy my tz gz mz tw gw mw ∧ (Scr W0 W c tx ty tz tw bo ∧ Row W bo 39 o.cells) ∧ Scr W0 W c tx ty tz tw bq ∧ Row W bq 5 cells
section
variable {W0 W W' : World} {o : OpD} {bo bq gx gy gz gw : Nat} {cells : List Value} {mx my mz mw mx' my' : Pl}
theorem St4.row (h : St4 W0 o bo bq cells gx mx gy my gz mz gw mw W) : Row W bo 39 o.cells := by obtain ⟨_, _, _, _, _, _, _, h, _⟩ := h; exact h.2
theorem St4.bytes (h : St4 W0 o bo bq cells gx mx gy my gz mz gw mw W) : Row W bq 5 cells := by obtain ⟨_, _, _, _, _, _, _, _, h⟩ := h; exact h.2
theorem St4.gy_lt (h : St4 W0 o bo bq cells gx mx gy my gz mz gw mw W) : gy < W.heap.size := by
  obtain ⟨_, _, _, _, _, _, q, _⟩ := h
  obtain ⟨_, _, _, _, _, _, h⟩ := q.y.1
  exact h.row.lt
theorem St4.wf (h : St4 W0 o bo bq cells gx mx gy my gz mz gw mw W) : mx.WF ∧ my.WF := by obtain ⟨_, _, _, _, _, _, q, _⟩ := h; exact ⟨q.x.2.1, q.y.2.1⟩
theorem St4.bel (h : St4 W0 o bo bq cells gx mx gy my gz mz gw mw W) : Below W0.heap.size W0 W := by obtain ⟨_, _, _, _, _, _, q, _⟩ := h; exact q.bel
theorem St4.below (h : St4 W0 o bo bq cells gx mx gy my gz mz gw mw W) (hb : Below W.heap.size W W') : St4 W0 o bo bq cells gx mx gy my gz mz gw mw W' := by
  obtain ⟨c, T, tx, ty, tz, tw, q, ⟨s1, r1⟩, s2, r2⟩ := h
  exact ⟨c, T, tx, ty, tz, tw, q.below hb, ⟨s1.below bo hb, r1.later hb r1.lt⟩, s2.below bq hb, r2.later hb r2.lt⟩
theorem St4.nextX (h : St4 W0 o bo bq cells gx mx gy my gz mz gw mw W) (hn : ∀ c t, Live W c t gx mx → Next W c t gx mx' W') : St4 W0 o bo bq cells gx mx' gy my gz mz gw mw W' := by
  obtain ⟨c, T, tx, ty, tz, tw, q, ⟨s1, r1⟩, s2, r2⟩ := h
  obtain ⟨c', q', _, hs⟩ := q.nextX (hn c tx q.x)
  exact ⟨c', T, tx, ty, tz, tw, q', ⟨(hs bo s1).1, by unfold Row; rw [(hs bo s1).2]; exact r1⟩, (hs bq s2).1, by unfold Row; rw [(hs bq s2).2]; exact r2⟩
/-- a block of nobody's is written -/
theorem St4.setB (h : St4 W0 o bo bq cells gx mx gy my gz mz gw mw W) (hne : bo ≠ bq) (i : Nat) (v : Value) : St4 W0 o bo bq (cells.set i v) gx mx gy my gz mz gw mw (W.setCell ⟨bq, i, none⟩ v) := by
  obtain ⟨c, T, tx, ty, tz, tw, q, ⟨s1, r1⟩, s2, r2⟩ := h
  have hc : Ch (· = bq) W (W.setCell ⟨bq, i, none⟩ v) := (Ch.refl (· = bq) W).setCell (Or.inl rfl) i v
  have hsz : W.heap.size = (W.setCell ⟨bq, i, none⟩ v).heap.size := (World.size_setCell _ _ _).symm
  exact ⟨c, T, tx, ty, tz, tw, q.scr bq s2 hc, ⟨⟨s1.1, by rw [← hsz]; exact s1.2.1, s1.2.2⟩, hc.row hne r1⟩, ⟨s2.1, by rw [← hsz]; exact s2.2.1, s2.2.2⟩, row_cell' r2 v⟩
theorem St4.setF (h : St4 W0 o bo bq cells gx mx gy my gz mz gw mw W) (b : Nat) (hb : ∀ c T tx ty tz tw, Quad W0 W c T tx gx mx ty gy my tz gz mz tw gw mw → Scr W0 W c tx ty tz tw b) (h1 : b ≠ bo) (h2 : b ≠ bq) (i : Nat) (v : Value) : St4 W0 o bo bq cells gx mx gy my gz mz gw mw (W.setCell ⟨b, i, none⟩ v) := by
  obtain ⟨c, T, tx, ty, tz, tw, q, ⟨s1, r1⟩, s2, r2⟩ := h
  have hc : Ch (· = b) W (W.setCell ⟨b, i, none⟩ v) := (Ch.refl (· = b) W).setCell (Or.inl rfl) i v
  have hsz : W.heap.size = (W.setCell ⟨b, i, none⟩ v).heap.size := (World.size_setCell _ _ _).symm
  exact ⟨c, T, tx, ty, tz, tw, q.scr b (hb c T tx ty tz tw q) hc, ⟨⟨s1.1, by rw [← hsz]; exact s1.2.1, s1.2.2⟩, hc.row h1.symm r1⟩, ⟨s2.1, by rw [← hsz]; exact s2.2.1, s2.2.2⟩, hc.row h2.symm r2⟩
theorem St4.swap (h : St4 W0 o bo bq cells gx mx gy my gz mz gw mw W) : St4 W0 o bo bq cells gz mz gw mw gx mx gy my W := by
  obtain ⟨c, T, tx, ty, tz, tw, q, ⟨s1, r1⟩, s2, r2⟩ := h
  exact ⟨c, T, tz, tw, tx, ty, q.swap, ⟨s1.swap, r1⟩, s2.swap, r2⟩
theorem St4.alikeX (h : St4 W0 o bo bq cells gx mx gy mx gz mz gw mw W) (hst : mx.steps < 1099511627775) (d p : Int) : Calls Try.prog 31 #[ptr gx, ptr gy, .int .i64 d, .int .i64 p] W fun e W' => e = .returned (.bool true) ∧ St4 W0 o bo bq cells gx mx gy mx gz mz gw mw W' := by
  obtain ⟨c, T, tx, ty, tz, tw, q, h'⟩ := h
  exact (alike_any q.x q.y hst d p).mono fun e W' he => ⟨he.1, St4.below ⟨c, T, tx, ty, tz, tw, q, h'⟩ he.2⟩
theorem St4.alikeZ (h : St4 W0 o bo bq cells gx mx gy my gz mz gw mz W) (hst : mz.steps < 1099511627775) (d p : Int) : Calls Try.prog 31 #[ptr gz, ptr gw, .int .i64 d, .int .i64 p] W fun e W' => e = .returned (.bool true) ∧ St4 W0 o bo bq cells gx mx gy my gz mz gw mz W' :=
  (h.swap.alikeX hst d p).mono fun _ _ he => ⟨he.1, he.2.swap⟩
theorem St4.cloneX (h : St4 W0 o bo bq cells gx mx gy my gz mz gw mw W) (hst : mx.steps < 1099511627775) : Calls Try.prog 12 #[ptr gx] W fun e W' => ∃ G, e = .returned (ptr G) ∧ St4 W0 o bo bq cells G mx gy my gx mx gw mw W' := by
  obtain ⟨c, T, tx, ty, tz, tw, q, ⟨s1, r1⟩, s2, r2⟩ := h
  refine (q.x.clone hst T).mono fun e W' he => ?_
  obtain ⟨G, c', he, _, h1, h2, h3, hb⟩ := he
  obtain ⟨q', hs⟩ := q.cloneX h1 h2 h3 hb
  exact ⟨G, he, c', T + 2, T, ty, tx, tw, q', ⟨(hs bo s1).1, r1.later hb r1.lt⟩, (hs bq s2).1, r2.later hb r2.lt⟩
theorem St4.cloneY (h : St4 W0 o bo bq cells gx mx gy my gz mz gw mw W) (hst : my.steps < 1099511627775) : Calls Try.prog 13 #[ptr gy] W fun e W' => ∃ G, e = .returned (ptr G) ∧ St4 W0 o bo bq cells gx mx G my gz mz gy my W' := by
  obtain ⟨c, T, tx, ty, tz, tw, q, ⟨s1, r1⟩, s2, r2⟩ := h
  have ht := q.tags
  unfold TagsOk at ht
  refine (q.y.clone (by omega) hst T (by omega) (by omega)).mono fun e W' he => ?_
  obtain ⟨G, c', he, _, h1, h2, h3, hb⟩ := he
  obtain ⟨q', hs⟩ := q.cloneY h1 h2 h3 hb
  exact ⟨G, he, c', T + 2, tx, T, tz, ty, q', ⟨(hs bo s1).1, r1.later hb r1.lt⟩, (hs bq s2).1, r2.later hb r2.lt⟩
theorem St4.writeX (h : St4 W0 o bo bq cells gx mx gy my gz mz gw mw W) (hst : mx.steps < 1099511627775) (d p : Int) (v : Value) (s : List Nat) (hv : SliceIn W v s) : Calls Try.prog 16 #[ptr gx, .int .i64 d, .int .i64 p, v] W fun e W' => e = .returned (.int .i64 (mx.write d p s).1) ∧ St4 W0 o bo bq cells gx ((mx.write d p s).2) gy my gz mz gw mw W' := by
  obtain ⟨c, T, tx, ty, tz, tw, q, ⟨s1, r1⟩, s2, r2⟩ := h
  have ht := q.tags
  unfold TagsOk at ht
  refine (q.x.write hst d p v s hv).mono fun e W' he => ⟨he.1, ?_⟩
  obtain ⟨c', q', _, hs⟩ := q.nextX he.2
  exact ⟨c', T, tx, ty, tz, tw, q', ⟨(hs bo s1).1, by unfold Row; rw [(hs bo s1).2]; exact r1⟩, (hs bq s2).1, by unfold Row; rw [(hs bq s2).2]; exact r2⟩
theorem St4.writeY (h : St4 W0 o bo bq cells gx mx gy my gz mz gw mw W) (hst : my.steps < 1099511627775) (d p : Int) (v : Value) (s : List Nat) (hv : SliceIn W v s) (hvb : ∀ b, v.ownBlock = some b → b ≠ gy) : Calls Try.prog 17 #[ptr gy, .int .i64 d, .int .i64 p, v] W fun e W' => e = .returned (.int .i64 (my.write d p s).1) ∧ St4 W0 o bo bq cells gx mx gy ((my.write d p s).2) gz mz gw mw W' := by
  obtain ⟨c, T, tx, ty, tz, tw, q, ⟨s1, r1⟩, s2, r2⟩ := h
  have ht := q.tags
  unfold TagsOk at ht
  refine (q.y.write (by omega) (by omega) hst d p v s hv hv.lt256 hvb).mono fun e W' he => ⟨he.1, ?_⟩
  obtain ⟨c', q', _, hs⟩ := q.nextY he.2
  exact ⟨c', T, tx, ty, tz, tw, q', ⟨(hs bo s1).1, by unfold Row; rw [(hs bo s1).2]; exact r1⟩, (hs bq s2).1, by unfold Row; rw [(hs bq s2).2]; exact r2⟩
theorem St4.appendX (h : St4 W0 o bo bq cells gx mx gy my gz mz gw mw W) (hst : mx.steps < 1099511627775) (d : Int) (v : Value) (s : List Nat) (hv : SliceIn W v s) : Calls Try.prog 18 #[ptr gx, .int .i64 d, v] W fun e W' => e = .returned (.tuple #[.int .i64 ((mx.append d s).1 : Int), .int .i64 (mx.append d s).2.1]) ∧ St4 W0 o bo bq cells gx ((mx.append d s).2.2) gy my gz mz gw mw W' := by
  obtain ⟨c, T, tx, ty, tz, tw, q, ⟨s1, r1⟩, s2, r2⟩ := h
  have ht := q.tags
  unfold TagsOk at ht
  refine (q.x.append hst d v s hv).mono fun e W' he => ⟨he.1, ?_⟩
  obtain ⟨c', q', _, hs⟩ := q.nextX he.2
  exact ⟨c', T, tx, ty, tz, tw, q', ⟨(hs bo s1).1, by unfold Row; rw [(hs bo s1).2]; exact r1⟩, (hs bq s2).1, by unfold Row; rw [(hs bq s2).2]; exact r2⟩
theorem St4.appendY (h : St4 W0 o bo bq cells gx mx gy my gz mz gw mw W) (hst : my.steps < 1099511627775) (d : Int) (v : Value) (s : List Nat) (hv : SliceIn W v s) (hvb : ∀ b, v.ownBlock = some b → b ≠ gy) : Calls Try.prog 19 #[ptr gy, .int .i64 d, v] W fun e W' => e = .returned (.tuple #[.int .i64 ((my.append d s).1 : Int), .int .i64 (my.append d s).2.1]) ∧ St4 W0 o bo bq cells gx mx gy ((my.append d s).2.2) gz mz gw mw W' := by
  obtain ⟨c, T, tx, ty, tz, tw, q, ⟨s1, r1⟩, s2, r2⟩ := h
  have ht := q.tags
  unfold TagsOk at ht
  refine (q.y.append (by omega) (by omega) hst d v s hv hv.lt256 hvb).mono fun e W' he => ⟨he.1, ?_⟩
  obtain ⟨c', q', _, hs⟩ := q.nextY he.2
  exact ⟨c', T, tx, ty, tz, tw, q', ⟨(hs bo s1).1, by unfold Row; rw [(hs bo s1).2]; exact r1⟩, (hs bq s2).1, by unfold Row; rw [(hs bq s2).2]; exact r2⟩
theorem St4.flushX (h : St4 W0 o bo bq cells gx mx gy my gz mz gw mw W) (hst : mx.steps < 1099511627775) (d : Int) : Calls Try.prog 21 #[ptr gx, .int .i64 d] W fun e W' => e = .returned (.int .i64 (mx.flush d).1) ∧ St4 W0 o bo bq cells gx ((mx.flush d).2) gy my gz mz gw mw W' := by
  obtain ⟨c, T, tx, ty, tz, tw, q, ⟨s1, r1⟩, s2, r2⟩ := h
  have ht := q.tags
  unfold TagsOk at ht
  refine (q.x.flush hst d).mono fun e W' he => ⟨he.1, ?_⟩
  obtain ⟨c', q', _, hs⟩ := q.nextX he.2
  exact ⟨c', T, tx, ty, tz, tw, q', ⟨(hs bo s1).1, by unfold Row; rw [(hs bo s1).2]; exact r1⟩, (hs bq s2).1, by unfold Row; rw [(hs bq s2).2]; exact r2⟩
theorem St4.flushY (h : St4 W0 o bo bq cells gx mx gy my gz mz gw mw W) (hst : my.steps < 1099511627775) (d : Int) : Calls Try.prog 22 #[ptr gy, .int .i64 d] W fun e W' => e = .returned (.int .i64 (my.flush d).1) ∧ St4 W0 o bo bq cells gx mx gy ((my.flush d).2) gz mz gw mw W' := by
  obtain ⟨c, T, tx, ty, tz, tw, q, ⟨s1, r1⟩, s2, r2⟩ := h
  have ht := q.tags
  unfold TagsOk at ht
  refine (q.y.flush (by omega) (by omega) hst d).mono fun e W' he => ⟨he.1, ?_⟩
  obtain ⟨c', q', _, hs⟩ := q.nextY he.2
  exact ⟨c', T, tx, ty, tz, tw, q', ⟨(hs bo s1).1, by unfold Row; rw [(hs bo s1).2]; exact r1⟩, (hs bq s2).1, by unfold Row; rw [(hs bq s2).2]; exact r2⟩
theorem St4.fuseX (h : St4 W0 o bo bq cells gx mx gy my gz mz gw mw W) (n : Int) (hn : I64 n) : Calls Try.prog 23 #[ptr gx, .int .i64 n] W fun e W' => e = .returned (noResult) ∧ St4 W0 o bo bq cells gx (mx.fuseTo n) gy my gz mz gw mw W' := by
  obtain ⟨c, T, tx, ty, tz, tw, q, ⟨s1, r1⟩, s2, r2⟩ := h
  have ht := q.tags
  unfold TagsOk at ht
  refine (q.x.fuse n hn.1 hn.2).mono fun e W' he => ⟨he.1, ?_⟩
  obtain ⟨c', q', _, hs⟩ := q.nextX he.2
  exact ⟨c', T, tx, ty, tz, tw, q', ⟨(hs bo s1).1, by unfold Row; rw [(hs bo s1).2]; exact r1⟩, (hs bq s2).1, by unfold Row; rw [(hs bq s2).2]; exact r2⟩
theorem St4.fuseY (h : St4 W0 o bo bq cells gx mx gy my gz mz gw mw W) (n : Int) (hn : I64 n) : Calls Try.prog 24 #[ptr gy, .int .i64 n] W fun e W' => e = .returned (noResult) ∧ St4 W0 o bo bq cells gx mx gy (my.fuseTo n) gz mz gw mw W' := by
  obtain ⟨c, T, tx, ty, tz, tw, q, ⟨s1, r1⟩, s2, r2⟩ := h
  have ht := q.tags
  unfold TagsOk at ht
  refine (q.y.fuse (by omega) (by omega) n hn.1 hn.2).mono fun e W' he => ⟨he.1, ?_⟩
  obtain ⟨c', q', _, hs⟩ := q.nextY he.2
  exact ⟨c', T, tx, ty, tz, tw, q', ⟨(hs bo s1).1, by unfold Row; rw [(hs bo s1).2]; exact r1⟩, (hs bq s2).1, by unfold Row; rw [(hs bq s2).2]; exact r2⟩
theorem St4.bootX (h : St4 W0 o bo bq cells gx mx gy my gz mz gw mw W) (hst : mx.steps < 1099511627775) (ho : OpIn W0 o) : Calls Try.prog 25 #[ptr gx, o.kv] W fun e W' => e = .returned (noResult) ∧ St4 W0 o bo bq cells gx (mx.boot o.ks) gy my gz mz gw mw W' := by
  obtain ⟨c, T, tx, ty, tz, tw, q, ⟨s1, r1⟩, s2, r2⟩ := h
  have ht := q.tags
  unfold TagsOk at ht
  refine (q.x.boot hst o.kv o.ks (ho.keepIn q.bel q.low (by omega))).mono fun e W' he => ⟨he.1, ?_⟩
  obtain ⟨c', q', _, hs⟩ := q.nextX he.2
  exact ⟨c', T, tx, ty, tz, tw, q', ⟨(hs bo s1).1, by unfold Row; rw [(hs bo s1).2]; exact r1⟩, (hs bq s2).1, by unfold Row; rw [(hs bq s2).2]; exact r2⟩
theorem St4.bootY (h : St4 W0 o bo bq cells gx mx gy my gz mz gw mw W) (hst : my.steps < 1099511627775) (ho : OpIn W0 o) : Calls Try.prog 26 #[ptr gy, o.kv] W fun e W' => e = .returned (noResult) ∧ St4 W0 o bo bq cells gx mx gy (my.boot o.ks) gz mz gw mw W' := by
  obtain ⟨c, T, tx, ty, tz, tw, q, ⟨s1, r1⟩, s2, r2⟩ := h
  have ht := q.tags
  unfold TagsOk at ht
  refine (q.y.boot (by omega) (by omega) hst o.kv o.ks (ho.keepIn q.bel q.low (by omega))).mono fun e W' he => ⟨he.1, ?_⟩
  obtain ⟨c', q', _, hs⟩ := q.nextY he.2
  exact ⟨c', T, tx, ty, tz, tw, q', ⟨(hs bo s1).1, by unfold Row; rw [(hs bo s1).2]; exact r1⟩, (hs bq s2).1, by unfold Row; rw [(hs bq s2).2]; exact r2⟩
theorem St4.rotX (h : St4 W0 o bo bq cells gx mx gy my gz mz gw mw W) (d p a y : Int) : Calls Try.prog 27 #[ptr gx, .int .i64 d, .int .i64 p, .int .i64 a, .int .i64 y] W fun e W' => e = .returned (.bool (mx.rot d p a y).1) ∧ St4 W0 o bo bq cells gx ((mx.rot d p a y).2) gy my gz mz gw mw W' := by
  obtain ⟨c, T, tx, ty, tz, tw, q, ⟨s1, r1⟩, s2, r2⟩ := h
  have ht := q.tags
  unfold TagsOk at ht
  refine (q.x.rot d p a y).mono fun e W' he => ⟨he.1, ?_⟩
  obtain ⟨c', q', _, hs⟩ := q.nextX he.2
  exact ⟨c', T, tx, ty, tz, tw, q', ⟨(hs bo s1).1, by unfold Row; rw [(hs bo s1).2]; exact r1⟩, (hs bq s2).1, by unfold Row; rw [(hs bq s2).2]; exact r2⟩
theorem St4.rotY (h : St4 W0 o bo bq cells gx mx gy my gz mz gw mw W) (d p a y : Int) : Calls Try.prog 28 #[ptr gy, .int .i64 d, .int .i64 p, .int .i64 a, .int .i64 y] W fun e W' => e = .returned (.bool (my.rot d p a y).1) ∧ St4 W0 o bo bq cells gx mx gy ((my.rot d p a y).2) gz mz gw mw W' := by
  obtain ⟨c, T, tx, ty, tz, tw, q, ⟨s1, r1⟩, s2, r2⟩ := h
  have ht := q.tags
  unfold TagsOk at ht
  refine (q.y.rot (by omega) (by omega) d p a y).mono fun e W' he => ⟨he.1, ?_⟩
  obtain ⟨c', q', _, hs⟩ := q.nextY he.2
  exact ⟨c', T, tx, ty, tz, tw, q', ⟨(hs bo s1).1, by unfold Row; rw [(hs bo s1).2]; exact r1⟩, (hs bq s2).1, by unfold Row; rw [(hs bq s2).2]; exact r2⟩
theorem St4.tickX (h : St4 W0 o bo bq cells gx mx gy my gz mz gw mw W) (n : Int) (hn : I64 n) : Calls Try.prog 29 #[ptr gx, .int .i64 n] W fun e W' => e = .returned (noResult) ∧ St4 W0 o bo bq cells gx (mx.tick n) gy my gz mz gw mw W' := by
  obtain ⟨c, T, tx, ty, tz, tw, q, ⟨s1, r1⟩, s2, r2⟩ := h
  have ht := q.tags
  unfold TagsOk at ht
  refine (q.x.tick n hn.2).mono fun e W' he => ⟨he.1, ?_⟩
  obtain ⟨c', q', _, hs⟩ := q.nextX he.2
  exact ⟨c', T, tx, ty, tz, tw, q', ⟨(hs bo s1).1, by unfold Row; rw [(hs bo s1).2]; exact r1⟩, (hs bq s2).1, by unfold Row; rw [(hs bq s2).2]; exact r2⟩
theorem St4.tickY (h : St4 W0 o bo bq cells gx mx gy my gz mz gw mw W) (n : Int) (hn : I64 n) : Calls Try.prog 30 #[ptr gy, .int .i64 n] W fun e W' => e = .returned (noResult) ∧ St4 W0 o bo bq cells gx mx gy (my.tick n) gz mz gw mw W' := by
  obtain ⟨c, T, tx, ty, tz, tw, q, ⟨s1, r1⟩, s2, r2⟩ := h
  have ht := q.tags
  unfold TagsOk at ht
  refine (q.y.tick (by omega) (by omega) n hn.2).mono fun e W' he => ⟨he.1, ?_⟩
  obtain ⟨c', q', _, hs⟩ := q.nextY he.2
  exact ⟨c', T, tx, ty, tz, tw, q', ⟨(hs bo s1).1, by unfold Row; rw [(hs bo s1).2]; exact r1⟩, (hs bq s2).1, by unfold Row; rw [(hs bq s2).2]; exact r2⟩
/-- with one row more of nobody's -/
def St5 (W0 : World) (o : OpD) (bo bq : Nat) (cells : List Value) (gx : Nat) (mx : Pl) (gy : Nat) (my : Pl) (gz : Nat) (mz : Pl) (gw : Nat) (mw : Pl) (br : Nat) (cs : List Value) (W : World) : Prop :=
  ∃ c T tx ty tz tw, Quad W0 W c T tx gx mx ty gy my tz gz mz tw gw mw ∧ (Scr W0 W c tx ty tz tw bo ∧ Row W bo 39 o.cells) ∧ (Scr W0 W c tx ty tz tw bq ∧ Row W bq 5 cells) ∧ Scr W0 W c tx ty tz tw br ∧ Row W br 5 cs
theorem St5.out {br : Nat} {cs : List Value} (h : St5 W0 o bo bq cells gx mx gy my gz mz gw mw br cs W) : St4 W0 o bo bq cells gx mx gy my gz mz gw mw W := by
  obtain ⟨c, T, tx, ty, tz, tw, q, h1, h2, _⟩ := h
  exact ⟨c, T, tx, ty, tz, tw, q, h1, h2⟩
theorem St5.row {br : Nat} {cs : List Value} (h : St5 W0 o bo bq cells gx mx gy my gz mz gw mw br cs W) : Row W br 5 cs := by
  obtain ⟨c, T, tx, ty, tz, tw, q, h1, h2, h3⟩ := h
  exact h3.2
theorem St5.set {br : Nat} {cs : List Value} (h : St5 W0 o bo bq cells gx mx gy my gz mz gw mw br cs W) (h1 : br ≠ bo) (h2 : br ≠ bq) (i : Nat) (v : Value) : St5 W0 o bo bq cells gx mx gy my gz mz gw mw br (cs.set i v) (W.setCell ⟨br, i, none⟩ v) := by
  obtain ⟨c, T, tx, ty, tz, tw, q, ⟨s1, r1⟩, ⟨s2, r2⟩, s3, r3⟩ := h
  have hc : Ch (· = br) W (W.setCell ⟨br, i, none⟩ v) := (Ch.refl (· = br) W).setCell (Or.inl rfl) i v
  have hsz : W.heap.size = (W.setCell ⟨br, i, none⟩ v).heap.size := (World.size_setCell _ _ _).symm
  exact ⟨c, T, tx, ty, tz, tw, q.scr br s3 hc, ⟨⟨s1.1, by rw [← hsz]; exact s1.2.1, s1.2.2⟩, hc.row h1.symm r1⟩, ⟨⟨s2.1, by rw [← hsz]; exact s2.2.1, s2.2.2⟩, hc.row h2.symm r2⟩, ⟨s3.1, by rw [← hsz]; exact s3.2.1, s3.2.2⟩, row_cell' r3 v⟩
/-- Read: a row of the call's own, or nothing -/
theorem St4.readX (h : St4 W0 o bo bq cells gx mx gy my gz mz gw mw W) (hst : mx.steps < 1099511627775) (d p : Int) : Calls Try.prog 20 #[ptr gx, .int .i64 d, .int .i64 p] W fun e W' => (∃ b er cs, e = .returned (.tuple #[.slice (some ⟨b, 0, none⟩) 64 64, .int .i64 er]) ∧ b ≠ bo ∧ b ≠ bq ∧ cs.length = 64 ∧ St5 W0 o bo bq cells gx mx gy my gz mz gw mw b cs W') ∨ (∃ er, e = .returned (.tuple #[.slice none 0 0, .int .i64 er]) ∧ St4 W0 o bo bq cells gx mx gy my gz mz gw mw W') := by
  obtain ⟨c, T, tx, ty, tz, tw, q, ⟨s1, r1⟩, s2, r2⟩ := h
  by_cases hc : mx.on = true ∧ mx.has d ∧ 0 ≤ p ∧ p < (mx.len d.toNat : Int)
  · have hh := hc.2.1
    unfold Pl.has at hh
    have h1 : ((d.toNat : Nat) : Int) = d := by omega
    have h2 : ((p.toNat : Nat) : Int) = p := by omega
    have hr := q.x.read hst hc.1 d.toNat p.toNat (by omega) (by omega)
    rw [h1, h2] at hr
    refine hr.mono fun e W' he => ?_
    obtain ⟨b, he, hb, hrow, hbel⟩ := he
    have hsec := Pl.rd_sec q.x.2.1 d.toNat p.toNat
    exact Or.inl ⟨b, _, _, he, by have := s1.2.1; omega, by have := s2.2.1; omega, by rw [bcells_length]; exact hsec.1, c, T, tx, ty, tz, tw, q.below hbel, ⟨s1.below bo hbel, r1.later hbel r1.lt⟩, ⟨s2.below bq hbel, r2.later hbel r2.lt⟩, q.fresh b hb hrow.lt, hrow⟩
  · refine (q.x.readN hst d p hc).mono fun e W' he => ?_
    obtain ⟨he, n, rfl⟩ := he
    have hbel : Below W.heap.size W (W.drewN n) := below_drewN' _ _
    exact Or.inr ⟨_, he, c, T, tx, ty, tz, tw, q.below hbel, ⟨s1.below bo hbel, r1.later hbel r1.lt⟩, s2.below bq hbel, r2.later hbel r2.lt⟩
end
end Go.Proofs.Ytdddfjkecmnggaa

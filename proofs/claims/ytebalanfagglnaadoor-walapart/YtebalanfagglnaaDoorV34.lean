/- Layer 8: the statements' desk: a journal, and what it must tell. Layer 8: what transactions cost; lists that are not the same. -/
import Derived.Test.YtebalanfagglnaaDoorV33
namespace Go.Proofs.YtebalanfagglnaaDoor
open Go.RowKit Go.Maps
variable {T : Nat → Prop}

/-- R holds of every world that has the blocks of P as this one has them -/
def Rob (P : Nat → Prop) (R : World → Prop) (w : World) : Prop := ∀ w', w.heap.size ≤ w'.heap.size → (∀ b, b < w.heap.size → P b → w'.heap[b]? = w.heap[b]?) → R w'
theorem Rob.now {P : Nat → Prop} {R : World → Prop} {w : World} (h : Rob P R w) : R w := h w (Nat.le_refl _) fun _ _ _ => rfl
theorem Rob.kept {P : Nat → Prop} {R : World → Prop} {w w1 : World} (h : Rob P R w) (hz : w.heap.size ≤ w1.heap.size) (hk : ∀ b, b < w.heap.size → P b → w1.heap[b]? = w.heap[b]?) : Rob P R w1 := fun w' h1 h2 => h w' (Nat.le_trans hz h1) fun b hb hp => (h2 b (Nat.lt_of_lt_of_le hb hz) hp).trans (hk b hb hp)
theorem Rob.next {P P' : Nat → Prop} {R : World → Prop} {w w1 : World} (h : Rob P R w) (hz : w.heap.size ≤ w1.heap.size) (hk : ∀ b, b < w.heap.size → P b → w1.heap[b]? = w.heap[b]? ∧ P' b) : Rob P' R w1 := fun w' h1 h2 => h w' (Nat.le_trans hz h1) fun b hb hp => (h2 b (Nat.lt_of_lt_of_le hb hz) (hk b hb hp).2).trans (hk b hb hp).1
theorem Rob.below {P : Nat → Prop} {R : World → Prop} {w w1 : World} (h : Rob P R w) (hb : Below w.heap.size w w1) : Rob P R w1 := h.kept hb.size fun b hlt _ => hb.block b hlt
theorem Rob.mono {P : Nat → Prop} {R R' : World → Prop} {w : World} (h : Rob P R w) (hr : ∀ W, R W → R' W) : Rob P R' w := fun w' h1 h2 => hr w' (h w' h1 h2)
/-- numbers handed in, in a block of P -/
def KeepX (w : World) (P : Nat → Prop) (v : Value) (ks : List Int) : Prop :=
  ∃ p cap, v = .slice p ks.length cap ∧ ks.length ≤ cap ∧ ks.length < 4611686018427387904 ∧ (ks = [] ∨ ∃ b off, p = some ⟨b, off, none⟩ ∧ P b ∧ b < w.heap.size ∧ ∀ j, j < ks.length → w.cell? ⟨b, off + j, none⟩ = some (.int .i64 (ks.getD j 0)))
theorem KeepX.keep {w : World} {P : Nat → Prop} {c : Nat → Colour} {t : Nat} {v : Value} {ks : List Int} (h : KeepX w P v ks) (hp : ∀ b, b < w.heap.size → P b → (c b).1 ≠ t) : KeepIn w c t v ks := by
  obtain ⟨p, cap, h1, h2, h3, h⟩ := h
  refine ⟨p, cap, h1, h2, h3, ?_⟩
  rcases h with h | ⟨b, off, h4, h5, h6, h7⟩
  · exact Or.inl h
  · exact Or.inr ⟨b, off, h4, hp b h6 h5, h6, h7⟩
theorem KeepX.next {w w1 : World} {P P' : Nat → Prop} {v : Value} {ks : List Int} (h : KeepX w P v ks) (hz : w.heap.size ≤ w1.heap.size) (hk : ∀ b, b < w.heap.size → P b → w1.heap[b]? = w.heap[b]? ∧ P' b) : KeepX w1 P' v ks := by
  obtain ⟨p, cap, h1, h2, h3, h⟩ := h
  refine ⟨p, cap, h1, h2, h3, ?_⟩
  rcases h with h | ⟨b, off, h4, h5, h6, h7⟩
  · exact Or.inl h
  · exact Or.inr ⟨b, off, h4, (hk b h6 h5).2, Nat.lt_of_lt_of_le h6 hz, fun j hj => by rw [← h7 j hj]; exact World.cell?_of_block (hk b h6 h5).1⟩
theorem KeepX.below {w w1 : World} {P : Nat → Prop} {v : Value} {ks : List Int} (h : KeepX w P v ks) (hb : Below w.heap.size w w1) : KeepX w1 P v ks := h.next hb.size fun b hlt hp => ⟨hb.block b hlt, hp⟩
theorem KeepX.isSl {w : World} {P : Nat → Prop} {v : Value} {ks : List Int} (h : KeepX w P v ks) : ∃ p n c, v = .slice p n c := by obtain ⟨p, cap, h, _⟩ := h; exact ⟨p, _, cap, h⟩

theorem f40_0 : FieldAt 38 0 0 := fun w g off => by kernel_rfl
theorem f40_1 : FieldAt 38 1 1 := fun w g off => by kernel_rfl
theorem f40_2 : FieldAt 38 2 2 := fun w g off => by kernel_rfl
theorem f40_3 : FieldAt 38 3 3 := fun w g off => by kernel_rfl
theorem f40_4 : FieldAt 38 4 4 := fun w g off => by kernel_rfl
theorem f40_5 : FieldAt 38 5 5 := fun w g off => by kernel_rfl
theorem f40_6 : FieldAt 38 6 6 := fun w g off => by kernel_rfl
theorem f33_0 : FieldAt 31 0 0 := fun w g off => by kernel_rfl
theorem f33_1 : FieldAt 31 1 1 := fun w g off => by kernel_rfl
theorem f33_2 : FieldAt 31 2 2 := fun w g off => by kernel_rfl
theorem f33_3 : FieldAt 31 3 3 := fun w g off => by kernel_rfl
theorem o37 : OneT 35 := fun w g o v h => by simp [loadVar, isAgg, run_underlying Tryd.underlying35, h]
theorem o38 : OneT 36 := fun w g o v h => by simp [loadVar, isAgg, run_underlying Tryd.underlying36, h]
theorem o31 : OneT 29 := fun w g o v h => by simp [loadVar, isAgg, run_underlying Tryd.underlying29, h]
theorem sl41 : Tryd.prog.underlying 39 = some (.slice (Tryd.prog.elem 39)) := by kernel_rfl
theorem s37 : (Tryd.prog.info? 35).map (·.size) = some 1 := by kernel_rfl
theorem s38 : (Tryd.prog.info? 36).map (·.size) = some 1 := by kernel_rfl
theorem s3 : (Tryd.prog.info? 3).map (·.size) = some 1 := by kernel_rfl
theorem idx41 (b off n cap k : Nat) (h : k < n) (w' : World) : (Instr.indexAt 39 (.slice (some ⟨b, off, none⟩) n cap) (.int .i64 (k : Nat))).run Tryd.prog w' = .ok (.pointer (some ⟨b, off + k, none⟩)) w' := by
  obtain ⟨i5, hi5, hsz⟩ := Option.map_eq_some_iff.1 s38
  simp [Instr.indexAt, asIntOf, run_underlying Tryd.underlying39, h, sizeOf, typeInfo, hi5, hsz, add_none]
theorem eN10 : EntersF 8 := Go.Proofs.enters_of Tryd.func8 (by kernel_rfl) rfl
theorem eN11 : EntersF 6 := Go.Proofs.enters_of Tryd.func6 (by kernel_rfl) rfl
theorem eN14 : EntersF 17 := Go.Proofs.enters_of Tryd.func17 (by kernel_rfl) rfl
theorem eN15 : EntersF 15 := Go.Proofs.enters_of Tryd.func15 (by kernel_rfl) rfl
theorem eN16 : EntersF 10 := Go.Proofs.enters_of Tryd.func10 (by kernel_rfl) rfl
theorem eN19 : EntersF 11 := Go.Proofs.enters_of Tryd.func11 (by kernel_rfl) rfl
theorem eN20 : EntersF 12 := Go.Proofs.enters_of Tryd.func12 (by kernel_rfl) rfl
theorem eN21 : EntersF 14 := Go.Proofs.enters_of Tryd.func14 (by kernel_rfl) rfl
theorem eN22 : EntersF 16 := Go.Proofs.enters_of Tryd.func16 (by kernel_rfl) rfl
theorem eN24 : EntersF 41 := Go.Proofs.enters_of Tryd.func41 (by kernel_rfl) rfl
theorem eN25 : EntersF 13 := Go.Proofs.enters_of Tryd.func13 (by kernel_rfl) rfl
theorem eN26 : EntersF 21 := Go.Proofs.enters_of Tryd.func21 (by kernel_rfl) rfl
theorem eN28 : EntersF 19 := Go.Proofs.enters_of Tryd.func19 (by kernel_rfl) rfl
theorem eN29 : EntersF 20 := Go.Proofs.enters_of Tryd.func20 (by kernel_rfl) rfl
theorem eN34 : EntersF 23 := Go.Proofs.enters_of Tryd.func23 (by kernel_rfl) rfl
theorem eN54 : EntersF 42 := Go.Proofs.enters_of Tryd.func42 (by kernel_rfl) rfl

/-- what transactions cost -/
def costs (D : List (List (List Nat))) : Nat := (D.map costOf).sum
theorem costs_snoc (D : List (List (List Nat))) (L : List (List Nat)) : costs (D ++ [L]) = costs D + costOf L := by unfold costs; simp
theorem secs_cost (L : List (List Nat)) : secsOf (txSize L) ≤ costOf L := by unfold secsOf costOf; omega
theorem log_cost (rows : List (Nat × List (List Nat))) : logLen rows ≤ costs (rows.map (·.2)) := by
  unfold logLen costs
  induction rows with
  | nil => exact Nat.le_refl _
  | cons x rows ih =>
    simp only [List.map_cons, List.sum_cons]
    have := secs_cost x.2
    omega
/-- a journal that is open: its session, its end, what it tells -/
def Jo (m : Pl) (i n S E : Nat) (D : List (List (List Nat))) : Prop := ∃ F rows, Jd m i n S S F rows ∧ rows.map (·.2) = D ∧ logLen rows = E
/-- a journal at rest -/
def Jc (m : Pl) (i n : Nat) (D : List (List (List Nat))) : Prop := ∃ S B F rows, Jd m i n S B F rows ∧ rows.map (·.2) = D
theorem Jo.jc {m : Pl} {i n S E : Nat} {D : List (List (List Nat))} (h : Jo m i n S E D) : Jc m i n D := by
  obtain ⟨F, rows, h1, h2, _⟩ := h
  exact ⟨S, S, F, rows, h1, h2⟩
theorem Jc.lv {m : Pl} {i n : Nat} {D : List (List (List Nat))} (h : Jc m i n D) : Lv m i ∧ m.wt i = [] ∧ m.size i = n ∧ 8 ≤ n := by
  obtain ⟨S, B, F, rows, h1, _⟩ := h
  exact ⟨h1.lv, h1.wt, h1.size, h1.big⟩
theorem Jc.boot {m : Pl} {i n : Nat} {D : List (List (List Nat))} (h : Jc m i n D) (ks : List Int) : Jc (m.boot ks) i n D := by
  obtain ⟨S, B, F, rows, h1, h2⟩ := h
  exact ⟨S, B, F, rows, h1.boot ks, h2⟩
theorem LogAt.each {X : Nat → List Nat} {S F : Nat} : ∀ (rows : List (Nat × List (List Nat))) (a : Nat), LogAt X S F a rows → ∀ L ∈ rows.map (·.2), longTx L = false := by
  intro rows
  induction rows with
  | nil => intro a _ L hL; cases hL
  | cons x rows ih =>
    intro a h L hL
    obtain ⟨_, _, _, h4, h5⟩ := h
    rw [List.map_cons] at hL
    rcases List.mem_cons.1 hL with e | e
    · rw [e]; exact h4
    · exact ih _ h5 L e
theorem Jc.small {m : Pl} {i n : Nat} {D : List (List (List Nat))} (h : Jc m i n D) : D.length ≤ 4096 ∧ ∀ L ∈ D, longTx L = false := by
  obtain ⟨S, B, F, rows, h1, rfl⟩ := h
  have hn : n ≤ 4096 := by rw [← h1.size]; exact (h1.lv.wf.sizes i h1.lv.lt).2
  have := logLen_ge rows
  have := h1.fits
  rw [List.length_map]
  exact ⟨by omega, LogAt.each rows 0 h1.log⟩
theorem Jo.le {m : Pl} {i n S E : Nat} {D : List (List (List Nat))} (h : Jo m i n S E D) : E ≤ n - 1 ∧ E ≤ costs D ∧ n ≤ 4096 := by
  obtain ⟨F, rows, h1, rfl, rfl⟩ := h
  exact ⟨h1.fits, log_cost rows, by rw [← h1.size]; exact (h1.lv.wf.sizes i h1.lv.lt).2⟩

/-- the desk's own cells -/
def dkCells (g i : Nat) (wv nv : Value) (cost n dims : Nat) : List Value := [ptr g, .int .i64 (i : Nat), wv, nv, .int .i64 (cost : Nat), .int .i64 (n : Nat), .int .i64 (dims : Nat)]
/-- the desk, its plant, whatever its journal -/
structure Dk (T : Nat → Prop) (w : World) (c : Nat → Colour) (t gd g : Nat) (m : Pl) (ds ts : List Nat) (i n : Nat) (wv nv : Value) (cost dims : Nat) : Prop where
  live : Live w c t g m
  row : Row w gd 38 (dkCells g i wv nv cost n dims)
  ap : (c gd).1 ≠ t
  tab : Fr.TabIn w
  tap : (c 0).1 ≠ t
  shape : ShapeOf m ds ts
  lt : i < ds.length
  size : ds.getD i 0 = n
  dim : dims ≤ 1000000000
  str : ∀ b, T b → b < w.heap.size
theorem Dk.ne0 {w : World} {c : Nat → Colour} {t gd g : Nat} {m : Pl} {ds ts : List Nat} {i n : Nat} {wv nv : Value} {cost dims : Nat} (h : Dk T w c t gd g m ds ts i n wv nv cost dims) : gd ≠ 0 := by
  rintro rfl
  have h1 := h.tab 0#32
  have h2 := h.row.at 0 _ rfl
  rw [show Fr.Crc.low 0#32 = 0 by rfl, h2] at h1
  cases h1
/-- behind a call of the plant's or the journal's -/
theorem Dk.nx {w w1 : World} {c c1 : Nat → Colour} {t gd g : Nat} {m m1 : Pl} {ds ts : List Nat} {i n : Nat} {wv nv : Value} {cost dims : Nat} (h : Dk T w c t gd g m ds ts i n wv nv cost dims) (hcc : ∀ b, b < w.heap.size → c1 b = c b) (hl : Live w1 c1 t g m1) (hch : Ch (fun b => (c b).1 = t) w w1) (hsh : m1.sh = m.sh) : Dk T w1 c1 t gd g m1 ds ts i n wv nv cost dims :=
  ⟨hl, hch.row h.ap h.row, by rw [hcc gd h.row.lt]; exact h.ap, TabIn.ch h.tab hch h.tap, by rw [hcc 0 (tab_lt h.tab)]; exact h.tap, by unfold ShapeOf; rw [hsh]; exact h.shape, h.lt, h.size, h.dim, fun b hb => Nat.lt_of_lt_of_le (h.str b hb) hch.size⟩
theorem Dk.wx {w w1 : World} {c c1 : Nat → Colour} {t gd g gw : Nat} {m m1 : Pl} {ds ts : List Nat} {i n : Nat} {wv nv : Value} {cost dims : Nat} (h : Dk T w c t gd g m ds ts i n wv nv cost dims) (hcc : ∀ b, b < w.heap.size → c1 b = c b) (hl : Live w1 c1 t g m1) (hch : Ch (fun b => (c b).1 = t ∨ b = gw) w w1) (hsh : m1.sh = m.sh) (hne : gd ≠ gw) (h0 : gw ≠ 0) : Dk T w1 c1 t gd g m1 ds ts i n wv nv cost dims :=
  ⟨hl, hch.row (fun e => e.elim h.ap hne) h.row, by rw [hcc gd h.row.lt]; exact h.ap, TabIn.ch h.tab hch (fun e => e.elim h.tap (fun e => h0 e.symm)), by rw [hcc 0 (tab_lt h.tab)]; exact h.tap, by unfold ShapeOf; rw [hsh]; exact h.shape, h.lt, h.size, h.dim, fun b hb => Nat.lt_of_lt_of_le (h.str b hb) hch.size⟩
theorem Dk.below {w w1 : World} {c : Nat → Colour} {t gd g : Nat} {m : Pl} {ds ts : List Nat} {i n : Nat} {wv nv : Value} {cost dims : Nat} (h : Dk T w c t gd g m ds ts i n wv nv cost dims) (hb : Below w.heap.size w w1) : Dk T w1 c t gd g m ds ts i n wv nv cost dims :=
  h.nx (fun _ _ => rfl) (h.live.below hb) (Ch.of_below hb) rfl
/-- one of its cells is written -/
theorem Dk.set {w : World} {c : Nat → Colour} {t gd g : Nat} {m : Pl} {ds ts : List Nat} {i n : Nat} {wv nv : Value} {cost dims : Nat} (h : Dk T w c t gd g m ds ts i n wv nv cost dims) (k : Nat) (v : Value) {wv' nv' : Value} {cost' dims' : Nat} (e : (dkCells g i wv nv cost n dims).set k v = dkCells g i wv' nv' cost' n dims') (hd : dims' ≤ 1000000000) :
    Dk T (w.setCell ⟨gd, k, none⟩ v) c t gd g m ds ts i n wv' nv' cost' dims' ∧ Ch (· = gd) w (w.setCell ⟨gd, k, none⟩ v) := by
  have hch : Ch (· = gd) w (w.setCell ⟨gd, k, none⟩ v) := (Ch.refl (· = gd) w).setCell (Or.inl rfl) k _
  have hsz : (w.setCell ⟨gd, k, none⟩ v).heap.size = w.heap.size := World.size_setCell _ _ _
  refine ⟨⟨⟨h.live.1.kept (by rw [hsz]; exact Nat.le_refl _) fun b hb hbt => ⟨hch.block b hb (fun e => h.ap (by rw [← e]; exact hbt)), rfl⟩, h.live.2.1, fun b hb => h.live.2.2 b (by rw [hsz] at hb; exact hb)⟩, ?_, h.ap, TabIn.ch h.tab hch (fun e => h.ne0 e.symm), h.tap, h.shape, h.lt, h.size, hd, fun b hb => by rw [hsz]; exact h.str b hb⟩, hch⟩
  have h6 := row_cell' (i := k) h.row v
  rw [e] at h6
  exact h6
theorem Dk.diskOn {w : World} {c : Nat → Colour} {t gd g : Nat} {m : Pl} {ds ts : List Nat} {i n : Nat} {wv nv : Value} {cost dims : Nat} (h : Dk T w c t gd g m ds ts i n wv nv cost dims) (h8 : 8 ≤ n) (hon : m.on = true) (hst : m.steps + 20000 < 1099511627775) : DiskOn m ds ts i := ⟨h.shape, h.lt, by rw [h.size]; exact h8, hon, hst⟩
/-- blocks that are neither the plant's nor the desk's -/
def Fr2 (T : Nat → Prop) (c : Nat → Colour) (t gd : Nat) (b : Nat) : Prop := (c b).1 ≠ t ∧ b ≠ gd ∧ ¬ T b
/-- .. nor the journal's -/
def Fr3 (T : Nat → Prop) (c : Nat → Colour) (t gd gw : Nat) (b : Nat) : Prop := (c b).1 ≠ t ∧ b ≠ gd ∧ b ≠ gw ∧ ¬ T b
/-- a slice of transactions, their headers told -/
def TxsC (W : World) (v : Value) (D : List (List (List Nat))) (us : List Value) : Prop :=
  ∃ p cap, v = .slice p D.length cap ∧ D.length ≤ 1000000 ∧ us.length = D.length ∧ (D = [] ∨ ∃ b off, p = some ⟨b, off, none⟩ ∧ ∀ i, i < D.length → W.cell? ⟨b, off + i, none⟩ = some (us.getD i undef)) ∧ ∀ i, i < D.length → RowsIn W (us.getD i undef) (D.getD i [])
theorem TxsC.ins {W : World} {v : Value} {D : List (List (List Nat))} {us : List Value} (h : TxsC W v D us) : TxsIn W v D := by
  obtain ⟨p, cap, h1, h2, _, h3, h4⟩ := h
  refine ⟨p, cap, h1, h2, ?_⟩
  rcases h3 with h3 | ⟨b, off, h5, h6⟩
  · exact Or.inl h3
  · exact Or.inr ⟨b, off, h5, fun i hi => ⟨_, h6 i hi, h4 i hi⟩⟩
theorem TxsC.nil (W : World) : TxsC W (.slice none 0 0) [] [] := ⟨none, 0, rfl, by decide, rfl, Or.inl rfl, fun _ h => absurd h (Nat.not_lt_zero _)⟩
theorem TxsC.none (W : World) (p : Option Addr) (cap : Nat) : TxsC W (.slice p 0 cap) [] [] := ⟨p, cap, rfl, by decide, rfl, Or.inl rfl, fun _ h => absurd h (Nat.not_lt_zero _)⟩
theorem TxsTo.con {W : World} {base : Nat} {tv : Value} {D : List (List (List Nat))} (h : TxsTo W base tv D) (hl : D.length ≤ 1000000) (hr : ∀ tx ∈ D, tx.length ≤ 1000000) : ∃ us, ∀ W', W.heap.size ≤ W'.heap.size → (∀ b, base ≤ b → b < W.heap.size → W'.heap[b]? = W.heap[b]?) → TxsC W' tv D us := by
  obtain ⟨us, ho, hs⟩ := h
  have hul : us.length = D.length := by have := ho.1; omega
  refine ⟨us, fun W' hz hk => ?_⟩
  have ho' : W'.ownsRow base 28 1 tv D.length us := ownK ho fun b hb => hk b (World.ownsRow.lt ho b hb).1 (World.ownsRow.lt ho b hb).2
  have hrow : ∀ i, i < D.length → RowsIn W' (us.getD i undef) (D.getD i []) := fun i hi => by
    obtain ⟨us2, k1, k2, k3⟩ := hs i hi
    have hm : D.getD i [] ∈ D := by rw [List.getD_eq_getElem?_getD, List.getElem?_eq_getElem hi]; exact List.getElem_mem _
    have h2 : TxTo W' base tv (us.getD i undef) (D.getD i []) := ⟨us2, ownK k1 fun b hb => hk b (World.ownsRow.lt k1 b hb).1 (World.ownsRow.lt k1 b hb).2, k2, fun j hj => ⟨sliceK (k3 j hj).1 fun b hb hlt => hk b ((k3 j hj).2 b hb).2.2.2 hlt, fun b hb => ⟨((k3 j hj).2 b hb).1, ((k3 j hj).2 b hb).2.1, Nat.lt_of_lt_of_le ((k3 j hj).2 b hb).2.2.1 hz, ((k3 j hj).2 b hb).2.2.2⟩⟩⟩
    exact h2.rows.rows (by have := hr _ hm; omega)
  rcases ho'.2 with ⟨e, h0⟩ | ⟨g, cap, cur, e, _, hg, hcap, _, _, htake⟩
  · obtain rfl : D = [] := List.length_eq_zero_iff.1 h0
    exact ⟨none, 0, e, by decide, hul, Or.inl rfl, hrow⟩
  · refine ⟨_, cap, e, hl, hul, Or.inr ⟨g, 0, rfl, fun i hi => ?_⟩, hrow⟩
    have h2 := ho'.cells (g := g) (by rw [e]; rfl) i (us.getD i undef) (by rw [List.getD_eq_getElem?_getD, List.getElem?_eq_getElem (by omega)]; rfl)
    rw [add_none] at h2
    exact h2
/-- rows of transactions that may be told -/
def MayIn (W : World) (v : Value) (l : List (Value × List (List (List Nat)) × List Value)) : Prop :=
  ∃ b off cap, v = .slice (some ⟨b, off, none⟩) l.length cap ∧ l.length ≤ 1000 ∧ ∀ j x, l[j]? = some x → W.cell? ⟨b, off + j, none⟩ = some x.1 ∧ TxsC W x.1 x.2.1 x.2.2
/-- the first of them that is as long as D is D -/
def Among (D : List (List (List Nat))) : List (List (List (List Nat))) → Prop
  | [] => False
  | x :: r => x = D ∨ (x.length ≠ D.length ∧ Among D r)
theorem Among.at {D : List (List (List Nat))} : ∀ {l : List (List (List (List Nat)))}, Among D l → ∃ j : Nat, l[j]? = some D ∧ ∀ k : Nat, k < j → ∃ x : List (List (List Nat)), l[k]? = some x ∧ x.length ≠ D.length := by
  intro l
  induction l with
  | nil => intro h; exact h.elim
  | cons x r ih =>
    intro h
    rcases h with h | ⟨h1, h2⟩
    · exact ⟨0, by rw [h]; simp, fun k hk => absurd hk (Nat.not_lt_zero _)⟩
    · obtain ⟨j, h3, h4⟩ := ih h2
      refine ⟨j + 1, h3, fun k hk => ?_⟩
      match k with
      | 0 => exact ⟨x, rfl, h1⟩
      | k + 1 => exact h4 k (by omega)
end Go.Proofs.YtebalanfagglnaaDoor

namespace Go.Proofs.YtebalanfagglnaaDoor
open Go.RowKit Go.Maps

theorem TxsIn.at {w : World} {p : Option Addr} {n cap : Nat} {D : List (List (List Nat))} (h : TxsIn w (.slice p n cap) D) (k : Nat) (hk : k < D.length) : ∃ b off u, p = some ⟨b, off, none⟩ ∧ w.cell? ⟨b, off + k, none⟩ = some u ∧ RowsIn w u (D.getD k []) := by
  obtain ⟨p', cap', e, _, h⟩ := h
  injection e with e1 e2 e3
  subst e1
  rcases h with rfl | ⟨b, off, rfl, h⟩
  · exact absurd hk (Nat.not_lt_zero _)
  · obtain ⟨u, h1, h2⟩ := h k hk
    exact ⟨b, off, u, rfl, h1, h2⟩
theorem costs_step (D : List (List (List Nat))) (k : Nat) (hk : k < D.length) : costs (D.take (k + 1)) = costs (D.take k) + costOf (D.getD k []) := by
  have e : D.take (k + 1) = D.take k ++ [D[k]] := by rw [List.take_succ_eq_append_getElem hk]
  rw [e, costs_snoc, List.getD_eq_getElem?_getD, List.getElem?_eq_getElem hk]
  rfl
theorem costs_le (D : List (List (List Nat))) (k : Nat) : costs (D.take k) ≤ costs D := by
  have e : costs D = costs (D.take k) + costs (D.drop k) := by
    unfold costs
    rw [← List.sum_append, ← List.map_append, List.take_append_drop]
  omega
theorem costs_small (D : List (List (List Nat))) (h : ∀ L ∈ D, longTx L = false) : costs D ≤ 34 * D.length := by
  unfold costs
  induction D with
  | nil => simp
  | cons x D ih =>
    rw [List.map_cons, List.sum_cons, List.length_cons]
    have := ih fun L hL => h L (by simp [hL])
    have h2 := (notLong (h x (by simp))).2.2.1
    have : costOf x ≤ 34 := by unfold costOf; omega
    omega
set_option maxHeartbeats 1000000 in
set_option maxRecDepth 100000 in
theorem sum_any (w : World) (v : Value) (D : List (List (List Nat))) (h : TxsIn w v D) (hs : ∀ L ∈ D, longTx L = false) (hd : D.length ≤ 4096) : Calls Tryd.prog 23 #[v] w fun e w' => e = .returned (.int .i64 (costs D : Nat)) ∧ w = w' := by
  have hcs := costs_small D hs
  have hh := h
  obtain ⟨p, cap, rfl, hl, _⟩ := h
  have HR : Hid (TxsIn w (.slice p D.length cap) D) := hh
  obtain ⟨n, hn⟩ : ∃ n, n = D.length := ⟨_, rfl⟩
  have HN : Hid (n = D.length) := hn
  have HS : Hid (∀ L ∈ D, longTx L = false) := hs
  have hcd : costs D ≤ 1000000 := by omega
  rw [← hn] at hl ⊢
  clear hh hn hs hcs hd
  go_enter Tryd.func23, Tryd.ntmps23
  go_upto_region 2 with fail
  go_wp2_with fail
  go_loopw [3, 4] (fun s i W => ∃ k : Nat, k ≤ n ∧ i = .int .i64 k ∧ s = .int .i64 ((costs (D.take k) : Nat) : Int) ∧ W = w) (fun _ i _ => n - (intOf i).toNat)
  case atStart => exact ⟨0, Nat.zero_le _, rfl, by simp [costs], rfl⟩
  case round =>
    obtain ⟨k, hk, rfl, rfl, rfl⟩ := hrel
    by_cases hlt : k < n
    · have t1 : decide ((k : Int) < (n : Int)) = true := decide_eq_true (by omega)
      obtain ⟨b, off, u, rfl, hc, hu⟩ := HR.out.at k (by rw [← HN.out]; exact hlt)
      have hm : D.getD k [] ∈ D := by rw [List.getD_eq_getElem?_getD, List.getElem?_eq_getElem (by rw [← HN.out]; exact hlt)]; exact List.getElem_mem _
      have HCO : Hid (Calls Tryd.prog 42 #[u] wr fun e w' => e = .returned (.int .i64 (costOf (D.getD k []) : Nat)) ∧ wr = w') := cost_any wr u _ hu (by have := (notLong (HS.out _ hm)).2.1; omega)
      have kc := hc
      have hb1 := costs_step D k (by rw [← HN.out]; exact hlt)
      have hb2 := costs_le D (k + 1)
      have HB : Hid (costs (D.take (k + 1)) = costs (D.take k) + costOf (D.getD k [])) := hb1
      obtain ⟨B, hB⟩ : ∃ B, B = costs (D.take k) := ⟨_, rfl⟩
      obtain ⟨ln, hln⟩ : ∃ ln, ln = costOf (D.getD k []) := ⟨_, rfl⟩
      have HBL : Hid (B = costs (D.take k) ∧ ln = costOf (D.getD k [])) := ⟨hB, hln⟩
      rw [hb1, ← hB, ← hln] at hb2
      rw [← hB]
      rw [← hln] at HCO
      clear hc hu hb1 hB hln hm
      go_wp2_with (first
        | (refine wl_sl sl38 (.tmp 6) rfl rfl _ n cap rfl ?_)
        | (refine wl_ix (.tmp 12) (.tmp 13) rfl rfl _ _ _ rfl rfl (idx38 b off n cap k hlt) ?_)
        | (go_at_call 42; refine HCO.out.mono ?_; rintro e w' ⟨rfl, rfl⟩))
      refine ⟨⟨k + 1, by omega, by go_num, ?_, trivial⟩, ?_⟩
      · rw [HB.out, ← HBL.out.1, ← HBL.out.2]
        go_num
      · simp [intOf]; omega
    · obtain rfl : n = k := by omega
      have t1 : decide ((n : Int) < (n : Int)) = false := decide_eq_false (by omega)
      have HT : Hid (D.take n = D) := by show _ = _; rw [HN.out]; exact List.take_length
      go_wp2_with (refine wl_sl sl38 (.tmp 6) rfl rfl _ n cap rfl ?_)
      go_ret
      refine ⟨?_, rfl⟩
      rw [HT.out]
      rfl
set_option maxHeartbeats 1000000 in
set_option maxRecDepth 100000 in
theorem sameNo_any {w : World} {va vb : Value} {D D' : List (List (List Nat))} (ha : TxsIn w va D) (hb : TxsIn w vb D') (hne : D'.length ≠ D.length) : Calls Tryd.prog 16 #[va, vb] w fun e w' => e = .returned (.bool false) ∧ Below w.heap.size w w' := by
  obtain ⟨pa, ca, rfl, hn, _⟩ := ha
  obtain ⟨pb, cb, rfl, hn', _⟩ := hb
  obtain ⟨n, hnn⟩ : ∃ n, n = D.length := ⟨_, rfl⟩
  obtain ⟨n', hnn'⟩ : ∃ n', n' = D'.length := ⟨_, rfl⟩
  rw [← hnn] at hn hne ⊢
  rw [← hnn'] at hn' hne ⊢
  have t1 : ((n : Int) == (n' : Int)) = false := by simp; omega
  have t2 : ((n : Int) != (n' : Int)) = true := by simp; omega
  have t3 : decide ((n : Int) = (n' : Int)) = false := decide_eq_false (by omega)
  have HB : Hid (Below w.heap.size w w) := Below.refl _ _
  clear hnn hnn'
  go_enter Tryd.func16, Tryd.ntmps16
  go_wp2_with (first | (refine wl_sl sl38 (.tmp 7) rfl rfl pa n ca rfl ?_) | (refine wl_sl sl38 (.tmp 9) rfl rfl pb n' cb rfl ?_))
  go_ret
  exact ⟨rfl, HB.out⟩
end Go.Proofs.YtebalanfagglnaaDoor

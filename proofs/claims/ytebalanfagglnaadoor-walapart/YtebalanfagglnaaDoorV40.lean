/- Layer 8: what WalAnew keeps. Layer 8: scripts that come in. Layer 8: two journals on one plant. -/
import Derived.Test.YtebalanfagglnaaDoorV39
namespace Go.Proofs.YtebalanfagglnaaDoor
open Go.RowKit Go.Maps

section
variable {w : World} {a : Act} {o : Oper}
theorem run_eqZ {t : Nat} (x y : Operand) (ho : o.op = .binOp .eql t x y t) (z z' : Int) (hx : a.eval x = .int .i64 z) (hy : a.eval y = .int .i64 z') (b : Bool) (hb : decide (z = z') = b) : (execOp a.eval o).run Tryd.prog w = .ok (.value (.bool b)) w := by
  subst hb
  simp only [execOp, ho, hx, hy]
  by_cases h : z = z'
  · subst h; simp [go_sem]
  · simp [go_sem, h]
theorem run_lenZ {t : TypeId} (hu : Tryd.prog.underlying t = some (.slice (Tryd.prog.elem t))) (x : Operand) (ho : o.op = .call { callee := .builtin .len, args := #[x], argTypes := #[t] }) (p : Option Addr) (n cap : Nat) (hx : a.eval x = .slice p n cap) : (execOp a.eval o).run Tryd.prog w = .ok (.value (.int .i64 (n : Nat))) w := by
  have hr := run_len_slice (P := Tryd.prog) w t o.type p n cap hu
  simp only [execOp, ho, resolve, invoke, builtin, Sem.run_bind, Sem.run_pure, Result.andThen_ok, List.map_toArray, List.map_cons, List.map_nil, hx, hr]
  rfl
theorem run_lssZ (x y : Operand) (ho : o.op = .binOp .lss 3 x y 3) (z z' : Int) (hx : a.eval x = .int .i64 z) (hy : a.eval y = .int .i64 z') (b : Bool) (hb : decide (z < z') = b) : (execOp a.eval o).run Tryd.prog w = .ok (.value (.bool b)) w := by
  subst hb
  simp only [execOp, ho, hx, hy]
  simp [go_sem]
end
/-- transactions that the law keeps: their rows are the arguments' -/
structure Told (w W : World) (c : Nat → Colour) (gw : Nat) (v : Value) (D : List (List (List Nat))) (us : List Value) : Prop where
  own : W.ownsRow 0 28 1 v D.length us
  ap : ∀ b, v.ownBlock = some b → w.heap.size ≤ b ∧ b < W.heap.size ∧ (c b).1 ≠ 2 ∧ b ≠ gw
  rows : ∀ i, i < D.length → RowsIn w (us.getD i undef) (D.getD i [])
end Go.Proofs.YtebalanfagglnaaDoor

namespace Go.Proofs.YtebalanfagglnaaDoor
open Go.RowKit Go.Maps

/-- a call of a script -/
structure OpD where
  k : Int
  N : Int
  txv : Value
  kv : Value
  L : List (List Nat)
  ks : List Int
instance : Inhabited OpD := ⟨⟨0, 0, .slice none 0 0, .slice none 0 0, [], []⟩⟩
def OpD.cells (o : OpD) : List Value := opCells o.k o.N o.txv o.kv
structure OpIn (W : World) (o : OpD) : Prop where
  k : -9223372036854775808 ≤ o.k ∧ o.k ≤ 9223372036854775807
  n : -9223372036854775808 ≤ o.N ∧ o.N ≤ 9223372036854775807
  tx : RowsIn W o.txv o.L
  keep : IntsIn W o.kv o.ks
  size : txSize o.L ≤ 10000000
def OpsIn (W : World) (v : Value) (os : List OpD) : Prop :=
  ∃ p cap, v = .slice p os.length cap ∧ os.length ≤ cap ∧ os.length ≤ 1048576 ∧ (os = [] ∨ ∃ b off, p = some ⟨b, off, none⟩ ∧ ∀ i, i < os.length → ∀ j, j < 4 → W.cell? ⟨b, off + (i * 4 + j), none⟩ = (os.getD i default).cells[j]?) ∧ ∀ o ∈ os, OpIn W o
theorem RowsIn.heap {w W : World} {v : Value} {L : List (List Nat)} (h : RowsIn w v L) (hk : ∀ b, b < w.heap.size → W.heap[b]? = w.heap[b]?) : RowsIn W v L := by
  obtain ⟨p, cap, h1, h2, h3⟩ := h
  refine ⟨p, cap, h1, h2, ?_⟩
  rcases h3 with h3 | ⟨b, off, h4, h5⟩
  · exact Or.inl h3
  · refine Or.inr ⟨b, off, h4, fun i hi => ?_⟩
    obtain ⟨u, h6, h7⟩ := h5 i hi
    exact ⟨u, by rw [← h6]; exact World.cell?_of_block (hk b (block_lt_of_cell h6)), sliceK h7 fun b _ hlt => hk b hlt⟩
theorem IntsIn.keepX {w W : World} {v : Value} {ks : List Int} (h : IntsIn w v ks) {P : Nat → Prop} (hz : w.heap.size ≤ W.heap.size) (hk : ∀ b, b < w.heap.size → W.heap[b]? = w.heap[b]? ∧ P b) : KeepX W P v ks := by
  obtain ⟨p, cap, h1, h2, h3, h4⟩ := h
  refine ⟨p, cap, h1, h2, h3, ?_⟩
  rcases h4 with h4 | ⟨b, off, h5, h6⟩
  · exact Or.inl h4
  · by_cases h0 : ks = []
    · exact Or.inl h0
    · have hb := block_lt_of_cell (h6 0 (List.length_pos_iff.2 h0))
      exact Or.inr ⟨b, off, h5, (hk b hb).2, Nat.lt_of_lt_of_le hb hz, fun j hj => by rw [← h6 j hj]; exact World.cell?_of_block (hk b hb).1⟩
/-- a call of a script, at a later world of the law's -/
theorem OpIn.at {w W : World} {o : OpD} (h : OpIn w o) {P : Nat → Prop} (hb : Below w.heap.size w W) (hP : ∀ b, b < w.heap.size → P b) : OpR W P o.k o.N o.txv o.kv o.L o.ks :=
  ⟨h.k, h.n, fun _ _ hk => h.tx.heap fun b hlt => (hk b (Nat.lt_of_lt_of_le hlt hb.size) (hP b hlt)).trans (hb.block b hlt), h.keep.keepX hb.size fun b hlt => ⟨hb.block b hlt, hP b hlt⟩, h.size⟩
theorem s33 : (Tryd.prog.info? 31).map (·.size) = some 4 := by kernel_rfl
theorem sl22 : Tryd.prog.underlying 22 = some (.slice (Tryd.prog.elem 22)) := by kernel_rfl
theorem idx22 (b off n cap k : Nat) (h : k < n) (w' : World) : (Instr.indexAt 22 (.slice (some ⟨b, off, none⟩) n cap) (.int .i64 (k : Nat))).run Tryd.prog w' = .ok (.pointer (some ⟨b, off + k * 4, none⟩)) w' := by
  obtain ⟨i5, hi5, hsz⟩ := Option.map_eq_some_iff.1 s33
  simp [Instr.indexAt, asIntOf, run_underlying Tryd.underlying22, h, sizeOf, typeInfo, hi5, hsz, add_none]
theorem OpsIn.at {w : World} {p : Option Addr} {n cap : Nat} {os : List OpD} (h : OpsIn w (.slice p n cap) os) (i : Nat) (hi : i < n) : ∃ b off o, p = some ⟨b, off, none⟩ ∧ OpIn w o ∧ ∀ W, Below w.heap.size w W → ∀ (j : Nat) v, o.cells[j]? = some v → W.cell? ⟨b, off + i * 4 + j, none⟩ = some v := by
  obtain ⟨p', cap', h1, _, _, h3, h4⟩ := h
  injection h1 with h1 h5 h6
  subst h1
  subst h5
  rcases h3 with h3 | ⟨b, off, h7, h8⟩
  · rw [h3] at hi; exact absurd hi (Nat.not_lt_zero _)
  · have hm : os.getD i default ∈ os := by rw [List.getD_eq_getElem?_getD, List.getElem?_eq_getElem hi]; exact List.getElem_mem hi
    have ho := h4 _ hm
    refine ⟨b, off, os.getD i default, h7, ho, fun W hW j v hv => ?_⟩
    have hj : j < 4 := by
      have := (List.getElem?_eq_some_iff.1 hv).1
      simpa [OpD.cells, opCells] using this
    have h9 := h8 i hi j hj
    rw [hv, show off + (i * 4 + j) = off + i * 4 + j by omega] at h9
    rw [← h9]
    exact World.cell?_of_block (hW.block b (block_lt_of_cell h9))
theorem OpsIn.len {w : World} {p : Option Addr} {n cap : Nat} {os : List OpD} (h : OpsIn w (.slice p n cap) os) : n ≤ 1048576 := by
  obtain ⟨p', cap', h1, _, h2, _⟩ := h
  injection h1 with h1 h5 h6
  omega
end Go.Proofs.YtebalanfagglnaaDoor

namespace Go.Proofs.YtebalanfagglnaaDoor
open Go.RowKit Go.Maps

/-- the other desk's own blocks -/
def Tp (a b : Nat) (q : Nat) : Prop := q = a ∨ q = b
theorem Jo.other {m m' : Pl} {i j n S E : Nat} {D : List (List (List Nat))} (h : Jo m j n S E D) (hr : Rel m m' i) (hj : j ≠ i) (hl : Lv m' i) : Jo m' j n S E D := by
  obtain ⟨F, rows, h1, h2, h3⟩ := h
  have hs := hr.same j hj h1.wt
  exact ⟨F, rows, h1.same ⟨hl.wf, hl.on, by unfold Pl.n; rw [hr.sh]; exact h1.lv.lt, by unfold Pl.tape; rw [hr.sh]; exact h1.lv.disk⟩ hs.1 hr.sh hr.steps hs.2, h2, h3⟩
/-- a desk that stands by -/
theorem Desk.other {T T' : Nat → Prop} {W W' : World} {c c' : Nat → Colour} {t gd gw g : Nat} {m m' : Pl} {ds ts : List Nat} {i j n S E : Nat} {D : List (List (List Nat))} {nv : Value} {dims : Nat} (h : Desk T W c t gd gw g m ds ts j n S E D nv dims) (hcc : ∀ b, b < W.heap.size → c' b = c b) (hch : Ch (fun b => (c b).1 = t ∨ T b) W W') (hl : Live W' c' t g m') (hr : Rel m m' i) (hij : j ≠ i) (hlv : Lv m' i) (hgd : ¬ T gd) (hgw : ¬ T gw) (h0 : ¬ T 0) (hT : ∀ b, T' b → b < W'.heap.size) (hnew : ∀ b, b < W.heap.size → T' b → T b) : Desk T' W' c' t gd gw g m' ds ts j n S E D nv dims := by
  obtain ⟨us, hn⟩ := h.now
  have htab := TabIn.ch h.dk.tab hch (fun e => e.elim h.dk.tap h0)
  have htap : (c' 0).1 ≠ t := by rw [hcc 0 (tab_lt h.dk.tab)]; exact h.dk.tap
  refine ⟨⟨hl, hch.row (fun e => e.elim h.dk.ap hgd) h.dk.row, by rw [hcc gd h.dk.row.lt]; exact h.dk.ap, htab, htap, by unfold ShapeOf; rw [hr.sh]; exact h.dk.shape, h.dk.lt, h.dk.size, h.dk.dim, hT⟩, ⟨hch.row (fun e => e.elim h.wal.ap hgw) h.wal.row, by rw [hcc gw h.wal.row.lt]; exact h.wal.ap, htab, htap⟩, h.ne, h.jo.other hr hij hlv, us, ?_⟩
  exact hn.next hch.size fun b hb hp => ⟨hch.block b hb (fun e => e.elim hp.1 hp.2.2.2), by rw [hcc b hb]; exact hp.1, hp.2.1, hp.2.2.1, fun e => hp.2.2.2 (hnew b hb e)⟩
structure Pair (w W : World) (c : Nat → Colour) (gx gwx gy gwy g : Nat) (m : Pl) (Sx Ex : Nat) (Dx : List (List (List Nat))) (nvx : Value) (dx Sy Ey : Nat) (Dy : List (List (List Nat))) (nvy : Value) (dy K : Nat) : Prop where
  x : Desk (Tp gy gwy) W c 2 gx gwx g m [40, 40] [] 0 40 Sx Ex Dx nvx dx
  y : Desk (Tp gx gwx) W c 2 gy gwy g m [40, 40] [] 1 40 Sy Ey Dy nvy dy
  cc : ∀ b, b < w.heap.size → c b = (0, 0)
  below : Below w.heap.size w W
  nx : w.heap.size ≤ gx ∧ w.heap.size ≤ gwx ∧ w.heap.size ≤ gy ∧ w.heap.size ≤ gwy
  ne : gx ≠ gy ∧ gx ≠ gwy ∧ gwx ≠ gy ∧ gwx ≠ gwy
  le : m.steps ≤ 20000 * K
  dim : dx ≤ 10 * K ∧ dy ≤ 10 * K
def LawP (w W : World) (gx gy g K : Nat) : Prop := ∃ c gwx gwy m Sx Ex Dx nvx dx Sy Ey Dy nvy dy, Pair w W c gx gwx gy gwy g m Sx Ex Dx nvx dx Sy Ey Dy nvy dy K
section
variable {w W W' : World} {c c' : Nat → Colour} {gx gwx gy gwy g : Nat} {m m' : Pl} {Sx Ex : Nat} {Dx : List (List (List Nat))} {nvx : Value} {dx Sy Ey : Nat} {Dy : List (List (List Nat))} {nvy : Value} {dy K gw' S' E' : Nat} {D' : List (List (List Nat))} {nv' : Value} {d' : Nat}
theorem Pair.bel (h : Pair w W c gx gwx gy gwy g m Sx Ex Dx nvx dx Sy Ey Dy nvy dy K) (hb : Below W.heap.size W W') : Pair w W' c gx gwx gy gwy g m Sx Ex Dx nvx dx Sy Ey Dy nvy dy K := by
  obtain ⟨us, hn⟩ := h.x.now
  obtain ⟨vs, hm⟩ := h.y.now
  exact ⟨⟨h.x.dk.below hb, h.x.wal.below hb, h.x.ne, h.x.jo, us, hn.below hb⟩, ⟨h.y.dk.below hb, h.y.wal.below hb, h.y.ne, h.y.jo, vs, hm.below hb⟩, h.cc, h.below.trans (hb.mono h.below.size), h.nx, h.ne, h.le, h.dim⟩
theorem Pair.doneX (h : Pair w W c gx gwx gy gwy g m Sx Ex Dx nvx dx Sy Ey Dy nvy dy K) (hw : 0 < w.heap.size) (hd : Done (Tp gy gwy) W c 2 gx gwx g m [40, 40] [] 0 40 dx W' c' gw' m' S' E' D' nv' d') : LawP w W' gx gy g (K + 1) := by
  have hz := h.below.size
  have h1 := h.ne
  have h2 := h.nx
  have h3 := h.y.dk.row.lt
  have h4 := h.y.wal.row.lt
  have h5 := hd.desk.dk.row.lt
  have h6 := hd.desk.wal.row.lt
  have h7 := h.x.dk.row.lt
  have hy : Desk (Tp gx gw') W' c' 2 gy gwy g m' [40, 40] [] 1 40 Sy Ey Dy nvy dy := h.y.other hd.cc hd.ch hd.desk.dk.live hd.rel (by decide) hd.desk.jo.jc.lv.1 (by rintro (e | e) <;> omega) (by rintro (e | e) <;> omega) (by rintro (e | e) <;> omega) (by rintro b (rfl | rfl) <;> assumption) (by
    rintro b hb (rfl | rfl)
    · exact Or.inl rfl
    · rcases hd.new with e | e
      · exact Or.inr e
      · omega)
  refine ⟨c', gw', gwy, m', S', E', D', nv', d', Sy, Ey, Dy, nvy, dy, ⟨hd.desk, hy, fun b hb => by rw [hd.cc b (by omega)]; exact h.cc b hb, h.below.trans (hd.ch.below hz fun b hb e => ?_), ⟨h2.1, ?_, h2.2.2.1, h2.2.2.2⟩, ⟨h1.1, h1.2.1, ?_, ?_⟩, by have := hd.le; have := h.le; omega, by have := hd.dim; have := h.dim; omega⟩⟩
  · rcases e with e | e | e
    · rw [h.cc b hb] at e; exact absurd e (by decide)
    · omega
    · omega
  · rcases hd.new with e | e <;> omega
  · rcases hd.new with e | e <;> omega
  · rcases hd.new with e | e <;> omega
theorem Pair.doneY (h : Pair w W c gx gwx gy gwy g m Sx Ex Dx nvx dx Sy Ey Dy nvy dy K) (hw : 0 < w.heap.size) (hd : Done (Tp gx gwx) W c 2 gy gwy g m [40, 40] [] 1 40 dy W' c' gw' m' S' E' D' nv' d') : LawP w W' gx gy g (K + 1) := by
  have hz := h.below.size
  have h1 := h.ne
  have h2 := h.nx
  have h3 := h.x.dk.row.lt
  have h4 := h.x.wal.row.lt
  have h5 := hd.desk.dk.row.lt
  have h6 := hd.desk.wal.row.lt
  have h7 := h.y.dk.row.lt
  have hx : Desk (Tp gy gw') W' c' 2 gx gwx g m' [40, 40] [] 0 40 Sx Ex Dx nvx dx := h.x.other hd.cc hd.ch hd.desk.dk.live hd.rel (by decide) hd.desk.jo.jc.lv.1 (by rintro (e | e) <;> omega) (by rintro (e | e) <;> omega) (by rintro (e | e) <;> omega) (by rintro b (rfl | rfl) <;> assumption) (by
    rintro b hb (rfl | rfl)
    · exact Or.inl rfl
    · rcases hd.new with e | e
      · exact Or.inr e
      · omega)
  refine ⟨c', gwx, gw', m', Sx, Ex, Dx, nvx, dx, S', E', D', nv', d', ⟨hx, hd.desk, fun b hb => by rw [hd.cc b (by omega)]; exact h.cc b hb, h.below.trans (hd.ch.below hz fun b hb e => ?_), ⟨h2.1, h2.2.1, h2.2.2.1, ?_⟩, ⟨h1.1, ?_, h1.2.2.1, ?_⟩, by have := hd.le; have := h.le; omega, by have := hd.dim; have := h.dim; omega⟩⟩
  · rcases e with e | e | e
    · rw [h.cc b hb] at e; exact absurd e (by decide)
    · omega
    · omega
  · rcases hd.new with e | e <;> omega
  · rcases hd.new with e | e <;> omega
  · rcases hd.new with e | e <;> omega
theorem LawP.bel (h : LawP w W gx gy g K) (hb : Below W.heap.size W W') : LawP w W' gx gy g K := by
  obtain ⟨c, gwx, gwy, m, Sx, Ex, Dx, nvx, dx, Sy, Ey, Dy, nvy, dy, hp⟩ := h
  exact ⟨c, gwx, gwy, m, Sx, Ex, Dx, nvx, dx, Sy, Ey, Dy, nvy, dy, hp.bel hb⟩
theorem LawP.mono {K' : Nat} (h : LawP w W gx gy g K) (hk : K ≤ K') : LawP w W gx gy g K' := by
  obtain ⟨c, gwx, gwy, m, Sx, Ex, Dx, nvx, dx, Sy, Ey, Dy, nvy, dy, hp⟩ := h
  exact ⟨c, gwx, gwy, m, Sx, Ex, Dx, nvx, dx, Sy, Ey, Dy, nvy, dy, ⟨hp.x, hp.y, hp.cc, hp.below, hp.nx, hp.ne, by have := hp.le; omega, by have := hp.dim; omega⟩⟩
theorem LawP.below (h : LawP w W gx gy g K) : Below w.heap.size w W := by
  obtain ⟨c, gwx, gwy, m, Sx, Ex, Dx, nvx, dx, Sy, Ey, Dy, nvy, dy, hp⟩ := h
  exact hp.below
theorem LawP.doX {WK : World} {bo T0 : Nat} {cs0 : List Value} (h0 : LawP w WK gx gy g K) (hb : Below WK.heap.size WK W) (hbo : WK.heap.size ≤ bo) (hr : Row W bo T0 cs0) (hw : 0 < w.heap.size) (hK : K ≤ 10000000) {o : OpD} (ho : OpIn w o) : Calls Tryd.prog 9 #[ptr gx, .agg o.cells.toArray] W fun e W' => e = .returned (.bool true) ∧ LawP w W' gx gy g (K + 1) ∧ Row W' bo T0 cs0 := by
  obtain ⟨c, gwx, gwy, m, Sx, Ex, Dx, nvx, dx, Sy, Ey, Dy, nvy, dy, hp0⟩ := h0
  have hp := hp0.bel hb
  have h2 := hp.nx
  have h3 := hp.le
  have h4 := hp.dim
  have h5 := hp0.x.dk.row.lt
  have h6 := hp0.x.wal.row.lt
  have h7 := hp0.x.dk.live.2.2 bo hbo
  refine (do_any hp.x (by omega) (by omega) (ho.at hp.below fun b hb => ⟨by rw [hp.cc b hb]; decide, by omega, by omega, by rintro (e | e) <;> omega⟩)).mono ?_
  rintro e W' ⟨rfl, c', gw', m', S', E', D', nv', dims', hd⟩
  exact ⟨rfl, hp.doneX hw hd, hd.ch.row (by rintro (e | e | e); exact h7 e; omega; omega) hr⟩
theorem LawP.doY {WK : World} {bo T0 : Nat} {cs0 : List Value} (h0 : LawP w WK gx gy g K) (hb : Below WK.heap.size WK W) (hbo : WK.heap.size ≤ bo) (hr : Row W bo T0 cs0) (hw : 0 < w.heap.size) (hK : K ≤ 10000000) {o : OpD} (ho : OpIn w o) : Calls Tryd.prog 9 #[ptr gy, .agg o.cells.toArray] W fun e W' => e = .returned (.bool true) ∧ LawP w W' gx gy g (K + 1) ∧ Row W' bo T0 cs0 := by
  obtain ⟨c, gwx, gwy, m, Sx, Ex, Dx, nvx, dx, Sy, Ey, Dy, nvy, dy, hp0⟩ := h0
  have hp := hp0.bel hb
  have h2 := hp.nx
  have h3 := hp.le
  have h4 := hp.dim
  have h5 := hp0.y.dk.row.lt
  have h6 := hp0.y.wal.row.lt
  have h7 := hp0.y.dk.live.2.2 bo hbo
  refine (do_any hp.y (by omega) (by omega) (ho.at hp.below fun b hb => ⟨by rw [hp.cc b hb]; decide, by omega, by omega, by rintro (e | e) <;> omega⟩)).mono ?_
  rintro e W' ⟨rfl, c', gw', m', S', E', D', nv', dims', hd⟩
  exact ⟨rfl, hp.doneY hw hd, hd.ch.row (by rintro (e | e | e); exact h7 e; omega; omega) hr⟩
/-- one of them opened anew, out of what it has -/
theorem Desk.again {T : Nat → Prop} {i dims S E : Nat} {D : List (List (List Nat))} {nv : Value} {gd gw : Nat} (h : Desk T W c 2 gd gw g m [40, 40] [] i 40 S E D nv dims) (hs : m.steps + 30000 < 1099511627775) (hd : dims ≤ 999999900) (kv : Value) (ks : List Int) (hk : IntsIn w kv ks) (hb : Below w.heap.size w W) (hP : ∀ b, b < w.heap.size → Fr2 T c 2 gd b) : Calls Tryd.prog 10 #[ptr gd, kv, .slice (some ⟨W.heap.size, 0, none⟩) 1 1] (W.alloc (.cells #[nv] 36)) fun e W' => e = .returned (.bool true) ∧ ∃ c' gw' m' S' E' nv' dims', Done T W c 2 gd gw g m [40, 40] [] i 40 dims W' c' gw' m' S' E' D nv' dims' := by
  obtain ⟨us, hn⟩ := h.now
  have b1 := below_alloc W (.cells #[nv] 36)
  have hn2 : Rob (Fr2 T c 2 gd) (fun W => TxsC W nv D us) W := hn.next (Nat.le_refl _) fun b hb hp => ⟨rfl, hp.1, hp.2.1, hp.2.2.2⟩
  have hm := may_one hn2 (h.dk.live.2.2 _ (Nat.le_refl _)) h.dk.row.lt (fun e => by have := h.dk.str _ e; omega)
  have hk1 : KeepX (W.alloc (.cells #[nv] 36)) (Fr2 T c 2 gd) kv ks := (hk.keepX hb.size fun b hlt => ⟨hb.block b hlt, hP b hlt⟩ : KeepX W (Fr2 T c 2 gd) kv ks).below b1
  refine (opened_any (h.dk.below b1) h.jo.jc (by omega) (by omega) hk1 hm (Or.inl rfl)).mono ?_
  rintro e W' ⟨rfl, c', gw', m', S', E', nv', dims', ho⟩
  exact ⟨rfl, c', gw', m', S', E', nv', dims', ho.done (fun _ _ => rfl) (Ch.of_below b1) (Rel.refl m i) h.dk.row.lt (by omega) (by omega)⟩
theorem LawP.againX (h : LawP w W gx gy g K) (hw : 0 < w.heap.size) (hK : K ≤ 10000000) (kv : Value) (ks : List Int) (hk : IntsIn w kv ks) : ∃ nv, (∃ p n c, nv = Value.slice p n c) ∧ ∀ X, Below W.heap.size W X → X.cell? ⟨gx, 0 + 3, none⟩ = some nv ∧ Calls Tryd.prog 10 #[ptr gx, kv, .slice (some ⟨X.heap.size, 0, none⟩) 1 1] (X.alloc (.cells #[nv] 36)) fun e W' => e = .returned (.bool true) ∧ LawP w W' gx gy g (K + 1) := by
  obtain ⟨c, gwx, gwy, m, Sx, Ex, Dx, nvx, dx, Sy, Ey, Dy, nvy, dy, hp0⟩ := h
  obtain ⟨us, hn⟩ := hp0.x.now
  obtain ⟨pn, cn, hs, _⟩ := hn.now
  refine ⟨nvx, ⟨pn, _, cn, hs⟩, fun X hX => ?_⟩
  have hp := hp0.bel hX
  have h2 := hp.nx
  have h3 := hp.le
  have h4 := hp.dim
  refine ⟨hp.x.dk.row.at 3 _ rfl, (hp.x.again (by omega) (by omega) kv ks hk hp.below fun b hb => ⟨by rw [hp.cc b hb]; decide, by omega, by rintro (e | e) <;> omega⟩).mono ?_⟩
  rintro e W' ⟨rfl, c', gw', m', S', E', nv', dims', hd⟩
  exact ⟨rfl, hp.doneX hw hd⟩
theorem LawP.againY (h : LawP w W gx gy g K) (hw : 0 < w.heap.size) (hK : K ≤ 10000000) (kv : Value) (ks : List Int) (hk : IntsIn w kv ks) : ∃ nv, (∃ p n c, nv = Value.slice p n c) ∧ ∀ X, Below W.heap.size W X → X.cell? ⟨gy, 0 + 3, none⟩ = some nv ∧ Calls Tryd.prog 10 #[ptr gy, kv, .slice (some ⟨X.heap.size, 0, none⟩) 1 1] (X.alloc (.cells #[nv] 36)) fun e W' => e = .returned (.bool true) ∧ LawP w W' gx gy g (K + 1) := by
  obtain ⟨c, gwx, gwy, m, Sx, Ex, Dx, nvx, dx, Sy, Ey, Dy, nvy, dy, hp0⟩ := h
  obtain ⟨us, hn⟩ := hp0.y.now
  obtain ⟨pn, cn, hs, _⟩ := hn.now
  refine ⟨nvy, ⟨pn, _, cn, hs⟩, fun X hX => ?_⟩
  have hp := hp0.bel hX
  have h2 := hp.nx
  have h3 := hp.le
  have h4 := hp.dim
  refine ⟨hp.y.dk.row.at 3 _ rfl, (hp.y.again (by omega) (by omega) kv ks hk hp.below fun b hb => ⟨by rw [hp.cc b hb]; decide, by omega, by rintro (e | e) <;> omega⟩).mono ?_⟩
  rintro e W' ⟨rfl, c', gw', m', S', E', nv', dims', hd⟩
  exact ⟨rfl, hp.doneY hw hd⟩
/-- both of them begun -/
theorem law_begun {gw S E S2 E2 : Nat} {c2 c3 : Nat → Colour} {m2 m3 : Pl} {W2 : World} (hb : Beg (fun _ => False) W c 2 g m [40, 40] [] 0 40 W2 c2 gx gw m2 S E) (hb2 : Beg (Tp gx gw) W2 c2 2 g m2 [40, 40] [] 1 40 W' c3 gy gwy m3 S2 E2) (hbw : Below w.heap.size w W) (hcc : ∀ b, b < w.heap.size → c b = (0, 0)) (hst : m.steps = 0) : LawP w W' gx gy g 1 := by
  have hz := hbw.size
  have h1 := hb.gd
  have h2 := hb.gw
  have h3 := hb2.gd
  have h4 := hb2.gw
  have h5 := hb.desk.dk.row.lt
  have h6 := hb.desk.wal.row.lt
  have h7 := hb2.desk.dk.row.lt
  have h8 := hb2.desk.wal.row.lt
  have hx : Desk (Tp gy gwy) W' c3 2 gx gw g m3 [40, 40] [] 0 40 S E [] (.slice none 0 0) 0 := hb.desk.other hb2.cc (hb2.ch.mono fun _ _ e => Or.inl e) hb2.desk.dk.live hb2.rel (by decide) hb2.desk.jo.jc.lv.1 id id id (by rintro b (rfl | rfl) <;> assumption) (by rintro b hlt (rfl | rfl) <;> omega)
  have hc2 : ∀ b, b < w.heap.size → c2 b = (0, 0) := fun b hlt => by rw [hb.cc b (by omega)]; exact hcc b hlt
  have hw2 : Below w.heap.size w W2 := hbw.trans (hb.ch.below hz fun b hlt e => by rw [hcc b hlt] at e; exact absurd e (by decide))
  have hz2 := hw2.size
  refine ⟨c3, gw, gwy, m3, S, E, [], .slice none 0 0, 0, S2, E2, [], .slice none 0 0, 0, ⟨hx, hb2.desk, fun b hlt => by rw [hb2.cc b (by omega)]; exact hc2 b hlt, hw2.trans (hb2.ch.below hz2 fun b hlt e => by rw [hc2 b hlt] at e; exact absurd e (by decide)), by omega, by omega, by have := hb.le; have := hb2.le; omega, by omega⟩⟩
end
end Go.Proofs.YtebalanfagglnaaDoor

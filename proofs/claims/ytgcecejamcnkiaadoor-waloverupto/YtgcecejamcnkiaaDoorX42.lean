/- Layer 8: scripts; a journal tells what was appended. -/
import Derived.Test.YtgcecejamcnkiaaDoorX41
namespace Go.Proofs.YtgcecejamcnkiaaDoor
open Go.RowKit Go.Maps

/-- a call of a script -/
structure OpD where
  k : Int
  N : Int
  txv : Value
  kv : Value
  L : List (List Nat)
  ks : List Int
instance : Inhabited OpD := ⟨⟨0, 0, .slice none 0 0, .slice none 0 0, [], []⟩⟩
def OpD.cells (o : OpD) : List Value := opCells o.k o.N o.txv o.kv
structure OpIn (W : World) (o : OpD) : Prop where
  k : -9223372036854775808 ≤ o.k ∧ o.k ≤ 9223372036854775807
  n : -9223372036854775808 ≤ o.N ∧ o.N ≤ 9223372036854775807
  tx : RowsIn W o.txv o.L
  keep : IntsIn W o.kv o.ks
  size : txSize o.L ≤ 10000000
def OpsIn (W : World) (v : Value) (os : List OpD) : Prop :=
  ∃ p cap, v = .slice p os.length cap ∧ os.length ≤ cap ∧ os.length ≤ 1048576 ∧ (os = [] ∨ ∃ b off, p = some ⟨b, off, none⟩ ∧ ∀ i, i < os.length → ∀ j, j < 4 → W.cell? ⟨b, off + (i * 4 + j), none⟩ = (os.getD i default).cells[j]?) ∧ ∀ o ∈ os, OpIn W o
theorem RowsIn.heap {w W : World} {v : Value} {L : List (List Nat)} (h : RowsIn w v L) (hk : ∀ b, b < w.heap.size → W.heap[b]? = w.heap[b]?) : RowsIn W v L := by
  obtain ⟨p, cap, h1, h2, h3⟩ := h
  refine ⟨p, cap, h1, h2, ?_⟩
  rcases h3 with h3 | ⟨b, off, h4, h5⟩
  · exact Or.inl h3
  · refine Or.inr ⟨b, off, h4, fun i hi => ?_⟩
    obtain ⟨u, h6, h7⟩ := h5 i hi
    exact ⟨u, by rw [← h6]; exact World.cell?_of_block (hk b (block_lt_of_cell h6)), sliceK h7 fun b _ hlt => hk b hlt⟩
theorem IntsIn.keepX {w W : World} {v : Value} {ks : List Int} (h : IntsIn w v ks) {P : Nat → Prop} (hz : w.heap.size ≤ W.heap.size) (hk : ∀ b, b < w.heap.size → W.heap[b]? = w.heap[b]? ∧ P b) : KeepX W P v ks := by
  obtain ⟨p, cap, h1, h2, h3, h4⟩ := h
  refine ⟨p, cap, h1, h2, h3, ?_⟩
  rcases h4 with h4 | ⟨b, off, h5, h6⟩
  · exact Or.inl h4
  · by_cases h0 : ks = []
    · exact Or.inl h0
    · have hb := block_lt_of_cell (h6 0 (List.length_pos_iff.2 h0))
      exact Or.inr ⟨b, off, h5, (hk b hb).2, Nat.lt_of_lt_of_le hb hz, fun j hj => by rw [← h6 j hj]; exact World.cell?_of_block (hk b hb).1⟩
/-- a call of a script, at a later world of the law's -/
theorem OpIn.at {w W : World} {o : OpD} (h : OpIn w o) {P : Nat → Prop} (hb : Below w.heap.size w W) (hP : ∀ b, b < w.heap.size → P b) : OpR W P o.k o.N o.txv o.kv o.L o.ks :=
  ⟨h.k, h.n, fun _ _ hk => h.tx.heap fun b hlt => (hk b (Nat.lt_of_lt_of_le hlt hb.size) (hP b hlt)).trans (hb.block b hlt), h.keep.keepX hb.size fun b hlt => ⟨hb.block b hlt, hP b hlt⟩, h.size⟩
theorem s33 : (Tryd.prog.info? 33).map (·.size) = some 4 := by kernel_rfl
theorem sl22 : Tryd.prog.underlying 22 = some (.slice (Tryd.prog.elem 22)) := by kernel_rfl
theorem idx22 (b off n cap k : Nat) (h : k < n) (w' : World) : (Instr.indexAt 22 (.slice (some ⟨b, off, none⟩) n cap) (.int .i64 (k : Nat))).run Tryd.prog w' = .ok (.pointer (some ⟨b, off + k * 4, none⟩)) w' := by
  obtain ⟨i5, hi5, hsz⟩ := Option.map_eq_some_iff.1 s33
  simp [Instr.indexAt, asIntOf, run_underlying Tryd.underlying22, h, sizeOf, typeInfo, hi5, hsz, add_none]
/-- what a law holds on to: the desk, nothing that was there turned -/
structure LawD (w W : World) (c : Nat → Colour) (gd gw g : Nat) (m : Pl) (ds : List Nat) (i n S E : Nat) (D : List (List (List Nat))) (nv : Value) (dims K Kd : Nat) : Prop where
  desk : Desk W c 2 gd gw g m ds [] i n S E D nv dims
  cc : ∀ b, b < w.heap.size → c b = (0, 0)
  below : Below w.heap.size w W
  gd : w.heap.size ≤ gd
  gw : w.heap.size ≤ gw
  le : m.steps ≤ K
  dim : dims ≤ Kd
theorem LawD.fr3 {w W : World} {c : Nat → Colour} {gd gw g : Nat} {m : Pl} {ds : List Nat} {i n S E : Nat} {D : List (List (List Nat))} {nv : Value} {dims K Kd : Nat} (h : LawD w W c gd gw g m ds i n S E D nv dims K Kd) : ∀ b, b < w.heap.size → Fr3 c 2 gd gw b := fun b hb => ⟨by rw [h.cc b hb]; decide, by have := h.gd; omega, by have := h.gw; omega⟩
theorem LawD.next {w W : World} {c : Nat → Colour} {gd gw g : Nat} {m : Pl} {ds : List Nat} {i n S E : Nat} {D : List (List (List Nat))} {nv : Value} {dims K Kd : Nat} (h : LawD w W c gd gw g m ds i n S E D nv dims K Kd) {W' : World} {c' : Nat → Colour} {gw' : Nat} {m' : Pl} {S' E' : Nat} {D' : List (List (List Nat))} {nv' : Value} {dims' : Nat} (hd : Done W c 2 gd gw g m ds [] i n dims W' c' gw' m' S' E' D' nv' dims') : LawD w W' c' gd gw' g m' ds i n S' E' D' nv' dims' (K + 20000) (Kd + 10) := by
  have hz := h.below.size
  refine ⟨hd.desk, fun b hb => by rw [hd.cc b (by omega)]; exact h.cc b hb, h.below.trans (hd.ch.below hz fun b hb e => ?_), h.gd, ?_, by have := hd.le; have := h.le; omega, by have := hd.dim; have := h.dim; omega⟩
  · rcases e with e | e | e
    · rw [h.cc b hb] at e; exact absurd e (by decide)
    · have := h.gd; omega
    · have := h.gw; omega
  · rcases hd.new with e | e
    · rw [e]; exact h.gw
    · omega
/-- one call of the script -/
theorem LawD.does {w W : World} {c : Nat → Colour} {gd gw g : Nat} {m : Pl} {ds : List Nat} {i n S E : Nat} {D : List (List (List Nat))} {nv : Value} {dims K Kd : Nat} (h : LawD w W c gd gw g m ds i n S E D nv dims K Kd) (hK : K ≤ 1000000000000) (hKd : Kd ≤ 900000000) {k N : Int} {txv kv : Value} {L : List (List Nat)} {ks : List Int} (ho : OpR W (Fr3 c 2 gd gw) k N txv kv L ks) :
    Calls Tryd.prog 13 #[ptr gd, .agg (opCells k N txv kv).toArray] W fun e W' => e = .returned (.bool true) ∧ ∃ c' gw' m' S' E' D' nv' dims', LawD w W' c' gd gw' g m' ds i n S' E' D' nv' dims' (K + 20000) (Kd + 10) ∧ Done W c 2 gd gw g m ds [] i n dims W' c' gw' m' S' E' D' nv' dims' := by
  have h1 := h.le
  have h2 := h.dim
  refine (do_any h.desk (by omega) (by omega) ho).mono ?_
  rintro e W' ⟨rfl, c', gw', m', S', E', D', nv', dims', hd⟩
  exact ⟨rfl, c', gw', m', S', E', D', nv', dims', h.next hd, hd⟩
/-- the fuse is set -/
theorem LawD.fuse {w W : World} {c : Nat → Colour} {gd gw g : Nat} {m : Pl} {ds : List Nat} {i n S E : Nat} {D : List (List (List Nat))} {nv : Value} {dims K Kd : Nat} (h : LawD w W c gd gw g m ds i n S E D nv dims K Kd) (N : Int) (h0 : -9223372036854775808 ≤ N) (h1 : N ≤ 9223372036854775807) :
    Calls Tryd.prog 14 #[ptr g, .int .i64 N] W fun e W' => e = .returned noResult ∧ ∃ c', LawD w W' c' gd gw g (m.fuseTo N) ds i n S E D nv dims K Kd := by
  refine (h.desk.dk.live.fuse N h0 h1).mono ?_
  rintro e W' ⟨rfl, hnx⟩
  obtain ⟨c', q1, q2, q3⟩ := hnx.nx
  obtain ⟨us, hn⟩ := h.desk.now
  have hz := h.below.size
  refine ⟨rfl, c', ⟨h.desk.dk.nx q1 q2 q3 (Rel.fuse m i N).sh, h.desk.wal.kept q1 q3, h.desk.ne, ?_, us, hn.next q3.size fun b hb hp => ⟨q3.block b hb hp.1, by rw [q1 b hb]; exact hp.1, hp.2⟩⟩, fun b hb => by rw [q1 b (by omega)]; exact h.cc b hb, h.below.trans (q3.below hz fun b hb e => by rw [h.cc b hb] at e; exact absurd e (by decide)), h.gd, h.gw, by have := h.le; unfold Pl.fuseTo; split <;> exact this, h.dim⟩
  obtain ⟨F, rows, hJ, h2, h3⟩ := h.desk.jo
  exact ⟨F, rows, hJ.fuse N h0 h1, h2, h3⟩
/-- a boot: the journal at rest -/
structure LawB (w W : World) (c : Nat → Colour) (gd g : Nat) (m : Pl) (ds : List Nat) (i n : Nat) (D : List (List (List Nat))) (wv nv : Value) (us : List Value) (cost dims K Kd : Nat) : Prop where
  dk : Dk W c 2 gd g m ds [] i n wv nv cost dims
  jc : Jc m i n D
  now : Rob (Fr2 c 2 gd) (fun W => TxsC W nv D us) W
  cc : ∀ b, b < w.heap.size → c b = (0, 0)
  below : Below w.heap.size w W
  gd : w.heap.size ≤ gd
  le : m.steps ≤ K
  dim : dims ≤ Kd
theorem LawD.rest {w W : World} {c : Nat → Colour} {gd gw g : Nat} {m : Pl} {ds : List Nat} {i n S E : Nat} {D : List (List (List Nat))} {nv : Value} {dims K Kd : Nat} (h : LawD w W c gd gw g m ds i n S E D nv dims K Kd) : ∃ us, LawB w W c gd g m ds i n D (ptr gw) nv us (costs D) dims K Kd := by
  obtain ⟨us, hn⟩ := h.desk.now
  exact ⟨us, h.desk.dk, h.desk.jo.jc, hn.next (Nat.le_refl _) fun b hb hp => ⟨rfl, hp.1, hp.2.1⟩, h.cc, h.below, h.gd, h.le, h.dim⟩
theorem LawB.bel {w W W' : World} {c : Nat → Colour} {gd g : Nat} {m : Pl} {ds : List Nat} {i n : Nat} {D : List (List (List Nat))} {wv nv : Value} {us : List Value} {cost dims K Kd : Nat} (h : LawB w W c gd g m ds i n D wv nv us cost dims K Kd) (hb : Below W.heap.size W W') : LawB w W' c gd g m ds i n D wv nv us cost dims K Kd :=
  ⟨h.dk.below hb, h.jc, h.now.below hb, h.cc, h.below.trans (hb.mono h.below.size), h.gd, h.le, h.dim⟩
theorem LawB.boot {w W : World} {c : Nat → Colour} {gd g : Nat} {m : Pl} {ds : List Nat} {i n : Nat} {D : List (List (List Nat))} {wv nv : Value} {us : List Value} {cost dims K Kd : Nat} (h : LawB w W c gd g m ds i n D wv nv us cost dims K Kd) (hK : K ≤ 1000000000000) (kv : Value) (ks : List Int) (hk : KeepX W (Fr2 c 2 gd) kv ks) :
    Calls Tryd.prog 15 #[ptr g, kv] W fun e W' => e = .returned noResult ∧ ∃ c', LawB w W' c' gd g (m.boot ks) ds i n D wv nv us cost dims K Kd ∧ (∀ b, b < W.heap.size → c' b = c b) ∧ Ch (fun b => (c b).1 = 2) W W' := by
  have hle := h.le
  refine (h.dk.live.boot (by omega) kv ks (hk.keep fun b hb hp => hp.1)).mono ?_
  rintro e W' ⟨rfl, hnx⟩
  obtain ⟨c', q1, q2, q3⟩ := hnx.nx
  have hz := h.below.size
  exact ⟨rfl, c', ⟨h.dk.nx q1 q2 q3 rfl, h.jc.boot ks, h.now.next q3.size fun b hb hp => ⟨q3.block b hb hp.1, by rw [q1 b hb]; exact hp.1, hp.2⟩, fun b hb => by rw [q1 b (by omega)]; exact h.cc b hb, h.below.trans (q3.below hz fun b hb e => by rw [h.cc b hb] at e; exact absurd e (by decide)), h.gd, h.le, h.dim⟩, q1, q3⟩
/-- opened: it tells what it must -/
theorem LawB.opens {w W : World} {c : Nat → Colour} {gd g : Nat} {m : Pl} {ds : List Nat} {i n : Nat} {D : List (List (List Nat))} {wv nv : Value} {us : List Value} {cost dims K Kd : Nat} (h : LawB w W c gd g m ds i n D wv nv us cost dims K Kd) (hK : K ≤ 1000000000000) (hKd : Kd ≤ 900000000) (kv : Value) (ks : List Int) (hk : KeepX W (Fr2 c 2 gd) kv ks) :
    Calls Tryd.prog 16 #[ptr gd, kv, .slice (some ⟨W.heap.size, 0, none⟩) 1 1] (W.alloc (.cells #[nv] 38)) fun e W' => e = .returned (.bool true) ∧ ∃ c' gw' m' S' E' nv' dims', LawD w W' c' gd gw' g m' ds i n S' E' D nv' dims' (K + 8) (Kd + 1) ∧ Rel m m' i ∧ (∀ b, b < W.heap.size → c' b = c b) ∧ Ch (fun b => (c b).1 = 2 ∨ b = gd) W W' ∧ W.heap.size ≤ gw' := by
  have h1 := h.le
  have h2 := h.dim
  have b2 : Below W.heap.size W (W.alloc (.cells #[nv] 38)) := below_alloc W _
  refine (opened_any (h.dk.below b2) h.jc (by omega) (by omega) (hk.below b2) (may_one h.now (h.dk.live.2.2 _ (Nat.le_refl _)) h.dk.row.lt) (Or.inl rfl)).mono ?_
  rintro e W' ⟨rfl, c', gw', m', S', E', nv', dims', hO⟩
  have hz := h.below.size
  have hz2 := b2.size
  have hc2 : Ch (fun b => (c b).1 = 2 ∨ b = gd) W W' := (Ch.of_below b2).trans hO.ch
  refine ⟨rfl, c', gw', m', S', E', nv', dims', ⟨⟨hO.dk, hO.wal, by have := hO.new; have := h.dk.row.lt; omega, hO.jo, hO.now⟩, fun b hb => by rw [hO.cc b (by omega)]; exact h.cc b hb, h.below.trans (hc2.below hz fun b hb e => e.elim (fun e => by rw [h.cc b hb] at e; exact absurd e (by decide)) (fun e => by have := h.gd; omega)), h.gd, by have := hO.new; omega, by have := hO.le; omega, by have := hO.dim; omega⟩, hO.rel, fun b hb => hO.cc b (by omega), hc2, by have := hO.new; omega⟩
theorem LawB.sl {w W : World} {c : Nat → Colour} {gd g : Nat} {m : Pl} {ds : List Nat} {i n : Nat} {D : List (List (List Nat))} {wv nv : Value} {us : List Value} {cost dims K Kd : Nat} (h : LawB w W c gd g m ds i n D wv nv us cost dims K Kd) : ∃ p n c, nv = .slice p n c := by obtain ⟨p, cap, e, _⟩ := h.now.now; exact ⟨p, _, cap, e⟩
/-- a plant of disks, a desk on the first -/
theorem law_begun {w W : World} (hb : Below w.heap.size w W) {c : Nat → Colour} {g dk n : Nat} (hdk : 1 ≤ dk ∧ dk ≤ 12) (hn : 8 ≤ n ∧ n ≤ 4096) (hl : Live W c 2 g (newPl (List.replicate dk (n : Int)) [])) (hcc : ∀ b, b < w.heap.size → c b = (0, 0)) (ht : Fr.TabIn w) :
    Calls Tryd.prog 12 #[ptr g, .int .i64 0, .int .i64 (n : Nat)] W fun e W' => ∃ gd c' gw m' S E, e = .returned (ptr gd) ∧ LawD w W' c' gd gw g m' (List.replicate dk n) 0 n S E [] (.slice none 0 0) 0 6000 0 ∧ m'.fuse < 0 := by
  have hsh := newPl_rep dk n
  refine (begun_any (i := 0) hl hsh (by rw [List.length_replicate]; omega) (by rw [List.getD_eq_getElem?_getD, List.getElem?_replicate, if_pos (by omega)]; rfl) hn.1 rfl (by decide : (-1 : Int) < 0) (TabIn.later ht hb) (by rw [hcc 0 (tab_lt ht)]; decide) (by decide : (0 : Nat) + 30000 < 1099511627775)).mono ?_
  rintro e W' ⟨c', gd, gw, m', S, E, rfl, hB⟩
  have hz := hb.size
  exact ⟨gd, c', gw, m', S, E, rfl, ⟨hB.desk, fun b hlt => by rw [hB.cc b (by omega)]; exact hcc b hlt, hb.trans (hB.ch.below hz fun b hlt e => by rw [hcc b hlt] at e; exact absurd e (by decide)), by have := hB.gd; omega, by have := hB.gw; omega, by have := hB.le; show m'.steps ≤ 6000; exact this, Nat.le_refl _⟩, hB.fuse⟩
theorem law_made (w W : World) (hb : Below w.heap.size w W) (dk n : Nat) (hd : 1 ≤ dk ∧ dk ≤ 12) (hn : 1 ≤ n ∧ n ≤ 4096) :
    Calls Tryd.prog 11 #[.int .i64 (dk : Nat), .int .i64 (n : Nat)] W fun e w' => ∃ g c', e = .returned (ptr g) ∧ (∀ b, b < w.heap.size → c' b = (0, 0)) ∧ Live w' c' 2 g (newPl (List.replicate dk (n : Int)) []) ∧ Below w.heap.size w w' := by
  refine (made_any W (fun _ => (0, 0)) 2 dk n hd hn).mono ?_
  rintro e w' ⟨g, c', rfl, h1, h2, h3, h4⟩
  exact ⟨g, c', rfl, fun b hlt => h2 b (Nat.lt_of_lt_of_le hlt hb.size), h3, hb.trans (h4.mono hb.size)⟩
end Go.Proofs.YtgcecejamcnkiaaDoor

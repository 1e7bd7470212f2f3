/- Layer 8: scripts; a journal tells what was appended. -/
import Derived.Test.YtgcecejamcnkiaaDoorZ41
namespace Go.Proofs.YtgcecejamcnkiaaDoor
open Go.RowKit Go.Maps

/-- a call of a script -/
structure OpD where
  k : Int
  N : Int
  txv : Value
  kv : Value
  L : List (List Nat)
  ks : List Int
instance : Inhabited OpD := ⟨⟨0, 0, .slice none 0 0, .slice none 0 0, [], []⟩⟩
def OpD.cells (o : OpD) : List Value := opCells o.k o.N o.txv o.kv
structure OpIn (W : World) (o : OpD) : Prop where
  k : -9223372036854775808 ≤ o.k ∧ o.k ≤ 9223372036854775807
  n : -9223372036854775808 ≤ o.N ∧ o.N ≤ 9223372036854775807
  tx : RowsIn W o.txv o.L
  keep : IntsIn W o.kv o.ks
  size : txSize o.L ≤ 10000000
def OpsIn (W : World) (v : Value) (os : List OpD) : Prop :=
  ∃ p cap, v = .slice p os.length cap ∧ os.length ≤ cap ∧ os.length ≤ 1048576 ∧ (os = [] ∨ ∃ b off, p = some ⟨b, off, none⟩ ∧ ∀ i, i < os.length → ∀ j, j < 4 → W.cell? ⟨b, off + (i * 4 + j), none⟩ = (os.getD i default).cells[j]?) ∧ ∀ o ∈ os, OpIn W o
theorem RowsIn.heap {w W : World} {v : Value} {L : List (List Nat)} (h : RowsIn w v L) (hk : ∀ b, b < w.heap.size → W.heap[b]? = w.heap[b]?) : RowsIn W v L := by
  obtain ⟨p, cap, h1, h2, h3⟩ := h
  refine ⟨p, cap, h1, h2, ?_⟩
  rcases h3 with h3 | ⟨b, off, h4, h5⟩
  · exact Or.inl h3
  · refine Or.inr ⟨b, off, h4, fun i hi => ?_⟩
    obtain ⟨u, h6, h7⟩ := h5 i hi
    exact ⟨u, by rw [← h6]; exact World.cell?_of_block (hk b (block_lt_of_cell h6)), sliceK h7 fun b _ hlt => hk b hlt⟩
theorem IntsIn.keepX {w W : World} {v : Value} {ks : List Int} (h : IntsIn w v ks) {P : Nat → Prop} (hz : w.heap.size ≤ W.heap.size) (hk : ∀ b, b < w.heap.size → W.heap[b]? = w.heap[b]? ∧ P b) : KeepX W P v ks := by
  obtain ⟨p, cap, h1, h2, h3, h4⟩ := h
  refine ⟨p, cap, h1, h2, h3, ?_⟩
  rcases h4 with h4 | ⟨b, off, h5, h6⟩
  · exact Or.inl h4
  · by_cases h0 : ks = []
    · exact Or.inl h0
    · have hb := block_lt_of_cell (h6 0 (List.length_pos_iff.2 h0))
      exact Or.inr ⟨b, off, h5, (hk b hb).2, Nat.lt_of_lt_of_le hb hz, fun j hj => by rw [← h6 j hj]; exact World.cell?_of_block (hk b hb).1⟩
/-- a call of a script, at a later world of the law's -/
theorem OpIn.at {w W : World} {o : OpD} (h : OpIn w o) {P : Nat → Prop} (hb : Below w.heap.size w W) (hP : ∀ b, b < w.heap.size → P b) : OpR W P o.k o.N o.txv o.kv o.L o.ks :=
  ⟨h.k, h.n, fun _ _ hk => h.tx.heap fun b hlt => (hk b (Nat.lt_of_lt_of_le hlt hb.size) (hP b hlt)).trans (hb.block b hlt), h.keep.keepX hb.size fun b hlt => ⟨hb.block b hlt, hP b hlt⟩, h.size⟩
theorem s33 : (Tryd.prog.info? 33).map (·.size) = some 4 := by kernel_rfl
theorem sl22 : Tryd.prog.underlying 22 = some (.slice (Tryd.prog.elem 22)) := by kernel_rfl
theorem idx22 (b off n cap k : Nat) (h : k < n) (w' : World) : (Instr.indexAt 22 (.slice (some ⟨b, off, none⟩) n cap) (.int .i64 (k : Nat))).run Tryd.prog w' = .ok (.pointer (some ⟨b, off + k * 4, none⟩)) w' := by
  obtain ⟨i5, hi5, hsz⟩ := Option.map_eq_some_iff.1 s33
  simp [Instr.indexAt, asIntOf, run_underlying Tryd.underlying22, h, sizeOf, typeInfo, hi5, hsz, add_none]
/-- what a law holds on to: the desk, nothing that was there turned -/
structure LawD (w W : World) (c : Nat → Colour) (gd gw g : Nat) (m : Pl) (ds : List Nat) (i n S E : Nat) (D : List (List (List Nat))) (nv : Value) (dims K Kd : Nat) : Prop where
  desk : Desk W c 2 gd gw g m ds [] i n S E D nv dims
  cc : ∀ b, b < w.heap.size → c b = (0, 0)
  below : Below w.heap.size w W
  gd : w.heap.size ≤ gd
  gw : w.heap.size ≤ gw
  le : m.steps ≤ K
  dim : dims ≤ Kd
theorem LawD.fr3 {w W : World} {c : Nat → Colour} {gd gw g : Nat} {m : Pl} {ds : List Nat} {i n S E : Nat} {D : List (List (List Nat))} {nv : Value} {dims K Kd : Nat} (h : LawD w W c gd gw g m ds i n S E D nv dims K Kd) : ∀ b, b < w.heap.size → Fr3 c 2 gd gw b := fun b hb => ⟨by rw [h.cc b hb]; decide, by have := h.gd; omega, by have := h.gw; omega⟩
theorem LawD.next {w W : World} {c : Nat → Colour} {gd gw g : Nat} {m : Pl} {ds : List Nat} {i n S E : Nat} {D : List (List (List Nat))} {nv : Value} {dims K Kd : Nat} (h : LawD w W c gd gw g m ds i n S E D nv dims K Kd) {W' : World} {c' : Nat → Colour} {gw' : Nat} {m' : Pl} {S' E' : Nat} {D' : List (List (List Nat))} {nv' : Value} {dims' : Nat} (hd : Done W c 2 gd gw g m ds [] i n dims W' c' gw' m' S' E' D' nv' dims') : LawD w W' c' gd gw' g m' ds i n S' E' D' nv' dims' (K + 20000) (Kd + 10) := by
  have hz := h.below.size
  refine ⟨hd.desk, fun b hb => by rw [hd.cc b (by omega)]; exact h.cc b hb, h.below.trans (hd.ch.below hz fun b hb e => ?_), h.gd, ?_, by have := hd.le; have := h.le; omega, by have := hd.dim; have := h.dim; omega⟩
  · rcases e with e | e | e
    · rw [h.cc b hb] at e; exact absurd e (by decide)
    · have := h.gd; omega
    · have := h.gw; omega
  · rcases hd.new with e | e
    · rw [e]; exact h.gw
    · omega
/-- one call of the script -/
theorem LawD.does {w W : World} {c : Nat → Colour} {gd gw g : Nat} {m : Pl} {ds : List Nat} {i n S E : Nat} {D : List (List (List Nat))} {nv : Value} {dims K Kd : Nat} (h : LawD w W c gd gw g m ds i n S E D nv dims K Kd) (hK : K ≤ 1000000000000) (hKd : Kd ≤ 900000000) {k N : Int} {txv kv : Value} {L : List (List Nat)} {ks : List Int} (ho : OpR W (Fr3 c 2 gd gw) k N txv kv L ks) :
    Calls Tryd.prog 13 #[ptr gd, .agg (opCells k N txv kv).toArray] W fun e W' => e = .returned (.bool true) ∧ ∃ c' gw' m' S' E' D' nv' dims', LawD w W' c' gd gw' g m' ds i n S' E' D' nv' dims' (K + 20000) (Kd + 10) ∧ Done W c 2 gd gw g m ds [] i n dims W' c' gw' m' S' E' D' nv' dims' := by
  have h1 := h.le
  have h2 := h.dim
  refine (do_any h.desk (by omega) (by omega) ho).mono ?_
  rintro e W' ⟨rfl, c', gw', m', S', E', D', nv', dims', hd⟩
  exact ⟨rfl, c', gw', m', S', E', D', nv', dims', h.next hd, hd⟩
/-- the fuse is set -/
theorem LawD.fuse {w W : World} {c : Nat → Colour} {gd gw g : Nat} {m : Pl} {ds : List Nat} {i n S E : Nat} {D : List (List (List Nat))} {nv : Value} {dims K Kd : Nat} (h : LawD w W c gd gw g m ds i n S E D nv dims K Kd) (N : Int) (h0 : -9223372036854775808 ≤ N) (h1 : N ≤ 9223372036854775807) :
    Calls Tryd.prog 14 #[ptr g, .int .i64 N] W fun e W' => e = .returned noResult ∧ ∃ c', LawD w W' c' gd gw g (m.fuseTo N) ds i n S E D nv dims K Kd := by
  refine (h.desk.dk.live.fuse N h0 h1).mono ?_
  rintro e W' ⟨rfl, hnx⟩
  obtain ⟨c', q1, q2, q3⟩ := hnx.nx
  obtain ⟨us, hn⟩ := h.desk.now
  have hz := h.below.size
  refine ⟨rfl, c', ⟨h.desk.dk.nx q1 q2 q3 (Rel.fuse m i N).sh, h.desk.wal.kept q1 q3, h.desk.ne, ?_, us, hn.next q3.size fun b hb hp => ⟨q3.block b hb hp.1, by rw [q1 b hb]; exact hp.1, hp.2⟩⟩, fun b hb => by rw [q1 b (by omega)]; exact h.cc b hb, h.below.trans (q3.below hz fun b hb e => by rw [h.cc b hb] at e; exact absurd e (by decide)), h.gd, h.gw, by have := h.le; unfold Pl.fuseTo; split <;> exact this, h.dim⟩
  obtain ⟨F, rows, hJ, h2, h3⟩ := h.desk.jo
  exact ⟨F, rows, hJ.fuse N h0 h1, h2, h3⟩
/-- a boot: the journal at rest -/
structure LawB (w W : World) (c : Nat → Colour) (gd g : Nat) (m : Pl) (ds : List Nat) (i n : Nat) (D : List (List (List Nat))) (wv nv : Value) (us : List Value) (cost dims K Kd : Nat) : Prop where
  dk : Dk W c 2 gd g m ds [] i n wv nv cost dims
  jc : Jc m i n D
  now : Rob (Fr2 c 2 gd) (fun W => TxsC W nv D us) W
  cc : ∀ b, b < w.heap.size → c b = (0, 0)
  below : Below w.heap.size w W
  gd : w.heap.size ≤ gd
  le : m.steps ≤ K
  dim : dims ≤ Kd
theorem LawD.rest {w W : World} {c : Nat → Colour} {gd gw g : Nat} {m : Pl} {ds : List Nat} {i n S E : Nat} {D : List (List (List Nat))} {nv : Value} {dims K Kd : Nat} (h : LawD w W c gd gw g m ds i n S E D nv dims K Kd) : ∃ us, LawB w W c gd g m ds i n D (ptr gw) nv us (costs D) dims K Kd := by
  obtain ⟨us, hn⟩ := h.desk.now
  exact ⟨us, h.desk.dk, h.desk.jo.jc, hn.next (Nat.le_refl _) fun b hb hp => ⟨rfl, hp.1, hp.2.1⟩, h.cc, h.below, h.gd, h.le, h.dim⟩
theorem LawB.bel {w W W' : World} {c : Nat → Colour} {gd g : Nat} {m : Pl} {ds : List Nat} {i n : Nat} {D : List (List (List Nat))} {wv nv : Value} {us : List Value} {cost dims K Kd : Nat} (h : LawB w W c gd g m ds i n D wv nv us cost dims K Kd) (hb : Below W.heap.size W W') : LawB w W' c gd g m ds i n D wv nv us cost dims K Kd :=
  ⟨h.dk.below hb, h.jc, h.now.below hb, h.cc, h.below.trans (hb.mono h.below.size), h.gd, h.le, h.dim⟩
theorem LawB.boot {w W : World} {c : Nat → Colour} {gd g : Nat} {m : Pl} {ds : List Nat} {i n : Nat} {D : List (List (List Nat))} {wv nv : Value} {us : List Value} {cost dims K Kd : Nat} (h : LawB w W c gd g m ds i n D wv nv us cost dims K Kd) (hK : K ≤ 1000000000000) (kv : Value) (ks : List Int) (hk : KeepX W (Fr2 c 2 gd) kv ks) :
    Calls Tryd.prog 15 #[ptr g, kv] W fun e W' => e = .returned noResult ∧ ∃ c', LawB w W' c' gd g (m.boot ks) ds i n D wv nv us cost dims K Kd ∧ (∀ b, b < W.heap.size → c' b = c b) ∧ Ch (fun b => (c b).1 = 2) W W' := by
  have hle := h.le
  refine (h.dk.live.boot (by omega) kv ks (hk.keep fun b hb hp => hp.1)).mono ?_
  rintro e W' ⟨rfl, hnx⟩
  obtain ⟨c', q1, q2, q3⟩ := hnx.nx
  have hz := h.below.size
  exact ⟨rfl, c', ⟨h.dk.nx q1 q2 q3 rfl, h.jc.boot ks, h.now.next q3.size fun b hb hp => ⟨q3.block b hb hp.1, by rw [q1 b hb]; exact hp.1, hp.2⟩, fun b hb => by rw [q1 b (by omega)]; exact h.cc b hb, h.below.trans (q3.below hz fun b hb e => by rw [h.cc b hb] at e; exact absurd e (by decide)), h.gd, h.le, h.dim⟩, q1, q3⟩
/-- opened: it tells what it must -/
theorem LawB.opens {w W : World} {c : Nat → Colour} {gd g : Nat} {m : Pl} {ds : List Nat} {i n : Nat} {D : List (List (List Nat))} {wv nv : Value} {us : List Value} {cost dims K Kd : Nat} (h : LawB w W c gd g m ds i n D wv nv us cost dims K Kd) (hK : K ≤ 1000000000000) (hKd : Kd ≤ 900000000) (kv : Value) (ks : List Int) (hk : KeepX W (Fr2 c 2 gd) kv ks) :
    Calls Tryd.prog 16 #[ptr gd, kv, .slice (some ⟨W.heap.size, 0, none⟩) 1 1] (W.alloc (.cells #[nv] 38)) fun e W' => e = .returned (.bool true) ∧ ∃ c' gw' m' S' E' nv' dims', LawD w W' c' gd gw' g m' ds i n S' E' D nv' dims' (K + 8) (Kd + 1) ∧ Rel m m' i ∧ (∀ b, b < W.heap.size → c' b = c b) ∧ Ch (fun b => (c b).1 = 2 ∨ b = gd) W W' ∧ W.heap.size ≤ gw' := by
  have h1 := h.le
  have h2 := h.dim
  have b2 : Below W.heap.size W (W.alloc (.cells #[nv] 38)) := below_alloc W _
  refine (opened_any (h.dk.below b2) h.jc (by omega) (by omega) (hk.below b2) (may_one h.now (h.dk.live.2.2 _ (Nat.le_refl _)) h.dk.row.lt) (Or.inl rfl)).mono ?_
  rintro e W' ⟨rfl, c', gw', m', S', E', nv', dims', hO⟩
  have hz := h.below.size
  have hz2 := b2.size
  have hc2 : Ch (fun b => (c b).1 = 2 ∨ b = gd) W W' := (Ch.of_below b2).trans hO.ch
  refine ⟨rfl, c', gw', m', S', E', nv', dims', ⟨⟨hO.dk, hO.wal, by have := hO.new; have := h.dk.row.lt; omega, hO.jo, hO.now⟩, fun b hb => by rw [hO.cc b (by omega)]; exact h.cc b hb, h.below.trans (hc2.below hz fun b hb e => e.elim (fun e => by rw [h.cc b hb] at e; exact absurd e (by decide)) (fun e => by have := h.gd; omega)), h.gd, by have := hO.new; omega, by have := hO.le; omega, by have := hO.dim; omega⟩, hO.rel, fun b hb => hO.cc b (by omega), hc2, by have := hO.new; omega⟩
theorem LawB.sl {w W : World} {c : Nat → Colour} {gd g : Nat} {m : Pl} {ds : List Nat} {i n : Nat} {D : List (List (List Nat))} {wv nv : Value} {us : List Value} {cost dims K Kd : Nat} (h : LawB w W c gd g m ds i n D wv nv us cost dims K Kd) : ∃ p n c, nv = .slice p n c := by obtain ⟨p, cap, e, _⟩ := h.now.now; exact ⟨p, _, cap, e⟩
/-- a plant of disks, a desk on the first -/
theorem law_begun {w W : World} (hb : Below w.heap.size w W) {c : Nat → Colour} {g dk n : Nat} (hdk : 1 ≤ dk ∧ dk ≤ 12) (hn : 8 ≤ n ∧ n ≤ 4096) (hl : Live W c 2 g (newPl (List.replicate dk (n : Int)) [])) (hcc : ∀ b, b < w.heap.size → c b = (0, 0)) (ht : Fr.TabIn w) :
    Calls Tryd.prog 12 #[ptr g, .int .i64 0, .int .i64 (n : Nat)] W fun e W' => ∃ gd c' gw m' S E, e = .returned (ptr gd) ∧ LawD w W' c' gd gw g m' (List.replicate dk n) 0 n S E [] (.slice none 0 0) 0 6000 0 ∧ m'.fuse < 0 := by
  have hsh := newPl_rep dk n
  refine (begun_any (i := 0) hl hsh (by rw [List.length_replicate]; omega) (by rw [List.getD_eq_getElem?_getD, List.getElem?_replicate, if_pos (by omega)]; rfl) hn.1 rfl (by decide : (-1 : Int) < 0) (TabIn.later ht hb) (by rw [hcc 0 (tab_lt ht)]; decide) (by decide : (0 : Nat) + 30000 < 1099511627775)).mono ?_
  rintro e W' ⟨c', gd, gw, m', S, E, rfl, hB⟩
  have hz := hb.size
  exact ⟨gd, c', gw, m', S, E, rfl, ⟨hB.desk, fun b hlt => by rw [hB.cc b (by omega)]; exact hcc b hlt, hb.trans (hB.ch.below hz fun b hlt e => by rw [hcc b hlt] at e; exact absurd e (by decide)), by have := hB.gd; omega, by have := hB.gw; omega, by have := hB.le; show m'.steps ≤ 6000; exact this, Nat.le_refl _⟩, hB.fuse⟩
theorem law_made (w W : World) (hb : Below w.heap.size w W) (dk n : Nat) (hd : 1 ≤ dk ∧ dk ≤ 12) (hn : 1 ≤ n ∧ n ≤ 4096) :
    Calls Tryd.prog 11 #[.int .i64 (dk : Nat), .int .i64 (n : Nat)] W fun e w' => ∃ g c', e = .returned (ptr g) ∧ (∀ b, b < w.heap.size → c' b = (0, 0)) ∧ Live w' c' 2 g (newPl (List.replicate dk (n : Int)) []) ∧ Below w.heap.size w w' := by
  refine (made_any W (fun _ => (0, 0)) 2 dk n hd hn).mono ?_
  rintro e w' ⟨g, c', rfl, h1, h2, h3, h4⟩
  exact ⟨g, c', rfl, fun b hlt => h2 b (Nat.lt_of_lt_of_le hlt hb.size), h3, hb.trans (h4.mono hb.size)⟩
set_option maxHeartbeats 16000000 in
set_option maxRecDepth 100000 in
theorem walKeeps_any (w : World) (ht : Fr.TabIn w) (sc : Int) (hs : -9223372036854775808 ≤ sc ∧ sc ≤ 9223372036854775807) (v : Value) (os : List OpD) (ho : OpsIn w v os) : Calls Tryd.prog 3 #[.int .i64 sc, v] w fun e w' => e = .returned (.bool true) ∧ Below w.heap.size w w' := by
  obtain ⟨p, cap, rfl, hcap, hlen, hcells, hops⟩ := ho
  obtain ⟨ln, hln⟩ : ∃ ln, ln = os.length := ⟨_, rfl⟩
  have HT : Hid (Fr.TabIn w) := ht
  have HOS : Hid (ln = os.length ∧ (∀ o ∈ os, OpIn w o) ∧ (os = [] ∨ ∃ b off, p = some ⟨b, off, none⟩ ∧ ∀ i, i < os.length → ∀ j, j < 4 → w.cell? ⟨b, off + (i * 4 + j), none⟩ = (os.getD i default).cells[j]?)) := ⟨hln, hops, hcells⟩
  rw [← hln] at hlen ⊢
  obtain ⟨q, hq⟩ : ∃ q, q = whichOf sc 100 := ⟨_, rfl⟩
  have hq1 : q < 100 := by rw [hq]; exact whichOf_lt sc 100 (by decide)
  have HWH : Hid (∀ W, Calls Tryd.prog 10 #[.int .i64 sc, .int .i64 100] W fun e w' => e = .returned (.int .i64 (q : Nat)) ∧ W = w') := fun W => by rw [hq]; exact which_any W sc 100 (by decide) hs.1 hs.2
  obtain ⟨PQ, hPQ⟩ : ∃ PQ : Ending → World → Prop, PQ = fun (e : Ending) (w' : World) => e = .returned (.bool true) ∧ Below w.heap.size w w' := ⟨_, rfl⟩
  have HPQ : Hid (PQ = fun (e : Ending) (w' : World) => e = .returned (.bool true) ∧ Below w.heap.size w w') := hPQ
  rw [← hPQ]
  have HSH : Hid (Calls Tryd.prog 9 #[] w fun e w' => e = .returned (.bool true) ∧ Below w.heap.size w w') := shown_any w ht
  clear hPQ ht hln hops hcells hcap hq hs
  go_enter Tryd.func3, Tryd.ntmps3
  go_upto_region 4 with (go_at_call 9; refine HSH.out.mono ?_; rintro e w1 ⟨rfl, b1⟩; have R1 : Hid (Below w.heap.size w w1) := b1; clear b1 HSH)
  go_upto_region 5 with (go_at_call 10; refine (HWH.out w1).mono ?_; rintro e w2 ⟨rfl, hw2⟩; subst hw2)
  obtain ⟨n, hn⟩ : ∃ n : Nat, n = 8 + q := ⟨_, rfl⟩
  have hnn : (8 : Int) + (q : Int) = (n : Int) := by omega
  have hn8 : 8 ≤ n ∧ n ≤ 4096 := by omega
  rw [hnn]
  clear hnn hn HWH
  refine wp_region_lit ?_
  refine wl_mv (.tmp 6) rfl rfl (.int .i64 (n : Nat)) rfl ?_
  simp only [Act.put, List.setIfInBounds_toArray, List.set_cons_succ, List.set_cons_zero]
  refine wpList_callF eN11 [.const (.int .i64 1), .tmp 17] _ rfl rfl [.int .i64 1, .int .i64 (n : Nat)] rfl ?_
  refine (law_made w w1 R1.out 1 n ⟨by decide, by decide⟩ ⟨by omega, hn8.2⟩).mono ?_
  rintro e w3 ⟨g, c3, rfl, q1, q2, q3⟩
  refine ⟨_, rfl, ?_⟩
  have R3 : Hid ((∀ b, b < w.heap.size → c3 b = (0, 0)) ∧ Live w3 c3 2 g (newPl (List.replicate 1 (n : Int)) []) ∧ Below w.heap.size w w3) := ⟨q1, q2, q3⟩
  clear q1 q2 q3 R1
  simp only [Act.put, List.setIfInBounds_toArray, List.set_cons_succ, List.set_cons_zero]
  refine wl_as (.tmp 18) rfl rfl (ptr g) rfl ?_
  simp only [Act.put, List.setIfInBounds_toArray, List.set_cons_succ, List.set_cons_zero]
  refine wpList_nil ?_
  go_upto_region 8 with fail
  refine wp_region_lit ?_
  refine wl_mv (.tmp 7) rfl rfl (ptr g) rfl ?_
  simp only [Act.put, List.setIfInBounds_toArray, List.set_cons_succ, List.set_cons_zero]
  refine wl_mv (.tmp 6) rfl rfl (.int .i64 (n : Nat)) rfl ?_
  simp only [Act.put, List.setIfInBounds_toArray, List.set_cons_succ, List.set_cons_zero]
  refine wpList_callF eN12 [.tmp 21, .const (.int .i64 0), .tmp 22] _ rfl rfl [ptr g, .int .i64 0, .int .i64 (n : Nat)] rfl ?_
  refine (law_begun R3.out.2.2 ⟨by decide, by decide⟩ hn8 R3.out.2.1 R3.out.1 HT.out).mono ?_
  rintro e w4 ⟨gd, c4, gw4, m4, S4, E4, rfl, q1, _⟩
  refine ⟨_, rfl, ?_⟩
  have R4 : Hid (LawD w w4 c4 gd gw4 g m4 [n] 0 n S4 E4 [] (.slice none 0 0) 0 6000 0) := q1
  clear q1 R3
  simp only [Act.put, List.setIfInBounds_toArray, List.set_cons_succ, List.set_cons_zero]
  refine wl_as (.tmp 23) rfl rfl (ptr gd) rfl ?_
  simp only [Act.put, List.setIfInBounds_toArray, List.set_cons_succ, List.set_cons_zero]
  refine wpList_nil ?_
  go_upto_region 11 with fail
  go_wp2_with fail
  go_loopw [9] (fun vi W => ∃ (k : Nat) (c : Nat → Colour) (gw : Nat) (m : Pl) (S E : Nat) (D : List (List (List Nat))) (nv : Value) (dims : Nat), vi = .int .i64 (k : Nat) ∧ k ≤ ln ∧ LawD w W c gd gw g m [n] 0 n S E D nv dims (6000 + 20000 * k) (10 * k)) (fun vi _ => ln - (intOf vi).toNat)
  case atStart => exact ⟨0, c4, gw4, m4, S4, E4, [], _, 0, rfl, Nat.zero_le _, R4.out⟩
  case round =>
    obtain ⟨k, c, gw, m, S, E, D, nv, dims, rfl, hk, hI⟩ := hrel
    have HI : Hid (LawD w wr c gd gw g m [n] 0 n S E D nv dims (6000 + 20000 * k) (10 * k)) := hI
    clear hI R4
    by_cases hlt : k < ln
    · have t1 : decide ((k : Int) < (ln : Int)) = true := decide_eq_true (by omega)
      have hkl : k < os.length := by rw [← HOS.out.1]; exact hlt
      obtain ⟨o, hoo⟩ : ∃ o, o = os.getD k default := ⟨_, rfl⟩
      have hoin : OpIn w o := by rw [hoo]; exact HOS.out.2.1 _ (getD_mem hkl)
      obtain ⟨b, off, hp, hcl⟩ : ∃ b off, p = some ⟨b, off, none⟩ ∧ ∀ j v, o.cells[j]? = some v → wr.cell? ⟨b, off + k * 4 + j, none⟩ = some v := by
        rcases HOS.out.2.2 with e | ⟨b, off, h1, h2⟩
        · rw [e] at hkl; exact absurd hkl (Nat.not_lt_zero _)
        · refine ⟨b, off, h1, fun j v hj => ?_⟩
          have hj4 : j < 4 := (List.getElem?_eq_some_iff.1 hj).1
          have h3 := h2 k hkl j hj4
          rw [← hoo, hj] at h3
          rw [Nat.add_assoc, ← h3]
          exact World.cell?_of_block (HI.out.below.block b (block_lt_of_cell h3))
      have HC : Hid (p = some ⟨b, off, none⟩ ∧ ∀ j v, o.cells[j]? = some v → wr.cell? ⟨b, off + k * 4 + j, none⟩ = some v) := ⟨hp, hcl⟩
      have HDO : Hid (Calls Tryd.prog 13 #[ptr gd, .agg o.cells.toArray] wr fun e W' => e = .returned (.bool true) ∧ ∃ c' gw' m' S' E' D' nv' dims', LawD w W' c' gd gw' g m' [n] 0 n S' E' D' nv' dims' (6000 + 20000 * (k + 1)) (10 * (k + 1))) := by
        refine (HI.out.does (by omega) (by omega) (hoin.at HI.out.below HI.out.fr3)).mono ?_
        rintro e W' ⟨rfl, c', gw', m', S', E', D', nv', dims', hL, _⟩
        exact ⟨rfl, c', gw', m', S', E', D', nv', dims', hL⟩
      clear hkl hoin hp hcl hoo
      go_upto_region 14 with (refine wl_sl sl22 (.tmp 27) rfl rfl p ln cap rfl ?_)
      refine wp_region_lit ?_
      refine wl_mv (.tmp 8) rfl rfl (ptr gd) rfl ?_
      simp only [Act.put, List.setIfInBounds_toArray, List.set_cons_succ, List.set_cons_zero]
      refine wl_mv (.tmp 1) rfl rfl (.slice p ln cap) rfl ?_
      simp only [Act.put, List.setIfInBounds_toArray, List.set_cons_succ, List.set_cons_zero]
      refine wl_mv (.tmp 9) rfl rfl (.int .i64 (k : Nat)) rfl ?_
      simp only [Act.put, List.setIfInBounds_toArray, List.set_cons_succ, List.set_cons_zero]
      refine wl_ix (.tmp 33) (.tmp 34) rfl rfl (.slice p ln cap) (.pointer (some ⟨b, off + k * 4, none⟩)) (.int .i64 (k : Nat)) rfl rfl (fun w' => by rw [HC.out.1]; exact idx22 b off ln cap k hlt w') ?_
      simp only [Act.put, List.setIfInBounds_toArray, List.set_cons_succ, List.set_cons_zero]
      refine wl_ldA agg33 (.tmp 35) rfl rfl b (off + k * 4) rfl o.cells rfl HC.out.2 ?_
      simp only [Act.put, List.setIfInBounds_toArray, List.set_cons_succ, List.set_cons_zero]
      refine wpList_callF eN13 [.tmp 32, .tmp 36] _ rfl rfl [(ptr gd), (.agg o.cells.toArray)] rfl ?_
      refine HDO.out.mono ?_
      rintro e w5 ⟨rfl, c5, gw5, m5, S5, E5, D5, nv5, d5, q1⟩
      refine ⟨_, rfl, ?_⟩
      have R5 : Hid (LawD w w5 c5 gd gw5 g m5 [n] 0 n S5 E5 D5 nv5 d5 (6000 + 20000 * (k + 1)) (10 * (k + 1))) := q1
      clear q1 HDO HC HI
      simp only [Act.put, List.setIfInBounds_toArray, List.set_cons_succ, List.set_cons_zero]
      refine wl_as (.tmp 37) rfl rfl (.bool true) rfl ?_
      simp only [Act.put, List.setIfInBounds_toArray, List.set_cons_succ, List.set_cons_zero]
      refine wpList_nil ?_
      go_wp2_with fail
      refine ⟨⟨k + 1, c5, gw5, m5, S5, E5, D5, nv5, d5, by go_num, by omega, R5.out⟩, ?_⟩
      simp [intOf]; omega
    · obtain rfl : ln = k := by omega
      have t1 : decide ((ln : Int) < (ln : Int)) = false := decide_eq_false (by omega)
      go_upto_region 17 with (refine wl_sl sl22 (.tmp 27) rfl rfl p ln cap rfl ?_)
      refine wp_region_lit ?_
      refine wl_mv (.tmp 7) rfl rfl (ptr g) rfl ?_
      simp only [Act.put, List.setIfInBounds_toArray, List.set_cons_succ, List.set_cons_zero]
      refine wpList_callF eN14 [.tmp 40, .const (.int .i64 (-1))] _ rfl rfl [ptr g, .int .i64 (-1)] rfl ?_
      refine (HI.out.fuse (-1) (by decide) (by decide)).mono ?_
      rintro e w5 ⟨rfl, c5, q1⟩
      refine ⟨_, rfl, ?_⟩
      obtain ⟨us, q2⟩ := q1.rest
      have R5 : Hid (LawB w w5 c5 gd g (m.fuseTo (-1)) [n] 0 n D (ptr gw) nv us (costs D) dims (6000 + 20000 * ln) (10 * ln)) := q2
      clear q1 q2 HI
      simp only [Act.put, List.setIfInBounds_toArray, List.set_cons_succ, List.set_cons_zero]
      refine wpList_nil ?_
      go_upto_region 18 with fail
      refine wp_region_lit ?_
      refine wl_mv (.tmp 7) rfl rfl (ptr g) rfl ?_
      simp only [Act.put, List.setIfInBounds_toArray, List.set_cons_succ, List.set_cons_zero]
      refine wl rfl _ _ (run_lit31 (.const (.int .i64 0)) rfl 0 rfl) ?_
      obtain ⟨w6, hw6⟩ : ∃ w6, w6 = w5.alloc (.cells #[.int .i64 0] 3) := ⟨_, rfl⟩
      obtain ⟨g6, hg6⟩ : ∃ g6, g6 = w5.heap.size := ⟨_, rfl⟩
      have b6 : Below w5.heap.size w5 w6 := by rw [hw6]; exact below_alloc w5 _
      have r6 : Row w6 g6 3 [.int .i64 0] := by rw [hw6, hg6]; exact Row.new w5 3 _
      rw [← hw6, ← hg6]
      have RK : Hid (KeepX w6 (Fr2 c5 2 gd) (.slice (some ⟨g6, 0, none⟩) 1 1) [0] ∧ LawB w w6 c5 gd g (m.fuseTo (-1)) [n] 0 n D (ptr gw) nv us (costs D) dims (6000 + 20000 * ln) (10 * ln)) := by
        refine ⟨⟨_, 1, rfl, Nat.le_refl _, (by show 1 < 4611686018427387904; decide), Or.inr ⟨g6, 0, rfl, ⟨R5.out.dk.live.2.2 g6 (by omega), by have := R5.out.dk.row.lt; omega⟩, r6.lt, fun j hj => ?_⟩⟩, R5.out.bel b6⟩
        have hj0 : j = 0 := by simp at hj; omega
        subst hj0
        exact r6.at 0 _ rfl
      clear hw6 hg6 b6 r6 R5
      simp only [Act.put, List.setIfInBounds_toArray, List.set_cons_succ, List.set_cons_zero]
      refine wpList_callF eN15 [.tmp 42, .tmp 43] _ rfl rfl [(ptr g), (.slice (some ⟨g6, 0, none⟩) 1 1)] rfl ?_
      refine (RK.out.2.boot (by omega) _ [0] RK.out.1).mono ?_
      rintro e w7 ⟨rfl, c7, q1, _, _⟩
      refine ⟨_, rfl, ?_⟩
      have R7 : Hid (LawB w w7 c7 gd g ((m.fuseTo (-1)).boot [0]) [n] 0 n D (ptr gw) nv us (costs D) dims (6000 + 20000 * ln) (10 * ln)) := q1
      clear q1 RK
      simp only [Act.put, List.setIfInBounds_toArray, List.set_cons_succ, List.set_cons_zero]
      refine wpList_nil ?_
      go_upto_region 19 with fail
      refine wp_region_lit ?_
      refine wl_mv (.tmp 5) rfl rfl (.bool true) rfl ?_
      simp only [Act.put, List.setIfInBounds_toArray, List.set_cons_succ, List.set_cons_zero]
      refine wl_mv (.tmp 45) rfl rfl (.bool true) rfl ?_
      simp only [Act.put, List.setIfInBounds_toArray, List.set_cons_succ, List.set_cons_zero]
      refine wl_mv (.tmp 8) rfl rfl (ptr gd) rfl ?_
      simp only [Act.put, List.setIfInBounds_toArray, List.set_cons_succ, List.set_cons_zero]
      refine wl_mv (.tmp 8) rfl rfl (ptr gd) rfl ?_
      simp only [Act.put, List.setIfInBounds_toArray, List.set_cons_succ, List.set_cons_zero]
      refine wl_nil (.tmp 48) rfl rfl ⟨gd, 0, none⟩ rfl ?_
      simp only [Act.put, List.setIfInBounds_toArray, List.set_cons_succ, List.set_cons_zero]
      refine wl_fld f40_3 (.tmp 49) rfl rfl gd 0 rfl ?_
      simp only [Act.put, List.setIfInBounds_toArray, List.set_cons_succ, List.set_cons_zero]
      refine wl_ld o38 (.tmp 50) rfl rfl gd (0 + 3) rfl nv (R7.out.dk.row.at 3 _ rfl) ?_
      simp only [Act.put, List.setIfInBounds_toArray, List.set_cons_succ, List.set_cons_zero]
      refine wl rfl _ _ (run_lit41_1 (.tmp 51) rfl nv R7.out.sl rfl) ?_
      simp only [Act.put, List.setIfInBounds_toArray, List.set_cons_succ, List.set_cons_zero]
      refine wpList_callW eN16 [.tmp 47, .const (.slice none 0 0), .tmp 52] _ rfl rfl [ptr gd, .slice none 0 0, .slice (some ⟨w7.heap.size, 0, none⟩) 1 1] rfl ?_
      refine (R7.out.opens (by omega) (by omega) _ [] (KeepX.nil _ _)).mono ?_
      rintro e w8 ⟨rfl, c8, gw8, m8, S8, E8, nv8, d8, q1, _⟩
      refine ⟨_, rfl, ?_⟩
      have R8 : Hid (Below w.heap.size w w8) := q1.below
      clear q1 R7
      simp only [Act.put, List.setIfInBounds_toArray, List.set_cons_succ, List.set_cons_zero]
      refine wl rfl _ _ (run_pickZ (.tmp 46) (.tmp 53) (.const (.bool false)) rfl true (.bool true) rfl rfl) ?_
      simp only [Act.put, List.setIfInBounds_toArray, List.set_cons_succ, List.set_cons_zero]
      refine wl_as (.tmp 54) rfl rfl (.bool true) rfl ?_
      simp only [Act.put, List.setIfInBounds_toArray, List.set_cons_succ, List.set_cons_zero]
      refine wpList_nil ?_
      go_wp2_with fail
      rw [HPQ.out]
      exact ⟨rfl, R8.out⟩
end Go.Proofs.YtgcecejamcnkiaaDoor

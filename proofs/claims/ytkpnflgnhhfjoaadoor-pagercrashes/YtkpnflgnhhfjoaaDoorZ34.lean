/- Layer 9: a plant and a pager, as the statements meet them. -/
import Derived.Test.YtkpnflgnhhfjoaaDoorZ33
namespace Go.Proofs.YtkpnflgnhhfjoaaDoor
open Go.RowKit Go.Maps

/-- a plant that the law has made -/
structure PlW (w W : World) (c : Nat → Colour) (g : Nat) (m : Pl) (ds ts : List Nat) (K : Nat) : Prop where
  live : Live W c 2 g m
  tab : Fr.TabIn w
  cc : ∀ b, b < w.heap.size → c b = (0, 0)
  below : Below w.heap.size w W
  shape : ShapeOf m ds ts
  le : m.steps ≤ K
/-- what a call has left as it was -/
structure Stp (W W' : World) (c c' : Nat → Colour) (gp : Nat) : Prop where
  cc : ∀ b, b < W.heap.size → c' b = c b
  ch : Ch (fun b => (c b).1 = 2 ∨ b = gp) W W'
theorem Stp.bel {W W' : World} (c : Nat → Colour) (gp : Nat) (h : Below W.heap.size W W') : Stp W W' c c gp := ⟨fun _ _ => rfl, Ch.of_below h⟩
section
variable {w W W' : World} {c : Nat → Colour} {g : Nat} {m m' : Pl} {ds ts : List Nat} {K : Nat}
theorem PlW.tabW (h : PlW w W c g m ds ts K) : Fr.TabIn W := Fr.TabIn.later h.below h.tab
theorem PlW.tap (h : PlW w W c g m ds ts K) : (c 0).1 ≠ 2 := by rw [h.cc 0 (block_lt_of_cell (h.tab 0#32))]; decide
theorem PlW.bel (h : PlW w W c g m ds ts K) (hb : Below W.heap.size W W') : PlW w W' c g m ds ts K := ⟨h.live.below hb, h.tab, h.cc, h.below.trans (hb.mono h.below.size), h.shape, h.le⟩
theorem PlW.mono {K' : Nat} (h : PlW w W c g m ds ts K) (hk : K ≤ K') : PlW w W c g m ds ts K' := ⟨h.live, h.tab, h.cc, h.below, h.shape, by have := h.le; omega⟩
theorem PlW.dk (h : PlW w W c g m ds ts K) {i : Nat} (hi : i < ds.length) (hon : m.on = true) (hK : K ≤ 1000000000000) : DkOn m ds ts i := ⟨h.shape, hi, hon, by have := h.le; omega⟩
theorem PlW.nx (h : PlW w W c g m ds ts K) (hx : Nx W c 2 g m' W') (hsh : m'.sh = m.sh) {K' : Nat} (hK : m'.steps ≤ K') (gp : Nat) : ∃ c', Stp W W' c c' gp ∧ Ch (fun b => (c b).1 = 2) W W' ∧ PlW w W' c' g m' ds ts K' := by
  obtain ⟨c', h1, h2, h3⟩ := hx
  refine ⟨c', ⟨h1, h3.mono fun _ _ e => Or.inl e⟩, h3, ⟨h2, h.tab, fun b hb => by rw [h1 b (Nat.lt_of_lt_of_le hb h.below.size)]; exact h.cc b hb, h.below.trans (h3.below h.below.size fun i hi e => ?_), by unfold ShapeOf; rw [hsh]; exact h.shape, hK⟩⟩
  rw [h.cc i hi] at e
  cases e
theorem PlW.isOn (h : PlW w W c g m ds ts K) : Calls Tryd.prog 23 #[ptr g] W fun e W' => e = .returned (.bool m.on) ∧ W = W' := h.live.isOn.mono fun _ _ ⟨h1, h2⟩ => ⟨h1, h2.symm⟩
theorem PlW.fuse (h : PlW w W c g m ds ts K) (N : Int) (h0 : -9223372036854775808 ≤ N) (h1 : N ≤ 9223372036854775807) (gp : Nat) : Calls Tryd.prog 25 #[ptr g, .int .i64 N] W fun e W' => e = .returned noResult ∧ ∃ c', Stp W W' c c' gp ∧ PlW w W' c' g (m.fuseTo N) ds ts K := by
  refine (h.live.fuse N h0 h1).mono fun e W' he => ⟨he.1, ?_⟩
  have hs : (m.fuseTo N).sh = m.sh ∧ (m.fuseTo N).steps = m.steps := by unfold Pl.fuseTo; split <;> exact ⟨rfl, rfl⟩
  obtain ⟨c', k1, _, k3⟩ := h.nx he.2.nx hs.1 (K' := K) (by rw [hs.2]; exact h.le) gp
  exact ⟨c', k1, k3⟩
theorem PlW.boot (h : PlW w W c g m ds ts K) (hK : K ≤ 1000000000000) (kv : Value) (ks : List Int) (hk : KeepIn W c 2 kv ks) (gp : Nat) : Calls Tryd.prog 26 #[ptr g, kv] W fun e W' => e = .returned noResult ∧ ∃ c', Stp W W' c c' gp ∧ PlW w W' c' g (m.boot ks) ds ts K := by
  refine (h.live.boot (by have := h.le; omega) kv ks hk).mono fun e W' he => ⟨he.1, ?_⟩
  obtain ⟨c', k1, _, k3⟩ := h.nx he.2.nx (m' := m.boot ks) rfl (K' := K) h.le gp
  exact ⟨c', k1, k3⟩
end
/-- a pager, and its plant, and what its disk has -/
structure PgW (w W : World) (c : Nat → Colour) (gp g : Nat) (m : Pl) (ds ts : List Nat) (i n : Nat) (L : Hd) (U : List Nat) (X : Nat → List Nat) (K : Nat) : Prop where
  pl : PlW w W c g m ds ts K
  pg : Pg W gp g i n L U
  gpn : w.heap.size ≤ gp
  ap : (c gp).1 ≠ 2
  o : PgO m i n L U X
  lt : i < ds.length
section
variable {w W W' : World} {c : Nat → Colour} {gp g : Nat} {m m' : Pl} {ds ts : List Nat} {i n : Nat} {L : Hd} {U : List Nat} {X : Nat → List Nat} {K : Nat}
theorem PgW.npg (h : PgW w W c gp g m ds ts i n L U X K) : n = pagesN (ds.getD i 0) := by
  have h1 := h.o.c.pages
  rw [(h.pl.shape.disk i h.lt).2] at h1
  exact h1
theorem PgW.st (h : PgW w W c gp g m ds ts i n L U X K) (hK : K ≤ 1000000000000) : PgS W c 2 gp g m ds ts i n L U := ⟨h.pl.live, h.pg, h.ap, h.pl.tabW, h.pl.tap, h.pl.dk h.lt h.o.on hK, h.npg, h.o.c.pos, h.o.out⟩
theorem PgW.bel (h : PgW w W c gp g m ds ts i n L U X K) (hb : Below W.heap.size W W') : PgW w W' c gp g m ds ts i n L U X K := ⟨h.pl.bel hb, h.pg.later hb, h.gpn, h.ap, h.o, h.lt⟩
theorem PgW.mono {K' : Nat} (h : PgW w W c gp g m ds ts i n L U X K) (hk : K ≤ K') : PgW w W c gp g m ds ts i n L U X K' := ⟨h.pl.mono hk, h.pg, h.gpn, h.ap, h.o, h.lt⟩
/-- out of what a call gives -/
theorem PgW.of {c' : Nat → Colour} {L2 : Hd} {U2 : List Nat} {X2 : Nat → List Nat} {K2 : Nat} (h : PgW w W c gp g m ds ts i n L U X K) (hcc : ∀ b, b < W.heap.size → c' b = c b) (hch : Ch (fun b => (c b).1 = 2 ∨ b = gp) W W') (hs : PgS W' c' 2 gp g m' ds ts i n L2 U2) (ho : PgO m' i n L2 U2 X2) (hK : m'.steps ≤ K2) : Stp W W' c c' gp ∧ PgW w W' c' gp g m' ds ts i n L2 U2 X2 K2 := by
  refine ⟨⟨hcc, hch⟩, ⟨⟨hs.live, h.pl.tab, fun b hb => by rw [hcc b (Nat.lt_of_lt_of_le hb h.pl.below.size)]; exact h.pl.cc b hb, h.pl.below.trans (hch.below h.pl.below.size fun j hj e => ?_), hs.dk.shape, hK⟩, hs.pg, h.gpn, hs.ap, ho, h.lt⟩⟩
  rcases e with e | e
  · rw [h.pl.cc j hj] at e; cases e
  · have := h.gpn; omega
theorem PgW.root (h : PgW w W c gp g m ds ts i n L U X K) : Calls Tryd.prog 27 #[ptr gp] W fun e W' => e = .returned (.int .i64 L.root) ∧ W = W' := root_any h.pg
theorem PgW.n384 (h : PgW w W c gp g m ds ts i n L U X K) : n ≤ 384 := h.o.c.n384.1
theorem PgW.room (h : PgW w W c gp g m ds ts i n L U X K) : Calls Tryd.prog 29 #[ptr gp] W fun e W' => e = .returned (.int .i64 (roomTo L U n : Nat)) ∧ Below W.heap.size W W' := room_any h.pg h.n384
def ret2 (p : Nat) (e : Int) : Ending := .returned (.tuple #[.int .i64 (p : Nat), .int .i64 e])
theorem PgW.put (h : PgW w W c gp g m ds ts i n L U X K) (hK : K ≤ 1000000000000) (v : Value) (b : List Nat) (hv : SliceIn W v b) : Calls Tryd.prog 15 #[ptr gp, v] W fun e W' => ∃ c', Stp W W' c c' gp ∧
    ((500 < b.length ∧ e = ret2 0 5 ∧ PgW w W' c' gp g m ds ts i n L U X K) ∨
     (b.length ≤ 500 ∧ leastP L U n = none ∧ e = ret2 0 3 ∧ PgW w W' c' gp g m ds ts i n L U X K) ∨
     (∃ p m', b.length ≤ 500 ∧ leastP L U n = some p ∧ 0 ≤ m.fuse ∧ e = ret2 0 2 ∧ m'.on = false ∧ PlW w W' c' g m' ds ts (K + 8) ∧ PgC m' i n L X) ∨
     (∃ p m', b.length ≤ 500 ∧ leastP L U n = some p ∧ e = ret2 p 0 ∧ (m.fuse < 0 → m'.fuse < 0) ∧ PgW w W' c' gp g m' ds ts i n L (withP U p) (updP X p (imOf b)) (K + 8))) := by
  have hs := h.st hK
  have hle := h.pl.le
  have h384 := h.n384
  refine (put_any hs (by omega) v b hv fun p hp hb h0 => ?_).mono fun e W' he => ?_
  · have hl := Lv.wrs (secs8 (imOf b)) (2 + 8 * p) m h.o.lv (secs8_sec (imOf_length (by omega)) (imOf_lt hv.lt256)) (by have := h.o.c.n384; show 2 + 8 * p + 8 ≤ m.size i; omega)
    refine ⟨?_, h.lt, ?_, ?_⟩
    · unfold ShapeOf
      rw [hl.1.oth.sh]
      exact h.pl.shape
    · rcases hl.2 with ⟨_, k, _⟩ | ⟨_, k, _⟩
      · exact k.on
      · rw [h0] at k; cases k
    · have := Pl.wrs_le m (i : Int) (secs8 (imOf b)) (2 + 8 * p)
      have h8 : (secs8 (imOf b)).length = 8 := rfl
      omega
  · by_cases hb : 500 < b.length
    · obtain ⟨e1, e2⟩ := he.long hb
      exact ⟨c, Stp.bel c gp e2, Or.inl ⟨hb, e1, h.bel e2⟩⟩
    · have hb' : b.length ≤ 500 := by omega
      cases hl : leastP L U n with
      | none =>
        obtain ⟨e1, e2⟩ := he.full hb' hl
        exact ⟨c, Stp.bel c gp e2, Or.inr (Or.inl ⟨hb', rfl, e1, h.bel e2⟩)⟩
      | some p =>
        obtain ⟨q1, q2⟩ := leastP_some hl
        have hf1 : bitP U p = false ∧ bitP L.used p = false := by
          unfold freeP at q2
          rw [hasP_nat U p (by omega), hasP_nat L.used p (by omega)] at q2
          simp only [Bool.and_eq_true, Bool.not_eq_true'] at q2
          first | exact q2 | exact ⟨q2.2, q2.1⟩
        obtain ⟨k1, k2, k3, k4⟩ := h.o.put q1 hf1.1 hf1.2 (x := imOf b) (imOf_length (by omega)) (imOf_lt hv.lt256)
        rcases k4 with ⟨r1, r2, r3⟩ | ⟨r1, r2, r3, r4⟩
        · obtain ⟨e1, c', d1, d2, d3⟩ := he.put hb' p hl r1 ⟨by unfold ShapeOf; rw [k1.sh]; exact h.pl.shape, h.lt, r2.on, by omega⟩
          obtain ⟨s1, s2⟩ := h.of d1 d2 d3 r2 (K2 := K + 8) (by omega)
          exact ⟨c', s1, Or.inr (Or.inr (Or.inr ⟨p, _, hb', rfl, e1, r3, s2⟩))⟩
        · obtain ⟨e1, e2⟩ := he.off hb' p hl (by rw [r2]; decide)
          rw [r2] at e1
          obtain ⟨c', s1, _, s3⟩ := h.pl.nx e2 k1.sh (K' := K + 8) (by omega) gp
          exact ⟨c', s1, Or.inr (Or.inr (Or.inl ⟨p, _, hb', rfl, r1, e1, r3, s3, r4⟩))⟩
theorem nextHd_holds (hO : PgO m i n L U X) {r : Int} (h : rootOk U r = true) : Holds (nextHd L r U) n := by
  refine ⟨hO.out, ?_⟩
  unfold rootOk at h
  rcases Bool.or_eq_true _ _ ▸ h with h | h
  · exact Or.inl (of_decide_eq_true h)
  · exact Or.inr h
theorem PgW.commit (h : PgW w W c gp g m ds ts i n L U X K) (hK : K ≤ 1000000000000) (r : Int) : Calls Tryd.prog 19 #[ptr gp, .int .i64 r] W fun e W' => ∃ c', Stp W W' c c' gp ∧
    ((rootOk U r = false ∧ e = .returned (.int .i64 90) ∧ PgW w W' c' gp g m ds ts i n L U X K) ∨
     (∃ m', rootOk U r = true ∧ 0 ≤ m.fuse ∧ e = .returned (.int .i64 2) ∧ m'.on = false ∧ PlW w W' c' g m' ds ts (K + 3) ∧ ∀ ks, PgO (m'.boot ks) i n L L.used X ∨ PgO (m'.boot ks) i n (nextHd L r U) U X) ∨
     (∃ m', rootOk U r = true ∧ e = .returned (.int .i64 0) ∧ (m.fuse < 0 → m'.fuse < 0) ∧ m'.wt i = [] ∧ PgW w W' c' gp g m' ds ts i n (nextHd L r U) U X (K + 3))) := by
  have hs := h.st hK
  have hle := h.pl.le
  have key : rootOk U r = true → _ := fun hr => h.o.commit (L2 := nextHd L r U) (nextHd_wf h.o.us hr) (nextHd_holds h.o hr) rfl rfl
  have hdk : rootOk U r = true → (m.commit i (nextHd L r U)).1 = 0 → DkOn (m.commit i (nextHd L r U)).2 ds ts i := fun hr h0 => by
    obtain ⟨k1, k2, k3, k4⟩ := key hr
    rcases k4 with ⟨_, r2, _⟩ | ⟨_, r2, _⟩
    · exact ⟨by unfold ShapeOf; rw [k1.sh]; exact h.pl.shape, h.lt, r2.on, by omega⟩
    · rw [h0] at r2; cases r2
  refine (commit_any hs (by omega) r hdk).mono fun e W' he => ?_
  cases hr : rootOk U r with
  | false =>
    obtain ⟨e1, e2⟩ := he.bad hr
    exact ⟨c, Stp.bel c gp e2, Or.inl ⟨rfl, e1, h.bel e2⟩⟩
  | true =>
    obtain ⟨k1, k2, k3, k4⟩ := key hr
    rcases k4 with ⟨r1, r2, r3, r4⟩ | ⟨r1, r2, r3, r4⟩
    · obtain ⟨e1, c', d1, d2, d3⟩ := he.com hr r1 (hdk hr r1)
      obtain ⟨s1, s2⟩ := h.of d1 d2 d3 r2 (K2 := K + 3) (by omega)
      exact ⟨c', s1, Or.inr (Or.inr ⟨_, rfl, e1, r4, r3, s2⟩)⟩
    · obtain ⟨e1, e2⟩ := he.off hr (by rw [r2]; decide)
      rw [r2] at e1
      obtain ⟨c', s1, _, s3⟩ := h.pl.nx e2 k1.sh (K' := K + 3) (by omega) gp
      exact ⟨c', s1, Or.inr (Or.inl ⟨_, rfl, r1, e1, r3, s3, r4⟩)⟩
theorem PgW.free (h : PgW w W c gp g m ds ts i n L U X K) (hK : K ≤ 1000000000000) (p : Int) : Calls Tryd.prog 17 #[ptr gp, .int .i64 p] W fun e W' => Stp W W' c c gp ∧
    ((hasP U p = false ∧ e = .returned (.int .i64 90) ∧ PgW w W' c gp g m ds ts i n L U X K) ∨ (hasP U p = true ∧ e = .returned (.int .i64 0) ∧ PgW w W' c gp g m ds ts i n L (lessP U p.toNat) X K)) := by
  have hs := h.st hK
  refine (pfree_any hs p).mono fun e W' he => ?_
  rcases he with ⟨h1, h2, h3⟩ | ⟨h1, h2, h3, h4⟩
  · exact ⟨Stp.bel c gp h3, Or.inl ⟨h1, h2, h.bel h3⟩⟩
  · obtain ⟨k, hk1, hk2⟩ := hs.page h1
    have hk3 := h.n384
    obtain ⟨s1, s2⟩ := h.of (fun _ _ => rfl) (h3.mono fun _ _ e => Or.inr e) h4 (h.o.free (by omega)) h.pl.le
    exact ⟨s1, Or.inr ⟨h1, h2, s2⟩⟩
theorem PgW.page (h : PgW w W c gp g m ds ts i n L U X K) (p : Int) (hp : hasP U p = true) : pageAt m i p.toNat = X p.toNat := by
  have hb := hasP_bound hp
  have e : p = ((p.toNat : Nat) : Int) := by omega
  have h3 := h.n384
  have hk2 : p.toNat < n := by
    rcases Nat.lt_or_ge p.toNat n with h1 | h1
    · exact h1
    · have h2 := h.o.out p.toNat h1 (by omega)
      rw [e, hasP_nat U _ (by omega), h2] at hp
      cases hp
  refine h.o.read hk2 ?_
  rw [e, hasP_nat U _ (by omega)] at hp
  exact hp
theorem PgW.read (h : PgW w W c gp g m ds ts i n L U X K) (hK : K ≤ 1000000000000) (p : Int) : Calls Tryd.prog 28 #[ptr gp, .int .i64 p] W fun e W' => Below W.heap.size W W' ∧ ((hasP U p = false ∧ e = .returned (.tuple #[.slice none 0 0, .int .i64 90])) ∨ (hasP U p = true ∧ readV (X p.toNat) = false ∧ e = .returned (.tuple #[.slice none 0 0, .int .i64 4])) ∨ ∃ v, hasP U p = true ∧ readV (X p.toNat) = true ∧ NewB W W' v (imBytes (X p.toNat)) ∧ e = .returned (.tuple #[v, .int .i64 0])) := by
  refine (pread_any (h.st hK) p).mono fun e W' ⟨h1, h2⟩ => ⟨h1, ?_⟩
  rcases h2 with h2 | ⟨h2, h3, h4⟩ | ⟨v, h2, h3, h4, h5⟩
  · exact Or.inl h2
  · rw [h.page p h2] at h3
    exact Or.inr (Or.inl ⟨h2, h3, h4⟩)
  · rw [h.page p h2] at h3 h4
    exact Or.inr (Or.inr ⟨v, h2, h3, h4, h5⟩)
theorem readV_of {b : List Nat} (h : b.length ≤ 500) : readV (imOf b) = true := imOk_of h
theorem PlW.opens (h : PlW w W c g m ds ts K) (hK : K ≤ 1000000000000) (hi : i < ds.length) (o : PgO m i n L L.used X) : Calls Tryd.prog 13 #[ptr g, .int .i64 (i : Nat)] W fun e W' => ∃ gp, W.heap.size ≤ gp ∧ e = .returned (.tuple #[ptr gp, .int .i64 0]) ∧ Below W.heap.size W W' ∧ PgW w W' c gp g m ds ts i n L L.used X K := by
  have hn : n = pagesN (ds.getD i 0) := by
    have h1 := o.c.pages
    rw [(h.shape.disk i hi).2] at h1
    exact h1
  refine (open_any h.live (h.dk hi o.on hK) hn o.c.pos h.tabW).mono fun e W' ⟨h1, h2⟩ => ?_
  have hl := o.c.h.last
  rcases h2 with ⟨h2, _⟩ | ⟨L2, gp, h2, h3, h4, h5, h6⟩
  · rw [hl] at h2; cases h2
  · rw [hl] at h2
    injection h2 with h2
    subst h2
    exact ⟨gp, h4, h5, h1, ⟨h.bel h1, ⟨h6, h3, h3.used⟩, Nat.le_trans h.below.size h4, h.live.2.2 gp h4, o, hi⟩⟩
theorem PlW.openNone (h : PlW w W c g m ds ts K) (hK : K ≤ 1000000000000) (hi : i < ds.length) (hon : m.on = true) (hn : n = pagesN (ds.getD i 0)) (hn1 : 1 ≤ n) (hl : lastOf (m.rd i) n = none) : Calls Tryd.prog 13 #[ptr g, .int .i64 (i : Nat)] W fun e W' => e = .returned (.tuple #[.pointer none, .int .i64 4]) ∧ Below W.heap.size W W' := by
  refine (open_any h.live (h.dk hi hon hK) hn hn1 h.tabW).mono fun e W' ⟨h1, h2⟩ => ?_
  rcases h2 with ⟨_, h3⟩ | ⟨L2, gp, h2, _⟩
  · exact ⟨h3, h1⟩
  · rw [hl] at h2; cases h2
theorem PlW.formatNew (h : PlW w W c g m ds ts K) (hK : K ≤ 1000000000000) (hi : i < ds.length) (hlv : Lv m i) (hf : m.fuse < 0) (hn : n = pagesN (ds.getD i 0)) (hn1 : 1 ≤ n) (hl : lastOf (m.rd i) n = none) (hX : Imgs X) (gp : Nat) : Calls Tryd.prog 11 #[ptr g, .int .i64 (i : Nat)] W fun e W' => e = .returned (.int .i64 0) ∧ ∃ c' m', Stp W W' c c' gp ∧ PlW w W' c' g m' ds ts (K + 6) ∧ PgO m' i n (noHd 1) noneP X ∧ m'.wt i = [] ∧ m'.fuse < 0 := by
  have hle := h.le
  have e1 : m.formatP i n = m.layFirst i := by unfold Pl.formatP; rw [hl]
  obtain ⟨q1, q2, q3, q4, q5, q6⟩ := hlv.layFirst (X := X) (by rw [(h.shape.disk i hi).2]; exact hn) hn1 hf hX
  refine (format_any h.live (h.dk hi hlv.on hK) (by omega) hn hn1 h.tabW h.tap).mono fun e W' ⟨h1, h2⟩ => ?_
  rw [e1] at h1 h2
  rw [q1] at h1
  obtain ⟨c', s1, _, s3⟩ := h.nx h2 q5.sh (K' := K + 6) (by omega) gp
  exact ⟨h1, c', _, s1, s3, q2, q3, q4⟩
end
/-- a new plant -/
theorem hdOk_zeros : hdOk zeros = false := by decide
theorem headAt_zeros {Y : Nat → List Nat} {n k : Nat} (h : Y k = zeros) : headAt Y n k = none := by
  unfold headAt
  rw [h, hdOk_zeros]
  rfl
theorem newPl_one (n : Nat) : ShapeOf (newPl [(n : Int)] []) [n] [] := by
  unfold ShapeOf newPl
  simp
theorem shapeOk_disk (n : Nat) (hn : 1 ≤ n ∧ n ≤ 4096) : shapeOk [(n : Int)] [] = true := by
  unfold shapeOk sizesOk
  simp
  omega
theorem PlW.new {w W : World} (hb : Below w.heap.size w W) (ht : Fr.TabIn w) (n : Nat) (hn : 1 ≤ n ∧ n ≤ 4096) (vd : Value) (hd : IntsIn W vd [(n : Int)]) : Calls Tryd.prog 10 #[.agg #[vd, .slice none 0 0]] W fun e W' => ∃ g c', e = .returned (.tuple #[ptr g, .int .i64 0]) ∧ Below W.heap.size W W' ∧ PlW w W' c' g (newPl [(n : Int)] []) [n] [] 0 := by
  refine (Live.new W (fun _ => (0, 0)) 2 vd _ _ [] hd ⟨none, 0, rfl, Nat.le_refl _, by decide, Or.inl rfl⟩ (shapeOk_disk n hn)).mono ?_
  rintro e W' ⟨g, c', rfl, h1, h2, _, h4, h5⟩
  exact ⟨g, c', rfl, h5, ⟨h4, ht, fun b hlt => h2 b (Nat.lt_of_lt_of_le hlt hb.size), hb.trans (h5.mono hb.size), newPl_one n, Nat.le_refl _⟩⟩
end Go.Proofs.YtkpnflgnhhfjoaaDoor

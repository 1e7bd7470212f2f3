/- A pager and the document's pager side by side: what each call does to both. The calls that come in; a new plant of two disks and a tape. A pager, the document's pager, and bytes of the law's own. -/
import Derived.Test.YtkpnflgnhhfjoaaDoorZ41
import Derived.Test.YtkpnflgnhhfjoaaDoorZ07
import Derived.Deep.CutRange
import Derived.Deep.CutBlock
namespace Go.Proofs.YtkpnflgnhhfjoaaDoor
open Go.RowKit Go.Maps

/-- blocks that neither came in, nor are the plant's or the pager's -/
def SS (w : World) (c : Nat → Colour) (gp : Nat) (b : Nat) : Prop := w.heap.size ≤ b ∧ (c b).1 ≠ 2 ∧ b ≠ gp
section
variable {w W W' : World} {c c' : Nat → Colour} {gp g : Nat} {m : Pl} {ds ts : List Nat} {i n : Nat} {L : Hd} {U : List Nat} {X : Nat → List Nat} {K gy : Nat} {r : RefS}
theorem PgW.fresh (h : PgW w W c gp g m ds ts i n L U X K) {b : Nat} (hb : W.heap.size ≤ b) : SS w c gp b := ⟨Nat.le_trans h.pl.below.size hb, h.pl.live.2.2 b hb, fun e => by have := h.pg.row.lt; omega⟩
theorem SS.stp {b : Nat} (h : SS w c gp b) (hs : Stp W W' c c' gp) (hb : b < W.heap.size) : SS w c' gp b := ⟨h.1, by rw [hs.cc b hb]; exact h.2.1, h.2.2⟩
theorem Ref.stp {S S' : Nat → Prop} (h : Ref S W gy n r) (hs : Stp W W' c c' gp) (h1 : ∀ b, b < W.heap.size → S b → (c b).1 ≠ 2 ∧ b ≠ gp) (h2 : ∀ b, b < W.heap.size → S b → S' b) : Ref S' W' gy n r := by
  have h3 : Ref (fun b => S b ∧ b < W.heap.size) W gy n r := h.mono fun b hb e => ⟨e, hb⟩
  have h4 : Ref (fun b => S b ∧ b < W.heap.size) W' gy n r := h3.keep fun b hb e => hs.ch.block b hb fun e2 => e2.elim (h1 b hb e.1).1 (h1 b hb e.1).2
  exact h4.mono fun b _ e => h2 b e.2 e.1
theorem Ref.ssStp (h : Ref (SS w c gp) W gy n r) (hs : Stp W W' c c' gp) : Ref (SS w c' gp) W' gy n r := h.stp hs (fun _ _ e => ⟨e.2.1, e.2.2⟩) fun _ hb e => e.stp hs hb
end
structure Duo (w W : World) (c : Nat → Colour) (gp g : Nat) (m : Pl) (ds ts : List Nat) (i n : Nat) (L : Hd) (U : List Nat) (X : Nat → List Nat) (K gy : Nat) (r : RefS) : Prop where
  pg : PgW w W c gp g m ds ts i n L U X K
  rf : Ref (SS w c gp) W gy n r
  rel : Rls L U X r n
theorem Duo.bel {w W W' : World} {c : Nat → Colour} {gp g : Nat} {m : Pl} {ds ts : List Nat} {i n : Nat} {L : Hd} {U : List Nat} {X : Nat → List Nat} {K gy : Nat} {r : RefS} (h : Duo w W c gp g m ds ts i n L U X K gy r) (hb : Below W.heap.size W W') : Duo w W' c gp g m ds ts i n L U X K gy r := ⟨h.pg.bel hb, h.rf.later hb, h.rel⟩
theorem Duo.mono {w W : World} {c : Nat → Colour} {gp g : Nat} {m : Pl} {ds ts : List Nat} {i n : Nat} {L : Hd} {U : List Nat} {X : Nat → List Nat} {K K' gy : Nat} {r : RefS} (h : Duo w W c gp g m ds ts i n L U X K gy r) (hk : K ≤ K') : Duo w W c gp g m ds ts i n L U X K' gy r := ⟨h.pg.mono hk, h.rf, h.rel⟩
theorem Duo.pos {w W : World} {c : Nat → Colour} {gp g : Nat} {m : Pl} {ds ts : List Nat} {i n : Nat} {L : Hd} {U : List Nat} {X : Nat → List Nat} {K gy : Nat} {r : RefS} (h : Duo w W c gp g m ds ts i n L U X K gy r) : 1 ≤ n ∧ n ≤ 384 := ⟨h.pg.o.c.pos, h.pg.n384⟩
/-- the pager's side of a Put -/
def PutP (n : Nat) (L : Hd) (U U' : List Nat) (X X' : Nat → List Nat) (b : List Nat) (q : Nat) (er : Int) : Prop := ∀ {w W : World} {c : Nat → Colour} {gp g : Nat} {m : Pl} {ds ts : List Nat} {i K : Nat} (v : Value), PgW w W c gp g m ds ts i n L U X K → K ≤ 1000000000000 → SliceIn W v b → Calls Tryd.prog 15 #[ptr gp, v] W fun e W' => ∃ c', Stp W W' c c' gp ∧ ((∃ m', e = ret2 q er ∧ (m.fuse < 0 → m'.fuse < 0) ∧ PgW w W' c' gp g m' ds ts i n L U' X' (K + 8)) ∨ (∃ m', 0 ≤ m.fuse ∧ e = ret2 0 2 ∧ m'.on = false ∧ PlW w W' c' g m' ds ts (K + 8) ∧ PgC m' i n L X))
/-- the document's side of it -/
def PutD (n : Nat) (r r' : RefS) (b : List Nat) (q : Nat) (er : Int) : Prop := ∀ (S : Nat → Prop) (W : World) (gy : Nat) (v : Value), Ref S W gy n r → 1 ≤ n ∧ n ≤ 384 → (∀ b, W.heap.size ≤ b → S b) → (∀ W', Ch S W W' → SliceIn W' v b) → Calls Tryd.prog 16 #[ptr gy, v] W fun e W' => e = ret2 q er ∧ Ch S W W' ∧ Ref S W' gy n r'
theorem put_plan {L : Hd} {U : List Nat} {X : Nat → List Nat} {r : RefS} {n : Nat} (hrel : Rls L U X r n) (hl : r.Len n) (hu : USet U) (hn : n ≤ 384) (b : List Nat) : ∃ (q : Nat) (er : Int) (U' : List Nat) (X' : Nat → List Nat) (r' : RefS), er ≠ 2 ∧ Rls L U' X' r' n ∧ PutP n L U U' X X' b q er ∧ PutD n r r' b q er := by
  by_cases hb : 500 < b.length
  · refine ⟨0, 5, U, X, r, by decide, hrel, ?_, ?_⟩
    · intro w W c gp g m ds ts i K v h hK hv
      refine (h.put hK v b hv).mono ?_
      rintro e W' ⟨c', hs, ⟨_, h2, h3⟩ | ⟨h1, _⟩ | ⟨p, m', h1, _⟩ | ⟨p, m', h1, _⟩⟩
      · exact ⟨c', hs, Or.inl ⟨m, h2, id, h3.mono (by omega)⟩⟩
      · omega
      · omega
      · omega
    · intro S W gy v h hn2 hS hin
      refine (rput_any S W gy n r h hn2 hS v b hin).mono ?_
      rintro e W' (⟨_, h2, rfl⟩ | ⟨h1, _⟩ | ⟨h1, _⟩)
      · exact ⟨h2, Ch.refl S W, h⟩
      · omega
      · omega
  · have hb' : b.length ≤ 500 := by omega
    by_cases hf : ∀ j, j < n → freeR r j = false
    · have hnone := hrel.none hn hf
      refine ⟨0, 3, U, X, r, by decide, hrel, ?_, ?_⟩
      · intro w W c gp g m ds ts i K v h hK hv
        refine (h.put hK v b hv).mono ?_
        rintro e W' ⟨c', hs, ⟨h1, _⟩ | ⟨_, _, h2, h3⟩ | ⟨p, m', _, h1, _⟩ | ⟨p, m', _, h1, _⟩⟩
        · omega
        · exact ⟨c', hs, Or.inl ⟨m, h2, id, h3.mono (by omega)⟩⟩
        · rw [hnone] at h1; cases h1
        · rw [hnone] at h1; cases h1
      · intro S W gy v h hn2 hS hin
        refine (rput_any S W gy n r h hn2 hS v b hin).mono ?_
        rintro e W' (⟨h1, _⟩ | ⟨_, _, h2, rfl⟩ | ⟨_, k, h1, h2, _⟩)
        · omega
        · exact ⟨h2, Ch.refl S W, h⟩
        · rw [hf k h1] at h2; cases h2
    · cases hl2 : leastP L U n with
      | none => exact absurd (fun j hj => by rw [← hrel.free hn j hj]; exact leastP_none hl2 j hj) hf
      | some k =>
        obtain ⟨hk, hfk⟩ := leastP_some hl2
        have hfr : freeR r k = true := by rw [← hrel.free hn k hk]; exact hfk
        refine ⟨k, 0, withP U k, updP X k (imOf b), { r with us := r.us.set k true, lb := r.lb.set k b }, by decide, hrel.put hl hu hn k hk hfr b hb', ?_, ?_⟩
        · intro w W c gp g m ds ts i K v h hK hv
          refine (h.put hK v b hv).mono ?_
          rintro e W' ⟨c', hs, ⟨h1, _⟩ | ⟨_, h1, _⟩ | ⟨p, m', _, h1, h2, h3, h4, h5, h6⟩ | ⟨p, m', _, h1, h2, h3, h4⟩⟩
          · omega
          · rw [hl2] at h1; cases h1
          · exact ⟨c', hs, Or.inr ⟨m', h2, h3, h4, h5, h6⟩⟩
          · rw [hl2] at h1
            injection h1 with h1
            subst h1
            exact ⟨c', hs, Or.inl ⟨m', h2, h3, h4⟩⟩
        · intro S W gy v h hn2 hS hin
          refine (rput_any S W gy n r h hn2 hS v b hin).mono ?_
          rintro e W' (⟨h1, _⟩ | ⟨_, h1, _⟩ | ⟨_, k2, h1, h2, h3, h4, h5, h6⟩)
          · omega
          · rw [h1 k hk] at hfr; cases hfr
          · have e2 := hrel.least hn k2 h1 h2 h3
            rw [hl2] at e2
            injection e2 with e2
            subst e2
            exact ⟨h4, h5, h6⟩
def FreeP (n : Nat) (L : Hd) (U U' : List Nat) (X : Nat → List Nat) (p er : Int) : Prop := ∀ {w W : World} {c : Nat → Colour} {gp g : Nat} {m : Pl} {ds ts : List Nat} {i K : Nat}, PgW w W c gp g m ds ts i n L U X K → K ≤ 1000000000000 → Calls Tryd.prog 17 #[ptr gp, .int .i64 p] W fun e W' => e = .returned (.int .i64 er) ∧ Stp W W' c c gp ∧ PgW w W' c gp g m ds ts i n L U' X K
def FreeD (n : Nat) (r r' : RefS) (p er : Int) : Prop := ∀ (S : Nat → Prop) (W : World) (gy : Nat), Ref S W gy n r → 1 ≤ n ∧ n ≤ 384 → Calls Tryd.prog 18 #[ptr gy, .int .i64 p] W fun e W' => e = .returned (.int .i64 er) ∧ Ch S W W' ∧ Ref S W' gy n r'
theorem free_plan {L : Hd} {U : List Nat} {X : Nat → List Nat} {r : RefS} {n : Nat} (hrel : Rls L U X r n) (hl : r.Len n) (hu : USet U) (hn : n ≤ 384) (hout : ∀ p, n ≤ p → p < 384 → bitP U p = false) (p : Int) : ∃ (er : Int) (U' : List Nat) (r' : RefS), Rls L U' X r' n ∧ FreeP n L U U' X p er ∧ FreeD n r r' p er := by
  have hp := hrel.used hl hn hout p
  cases hc : r.used p with
  | false =>
    rw [hc] at hp
    refine ⟨90, U, r, hrel, ?_, ?_⟩
    · intro w W c gp g m ds ts i K h hK
      refine (h.free hK p).mono ?_
      rintro e W' ⟨hs, ⟨_, h2, h3⟩ | ⟨h1, _⟩⟩
      · exact ⟨h2, hs, h3⟩
      · rw [hp] at h1; cases h1
    · intro S W gy h hn2
      refine (rfree_any S W gy n r h hn p).mono ?_
      rintro e W' (⟨_, h2, rfl⟩ | ⟨h1, _⟩)
      · exact ⟨h2, Ch.refl S W, h⟩
      · rw [hc] at h1; cases h1
  | true =>
    rw [hc] at hp
    obtain ⟨k, rfl, hk⟩ := used_lt hc
    rw [hl.u] at hk
    refine ⟨0, lessP U k, { r with us := r.us.set k false }, hrel.less hl hu hn k hk, ?_, ?_⟩
    · intro w W c gp g m ds ts i K h hK
      refine (h.free hK (k : Nat)).mono ?_
      rintro e W' ⟨hs, ⟨h1, _⟩ | ⟨_, h2, h3⟩⟩
      · rw [hp] at h1; cases h1
      · exact ⟨h2, hs, h3⟩
    · intro S W gy h hn2
      refine (rfree_any S W gy n r h hn (k : Nat)).mono ?_
      rintro e W' (⟨h1, _⟩ | ⟨_, h2, h3, h4⟩)
      · rw [hc] at h1; cases h1
      · exact ⟨h2, h3, h4⟩
def ComP (n : Nat) (L L' : Hd) (U : List Nat) (X : Nat → List Nat) (p er : Int) : Prop := ∀ {w W : World} {c : Nat → Colour} {gp g : Nat} {m : Pl} {ds ts : List Nat} {i K : Nat}, PgW w W c gp g m ds ts i n L U X K → K ≤ 1000000000000 → Calls Tryd.prog 19 #[ptr gp, .int .i64 p] W fun e W' => ∃ c', Stp W W' c c' gp ∧ ((∃ m', e = .returned (.int .i64 er) ∧ (m.fuse < 0 → m'.fuse < 0) ∧ PgW w W' c' gp g m' ds ts i n L' U X (K + 3)) ∨ (∃ m', er = 0 ∧ 0 ≤ m.fuse ∧ e = .returned (.int .i64 2) ∧ m'.on = false ∧ PlW w W' c' g m' ds ts (K + 3) ∧ ∀ ks, PgO (m'.boot ks) i n L L.used X ∨ PgO (m'.boot ks) i n L' L'.used X))
def ComD (n : Nat) (r r' : RefS) (p er : Int) : Prop := ∀ (S : Nat → Prop) (W : World) (gy : Nat), Ref S W gy n r → 1 ≤ n ∧ n ≤ 384 → (∀ b, W.heap.size ≤ b → S b) → Calls Tryd.prog 20 #[ptr gy, .int .i64 p] W fun e W' => e = .returned (.int .i64 er) ∧ Ch (· = gy) W W' ∧ Ref S W' gy n r'
theorem com_plan {L : Hd} {U : List Nat} {X : Nat → List Nat} {r : RefS} {n : Nat} (hrel : Rls L U X r n) (hl : r.Len n) (hn : n ≤ 384) (hout : ∀ p, n ≤ p → p < 384 → bitP U p = false) (p : Int) : ∃ (er : Int) (L' : Hd) (r' : RefS), (er = 0 ∨ er = 90) ∧ Rls L' U X r' n ∧ ComP n L L' U X p er ∧ ComD n r r' p er := by
  have hp : rootOk U p = r.ok p := by unfold rootOk RefS.ok; rw [hrel.used hl hn hout p]
  cases hc : r.ok p with
  | false =>
    rw [hc] at hp
    refine ⟨90, L, r, Or.inr rfl, hrel, ?_, ?_⟩
    · intro w W c gp g m ds ts i K h hK
      refine (h.commit hK p).mono ?_
      rintro e W' ⟨c', hs, ⟨_, h2, h3⟩ | ⟨m', h1, _⟩ | ⟨m', h1, _⟩⟩
      · exact ⟨c', hs, Or.inl ⟨m, h2, id, h3.mono (by omega)⟩⟩
      · rw [hp] at h1; cases h1
      · rw [hp] at h1; cases h1
    · intro S W gy h hn2 hS
      refine (rcommit_any S W gy n r h hn2 hS p).mono ?_
      rintro e W' (⟨_, h2, rfl⟩ | ⟨h1, _⟩)
      · exact ⟨h2, Ch.refl _ W, h⟩
      · rw [hc] at h1; cases h1
  | true =>
    rw [hc] at hp
    refine ⟨0, nextHd L p U, { r with rt := p, ws := r.us, lc := r.lb }, Or.inl rfl, hrel.commit p, ?_, ?_⟩
    · intro w W c gp g m ds ts i K h hK
      refine (h.commit hK p).mono ?_
      rintro e W' ⟨c', hs, ⟨h1, _⟩ | ⟨m', _, h2, h3, h4, h5, h6⟩ | ⟨m', _, h2, h3, _, h4⟩⟩
      · rw [hp] at h1; cases h1
      · exact ⟨c', hs, Or.inr ⟨m', rfl, h2, h3, h4, h5, h6⟩⟩
      · exact ⟨c', hs, Or.inl ⟨m', h2, h3, h4⟩⟩
    · intro S W gy h hn2 hS
      refine (rcommit_any S W gy n r h hn2 hS p).mono ?_
      rintro e W' (⟨h1, _⟩ | ⟨_, h2, h3, h4⟩)
      · rw [hc] at h1; cases h1
      · exact ⟨h2, h3, h4⟩
end Go.Proofs.YtkpnflgnhhfjoaaDoor

namespace Go.Proofs.YtkpnflgnhhfjoaaDoor
open Go.RowKit Go.Maps

structure OpD where
  k : Int
  N : Int
  bv : Value
  kv : Value
  b : List Nat
  ks : List Int
deriving Inhabited
def OpD.cells (o : OpD) : List Value := [.int .i64 o.k, .int .i64 o.N, o.bv, o.kv]
structure OpIn (W : World) (o : OpD) : Prop where
  k : -9223372036854775808 ≤ o.k ∧ o.k ≤ 9223372036854775807
  n : -9223372036854775808 ≤ o.N ∧ o.N ≤ 9223372036854775807
  b : SliceIn W o.bv o.b
  keep : IntsIn W o.kv o.ks
  len : o.b.length ≤ 1048576
def OpsIn (W : World) (v : Value) (os : List OpD) : Prop :=
  ∃ p cap, v = .slice p os.length cap ∧ os.length ≤ cap ∧ os.length ≤ 1048576 ∧ (os = [] ∨ ∃ b off, p = some ⟨b, off, none⟩ ∧ ∀ i, i < os.length → ∀ j, j < 4 → W.cell? ⟨b, off + (i * 4 + j), none⟩ = (os.getD i default).cells[j]?) ∧ ∀ o ∈ os, OpIn W o
/-- one call, wherever the law is -/
theorem OpsIn.at {w : World} {p : Option Addr} {n cap : Nat} {os : List OpD} (h : OpsIn w (.slice p n cap) os) (i : Nat) (hi : i < n) : ∃ b off o, p = some ⟨b, off, none⟩ ∧ OpIn w o ∧ ∀ W, Below w.heap.size w W → (∀ (j : Nat) v, o.cells[j]? = some v → W.cell? ⟨b, off + i * 4 + j, none⟩ = some v) ∧ SliceIn W o.bv o.b := by
  obtain ⟨p', cap', h1, _, _, h3, h4⟩ := h
  injection h1 with h1 h5 h6
  subst h1
  subst h5
  rcases h3 with h3 | ⟨b, off, h7, h8⟩
  · rw [h3] at hi; exact absurd hi (Nat.not_lt_zero _)
  · have hm : os.getD i default ∈ os := by rw [List.getD_eq_getElem?_getD, List.getElem?_eq_getElem hi]; exact List.getElem_mem hi
    have ho := h4 _ hm
    refine ⟨b, off, os.getD i default, h7, ho, fun W hW => ⟨fun j v hv => ?_, SliceIn.later hW ho.b⟩⟩
    have hj : j < 4 := by
      have := (List.getElem?_eq_some_iff.1 hv).1
      simpa [OpD.cells] using this
    have h9 := h8 i hi j hj
    rw [hv, show off + (i * 4 + j) = off + i * 4 + j by omega] at h9
    rw [← h9]
    exact World.cell?_of_block (hW.block b (block_lt_of_cell h9))
theorem OpsIn.len {w : World} {p : Option Addr} {n cap : Nat} {os : List OpD} (h : OpsIn w (.slice p n cap) os) : n ≤ 1048576 := by
  obtain ⟨p', cap', h1, _, h2, _⟩ := h
  injection h1 with h1 h5 h6
  omega
theorem o38 : OneT 38 := o38'
theorem o28 : OneT 28 := fun w g o v h => by simp [loadVar, isAgg, run_underlying Tryd.underlying28, h]
theorem f40_0 : FieldAt 40 0 0 := fun w g off => by kernel_rfl
theorem f40_1 : FieldAt 40 1 1 := fun w g off => by kernel_rfl
theorem f40_2 : FieldAt 40 2 2 := fun w g off => by kernel_rfl
theorem f40_3 : FieldAt 40 3 3 := fun w g off => by kernel_rfl
theorem ag40 : AggT 40 4 := ⟨Or.inl ⟨((Tryd.prog.underlying 40).bind fun d => match d with | .struct fs => some fs | _ => none).getD #[], by kernel_rfl⟩, by kernel_rfl⟩
def z40 : List Value := [.int .i64 0, .int .i64 0, .slice none 0 0, .slice none 0 0]
theorem zero40 : (Tryd.prog.info? 40).map (·.zero) = some (some (.agg z40.toArray)) := by kernel_rfl
theorem sz40 : (Tryd.prog.info? 40).map (·.size) = some 4 := by kernel_rfl
theorem sl22e : Tryd.prog.underlying 22 = some (.slice 40) := by kernel_rfl
theorem sl22 : Tryd.prog.underlying 22 = some (.slice (Tryd.prog.elem 22)) := by kernel_rfl
theorem run_ix22 {w : World} {a : Act} {o : Oper} (x i : Operand) (ho : o.op = .indexAddr 22 x i) (g off n cap j : Nat) (hx : a.eval x = .slice (some ⟨g, off, none⟩) n cap) (hi : a.eval i = .int .i64 (j : Nat)) (hj : j < n) : (execOp a.eval o).run Tryd.prog w = .ok (.value (.pointer (some ⟨g, off + j * 4, none⟩))) w := by
  obtain ⟨i5, hi5, hsz⟩ := Option.map_eq_some_iff.1 sz40
  simp [execOp, ho, hx, hi, Instr.indexAt, asIntOf, run_underlying sl22e, hj, sizeOf, typeInfo, hi5, hsz, add_none]
theorem op_one {w : World} {o : OpD} (h : OpIn w o) : ∀ v ∈ o.cells, v.oneCell' = true := by
  intro v hv
  simp [OpD.cells] at hv
  obtain ⟨p, cap, e1, _⟩ := h.b
  obtain ⟨p2, cap2, e2, _⟩ := h.keep
  rcases hv with rfl | rfl | rfl | rfl
  · rfl
  · rfl
  · rw [e1]; rfl
  · rw [e2]; rfl
/-- two disks and a tape -/
theorem run_lit2 {w : World} {a : Act} {o : Oper} (x : Operand) (s : Int) (ho : o.op = .buildSlice 28 2 #[(0, .const (.int .i64 5)), (1, x)]) (hx : a.eval x = .int .i64 s) : (execOp a.eval o).run Tryd.prog w = .ok (.value (.slice (some ⟨w.heap.size, 0, none⟩) 2 2)) (w.alloc (.cells #[.int .i64 5, .int .i64 s] 3)) := by
  have h : (Instr.buildSlice 28 2 #[(0, .int .i64 5), (1, .int .i64 s)]).run Tryd.prog w = .ok (.slice (some ⟨w.heap.size, 0, none⟩) 2 2) (w.alloc (.cells #[.int .i64 5, .int .i64 s] 3)) := by kernel_rfl
  have e : a.eval (.const (.int .i64 5)) = .int .i64 5 := rfl
  simp [execOp, ho, hx, e, h]
theorem run_lit1 {w : World} {a : Act} {o : Oper} (x : Operand) (s : Int) (ho : o.op = .buildSlice 28 1 #[(0, x)]) (hx : a.eval x = .int .i64 s) : (execOp a.eval o).run Tryd.prog w = .ok (.value (.slice (some ⟨w.heap.size, 0, none⟩) 1 1)) (w.alloc (.cells #[.int .i64 s] 3)) := by
  have h : (Instr.buildSlice 28 1 #[(0, .int .i64 s)]).run Tryd.prog w = .ok (.slice (some ⟨w.heap.size, 0, none⟩) 1 1) (w.alloc (.cells #[.int .i64 s] 3)) := by kernel_rfl
  simp [execOp, ho, hx, h]
theorem run_bld30 {w : World} {a : Act} {o : Oper} (x y : Operand) (ho : o.op = .build 30 #[(0, x), (1, y)]) (p q : Option Addr) (n1 c1 n2 c2 : Nat) (hx : a.eval x = .slice p n1 c1) (hy : a.eval y = .slice q n2 c2) : (execOp a.eval o).run Tryd.prog w = .ok (.value (.agg #[.slice p n1 c1, .slice q n2 c2])) w := by
  have h : (Instr.build 30 #[(0, .slice p n1 c1), (1, .slice q n2 c2)]).run Tryd.prog w = .ok (.agg #[.slice p n1 c1, .slice q n2 c2]) w := by kernel_rfl
  simp [execOp, ho, hx, hy, h]
theorem ints_two {w : World} {b : Nat} {x y : Int} (h : Row w b 3 [.int .i64 x, .int .i64 y]) : IntsIn w (.slice (some ⟨b, 0, none⟩) 2 2) [x, y] :=
  ⟨some ⟨b, 0, none⟩, 2, rfl, Nat.le_refl _, by simp, Or.inr ⟨b, 0, rfl, fun j hj => by
    match j, hj with
    | 0, _ => exact h.at 0 _ rfl
    | 1, _ => exact h.at 1 _ rfl⟩⟩
theorem ints_one {w : World} {b : Nat} {x : Int} (h : Row w b 3 [.int .i64 x]) : IntsIn w (.slice (some ⟨b, 0, none⟩) 1 1) [x] :=
  ⟨some ⟨b, 0, none⟩, 1, rfl, Nat.le_refl _, by simp, Or.inr ⟨b, 0, rfl, fun j hj => by
    match j, hj with
    | 0, _ => exact h.at 0 _ rfl⟩⟩
theorem newPl_two (s : Nat) : ShapeOf (newPl [5, (s : Int)] [9]) [5, s] [9] := by
  unfold ShapeOf newPl
  simp
theorem shapeOk_two (s : Nat) (hs : 1 ≤ s ∧ s ≤ 4096) : shapeOk [5, (s : Int)] [9] = true := by
  unfold shapeOk sizesOk
  simp
  omega
theorem shapeBad_two (s : Int) (hs : s < 1) : shapeOk [5, s] [9] = false := by
  unfold shapeOk sizesOk
  simp
  omega
theorem newPl_rd2 (s p : Nat) : (newPl [5, (s : Int)] [9]).rd 1 p = zeros := by
  have hd := (newPl_two s).disk 1 (by simp)
  show Option.getD none ((fresh ((newPl [5, (s : Int)] [9]).tape 1) ((newPl [5, (s : Int)] [9]).size 1)).getD p zeros) = zeros
  rw [hd.1, hd.2]
  unfold fresh
  rw [if_neg (by decide), List.getD_eq_getElem?_getD, List.getElem?_replicate]
  split <;> rfl
theorem newPl_lv2 (s : Nat) (hs : 1 ≤ s ∧ s ≤ 4096) : Lv (newPl [5, (s : Int)] [9]) 1 :=
  ⟨newPl_wf _ _ (shapeOk_two s hs), rfl, by rw [(newPl_two s).n]; simp, ((newPl_two s).disk 1 (by simp)).1⟩
theorem newPl_last2 (s k : Nat) : lastOf ((newPl [5, (s : Int)] [9]).rd 1) k = none := by
  unfold lastOf
  rw [headAt_zeros (newPl_rd2 s 0)]
theorem PlW.new2 {w W : World} (hb : Below w.heap.size w W) (ht : Fr.TabIn w) (s : Nat) (hs : 1 ≤ s ∧ s ≤ 4096) (vd vt : Value) (hd : IntsIn W vd [5, (s : Int)]) (ht2 : IntsIn W vt [9]) : Calls Tryd.prog 10 #[.agg #[vd, vt]] W fun e W' => ∃ g c', e = .returned (.tuple #[ptr g, .int .i64 0]) ∧ Below W.heap.size W W' ∧ PlW w W' c' g (newPl [5, (s : Int)] [9]) [5, s] [9] 0 := by
  refine (Live.new W (fun _ => (0, 0)) 2 vd vt _ _ hd ht2 (shapeOk_two s hs)).mono ?_
  rintro e W' ⟨g, c', rfl, h1, h2, _, h4, h5⟩
  exact ⟨g, c', rfl, h5, ⟨h4, ht, fun b hlt => h2 b (Nat.lt_of_lt_of_le hlt hb.size), hb.trans (h5.mono hb.size), newPl_two s, Nat.le_refl _⟩⟩
theorem PlW.formatNo {w W : World} {c : Nat → Colour} {g : Nat} {m : Pl} {ds ts : List Nat} {K : Nat} (h : PlW w W c g m ds ts K) (d : Int) (hd : pagesD ds d = 0) : Calls Tryd.prog 11 #[ptr g, .int .i64 d] W fun e W' => e = .returned (.int .i64 1) ∧ PlW w W' c g m ds ts K := (formatNo_any h.live h.shape d hd).mono fun _ _ ⟨h1, h2⟩ => ⟨h1, h.bel h2⟩
/-- what Format makes of a new disk, of two -/
theorem PlW.first2 {w W : World} {c : Nat → Colour} {g s n : Nat} (hs : 1 ≤ s ∧ s ≤ 4096) (hn : n = pagesN s) (hn1 : 1 ≤ n) (h : PlW w W c g (newPl [5, (s : Int)] [9]) [5, s] [9] 0) : Calls Tryd.prog 11 #[ptr g, .int .i64 1] W fun e W' => e = .returned (.int .i64 0) ∧ ∃ c' m', PlW w W' c' g m' [5, s] [9] 6 ∧ PgO m' 1 n (noHd 1) noneP zX ∧ m'.fuse < 0 := by
  refine (h.formatNew (i := 1) (n := n) (X := zX) (by omega) (by simp) (newPl_lv2 s hs) (by show (-1 : Int) < 0; decide) hn hn1 (newPl_last2 s n) zX_imgs 0).mono ?_
  rintro e W' ⟨h1, c', m', _, h3, h4, _, h6⟩
  exact ⟨h1, c', m', h3, h4, h6⟩
theorem PlW.open2 {w W : World} {c : Nat → Colour} {g : Nat} {m : Pl} {s K n : Nat} {L : Hd} {X : Nat → List Nat} (h : PlW w W c g m [5, s] [9] K) (hK : K ≤ 1000000000000) (o : PgO m 1 n L L.used X) : Calls Tryd.prog 13 #[ptr g, .int .i64 1] W fun e W' => ∃ gp, W.heap.size ≤ gp ∧ e = .returned (.tuple #[ptr gp, .int .i64 0]) ∧ Below W.heap.size W W' ∧ PgW w W' c gp g m [5, s] [9] 1 n L L.used X K := h.opens (i := 1) hK (by simp) o
end Go.Proofs.YtkpnflgnhhfjoaaDoor

namespace Go.Proofs.YtkpnflgnhhfjoaaDoor
open Go.RowKit Go.Maps

theorem pagesD_tape (s : Nat) : pagesD [5, s] 2 = 0 := rfl
theorem pagesD_far (s : Nat) : pagesD [5, s] 9 = 0 := rfl
theorem pagesD_one (s : Nat) : pagesD [5, s] 1 = pagesN s := rfl
theorem pages_min (s : Nat) (hs : 10 ≤ s) : (min (((s : Int) - 2) / 8) 384).toNat = pagesN s ∧ 1 ≤ pagesN s := by unfold pagesN; omega
theorem run_cpB {W : World} (ty : TypeId) {v : Value} {b : List Nat} (h : SliceIn W v b) (hn : b.length ≤ 1048576) : ∃ v' W', (Builtin.append_ #[38, 38] ty #[.slice (some ⟨W.heap.size, 0, none⟩) 0 0, v]).run Tryd.prog (W.alloc (.cells #[] 5)) = .ok v' W' ∧ BOwn W' W.heap.size v' b ∧ Below W.heap.size W W' := by
  have b1 := below_alloc W (.cells #[] 5)
  obtain ⟨v4, y3, hrun, ho3, hg3⟩ := run_bappend W.heap.size ty (.slice (some ⟨W.heap.size, 0, none⟩) 0 0) v [] b (bown0 W) (h.later b1) (by simp; omega) b1.size
  rw [List.nil_append] at ho3
  exact ⟨v4, y3, hrun, ho3, b1.trans ((Below.refl _ _).grown hg3 b1.size fun k hk => ((bown0 W).lt k hk).1)⟩
/-- a law's own bytes while both have taken them -/
structure Three (w W : World) (c : Nat → Colour) (gp g : Nat) (m : Pl) (ds ts : List Nat) (i n : Nat) (L : Hd) (U : List Nat) (X : Nat → List Nat) (K gy : Nat) (r : RefS) (v : Value) (b : List Nat) : Prop where
  pg : PgW w W c gp g m ds ts i n L U X K
  rf : Ref (fun q => SS w c gp q ∧ v.ownBlock ≠ some q) W gy n r
  own : Own1 (SS w c gp) W 5 v (bcells b)
section
variable {w W W' : World} {c c' : Nat → Colour} {gp g : Nat} {m m' : Pl} {ds ts : List Nat} {i n : Nat} {L L' : Hd} {U U' : List Nat} {X X' : Nat → List Nat} {K K' gy : Nat} {r r' : RefS} {v : Value} {b : List Nat}
theorem Duo.three (h : Duo w W c gp g m ds ts i n L U X K gy r) (hb : Below W.heap.size W W') (ho : BOwn W' W.heap.size v b) : Three w W' c gp g m ds ts i n L U X K gy r v b := by
  refine ⟨h.pg.bel hb, ?_, ⟨by rw [bcells_length]; exact own_base ho, fun q hq => h.pg.fresh (ho.lt q hq).1⟩⟩
  have h2 : Ref (fun q => SS w c gp q ∧ v.ownBlock ≠ some q) W gy n r := h.rf.mono fun q hq e => ⟨e, fun e2 => by have := (ho.lt q e2).1; omega⟩
  exact h2.later hb
theorem Three.duo (h : Three w W c gp g m ds ts i n L U X K gy r v b) (hr : Rls L U X r n) : Duo w W c gp g m ds ts i n L U X K gy r := ⟨h.pg, h.rf.mono fun _ _ e => e.1, hr⟩
theorem Three.stp (h : Three w W c gp g m ds ts i n L U X K gy r v b) (hs : Stp W W' c c' gp) (hp : PgW w W' c' gp g m' ds ts i n L' U' X' K') : Three w W' c' gp g m' ds ts i n L' U' X' K' gy r v b := by
  refine ⟨hp, h.rf.stp hs (fun _ _ e => ⟨e.1.2.1, e.1.2.2⟩) fun _ hb e => ⟨e.1.stp hs hb, e.2⟩, ?_⟩
  have h2 : Own1 (SS w c gp) W' 5 v (bcells b) := h.own.keep fun q hq e => hs.ch.block q hq fun e2 => e2.elim e.2.1 e.2.2
  exact ⟨h2.1, fun q hq => (h.own.2 q hq).stp hs (h.own.lt hq)⟩
theorem Three.fresh (h : Three w W c gp g m ds ts i n L U X K gy r v b) (q : Nat) (hq : W.heap.size ≤ q) : SS w c gp q ∧ v.ownBlock ≠ some q := ⟨h.pg.fresh hq, fun e => by have := h.own.lt e; omega⟩
theorem Three.ref (h : Three w W c gp g m ds ts i n L U X K gy r v b) (hc : Ch (fun q => SS w c gp q ∧ v.ownBlock ≠ some q) W W') (hr : Ref (fun q => SS w c gp q ∧ v.ownBlock ≠ some q) W' gy n r') : Three w W' c gp g m ds ts i n L U X K gy r' v b :=
  ⟨h.pg.chS hc fun _ _ e => e.1, hr, h.own.keepB fun q hq => hc.block q (h.own.lt hq) fun e => e.2 hq⟩
theorem Three.arg (h : Three w W c gp g m ds ts i n L U X K gy r v b) {u : Value} {a : List Nat} (hu : ∀ W, Below w.heap.size w W → SliceIn W u a) : ∀ W', Ch (fun q => SS w c gp q ∧ v.ownBlock ≠ some q) W W' → SliceIn W' u a := fun W' hc => hu W' (h.pg.chS hc fun _ _ e => e.1).pl.below
theorem Three.sl (h : Three w W c gp g m ds ts i n L U X K gy r v b) (h1 : ∀ c ∈ b, c < 256) (h2 : b.length ≤ 1048576) : SliceIn W v b := by
  have h3 : BOwn W 0 v b := by
    have h4 := h.own.1
    rw [bcells_length] at h4
    exact h4
  exact h3.slice h1 (by omega)
theorem Three.ix (h : Three w W c gp g m ds ts i n L U X K gy r v b) (j : Nat) (hj : j < b.length) : ∃ q cur, (∀ w', (Instr.indexAt 38 v (.int .i64 (j : Nat))).run Tryd.prog w' = .ok (.pointer (some ⟨q, j, none⟩)) w') ∧ Row W q 5 cur ∧ j < cur.length ∧ ∀ x : Nat, ∃ b', b'.length = b.length ∧ Three w (W.setCell ⟨q, j, none⟩ (.int .u8 (x : Nat))) c gp g m ds ts i n L U X K gy r v b' := by
  obtain ⟨q, cur, h1, h2, h3, _, h5, h6, h7⟩ := h.own.ix 38 Tryd.underlying38 (by kernel_rfl) j (by rw [bcells_length]; exact hj)
  refine ⟨q, cur, h3, h5, h6, fun x => ?_⟩
  obtain ⟨h8, h9⟩ := h7 (.int .u8 (x : Nat))
  have e : (bcells b).set j (.int .u8 (x : Nat)) = bcells (b.set j x) := by unfold bcells; rw [List.map_set]
  rw [e] at h8
  refine ⟨b.set j x, by rw [List.length_set], h.pg.chS h9 (fun q2 _ e2 => e2 ▸ h2), ?_, h8⟩
  exact h.rf.keep fun q2 hq2 e2 => h9.block q2 hq2 fun e3 => e2.2 (e3 ▸ h1)
/-- the row of a call while the pager works -/
theorem row_stp {bo T : Nat} {cs : List Value} (h : Row W bo T cs) (hs : Stp W W' c c' gp) (hb : SS w c gp bo) : Row W' bo T cs := (hs.ch.block bo h.lt fun e => e.elim hb.2.1 hb.2.2).trans h
theorem duo_ref (hp : PgW w W c gp g m ds ts i n L U X K) (hc : Ch (SS w c gp) W W') (hr : Ref (SS w c gp) W' gy n r) (hl : Rls L U X r n) : Duo w W' c gp g m ds ts i n L U X K gy r := ⟨hp.chS hc fun _ _ e => e, hr, hl⟩
theorem duo_ref1 (hp : PgW w W c gp g m ds ts i n L U X K) (hc : Ch (· = gy) W W') (hr : Ref (SS w c gp) W' gy n r) (hl : Rls L U X r n) : Duo w W' c gp g m ds ts i n L U X K gy r := duo_ref hp (hc.mono fun _ _ e => by rw [e]; exact hr.sgy) hr hl
theorem duo_open {gp2 : Nat} (h : Duo w W c gp g m ds ts i n L U X K gy r) (hg : W.heap.size ≤ gp2) (hb : Below W.heap.size W W') : Ref (SS w c gp2) W' gy n r := by
  have h2 : Ref (SS w c gp2) W gy n r := h.rf.mono fun q hq e => ⟨e.1, e.2.1, by omega⟩
  exact h2.later hb
end
end Go.Proofs.YtkpnflgnhhfjoaaDoor

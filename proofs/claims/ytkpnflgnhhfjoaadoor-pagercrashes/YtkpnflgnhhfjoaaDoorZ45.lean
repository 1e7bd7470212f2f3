/- A pager and the document's pager: what a boot may find. PagerCrashes, walked. For every number of sectors and every list of calls, fuses and boots, behind a crash at any step of which any part is kept a pager is as it was committed last, or as the commit at hand would have made it, and with the power on it answers and reads as the document's pager: the law PagerCrashes returns true and changes nothing that was there. Conditions: what is read holds together at most 1048576 values and letters; the table crc.halves starts as the program's text lays it (the card ties it). -/
import Derived.Test.YtkpnflgnhhfjoaaDoorZ42
import Derived.Test.YtkpnflgnhhfjoaaDoorZ43
namespace Go.Proofs.YtkpnflgnhhfjoaaDoor
open Go.RowKit Go.Maps

/-- blocks that neither came in, nor are the plant's -/
def S0 (w : World) (c : Nat → Colour) (b : Nat) : Prop := w.heap.size ≤ b ∧ (c b).1 ≠ 2
/-- what may be found behind a boot: as it was committed last, or as the commit at hand -/
structure Aft (w W : World) (c : Nat → Colour) (g : Nat) (m : Pl) (ds ts : List Nat) (i n : Nat) (K gy : Nat) (vm : Value) : Prop where
  pl : PlW w W c g m ds ts K
  got : ∃ L X r, Ref (S0 w c) W gy n r ∧ Rls L L.used X r.dropped n ∧ ((vm = .pointer none ∧ ∀ ks, PgO (m.boot ks) i n L L.used X) ∨ ∃ gm rm L2, vm = ptr gm ∧ gm ≠ gy ∧ Ref (S0 w c) W gm n rm ∧ Rls L2 L2.used X rm.dropped n ∧ ∀ ks, PgO (m.boot ks) i n L L.used X ∨ PgO (m.boot ks) i n L2 L2.used X)
section
variable {w W W' : World} {c c' : Nat → Colour} {gp g : Nat} {m m' : Pl} {ds ts : List Nat} {i n : Nat} {L L' : Hd} {U U' : List Nat} {X X' : Nat → List Nat} {K K' gy : Nat} {r r' : RefS} {vm : Value}
theorem PlW.pos (h : PlW w W c g m ds ts K) : 0 < w.heap.size := Nat.lt_of_le_of_lt (Nat.zero_le _) (block_lt_of_cell (h.tab 0#32))
theorem Aft.bel (h : Aft w W c g m ds ts i n K gy vm) (hb : Below W.heap.size W W') : Aft w W' c g m ds ts i n K gy vm := by
  obtain ⟨h1, L, X, r, h2, h3, h4⟩ := h
  refine ⟨h1.bel hb, L, X, r, h2.later hb, h3, ?_⟩
  rcases h4 with h4 | ⟨gm, rm, L2, a1, a2, a3, a4, a5⟩
  · exact Or.inl h4
  · exact Or.inr ⟨gm, rm, L2, a1, a2, a3.later hb, a4, a5⟩
theorem Aft.mono (h : Aft w W c g m ds ts i n K gy vm) (hk : K ≤ K') : Aft w W c g m ds ts i n K' gy vm := ⟨h.pl.mono hk, h.got⟩
theorem Duo.aft (h : Duo w W c gp g m ds ts i n L U X K gy r) : Aft w W c g m ds ts i n K gy (.pointer none) :=
  ⟨h.pg.pl, L, X, r, h.rf.mono fun _ _ e => ⟨e.1, e.2.1⟩, h.rel.drop, Or.inl ⟨rfl, fun ks => h.pg.o.c.boot ks⟩⟩
theorem ref_s0 (h : Ref (SS w c gp) W gy n r) (hs : Stp W W' c c' gp) : Ref (S0 w c') W' gy n r := h.stp hs (fun _ _ e => ⟨e.2.1, e.2.2⟩) fun _ hb e => ⟨e.1, by rw [hs.cc _ hb]; exact e.2.1⟩
/-- a boot -/
theorem Aft.boot (h : Aft w W c g m ds ts i n K gy vm) (hK : K ≤ 1000000000000) (kv : Value) (ks : List Int) (hk : IntsIn w kv ks) : Calls Tryd.prog 26 #[ptr g, kv] W fun e W' => e = .returned noResult ∧ ∃ c' m' L X r, PlW w W' c' g m' ds ts K ∧ PgO m' i n L L.used X ∧ Ref (S0 w c') W' gy n r ∧ (Rls L L.used X r.dropped n ∨ ∃ gm rm, vm = ptr gm ∧ gm ≠ gy ∧ Ref (S0 w c') W' gm n rm ∧ Rls L L.used X rm.dropped n) := by
  obtain ⟨h1, L, X, r, h2, h3, h4⟩ := h
  have hp := h1.pos
  refine (h1.boot hK kv ks (hk.keep h1.below h1.cc) 0).mono ?_
  rintro e W' ⟨rfl, c', hs, hpl⟩
  have hrf : ∀ {gz : Nat} {rz : RefS}, Ref (S0 w c) W gz n rz → Ref (S0 w c') W' gz n rz := fun h => h.stp hs (fun b _ e => ⟨e.2, by have := e.1; omega⟩) fun b hb e => ⟨e.1, by rw [hs.cc b hb]; exact e.2⟩
  refine ⟨rfl, c', m.boot ks, ?_⟩
  rcases h4 with ⟨_, h4⟩ | ⟨gm, rm, L2, a1, a2, a3, a4, a5⟩
  · exact ⟨L, X, r, hpl, h4 ks, hrf h2, Or.inl h3⟩
  · rcases a5 ks with a5 | a5
    · exact ⟨L, X, r, hpl, a5, hrf h2, Or.inl h3⟩
    · exact ⟨L2, X, r, hpl, a5, hrf h2, Or.inr ⟨gm, rm, a1, a2, hrf a3, a4⟩⟩
theorem PlW.open1 {s : Nat} (h : PlW w W c g m [s] [] K) (hK : K ≤ 1000000000000) (o : PgO m 0 n L L.used X) : Calls Tryd.prog 13 #[ptr g, .int .i64 0] W fun e W' => ∃ gp, W.heap.size ≤ gp ∧ e = .returned (.tuple #[ptr gp, .int .i64 0]) ∧ Below W.heap.size W W' ∧ PgW w W' c gp g m [s] [] 0 n L L.used X K := h.opens (i := 0) hK (by simp) o
theorem ref_open {gp2 : Nat} (h : Ref (S0 w c) W gy n r) (hg : W.heap.size ≤ gp2) (hb : Below W.heap.size W W') : Ref (SS w c gp2) W' gy n r := by
  have h2 : Ref (SS w c gp2) W gy n r := h.mono fun q hq e => ⟨e.1, e.2, by omega⟩
  exact h2.later hb
/-- found anew, one's own side dropped -/
structure Fnd (w W : World) (c : Nat → Colour) (gp g : Nat) (m : Pl) (ds ts : List Nat) (i n : Nat) (L : Hd) (X : Nat → List Nat) (K gy : Nat) (r : RefS) (vm : Value) : Prop where
  pg : PgW w W c gp g m ds ts i n L L.used X K
  rf : Ref (SS w c gp) W gy n r
  or : Rls L L.used X r n ∨ ∃ gm rm, vm = ptr gm ∧ gm ≠ gy ∧ Ref (SS w c gp) W gm n rm ∧ Rls L L.used X rm.dropped n
theorem Fnd.bel (h : Fnd w W c gp g m ds ts i n L X K gy r vm) (hb : Below W.heap.size W W') : Fnd w W' c gp g m ds ts i n L X K gy r vm := by
  refine ⟨h.pg.bel hb, h.rf.later hb, ?_⟩
  rcases h.or with h2 | ⟨gm, rm, a1, a2, a3, a4⟩
  · exact Or.inl h2
  · exact Or.inr ⟨gm, rm, a1, a2, a3.later hb, a4⟩
theorem fnd_drop (hp : PgW w W c gp g m ds ts i n L L.used X K) (hr : Ref (SS w c gp) W gy n r) (hor : Rls L L.used X r.dropped n ∨ ∃ gm rm, vm = ptr gm ∧ gm ≠ gy ∧ Ref (SS w c gp) W gm n rm ∧ Rls L L.used X rm.dropped n) (hc : Ch (· = gy) W W') (hr2 : Ref (SS w c gp) W' gy n r.dropped) : Fnd w W' c gp g m ds ts i n L X K gy r.dropped vm := by
  obtain ⟨cs0, hrow⟩ := hr.row84
  refine ⟨hp.chS hc (fun _ _ e => by rw [e]; exact hr.sgy), hr2, ?_⟩
  rcases hor with h2 | ⟨gm, rm, a1, a2, a3, a4⟩
  · exact Or.inl h2
  · exact Or.inr ⟨gm, rm, a1, a2, a3.off hrow a2 hc, a4⟩
theorem Fnd.yes (h : Fnd w W c gp g m ds ts i n L X K gy r.dropped vm) (hn : n ≤ 39) (ht : n ≤ 39 → Told L L.used X r.dropped n) : Duo w W c gp g m ds ts i n L L.used X K gy r.dropped := ⟨h.pg, h.rf, (ht hn).rel⟩
theorem Fnd.no (h : Fnd w W c gp g m ds ts i n L X K gy r vm) (ht : Rls L L.used X r n → false = true) : ∃ gm rm, vm = ptr gm ∧ Ref (SS w c gp) W gm n rm ∧ Rls L L.used X rm.dropped n := by
  rcases h.or with h2 | ⟨gm, rm, a1, _, a3, a4⟩
  · cases ht h2
  · exact ⟨gm, rm, a1, a3, a4⟩
/-- a fuse -/
theorem Duo.fuse (h : Duo w W c gp g m ds ts i n L U X K gy r) (N : Int) (h0 : -9223372036854775808 ≤ N ∧ N ≤ 9223372036854775807) : Calls Tryd.prog 25 #[ptr g, .int .i64 N] W fun e W' => e = .returned noResult ∧ ∃ c' m', Duo w W' c' gp g m' ds ts i n L U X K gy r := by
  have hp := h.pg.pl.pos
  refine (h.pg.pl.fuse N h0.1 h0.2 0).mono ?_
  rintro e W' ⟨rfl, c', hs, hpl⟩
  have hgp := h.pg.pg.row.lt
  have hrow := hs.ch.block gp hgp fun e => e.elim h.pg.ap (by have := h.pg.gpn; omega)
  refine ⟨rfl, c', m.fuseTo N, ⟨hpl, ⟨hrow.trans h.pg.pg.row, h.pg.pg.wf, h.pg.pg.us⟩, h.pg.gpn, by rw [hs.cc gp hgp]; exact h.pg.ap, h.pg.o.fused N h0.1 h0.2, h.pg.lt⟩, ?_, h.rel⟩
  exact h.rf.stp hs (fun b _ e => ⟨e.2.1, by have := e.1; omega⟩) fun b hb e => ⟨e.1, by rw [hs.cc b hb]; exact e.2.1, e.2.2⟩
/-- a commit at hand -/
theorem aft_two {gq : Nat} {r2 : RefS} {L2 : Hd} (hpl : PlW w W' c' g m' ds ts K) (hrf : Ref (SS w c gp) W gy n r) (hrq : Ref (SS w c gp) W gq n r2) (hne : gq ≠ gy) (hs : Stp W W' c c' gp) (h1 : Rls L L.used X r.dropped n) (h2 : Rls L2 L2.used X r2.dropped n) (hk : ∀ ks, PgO (m'.boot ks) i n L L.used X ∨ PgO (m'.boot ks) i n L2 L2.used X) : Aft w W' c' g m' ds ts i n K gy (ptr gq) :=
  ⟨hpl, L, X, r, ref_s0 hrf hs, h1, Or.inr ⟨gq, r2, L2, rfl, hne, ref_s0 hrq hs, h2, hk⟩⟩
theorem aft_one (hpl : PlW w W' c' g m' ds ts K) (hrf : Ref (SS w c gp) W gy n r) (hs : Stp W W' c c' gp) (h1 : Rls L L.used X r.dropped n) (hk : PgC m' i n L X) : Aft w W' c' g m' ds ts i n K gy (.pointer none) :=
  ⟨hpl, L, X, r, ref_s0 hrf hs, h1, Or.inl ⟨rfl, fun ks => hk.boot ks⟩⟩
end
/-- the law's own state: the power on, or off -/
def LoopI (w W : World) (g n0 n K : Nat) (v9 v11 v13 : Value) : Prop := ∃ (gp gy : Nat) (c : Nat → Colour) (m : Pl), v9 = ptr gp ∧ v11 = ptr gy ∧ ((v13 = .pointer none ∧ ∃ L U X r, Duo w W c gp g m [n0] [] 0 n L U X K gy r) ∨ (m.on = false ∧ Aft w W c g m [n0] [] 0 n K gy v13))
theorem LoopI.mono {w W : World} {g n0 n K K' : Nat} {v9 v11 v13 : Value} (h : LoopI w W g n0 n K v9 v11 v13) (hk : K ≤ K') : LoopI w W g n0 n K' v9 v11 v13 := by
  obtain ⟨gp, gy, c, m, h1, h2, h3⟩ := h
  refine ⟨gp, gy, c, m, h1, h2, ?_⟩
  rcases h3 with ⟨h3, L, U, X, r, h4⟩ | ⟨h3, h4⟩
  · exact Or.inl ⟨h3, L, U, X, r, h4.mono hk⟩
  · exact Or.inr ⟨h3, h4.mono hk⟩
theorem LoopI.on {w W : World} {c : Nat → Colour} {gp g : Nat} {m : Pl} {n0 n : Nat} {L : Hd} {U : List Nat} {X : Nat → List Nat} {K gy : Nat} {r : RefS} (h : Duo w W c gp g m [n0] [] 0 n L U X K gy r) : LoopI w W g n0 n K (ptr gp) (ptr gy) (.pointer none) := ⟨gp, gy, c, m, rfl, rfl, Or.inl ⟨rfl, L, U, X, r, h⟩⟩
theorem LoopI.off {w W : World} {c : Nat → Colour} {gp g : Nat} {m : Pl} {n0 n : Nat} {K gy : Nat} {vm : Value} (h : m.on = false) (h2 : Aft w W c g m [n0] [] 0 n K gy vm) : LoopI w W g n0 n K (ptr gp) (ptr gy) vm := ⟨gp, gy, c, m, rfl, rfl, Or.inr ⟨h, h2⟩⟩
end Go.Proofs.YtkpnflgnhhfjoaaDoor

namespace Go.Proofs.YtkpnflgnhhfjoaaDoor
open Go.RowKit Go.Maps

set_option maxHeartbeats 8000000 in
set_option maxRecDepth 100000 in
theorem pagerCrashes_any (w : World) (ht : Fr.TabIn w) (s : Int) (p1 : Option Addr) (n1 cap1 : Nat) (os : List OpD) (hb : OpsIn w (.slice p1 n1 cap1) os) : Calls Tryd.prog 4 #[.int .i64 s, .slice p1 n1 cap1] w fun e w' => e = .returned (.bool true) ∧ Below w.heap.size w w' := by
  have HT : Hid (Fr.TabIn w) := ht
  have HOS : Hid (OpsIn w (.slice p1 n1 cap1) os) := hb
  have HN1 : Hid (n1 ≤ 1048576) := hb.len
  obtain ⟨PQ, hPQ⟩ : ∃ PQ : Ending → World → Prop, PQ = fun (e : Ending) (w' : World) => e = .returned (.bool true) ∧ Below w.heap.size w w' := ⟨_, rfl⟩
  have HPQ : Hid (PQ = fun (e : Ending) (w' : World) => e = .returned (.bool true) ∧ Below w.heap.size w w') := hPQ
  rw [← hPQ]
  obtain ⟨bad, hbad⟩ : ∃ b : Bool, b = decide (s < 10 ∨ 200 < s) := ⟨_, rfl⟩
  obtain ⟨n0, hn0⟩ : ∃ n0 : Nat, n0 = if s < 10 ∨ 200 < s then 66 else s.toNat := ⟨_, rfl⟩
  have HS2 : Hid (10 ≤ n0 ∧ n0 ≤ 200 ∧ (bad = true → n0 = 66) ∧ (bad = false → s = (n0 : Nat)) ∧ bad = decide (s < 10 ∨ 200 < s)) := (by
    show 10 ≤ n0 ∧ n0 ≤ 200 ∧ (bad = true → n0 = 66) ∧ (bad = false → s = (n0 : Nat)) ∧ bad = decide (s < 10 ∨ 200 < s)
    refine ⟨?_, ?_, fun h => ?_, fun h => ?_, hbad⟩
    · rw [hn0]; split <;> omega
    · rw [hn0]; split <;> omega
    · rw [hbad] at h; rw [hn0, if_pos (of_decide_eq_true h)]
    · rw [hbad] at h
      have := of_decide_eq_false h
      rw [hn0, if_neg this]; omega)
  clear hPQ ht hb hn0 hbad
  go_enter Tryd.func4, Tryd.ntmps4
  go_upto_region 1 with fail
  refine wp_region_lit ?_
  refine wpList_callW eN9 [] _ rfl rfl [] rfl ?_
  refine (shown_any w HT.out).mono ?_
  rintro e W1 ⟨rfl, b_⟩
  refine ⟨_, rfl, ?_⟩
  have HB1 : Hid (Below w.heap.size w W1) := b_
  clear b_
  simp only [Act.put, aS, aC, aZ]
  refine wl rfl (.bool true) _ (run_asZ (.tmp 27) rfl (.bool true) rfl) ?_
  simp only [Act.put, aS, aC, aZ]
  refine wpList_nil ?_
  go_upto_region 2 with fail
  go_cut [33] from 27 (fun v W => v = .bool bad ∧ W1 = W)
  case first =>
    by_cases h10 : s < 10
    · go_upto_region 2 with fail
      refine wp_region_lit ?_
      refine wl rfl (.int .i64 s) _ (run_mvZ (.tmp 0) rfl (.int .i64 s) rfl) ?_
      simp only [Act.put, aS, aC, aZ]
      refine wl rfl (.bool true) _ (run_lssZ (.tmp 28) (.const (.int .i64 10)) rfl s 10 rfl rfl true (decide_eq_true h10)) ?_
      simp only [Act.put, aS, aC, aZ]
      refine wl rfl (.bool true) _ (run_mvZ (.tmp 29) rfl (.bool true) rfl) ?_
      simp only [Act.put, aS, aC, aZ]
      refine wpList_skip (by kernel_rfl) ?_
      simp only [Act.put, aS, aC, aZ]
      refine wpList_skip (by kernel_rfl) ?_
      simp only [Act.put, aS, aC, aZ]
      refine wl rfl (.bool true) _ (run_pickZ (.tmp 30) (.const (.bool true)) (.tmp 32) rfl true (.bool true) rfl rfl) ?_
      simp only [Act.put, aS, aC, aZ]
      refine wpList_nil ?_
      go_wp2_with fail
      go_meet
      case rel => exact ⟨congrArg Value.bool (HS2.out.2.2.2.2.trans (decide_eq_true (Or.inl h10))).symm, rfl⟩
    · by_cases h200 : 200 < s
      · go_upto_region 2 with fail
        refine wp_region_lit ?_
        refine wl rfl (.int .i64 s) _ (run_mvZ (.tmp 0) rfl (.int .i64 s) rfl) ?_
        simp only [Act.put, aS, aC, aZ]
        refine wl rfl (.bool false) _ (run_lssZ (.tmp 28) (.const (.int .i64 10)) rfl s 10 rfl rfl false (decide_eq_false h10)) ?_
        simp only [Act.put, aS, aC, aZ]
        refine wl rfl (.bool false) _ (run_mvZ (.tmp 29) rfl (.bool false) rfl) ?_
        simp only [Act.put, aS, aC, aZ]
        refine wl (by kernel_rfl) (.int .i64 s) _ (run_mvZ (.tmp 0) rfl (.int .i64 s) rfl) ?_
        simp only [Act.put, aS, aC, aZ]
        refine wl (by kernel_rfl) (.bool true) _ (run_gtrY (.tmp 31) (.const (.int .i64 200)) rfl s 200 rfl rfl true (decide_eq_true h200)) ?_
        simp only [Act.put, aS, aC, aZ]
        refine wl rfl (.bool true) _ (run_pickZ (.tmp 30) (.const (.bool true)) (.tmp 32) rfl false (.bool true) rfl rfl) ?_
        simp only [Act.put, aS, aC, aZ]
        refine wpList_nil ?_
        go_wp2_with fail
        go_meet
        case rel => exact ⟨congrArg Value.bool (HS2.out.2.2.2.2.trans (decide_eq_true (Or.inr h200))).symm, rfl⟩
      · go_upto_region 2 with fail
        refine wp_region_lit ?_
        refine wl rfl (.int .i64 s) _ (run_mvZ (.tmp 0) rfl (.int .i64 s) rfl) ?_
        simp only [Act.put, aS, aC, aZ]
        refine wl rfl (.bool false) _ (run_lssZ (.tmp 28) (.const (.int .i64 10)) rfl s 10 rfl rfl false (decide_eq_false h10)) ?_
        simp only [Act.put, aS, aC, aZ]
        refine wl rfl (.bool false) _ (run_mvZ (.tmp 29) rfl (.bool false) rfl) ?_
        simp only [Act.put, aS, aC, aZ]
        refine wl (by kernel_rfl) (.int .i64 s) _ (run_mvZ (.tmp 0) rfl (.int .i64 s) rfl) ?_
        simp only [Act.put, aS, aC, aZ]
        refine wl (by kernel_rfl) (.bool false) _ (run_gtrY (.tmp 31) (.const (.int .i64 200)) rfl s 200 rfl rfl false (decide_eq_false h200)) ?_
        simp only [Act.put, aS, aC, aZ]
        refine wl rfl (.bool false) _ (run_pickZ (.tmp 30) (.const (.bool true)) (.tmp 32) rfl false (.bool false) rfl rfl) ?_
        simp only [Act.put, aS, aC, aZ]
        refine wpList_nil ?_
        go_wp2_with fail
        go_meet
        case rel => exact ⟨congrArg Value.bool (HS2.out.2.2.2.2.trans (decide_eq_false (by omega))).symm, rfl⟩
  case rest =>
    obtain ⟨rfl, rfl⟩ := hcut
    go_upto_if 33 with fail
    go_cut [0] from 27 (fun s0 W => s0 = .int .i64 (n0 : Nat) ∧ W1 = W)
    case first =>
      cases bad with
      | true =>
        go_wp2_with fail
        go_meet
        case rel => exact ⟨by rw [HS2.out.2.2.1 (by first | rfl | trivial)]; rfl, rfl⟩
      | false =>
        go_wp2_with fail
        go_meet
        case rel => exact ⟨congrArg (Value.int .i64) (HS2.out.2.2.2.1 (by first | rfl | trivial)), rfl⟩
    case rest =>
      obtain ⟨rfl, rfl⟩ := hcut
      have HN0 : Hid (10 ≤ n0 ∧ n0 ≤ 200) := ⟨HS2.out.1, HS2.out.2.1⟩
      obtain ⟨n, hn⟩ : ∃ n, n = pagesN n0 := ⟨_, rfl⟩
      have HPN : Hid (n = pagesN n0 ∧ 1 ≤ n ∧ n ≤ 39) := ⟨hn, (by rw [hn]; exact (pages_min n0 HN0.out.1).2), (by have := HN0.out.2; rw [hn]; unfold pagesN; omega)⟩
      clear HS2 hn
      go_upto_region 4 with fail
      refine wp_region_lit ?_
      refine wl rfl (.int .i64 (n0 : Nat)) _ (run_mvZ (.tmp 0) rfl (.int .i64 (n0 : Nat)) rfl) ?_
      simp only [Act.put, aS, aC, aZ]
      refine wl rfl (.slice (some ⟨W1.heap.size, 0, none⟩) 1 1) _ (run_lit1 (.tmp 35) (n0 : Int) rfl rfl) ?_
      obtain ⟨q0, hq⟩ : ∃ q, q = W1.heap.size := ⟨_, rfl⟩
      obtain ⟨W2, hw⟩ : ∃ W, W = W1.alloc (.cells #[.int .i64 (n0 : Int)] 3) := ⟨_, rfl⟩
      have H2 : Hid (Below w.heap.size w W2 ∧ IntsIn W2 (.slice (some ⟨q0, 0, none⟩) 1 1) [(n0 : Int)]) := (by
        have hb2 : Below W1.heap.size W1 W2 := (by rw [hw]; exact below_alloc W1 _)
        exact ⟨HB1.out.trans (hb2.mono HB1.out.size), ints_one (by rw [hq, hw]; exact Row.new _ _ _)⟩)
      rw [← hq, ← hw]
      clear hq hw HB1
      simp only [Act.put, aS, aC, aZ]
      refine wl rfl (.agg #[.slice (some ⟨q0, 0, none⟩) 1 1, .slice none 0 0]) _ (run_build30 (.tmp 36) rfl _ _ _ rfl) ?_
      simp only [Act.put, aS, aC, aZ]
      refine wpList_callW eN10 [.tmp 37] _ rfl rfl [(.agg #[.slice (some ⟨q0, 0, none⟩) 1 1, .slice none 0 0])] rfl ?_
      refine (PlW.new H2.out.1 HT.out n0 ⟨by have := HN0.out.1; omega, by have := HN0.out.2; omega⟩ _ H2.out.2).mono ?_
      rintro e W3 ⟨g, c3, rfl, b_, h_⟩
      refine ⟨_, rfl, ?_⟩
      have H3 : Hid (PlW w W3 c3 g (newPl [(n0 : Int)] []) [n0] [] 0) := h_
      clear h_ b_ H2
      simp only [Act.put, aS, aC, aZ]
      refine wl rfl (.tuple #[(ptr g), (.int .i64 0)]) _ (run_mvZ (.tmp 38) rfl (.tuple #[(ptr g), (.int .i64 0)]) rfl) ?_
      simp only [Act.put, aS, aC, aZ]
      refine wl rfl (ptr g) _ (run_extZ (.tmp 34) 0 rfl #[(ptr g), (.int .i64 0)] rfl (ptr g) rfl) ?_
      simp only [Act.put, aS, aC, aZ]
      refine wl rfl (.int .i64 0) _ (run_extZ (.tmp 34) 1 rfl #[(ptr g), (.int .i64 0)] rfl (.int .i64 0) rfl) ?_
      simp only [Act.put, aS, aC, aZ]
      refine wl rfl (ptr g) _ (run_asZ (.tmp 39) rfl (ptr g) rfl) ?_
      simp only [Act.put, aS, aC, aZ]
      refine wl rfl (.int .i64 0) _ (run_asZ (.tmp 40) rfl (.int .i64 0) rfl) ?_
      simp only [Act.put, aS, aC, aZ]
      refine wpList_nil ?_
      go_upto_region 5 with fail
      refine wp_region_lit ?_
      refine wl rfl (.bool true) _ (run_mvZ (.tmp 5) rfl (.bool true) rfl) ?_
      simp only [Act.put, aS, aC, aZ]
      refine wl rfl (.bool false) _ (run_not (.tmp 41) 4 rfl true rfl) ?_
      simp only [Act.put, aS, aC, aZ]
      refine wl rfl (.bool false) _ (run_mvZ (.tmp 42) rfl (.bool false) rfl) ?_
      simp only [Act.put, aS, aC, aZ]
      refine wl (by kernel_rfl) (ptr g) _ (run_mvZ (.tmp 6) rfl (ptr g) rfl) ?_
      simp only [Act.put, aS, aC, aZ]
      refine wl (by kernel_rfl) (.bool false) _ (run_binOp' (.tmp 44) (.const (.pointer none)) rfl _ _ _ rfl rfl rfl (by kernel_rfl)) ?_
      simp only [Act.put, aS, aC, aZ]
      refine wl rfl (.bool false) _ (run_pickZ (.tmp 43) (.const (.bool true)) (.tmp 45) rfl false (.bool false) rfl rfl) ?_
      simp only [Act.put, aS, aC, aZ]
      refine wl rfl (.bool false) _ (run_mvZ (.tmp 46) rfl (.bool false) rfl) ?_
      simp only [Act.put, aS, aC, aZ]
      refine wl (by kernel_rfl) (.int .i64 0) _ (run_mvZ (.tmp 7) rfl (.int .i64 0) rfl) ?_
      simp only [Act.put, aS, aC, aZ]
      refine wl (by kernel_rfl) (.bool false) _ (run_neZ (.tmp 48) (.const (.int .i64 0)) rfl (0) (0) rfl rfl false rfl) ?_
      simp only [Act.put, aS, aC, aZ]
      refine wl rfl (.bool false) _ (run_pickZ (.tmp 47) (.const (.bool true)) (.tmp 49) rfl false (.bool false) rfl rfl) ?_
      simp only [Act.put, aS, aC, aZ]
      refine wpList_nil ?_
      go_upto_region 7 with fail
      refine wp_region_lit ?_
      refine wl rfl (ptr g) _ (run_mvZ (.tmp 6) rfl (ptr g) rfl) ?_
      simp only [Act.put, aS, aC, aZ]
      refine wpList_callW eN11 [.tmp 51, .const (.int .i64 0)] _ rfl rfl [(ptr g), .int .i64 0] rfl ?_
      refine (PlW.first (n := n) ⟨by have := HN0.out.1; omega, by have := HN0.out.2; omega⟩ HPN.out.1 HPN.out.2.1 H3.out).mono ?_
      rintro e W4 ⟨rfl, c4, m4, h_, o_, _⟩
      refine ⟨_, rfl, ?_⟩
      have H4 : Hid (PlW w W4 c4 g m4 [n0] [] 6 ∧ PgO m4 0 n (noHd 1) noneP zX) := ⟨h_, o_⟩
      clear h_ o_ H3
      simp only [Act.put, aS, aC, aZ]
      refine wl rfl (.int .i64 0) _ (run_asZ (.tmp 52) rfl (.int .i64 0) rfl) ?_
      simp only [Act.put, aS, aC, aZ]
      refine wpList_nil ?_
      go_upto_region 8 with fail
      refine wp_region_lit ?_
      refine wl rfl (ptr g) _ (run_mvZ (.tmp 6) rfl (ptr g) rfl) ?_
      simp only [Act.put, aS, aC, aZ]
      refine wpList_callW eN13 [.tmp 54, .const (.int .i64 0)] _ rfl rfl [(ptr g), .int .i64 0] rfl ?_
      refine (PlW.open1 H4.out.1 (by decide) (L := noHd 1) H4.out.2).mono ?_
      rintro e W5 ⟨gp, hgp, rfl, b_, h_⟩
      refine ⟨_, rfl, ?_⟩
      have H5 : Hid (PgW w W5 c4 gp g m4 [n0] [] 0 n (noHd 1) noneP zX 6) := h_
      clear h_ b_ hgp H4
      simp only [Act.put, aS, aC, aZ]
      refine wl rfl (.tuple #[(ptr gp), (.int .i64 0)]) _ (run_mvZ (.tmp 55) rfl (.tuple #[(ptr gp), (.int .i64 0)]) rfl) ?_
      simp only [Act.put, aS, aC, aZ]
      refine wl rfl (ptr gp) _ (run_extZ (.tmp 53) 0 rfl #[(ptr gp), (.int .i64 0)] rfl (ptr gp) rfl) ?_
      simp only [Act.put, aS, aC, aZ]
      refine wl rfl (.int .i64 0) _ (run_extZ (.tmp 53) 1 rfl #[(ptr gp), (.int .i64 0)] rfl (.int .i64 0) rfl) ?_
      simp only [Act.put, aS, aC, aZ]
      refine wl rfl (ptr gp) _ (run_asZ (.tmp 56) rfl (ptr gp) rfl) ?_
      simp only [Act.put, aS, aC, aZ]
      refine wl rfl (.int .i64 0) _ (run_asZ (.tmp 57) rfl (.int .i64 0) rfl) ?_
      simp only [Act.put, aS, aC, aZ]
      refine wpList_nil ?_
      go_upto_region 9 with fail
      refine wp_region_lit ?_
      refine wl rfl (.int .i64 (n0 : Nat)) _ (run_mvZ (.tmp 0) rfl (.int .i64 (n0 : Nat)) rfl) ?_
      simp only [Act.put, aS, aC, aZ]
      refine wpList_callW eN12 [.tmp 59] _ rfl rfl [(.int .i64 (n0 : Nat))] rfl ?_
      refine (rnew_any (SS w c4 gp) W5 (n0 : Nat) (by have := HN0.out; omega) (fun _ h => H5.out.fresh h)).mono ?_
      intro e W6 hr
      obtain ⟨gy, rfl, hb6, hrf⟩ : ∃ gy, e = .returned (.tuple #[ptr gy, .int .i64 0]) ∧ Below W5.heap.size W5 W6 ∧ Ref (SS w c4 gp) W6 gy n (ref0 n) := (by
        rcases hr with ⟨h1, _⟩ | ⟨_, gy, h2, h3, h4, h5⟩
        · have := HN0.out; omega
        · rw [(pages_min n0 HN0.out.1).1, ← HPN.out.1] at h5
          exact ⟨gy, h2, h4, h5⟩)
      refine ⟨_, rfl, ?_⟩
      have H6 : Hid (LoopI w W6 g n0 n (6 + 8 * 0) (ptr gp) (ptr gy) (.pointer none)) := LoopI.on ⟨H5.out.bel hb6, hrf, Rls.new 1 n zX⟩
      clear hr hb6 hrf H5
      simp only [Act.put, aS, aC, aZ]
      refine wl rfl (.tuple #[(ptr gy), (.int .i64 0)]) _ (run_mvZ (.tmp 60) rfl (.tuple #[(ptr gy), (.int .i64 0)]) rfl) ?_
      simp only [Act.put, aS, aC, aZ]
      refine wl rfl (ptr gy) _ (run_extZ (.tmp 58) 0 rfl #[(ptr gy), (.int .i64 0)] rfl (ptr gy) rfl) ?_
      simp only [Act.put, aS, aC, aZ]
      refine wl rfl (.int .i64 0) _ (run_extZ (.tmp 58) 1 rfl #[(ptr gy), (.int .i64 0)] rfl (.int .i64 0) rfl) ?_
      simp only [Act.put, aS, aC, aZ]
      refine wl rfl (ptr gy) _ (run_asZ (.tmp 61) rfl (ptr gy) rfl) ?_
      simp only [Act.put, aS, aC, aZ]
      refine wl rfl (.int .i64 0) _ (run_asZ (.tmp 62) rfl (.int .i64 0) rfl) ?_
      simp only [Act.put, aS, aC, aZ]
      refine wpList_nil ?_
      go_upto_region 10 with fail
      refine wp_region_lit ?_
      refine wl rfl (.int .i64 0) _ (run_mvZ (.tmp 8) rfl (.int .i64 0) rfl) ?_
      simp only [Act.put, aS, aC, aZ]
      refine wl rfl (.bool false) _ (run_neZ (.tmp 63) (.const (.int .i64 0)) rfl (0) (0) rfl rfl false rfl) ?_
      simp only [Act.put, aS, aC, aZ]
      refine wl rfl (.bool false) _ (run_mvZ (.tmp 64) rfl (.bool false) rfl) ?_
      simp only [Act.put, aS, aC, aZ]
      refine wl (by kernel_rfl) (ptr gp) _ (run_mvZ (.tmp 9) rfl (ptr gp) rfl) ?_
      simp only [Act.put, aS, aC, aZ]
      refine wl (by kernel_rfl) (.bool false) _ (run_binOp' (.tmp 66) (.const (.pointer none)) rfl _ _ _ rfl rfl rfl (by kernel_rfl)) ?_
      simp only [Act.put, aS, aC, aZ]
      refine wl rfl (.bool false) _ (run_pickZ (.tmp 65) (.const (.bool true)) (.tmp 67) rfl false (.bool false) rfl rfl) ?_
      simp only [Act.put, aS, aC, aZ]
      refine wl rfl (.bool false) _ (run_mvZ (.tmp 68) rfl (.bool false) rfl) ?_
      simp only [Act.put, aS, aC, aZ]
      refine wl (by kernel_rfl) (.int .i64 0) _ (run_mvZ (.tmp 10) rfl (.int .i64 0) rfl) ?_
      simp only [Act.put, aS, aC, aZ]
      refine wl (by kernel_rfl) (.bool false) _ (run_neZ (.tmp 70) (.const (.int .i64 0)) rfl (0) (0) rfl rfl false rfl) ?_
      simp only [Act.put, aS, aC, aZ]
      refine wl rfl (.bool false) _ (run_pickZ (.tmp 69) (.const (.bool true)) (.tmp 71) rfl false (.bool false) rfl rfl) ?_
      simp only [Act.put, aS, aC, aZ]
      refine wl rfl (.bool false) _ (run_mvZ (.tmp 72) rfl (.bool false) rfl) ?_
      simp only [Act.put, aS, aC, aZ]
      refine wl (by kernel_rfl) (ptr gy) _ (run_mvZ (.tmp 11) rfl (ptr gy) rfl) ?_
      simp only [Act.put, aS, aC, aZ]
      refine wl (by kernel_rfl) (.bool false) _ (run_binOp' (.tmp 74) (.const (.pointer none)) rfl _ _ _ rfl rfl rfl (by kernel_rfl)) ?_
      simp only [Act.put, aS, aC, aZ]
      refine wl rfl (.bool false) _ (run_pickZ (.tmp 73) (.const (.bool true)) (.tmp 75) rfl false (.bool false) rfl rfl) ?_
      simp only [Act.put, aS, aC, aZ]
      refine wpList_nil ?_
      go_upto_region 12 with fail
      refine wp_region_lit ?_
      refine wl rfl (.pointer none) _ (run_asZ (.const (.pointer none)) rfl (.pointer none) rfl) ?_
      simp only [Act.put, aS, aC, aZ]
      refine wpList_nil ?_
      go_upto_region 13 with fail
      go_wp2_with fail
      go_loopw [7, 9, 11, 13, 14] (fun v7 v9 v11 v13 v14 W => ∃ (k : Nat) (vm : Value), v7 = .int .i64 0 ∧ v14 = .int .i64 (k : Nat) ∧ vm = v13 ∧ k ≤ n1 ∧ LoopI w W g n0 n (6 + 8 * k) v9 v11 vm) (fun _ _ _ _ v14 _ => n1 - (intOf v14).toNat)
      case atStart => exact ⟨0, _, rfl, rfl, rfl, Nat.zero_le _, H6.out⟩
      case round =>
        clear H6
        obtain ⟨k, vm, rfl, rfl, rfl, hk, gp, gy, c, m, rfl, rfl, hst⟩ := hrel
        obtain ⟨WK, hWK⟩ : ∃ W2 : World, W2 = wr := ⟨_, rfl⟩
        subst hWK
        have hn1 := HN1.out
        rcases hst with ⟨rfl, L, U, X, r, hduo⟩ | ⟨hoff, haft⟩
        · have HD : Hid (Duo w WK c gp g m [n0] [] 0 n L U X (6 + 8 * k) gy r) := hduo
          clear hduo
          by_cases hlt : k < n1
          · obtain ⟨fb, fo, o, rfl, ho, hoc⟩ := HOS.out.at k hlt
            have HOI : Hid (OpIn w o) := ho
            have HOB : Hid (∀ W, Below w.heap.size w W → SliceIn W o.bv o.b) := fun W hW => (hoc W hW).2
            have HOC : Hid (∀ (j : Nat) v, o.cells[j]? = some v → WK.cell? ⟨fb, fo + k * 4 + j, none⟩ = some v) := (hoc WK HD.out.pg.pl.below).1
            clear ho hoc
            have h1 : decide ((k : Int) < (n1 : Int)) = true := decide_eq_true (by omega)
            go_upto_region 14 with fail
            refine wp_region_lit ?_
            refine wl rfl (.int .i64 (k : Nat)) _ (run_mvZ (.tmp 14) rfl (.int .i64 (k : Nat)) rfl) ?_
            simp only [Act.put, aS, aC, aZ]
            refine wl rfl (.slice (some ⟨fb, fo, none⟩) n1 cap1) _ (run_mvZ (.tmp 1) rfl (.slice (some ⟨fb, fo, none⟩) n1 cap1) rfl) ?_
            simp only [Act.put, aS, aC, aZ]
            refine wl rfl (.int .i64 (n1 : Nat)) _ (run_lenZ sl22 (.tmp 78) rfl (some ⟨fb, fo, none⟩) n1 cap1 rfl) ?_
            simp only [Act.put, aS, aC, aZ]
            refine wl rfl (.bool true) _ (run_lssZ (.tmp 77) (.tmp 79) rfl _ _ rfl rfl true h1) ?_
            simp only [Act.put, aS, aC, aZ]
            refine wpList_nil ?_
            clear h1
            go_upto_region 16 with fail
            refine wp_region_lit ?_
            refine wl rfl (.slice (some ⟨fb, fo, none⟩) n1 cap1) _ (run_mvZ (.tmp 1) rfl (.slice (some ⟨fb, fo, none⟩) n1 cap1) rfl) ?_
            simp only [Act.put, aS, aC, aZ]
            refine wl rfl (.int .i64 (k : Nat)) _ (run_mvZ (.tmp 14) rfl (.int .i64 (k : Nat)) rfl) ?_
            simp only [Act.put, aS, aC, aZ]
            refine wl rfl (.pointer (some ⟨fb, fo + k * 4, none⟩)) _ (run_ix22 (.tmp 83) (.tmp 84) rfl fb fo n1 cap1 k rfl rfl hlt) ?_
            simp only [Act.put, aS, aC, aZ]
            refine wl rfl (.agg o.cells.toArray) _ (run_loadA ag40 (.tmp 85) rfl fb (fo + k * 4) rfl o.cells rfl (fun j v hv => HOC.out j v hv)) ?_
            simp only [Act.put, aS, aC, aZ]
            refine wl rfl (ptr WK.heap.size) _ (run_allocA z40 zero40 rfl) ?_
            obtain ⟨bo, hbo⟩ : ∃ q, q = WK.heap.size := ⟨_, rfl⟩
            obtain ⟨u0, hw⟩ : ∃ W, W = WK.alloc (.cells z40.toArray 40) := ⟨_, rfl⟩
            have A0 : Hid (Below WK.heap.size WK u0 ∧ Row u0 bo 40 z40 ∧ WK.heap.size ≤ bo) := (by rw [hbo, hw]; exact ⟨below_alloc WK _, Row.new _ _ _, Nat.le_refl _⟩)
            rw [← hbo, ← hw]
            clear hbo hw
            simp only [Act.put, aS, aC, aZ]
            have hst := run_storeVar ag40 u0 bo 0 40 z40 o.cells rfl A0.out.2.1 (by simp [z40, OpD.cells]) (op_one HOI.out)
            rw [show splice z40 0 o.cells = o.cells from rfl] at hst
            refine wlS rfl rfl _ (run_stV (.tmp 15) (.tmp 86) rfl bo 0 rfl _ rfl hst) ?_
            obtain ⟨W1, hw⟩ : ∃ W, W = u0.setRow bo o.cells.toArray := ⟨_, rfl⟩
            have HA : Hid (Below WK.heap.size WK W1 ∧ Row W1 bo 40 o.cells ∧ WK.heap.size ≤ bo) := (by
              have hc : Ch (· = bo) u0 W1 := hw ▸ (Ch.refl (· = bo) u0).setRow (g := bo) (Or.inl rfl) _
              exact ⟨A0.out.1.trans (hc.below A0.out.1.size fun i hi e => by have := A0.out.2.2; omega), hw ▸ A0.out.2.1.setRow _, A0.out.2.2⟩)
            rw [← hw]
            clear hw hst A0
            refine wpList_nil ?_
            have HR : Hid (Duo w W1 c gp g m [n0] [] 0 n L U X (6 + 8 * k) gy r ∧ Row W1 bo 40 o.cells ∧ SS w c gp bo) := ⟨HD.out.bel HA.out.1, HA.out.2.1, HD.out.pg.fresh HA.out.2.2⟩
            clear HA HD HOC
            obtain ⟨nb, hnb⟩ : ∃ b : Bool, b = false := ⟨_, rfl⟩
            have HNB : Hid (nb = false) := hnb
            clear hnb
            go_upto_region 17 with fail
            refine wp_region_lit ?_
            refine wl rfl (ptr g) _ (run_mvZ (.tmp 6) rfl (ptr g) rfl) ?_
            simp only [Act.put, aS, aC, aZ]
            refine wpList_callW eN23 [.tmp 87] _ rfl rfl [(ptr g)] rfl ?_
            refine (HR.out.1.pg.pl.isOn).mono ?_
            intro e W_ ⟨he, hw⟩
            rw [HR.out.1.pg.o.on] at he
            obtain rfl := he
            obtain rfl := hw
            refine ⟨_, rfl, ?_⟩
            simp only [Act.put, aS, aC, aZ]
            refine wl rfl (.bool nb) _ ((by rw [HNB.out]; exact run_not (.tmp 88) 4 rfl true rfl)) ?_
            simp only [Act.put, aS, aC, aZ]
            refine wl rfl (.bool nb) _ (run_mvZ (.tmp 89) rfl (.bool nb) rfl) ?_
            simp only [Act.put, aS, aC, aZ]
            refine wpList_skip (by rw [HNB.out]; kernel_rfl) ?_
            simp only [Act.put, aS, aC, aZ]
            refine wpList_skip (by rw [HNB.out]; kernel_rfl) ?_
            simp only [Act.put, aS, aC, aZ]
            refine wpList_skip (by rw [HNB.out]; kernel_rfl) ?_
            simp only [Act.put, aS, aC, aZ]
            refine wpList_skip (by rw [HNB.out]; kernel_rfl) ?_
            simp only [Act.put, aS, aC, aZ]
            refine wl rfl (.bool nb) _ (run_pickZ (.tmp 90) (.tmp 94) (.const (.bool false)) rfl nb (.bool nb) rfl (by rw [HNB.out]; rfl)) ?_
            simp only [Act.put, aS, aC, aZ]
            refine wpList_nil ?_
            obtain rfl : nb = false := HNB.out
            clear HNB
            go_upto_region 18 with fail
            refine wp_region_lit ?_
            refine wl rfl (.pointer (some ⟨bo, 0 + 0, none⟩)) _ (run_fieldOp' f40_0 (.tmp 15) rfl bo (0) rfl) ?_
            simp only [Act.put, aS, aC, aZ]
            refine wl rfl (.int .i64 o.k) _ (run_load1 o3 (.tmp 96) rfl bo (0 + 0) rfl (.int .i64 o.k) (HR.out.2.1.at 0 _ rfl)) ?_
            simp only [Act.put, aS, aC, aZ]
            refine wpList_callW eN14 [.tmp 97] _ rfl rfl [(.int .i64 o.k)] rfl ?_
            refine (kind_any W1 o.k HOI.out.k.1 HOI.out.k.2).mono ?_
            rintro e W_ ⟨rfl, rfl⟩
            refine ⟨_, rfl, ?_⟩
            obtain ⟨kd, hkd⟩ : ∃ kd, kd = kindOf o.k := ⟨_, rfl⟩
            rw [← hkd]
            have hk0 : 0 ≤ kd ∧ kd < 10 := (by rw [hkd]; exact kindOf_lt _)
            clear hkd
            simp only [Act.put, aS, aC, aZ]
            refine wpList_nil ?_
            go_upto_block 2 with fail
            go_cut [7, 9, 11, 13] from 77 to 203 (fun v7 v9 v11 v13 W => ∃ vm2, v7 = .int .i64 0 ∧ vm2 = v13 ∧ LoopI w W g n0 n (6 + 8 * (k + 1)) v9 v11 vm2)
            case first =>
              have hcase : kd = 0 ∨ kd = 1 ∨ kd = 2 ∨ kd = 3 ∨ kd = 4 ∨ kd = 5 ∨ kd = 6 ∨ kd = 7 ∨ kd = 8 ∨ kd = 9 := (by omega)
              clear hk0
              rcases hcase with rfl | rfl | rfl | rfl | rfl | rfl | rfl | rfl | rfl | rfl
              · as_aux_lemma =>
                    obtain ⟨q, er, U2, X2, r2, her, hrel2, hpg, hpr⟩ := put_plan HR.out.1.rel HR.out.1.rf.len HR.out.1.pg.o.us HR.out.1.pos.2 o.b
                    have HPL : Hid (Rls L U2 X2 r2 n ∧ PutP n L U U2 X X2 o.b q er ∧ PutD n r r2 o.b q er ∧ er ≠ 2) := ⟨hrel2, hpg, hpr, her⟩
                    clear her hrel2 hpg hpr
                    go_upto_region 23 with fail
                    refine wp_region_lit ?_
                    refine wl rfl (ptr gp) _ (run_mvZ (.tmp 9) rfl (ptr gp) rfl) ?_
                    simp only [Act.put, aS, aC, aZ]
                    refine wl rfl (.pointer (some ⟨bo, 0 + 2, none⟩)) _ (run_fieldOp' f40_2 (.tmp 15) rfl bo (0) rfl) ?_
                    simp only [Act.put, aS, aC, aZ]
                    refine wl rfl o.bv _ (run_load1 o38 (.tmp 106) rfl bo (0 + 2) rfl o.bv (HR.out.2.1.at 2 _ rfl)) ?_
                    simp only [Act.put, aS, aC, aZ]
                    refine wpList_callW eN15 [.tmp 105, .tmp 107] _ rfl rfl [(ptr gp), o.bv] rfl ?_
                    refine (HPL.out.2.1 o.bv HR.out.1.pg (by omega) (HOB.out W1 HR.out.1.pg.pl.below)).mono ?_
                    rintro e W3 ⟨c3, hs3, ⟨m3, rfl, _, hp3⟩ | ⟨m3, _, rfl, hoff3, hp3, hc3⟩⟩
                    · refine ⟨_, rfl, ?_⟩
                      have H3 : Hid (PgW w W3 c3 gp g m3 [n0] [] 0 n L U2 X2 (6 + 8 * k + 8) ∧ Ref (SS w c3 gp) W3 gy n r ∧ Row W3 bo 40 o.cells) := ⟨hp3, HR.out.1.rf.ssStp hs3, row_stp HR.out.2.1 hs3 HR.out.2.2⟩
                      have HPO : Hid (1 ≤ n ∧ n ≤ 384) := HR.out.1.pos
                      clear hs3 hp3 HR
                      simp only [Act.put, aS, aC, aZ]
                      refine wl rfl (.tuple #[(.int .i64 (q : Nat)), (.int .i64 er)]) _ (run_mvZ (.tmp 108) rfl (.tuple #[(.int .i64 (q : Nat)), (.int .i64 er)]) rfl) ?_
                      simp only [Act.put, aS, aC, aZ]
                      refine wl rfl (.int .i64 (q : Nat)) _ (run_extZ (.tmp 104) 0 rfl #[(.int .i64 (q : Nat)), (.int .i64 er)] rfl (.int .i64 (q : Nat)) rfl) ?_
                      simp only [Act.put, aS, aC, aZ]
                      refine wl rfl (.int .i64 er) _ (run_extZ (.tmp 104) 1 rfl #[(.int .i64 (q : Nat)), (.int .i64 er)] rfl (.int .i64 er) rfl) ?_
                      simp only [Act.put, aS, aC, aZ]
                      refine wl rfl (.int .i64 (q : Nat)) _ (run_asZ (.tmp 109) rfl (.int .i64 (q : Nat)) rfl) ?_
                      simp only [Act.put, aS, aC, aZ]
                      refine wl rfl (.int .i64 er) _ (run_asZ (.tmp 110) rfl (.int .i64 er) rfl) ?_
                      simp only [Act.put, aS, aC, aZ]
                      refine wpList_nil ?_
                      go_upto_region 24 with fail
                      refine wp_region_lit ?_
                      refine wl rfl (.int .i64 er) _ (run_mvZ (.tmp 17) rfl (.int .i64 er) rfl) ?_
                      simp only [Act.put, aS, aC, aZ]
                      refine wl rfl (.bool false) _ (run_eqZ (.tmp 111) (.const (.int .i64 2)) rfl er 2 rfl rfl false (decide_eq_false HPL.out.2.2.2)) ?_
                      simp only [Act.put, aS, aC, aZ]
                      refine wpList_nil ?_
                      go_upto_region 25 with fail
                      refine wp_region_lit ?_
                      refine wl rfl (ptr gy) _ (run_mvZ (.tmp 11) rfl (ptr gy) rfl) ?_
                      simp only [Act.put, aS, aC, aZ]
                      refine wl rfl (.pointer (some ⟨bo, 0 + 2, none⟩)) _ (run_fieldOp' f40_2 (.tmp 15) rfl bo (0) rfl) ?_
                      simp only [Act.put, aS, aC, aZ]
                      refine wl rfl o.bv _ (run_load1 o38 (.tmp 115) rfl bo (0 + 2) rfl o.bv (H3.out.2.2.at 2 _ rfl)) ?_
                      simp only [Act.put, aS, aC, aZ]
                      refine wpList_callW eN16 [.tmp 114, .tmp 116] _ rfl rfl [(ptr gy), o.bv] rfl ?_
                      refine (HPL.out.2.2.1 _ W3 gy o.bv H3.out.2.1 HPO.out (fun _ hb => H3.out.1.fresh hb) (fun W' hc => HOB.out W' (H3.out.1.chS hc fun _ _ e => e).pl.below)).mono ?_
                      rintro e W4 ⟨rfl, hc4, hr4⟩
                      refine ⟨_, rfl, ?_⟩
                      have HDU := LoopI.on (duo_ref H3.out.1 hc4 hr4 HPL.out.1)
                      clear hc4 hr4 H3 HPL
                      simp only [Act.put, aS, aC, aZ]
                      refine wl rfl (.tuple #[(.int .i64 (q : Nat)), (.int .i64 er)]) _ (run_mvZ (.tmp 117) rfl (.tuple #[(.int .i64 (q : Nat)), (.int .i64 er)]) rfl) ?_
                      simp only [Act.put, aS, aC, aZ]
                      refine wl rfl (.int .i64 (q : Nat)) _ (run_extZ (.tmp 113) 0 rfl #[(.int .i64 (q : Nat)), (.int .i64 er)] rfl (.int .i64 (q : Nat)) rfl) ?_
                      simp only [Act.put, aS, aC, aZ]
                      refine wl rfl (.int .i64 er) _ (run_extZ (.tmp 113) 1 rfl #[(.int .i64 (q : Nat)), (.int .i64 er)] rfl (.int .i64 er) rfl) ?_
                      simp only [Act.put, aS, aC, aZ]
                      refine wl rfl (.int .i64 (q : Nat)) _ (run_asZ (.tmp 118) rfl (.int .i64 (q : Nat)) rfl) ?_
                      simp only [Act.put, aS, aC, aZ]
                      refine wl rfl (.int .i64 er) _ (run_asZ (.tmp 119) rfl (.int .i64 er) rfl) ?_
                      simp only [Act.put, aS, aC, aZ]
                      refine wpList_nil ?_
                      go_upto_region 26 with fail
                      refine wp_region_lit ?_
                      refine wl rfl (.int .i64 (q : Nat)) _ (run_mvZ (.tmp 16) rfl (.int .i64 (q : Nat)) rfl) ?_
                      simp only [Act.put, aS, aC, aZ]
                      refine wl rfl (.int .i64 (q : Nat)) _ (run_mvZ (.tmp 18) rfl (.int .i64 (q : Nat)) rfl) ?_
                      simp only [Act.put, aS, aC, aZ]
                      refine wl rfl (.bool false) _ (run_neZ (.tmp 120) (.tmp 121) rfl ((q : Nat) : Int) ((q : Nat) : Int) rfl rfl false (by simp)) ?_
                      simp only [Act.put, aS, aC, aZ]
                      refine wl rfl (.bool false) _ (run_mvZ (.tmp 122) rfl (.bool false) rfl) ?_
                      simp only [Act.put, aS, aC, aZ]
                      refine wl (by kernel_rfl) (.int .i64 er) _ (run_mvZ (.tmp 17) rfl (.int .i64 er) rfl) ?_
                      simp only [Act.put, aS, aC, aZ]
                      refine wl (by kernel_rfl) (.int .i64 er) _ (run_mvZ (.tmp 19) rfl (.int .i64 er) rfl) ?_
                      simp only [Act.put, aS, aC, aZ]
                      refine wl (by kernel_rfl) (.bool false) _ (run_neZ (.tmp 124) (.tmp 125) rfl er er rfl rfl false (by simp)) ?_
                      simp only [Act.put, aS, aC, aZ]
                      refine wl rfl (.bool false) _ (run_pickZ (.tmp 123) (.const (.bool true)) (.tmp 126) rfl false (.bool false) rfl rfl) ?_
                      simp only [Act.put, aS, aC, aZ]
                      refine wpList_nil ?_
                      go_wp2_with fail
                      go_meet
                      case rel => exact ⟨_, rfl, rfl, (HDU).mono (by omega)⟩
                    · refine ⟨_, rfl, ?_⟩
                      have H3 : Hid (m3.on = false ∧ Aft w W3 c3 g m3 [n0] [] 0 n (6 + 8 * k + 8) gy (.pointer none)) := ⟨hoff3, aft_one hp3 HR.out.1.rf hs3 HR.out.1.rel.drop hc3⟩
                      clear hs3 hp3 hoff3 hc3 HR HPL
                      simp only [Act.put, aS, aC, aZ]
                      refine wl rfl (.tuple #[(.int .i64 (0 : Nat)), (.int .i64 2)]) _ (run_mvZ (.tmp 108) rfl (.tuple #[(.int .i64 (0 : Nat)), (.int .i64 2)]) rfl) ?_
                      simp only [Act.put, aS, aC, aZ]
                      refine wl rfl (.int .i64 (0 : Nat)) _ (run_extZ (.tmp 104) 0 rfl #[(.int .i64 (0 : Nat)), (.int .i64 2)] rfl (.int .i64 (0 : Nat)) rfl) ?_
                      simp only [Act.put, aS, aC, aZ]
                      refine wl rfl (.int .i64 2) _ (run_extZ (.tmp 104) 1 rfl #[(.int .i64 (0 : Nat)), (.int .i64 2)] rfl (.int .i64 2) rfl) ?_
                      simp only [Act.put, aS, aC, aZ]
                      refine wl rfl (.int .i64 (0 : Nat)) _ (run_asZ (.tmp 109) rfl (.int .i64 (0 : Nat)) rfl) ?_
                      simp only [Act.put, aS, aC, aZ]
                      refine wl rfl (.int .i64 2) _ (run_asZ (.tmp 110) rfl (.int .i64 2) rfl) ?_
                      simp only [Act.put, aS, aC, aZ]
                      refine wpList_nil ?_
                      go_upto_region 24 with fail
                      refine wp_region_lit ?_
                      refine wl rfl (.int .i64 2) _ (run_mvZ (.tmp 17) rfl (.int .i64 2) rfl) ?_
                      simp only [Act.put, aS, aC, aZ]
                      refine wl rfl (.bool true) _ (run_eqZ (.tmp 111) (.const (.int .i64 2)) rfl (2) (2) rfl rfl true rfl) ?_
                      simp only [Act.put, aS, aC, aZ]
                      refine wpList_nil ?_
                      have HDU := LoopI.off (gp := gp) H3.out.1 H3.out.2
                      go_wp2_with fail
                      go_meet
                      case rel => exact ⟨_, rfl, rfl, (HDU).mono (by omega)⟩
              · as_aux_lemma =>
                    obtain ⟨q, er, U2, X2, r2, her, hrel2, hpg, hpr⟩ := put_plan HR.out.1.rel HR.out.1.rf.len HR.out.1.pg.o.us HR.out.1.pos.2 o.b
                    have HPL : Hid (Rls L U2 X2 r2 n ∧ PutP n L U U2 X X2 o.b q er ∧ PutD n r r2 o.b q er ∧ er ≠ 2) := ⟨hrel2, hpg, hpr, her⟩
                    clear her hrel2 hpg hpr
                    go_upto_region 23 with fail
                    refine wp_region_lit ?_
                    refine wl rfl (ptr gp) _ (run_mvZ (.tmp 9) rfl (ptr gp) rfl) ?_
                    simp only [Act.put, aS, aC, aZ]
                    refine wl rfl (.pointer (some ⟨bo, 0 + 2, none⟩)) _ (run_fieldOp' f40_2 (.tmp 15) rfl bo (0) rfl) ?_
                    simp only [Act.put, aS, aC, aZ]
                    refine wl rfl o.bv _ (run_load1 o38 (.tmp 106) rfl bo (0 + 2) rfl o.bv (HR.out.2.1.at 2 _ rfl)) ?_
                    simp only [Act.put, aS, aC, aZ]
                    refine wpList_callW eN15 [.tmp 105, .tmp 107] _ rfl rfl [(ptr gp), o.bv] rfl ?_
                    refine (HPL.out.2.1 o.bv HR.out.1.pg (by omega) (HOB.out W1 HR.out.1.pg.pl.below)).mono ?_
                    rintro e W3 ⟨c3, hs3, ⟨m3, rfl, _, hp3⟩ | ⟨m3, _, rfl, hoff3, hp3, hc3⟩⟩
                    · refine ⟨_, rfl, ?_⟩
                      have H3 : Hid (PgW w W3 c3 gp g m3 [n0] [] 0 n L U2 X2 (6 + 8 * k + 8) ∧ Ref (SS w c3 gp) W3 gy n r ∧ Row W3 bo 40 o.cells) := ⟨hp3, HR.out.1.rf.ssStp hs3, row_stp HR.out.2.1 hs3 HR.out.2.2⟩
                      have HPO : Hid (1 ≤ n ∧ n ≤ 384) := HR.out.1.pos
                      clear hs3 hp3 HR
                      simp only [Act.put, aS, aC, aZ]
                      refine wl rfl (.tuple #[(.int .i64 (q : Nat)), (.int .i64 er)]) _ (run_mvZ (.tmp 108) rfl (.tuple #[(.int .i64 (q : Nat)), (.int .i64 er)]) rfl) ?_
                      simp only [Act.put, aS, aC, aZ]
                      refine wl rfl (.int .i64 (q : Nat)) _ (run_extZ (.tmp 104) 0 rfl #[(.int .i64 (q : Nat)), (.int .i64 er)] rfl (.int .i64 (q : Nat)) rfl) ?_
                      simp only [Act.put, aS, aC, aZ]
                      refine wl rfl (.int .i64 er) _ (run_extZ (.tmp 104) 1 rfl #[(.int .i64 (q : Nat)), (.int .i64 er)] rfl (.int .i64 er) rfl) ?_
                      simp only [Act.put, aS, aC, aZ]
                      refine wl rfl (.int .i64 (q : Nat)) _ (run_asZ (.tmp 109) rfl (.int .i64 (q : Nat)) rfl) ?_
                      simp only [Act.put, aS, aC, aZ]
                      refine wl rfl (.int .i64 er) _ (run_asZ (.tmp 110) rfl (.int .i64 er) rfl) ?_
                      simp only [Act.put, aS, aC, aZ]
                      refine wpList_nil ?_
                      go_upto_region 24 with fail
                      refine wp_region_lit ?_
                      refine wl rfl (.int .i64 er) _ (run_mvZ (.tmp 17) rfl (.int .i64 er) rfl) ?_
                      simp only [Act.put, aS, aC, aZ]
                      refine wl rfl (.bool false) _ (run_eqZ (.tmp 111) (.const (.int .i64 2)) rfl er 2 rfl rfl false (decide_eq_false HPL.out.2.2.2)) ?_
                      simp only [Act.put, aS, aC, aZ]
                      refine wpList_nil ?_
                      go_upto_region 25 with fail
                      refine wp_region_lit ?_
                      refine wl rfl (ptr gy) _ (run_mvZ (.tmp 11) rfl (ptr gy) rfl) ?_
                      simp only [Act.put, aS, aC, aZ]
                      refine wl rfl (.pointer (some ⟨bo, 0 + 2, none⟩)) _ (run_fieldOp' f40_2 (.tmp 15) rfl bo (0) rfl) ?_
                      simp only [Act.put, aS, aC, aZ]
                      refine wl rfl o.bv _ (run_load1 o38 (.tmp 115) rfl bo (0 + 2) rfl o.bv (H3.out.2.2.at 2 _ rfl)) ?_
                      simp only [Act.put, aS, aC, aZ]
                      refine wpList_callW eN16 [.tmp 114, .tmp 116] _ rfl rfl [(ptr gy), o.bv] rfl ?_
                      refine (HPL.out.2.2.1 _ W3 gy o.bv H3.out.2.1 HPO.out (fun _ hb => H3.out.1.fresh hb) (fun W' hc => HOB.out W' (H3.out.1.chS hc fun _ _ e => e).pl.below)).mono ?_
                      rintro e W4 ⟨rfl, hc4, hr4⟩
                      refine ⟨_, rfl, ?_⟩
                      have HDU := LoopI.on (duo_ref H3.out.1 hc4 hr4 HPL.out.1)
                      clear hc4 hr4 H3 HPL
                      simp only [Act.put, aS, aC, aZ]
                      refine wl rfl (.tuple #[(.int .i64 (q : Nat)), (.int .i64 er)]) _ (run_mvZ (.tmp 117) rfl (.tuple #[(.int .i64 (q : Nat)), (.int .i64 er)]) rfl) ?_
                      simp only [Act.put, aS, aC, aZ]
                      refine wl rfl (.int .i64 (q : Nat)) _ (run_extZ (.tmp 113) 0 rfl #[(.int .i64 (q : Nat)), (.int .i64 er)] rfl (.int .i64 (q : Nat)) rfl) ?_
                      simp only [Act.put, aS, aC, aZ]
                      refine wl rfl (.int .i64 er) _ (run_extZ (.tmp 113) 1 rfl #[(.int .i64 (q : Nat)), (.int .i64 er)] rfl (.int .i64 er) rfl) ?_
                      simp only [Act.put, aS, aC, aZ]
                      refine wl rfl (.int .i64 (q : Nat)) _ (run_asZ (.tmp 118) rfl (.int .i64 (q : Nat)) rfl) ?_
                      simp only [Act.put, aS, aC, aZ]
                      refine wl rfl (.int .i64 er) _ (run_asZ (.tmp 119) rfl (.int .i64 er) rfl) ?_
                      simp only [Act.put, aS, aC, aZ]
                      refine wpList_nil ?_
                      go_upto_region 26 with fail
                      refine wp_region_lit ?_
                      refine wl rfl (.int .i64 (q : Nat)) _ (run_mvZ (.tmp 16) rfl (.int .i64 (q : Nat)) rfl) ?_
                      simp only [Act.put, aS, aC, aZ]
                      refine wl rfl (.int .i64 (q : Nat)) _ (run_mvZ (.tmp 18) rfl (.int .i64 (q : Nat)) rfl) ?_
                      simp only [Act.put, aS, aC, aZ]
                      refine wl rfl (.bool false) _ (run_neZ (.tmp 120) (.tmp 121) rfl ((q : Nat) : Int) ((q : Nat) : Int) rfl rfl false (by simp)) ?_
                      simp only [Act.put, aS, aC, aZ]
                      refine wl rfl (.bool false) _ (run_mvZ (.tmp 122) rfl (.bool false) rfl) ?_
                      simp only [Act.put, aS, aC, aZ]
                      refine wl (by kernel_rfl) (.int .i64 er) _ (run_mvZ (.tmp 17) rfl (.int .i64 er) rfl) ?_
                      simp only [Act.put, aS, aC, aZ]
                      refine wl (by kernel_rfl) (.int .i64 er) _ (run_mvZ (.tmp 19) rfl (.int .i64 er) rfl) ?_
                      simp only [Act.put, aS, aC, aZ]
                      refine wl (by kernel_rfl) (.bool false) _ (run_neZ (.tmp 124) (.tmp 125) rfl er er rfl rfl false (by simp)) ?_
                      simp only [Act.put, aS, aC, aZ]
                      refine wl rfl (.bool false) _ (run_pickZ (.tmp 123) (.const (.bool true)) (.tmp 126) rfl false (.bool false) rfl rfl) ?_
                      simp only [Act.put, aS, aC, aZ]
                      refine wpList_nil ?_
                      go_wp2_with fail
                      go_meet
                      case rel => exact ⟨_, rfl, rfl, (HDU).mono (by omega)⟩
                    · refine ⟨_, rfl, ?_⟩
                      have H3 : Hid (m3.on = false ∧ Aft w W3 c3 g m3 [n0] [] 0 n (6 + 8 * k + 8) gy (.pointer none)) := ⟨hoff3, aft_one hp3 HR.out.1.rf hs3 HR.out.1.rel.drop hc3⟩
                      clear hs3 hp3 hoff3 hc3 HR HPL
                      simp only [Act.put, aS, aC, aZ]
                      refine wl rfl (.tuple #[(.int .i64 (0 : Nat)), (.int .i64 2)]) _ (run_mvZ (.tmp 108) rfl (.tuple #[(.int .i64 (0 : Nat)), (.int .i64 2)]) rfl) ?_
                      simp only [Act.put, aS, aC, aZ]
                      refine wl rfl (.int .i64 (0 : Nat)) _ (run_extZ (.tmp 104) 0 rfl #[(.int .i64 (0 : Nat)), (.int .i64 2)] rfl (.int .i64 (0 : Nat)) rfl) ?_
                      simp only [Act.put, aS, aC, aZ]
                      refine wl rfl (.int .i64 2) _ (run_extZ (.tmp 104) 1 rfl #[(.int .i64 (0 : Nat)), (.int .i64 2)] rfl (.int .i64 2) rfl) ?_
                      simp only [Act.put, aS, aC, aZ]
                      refine wl rfl (.int .i64 (0 : Nat)) _ (run_asZ (.tmp 109) rfl (.int .i64 (0 : Nat)) rfl) ?_
                      simp only [Act.put, aS, aC, aZ]
                      refine wl rfl (.int .i64 2) _ (run_asZ (.tmp 110) rfl (.int .i64 2) rfl) ?_
                      simp only [Act.put, aS, aC, aZ]
                      refine wpList_nil ?_
                      go_upto_region 24 with fail
                      refine wp_region_lit ?_
                      refine wl rfl (.int .i64 2) _ (run_mvZ (.tmp 17) rfl (.int .i64 2) rfl) ?_
                      simp only [Act.put, aS, aC, aZ]
                      refine wl rfl (.bool true) _ (run_eqZ (.tmp 111) (.const (.int .i64 2)) rfl (2) (2) rfl rfl true rfl) ?_
                      simp only [Act.put, aS, aC, aZ]
                      refine wpList_nil ?_
                      have HDU := LoopI.off (gp := gp) H3.out.1 H3.out.2
                      go_wp2_with fail
                      go_meet
                      case rel => exact ⟨_, rfl, rfl, (HDU).mono (by omega)⟩
              · as_aux_lemma =>
                    obtain ⟨q, er, U2, X2, r2, her, hrel2, hpg, hpr⟩ := put_plan HR.out.1.rel HR.out.1.rf.len HR.out.1.pg.o.us HR.out.1.pos.2 o.b
                    have HPL : Hid (Rls L U2 X2 r2 n ∧ PutP n L U U2 X X2 o.b q er ∧ PutD n r r2 o.b q er ∧ er ≠ 2) := ⟨hrel2, hpg, hpr, her⟩
                    clear her hrel2 hpg hpr
                    go_upto_region 23 with fail
                    refine wp_region_lit ?_
                    refine wl rfl (ptr gp) _ (run_mvZ (.tmp 9) rfl (ptr gp) rfl) ?_
                    simp only [Act.put, aS, aC, aZ]
                    refine wl rfl (.pointer (some ⟨bo, 0 + 2, none⟩)) _ (run_fieldOp' f40_2 (.tmp 15) rfl bo (0) rfl) ?_
                    simp only [Act.put, aS, aC, aZ]
                    refine wl rfl o.bv _ (run_load1 o38 (.tmp 106) rfl bo (0 + 2) rfl o.bv (HR.out.2.1.at 2 _ rfl)) ?_
                    simp only [Act.put, aS, aC, aZ]
                    refine wpList_callW eN15 [.tmp 105, .tmp 107] _ rfl rfl [(ptr gp), o.bv] rfl ?_
                    refine (HPL.out.2.1 o.bv HR.out.1.pg (by omega) (HOB.out W1 HR.out.1.pg.pl.below)).mono ?_
                    rintro e W3 ⟨c3, hs3, ⟨m3, rfl, _, hp3⟩ | ⟨m3, _, rfl, hoff3, hp3, hc3⟩⟩
                    · refine ⟨_, rfl, ?_⟩
                      have H3 : Hid (PgW w W3 c3 gp g m3 [n0] [] 0 n L U2 X2 (6 + 8 * k + 8) ∧ Ref (SS w c3 gp) W3 gy n r ∧ Row W3 bo 40 o.cells) := ⟨hp3, HR.out.1.rf.ssStp hs3, row_stp HR.out.2.1 hs3 HR.out.2.2⟩
                      have HPO : Hid (1 ≤ n ∧ n ≤ 384) := HR.out.1.pos
                      clear hs3 hp3 HR
                      simp only [Act.put, aS, aC, aZ]
                      refine wl rfl (.tuple #[(.int .i64 (q : Nat)), (.int .i64 er)]) _ (run_mvZ (.tmp 108) rfl (.tuple #[(.int .i64 (q : Nat)), (.int .i64 er)]) rfl) ?_
                      simp only [Act.put, aS, aC, aZ]
                      refine wl rfl (.int .i64 (q : Nat)) _ (run_extZ (.tmp 104) 0 rfl #[(.int .i64 (q : Nat)), (.int .i64 er)] rfl (.int .i64 (q : Nat)) rfl) ?_
                      simp only [Act.put, aS, aC, aZ]
                      refine wl rfl (.int .i64 er) _ (run_extZ (.tmp 104) 1 rfl #[(.int .i64 (q : Nat)), (.int .i64 er)] rfl (.int .i64 er) rfl) ?_
                      simp only [Act.put, aS, aC, aZ]
                      refine wl rfl (.int .i64 (q : Nat)) _ (run_asZ (.tmp 109) rfl (.int .i64 (q : Nat)) rfl) ?_
                      simp only [Act.put, aS, aC, aZ]
                      refine wl rfl (.int .i64 er) _ (run_asZ (.tmp 110) rfl (.int .i64 er) rfl) ?_
                      simp only [Act.put, aS, aC, aZ]
                      refine wpList_nil ?_
                      go_upto_region 24 with fail
                      refine wp_region_lit ?_
                      refine wl rfl (.int .i64 er) _ (run_mvZ (.tmp 17) rfl (.int .i64 er) rfl) ?_
                      simp only [Act.put, aS, aC, aZ]
                      refine wl rfl (.bool false) _ (run_eqZ (.tmp 111) (.const (.int .i64 2)) rfl er 2 rfl rfl false (decide_eq_false HPL.out.2.2.2)) ?_
                      simp only [Act.put, aS, aC, aZ]
                      refine wpList_nil ?_
                      go_upto_region 25 with fail
                      refine wp_region_lit ?_
                      refine wl rfl (ptr gy) _ (run_mvZ (.tmp 11) rfl (ptr gy) rfl) ?_
                      simp only [Act.put, aS, aC, aZ]
                      refine wl rfl (.pointer (some ⟨bo, 0 + 2, none⟩)) _ (run_fieldOp' f40_2 (.tmp 15) rfl bo (0) rfl) ?_
                      simp only [Act.put, aS, aC, aZ]
                      refine wl rfl o.bv _ (run_load1 o38 (.tmp 115) rfl bo (0 + 2) rfl o.bv (H3.out.2.2.at 2 _ rfl)) ?_
                      simp only [Act.put, aS, aC, aZ]
                      refine wpList_callW eN16 [.tmp 114, .tmp 116] _ rfl rfl [(ptr gy), o.bv] rfl ?_
                      refine (HPL.out.2.2.1 _ W3 gy o.bv H3.out.2.1 HPO.out (fun _ hb => H3.out.1.fresh hb) (fun W' hc => HOB.out W' (H3.out.1.chS hc fun _ _ e => e).pl.below)).mono ?_
                      rintro e W4 ⟨rfl, hc4, hr4⟩
                      refine ⟨_, rfl, ?_⟩
                      have HDU := LoopI.on (duo_ref H3.out.1 hc4 hr4 HPL.out.1)
                      clear hc4 hr4 H3 HPL
                      simp only [Act.put, aS, aC, aZ]
                      refine wl rfl (.tuple #[(.int .i64 (q : Nat)), (.int .i64 er)]) _ (run_mvZ (.tmp 117) rfl (.tuple #[(.int .i64 (q : Nat)), (.int .i64 er)]) rfl) ?_
                      simp only [Act.put, aS, aC, aZ]
                      refine wl rfl (.int .i64 (q : Nat)) _ (run_extZ (.tmp 113) 0 rfl #[(.int .i64 (q : Nat)), (.int .i64 er)] rfl (.int .i64 (q : Nat)) rfl) ?_
                      simp only [Act.put, aS, aC, aZ]
                      refine wl rfl (.int .i64 er) _ (run_extZ (.tmp 113) 1 rfl #[(.int .i64 (q : Nat)), (.int .i64 er)] rfl (.int .i64 er) rfl) ?_
                      simp only [Act.put, aS, aC, aZ]
                      refine wl rfl (.int .i64 (q : Nat)) _ (run_asZ (.tmp 118) rfl (.int .i64 (q : Nat)) rfl) ?_
                      simp only [Act.put, aS, aC, aZ]
                      refine wl rfl (.int .i64 er) _ (run_asZ (.tmp 119) rfl (.int .i64 er) rfl) ?_
                      simp only [Act.put, aS, aC, aZ]
                      refine wpList_nil ?_
                      go_upto_region 26 with fail
                      refine wp_region_lit ?_
                      refine wl rfl (.int .i64 (q : Nat)) _ (run_mvZ (.tmp 16) rfl (.int .i64 (q : Nat)) rfl) ?_
                      simp only [Act.put, aS, aC, aZ]
                      refine wl rfl (.int .i64 (q : Nat)) _ (run_mvZ (.tmp 18) rfl (.int .i64 (q : Nat)) rfl) ?_
                      simp only [Act.put, aS, aC, aZ]
                      refine wl rfl (.bool false) _ (run_neZ (.tmp 120) (.tmp 121) rfl ((q : Nat) : Int) ((q : Nat) : Int) rfl rfl false (by simp)) ?_
                      simp only [Act.put, aS, aC, aZ]
                      refine wl rfl (.bool false) _ (run_mvZ (.tmp 122) rfl (.bool false) rfl) ?_
                      simp only [Act.put, aS, aC, aZ]
                      refine wl (by kernel_rfl) (.int .i64 er) _ (run_mvZ (.tmp 17) rfl (.int .i64 er) rfl) ?_
                      simp only [Act.put, aS, aC, aZ]
                      refine wl (by kernel_rfl) (.int .i64 er) _ (run_mvZ (.tmp 19) rfl (.int .i64 er) rfl) ?_
                      simp only [Act.put, aS, aC, aZ]
                      refine wl (by kernel_rfl) (.bool false) _ (run_neZ (.tmp 124) (.tmp 125) rfl er er rfl rfl false (by simp)) ?_
                      simp only [Act.put, aS, aC, aZ]
                      refine wl rfl (.bool false) _ (run_pickZ (.tmp 123) (.const (.bool true)) (.tmp 126) rfl false (.bool false) rfl rfl) ?_
                      simp only [Act.put, aS, aC, aZ]
                      refine wpList_nil ?_
                      go_wp2_with fail
                      go_meet
                      case rel => exact ⟨_, rfl, rfl, (HDU).mono (by omega)⟩
                    · refine ⟨_, rfl, ?_⟩
                      have H3 : Hid (m3.on = false ∧ Aft w W3 c3 g m3 [n0] [] 0 n (6 + 8 * k + 8) gy (.pointer none)) := ⟨hoff3, aft_one hp3 HR.out.1.rf hs3 HR.out.1.rel.drop hc3⟩
                      clear hs3 hp3 hoff3 hc3 HR HPL
                      simp only [Act.put, aS, aC, aZ]
                      refine wl rfl (.tuple #[(.int .i64 (0 : Nat)), (.int .i64 2)]) _ (run_mvZ (.tmp 108) rfl (.tuple #[(.int .i64 (0 : Nat)), (.int .i64 2)]) rfl) ?_
                      simp only [Act.put, aS, aC, aZ]
                      refine wl rfl (.int .i64 (0 : Nat)) _ (run_extZ (.tmp 104) 0 rfl #[(.int .i64 (0 : Nat)), (.int .i64 2)] rfl (.int .i64 (0 : Nat)) rfl) ?_
                      simp only [Act.put, aS, aC, aZ]
                      refine wl rfl (.int .i64 2) _ (run_extZ (.tmp 104) 1 rfl #[(.int .i64 (0 : Nat)), (.int .i64 2)] rfl (.int .i64 2) rfl) ?_
                      simp only [Act.put, aS, aC, aZ]
                      refine wl rfl (.int .i64 (0 : Nat)) _ (run_asZ (.tmp 109) rfl (.int .i64 (0 : Nat)) rfl) ?_
                      simp only [Act.put, aS, aC, aZ]
                      refine wl rfl (.int .i64 2) _ (run_asZ (.tmp 110) rfl (.int .i64 2) rfl) ?_
                      simp only [Act.put, aS, aC, aZ]
                      refine wpList_nil ?_
                      go_upto_region 24 with fail
                      refine wp_region_lit ?_
                      refine wl rfl (.int .i64 2) _ (run_mvZ (.tmp 17) rfl (.int .i64 2) rfl) ?_
                      simp only [Act.put, aS, aC, aZ]
                      refine wl rfl (.bool true) _ (run_eqZ (.tmp 111) (.const (.int .i64 2)) rfl (2) (2) rfl rfl true rfl) ?_
                      simp only [Act.put, aS, aC, aZ]
                      refine wpList_nil ?_
                      have HDU := LoopI.off (gp := gp) H3.out.1 H3.out.2
                      go_wp2_with fail
                      go_meet
                      case rel => exact ⟨_, rfl, rfl, (HDU).mono (by omega)⟩
              · as_aux_lemma =>
                    obtain ⟨q, er, U2, X2, r2, her, hrel2, hpg, hpr⟩ := put_plan HR.out.1.rel HR.out.1.rf.len HR.out.1.pg.o.us HR.out.1.pos.2 o.b
                    have HPL : Hid (Rls L U2 X2 r2 n ∧ PutP n L U U2 X X2 o.b q er ∧ PutD n r r2 o.b q er ∧ er ≠ 2) := ⟨hrel2, hpg, hpr, her⟩
                    clear her hrel2 hpg hpr
                    go_upto_region 23 with fail
                    refine wp_region_lit ?_
                    refine wl rfl (ptr gp) _ (run_mvZ (.tmp 9) rfl (ptr gp) rfl) ?_
                    simp only [Act.put, aS, aC, aZ]
                    refine wl rfl (.pointer (some ⟨bo, 0 + 2, none⟩)) _ (run_fieldOp' f40_2 (.tmp 15) rfl bo (0) rfl) ?_
                    simp only [Act.put, aS, aC, aZ]
                    refine wl rfl o.bv _ (run_load1 o38 (.tmp 106) rfl bo (0 + 2) rfl o.bv (HR.out.2.1.at 2 _ rfl)) ?_
                    simp only [Act.put, aS, aC, aZ]
                    refine wpList_callW eN15 [.tmp 105, .tmp 107] _ rfl rfl [(ptr gp), o.bv] rfl ?_
                    refine (HPL.out.2.1 o.bv HR.out.1.pg (by omega) (HOB.out W1 HR.out.1.pg.pl.below)).mono ?_
                    rintro e W3 ⟨c3, hs3, ⟨m3, rfl, _, hp3⟩ | ⟨m3, _, rfl, hoff3, hp3, hc3⟩⟩
                    · refine ⟨_, rfl, ?_⟩
                      have H3 : Hid (PgW w W3 c3 gp g m3 [n0] [] 0 n L U2 X2 (6 + 8 * k + 8) ∧ Ref (SS w c3 gp) W3 gy n r ∧ Row W3 bo 40 o.cells) := ⟨hp3, HR.out.1.rf.ssStp hs3, row_stp HR.out.2.1 hs3 HR.out.2.2⟩
                      have HPO : Hid (1 ≤ n ∧ n ≤ 384) := HR.out.1.pos
                      clear hs3 hp3 HR
                      simp only [Act.put, aS, aC, aZ]
                      refine wl rfl (.tuple #[(.int .i64 (q : Nat)), (.int .i64 er)]) _ (run_mvZ (.tmp 108) rfl (.tuple #[(.int .i64 (q : Nat)), (.int .i64 er)]) rfl) ?_
                      simp only [Act.put, aS, aC, aZ]
                      refine wl rfl (.int .i64 (q : Nat)) _ (run_extZ (.tmp 104) 0 rfl #[(.int .i64 (q : Nat)), (.int .i64 er)] rfl (.int .i64 (q : Nat)) rfl) ?_
                      simp only [Act.put, aS, aC, aZ]
                      refine wl rfl (.int .i64 er) _ (run_extZ (.tmp 104) 1 rfl #[(.int .i64 (q : Nat)), (.int .i64 er)] rfl (.int .i64 er) rfl) ?_
                      simp only [Act.put, aS, aC, aZ]
                      refine wl rfl (.int .i64 (q : Nat)) _ (run_asZ (.tmp 109) rfl (.int .i64 (q : Nat)) rfl) ?_
                      simp only [Act.put, aS, aC, aZ]
                      refine wl rfl (.int .i64 er) _ (run_asZ (.tmp 110) rfl (.int .i64 er) rfl) ?_
                      simp only [Act.put, aS, aC, aZ]
                      refine wpList_nil ?_
                      go_upto_region 24 with fail
                      refine wp_region_lit ?_
                      refine wl rfl (.int .i64 er) _ (run_mvZ (.tmp 17) rfl (.int .i64 er) rfl) ?_
                      simp only [Act.put, aS, aC, aZ]
                      refine wl rfl (.bool false) _ (run_eqZ (.tmp 111) (.const (.int .i64 2)) rfl er 2 rfl rfl false (decide_eq_false HPL.out.2.2.2)) ?_
                      simp only [Act.put, aS, aC, aZ]
                      refine wpList_nil ?_
                      go_upto_region 25 with fail
                      refine wp_region_lit ?_
                      refine wl rfl (ptr gy) _ (run_mvZ (.tmp 11) rfl (ptr gy) rfl) ?_
                      simp only [Act.put, aS, aC, aZ]
                      refine wl rfl (.pointer (some ⟨bo, 0 + 2, none⟩)) _ (run_fieldOp' f40_2 (.tmp 15) rfl bo (0) rfl) ?_
                      simp only [Act.put, aS, aC, aZ]
                      refine wl rfl o.bv _ (run_load1 o38 (.tmp 115) rfl bo (0 + 2) rfl o.bv (H3.out.2.2.at 2 _ rfl)) ?_
                      simp only [Act.put, aS, aC, aZ]
                      refine wpList_callW eN16 [.tmp 114, .tmp 116] _ rfl rfl [(ptr gy), o.bv] rfl ?_
                      refine (HPL.out.2.2.1 _ W3 gy o.bv H3.out.2.1 HPO.out (fun _ hb => H3.out.1.fresh hb) (fun W' hc => HOB.out W' (H3.out.1.chS hc fun _ _ e => e).pl.below)).mono ?_
                      rintro e W4 ⟨rfl, hc4, hr4⟩
                      refine ⟨_, rfl, ?_⟩
                      have HDU := LoopI.on (duo_ref H3.out.1 hc4 hr4 HPL.out.1)
                      clear hc4 hr4 H3 HPL
                      simp only [Act.put, aS, aC, aZ]
                      refine wl rfl (.tuple #[(.int .i64 (q : Nat)), (.int .i64 er)]) _ (run_mvZ (.tmp 117) rfl (.tuple #[(.int .i64 (q : Nat)), (.int .i64 er)]) rfl) ?_
                      simp only [Act.put, aS, aC, aZ]
                      refine wl rfl (.int .i64 (q : Nat)) _ (run_extZ (.tmp 113) 0 rfl #[(.int .i64 (q : Nat)), (.int .i64 er)] rfl (.int .i64 (q : Nat)) rfl) ?_
                      simp only [Act.put, aS, aC, aZ]
                      refine wl rfl (.int .i64 er) _ (run_extZ (.tmp 113) 1 rfl #[(.int .i64 (q : Nat)), (.int .i64 er)] rfl (.int .i64 er) rfl) ?_
                      simp only [Act.put, aS, aC, aZ]
                      refine wl rfl (.int .i64 (q : Nat)) _ (run_asZ (.tmp 118) rfl (.int .i64 (q : Nat)) rfl) ?_
                      simp only [Act.put, aS, aC, aZ]
                      refine wl rfl (.int .i64 er) _ (run_asZ (.tmp 119) rfl (.int .i64 er) rfl) ?_
                      simp only [Act.put, aS, aC, aZ]
                      refine wpList_nil ?_
                      go_upto_region 26 with fail
                      refine wp_region_lit ?_
                      refine wl rfl (.int .i64 (q : Nat)) _ (run_mvZ (.tmp 16) rfl (.int .i64 (q : Nat)) rfl) ?_
                      simp only [Act.put, aS, aC, aZ]
                      refine wl rfl (.int .i64 (q : Nat)) _ (run_mvZ (.tmp 18) rfl (.int .i64 (q : Nat)) rfl) ?_
                      simp only [Act.put, aS, aC, aZ]
                      refine wl rfl (.bool false) _ (run_neZ (.tmp 120) (.tmp 121) rfl ((q : Nat) : Int) ((q : Nat) : Int) rfl rfl false (by simp)) ?_
                      simp only [Act.put, aS, aC, aZ]
                      refine wl rfl (.bool false) _ (run_mvZ (.tmp 122) rfl (.bool false) rfl) ?_
                      simp only [Act.put, aS, aC, aZ]
                      refine wl (by kernel_rfl) (.int .i64 er) _ (run_mvZ (.tmp 17) rfl (.int .i64 er) rfl) ?_
                      simp only [Act.put, aS, aC, aZ]
                      refine wl (by kernel_rfl) (.int .i64 er) _ (run_mvZ (.tmp 19) rfl (.int .i64 er) rfl) ?_
                      simp only [Act.put, aS, aC, aZ]
                      refine wl (by kernel_rfl) (.bool false) _ (run_neZ (.tmp 124) (.tmp 125) rfl er er rfl rfl false (by simp)) ?_
                      simp only [Act.put, aS, aC, aZ]
                      refine wl rfl (.bool false) _ (run_pickZ (.tmp 123) (.const (.bool true)) (.tmp 126) rfl false (.bool false) rfl rfl) ?_
                      simp only [Act.put, aS, aC, aZ]
                      refine wpList_nil ?_
                      go_wp2_with fail
                      go_meet
                      case rel => exact ⟨_, rfl, rfl, (HDU).mono (by omega)⟩
                    · refine ⟨_, rfl, ?_⟩
                      have H3 : Hid (m3.on = false ∧ Aft w W3 c3 g m3 [n0] [] 0 n (6 + 8 * k + 8) gy (.pointer none)) := ⟨hoff3, aft_one hp3 HR.out.1.rf hs3 HR.out.1.rel.drop hc3⟩
                      clear hs3 hp3 hoff3 hc3 HR HPL
                      simp only [Act.put, aS, aC, aZ]
                      refine wl rfl (.tuple #[(.int .i64 (0 : Nat)), (.int .i64 2)]) _ (run_mvZ (.tmp 108) rfl (.tuple #[(.int .i64 (0 : Nat)), (.int .i64 2)]) rfl) ?_
                      simp only [Act.put, aS, aC, aZ]
                      refine wl rfl (.int .i64 (0 : Nat)) _ (run_extZ (.tmp 104) 0 rfl #[(.int .i64 (0 : Nat)), (.int .i64 2)] rfl (.int .i64 (0 : Nat)) rfl) ?_
                      simp only [Act.put, aS, aC, aZ]
                      refine wl rfl (.int .i64 2) _ (run_extZ (.tmp 104) 1 rfl #[(.int .i64 (0 : Nat)), (.int .i64 2)] rfl (.int .i64 2) rfl) ?_
                      simp only [Act.put, aS, aC, aZ]
                      refine wl rfl (.int .i64 (0 : Nat)) _ (run_asZ (.tmp 109) rfl (.int .i64 (0 : Nat)) rfl) ?_
                      simp only [Act.put, aS, aC, aZ]
                      refine wl rfl (.int .i64 2) _ (run_asZ (.tmp 110) rfl (.int .i64 2) rfl) ?_
                      simp only [Act.put, aS, aC, aZ]
                      refine wpList_nil ?_
                      go_upto_region 24 with fail
                      refine wp_region_lit ?_
                      refine wl rfl (.int .i64 2) _ (run_mvZ (.tmp 17) rfl (.int .i64 2) rfl) ?_
                      simp only [Act.put, aS, aC, aZ]
                      refine wl rfl (.bool true) _ (run_eqZ (.tmp 111) (.const (.int .i64 2)) rfl (2) (2) rfl rfl true rfl) ?_
                      simp only [Act.put, aS, aC, aZ]
                      refine wpList_nil ?_
                      have HDU := LoopI.off (gp := gp) H3.out.1 H3.out.2
                      go_wp2_with fail
                      go_meet
                      case rel => exact ⟨_, rfl, rfl, (HDU).mono (by omega)⟩
              · as_aux_lemma =>
                    obtain ⟨er, U2, r2, hrel2, hpg, hpr⟩ := free_plan HR.out.1.rel HR.out.1.rf.len HR.out.1.pg.o.us HR.out.1.pos.2 HR.out.1.pg.o.out o.N
                    have HPL : Hid (Rls L U2 X r2 n ∧ FreeP n L U U2 X o.N er ∧ FreeD n r r2 o.N er) := ⟨hrel2, hpg, hpr⟩
                    clear hrel2 hpg hpr
                    go_upto_region 29 with fail
                    refine wp_region_lit ?_
                    refine wl rfl (ptr gp) _ (run_mvZ (.tmp 9) rfl (ptr gp) rfl) ?_
                    simp only [Act.put, aS, aC, aZ]
                    refine wl rfl (.pointer (some ⟨bo, 0 + 1, none⟩)) _ (run_fieldOp' f40_1 (.tmp 15) rfl bo (0) rfl) ?_
                    simp only [Act.put, aS, aC, aZ]
                    refine wl rfl (.int .i64 o.N) _ (run_load1 o3 (.tmp 131) rfl bo (0 + 1) rfl (.int .i64 o.N) (HR.out.2.1.at 1 _ rfl)) ?_
                    simp only [Act.put, aS, aC, aZ]
                    refine wpList_callW eN17 [.tmp 130, .tmp 132] _ rfl rfl [(ptr gp), (.int .i64 o.N)] rfl ?_
                    refine (HPL.out.2.1 HR.out.1.pg (by omega)).mono ?_
                    rintro e W2 ⟨rfl, hs2, hp2⟩
                    refine ⟨_, rfl, ?_⟩
                    have H2 : Hid (PgW w W2 c gp g m [n0] [] 0 n L U2 X (6 + 8 * k) ∧ Ref (SS w c gp) W2 gy n r ∧ Row W2 bo 40 o.cells) := ⟨hp2, HR.out.1.rf.ssStp hs2, row_stp HR.out.2.1 hs2 HR.out.2.2⟩
                    have HPO : Hid (1 ≤ n ∧ n ≤ 384) := HR.out.1.pos
                    clear hs2 hp2 HR
                    simp only [Act.put, aS, aC, aZ]
                    refine wl rfl (.int .i64 er) _ (run_asZ (.tmp 133) rfl (.int .i64 er) rfl) ?_
                    simp only [Act.put, aS, aC, aZ]
                    refine wpList_nil ?_
                    go_upto_region 30 with fail
                    refine wp_region_lit ?_
                    refine wl rfl (ptr gy) _ (run_mvZ (.tmp 11) rfl (ptr gy) rfl) ?_
                    simp only [Act.put, aS, aC, aZ]
                    refine wl rfl (.pointer (some ⟨bo, 0 + 1, none⟩)) _ (run_fieldOp' f40_1 (.tmp 15) rfl bo (0) rfl) ?_
                    simp only [Act.put, aS, aC, aZ]
                    refine wl rfl (.int .i64 o.N) _ (run_load1 o3 (.tmp 135) rfl bo (0 + 1) rfl (.int .i64 o.N) (H2.out.2.2.at 1 _ rfl)) ?_
                    simp only [Act.put, aS, aC, aZ]
                    refine wpList_callW eN18 [.tmp 134, .tmp 136] _ rfl rfl [(ptr gy), (.int .i64 o.N)] rfl ?_
                    refine (HPL.out.2.2 _ W2 gy H2.out.2.1 HPO.out).mono ?_
                    rintro e W3 ⟨rfl, hc3, hr3⟩
                    refine ⟨_, rfl, ?_⟩
                    have HDU := LoopI.on (duo_ref H2.out.1 hc3 hr3 HPL.out.1)
                    clear hc3 hr3 H2
                    simp only [Act.put, aS, aC, aZ]
                    refine wl rfl (.int .i64 er) _ (run_asZ (.tmp 137) rfl (.int .i64 er) rfl) ?_
                    simp only [Act.put, aS, aC, aZ]
                    refine wpList_nil ?_
                    go_upto_region 31 with fail
                    refine wp_region_lit ?_
                    refine wl rfl (.int .i64 er) _ (run_mvZ (.tmp 20) rfl (.int .i64 er) rfl) ?_
                    simp only [Act.put, aS, aC, aZ]
                    refine wl rfl (.int .i64 er) _ (run_mvZ (.tmp 21) rfl (.int .i64 er) rfl) ?_
                    simp only [Act.put, aS, aC, aZ]
                    refine wl rfl (.bool false) _ (run_neZ (.tmp 138) (.tmp 139) rfl er er rfl rfl false (by simp)) ?_
                    simp only [Act.put, aS, aC, aZ]
                    refine wpList_nil ?_
                    go_wp2_with fail
                    go_meet
                    case rel => exact ⟨_, rfl, rfl, (HDU).mono (by omega)⟩
              · as_aux_lemma =>
                    obtain ⟨er, L2, r2, her, hrel2, hpg, hpr⟩ := com_plan HR.out.1.rel HR.out.1.rf.len HR.out.1.pos.2 HR.out.1.pg.o.out o.N
                    have HPL : Hid (Rls L2 U X r2 n ∧ ComP n L L2 U X o.N er ∧ ComD n r r2 o.N er ∧ (er = 0 ∨ er = 90)) := ⟨hrel2, hpg, hpr, her⟩
                    have HPO : Hid (1 ≤ n ∧ n ≤ 384) := HR.out.1.pos
                    clear hrel2 hpg hpr her
                    go_upto_region 34 with fail
                    refine wp_region_lit ?_
                    refine wl rfl (ptr gy) _ (run_mvZ (.tmp 11) rfl (ptr gy) rfl) ?_
                    simp only [Act.put, aS, aC, aZ]
                    refine wpList_callW eN24 [.tmp 143] _ rfl rfl [(ptr gy)] rfl ?_
                    refine (rclone_any _ W1 gy n r HR.out.1.rf HPO.out (fun _ hb => HR.out.1.pg.fresh hb)).mono ?_
                    rintro e W2 ⟨gq, rfl, hgq, b_, hr2⟩
                    refine ⟨_, rfl, ?_⟩
                    have H2 : Hid (Duo w W2 c gp g m [n0] [] 0 n L U X (6 + 8 * k) gy r ∧ Row W2 bo 40 o.cells ∧ SS w c gp bo ∧ Ref (SS w c gp) W2 gq n r ∧ gq ≠ gy ∧ gq ≠ bo) := (by
                      obtain ⟨cs0, hrow⟩ := HR.out.1.rf.row84
                      exact ⟨HR.out.1.bel b_, HR.out.2.1.later b_ HR.out.2.1.lt, HR.out.2.2, hr2, (by have := hrow.lt; omega), (by have := HR.out.2.1.lt; omega)⟩)
                    clear hgq b_ hr2 HR
                    simp only [Act.put, aS, aC, aZ]
                    refine wl rfl (ptr gq) _ (run_asZ (.tmp 144) rfl (ptr gq) rfl) ?_
                    simp only [Act.put, aS, aC, aZ]
                    refine wpList_nil ?_
                    go_upto_region 35 with fail
                    refine wp_region_lit ?_
                    refine wl rfl (ptr gq) _ (run_mvZ (.tmp 22) rfl (ptr gq) rfl) ?_
                    simp only [Act.put, aS, aC, aZ]
                    refine wl rfl (.pointer (some ⟨bo, 0 + 1, none⟩)) _ (run_fieldOp' f40_1 (.tmp 15) rfl bo (0) rfl) ?_
                    simp only [Act.put, aS, aC, aZ]
                    refine wl rfl (.int .i64 o.N) _ (run_load1 o3 (.tmp 146) rfl bo (0 + 1) rfl (.int .i64 o.N) (H2.out.2.1.at 1 _ rfl)) ?_
                    simp only [Act.put, aS, aC, aZ]
                    refine wpList_callW eN20 [.tmp 145, .tmp 147] _ rfl rfl [(ptr gq), (.int .i64 o.N)] rfl ?_
                    refine (HPL.out.2.2.1 _ W2 gq H2.out.2.2.2.1 HPO.out (fun _ hb => H2.out.1.pg.fresh hb)).mono ?_
                    rintro e W3 ⟨rfl, hc3, hr3⟩
                    refine ⟨_, rfl, ?_⟩
                    have H3 : Hid (PgW w W3 c gp g m [n0] [] 0 n L U X (6 + 8 * k) ∧ Ref (SS w c gp) W3 gy n r ∧ Ref (SS w c gp) W3 gq n r2 ∧ Row W3 bo 40 o.cells ∧ SS w c gp bo ∧ gq ≠ gy ∧ Rls L U X r n) := (by
                      obtain ⟨cs0, hrow⟩ := H2.out.2.2.2.1.row84
                      exact ⟨H2.out.1.pg.chS hc3 (fun _ _ e => by rw [e]; exact hr3.sgy), H2.out.1.rf.off hrow (fun e => H2.out.2.2.2.2.1 e.symm) hc3, hr3, (hc3.one bo H2.out.2.1.lt fun e => H2.out.2.2.2.2.2 e.symm).trans H2.out.2.1, H2.out.2.2.1, H2.out.2.2.2.2.1, H2.out.1.rel⟩)
                    clear hc3 hr3 H2
                    simp only [Act.put, aS, aC, aZ]
                    refine wl rfl (.int .i64 er) _ (run_asZ (.tmp 148) rfl (.int .i64 er) rfl) ?_
                    simp only [Act.put, aS, aC, aZ]
                    refine wpList_nil ?_
                    go_upto_region 36 with fail
                    refine wp_region_lit ?_
                    refine wl rfl (ptr gp) _ (run_mvZ (.tmp 9) rfl (ptr gp) rfl) ?_
                    simp only [Act.put, aS, aC, aZ]
                    refine wl rfl (.pointer (some ⟨bo, 0 + 1, none⟩)) _ (run_fieldOp' f40_1 (.tmp 15) rfl bo (0) rfl) ?_
                    simp only [Act.put, aS, aC, aZ]
                    refine wl rfl (.int .i64 o.N) _ (run_load1 o3 (.tmp 150) rfl bo (0 + 1) rfl (.int .i64 o.N) (H3.out.2.2.2.1.at 1 _ rfl)) ?_
                    simp only [Act.put, aS, aC, aZ]
                    refine wpList_callW eN19 [.tmp 149, .tmp 151] _ rfl rfl [(ptr gp), (.int .i64 o.N)] rfl ?_
                    refine (HPL.out.2.1 H3.out.1 (by omega)).mono ?_
                    rintro e W4 ⟨c4, hs4, ⟨m4, rfl, _, hp4⟩ | ⟨m4, her0, _, rfl, hoff4, hp4, hk4⟩⟩
                    · refine ⟨_, rfl, ?_⟩
                      have HDU := LoopI.on ⟨hp4, H3.out.2.2.1.ssStp hs4, HPL.out.1⟩
                      have HE2 : Hid (decide (er = 2) = false) := decide_eq_false (by have := HPL.out.2.2.2; omega)
                      clear hs4 hp4 H3
                      simp only [Act.put, aS, aC, aZ]
                      refine wl rfl (.int .i64 er) _ (run_asZ (.tmp 152) rfl (.int .i64 er) rfl) ?_
                      simp only [Act.put, aS, aC, aZ]
                      refine wpList_nil ?_
                      go_upto_region 37 with fail
                      refine wp_region_lit ?_
                      refine wl rfl (.int .i64 er) _ (run_mvZ (.tmp 24) rfl (.int .i64 er) rfl) ?_
                      simp only [Act.put, aS, aC, aZ]
                      refine wl rfl (.bool false) _ (run_eqZ (.tmp 153) (.const (.int .i64 2)) rfl er 2 rfl rfl false HE2.out) ?_
                      simp only [Act.put, aS, aC, aZ]
                      refine wpList_nil ?_
                      go_upto_region 40 with fail
                      refine wp_region_lit ?_
                      refine wl rfl (.int .i64 er) _ (run_mvZ (.tmp 24) rfl (.int .i64 er) rfl) ?_
                      simp only [Act.put, aS, aC, aZ]
                      refine wl rfl (.int .i64 er) _ (run_mvZ (.tmp 23) rfl (.int .i64 er) rfl) ?_
                      simp only [Act.put, aS, aC, aZ]
                      refine wl rfl (.bool false) _ (run_neZ (.tmp 158) (.tmp 159) rfl er er rfl rfl false (by simp)) ?_
                      simp only [Act.put, aS, aC, aZ]
                      refine wpList_nil ?_
                      clear HE2
                      go_wp2_with fail
                      go_meet
                      case rel => exact ⟨_, rfl, rfl, (HDU).mono (by omega)⟩
                    · refine ⟨_, rfl, ?_⟩
                      subst her0
                      have H4 : Hid (m4.on = false ∧ Aft w W4 c4 g m4 [n0] [] 0 n (6 + 8 * k + 3) gy (ptr gq)) := ⟨hoff4, aft_two hp4 H3.out.2.1 H3.out.2.2.1 H3.out.2.2.2.2.2.1 hs4 H3.out.2.2.2.2.2.2.drop HPL.out.1.drop hk4⟩
                      clear hs4 hp4 hoff4 hk4 H3 HPL
                      simp only [Act.put, aS, aC, aZ]
                      refine wl rfl (.int .i64 2) _ (run_asZ (.tmp 152) rfl (.int .i64 2) rfl) ?_
                      simp only [Act.put, aS, aC, aZ]
                      refine wpList_nil ?_
                      go_upto_region 37 with fail
                      refine wp_region_lit ?_
                      refine wl rfl (.int .i64 2) _ (run_mvZ (.tmp 24) rfl (.int .i64 2) rfl) ?_
                      simp only [Act.put, aS, aC, aZ]
                      refine wl rfl (.bool true) _ (run_eqZ (.tmp 153) (.const (.int .i64 2)) rfl (2) (2) rfl rfl true rfl) ?_
                      simp only [Act.put, aS, aC, aZ]
                      refine wpList_nil ?_
                      go_upto_region 38 with fail
                      refine wp_region_lit ?_
                      refine wl rfl (.int .i64 0) _ (run_mvZ (.tmp 23) rfl (.int .i64 0) rfl) ?_
                      simp only [Act.put, aS, aC, aZ]
                      refine wl rfl (.bool true) _ (run_eqZ (.tmp 155) (.const (.int .i64 0)) rfl (0) (0) rfl rfl true rfl) ?_
                      simp only [Act.put, aS, aC, aZ]
                      refine wpList_nil ?_
                      have HDU := LoopI.off (gp := gp) H4.out.1 H4.out.2
                      go_wp2_with fail
                      go_meet
                      case rel => exact ⟨_, rfl, rfl, (HDU).mono (by omega)⟩
              · as_aux_lemma =>
                    have HDU := LoopI.on HR.out.1
                    go_wp2_with fail
                    go_meet
                    case rel => exact ⟨_, rfl, rfl, (HDU).mono (by omega)⟩
              · as_aux_lemma =>
                    go_upto_region 44 with fail
                    refine wp_region_lit ?_
                    refine wl rfl (ptr g) _ (run_mvZ (.tmp 6) rfl (ptr g) rfl) ?_
                    simp only [Act.put, aS, aC, aZ]
                    refine wl rfl (.pointer (some ⟨bo, 0 + 1, none⟩)) _ (run_fieldOp' f40_1 (.tmp 15) rfl bo (0) rfl) ?_
                    simp only [Act.put, aS, aC, aZ]
                    refine wl rfl (.int .i64 o.N) _ (run_load1 o3 (.tmp 165) rfl bo (0 + 1) rfl (.int .i64 o.N) (HR.out.2.1.at 1 _ rfl)) ?_
                    simp only [Act.put, aS, aC, aZ]
                    refine wpList_callW eN25 [.tmp 164, .tmp 166] _ rfl rfl [(ptr g), (.int .i64 o.N)] rfl ?_
                    refine (HR.out.1.fuse o.N HOI.out.n).mono ?_
                    rintro e W2 ⟨rfl, c2, m2, h2⟩
                    refine ⟨_, rfl, ?_⟩
                    have HDU := LoopI.on h2
                    clear h2 HR
                    simp only [Act.put, aS, aC, aZ]
                    refine wpList_nil ?_
                    go_wp2_with fail
                    go_meet
                    case rel => exact ⟨_, rfl, rfl, (HDU).mono (by omega)⟩
              · as_aux_lemma =>
                    have HAF : Hid (Aft w W1 c g m [n0] [] 0 n (6 + 8 * k) gy (.pointer none) ∧ Row W1 bo 40 o.cells) := ⟨HR.out.1.aft, HR.out.2.1⟩
                    clear HR
                    go_upto_region 46 with fail
                    refine wp_region_lit ?_
                    refine wl rfl (ptr g) _ (run_mvZ (.tmp 6) rfl (ptr g) rfl) ?_
                    simp only [Act.put, aS, aC, aZ]
                    refine wl rfl (.pointer (some ⟨bo, 0 + 3, none⟩)) _ (run_fieldOp' f40_3 (.tmp 15) rfl bo (0) rfl) ?_
                    simp only [Act.put, aS, aC, aZ]
                    refine wl rfl o.kv _ (run_load1 o28 (.tmp 171) rfl bo (0 + 3) rfl o.kv (HAF.out.2.at 3 _ rfl)) ?_
                    simp only [Act.put, aS, aC, aZ]
                    refine wpList_callW eN26 [.tmp 170, .tmp 172] _ rfl rfl [(ptr g), o.kv] rfl ?_
                    refine (HAF.out.1.boot (by omega) o.kv o.ks HOI.out.keep).mono ?_
                    rintro e W2 ⟨rfl, c2, m2, L2, X2, r2, hpl, ho2, hr2, hor⟩
                    refine ⟨_, rfl, ?_⟩
                    have H2 : Hid (PlW w W2 c2 g m2 [n0] [] (6 + 8 * k) ∧ PgO m2 0 n L2 L2.used X2 ∧ Ref (S0 w c2) W2 gy n r2 ∧ (Rls L2 L2.used X2 r2.dropped n ∨ ∃ gm rm, (.pointer none) = ptr gm ∧ gm ≠ gy ∧ Ref (S0 w c2) W2 gm n rm ∧ Rls L2 L2.used X2 rm.dropped n)) := ⟨hpl, ho2, hr2, hor⟩
                    clear hpl ho2 hr2 hor HAF
                    simp only [Act.put, aS, aC, aZ]
                    refine wpList_nil ?_
                    go_upto_region 47 with fail
                    refine wp_region_lit ?_
                    refine wl rfl (ptr g) _ (run_mvZ (.tmp 6) rfl (ptr g) rfl) ?_
                    simp only [Act.put, aS, aC, aZ]
                    refine wpList_callW eN13 [.tmp 175, .const (.int .i64 0)] _ rfl rfl [(ptr g), .int .i64 0] rfl ?_
                    refine (PlW.open1 H2.out.1 (by omega) H2.out.2.1).mono ?_
                    rintro e W3 ⟨gq, hgq, rfl, b_, h_⟩
                    refine ⟨_, rfl, ?_⟩
                    have H3 : Hid (PgW w W3 c2 gq g m2 [n0] [] 0 n L2 L2.used X2 (6 + 8 * k) ∧ Ref (SS w c2 gq) W3 gy n r2 ∧ (Rls L2 L2.used X2 r2.dropped n ∨ ∃ gm rm, (.pointer none) = ptr gm ∧ gm ≠ gy ∧ Ref (SS w c2 gq) W3 gm n rm ∧ Rls L2 L2.used X2 rm.dropped n)) := (by
                      refine ⟨h_, ref_open H2.out.2.2.1 hgq b_, ?_⟩
                      rcases H2.out.2.2.2 with h2 | ⟨gm, rm, a1, a2, a3, a4⟩
                      · exact Or.inl h2
                      · exact Or.inr ⟨gm, rm, a1, a2, ref_open a3 hgq b_, a4⟩)
                    clear h_ b_ hgq H2
                    simp only [Act.put, aS, aC, aZ]
                    refine wl rfl (.tuple #[(ptr gq), (.int .i64 0)]) _ (run_mvZ (.tmp 176) rfl (.tuple #[(ptr gq), (.int .i64 0)]) rfl) ?_
                    simp only [Act.put, aS, aC, aZ]
                    refine wl rfl (ptr gq) _ (run_extZ (.tmp 174) 0 rfl #[(ptr gq), (.int .i64 0)] rfl (ptr gq) rfl) ?_
                    simp only [Act.put, aS, aC, aZ]
                    refine wl rfl (.int .i64 0) _ (run_extZ (.tmp 174) 1 rfl #[(ptr gq), (.int .i64 0)] rfl (.int .i64 0) rfl) ?_
                    simp only [Act.put, aS, aC, aZ]
                    refine wl rfl (ptr gq) _ (run_asZ (.tmp 177) rfl (ptr gq) rfl) ?_
                    simp only [Act.put, aS, aC, aZ]
                    refine wl rfl (.int .i64 0) _ (run_asZ (.tmp 178) rfl (.int .i64 0) rfl) ?_
                    simp only [Act.put, aS, aC, aZ]
                    refine wpList_nil ?_
                    go_upto_region 48 with fail
                    refine wp_region_lit ?_
                    refine wl rfl (ptr gq) _ (run_mvZ (.tmp 9) rfl (ptr gq) rfl) ?_
                    simp only [Act.put, aS, aC, aZ]
                    refine wl rfl (.bool false) _ (run_binOp' (.tmp 179) (.const (.pointer none)) rfl _ _ _ rfl rfl rfl (by kernel_rfl)) ?_
                    simp only [Act.put, aS, aC, aZ]
                    refine wl rfl (.bool false) _ (run_mvZ (.tmp 180) rfl (.bool false) rfl) ?_
                    simp only [Act.put, aS, aC, aZ]
                    refine wl (by kernel_rfl) (.int .i64 0) _ (run_mvZ (.tmp 7) rfl (.int .i64 0) rfl) ?_
                    simp only [Act.put, aS, aC, aZ]
                    refine wl (by kernel_rfl) (.bool false) _ (run_neZ (.tmp 182) (.const (.int .i64 0)) rfl (0) (0) rfl rfl false rfl) ?_
                    simp only [Act.put, aS, aC, aZ]
                    refine wl rfl (.bool false) _ (run_pickZ (.tmp 181) (.const (.bool true)) (.tmp 183) rfl false (.bool false) rfl rfl) ?_
                    simp only [Act.put, aS, aC, aZ]
                    refine wpList_nil ?_
                    go_upto_region 50 with fail
                    refine wp_region_lit ?_
                    refine wl rfl (ptr gy) _ (run_mvZ (.tmp 11) rfl (ptr gy) rfl) ?_
                    simp only [Act.put, aS, aC, aZ]
                    refine wpList_callW eN21 [.tmp 185] _ rfl rfl [(ptr gy)] rfl ?_
                    refine (rdrop_any _ W3 gy n r2 H3.out.2.1 ⟨HPN.out.2.1, by have := HPN.out.2.2; omega⟩ (fun _ hb => H3.out.1.fresh hb)).mono ?_
                    rintro e W4 ⟨rfl, hc4, hr4⟩
                    refine ⟨_, rfl, ?_⟩
                    have H4 : Hid (Fnd w W4 c2 gq g m2 [n0] [] 0 n L2 X2 (6 + 8 * k) gy r2.dropped (.pointer none)) := fnd_drop H3.out.1 H3.out.2.1 H3.out.2.2 hc4 hr4
                    clear hc4 hr4 H3
                    simp only [Act.put, aS, aC, aZ]
                    refine wpList_nil ?_
                    go_upto_region 51 with fail
                    refine wp_region_lit ?_
                    refine wl rfl (ptr gq) _ (run_mvZ (.tmp 9) rfl (ptr gq) rfl) ?_
                    simp only [Act.put, aS, aC, aZ]
                    refine wl rfl (ptr gy) _ (run_mvZ (.tmp 11) rfl (ptr gy) rfl) ?_
                    simp only [Act.put, aS, aC, aZ]
                    refine wpList_callW eN22 [.tmp 187, .tmp 188] _ rfl rfl [(ptr gq), (ptr gy)] rfl ?_
                    refine (alike_any H4.out.pg (by omega) _ gy r2.dropped H4.out.rf).mono ?_
                    intro e W5 ⟨b5, he5, hb5, ht5, hf5⟩
                    obtain rfl := he5
                    refine ⟨_, rfl, ?_⟩
                    have H5 : Hid (Fnd w W5 c2 gq g m2 [n0] [] 0 n L2 X2 (6 + 8 * k) gy r2.dropped (.pointer none) ∧ (Rls L2 L2.used X2 r2.dropped n → b5 = true) ∧ (b5 = true → n ≤ 39 → Told L2 L2.used X2 r2.dropped n)) := ⟨H4.out.bel hb5, ht5, hf5⟩
                    clear hb5 ht5 hf5 H4
                    simp only [Act.put, aS, aC, aZ]
                    refine wl rfl (.bool b5) _ (run_asZ (.tmp 189) rfl (.bool b5) rfl) ?_
                    simp only [Act.put, aS, aC, aZ]
                    refine wpList_nil ?_
                    cases b5 with
                    | true =>
                        go_upto_region 52 with fail
                        refine wp_region_lit ?_
                        refine wl rfl (.bool true) _ (run_mvZ (.tmp 25) rfl (.bool true) rfl) ?_
                        simp only [Act.put, aS, aC, aZ]
                        refine wl rfl (.bool false) _ (run_not (.tmp 190) 4 rfl true rfl) ?_
                        simp only [Act.put, aS, aC, aZ]
                        refine wpList_nil ?_
                        have HDU := LoopI.on (H5.out.1.yes HPN.out.2.2 (H5.out.2.2 rfl))
                        go_wp2_with fail
                        go_meet
                        case rel => exact ⟨_, rfl, rfl, (HDU).mono (by omega)⟩
                    | false =>
                        exact absurd (H5.out.1.no H5.out.2.1) (by rintro ⟨gm, rm, e, _⟩; cases e)
              · as_aux_lemma =>
                    have HDU := LoopI.on HR.out.1
                    go_wp2_with fail
                    go_meet
                    case rel => exact ⟨_, rfl, rfl, (HDU).mono (by omega)⟩
            case rest =>
              obtain ⟨vm2, rfl, rfl, gp2, gy2, c2, m2, rfl, rfl, hst⟩ := hcut
              rcases hst with ⟨rfl, L2, U2, X2, r2, hduo⟩ | ⟨hoff, haft⟩
              · have HD2 : Hid (Duo w wc c2 gp2 g m2 [n0] [] 0 n L2 U2 X2 (6 + 8 * (k + 1)) gy2 r2) := hduo
                clear hduo
                go_upto_region 58 with fail
                refine wp_region_lit ?_
                refine wl rfl (ptr g) _ (run_mvZ (.tmp 6) rfl (ptr g) rfl) ?_
                simp only [Act.put, aS, aC, aZ]
                refine wpList_callW eN23 [.tmp 197] _ rfl rfl [(ptr g)] rfl ?_
                refine (HD2.out.pg.pl.isOn).mono ?_
                intro e W_ ⟨he, hw⟩
                rw [HD2.out.pg.o.on] at he
                obtain rfl := he
                obtain rfl := hw
                refine ⟨_, rfl, ?_⟩
                simp only [Act.put, aS, aC, aZ]
                refine wpList_nil ?_
                go_upto_region 59 with fail
                refine wp_region_lit ?_
                refine wl rfl (ptr gp2) _ (run_mvZ (.tmp 9) rfl (ptr gp2) rfl) ?_
                simp only [Act.put, aS, aC, aZ]
                refine wl rfl (ptr gy2) _ (run_mvZ (.tmp 11) rfl (ptr gy2) rfl) ?_
                simp only [Act.put, aS, aC, aZ]
                refine wpList_callW eN22 [.tmp 199, .tmp 200] _ rfl rfl [(ptr gp2), (ptr gy2)] rfl ?_
                refine (alike_any HD2.out.pg (by omega) _ gy2 r2 HD2.out.rf).mono ?_
                intro e W6 ⟨b6, he6, hb6, ht6, _⟩
                obtain rfl : b6 = true := ht6 HD2.out.rel
                obtain rfl := he6
                refine ⟨_, rfl, ?_⟩
                have H6 : Hid (LoopI w W6 g n0 n (6 + 8 * (k + 1)) (ptr gp2) (ptr gy2) (.pointer none)) := LoopI.on (HD2.out.bel hb6)
                clear hb6 ht6 HD2
                simp only [Act.put, aS, aC, aZ]
                refine wl rfl (.bool true) _ (run_asZ (.tmp 201) rfl (.bool true) rfl) ?_
                simp only [Act.put, aS, aC, aZ]
                refine wpList_nil ?_
                go_upto_region 60 with fail
                refine wp_region_lit ?_
                refine wl rfl (.bool true) _ (run_mvZ (.tmp 26) rfl (.bool true) rfl) ?_
                simp only [Act.put, aS, aC, aZ]
                refine wl rfl (.bool false) _ (run_not (.tmp 202) 4 rfl true rfl) ?_
                simp only [Act.put, aS, aC, aZ]
                refine wpList_nil ?_
                go_wp2_with fail
                refine ⟨⟨k + 1, _, rfl, by go_num, rfl, by omega, H6.out⟩, ?_⟩
                simp [intOf]; omega
              · have HF2 : Hid (m2.on = false ∧ Aft w wc c2 g m2 [n0] [] 0 n (6 + 8 * (k + 1)) gy2 vm2) := ⟨hoff, haft⟩
                clear hoff haft
                go_upto_region 58 with fail
                refine wp_region_lit ?_
                refine wl rfl (ptr g) _ (run_mvZ (.tmp 6) rfl (ptr g) rfl) ?_
                simp only [Act.put, aS, aC, aZ]
                refine wpList_callW eN23 [.tmp 197] _ rfl rfl [(ptr g)] rfl ?_
                refine (HF2.out.2.pl.isOn).mono ?_
                intro e W_ ⟨he, hw⟩
                rw [HF2.out.1] at he
                obtain rfl := he
                obtain rfl := hw
                refine ⟨_, rfl, ?_⟩
                simp only [Act.put, aS, aC, aZ]
                refine wpList_nil ?_
                have H6 : LoopI w wc g n0 n (6 + 8 * (k + 1)) (ptr gp2) (ptr gy2) vm2 := LoopI.off HF2.out.1 HF2.out.2
                go_wp2_with fail
                refine ⟨⟨k + 1, _, rfl, by go_num, rfl, by omega, H6⟩, ?_⟩
                simp [intOf]; omega
          · have h1 : decide ((k : Int) < (n1 : Int)) = false := decide_eq_false (by omega)
            go_upto_region 14 with fail
            refine wp_region_lit ?_
            refine wl rfl (.int .i64 (k : Nat)) _ (run_mvZ (.tmp 14) rfl (.int .i64 (k : Nat)) rfl) ?_
            simp only [Act.put, aS, aC, aZ]
            refine wl rfl (.slice p1 n1 cap1) _ (run_mvZ (.tmp 1) rfl (.slice p1 n1 cap1) rfl) ?_
            simp only [Act.put, aS, aC, aZ]
            refine wl rfl (.int .i64 (n1 : Nat)) _ (run_lenZ sl22 (.tmp 78) rfl p1 n1 cap1 rfl) ?_
            simp only [Act.put, aS, aC, aZ]
            refine wl rfl (.bool false) _ (run_lssZ (.tmp 77) (.tmp 79) rfl _ _ rfl rfl false h1) ?_
            simp only [Act.put, aS, aC, aZ]
            refine wpList_nil ?_
            clear h1
            go_wp2_with fail
            rw [HPQ.out]
            exact ⟨rfl, HD.out.pg.pl.below⟩
        · have HF : Hid (m.on = false ∧ Aft w WK c g m [n0] [] 0 n (6 + 8 * k) gy vm) := ⟨hoff, haft⟩
          clear hoff haft
          by_cases hlt : k < n1
          · obtain ⟨fb, fo, o, rfl, ho, hoc⟩ := HOS.out.at k hlt
            have HOI : Hid (OpIn w o) := ho
            have HOB : Hid (∀ W, Below w.heap.size w W → SliceIn W o.bv o.b) := fun W hW => (hoc W hW).2
            have HOC : Hid (∀ (j : Nat) v, o.cells[j]? = some v → WK.cell? ⟨fb, fo + k * 4 + j, none⟩ = some v) := (hoc WK HF.out.2.pl.below).1
            clear ho hoc
            have h1 : decide ((k : Int) < (n1 : Int)) = true := decide_eq_true (by omega)
            go_upto_region 14 with fail
            refine wp_region_lit ?_
            refine wl rfl (.int .i64 (k : Nat)) _ (run_mvZ (.tmp 14) rfl (.int .i64 (k : Nat)) rfl) ?_
            simp only [Act.put, aS, aC, aZ]
            refine wl rfl (.slice (some ⟨fb, fo, none⟩) n1 cap1) _ (run_mvZ (.tmp 1) rfl (.slice (some ⟨fb, fo, none⟩) n1 cap1) rfl) ?_
            simp only [Act.put, aS, aC, aZ]
            refine wl rfl (.int .i64 (n1 : Nat)) _ (run_lenZ sl22 (.tmp 78) rfl (some ⟨fb, fo, none⟩) n1 cap1 rfl) ?_
            simp only [Act.put, aS, aC, aZ]
            refine wl rfl (.bool true) _ (run_lssZ (.tmp 77) (.tmp 79) rfl _ _ rfl rfl true h1) ?_
            simp only [Act.put, aS, aC, aZ]
            refine wpList_nil ?_
            clear h1
            go_upto_region 16 with fail
            refine wp_region_lit ?_
            refine wl rfl (.slice (some ⟨fb, fo, none⟩) n1 cap1) _ (run_mvZ (.tmp 1) rfl (.slice (some ⟨fb, fo, none⟩) n1 cap1) rfl) ?_
            simp only [Act.put, aS, aC, aZ]
            refine wl rfl (.int .i64 (k : Nat)) _ (run_mvZ (.tmp 14) rfl (.int .i64 (k : Nat)) rfl) ?_
            simp only [Act.put, aS, aC, aZ]
            refine wl rfl (.pointer (some ⟨fb, fo + k * 4, none⟩)) _ (run_ix22 (.tmp 83) (.tmp 84) rfl fb fo n1 cap1 k rfl rfl hlt) ?_
            simp only [Act.put, aS, aC, aZ]
            refine wl rfl (.agg o.cells.toArray) _ (run_loadA ag40 (.tmp 85) rfl fb (fo + k * 4) rfl o.cells rfl (fun j v hv => HOC.out j v hv)) ?_
            simp only [Act.put, aS, aC, aZ]
            refine wl rfl (ptr WK.heap.size) _ (run_allocA z40 zero40 rfl) ?_
            obtain ⟨bo, hbo⟩ : ∃ q, q = WK.heap.size := ⟨_, rfl⟩
            obtain ⟨u0, hw⟩ : ∃ W, W = WK.alloc (.cells z40.toArray 40) := ⟨_, rfl⟩
            have A0 : Hid (Below WK.heap.size WK u0 ∧ Row u0 bo 40 z40 ∧ WK.heap.size ≤ bo) := (by rw [hbo, hw]; exact ⟨below_alloc WK _, Row.new _ _ _, Nat.le_refl _⟩)
            rw [← hbo, ← hw]
            clear hbo hw
            simp only [Act.put, aS, aC, aZ]
            have hst := run_storeVar ag40 u0 bo 0 40 z40 o.cells rfl A0.out.2.1 (by simp [z40, OpD.cells]) (op_one HOI.out)
            rw [show splice z40 0 o.cells = o.cells from rfl] at hst
            refine wlS rfl rfl _ (run_stV (.tmp 15) (.tmp 86) rfl bo 0 rfl _ rfl hst) ?_
            obtain ⟨W1, hw⟩ : ∃ W, W = u0.setRow bo o.cells.toArray := ⟨_, rfl⟩
            have HA : Hid (Below WK.heap.size WK W1 ∧ Row W1 bo 40 o.cells ∧ WK.heap.size ≤ bo) := (by
              have hc : Ch (· = bo) u0 W1 := hw ▸ (Ch.refl (· = bo) u0).setRow (g := bo) (Or.inl rfl) _
              exact ⟨A0.out.1.trans (hc.below A0.out.1.size fun i hi e => by have := A0.out.2.2; omega), hw ▸ A0.out.2.1.setRow _, A0.out.2.2⟩)
            rw [← hw]
            clear hw hst A0
            refine wpList_nil ?_
            have HAF : Hid (Aft w W1 c g m [n0] [] 0 n (6 + 8 * k) gy vm ∧ Row W1 bo 40 o.cells) := ⟨HF.out.2.bel HA.out.1, HA.out.2.1⟩
            have HOF : Hid (m.on = false) := HF.out.1
            clear HA HF HOC
            obtain ⟨kd, hkd⟩ : ∃ kd, kd = kindOf o.k := ⟨_, rfl⟩
            have HKD : Hid (kd = kindOf o.k) := hkd
            clear hkd
            obtain ⟨d8, hd8⟩ : ∃ d, (!decide (kd = 8)) = d := ⟨_, rfl⟩
            have HD8 : Hid ((!decide (kd = 8)) = d8) := hd8
            clear hd8
            go_upto_region 17 with fail
            refine wp_region_lit ?_
            refine wl rfl (ptr g) _ (run_mvZ (.tmp 6) rfl (ptr g) rfl) ?_
            simp only [Act.put, aS, aC, aZ]
            refine wpList_callW eN23 [.tmp 87] _ rfl rfl [(ptr g)] rfl ?_
            refine (HAF.out.1.pl.isOn).mono ?_
            intro e W_ ⟨he, hw⟩
            rw [HOF.out] at he
            obtain rfl := he
            obtain rfl := hw
            refine ⟨_, rfl, ?_⟩
            simp only [Act.put, aS, aC, aZ]
            refine wl rfl (.bool true) _ (run_not (.tmp 88) 4 rfl false rfl) ?_
            simp only [Act.put, aS, aC, aZ]
            refine wl rfl (.bool true) _ (run_mvZ (.tmp 89) rfl (.bool true) rfl) ?_
            simp only [Act.put, aS, aC, aZ]
            refine wl (by kernel_rfl) (.pointer (some ⟨bo, 0 + 0, none⟩)) _ (run_fieldOp' f40_0 (.tmp 15) rfl bo (0) rfl) ?_
            simp only [Act.put, aS, aC, aZ]
            refine wl (by kernel_rfl) (.int .i64 o.k) _ (run_load1 o3 (.tmp 91) rfl bo (0 + 0) rfl (.int .i64 o.k) (HAF.out.2.at 0 _ rfl)) ?_
            simp only [Act.put, aS, aC, aZ]
            refine wpList_callW eN14 [.tmp 92] _ (by kernel_rfl) rfl [(.int .i64 o.k)] rfl ?_
            refine (kind_any W1 o.k HOI.out.k.1 HOI.out.k.2).mono ?_
            rintro e W_ ⟨rfl, rfl⟩
            refine ⟨_, rfl, ?_⟩
            rw [← HKD.out]
            simp only [Act.put, aS, aC, aZ]
            refine wl (by kernel_rfl) (.bool d8) _ (run_neZ (.tmp 93) (.const (.int .i64 8)) rfl kd 8 rfl rfl d8 HD8.out) ?_
            simp only [Act.put, aS, aC, aZ]
            refine wl rfl (.bool d8) _ (run_pickZ (.tmp 90) (.tmp 94) (.const (.bool false)) rfl true (.bool d8) rfl rfl) ?_
            simp only [Act.put, aS, aC, aZ]
            refine wpList_nil ?_
            cases d8 with
            | true =>
                have H6 : LoopI w W1 g n0 n (6 + 8 * k) (ptr gp) (ptr gy) vm := LoopI.off HOF.out HAF.out.1
                go_wp2_with fail
                refine ⟨⟨k + 1, _, rfl, by go_num, rfl, by omega, H6.mono (by omega)⟩, ?_⟩
                simp [intOf]; omega
            | false =>
                have hk8 : kd = 8 := (by
                  have h := HD8.out
                  by_cases e : kd = 8
                  · exact e
                  · rw [decide_eq_false e] at h; cases h)
                subst hk8
                go_upto_region 18 with fail
                refine wp_region_lit ?_
                refine wl rfl (.pointer (some ⟨bo, 0 + 0, none⟩)) _ (run_fieldOp' f40_0 (.tmp 15) rfl bo (0) rfl) ?_
                simp only [Act.put, aS, aC, aZ]
                refine wl rfl (.int .i64 o.k) _ (run_load1 o3 (.tmp 96) rfl bo (0 + 0) rfl (.int .i64 o.k) (HAF.out.2.at 0 _ rfl)) ?_
                simp only [Act.put, aS, aC, aZ]
                refine wpList_callW eN14 [.tmp 97] _ rfl rfl [(.int .i64 o.k)] rfl ?_
                refine (kind_any W1 o.k HOI.out.k.1 HOI.out.k.2).mono ?_
                rintro e W_ ⟨rfl, rfl⟩
                refine ⟨_, rfl, ?_⟩
                rw [← HKD.out]
                simp only [Act.put, aS, aC, aZ]
                refine wpList_nil ?_
                go_upto_block 2 with fail
                go_cut [7, 9, 11, 13] from 77 to 203 (fun v7 v9 v11 v13 W => ∃ vm2, v7 = .int .i64 0 ∧ vm2 = v13 ∧ LoopI w W g n0 n (6 + 8 * (k + 1)) v9 v11 vm2)
                case first =>
                  as_aux_lemma =>
                    go_upto_region 46 with fail
                    refine wp_region_lit ?_
                    refine wl rfl (ptr g) _ (run_mvZ (.tmp 6) rfl (ptr g) rfl) ?_
                    simp only [Act.put, aS, aC, aZ]
                    refine wl rfl (.pointer (some ⟨bo, 0 + 3, none⟩)) _ (run_fieldOp' f40_3 (.tmp 15) rfl bo (0) rfl) ?_
                    simp only [Act.put, aS, aC, aZ]
                    refine wl rfl o.kv _ (run_load1 o28 (.tmp 171) rfl bo (0 + 3) rfl o.kv (HAF.out.2.at 3 _ rfl)) ?_
                    simp only [Act.put, aS, aC, aZ]
                    refine wpList_callW eN26 [.tmp 170, .tmp 172] _ rfl rfl [(ptr g), o.kv] rfl ?_
                    refine (HAF.out.1.boot (by omega) o.kv o.ks HOI.out.keep).mono ?_
                    rintro e W2 ⟨rfl, c2, m2, L2, X2, r2, hpl, ho2, hr2, hor⟩
                    refine ⟨_, rfl, ?_⟩
                    have H2 : Hid (PlW w W2 c2 g m2 [n0] [] (6 + 8 * k) ∧ PgO m2 0 n L2 L2.used X2 ∧ Ref (S0 w c2) W2 gy n r2 ∧ (Rls L2 L2.used X2 r2.dropped n ∨ ∃ gm rm, vm = ptr gm ∧ gm ≠ gy ∧ Ref (S0 w c2) W2 gm n rm ∧ Rls L2 L2.used X2 rm.dropped n)) := ⟨hpl, ho2, hr2, hor⟩
                    clear hpl ho2 hr2 hor HAF
                    simp only [Act.put, aS, aC, aZ]
                    refine wpList_nil ?_
                    go_upto_region 47 with fail
                    refine wp_region_lit ?_
                    refine wl rfl (ptr g) _ (run_mvZ (.tmp 6) rfl (ptr g) rfl) ?_
                    simp only [Act.put, aS, aC, aZ]
                    refine wpList_callW eN13 [.tmp 175, .const (.int .i64 0)] _ rfl rfl [(ptr g), .int .i64 0] rfl ?_
                    refine (PlW.open1 H2.out.1 (by omega) H2.out.2.1).mono ?_
                    rintro e W3 ⟨gq, hgq, rfl, b_, h_⟩
                    refine ⟨_, rfl, ?_⟩
                    have H3 : Hid (PgW w W3 c2 gq g m2 [n0] [] 0 n L2 L2.used X2 (6 + 8 * k) ∧ Ref (SS w c2 gq) W3 gy n r2 ∧ (Rls L2 L2.used X2 r2.dropped n ∨ ∃ gm rm, vm = ptr gm ∧ gm ≠ gy ∧ Ref (SS w c2 gq) W3 gm n rm ∧ Rls L2 L2.used X2 rm.dropped n)) := (by
                      refine ⟨h_, ref_open H2.out.2.2.1 hgq b_, ?_⟩
                      rcases H2.out.2.2.2 with h2 | ⟨gm, rm, a1, a2, a3, a4⟩
                      · exact Or.inl h2
                      · exact Or.inr ⟨gm, rm, a1, a2, ref_open a3 hgq b_, a4⟩)
                    clear h_ b_ hgq H2
                    simp only [Act.put, aS, aC, aZ]
                    refine wl rfl (.tuple #[(ptr gq), (.int .i64 0)]) _ (run_mvZ (.tmp 176) rfl (.tuple #[(ptr gq), (.int .i64 0)]) rfl) ?_
                    simp only [Act.put, aS, aC, aZ]
                    refine wl rfl (ptr gq) _ (run_extZ (.tmp 174) 0 rfl #[(ptr gq), (.int .i64 0)] rfl (ptr gq) rfl) ?_
                    simp only [Act.put, aS, aC, aZ]
                    refine wl rfl (.int .i64 0) _ (run_extZ (.tmp 174) 1 rfl #[(ptr gq), (.int .i64 0)] rfl (.int .i64 0) rfl) ?_
                    simp only [Act.put, aS, aC, aZ]
                    refine wl rfl (ptr gq) _ (run_asZ (.tmp 177) rfl (ptr gq) rfl) ?_
                    simp only [Act.put, aS, aC, aZ]
                    refine wl rfl (.int .i64 0) _ (run_asZ (.tmp 178) rfl (.int .i64 0) rfl) ?_
                    simp only [Act.put, aS, aC, aZ]
                    refine wpList_nil ?_
                    go_upto_region 48 with fail
                    refine wp_region_lit ?_
                    refine wl rfl (ptr gq) _ (run_mvZ (.tmp 9) rfl (ptr gq) rfl) ?_
                    simp only [Act.put, aS, aC, aZ]
                    refine wl rfl (.bool false) _ (run_binOp' (.tmp 179) (.const (.pointer none)) rfl _ _ _ rfl rfl rfl (by kernel_rfl)) ?_
                    simp only [Act.put, aS, aC, aZ]
                    refine wl rfl (.bool false) _ (run_mvZ (.tmp 180) rfl (.bool false) rfl) ?_
                    simp only [Act.put, aS, aC, aZ]
                    refine wl (by kernel_rfl) (.int .i64 0) _ (run_mvZ (.tmp 7) rfl (.int .i64 0) rfl) ?_
                    simp only [Act.put, aS, aC, aZ]
                    refine wl (by kernel_rfl) (.bool false) _ (run_neZ (.tmp 182) (.const (.int .i64 0)) rfl (0) (0) rfl rfl false rfl) ?_
                    simp only [Act.put, aS, aC, aZ]
                    refine wl rfl (.bool false) _ (run_pickZ (.tmp 181) (.const (.bool true)) (.tmp 183) rfl false (.bool false) rfl rfl) ?_
                    simp only [Act.put, aS, aC, aZ]
                    refine wpList_nil ?_
                    go_upto_region 50 with fail
                    refine wp_region_lit ?_
                    refine wl rfl (ptr gy) _ (run_mvZ (.tmp 11) rfl (ptr gy) rfl) ?_
                    simp only [Act.put, aS, aC, aZ]
                    refine wpList_callW eN21 [.tmp 185] _ rfl rfl [(ptr gy)] rfl ?_
                    refine (rdrop_any _ W3 gy n r2 H3.out.2.1 ⟨HPN.out.2.1, by have := HPN.out.2.2; omega⟩ (fun _ hb => H3.out.1.fresh hb)).mono ?_
                    rintro e W4 ⟨rfl, hc4, hr4⟩
                    refine ⟨_, rfl, ?_⟩
                    have H4 : Hid (Fnd w W4 c2 gq g m2 [n0] [] 0 n L2 X2 (6 + 8 * k) gy r2.dropped vm) := fnd_drop H3.out.1 H3.out.2.1 H3.out.2.2 hc4 hr4
                    clear hc4 hr4 H3
                    simp only [Act.put, aS, aC, aZ]
                    refine wpList_nil ?_
                    go_upto_region 51 with fail
                    refine wp_region_lit ?_
                    refine wl rfl (ptr gq) _ (run_mvZ (.tmp 9) rfl (ptr gq) rfl) ?_
                    simp only [Act.put, aS, aC, aZ]
                    refine wl rfl (ptr gy) _ (run_mvZ (.tmp 11) rfl (ptr gy) rfl) ?_
                    simp only [Act.put, aS, aC, aZ]
                    refine wpList_callW eN22 [.tmp 187, .tmp 188] _ rfl rfl [(ptr gq), (ptr gy)] rfl ?_
                    refine (alike_any H4.out.pg (by omega) _ gy r2.dropped H4.out.rf).mono ?_
                    intro e W5 ⟨b5, he5, hb5, ht5, hf5⟩
                    obtain rfl := he5
                    refine ⟨_, rfl, ?_⟩
                    have H5 : Hid (Fnd w W5 c2 gq g m2 [n0] [] 0 n L2 X2 (6 + 8 * k) gy r2.dropped vm ∧ (Rls L2 L2.used X2 r2.dropped n → b5 = true) ∧ (b5 = true → n ≤ 39 → Told L2 L2.used X2 r2.dropped n)) := ⟨H4.out.bel hb5, ht5, hf5⟩
                    clear hb5 ht5 hf5 H4
                    simp only [Act.put, aS, aC, aZ]
                    refine wl rfl (.bool b5) _ (run_asZ (.tmp 189) rfl (.bool b5) rfl) ?_
                    simp only [Act.put, aS, aC, aZ]
                    refine wpList_nil ?_
                    cases b5 with
                    | true =>
                        go_upto_region 52 with fail
                        refine wp_region_lit ?_
                        refine wl rfl (.bool true) _ (run_mvZ (.tmp 25) rfl (.bool true) rfl) ?_
                        simp only [Act.put, aS, aC, aZ]
                        refine wl rfl (.bool false) _ (run_not (.tmp 190) 4 rfl true rfl) ?_
                        simp only [Act.put, aS, aC, aZ]
                        refine wpList_nil ?_
                        have HDU := LoopI.on (H5.out.1.yes HPN.out.2.2 (H5.out.2.2 rfl))
                        go_wp2_with fail
                        go_meet
                        case rel => exact ⟨_, rfl, rfl, (HDU).mono (by omega)⟩
                    | false =>
                        obtain ⟨gm, rm, hvm, hrm, hrel⟩ := H5.out.1.no H5.out.2.1
                        subst hvm
                        have H7 : Hid (PgW w W5 c2 gq g m2 [n0] [] 0 n L2 L2.used X2 (6 + 8 * k) ∧ Ref (SS w c2 gq) W5 gm n rm ∧ Rls L2 L2.used X2 rm.dropped n) := ⟨H5.out.1.pg, hrm, hrel⟩
                        clear hrm hrel H5
                        go_upto_region 52 with fail
                        refine wp_region_lit ?_
                        refine wl rfl (.bool false) _ (run_mvZ (.tmp 25) rfl (.bool false) rfl) ?_
                        simp only [Act.put, aS, aC, aZ]
                        refine wl rfl (.bool true) _ (run_not (.tmp 190) 4 rfl false rfl) ?_
                        simp only [Act.put, aS, aC, aZ]
                        refine wpList_nil ?_
                        go_upto_region 53 with fail
                        refine wp_region_lit ?_
                        refine wl rfl (ptr gm) _ (run_mvZ (.tmp 13) rfl (ptr gm) rfl) ?_
                        simp only [Act.put, aS, aC, aZ]
                        refine wl rfl (.bool false) _ (run_binOp' (.tmp 192) (.const (.pointer none)) rfl _ _ _ rfl rfl rfl (by kernel_rfl)) ?_
                        simp only [Act.put, aS, aC, aZ]
                        refine wpList_nil ?_
                        go_upto_region 55 with fail
                        refine wp_region_lit ?_
                        refine wl rfl (ptr gm) _ (run_mvZ (.tmp 13) rfl (ptr gm) rfl) ?_
                        simp only [Act.put, aS, aC, aZ]
                        refine wpList_callW eN21 [.tmp 194] _ rfl rfl [(ptr gm)] rfl ?_
                        refine (rdrop_any _ W5 gm n rm H7.out.2.1 ⟨HPN.out.2.1, by have := HPN.out.2.2; omega⟩ (fun _ hb => H7.out.1.fresh hb)).mono ?_
                        rintro e W6 ⟨rfl, hc6, hr6⟩
                        refine ⟨_, rfl, ?_⟩
                        have HDU := LoopI.on (duo_ref1 H7.out.1 hc6 hr6 H7.out.2.2)
                        clear hc6 hr6 H7
                        simp only [Act.put, aS, aC, aZ]
                        refine wpList_nil ?_
                        go_wp2_with fail
                        go_meet
                        case rel => exact ⟨_, rfl, rfl, (HDU).mono (by omega)⟩
                case rest =>
                  obtain ⟨vm2, rfl, rfl, gp2, gy2, c2, m2, rfl, rfl, hst⟩ := hcut
                  rcases hst with ⟨rfl, L2, U2, X2, r2, hduo⟩ | ⟨hoff, haft⟩
                  · have HD2 : Hid (Duo w wc c2 gp2 g m2 [n0] [] 0 n L2 U2 X2 (6 + 8 * (k + 1)) gy2 r2) := hduo
                    clear hduo
                    go_upto_region 58 with fail
                    refine wp_region_lit ?_
                    refine wl rfl (ptr g) _ (run_mvZ (.tmp 6) rfl (ptr g) rfl) ?_
                    simp only [Act.put, aS, aC, aZ]
                    refine wpList_callW eN23 [.tmp 197] _ rfl rfl [(ptr g)] rfl ?_
                    refine (HD2.out.pg.pl.isOn).mono ?_
                    intro e W_ ⟨he, hw⟩
                    rw [HD2.out.pg.o.on] at he
                    obtain rfl := he
                    obtain rfl := hw
                    refine ⟨_, rfl, ?_⟩
                    simp only [Act.put, aS, aC, aZ]
                    refine wpList_nil ?_
                    go_upto_region 59 with fail
                    refine wp_region_lit ?_
                    refine wl rfl (ptr gp2) _ (run_mvZ (.tmp 9) rfl (ptr gp2) rfl) ?_
                    simp only [Act.put, aS, aC, aZ]
                    refine wl rfl (ptr gy2) _ (run_mvZ (.tmp 11) rfl (ptr gy2) rfl) ?_
                    simp only [Act.put, aS, aC, aZ]
                    refine wpList_callW eN22 [.tmp 199, .tmp 200] _ rfl rfl [(ptr gp2), (ptr gy2)] rfl ?_
                    refine (alike_any HD2.out.pg (by omega) _ gy2 r2 HD2.out.rf).mono ?_
                    intro e W6 ⟨b6, he6, hb6, ht6, _⟩
                    obtain rfl : b6 = true := ht6 HD2.out.rel
                    obtain rfl := he6
                    refine ⟨_, rfl, ?_⟩
                    have H6 : Hid (LoopI w W6 g n0 n (6 + 8 * (k + 1)) (ptr gp2) (ptr gy2) (.pointer none)) := LoopI.on (HD2.out.bel hb6)
                    clear hb6 ht6 HD2
                    simp only [Act.put, aS, aC, aZ]
                    refine wl rfl (.bool true) _ (run_asZ (.tmp 201) rfl (.bool true) rfl) ?_
                    simp only [Act.put, aS, aC, aZ]
                    refine wpList_nil ?_
                    go_upto_region 60 with fail
                    refine wp_region_lit ?_
                    refine wl rfl (.bool true) _ (run_mvZ (.tmp 26) rfl (.bool true) rfl) ?_
                    simp only [Act.put, aS, aC, aZ]
                    refine wl rfl (.bool false) _ (run_not (.tmp 202) 4 rfl true rfl) ?_
                    simp only [Act.put, aS, aC, aZ]
                    refine wpList_nil ?_
                    go_wp2_with fail
                    refine ⟨⟨k + 1, _, rfl, by go_num, rfl, by omega, H6.out⟩, ?_⟩
                    simp [intOf]; omega
                  · have HF2 : Hid (m2.on = false ∧ Aft w wc c2 g m2 [n0] [] 0 n (6 + 8 * (k + 1)) gy2 vm2) := ⟨hoff, haft⟩
                    clear hoff haft
                    go_upto_region 58 with fail
                    refine wp_region_lit ?_
                    refine wl rfl (ptr g) _ (run_mvZ (.tmp 6) rfl (ptr g) rfl) ?_
                    simp only [Act.put, aS, aC, aZ]
                    refine wpList_callW eN23 [.tmp 197] _ rfl rfl [(ptr g)] rfl ?_
                    refine (HF2.out.2.pl.isOn).mono ?_
                    intro e W_ ⟨he, hw⟩
                    rw [HF2.out.1] at he
                    obtain rfl := he
                    obtain rfl := hw
                    refine ⟨_, rfl, ?_⟩
                    simp only [Act.put, aS, aC, aZ]
                    refine wpList_nil ?_
                    have H6 : LoopI w wc g n0 n (6 + 8 * (k + 1)) (ptr gp2) (ptr gy2) vm2 := LoopI.off HF2.out.1 HF2.out.2
                    go_wp2_with fail
                    refine ⟨⟨k + 1, _, rfl, by go_num, rfl, by omega, H6⟩, ?_⟩
                    simp [intOf]; omega
          · have h1 : decide ((k : Int) < (n1 : Int)) = false := decide_eq_false (by omega)
            go_upto_region 14 with fail
            refine wp_region_lit ?_
            refine wl rfl (.int .i64 (k : Nat)) _ (run_mvZ (.tmp 14) rfl (.int .i64 (k : Nat)) rfl) ?_
            simp only [Act.put, aS, aC, aZ]
            refine wl rfl (.slice p1 n1 cap1) _ (run_mvZ (.tmp 1) rfl (.slice p1 n1 cap1) rfl) ?_
            simp only [Act.put, aS, aC, aZ]
            refine wl rfl (.int .i64 (n1 : Nat)) _ (run_lenZ sl22 (.tmp 78) rfl p1 n1 cap1 rfl) ?_
            simp only [Act.put, aS, aC, aZ]
            refine wl rfl (.bool false) _ (run_lssZ (.tmp 77) (.tmp 79) rfl _ _ rfl rfl false h1) ?_
            simp only [Act.put, aS, aC, aZ]
            refine wpList_nil ?_
            clear h1
            go_wp2_with fail
            rw [HPQ.out]
            exact ⟨rfl, HF.out.2.pl.below⟩

end Go.Proofs.YtkpnflgnhhfjoaaDoor

namespace Go.Proofs.YtkpnflgnhhfjoaaDoor.pagerCrashesUpto
open Go.ChangeShapes Go.WideShapes Go.ChangeAt Go.RowKit

set_option maxRecDepth 100000 in
/-- WHAT THE WALK GIVES, FOR EVERY ARGUMENT AND EVERY WORLD THAT HOLDS THE TABLE -/
theorem contract (H : Type) (enc : TypeId × Value → H) (W : World) (base : Nat) (args : Array Value) (ds gs : List (DataW H)) (before : List MemPlace)
    (hval : ∀ (j : Nat) t v, Tryd.f4.params[j]? = some t → args[j]? = some v → Value.okWide Tryd.prog W .any base t v)
    (hW : DataW.Whole enc Tryd.prog Tryd.f4.params.toList Rows.pagerCrashesSpec.vars false W args.toList ds gs before)
    (hk : Rows.uptoSmall H (ds ++ gs) = true)
    (hL : laidMetH Tryd.prog Rows.pagerCrashesUptoRow.laid W) :
    Calls Tryd.prog 4 args W fun e W' => ∃ v, e = .returned v ∧ Rows.pagerCrashesSpec.post enc Tryd.prog Tryd.f4 false true false false W args v W' := by
  have hW' := hW
  obtain ⟨p, q, hA0, hV, rfl, hfz, hnd⟩ := hW
  have hA : DataW.TrodAll enc Tryd.prog W 0 (fun _ => true) true Tryd.f4.params.toList args.toList ds p := hA0
  rw [Tryd.params4] at hA hval
  obtain ⟨v0, vs0, d0, ds0, p0, q0, hargs, rfl, rfl, h0, r0⟩ := trodAll_cons hA
  obtain ⟨v1, vs1, d1, ds1, p1, q1, rfl, rfl, rfl, h1, r1⟩ := trodAll_cons r0
  obtain ⟨rfl, rfl, rfl⟩ := trodAll_nil r1
  obtain rfl : args = #[v0, v1] := by cases args; simp_all
  obtain ⟨rfl, rfl⟩ := trodVars_none hV
  obtain ⟨a0, rfl, rfl, rfl, w0⟩ := open_int Tryd.underlying3 (hval 0 3 v0 rfl rfl) h0
  have b0 : -9223372036854775808 ≤ a0 ∧ a0 ≤ 9223372036854775807 := by
    simpa [Lit.wf, IntKind.min, IntKind.max, IntKind.signed, IntKind.bits] using w0
  have lt1 : ∀ x ∈ p1, x.block < W.heap.size := by obtain ⟨m, hm⟩ := h1; exact DataW.trod_lt m _ _ _ hm
  clear hA0
  have hbk : Rows.uptoBulkAll [(.lit (.int .i64 a0) : DataW H), d1] ≤ 1048576 := of_decide_eq_true hk
  simp only [Rows.uptoBulkAll] at hbk
  obtain ⟨os, hos⟩ := open_ops (hval 1 22 v1 rfl rfl) h1 (by omega)
  obtain ⟨p1, cap1, hv1, _, _⟩ := id hos
  subst hv1
  have walk := pagerCrashes_any W (tabIn_of hL) a0 p1 os.length cap1 os hos
  refine walk.mono fun e W' ⟨he, bel⟩ => ?_
  subst he
  exact ⟨_, rfl, _, _, _, [], _, [], hW', trodAll_mk1 (shut_bool Tryd.underlying4 _), (trodAll_cons_mk (shut_int Tryd.underlying3 w0) (trodAll_cons_mk (Below.trod laidOut (by kernel_rfl) (of_decide_eq_true (by kernel_rfl)) h1 bel lt1) trodAll_mk0)), rfl, bel.frame _, fun h => by cases h⟩

theorem laid_met (os : Os) : laidMet Tryd.prog Rows.pagerCrashesUptoRow.laid ((laidOn (World.holding Tryd.prog os ⟨#[], #[], []⟩)).forCall (fun _ _ => 0) ⟨#[], #[.int .i64 0, .slice none 0 0], []⟩).memory :=
  laidMet_of_run' 8 (by kernel_rfl) (by kernel_rfl)
theorem reads (os : Os) {H : Type} (enc : TypeId × Value → H) : ∃ places, DataW.whole enc Tryd.prog ((laidOn (World.holding Tryd.prog os ⟨#[], #[], []⟩)).forCall (fun _ _ => 0) ⟨#[], #[.int .i64 0, .slice none 0 0], []⟩).memory Tryd.f4.params.toList Rows.pagerCrashesSpec.vars false #[Value.int .i64 0, .slice none 0 0].toList 8 = some ([.lit (.int .i64 0), .nil], [], places) :=
  ⟨[], by kernel_rfl⟩

set_option maxRecDepth 100000 in
theorem lifted (os : Os) (started : os.Started) (H : Type) (enc : TypeId × Value → H) (F : Stop.Interp) :
    ReturnsInHanded {} Tryd.checked os 4 .any ((Rows.OpenSpec.upto Rows.pagerCrashesSpec).preRow enc Tryd.prog Tryd.f4 Rows.pagerCrashesUptoRow.domain false Rows.pagerCrashesUptoRow.laid) (((Rows.OpenSpec.upto Rows.pagerCrashesSpec).at F).post enc Tryd.prog Tryd.f4 false true false false) := by
  obtain ⟨places, hx⟩ := reads os enc
  refine returnsInHanded_of_row (C := Tryd.checked) (s := Rows.OpenSpec.upto Rows.pagerCrashesSpec) own started (by kernel_rfl) Tryd.func4
    (witness_row_at (enc := enc) (C := Tryd.checked) false (laidOn (World.holding Tryd.prog os ⟨#[], #[], []⟩)) #[.int .i64 0, .slice none 0 0] rfl (by kernel_rfl) (by kernel_rfl) (by kernel_rfl)
      (OpenSpec.preRow_of_cond 8 hx (by kernel_rfl) (fun k hk => by cases hk; kernel_rfl) (by kernel_rfl) (laid_met os))) ?_
  intro W base args ds gs before hval hW _ hcond _ hL _ _
  exact contract H enc W base args ds gs before hval hW (hcond _ rfl) hL

theorem said : Rows.PagerCrashesUptoSaid :=
  OpenClaim.holds_of_cond 4 Tryd.f4 rfl rfl rfl rfl rfl rfl rfl ⟨rfl, rfl, rfl, rfl, rfl⟩ rfl rfl rfl rfl rfl (by kernel_rfl) Tryd.func4 (by kernel_rfl)
    (of_decide_eq_true (by kernel_rfl)) (by unfold Func.isWrapper; first | (rw [if_pos (by decide +kernel)]; kernel_rfl) | (rw [if_neg (by decide +kernel)]; exact ⟨rfl, rfl⟩))
    (fun os started H enc _ F => by rw [OpenClaim.pre_eq_preRow]; exact lifted os started H enc F)

theorem plain (f : FuncId) (fn : Func) (hf : Tryd.pinned.checked.prog.funcNamed "muniment/munimentlaw09.PagerCrashes" = some f) (hfn : Tryd.pinned.checked.prog.funcs[f]? = some fn) :
    false = Tryd.pinned.checked.prog.looks [] ∧ ∀ (j : Nat) t, fn.params[j]? = some t → Tryd.pinned.checked.prog.wantsStandIn t = false := by
  obtain rfl : f = 4 := Option.some.inj ((show Tryd.prog.funcNamed "muniment/munimentlaw09.PagerCrashes" = some 4 by kernel_rfl).symm.trans hf) |>.symm
  obtain rfl : fn = Tryd.f4 := (Option.some.inj (Tryd.func4.symm.trans hfn)).symm
  refine ⟨by kernel_rfl, fun j t ht => ?_⟩
  rw [Tryd.params4] at ht
  have hm := Array.mem_of_getElem? ht
  have : t = 3 ∨ t = 22 := by simpa using hm
  rcases this with rfl | rfl
  · exact (show Tryd.prog.wantsStandIn 3 = false by kernel_rfl)
  · exact (show Tryd.prog.wantsStandIn 22 = false by kernel_rfl)

end Go.Proofs.YtkpnflgnhhfjoaaDoor.pagerCrashesUpto
namespace Go.Proofs.YtkpnflgnhhfjoaaDoor
/-- THE CARD -/
theorem pagerCrashesUpto_card : Rows.PagerCrashesUptoCardSaid :=
  Claim7.holds_tied_plain_at .later [] _ _ _ _ pagerCrashesUpto.said (fun _ h => by cases h) (by kernel_rfl) (fun _ h => by cases h) pagerCrashesUpto_row_tie rfl ⟨rfl, rfl⟩ (by kernel_rfl) rfl pagerCrashesUpto.plain (by kernel_rfl)
end Go.Proofs.YtkpnflgnhhfjoaaDoor

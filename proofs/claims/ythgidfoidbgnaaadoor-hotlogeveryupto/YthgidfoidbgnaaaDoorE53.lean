/- Layer 14: the stand appends, whatever the fuse. -/
import Derived.Test.YthgidfoidbgnaaaDoorE52
namespace Go.Proofs.YthgidfoidbgnaaaDoor
open Go.RowKit Go.Maps


section
variable {w W W' : World} {c c' : Nat → Colour} {gp gh gf gm gs gr n K K' ever dims : Nat} {m m' : Pl} {us us0 us2 : List (Nat × List Nat)} {vu vb : Value} {bl : List Value} {er : Int}
theorem PlW.own {S : Nat → Prop} (h : PlW w W c gp m n K) (hc : Ch S W W') (hS : ∀ q, q < W.heap.size → S q → w.heap.size ≤ q ∧ (c q).1 ≠ 2) : PlW w W' c gp m n K :=
 ⟨h.live.ch' hc (fun b hb hs => (hS b hb hs).2), h.tab, h.tz, h.cc, h.below.trans (hc.below h.below.size fun i hi e => by have := (hS i (Nat.lt_of_lt_of_le hi h.below.size) e).1; omega), h.shape, h.hn, h.le⟩
/-- a plant, whether it is on or off, and where its hot disk lies -/
structure HtO (w W : World) (c : Nat → Colour) (gp gh gf gm : Nat) (m : Pl) (n K : Nat) : Prop where
 pl : PlW w W c gp m n K
 lt : gh < W.heap.size ∧ gf < W.heap.size ∧ gm < W.heap.size
theorem HtW.hto (h : HtW w W c gp gh gf gm m n us K) : HtO w W c gp gh gf gm m n K := ⟨h.pl, h.lt⟩
theorem HtO.bel (h : HtO w W c gp gh gf gm m n K) (hb : Below W.heap.size W W') : HtO w W' c gp gh gf gm m n K := ⟨h.pl.bel hb, by have := h.lt; have := hb.size; omega⟩
theorem HtO.own {S : Nat → Prop} (h : HtO w W c gp gh gf gm m n K) (hc : Ch S W W') (hS : ∀ q, q < W.heap.size → S q → Out w W c gh gf gm q) : HtO w W' c gp gh gf gm m n K := ⟨h.pl.own hc (fun q hq e => ⟨(hS q hq e).1, (hS q hq e).2.2.1⟩), by have := h.lt; have := hc.size; omega⟩
theorem HtO.new (h : HtO w W c gp gh gf gm m n K) {q : Nat} (hq : W.heap.size ≤ q) (hq2 : q < W'.heap.size) : Out w W' c gh gf gm q :=
 ⟨Nat.le_trans h.pl.below.size hq, hq2, h.pl.live.2.2 q hq, (fun e => by have := h.lt; omega), (fun e => by have := h.lt; omega), (fun e => by have := h.lt; omega)⟩
/-- what Append leaves: a hot disk, or a plant whose power is off -/
structure HtE (w W : World) (c : Nat → Colour) (gp gh gf gm : Nat) (m : Pl) (n : Nat) (us2 : List (Nat × List Nat)) (K : Nat) (er : Int) (us : List (Nat × List Nat)) : Prop where
 o : HtO w W c gp gh gf gm m n K
 on : er ≠ 2 → HtW w W c gp gh gf gm m n us2 K
 off : er = 2 → m.on = false ∧ ∀ ks, Held (m.boot ks) us
theorem HtE.bel (h : HtE w W c gp gh gf gm m n us2 K er us) (hb : Below W.heap.size W W') : HtE w W' c gp gh gf gm m n us2 K er us := ⟨h.o.bel hb, fun e => (h.on e).bel hb, h.off⟩
theorem HtE.own {S : Nat → Prop} (h : HtE w W c gp gh gf gm m n us2 K er us) (hc : Ch S W W') (hS : ∀ q, q < W.heap.size → S q → Out w W c gh gf gm q) : HtE w W' c gp gh gf gm m n us2 K er us := ⟨h.o.own hc hS, fun e => (h.on e).own hc hS, h.off⟩
end
section
variable {w W W' : World} {c c' : Nat → Colour} {gp gh gf gm gs gr n K K' ever ever' dims dims' : Nat} {m m' : Pl} {us us0 us2 : List (Nat × List Nat)} {vu vb : Value} {bl : List Value} {er : Int}
/-- all that a call of append holds -/
structure ApE (w W : World) (c : Nat → Colour) (gp gh gf gm gs gr n : Nat) (us2 : List (Nat × List Nat)) (m : Pl) (K : Nat) (er : Int) (us : List (Nat × List Nat)) (vu vb : Value) (bl : List Value) (ever dims q : Nat) (oc : List Value) (B : Nat) (vo : Value) (ys : List Nat) (vy : Value) (bs : List Nat) : Prop where
 h : HtE w W c gp gh gf gm m n us2 K er us
 d : Sd w W c gp gh gf gm gs gr n us vu vb bl ever dims
 o : Row W q 33 oc
 oo : Out w W c gh gf gm q
 own : BOwn W B vo ys
 wo : ∀ b, vo.ownBlock = some b → Out w W c gh gf gm b
 inn : SliceIn W vy bs
 far : Far w W c gh gf gm gs gr vu vb vy bs
 lb : ∀ b, SdB gs gr vu vb us.length bl b → b < B
 ly : (∀ W' : World, Below w.heap.size w W' → SliceIn W' vy bs) ∨ ∀ b, vy.ownBlock = some b → b < B
variable {q B : Nat} {oc : List Value} {vo vy : Value} {ys bs : List Nat}
theorem ApE.bel (a : ApE w W c gp gh gf gm gs gr n us2 m K er us vu vb bl ever dims q oc B vo ys vy bs) (hb : Below W.heap.size W W') : ApE w W' c gp gh gf gm gs gr n us2 m K er us vu vb bl ever dims q oc B vo ys vy bs :=
 ⟨a.h.bel hb, a.d.bel hb, a.o.later hb a.o.lt, a.oo.bel hb.size, ownK a.own fun b e => hb.block b (World.ownsRow.lt a.own b e).2, fun b e => (a.wo b e).bel hb.size, sliceK a.inn fun b _ hlt => hb.block b hlt, a.far.bel hb.size, a.lb, a.ly⟩
theorem ApE.lyK (a : ApE w W c gp gh gf gm gs gr n us2 m K er us vu vb bl ever dims q oc B vo ys vy bs) {q' : Nat} (hb : Below w.heap.size w W') (hc : Ch (· = q') W W') (hB : B ≤ q') : SliceIn W' vy bs := by
 rcases a.ly with h | h
 ·exact h W' hb
 ·exact sliceK a.inn fun b e hlt => hc.block b hlt (fun e' => by have := h b e; omega)
/-- a block apart from all these is written -/
theorem ApE.put (a : ApE w W c gp gh gf gm gs gr n us2 m K er us vu vb bl ever dims q oc B vo ys vy bs) {q' : Nat} (hc : Ch (· = q') W W') (ho : Out w W c gh gf gm q') {cs : List Value} (hr : Row W q' 30 cs) (hB : B ≤ q') : ApE w W' c gp gh gf gm gs gr n us2 m K er us vu vb bl ever dims q oc B vo ys vy bs :=
 ⟨a.h.own hc (fun _ _ e => e ▸ ho), a.d.ch hc (fun b hb e => by have := a.lb b hb; omega), hc.row (row_ne a.o hr (by decide)) a.o, a.oo.bel hc.size, ownK a.own fun b e => hc.block b (World.ownsRow.lt a.own b e).2 (fun e' => own_ne a.own (e' ▸ e) hr (by decide)), fun b e => (a.wo b e).bel hc.size, a.lyK (a.h.own hc (fun _ _ e => e ▸ ho)).o.pl.below hc (by omega), a.far.bel hc.size, a.lb, a.ly⟩
/-- its own bytes are written -/
theorem ApE.spoil (a : ApE w W c gp gh gf gm gs gr n us2 m K er us vu vb bl ever dims q oc B vo ys vy bs) {sb k : Nat} {cur : List Value} {x : Value} {zs : List Nat} (hb : vo.ownBlock = some sb) (hr : Row W sb 5 cur) (hz : BOwn (W.setCell ⟨sb, k, none⟩ x) B vo zs) : ApE w (W.setCell ⟨sb, k, none⟩ x) c gp gh gf gm gs gr n us2 m K er us vu vb bl ever dims q oc B vo zs vy bs := by
 have hc : Ch (· = sb) W (W.setCell ⟨sb, k, none⟩ x) := (Ch.refl (· = sb) W).setCell (Or.inl rfl) k x
 have hB : B ≤ sb := (World.ownsRow.lt a.own sb hb).1
 exact ⟨a.h.own hc (fun _ _ e => e ▸ a.wo sb hb), a.d.ch hc (fun b hb e => by have := a.lb b hb; omega), hc.row (row_ne a.o hr (by decide)) a.o, a.oo.bel hc.size, hz, fun b e => (a.wo b e).bel hc.size, a.lyK (a.h.own hc (fun _ _ e => e ▸ a.wo sb hb)).o.pl.below hc (by omega), a.far.bel hc.size, a.lb, a.ly⟩

theorem Ap.sqE (a : Ap w W c gp gh gf gm gs gr n us0 m K us vu vb bl ever dims q oc B vo ys vy bs) (s : Sq W W' c c' gf gm) (h' : HtE w W' c' gp gh gf gm m' n us2 K' er us) : ApE w W' c' gp gh gf gm gs gr n us2 m' K' er us vu vb bl ever dims q oc B vo ys vy bs :=
 ⟨h', a.d.sq s, a.oo.row s a.o, (a.oo.step s).1, ownK a.own fun b e => ((a.wo b e).step s).2, fun b e => ((a.wo b e).step s).1, a.far.keep a.inn h'.o.pl.below fun _ ho _ _ _ => (ho.step s).2, a.far.sq s, a.lb, a.ly⟩
theorem ApE.ownIn (a : ApE w W c gp gh gf gm gs gr n us2 m K er us vu vb bl ever dims q oc B vo bs vy bs) : SliceIn W vo bs := BOwn.slice a.own a.inn.lt256 a.inn.len_max
theorem ApE.tick (a : ApE w W c gp gh gf gm gs gr n us2 m K er us vu vb bl ever dims q oc B vo ys vy bs) (hc : Ch (· = gs) W W') (hr : Row W' gs 38 (scells gp gh gr (ever' : Nat) (dims : Nat))) : ApE w W' c gp gh gf gm gs gr n us2 m K er us vu vb bl ever' dims q oc B vo ys vy bs :=
 ⟨a.h.own hc (fun _ _ e => e ▸ a.d.os), ⟨hr, a.d.os.bel hc.size, a.d.r.kept fun b ho hb => ⟨hc.block b ho.2.1 (a.d.r.ne a.d.row hb), ho.bel hc.size⟩⟩, hc.row (row_ne a.o a.d.row (by decide)) a.o, a.oo.bel hc.size, ownK a.own fun b e => hc.block b (World.ownsRow.lt a.own b e).2 (fun e' => own_ne a.own (e' ▸ e) a.d.row (by decide)), fun b e => (a.wo b e).bel hc.size, a.far.keep a.inn (a.h.own hc (fun _ _ e => e ▸ a.d.os)).o.pl.below fun b ho hn _ _ => hc.block b ho.2.1 hn, a.far.bel hc.size, a.lb, a.ly⟩
theorem Sd.tick (d : Sd w W c gp gh gf gm gs gr n us vu vb bl ever dims) (hc : Ch (· = gs) W W') (hr : Row W' gs 38 (scells gp gh gr (ever' : Nat) (dims' : Nat))) : Sd w W' c gp gh gf gm gs gr n us vu vb bl ever' dims' :=
 ⟨hr, d.os.bel hc.size, d.r.kept fun b ho hb => ⟨hc.block b ho.2.1 (d.r.ne d.row hb), ho.bel hc.size⟩⟩
theorem Cl.own {S : Nat → Prop} (h : Cl w W c gp m n us K) (hc : Ch S W W') (hS : ∀ q, q < W.heap.size → S q → Out w W c gh gf gm q) : Cl w W' c gp m n us K := ⟨h.pl.own hc (fun q hq e => ⟨(hS q hq e).1, (hS q hq e).2.2.1⟩), h.on, h.wt, h.held, h.apt⟩
end
/-- what Fit and Append tell, whatever the fuse -/
def ApR4 (k : Nat) (us : List (Nat × List Nat)) (bs : List Nat) (xw : Pq) (fb : Bool) (xa : Pq) (er : Int) (us2 : List (Nat × List Nat)) : Prop :=
 (512 < bs.length ∧ er = 5 ∧ xa = zP ∧ us2 = us) ∨ (bs.length ≤ 512 ∧ fb = false ∧ (∀ a, ¬ Room1 k (us.map plc) a (costN bs.length)) ∧ er = 3 ∧ xa = zP ∧ us2 = us) ∨ (bs.length ≤ 512 ∧ fb = true ∧ ∃ a, Fits k (us.map plc) a (costN bs.length) ∧ xw = toP (a, bs) ∧ er = 0 ∧ xa = toP (a, bs) ∧ us2 = us ++ [(a, bs)]) ∨ (bs.length ≤ 512 ∧ fb = true ∧ ∃ a, xw = toP (a, bs) ∧ er = 2 ∧ xa = zP ∧ us2 = us)
theorem fits_one {k : Nat} {us : List (Nat × Nat)} {a b n : Nat} (h : Fits k us a n) (h' : Fits k us b n) : a = b := by
 rcases Nat.lt_trichotomy a b with q | q | q
 ·exact absurd h.1 (h'.2 a q)
 ·exact q
 ·exact absurd h'.1 (h.2 b q)
theorem appRF {w W : World} {c : Nat → Colour} {gp gh gf gm n K : Nat} {m : Pl} {us : List (Nat × List Nat)} (h : HtW w W c gp gh gf gm m n us K) (hK : K ≤ 1000000000000) (v : Value) (bs : List Nat) (hin : SliceIn W v bs) {xw : Pq} {fb : Bool} (hx : FitR (n / 16) us bs xw fb) : Calls Tryd.prog 21 #[ptr gh, v] W fun e W' => ∃ c' m' xa er us2, e = .returned (.tuple #[.agg xa.cells.toArray, .int .i64 er]) ∧ Sq W W' c c' gf gm ∧ HtE w W' c' gp gh gf gm m' n us2 (K + 20) er us ∧ ApR4 (n / 16) us bs xw fb xa er us2 := by
 rcases Nat.lt_or_ge 512 bs.length with hl | hl
 ·refine (appendH_long W gh v bs hin hl).mono ?_
  rintro e W' ⟨rfl, hb⟩
  have hh := (h.bel hb).mono (show K ≤ K + 20 by omega)
  exact ⟨c, m, zP, 5, us, rfl, ⟨fun _ _ => rfl, Ch.of_below hb⟩, ⟨hh.hto, fun _ => hh, fun e => absurd e (by decide)⟩, Or.inl ⟨hl, rfl, rfl, rfl⟩⟩
 ·refine (h.append hK v bs hin hl).mono ?_
  rintro e W' ⟨c', hs, ⟨h1, rfl, hh⟩ | ⟨a, m', h1, rfl, _, hh⟩ | ⟨a, m', h1, _, rfl, h2, h3, h4⟩⟩
  ·rcases hx with ⟨_, a, h5, _⟩ | ⟨hb, _, _⟩
   ·exact absurd h5.1 (h1 a)
   ·have hh := hh.mono (show K ≤ K + 20 by omega)
    exact ⟨c', m, zP, 3, us, rfl, hs, ⟨hh.hto, fun _ => hh, fun e => absurd e (by decide)⟩, Or.inr (Or.inl ⟨hl, hb, h1, rfl, rfl, rfl⟩)⟩
  ·rcases hx with ⟨hb, a', h5, h6⟩ | ⟨_, h5, _⟩
   ·obtain rfl := fits_one h1 h5
    exact ⟨c', m', toP (a, bs), 0, _, rfl, hs, ⟨hh.hto, fun _ => hh, fun e => absurd e (by decide)⟩, Or.inr (Or.inr (Or.inl ⟨hl, hb, a, h1, h6, rfl, rfl, rfl⟩))⟩
   ·exact absurd h1.1 (h5 a)
  ·rcases hx with ⟨hb, a', h5, h6⟩ | ⟨_, h5, _⟩
   ·have hlt := h.lt
    have hz := hs.ch.size
    exact ⟨c', m', zP, 2, us, rfl, hs, ⟨⟨h3, by omega⟩, fun e => absurd rfl e, fun _ => ⟨h2, h4⟩⟩, Or.inr (Or.inr (Or.inr ⟨hl, hb, a', h6, rfl, rfl, rfl⟩))⟩
   ·exact absurd h1.1 (h5 a)
theorem keepIn {w W : World} {c : Nat → Colour} {gp n K : Nat} {m : Pl} (h : PlW w W c gp m n K) {v : Value} {ks : List Int} (hk : IntsIn w v ks) : KeepIn W c 2 v ks := by
 obtain ⟨p, cap, h1, h2, h3, h4⟩ := hk
 refine ⟨p, cap, h1, h2, h3, ?_⟩
 by_cases h0 : ks = []
 ·exact Or.inl h0
 ·rcases h4 with h4 | ⟨b, off, h5, h6⟩
  ·exact Or.inl h4
  ·have hl : 0 < ks.length := List.length_pos_iff.2 h0
   have hb : b < w.heap.size := by
    rcases Nat.lt_or_ge b w.heap.size with q | q
    ·exact q
    ·have h7 := h6 0 hl
     simp [World.cell?, Array.getElem?_eq_none q] at h7
   exact Or.inr ⟨b, off, h5, (by rw [h.cc b hb]; decide), Nat.lt_of_lt_of_le hb h.below.size, fun j hj => cell_later h.below (h6 j hj)⟩
/-- a stand, with all that it has -/
def Std (w W : World) (gp gs gr n K E : Nat) : Prop := ∃ (c : Nat → Colour) (gh gf gm : Nat) (m : Pl) (us : List (Nat × List Nat)) (vu vb : Value) (bl : List Value) (ever dims : Nat), HtW w W c gp gh gf gm m n us K ∧ Sd w W c gp gh gf gm gs gr n us vu vb bl ever dims ∧ RoomInv (n / 16) (us.map plc) ever ∧ ever ≤ E ∧ dims ≤ E ∧ 4096 ≤ K
theorem Std.bel {w W W' : World} {gp gs gr n K E : Nat} (h : Std w W gp gs gr n K E) (hb : Below W.heap.size W W') : Std w W' gp gs gr n K E := by
 obtain ⟨c, gh, gf, gm, m, us, vu, vb, bl, ever, dims, h1, h2, h3⟩ := h
 exact ⟨c, gh, gf, gm, m, us, vu, vb, bl, ever, dims, h1.bel hb, h2.bel hb, h3⟩
set_option maxHeartbeats 4000000 in
set_option maxRecDepth 100000 in
theorem sappendF_any {w W : World} {c : Nat → Colour} {gp gh gf gm gs gr n K : Nat} {m : Pl} {us : List (Nat × List Nat)} {vu vb : Value} {bl : List Value} {ever dims : Nat} (h : HtW w W c gp gh gf gm m n us K) (d : Sd w W c gp gh gf gm gs gr n us vu vb bl ever dims) (hK0 : 4096 ≤ K) (hK : K + 20 ≤ 1000000000000) (E : Nat) (hev : ever ≤ E) (hdm : dims ≤ E) (hE : E ≤ 1000000000000) (hR : RoomInv (n / 16) (us.map plc) ever) (vy : Value) (bs : List Nat) (hin : SliceIn W vy bs) (hfar : Far w W c gh gf gm gs gr vu vb vy bs) (hl : bs.length ≤ 100000000) (oc : List Value) (hoc : oc[2]? = some vy) (vk : Value) (ks : List Int) (hkp : oc[7]? = some vk ∧ IntsIn w vk ks) : Calls Tryd.prog 23 #[ptr gs, .agg oc.toArray] W fun e w' => e = .returned (.bool true) ∧ Std w w' gp gs gr n (K + 20) (E + 10) := by
 have HM : Hid ((HtW w W c gp gh gf gm m n us K) ∧ (Sd w W c gp gh gf gm gs gr n us vu vb bl ever dims) ∧ SliceIn W vy bs ∧ Far w W c gh gf gm gs gr vu vb vy bs ∧ oc[2]? = some vy ∧ RoomInv (n / 16) (us.map plc) ever ∧ (oc[7]? = some vk ∧ IntsIn w vk ks)) := ⟨h, d, hin, hfar, hoc, hR, hkp⟩
 have hn := h.pl.hn
 have hul := h.ok.2
 clear h d hin hfar hoc hR hkp
 obtain ⟨B, hB⟩ : ∃ B, B = W.heap.size := ⟨_, rfl⟩
 have HBB : Hid (B = W.heap.size) := hB
 obtain ⟨bt, hbt⟩ : ∃ b, b = true := ⟨_, rfl⟩
 have HBT : Hid (bt = true) := hbt
 clear hbt hB
 obtain ⟨PQ, HPQ⟩ := exPQ fun (e : Ending) (w' : World) => e = .returned (.bool true) ∧ Std w w' gp gs gr n (K + 20) (E + 10)
 rw [← HPQ.out]
 go_enter Tryd.func23, Tryd.ntmps23
 go_upto_region 0 with fail
 refine wp_region_lit ?_
 refine wl rfl (ptr W.heap.size) _ (run_boxA (.tmp 1) rfl oc rfl) ?_
 have hb_ := below_alloc W (.cells oc.toArray 33)
 have r_ := Row.new W 33 oc
 obtain ⟨W1, hW_⟩ : ∃ U_ : World, U_ = W.alloc (.cells oc.toArray 33) := ⟨_, rfl⟩
 obtain ⟨q, hq_⟩ : ∃ q, q = W.heap.size := ⟨_, rfl⟩
 rw [← hW_] at hb_
 rw [← hW_, ← hq_] at r_
 rw [← hW_, ← hq_]
 have H1 : Hid (Row W1 q 33 oc ∧ Below W.heap.size W W1 ∧ W.heap.size ≤ q) := ⟨r_, hb_, by omega⟩
 clear r_ hb_ hW_ hq_
 simp only [Act.put, aS, aC, aZ]
 refine wl rfl (.bool false) _ (run_asZ (.const (.bool false)) rfl (.bool false) rfl) ?_
 simp only [Act.put, aS, aC, aZ]
 refine wpList_nil ?_
 go_upto_region 1 with fail
 refine wp_region_lit ?_
 refine wl rfl (.slice (some ⟨W1.heap.size, 0, none⟩) 0 0) _ (run_blit0 rfl) ?_
 have hb_ := below_alloc W1 (.cells #[] 5)
 have p_ := Fr.BOwn.new W1 B (by rw [HBB.out]; exact H1.out.2.1.size)
 obtain ⟨W2, hW_⟩ : ∃ U_ : World, U_ = W1.alloc (.cells #[] 5) := ⟨_, rfl⟩
 obtain ⟨v0, hv_⟩ : ∃ v : Value, v = .slice (some ⟨W1.heap.size, 0, none⟩) 0 0 := ⟨_, rfl⟩
 rw [← hW_] at hb_ p_ ⊢
 rw [← hv_] at p_ ⊢
 have H2 : Hid (Row W2 q 33 oc ∧ Below W.heap.size W W2 ∧ BOwn W2 B v0 []) := ⟨H1.out.1.later hb_ H1.out.1.lt, H1.out.2.1.trans (hb_.mono H1.out.2.1.size), p_⟩
 clear hb_ p_ hW_ hv_
 simp only [Act.put, aS, aC, aZ]
 refine wl rfl (.pointer (some ⟨q, 0 + 2, none⟩)) _ (run_fieldOp' f33_2 (.tmp 3) rfl q (0) rfl) ?_
 refine wl rfl vy _ (run_load1 o28 (.tmp 12) rfl q (0 + 2) rfl vy (H2.out.1.at 2 _ HM.out.2.2.2.2.1)) ?_
 simp only [Act.put, aS, aC, aZ]
 obtain ⟨vo, W3, hr_, ho_, hg_⟩ := run_bappend (w := W2) B 28 v0 vy [] bs H2.out.2.2 (sliceK HM.out.2.2.1 fun b _ hlt => H2.out.2.1.block b hlt) (by have hll : ([] : List Nat).length = 0 := rfl; omega) (by rw [HBB.out]; exact H2.out.2.1.size)
 refine wl rfl vo W3 (run_append (.tmp 11) (.tmp 13) rfl v0 vy vo rfl rfl ((appTy28 _ 28 _ _).trans hr_)) ?_
 have ho2 : BOwn W3 B vo bs := (by simpa using ho_)
 have hb1 : Below B W2 W3 := H2.out.2.2.belowG hg_ (by rw [HBB.out]; exact H2.out.2.1.size)
 have hb2 : Below W.heap.size W W3 := H2.out.2.1.trans (HBB.out ▸ hb1)
 have HA : Hid (Ap w W3 c gp gh gf gm gs gr n us m K us vu vb bl ever dims q oc B vo bs vy bs) := ⟨HM.out.1.bel hb2, HM.out.2.1.bel hb2, (by unfold Row; rw [hg_.block q H2.out.1.lt (fun e => own_ne H2.out.2.2 e.symm H2.out.1 (by decide))]; exact H2.out.1), Out.new HM.out.1 H1.out.2.2 (Nat.lt_of_lt_of_le H2.out.1.lt hb1.size), ho2, fun b e => Out.new HM.out.1 (HBB.out ▸ (World.ownsRow.lt ho2 b e).1) (World.ownsRow.lt ho2 b e).2, sliceK HM.out.2.2.1 fun b _ hlt => hb2.block b hlt, HM.out.2.2.2.1.bel hb2.size, fun b hb => HBB.out ▸ (HM.out.2.1.out hb).2.1, HM.out.2.2.2.1.imp id fun f b e => HBB.out ▸ (f b e).1.2.1⟩
 clear hr_ ho_ hg_ ho2 hb1 hb2
 simp only [Act.put, aS, aC, aZ]
 refine wl rfl vo _ (run_asZ (.tmp 14) rfl vo rfl) ?_
 simp only [Act.put, aS, aC, aZ]
 refine wpList_nil ?_
 have HBS : Hid (B ≤ W3.heap.size ∧ B ≤ q) := ⟨Nat.le_of_lt (Nat.lt_of_le_of_lt (by rw [HBB.out]; exact H1.out.2.2) HA.out.o.lt), by rw [HBB.out]; exact H1.out.2.2⟩
 have HQB : Hid (B ≤ q) := HBS.out.2
 clear HBS
 go_upto_region 2 with fail
 refine wp_region_held (S := fun X => Row X gs 38 (scells gp gh gr (ever : Nat) (dims : Nat)) ∧ Row X q 33 oc) (by kernel_rfl) ?_
 show wpAnyH _ _ _ _ _ 14 (Array.replicate 14 false) _ _
 obtain ⟨X, hX⟩ : ∃ X : World, X = { W3 with drawn := W3.drawn + 1 } := ⟨_, rfl⟩
 rw [← hX]
 have HBX : Hid (Below W3.heap.size W3 X) := (by rw [hX]; exact ⟨rfl, rfl, rfl, Nat.le_refl _, fun _ _ => rfl⟩)
 replace HA : Hid (Ap w X c gp gh gf gm gs gr n us m K us vu vb bl ever dims q oc B vo bs vy bs) := HA.out.bel HBX.out
 clear HBX
 clear hX
 refine tH 0 16 rfl rfl (gRun rfl (ptr gs) fun _ h => run_mvZ (.tmp 0) rfl (ptr gs) rfl) ⟨HA.out.d.row, HA.out.o⟩ ?_
 refine tH 1 17 rfl rfl (gRun rfl (ptr gs) fun _ h => run_nil (.tmp 16) rfl ⟨gs, 0, none⟩ rfl) ⟨HA.out.d.row, HA.out.o⟩ ?_
 refine tH 2 18 rfl rfl (gRun rfl (.pointer (some ⟨gs, 0 + 2, none⟩)) fun _ h => run_fieldOp' f38_2 (.tmp 17) rfl gs (0) rfl) ⟨HA.out.d.row, HA.out.o⟩ ?_
 refine tH 3 19 rfl rfl (gRun rfl (ptr gr) fun _ h => run_load1 o36 (.tmp 18) rfl gs (0 + 2) rfl (ptr gr) (h.1.at 2 _ rfl)) ⟨HA.out.d.row, HA.out.o⟩ ?_
 simp only [Act.put, aS, aC, aZ]
 refine tH 4 20 rfl rfl (gRun rfl (.pointer (some ⟨q, 0 + 2, none⟩)) fun _ h => run_fieldOp' f33_2 (.tmp 3) rfl q (0) rfl) ⟨HA.out.d.row, HA.out.o⟩ ?_
 refine tH 5 21 rfl rfl (gRun rfl vy fun _ h => run_load1 o28 (.tmp 20) rfl q (0 + 2) rfl vy (h.2.at 2 _ HM.out.2.2.2.2.1)) ⟨HA.out.d.row, HA.out.o⟩ ?_
 refine tH 6 22 rfl rfl (gRun rfl (.int .i64 (bs.length : Nat)) fun _ h => run_lenS HM.out.2.2.1 (.tmp 21) rfl rfl) ⟨HA.out.d.row, HA.out.o⟩ ?_
 simp only [Act.put, aS, aC, aZ]
 refine twoH (i := 7) (j := 11) (by kernel_rfl) ?_ ?_
 ·refine opCallG (some 23) rfl rfl rfl 20 _ (run_call eN20 [.tmp 19, .tmp 22] _ rfl [(ptr gr), (.int .i64 (bs.length : Nat))] rfl) ?_
  refine (fitR HA.out.h HA.out.d.r bs hl).mono ?_
  rintro e Y1 ⟨xw, fb, rfl, hb_, hf_⟩
  refine ⟨_, rfl, ?_⟩
  have HF : Hid (FitR (n / 16) us bs xw fb) := hf_
  replace HA : Hid (Ap w Y1 c gp gh gf gm gs gr n us m K us vu vb bl ever dims q oc B vo bs vy bs) := HA.out.bel hb_
  clear hb_ hf_
  refine ⟨⟨HA.out.d.row, HA.out.o⟩, ?_⟩
  simp only [Act.put, aS, aC, aZ]
  refine tH 8 15 rfl rfl (gRun rfl (.tuple #[(.agg xw.cells.toArray), (.bool fb)]) fun _ h => run_mvZ (.tmp 23) rfl (.tuple #[(.agg xw.cells.toArray), (.bool fb)]) rfl) ⟨HA.out.d.row, HA.out.o⟩ ?_
  refine tH 9 24 rfl rfl (gRun rfl (.agg xw.cells.toArray) fun _ h => run_extZ (.tmp 15) 0 rfl #[(.agg xw.cells.toArray), (.bool fb)] rfl (.agg xw.cells.toArray) rfl) ⟨HA.out.d.row, HA.out.o⟩ ?_
  refine tH 10 25 rfl rfl (gRun rfl (.bool fb) fun _ h => run_extZ (.tmp 15) 1 rfl #[(.agg xw.cells.toArray), (.bool fb)] rfl (.bool fb) rfl) ⟨HA.out.d.row, HA.out.o⟩ ?_
  simp only [Act.put, aS, aC, aZ]
  refine oneH (i := 11) (by kernel_rfl) ?_
  refine opValueG (some 6) rfl rfl rfl (ptr Y1.heap.size) _ (run_allocA (plC 0 0 0 false) zero30 rfl) ?_
  have hb_ := below_alloc Y1 (.cells (plC 0 0 0 false).toArray 30)
  have r_ := Row.new Y1 30 (plC 0 0 0 false)
  obtain ⟨Y2, hW_⟩ : ∃ U_ : World, U_ = Y1.alloc (.cells (plC 0 0 0 false).toArray 30) := ⟨_, rfl⟩
  obtain ⟨q6, hq_⟩ : ∃ q, q = Y1.heap.size := ⟨_, rfl⟩
  rw [← hW_] at hb_
  rw [← hW_, ← hq_] at r_
  rw [← hW_, ← hq_]
  have HQ : Hid (Row Y2 q6 30 (plC 0 0 0 false) ∧ Out w Y2 c gh gf gm q6 ∧ B ≤ q6) := ⟨r_, Out.new HA.out.h (by omega) r_.lt, (by have h1 := HA.out.o.lt; have h2 := HQB.out; omega)⟩
  replace HA : Hid (Ap w Y2 c gp gh gf gm gs gr n us m K us vu vb bl ever dims q oc B vo bs vy bs) := HA.out.bel hb_
  clear r_ hb_ hW_ hq_
  refine ⟨⟨HA.out.d.row, HA.out.o⟩, ?_⟩
  simp only [Act.put, aS, aC, aZ]
  refine oneH (i := 12) (by kernel_rfl) ?_
  refine opSkipZ rfl rfl rfl _ (run_storeA ag30 (.tmp 6) (.tmp 24) rfl q6 30 rfl xw.cells _ rfl rfl HQ.out.1 rfl (plC_one _ _ _ _)) ?_
  have hb_ := (Ch.setRow (S := (· = q6)) (Ch.refl _ Y2) (Or.inl rfl) xw.cells.toArray)
  have r_ := HQ.out.1.setRow xw.cells
  obtain ⟨Y3, hW_⟩ : ∃ U_ : World, U_ = Y2.setRow q6 xw.cells.toArray := ⟨_, rfl⟩
  rw [← hW_] at hb_ r_ ⊢
  replace HA : Hid (Ap w Y3 c gp gh gf gm gs gr n us m K us vu vb bl ever dims q oc B vo bs vy bs) := HA.out.put hb_ HQ.out.2.1 HQ.out.1 HQ.out.2.2
  replace HQ : Hid (Row Y3 q6 30 xw.cells ∧ Out w Y3 c gh gf gm q6 ∧ B ≤ q6) := ⟨r_, HQ.out.2.1.bel hb_.size, HQ.out.2.2⟩
  clear r_ hb_ hW_
  refine ⟨⟨HA.out.d.row, HA.out.o⟩, ?_⟩
  refine tH 13 7 rfl rfl (gRun rfl (.bool fb) fun _ h => run_asZ (.tmp 25) rfl (.bool fb) rfl) ⟨HA.out.d.row, HA.out.o⟩ ?_
  simp only [Act.put, aS, aC, aZ]
  refine wpAnyH_done (by kernel_rfl) ?_ _
  go_upto_region 3 with fail
  refine wp_region_lit ?_
  refine wl rfl (ptr gs) _ (run_mvZ (.tmp 0) rfl (ptr gs) rfl) ?_
  refine wl rfl (ptr gs) _ (run_nil (.tmp 27) rfl ⟨gs, 0, none⟩ rfl) ?_
  refine wl rfl (.pointer (some ⟨gs, 0 + 1, none⟩)) _ (run_fieldOp' f38_1 (.tmp 28) rfl gs (0) rfl) ?_
  refine wl rfl (ptr gh) _ (run_load1 o35 (.tmp 29) rfl gs (0 + 1) rfl (ptr gh) (HA.out.d.row.at 1 _ rfl)) ?_
  simp only [Act.put, aS, aC, aZ]
  refine wl rfl vo _ (run_mvZ (.tmp 5) rfl vo rfl) ?_
  simp only [Act.put, aS, aC, aZ]
  refine wpList_callW eN21 [.tmp 30, .tmp 31] _ rfl rfl [(ptr gh), vo] rfl ?_
  refine (appRF HA.out.h (by omega) vo bs HA.out.ownIn HF.out).mono ?_
  rintro e V1 ⟨c2, m2, xa, er, us2, rfl, hs_, hh_, hr_⟩
  refine ⟨_, rfl, ?_⟩
  have HR : Hid (ApR4 (n / 16) us bs xw fb xa er us2 ∧ True) := ⟨hr_, trivial⟩
  replace HQ : Hid (Row V1 q6 30 xw.cells ∧ Out w V1 c2 gh gf gm q6 ∧ B ≤ q6) := ⟨HQ.out.2.1.row hs_ HQ.out.1, (HQ.out.2.1.step hs_).1, HQ.out.2.2⟩
  have HBS2 : Hid (B ≤ V1.heap.size) := Nat.le_trans (Nat.le_trans HQ.out.2.2 (Nat.le_of_lt HQ.out.2.1.2.1)) (Nat.le_refl _)
  replace HA : Hid (ApE w V1 c2 gp gh gf gm gs gr n us2 m2 (K + 20) er us vu vb bl ever dims q oc B vo bs vy bs) := HA.out.sqE hs_ hh_
  clear hs_ hh_ hr_
  simp only [Act.put, aS, aC, aZ]
  refine wl rfl (.tuple #[(.agg xa.cells.toArray), (.int .i64 er)]) _ (run_mvZ (.tmp 32) rfl (.tuple #[(.agg xa.cells.toArray), (.int .i64 er)]) rfl) ?_
  refine wl rfl (.agg xa.cells.toArray) _ (run_extZ (.tmp 26) 0 rfl #[(.agg xa.cells.toArray), (.int .i64 er)] rfl (.agg xa.cells.toArray) rfl) ?_
  refine wl rfl (.int .i64 er) _ (run_extZ (.tmp 26) 1 rfl #[(.agg xa.cells.toArray), (.int .i64 er)] rfl (.int .i64 er) rfl) ?_
  refine wl rfl (ptr V1.heap.size) _ (run_allocA (plC 0 0 0 false) zero30 rfl) ?_
  have hb_ := below_alloc V1 (.cells (plC 0 0 0 false).toArray 30)
  have r_ := Row.new V1 30 (plC 0 0 0 false)
  obtain ⟨V2, hW_⟩ : ∃ U_ : World, U_ = V1.alloc (.cells (plC 0 0 0 false).toArray 30) := ⟨_, rfl⟩
  obtain ⟨q8, hq_⟩ : ∃ q, q = V1.heap.size := ⟨_, rfl⟩
  rw [← hW_] at hb_
  rw [← hW_, ← hq_] at r_
  rw [← hW_, ← hq_]
  have HQ8 : Hid (Row V2 q8 30 (plC 0 0 0 false) ∧ Out w V2 c2 gh gf gm q8 ∧ B ≤ q8) := ⟨r_, HA.out.h.o.new (by omega) r_.lt, (by have := HBS2.out; omega)⟩
  have HN : Hid (q6 ≠ q8) := (fun e => by have := HQ.out.1.lt; omega)
  replace HQ : Hid (Row V2 q6 30 xw.cells ∧ Out w V2 c2 gh gf gm q6 ∧ B ≤ q6) := ⟨HQ.out.1.later hb_ HQ.out.1.lt, HQ.out.2.1.bel hb_.size, HQ.out.2.2⟩
  replace HA : Hid (ApE w V2 c2 gp gh gf gm gs gr n us2 m2 (K + 20) er us vu vb bl ever dims q oc B vo bs vy bs) := HA.out.bel hb_
  clear r_ hb_ hW_ hq_
  simp only [Act.put, aS, aC, aZ]
  refine wlS rfl rfl _ (run_storeA ag30 (.tmp 8) (.tmp 33) rfl q8 30 rfl xa.cells _ rfl rfl HQ8.out.1 rfl (plC_one _ _ _ _)) ?_
  have hb_ := (Ch.setRow (S := (· = q8)) (Ch.refl _ V2) (Or.inl rfl) xa.cells.toArray)
  have r_ := HQ8.out.1.setRow xa.cells
  obtain ⟨V3, hW_⟩ : ∃ U_ : World, U_ = V2.setRow q8 xa.cells.toArray := ⟨_, rfl⟩
  rw [← hW_] at hb_ r_ ⊢
  replace HA : Hid (ApE w V3 c2 gp gh gf gm gs gr n us2 m2 (K + 20) er us vu vb bl ever dims q oc B vo bs vy bs) := HA.out.put hb_ HQ8.out.2.1 HQ8.out.1 HQ8.out.2.2
  have HQQ : Hid (Row V3 q6 30 xw.cells ∧ Row V3 q8 30 xa.cells ∧ B ≤ q6 ∧ B ≤ q8) := ⟨hb_.row HN.out HQ.out.1, r_, HQ.out.2.2, HQ8.out.2.2⟩
  clear r_ hb_ hW_ HQ HQ8 HN
  refine wl rfl (.int .i64 er) _ (run_asZ (.tmp 34) rfl (.int .i64 er) rfl) ?_
  simp only [Act.put, aS, aC, aZ]
  refine wpList_nil ?_
  go_upto_region 4 with fail
  refine wp_region_lit ?_
  refine wl rfl vo _ (run_mvZ (.tmp 5) rfl vo rfl) ?_
  refine wl rfl (.string (strOfNums (bs.map Int.ofNat))) _ (run_str (.tmp 35) rfl vo bs rfl HA.out.ownIn) ?_
  refine wl rfl (.pointer (some ⟨q, 0 + 2, none⟩)) _ (run_fieldOp' f33_2 (.tmp 3) rfl q (0) rfl) ?_
  refine wl rfl vy _ (run_load1 o28 (.tmp 37) rfl q (0 + 2) rfl vy (HA.out.o.at 2 _ HM.out.2.2.2.2.1)) ?_
  simp only [Act.put, aS, aC, aZ]
  refine wl rfl (.string (strOfNums (bs.map Int.ofNat))) _ (run_str (.tmp 38) rfl vy bs rfl HA.out.inn) ?_
  refine wl rfl (.bool false) _ (run_neS (.tmp 36) (.tmp 39) rfl (strOfNums (bs.map Int.ofNat)) rfl rfl) ?_
  simp only [Act.put, aS, aC, aZ]
  refine wpList_nil ?_
  go_upto_region 6 with fail
  refine wp_region_lit ?_
  refine wl rfl (.int .i64 0) _ (run_asZ (.const (.int .i64 0)) rfl (.int .i64 0) rfl) ?_
  simp only [Act.put, aS, aC, aZ]
  refine wpList_nil ?_
  go_wp2_with fail
  go_loopw [10] (fun vk W => ∃ k : Nat, vk = .int .i64 (k : Nat) ∧ k ≤ bs.length ∧ ∃ ys : List Nat, Hid (ys.length = bs.length ∧ (ApE w W c2 gp gh gf gm gs gr n us2 m2 (K + 20) er us vu vb bl ever dims q oc B vo ys vy bs) ∧ Row W q6 30 xw.cells ∧ Row W q8 30 xa.cells)) (fun vk _ => bs.length - (intOf vk).toNat)
  case atStart => exact ⟨0, rfl, Nat.zero_le _, bs, ⟨rfl, HA.out, HQQ.out.1, HQQ.out.2.1⟩⟩
  case round =>
   obtain ⟨k, rfl, hk, ys, HI⟩ := hrel
   by_cases hlt : k < bs.length
   ·go_upto_region 7 with fail
    refine wp_region_lit ?_
    refine wl rfl (.int .i64 (k : Nat)) _ (run_mvZ (.tmp 10) rfl (.int .i64 (k : Nat)) rfl) ?_
    refine wl rfl vo _ (run_mvZ (.tmp 5) rfl vo rfl) ?_
    refine wl rfl (.int .i64 (bs.length : Nat)) _ (run_lenBO HI.out.2.1.own HI.out.1 (.tmp 42) rfl rfl) ?_
    refine wl rfl (.bool true) _ (run_lssZ (.tmp 41) (.tmp 43) rfl (k : Nat) (bs.length : Nat) rfl rfl true (decide_eq_true (by omega))) ?_
    simp only [Act.put, aS, aC, aZ]
    refine wpList_nil ?_
    obtain ⟨sb, cur, hsb, hix, hrow, hcl, hset⟩ := spoil HI.out.2.1.own k (by rw [HI.out.1]; exact hlt)
    have HSP : Hid ((∀ w', (Instr.indexAt 28 vo (.int .i64 (k : Nat))).run Tryd.prog w' = .ok (.pointer (some ⟨sb, k, none⟩)) w') ∧ Row wr sb 5 cur ∧ vo.ownBlock = some sb ∧ BOwn (wr.setCell ⟨sb, k, none⟩ (.int .u8 ((99 : Nat) : Int))) B vo (ys.set k 99)) := ⟨hix, hrow, hsb, hset 99⟩
    clear hsb hix hrow hset
    go_upto_region 9 with fail
    refine wp_region_lit ?_
    refine wl rfl vo _ (run_mvZ (.tmp 5) rfl vo rfl) ?_
    refine wl rfl (.int .i64 (k : Nat)) _ (run_mvZ (.tmp 10) rfl (.int .i64 (k : Nat)) rfl) ?_
    refine wl rfl (.pointer (some ⟨sb, k, none⟩)) _ (run_idx (.tmp 47) (.tmp 48) rfl _ _ _ rfl rfl HSP.out.1) ?_
    simp only [Act.put, aS, aC, aZ]
    refine wlS rfl rfl _ (run_putRow (t := 5) info5 (.tmp 49) (.const (.int .u8 99)) rfl sb k 5 cur rfl (.int .u8 99) rfl ⟨rfl, rfl⟩ HSP.out.2.1 hcl) ?_
    have HZ : Hid ((ys.set k 99).length = bs.length ∧ (ApE w (wr.setCell ⟨sb, k, none⟩ (.int .u8 ((99 : Nat) : Int))) c2 gp gh gf gm gs gr n us2 m2 (K + 20) er us vu vb bl ever dims q oc B vo (ys.set k 99) vy bs) ∧ Row (wr.setCell ⟨sb, k, none⟩ (.int .u8 ((99 : Nat) : Int))) q6 30 xw.cells ∧ Row (wr.setCell ⟨sb, k, none⟩ (.int .u8 ((99 : Nat) : Int))) q8 30 xa.cells) := ⟨(by rw [List.length_set]; exact HI.out.1), HI.out.2.1.spoil HSP.out.2.2.1 HSP.out.2.1 HSP.out.2.2.2, Row.setCell_other HI.out.2.2.1 (row_ne HI.out.2.2.1 HSP.out.2.1 (by decide)) _ _, Row.setCell_other HI.out.2.2.2 (row_ne HI.out.2.2.2 HSP.out.2.1 (by decide)) _ _⟩
    obtain ⟨wz, hW_⟩ : ∃ U_ : World, U_ = wr.setCell ⟨sb, k, none⟩ (.int .u8 99) := ⟨_, rfl⟩
    replace HZ : Hid ((ys.set k 99).length = bs.length ∧ (ApE w wz c2 gp gh gf gm gs gr n us2 m2 (K + 20) er us vu vb bl ever dims q oc B vo (ys.set k 99) vy bs) ∧ Row wz q6 30 xw.cells ∧ Row wz q8 30 xa.cells) := (by rw [hW_]; exact HZ.out)
    rw [← hW_]
    clear hW_
    refine wpList_nil ?_
    go_wp2_with fail
    refine ⟨⟨k + 1, by go_num, by omega, ys.set k 99, HZ⟩, ?_⟩
    simp [intOf]; omega
   ·go_upto_region 7 with fail
    refine wp_region_lit ?_
    refine wl rfl (.int .i64 (k : Nat)) _ (run_mvZ (.tmp 10) rfl (.int .i64 (k : Nat)) rfl) ?_
    refine wl rfl vo _ (run_mvZ (.tmp 5) rfl vo rfl) ?_
    refine wl rfl (.int .i64 (bs.length : Nat)) _ (run_lenBO HI.out.2.1.own HI.out.1 (.tmp 42) rfl rfl) ?_
    refine wl rfl (.bool false) _ (run_lssZ (.tmp 41) (.tmp 43) rfl (k : Nat) (bs.length : Nat) rfl rfl false (decide_eq_false (by omega))) ?_
    simp only [Act.put, aS, aC, aZ]
    refine wpList_nil ?_
    obtain ⟨V4, hV4⟩ : ∃ U_ : World, U_ = wr := ⟨_, rfl⟩
    rw [← hV4]
    have HA4 : Hid ((ApE w V4 c2 gp gh gf gm gs gr n us2 m2 (K + 20) er us vu vb bl ever dims q oc B vo ys vy bs) ∧ Row V4 q6 30 xw.cells ∧ Row V4 q8 30 xa.cells) := (by rw [hV4]; exact HI.out.2)
    clear HI hV4 HA
    rcases HR.out.1 with ⟨hlen, rfl, rfl, hu2⟩ | ⟨hlen, rfl, hfull, rfl, rfl, hu2⟩ | ⟨hlen, rfl, a, hfit, rfl, rfl, rfl, rfl⟩ | ⟨hlen, rfl, a, rfl, rfl, rfl, hu2⟩
    ·have hu3 := hu2.symm
     subst hu3
     go_upto_region 10 with fail
     refine wp_region_lit ?_
     refine wl rfl (.pointer (some ⟨q, 0 + 2, none⟩)) _ (run_fieldOp' f33_2 (.tmp 3) rfl q (0) rfl) ?_
     refine wl rfl vy _ (run_load1 o28 (.tmp 50) rfl q (0 + 2) rfl vy (HA4.out.1.o.at 2 _ HM.out.2.2.2.2.1)) ?_
     refine wl rfl (.int .i64 (bs.length : Nat)) _ (run_lenS HA4.out.1.inn (.tmp 51) rfl rfl) ?_
     refine wl rfl (.bool true) _ (run_gtrZ (.tmp 52) (.const (.int .i64 512)) rfl (bs.length : Nat) 512 rfl rfl true (decide_eq_true (by omega))) ?_
     simp only [Act.put, aS, aC, aZ]
     refine wpList_nil ?_
     go_upto_region 11 with fail
     refine wp_region_lit ?_
     refine wl rfl (.int .i64 5) _ (run_mvZ (.tmp 9) rfl (.int .i64 5) rfl) ?_
     refine wl rfl (.bool bt) _ ((by rw [HBT.out]; exact run_eqZ (.tmp 54) (.const (.int .i64 5)) rfl 5 5 rfl rfl true rfl)) ?_
     refine wl rfl (.bool bt) _ (run_mvZ (.tmp 55) rfl (.bool bt) rfl) ?_
     refine wl (by rw [HBT.out]; kernel_rfl) (.agg (zP.cells).toArray) _ (run_loadA ag30 (.tmp 8) rfl q8 (0) rfl (zP.cells) rfl (rows_one HA4.out.2.2)) ?_
     simp only [Act.put, aS, aC, aZ]
     refine wl (by rw [HBT.out]; kernel_rfl) (.agg (plC 0 0 0 false).toArray) _ (run_build30z rfl) ?_
     refine wl (by rw [HBT.out]; kernel_rfl) (.bool bt) _ ((by rw [HBT.out]; exact run_eqPl (.tmp 57) (.tmp 58) rfl 0 0 0 0 0 0 false false rfl rfl true (by simp))) ?_
     refine wl rfl (.bool bt) _ (run_pickZ (.tmp 56) (.tmp 59) (.const (.bool false)) rfl bt (.bool bt) rfl (by rw [HBT.out]; rfl)) ?_
     refine wl rfl (.bool bt) _ (run_asZ (.tmp 60) rfl (.bool bt) rfl) ?_
     simp only [Act.put, aS, aC, aZ]
     refine wpList_nil ?_
     obtain rfl : bt = true := HBT.out
     go_wp2_with fail
     rw [HPQ.out]
     exact ⟨rfl, c2, gh, gf, gm, m2, us, vu, vb, bl, ever, dims, HA4.out.1.h.on (by decide), HA4.out.1.d, HM.out.2.2.2.2.2.1, by omega, by omega, by omega⟩
    ·have hu3 := hu2.symm
     subst hu3
     go_upto_region 10 with fail
     refine wp_region_lit ?_
     refine wl rfl (.pointer (some ⟨q, 0 + 2, none⟩)) _ (run_fieldOp' f33_2 (.tmp 3) rfl q (0) rfl) ?_
     refine wl rfl vy _ (run_load1 o28 (.tmp 50) rfl q (0 + 2) rfl vy (HA4.out.1.o.at 2 _ HM.out.2.2.2.2.1)) ?_
     refine wl rfl (.int .i64 (bs.length : Nat)) _ (run_lenS HA4.out.1.inn (.tmp 51) rfl rfl) ?_
     refine wl rfl (.bool false) _ (run_gtrZ (.tmp 52) (.const (.int .i64 512)) rfl (bs.length : Nat) 512 rfl rfl false (decide_eq_false (by omega))) ?_
     simp only [Act.put, aS, aC, aZ]
     refine wpList_nil ?_
     go_upto_region 12 with fail
     refine wp_region_until (S := fun X => Row X gs 38 (scells gp gh gr (ever : Nat) (dims : Nat)) ∧ Row X q 33 oc) 12 (by kernel_rfl) ?_
     show wpAnyU _ _ _ _ _ _ 13 (Array.replicate 13 false) _ _
     obtain ⟨X, hX⟩ : ∃ X : World, X = { V4 with drawn := V4.drawn + 1 } := ⟨_, rfl⟩
     rw [← hX]
     have HBX : Hid (Below V4.heap.size V4 X) := (by rw [hX]; exact ⟨rfl, rfl, rfl, Nat.le_refl _, fun _ _ => rfl⟩)
     replace HA4 : Hid ((ApE w X c2 gp gh gf gm gs gr n us m2 (K + 20) 3 us vu vb bl ever dims q oc B vo ys vy bs) ∧ Row X q6 30 xw.cells ∧ Row X q8 30 zP.cells) := ⟨HA4.out.1.bel HBX.out, HA4.out.2.1.later HBX.out HA4.out.2.1.lt, HA4.out.2.2.later HBX.out HA4.out.2.2.lt⟩
     clear HBX
     have HS_ : Row X gs 38 (scells gp gh gr (ever : Nat) (dims : Nat)) ∧ Row X q 33 oc := ⟨HA4.out.1.d.row, HA4.out.1.o⟩
     clear hX
     refine tV 0 [12] 61 rfl rfl (gRun rfl (ptr gs) fun _ h => run_mvZ (.tmp 0) rfl (ptr gs) rfl) HS_ ?_
     refine tV 1 [12] 62 rfl rfl (gRun rfl (ptr gs) fun _ h => run_mvZ (.tmp 0) rfl (ptr gs) rfl) HS_ ?_
     refine tV 2 [12] 63 rfl rfl (gRun rfl (ptr gs) fun _ h => run_nil (.tmp 62) rfl ⟨gs, 0, none⟩ rfl) HS_ ?_
     refine tV 3 [12] 64 rfl rfl (gRun rfl (.pointer (some ⟨gs, 0 + 3, none⟩)) fun _ h => run_fieldOp' f38_3 (.tmp 63) rfl gs (0) rfl) HS_ ?_
     simp only [Act.put, aS, aC, aZ]
     refine tV 4 [12] 65 rfl rfl (gRun rfl (.int .i64 (ever : Nat)) fun _ h => run_load1 o3 (.tmp 64) rfl gs (0 + 3) rfl (.int .i64 (ever : Nat)) (h.1.at 3 _ rfl)) HS_ ?_
     refine tV 5 [12] 66 rfl rfl (gRun rfl (.pointer (some ⟨q, 0 + 2, none⟩)) fun _ h => run_fieldOp' f33_2 (.tmp 3) rfl q (0) rfl) HS_ ?_
     refine tV 6 [12] 67 rfl rfl (gRun rfl vy fun _ h => run_load1 o28 (.tmp 66) rfl q (0 + 2) rfl vy (h.2.at 2 _ HM.out.2.2.2.2.1)) HS_ ?_
     refine tV 7 [12] 68 rfl rfl (gRun rfl (.int .i64 (bs.length : Nat)) fun _ h => run_lenS HM.out.2.2.1 (.tmp 67) rfl rfl) HS_ ?_
     simp only [Act.put, aS, aC, aZ]
     refine oneU (i := 8) (by kernel_rfl) ?_
     refine opCallG (some 69) rfl rfl rfl 22 _ (run_call eN22 [.tmp 68] _ rfl [(.int .i64 (bs.length : Nat))] rfl) ?_
     refine (rcost_any X bs.length (by omega)).mono ?_
     rintro e X_ ⟨rfl, rfl⟩
     refine ⟨_, rfl, ?_⟩
     refine ⟨fun _ => HS_, ?_⟩
     simp only [Act.put, aS, aC, aZ]
     refine tV 9 [12] 70 rfl rfl (gRun rfl (.int .i64 ((ever + costN bs.length) : Nat)) fun _ h => run_addZ (.tmp 65) (.tmp 69) rfl (ever : Nat) (costN bs.length : Nat) _ rfl rfl (by omega) (by omega) (by have := (costN_le hlen).2; omega)) HS_ ?_
     refine tV 10 [11, 12] 71 rfl rfl (gRun rfl (ptr gs) fun _ h => run_nil (.tmp 61) rfl ⟨gs, 0, none⟩ rfl) HS_ ?_
     refine tV 11 [12] 72 rfl rfl (gRun rfl (.pointer (some ⟨gs, 0 + 3, none⟩)) fun _ h => run_fieldOp' f38_3 (.tmp 71) rfl gs (0) rfl) HS_ ?_
     simp only [Act.put, aS, aC, aZ]
     refine oneU (i := 12) (by kernel_rfl) ?_
     refine opSkipZ rfl rfl rfl _ (run_putRow (t := 3) sz3 (.tmp 72) (.tmp 70) rfl gs (0 + 3) 38 _ rfl (.int .i64 ((ever + costN bs.length) : Nat)) rfl ⟨rfl, rfl⟩ HS_.1 (by decide : 0 + 3 < 5)) ?_
     refine ⟨(fun h => absurd (show true = false from h) (by decide)), ?_⟩
     have hb_ := (Ch.refl (· = gs) X).setCell (Or.inl rfl) (0 + 3) (.int .i64 ((ever + costN bs.length) : Nat))
     have r_ := HS_.1.setCell (0 + 3) (.int .i64 ((ever + costN bs.length) : Nat))
     obtain ⟨V5, hW_⟩ : ∃ U_ : World, U_ = X.setCell ⟨gs, 0 + 3, none⟩ (.int .i64 ((ever + costN bs.length) : Nat)) := ⟨_, rfl⟩
     rw [← hW_] at hb_ r_ ⊢
     have HA5 : Hid ((ApE w V5 c2 gp gh gf gm gs gr n us m2 (K + 20) 3 us vu vb bl (ever + costN bs.length) dims q oc B vo ys vy bs) ∧ Row V5 q6 30 xw.cells ∧ Row V5 q8 30 zP.cells) := ⟨HA4.out.1.tick hb_ r_, hb_.row (row_ne HA4.out.2.1 HA4.out.1.d.row (by decide)) HA4.out.2.1, hb_.row (row_ne HA4.out.2.2 HA4.out.1.d.row (by decide)) HA4.out.2.2⟩
     clear hb_ r_ hW_ HA4 HS_
     refine wpAnyU_done (by kernel_rfl) ?_ _
     go_upto_region 13 with fail
     refine wp_region_lit ?_
     refine wl rfl (.bool false) _ (run_mvZ (.tmp 7) rfl (.bool false) rfl) ?_
     refine wl rfl (.bool true) _ (run_not (.tmp 73) 4 rfl false rfl) ?_
     simp only [Act.put, aS, aC, aZ]
     refine wpList_nil ?_
     have hf8 := HM.out.2.2.2.2.2.1.full (fun u hu => ⟨(HM.out.1.ok.1 u hu).1, (HM.out.1.ok.1 u hu).2.1⟩) (costN_le hlen).2 hfull
     have hc1 := costN_le hlen
     go_upto_region 14 with fail
     refine wp_region_held (S := fun X => Row X gs 38 (scells gp gh gr ((ever + costN bs.length) : Nat) (dims : Nat)) ∧ Row X gr 60 [.int .i64 1, .int .i64 (n : Nat), vu, vb] ∧ Row X q8 30 zP.cells) (by kernel_rfl) ?_
     show wpAnyH _ _ _ _ _ 24 (Array.replicate 24 false) _ _
     obtain ⟨X, hX⟩ : ∃ X : World, X = { V5 with drawn := V5.drawn + 1 } := ⟨_, rfl⟩
     rw [← hX]
     have HBX : Hid (Below V5.heap.size V5 X) := (by rw [hX]; exact ⟨rfl, rfl, rfl, Nat.le_refl _, fun _ _ => rfl⟩)
     replace HA5 : Hid ((ApE w X c2 gp gh gf gm gs gr n us m2 (K + 20) 3 us vu vb bl (ever + costN bs.length) dims q oc B vo ys vy bs) ∧ Row X q6 30 xw.cells ∧ Row X q8 30 zP.cells) := ⟨HA5.out.1.bel HBX.out, HA5.out.2.1.later HBX.out HA5.out.2.1.lt, HA5.out.2.2.later HBX.out HA5.out.2.2.lt⟩
     clear HBX
     have HS_ : Row X gs 38 (scells gp gh gr ((ever + costN bs.length) : Nat) (dims : Nat)) ∧ Row X gr 60 [.int .i64 1, .int .i64 (n : Nat), vu, vb] ∧ Row X q8 30 zP.cells := ⟨HA5.out.1.d.row, HA5.out.1.d.r.row, HA5.out.2.2⟩
     clear hX
     refine tH 0 75 rfl rfl (gRun rfl (.int .i64 3) fun _ h => run_mvZ (.tmp 9) rfl (.int .i64 3) rfl) HS_ ?_
     refine tH 1 76 rfl rfl (gRun rfl (.bool true) fun _ h => run_eqZ (.tmp 75) (.const (.int .i64 3)) rfl (3) (3) rfl rfl true rfl) HS_ ?_
     refine tH 2 77 rfl rfl (gRun rfl (.bool true) fun _ h => run_mvZ (.tmp 76) rfl (.bool true) rfl) HS_ ?_
     refine tH 3 78 rfl rfl (gRun (by kernel_rfl) (.agg (zP.cells).toArray) fun _ h => run_loadA ag30 (.tmp 8) rfl q8 (0) rfl (zP.cells) rfl (rows_one h.2.2)) HS_ ?_
     simp only [Act.put, aS, aC, aZ]
     refine tH 4 79 rfl rfl (gRun (by kernel_rfl) (.agg (plC 0 0 0 false).toArray) fun _ h => run_build30z rfl) HS_ ?_
     refine tH 5 80 rfl rfl (gRun (by kernel_rfl) (.bool true) fun _ h => run_eqPl (.tmp 78) (.tmp 79) rfl 0 0 0 0 0 0 false false rfl rfl true (by simp)) HS_ ?_
     refine tH 6 81 rfl rfl (gRun rfl (.bool true) fun _ h => run_pickZ (.tmp 77) (.tmp 80) (.const (.bool false)) rfl true (.bool true) rfl rfl) HS_ ?_
     refine tH 7 82 rfl rfl (gRun rfl (.bool true) fun _ h => run_mvZ (.tmp 81) rfl (.bool true) rfl) HS_ ?_
     simp only [Act.put, aS, aC, aZ]
     refine tH 8 83 rfl rfl (gRun (by kernel_rfl) (ptr gs) fun _ h => run_mvZ (.tmp 0) rfl (ptr gs) rfl) HS_ ?_
     refine tH 9 84 rfl rfl (gRun (by kernel_rfl) (ptr gs) fun _ h => run_nil (.tmp 83) rfl ⟨gs, 0, none⟩ rfl) HS_ ?_
     refine tH 10 85 rfl rfl (gRun (by kernel_rfl) (.pointer (some ⟨gs, 0 + 3, none⟩)) fun _ h => run_fieldOp' f38_3 (.tmp 84) rfl gs (0) rfl) HS_ ?_
     refine tH 11 86 rfl rfl (gRun (by kernel_rfl) (.int .i64 ((ever + costN bs.length) : Nat)) fun _ h => run_load1 o3 (.tmp 85) rfl gs (0 + 3) rfl (.int .i64 ((ever + costN bs.length) : Nat)) (h.1.at 3 _ rfl)) HS_ ?_
     simp only [Act.put, aS, aC, aZ]
     refine tH 12 87 rfl rfl (gRun (by kernel_rfl) (ptr gs) fun _ h => run_mvZ (.tmp 0) rfl (ptr gs) rfl) HS_ ?_
     refine tH 13 88 rfl rfl (gRun (by kernel_rfl) (ptr gs) fun _ h => run_nil (.tmp 87) rfl ⟨gs, 0, none⟩ rfl) HS_ ?_
     refine tH 14 89 rfl rfl (gRun (by kernel_rfl) (.pointer (some ⟨gs, 0 + 2, none⟩)) fun _ h => run_fieldOp' f38_2 (.tmp 88) rfl gs (0) rfl) HS_ ?_
     refine tH 15 90 rfl rfl (gRun (by kernel_rfl) (ptr gr) fun _ h => run_load1 o36 (.tmp 89) rfl gs (0 + 2) rfl (ptr gr) (h.1.at 2 _ rfl)) HS_ ?_
     simp only [Act.put, aS, aC, aZ]
     refine tH 16 91 rfl rfl (gRun (by kernel_rfl) (ptr gr) fun _ h => run_nil (.tmp 90) rfl ⟨gr, 0, none⟩ rfl) HS_ ?_
     refine tH 17 92 rfl rfl (gRun (by kernel_rfl) (.pointer (some ⟨gr, 0 + 1, none⟩)) fun _ h => run_fieldOp' f60_1 (.tmp 91) rfl gr (0) rfl) HS_ ?_
     refine tH 18 93 rfl rfl (gRun (by kernel_rfl) (.int .i64 (n : Nat)) fun _ h => run_load1 o3 (.tmp 92) rfl gr (0 + 1) rfl (.int .i64 (n : Nat)) (h.2.1.at 1 _ rfl)) HS_ ?_
     refine tH 19 94 rfl rfl (gRun (by kernel_rfl) (.int .i64 ((n / 16 : Nat) : Int)) fun _ h => run_quo16 (.tmp 93) rfl n (by omega) rfl) HS_ ?_
     simp only [Act.put, aS, aC, aZ]
     refine tH 20 95 rfl rfl (gRun (by kernel_rfl) (.int .i64 ((8 * (n / 16) : Nat) : Int)) fun _ h => run_mulZ (.const (.int .i64 8)) (.tmp 94) rfl 8 ((n / 16 : Nat) : Int) _ rfl rfl (by omega) (by omega) (by omega)) HS_ ?_
     refine tH 21 96 rfl rfl (gRun (by kernel_rfl) (.bool true) fun _ h => run_gtrZ (.tmp 86) (.tmp 95) rfl ((ever + costN bs.length) : Nat) ((8 * (n / 16) : Nat) : Int) rfl rfl true (decide_eq_true (by omega))) HS_ ?_
     refine tH 22 97 rfl rfl (gRun rfl (.bool true) fun _ h => run_pickZ (.tmp 82) (.tmp 96) (.const (.bool false)) rfl true (.bool true) rfl rfl) HS_ ?_
     refine tH 23 4 rfl rfl (gRun rfl (.bool true) fun _ h => run_asZ (.tmp 97) rfl (.bool true) rfl) HS_ ?_
     simp only [Act.put, aS, aC, aZ]
     refine wpAnyH_done (by kernel_rfl) ?_ _
     go_wp2_with fail
     rw [HPQ.out]
     exact ⟨rfl, c2, gh, gf, gm, m2, us, vu, vb, bl, (ever + costN bs.length), dims, HA5.out.1.h.on (by decide), HA5.out.1.d, HM.out.2.2.2.2.2.1.mono (Nat.le_add_right _ _), (by have := (costN_le hlen).2; omega), by omega, by omega⟩
    ·go_upto_region 10 with fail
     refine wp_region_lit ?_
     refine wl rfl (.pointer (some ⟨q, 0 + 2, none⟩)) _ (run_fieldOp' f33_2 (.tmp 3) rfl q (0) rfl) ?_
     refine wl rfl vy _ (run_load1 o28 (.tmp 50) rfl q (0 + 2) rfl vy (HA4.out.1.o.at 2 _ HM.out.2.2.2.2.1)) ?_
     refine wl rfl (.int .i64 (bs.length : Nat)) _ (run_lenS HA4.out.1.inn (.tmp 51) rfl rfl) ?_
     refine wl rfl (.bool false) _ (run_gtrZ (.tmp 52) (.const (.int .i64 512)) rfl (bs.length : Nat) 512 rfl rfl false (decide_eq_false (by omega))) ?_
     simp only [Act.put, aS, aC, aZ]
     refine wpList_nil ?_
     go_upto_region 12 with fail
     refine wp_region_until (S := fun X => Row X gs 38 (scells gp gh gr (ever : Nat) (dims : Nat)) ∧ Row X q 33 oc) 12 (by kernel_rfl) ?_
     show wpAnyU _ _ _ _ _ _ 13 (Array.replicate 13 false) _ _
     obtain ⟨X, hX⟩ : ∃ X : World, X = { V4 with drawn := V4.drawn + 1 } := ⟨_, rfl⟩
     rw [← hX]
     have HBX : Hid (Below V4.heap.size V4 X) := (by rw [hX]; exact ⟨rfl, rfl, rfl, Nat.le_refl _, fun _ _ => rfl⟩)
     replace HA4 : Hid ((ApE w X c2 gp gh gf gm gs gr n (us ++ [(a, bs)]) m2 (K + 20) 0 us vu vb bl ever dims q oc B vo ys vy bs) ∧ Row X q6 30 (toP (a, bs)).cells ∧ Row X q8 30 (toP (a, bs)).cells) := ⟨HA4.out.1.bel HBX.out, HA4.out.2.1.later HBX.out HA4.out.2.1.lt, HA4.out.2.2.later HBX.out HA4.out.2.2.lt⟩
     clear HBX
     have HS_ : Row X gs 38 (scells gp gh gr (ever : Nat) (dims : Nat)) ∧ Row X q 33 oc := ⟨HA4.out.1.d.row, HA4.out.1.o⟩
     clear hX
     refine tV 0 [12] 61 rfl rfl (gRun rfl (ptr gs) fun _ h => run_mvZ (.tmp 0) rfl (ptr gs) rfl) HS_ ?_
     refine tV 1 [12] 62 rfl rfl (gRun rfl (ptr gs) fun _ h => run_mvZ (.tmp 0) rfl (ptr gs) rfl) HS_ ?_
     refine tV 2 [12] 63 rfl rfl (gRun rfl (ptr gs) fun _ h => run_nil (.tmp 62) rfl ⟨gs, 0, none⟩ rfl) HS_ ?_
     refine tV 3 [12] 64 rfl rfl (gRun rfl (.pointer (some ⟨gs, 0 + 3, none⟩)) fun _ h => run_fieldOp' f38_3 (.tmp 63) rfl gs (0) rfl) HS_ ?_
     simp only [Act.put, aS, aC, aZ]
     refine tV 4 [12] 65 rfl rfl (gRun rfl (.int .i64 (ever : Nat)) fun _ h => run_load1 o3 (.tmp 64) rfl gs (0 + 3) rfl (.int .i64 (ever : Nat)) (h.1.at 3 _ rfl)) HS_ ?_
     refine tV 5 [12] 66 rfl rfl (gRun rfl (.pointer (some ⟨q, 0 + 2, none⟩)) fun _ h => run_fieldOp' f33_2 (.tmp 3) rfl q (0) rfl) HS_ ?_
     refine tV 6 [12] 67 rfl rfl (gRun rfl vy fun _ h => run_load1 o28 (.tmp 66) rfl q (0 + 2) rfl vy (h.2.at 2 _ HM.out.2.2.2.2.1)) HS_ ?_
     refine tV 7 [12] 68 rfl rfl (gRun rfl (.int .i64 (bs.length : Nat)) fun _ h => run_lenS HM.out.2.2.1 (.tmp 67) rfl rfl) HS_ ?_
     simp only [Act.put, aS, aC, aZ]
     refine oneU (i := 8) (by kernel_rfl) ?_
     refine opCallG (some 69) rfl rfl rfl 22 _ (run_call eN22 [.tmp 68] _ rfl [(.int .i64 (bs.length : Nat))] rfl) ?_
     refine (rcost_any X bs.length (by omega)).mono ?_
     rintro e X_ ⟨rfl, rfl⟩
     refine ⟨_, rfl, ?_⟩
     refine ⟨fun _ => HS_, ?_⟩
     simp only [Act.put, aS, aC, aZ]
     refine tV 9 [12] 70 rfl rfl (gRun rfl (.int .i64 ((ever + costN bs.length) : Nat)) fun _ h => run_addZ (.tmp 65) (.tmp 69) rfl (ever : Nat) (costN bs.length : Nat) _ rfl rfl (by omega) (by omega) (by have := (costN_le hlen).2; omega)) HS_ ?_
     refine tV 10 [11, 12] 71 rfl rfl (gRun rfl (ptr gs) fun _ h => run_nil (.tmp 61) rfl ⟨gs, 0, none⟩ rfl) HS_ ?_
     refine tV 11 [12] 72 rfl rfl (gRun rfl (.pointer (some ⟨gs, 0 + 3, none⟩)) fun _ h => run_fieldOp' f38_3 (.tmp 71) rfl gs (0) rfl) HS_ ?_
     simp only [Act.put, aS, aC, aZ]
     refine oneU (i := 12) (by kernel_rfl) ?_
     refine opSkipZ rfl rfl rfl _ (run_putRow (t := 3) sz3 (.tmp 72) (.tmp 70) rfl gs (0 + 3) 38 _ rfl (.int .i64 ((ever + costN bs.length) : Nat)) rfl ⟨rfl, rfl⟩ HS_.1 (by decide : 0 + 3 < 5)) ?_
     refine ⟨(fun h => absurd (show true = false from h) (by decide)), ?_⟩
     have hb_ := (Ch.refl (· = gs) X).setCell (Or.inl rfl) (0 + 3) (.int .i64 ((ever + costN bs.length) : Nat))
     have r_ := HS_.1.setCell (0 + 3) (.int .i64 ((ever + costN bs.length) : Nat))
     obtain ⟨V5, hW_⟩ : ∃ U_ : World, U_ = X.setCell ⟨gs, 0 + 3, none⟩ (.int .i64 ((ever + costN bs.length) : Nat)) := ⟨_, rfl⟩
     rw [← hW_] at hb_ r_ ⊢
     have HA5 : Hid ((ApE w V5 c2 gp gh gf gm gs gr n (us ++ [(a, bs)]) m2 (K + 20) 0 us vu vb bl (ever + costN bs.length) dims q oc B vo ys vy bs) ∧ Row V5 q6 30 (toP (a, bs)).cells ∧ Row V5 q8 30 (toP (a, bs)).cells) := ⟨HA4.out.1.tick hb_ r_, hb_.row (row_ne HA4.out.2.1 HA4.out.1.d.row (by decide)) HA4.out.2.1, hb_.row (row_ne HA4.out.2.2 HA4.out.1.d.row (by decide)) HA4.out.2.2⟩
     clear hb_ r_ hW_ HA4 HS_
     refine wpAnyU_done (by kernel_rfl) ?_ _
     go_upto_region 13 with fail
     refine wp_region_lit ?_
     refine wl rfl (.bool true) _ (run_mvZ (.tmp 7) rfl (.bool true) rfl) ?_
     refine wl rfl (.bool false) _ (run_not (.tmp 73) 4 rfl true rfl) ?_
     simp only [Act.put, aS, aC, aZ]
     refine wpList_nil ?_
     go_upto_region 15 with fail
     refine wp_region_lit ?_
     refine wl rfl (.int .i64 0) _ (run_mvZ (.tmp 9) rfl (.int .i64 0) rfl) ?_
     refine wl rfl (.bool false) _ (run_eqZ (.tmp 98) (.const (.int .i64 2)) rfl (0) (2) rfl rfl false rfl) ?_
     simp only [Act.put, aS, aC, aZ]
     refine wpList_nil ?_
     go_upto_region 21 with fail
     refine wp_region_held (S := fun X => Row X gs 38 (scells gp gh gr ((ever + costN bs.length) : Nat) (dims : Nat)) ∧ Row X q 33 oc ∧ Row X q6 30 (toP (a, bs)).cells) (by kernel_rfl) ?_
     show wpAnyH _ _ _ _ _ 8 (Array.replicate 8 false) _ _
     obtain ⟨X, hX⟩ : ∃ X : World, X = { V5 with drawn := V5.drawn + 1 } := ⟨_, rfl⟩
     rw [← hX]
     have HBX : Hid (Below V5.heap.size V5 X) := (by rw [hX]; exact ⟨rfl, rfl, rfl, Nat.le_refl _, fun _ _ => rfl⟩)
     replace HA5 : Hid ((ApE w X c2 gp gh gf gm gs gr n (us ++ [(a, bs)]) m2 (K + 20) 0 us vu vb bl (ever + costN bs.length) dims q oc B vo ys vy bs) ∧ Row X q6 30 (toP (a, bs)).cells ∧ Row X q8 30 (toP (a, bs)).cells) := ⟨HA5.out.1.bel HBX.out, HA5.out.2.1.later HBX.out HA5.out.2.1.lt, HA5.out.2.2.later HBX.out HA5.out.2.2.lt⟩
     clear HBX
     have HS_ : Row X gs 38 (scells gp gh gr ((ever + costN bs.length) : Nat) (dims : Nat)) ∧ Row X q 33 oc ∧ Row X q6 30 (toP (a, bs)).cells := ⟨HA5.out.1.d.row, HA5.out.1.o, HA5.out.2.1⟩
     clear hX
     refine tH 0 126 rfl rfl (gRun rfl (ptr gs) fun _ h => run_mvZ (.tmp 0) rfl (ptr gs) rfl) HS_ ?_
     refine tH 1 127 rfl rfl (gRun rfl (ptr gs) fun _ h => run_nil (.tmp 126) rfl ⟨gs, 0, none⟩ rfl) HS_ ?_
     refine tH 2 128 rfl rfl (gRun rfl (.pointer (some ⟨gs, 0 + 2, none⟩)) fun _ h => run_fieldOp' f38_2 (.tmp 127) rfl gs (0) rfl) HS_ ?_
     refine tH 3 129 rfl rfl (gRun rfl (ptr gr) fun _ h => run_load1 o36 (.tmp 128) rfl gs (0 + 2) rfl (ptr gr) (h.1.at 2 _ rfl)) HS_ ?_
     simp only [Act.put, aS, aC, aZ]
     refine tH 4 130 rfl rfl (gRun rfl (.agg ((toP (a, bs)).cells).toArray) fun _ h => run_loadA ag30 (.tmp 6) rfl q6 (0) rfl ((toP (a, bs)).cells) rfl (rows_one h.2.2)) HS_ ?_
     refine tH 5 131 rfl rfl (gRun rfl (.pointer (some ⟨q, 0 + 2, none⟩)) fun _ h => run_fieldOp' f33_2 (.tmp 3) rfl q (0) rfl) HS_ ?_
     refine tH 6 132 rfl rfl (gRun rfl vy fun _ h => run_load1 o28 (.tmp 131) rfl q (0 + 2) rfl vy (h.2.1.at 2 _ HM.out.2.2.2.2.1)) HS_ ?_
     simp only [Act.put, aS, aC, aZ]
     refine oneH (i := 7) (by kernel_rfl) ?_
     refine opCallG (some 133) rfl rfl rfl 46 _ (run_call eN46 [.tmp 129, .tmp 130, .tmp 132] _ rfl [(ptr gr), (.agg ((toP (a, bs)).cells).toArray), vy] rfl) ?_
     refine (add_any (HA5.out.1.h.on (by decide)) HA5.out.1.d.r (a, bs) vy (fun W' hc => HA5.out.1.far.keep HA5.out.1.inn (HA5.out.1.h.own hc (fun _ _ e => HA5.out.1.d.r.out e)).o.pl.below fun b ho _ hn _ => hc.block b ho.2.1 hn) (by omega) (by show bs.length ≤ 1000000; omega)).mono ?_
     rintro e V6 ⟨rfl, hc_, vu2, vb2, bl2, hr_⟩
     refine ⟨_, rfl, ?_⟩
     have hnf : ∀ k, B ≤ k → ¬ Fr3 gr vu vb k := (fun k hk hf => by have := HA5.out.1.lb k (Or.inr (Or.inl hf)); omega)
     have hng : ¬ Fr3 gr vu vb gs := (fun hf => by
      rcases hf with h | h | h
      ·exact HA5.out.1.d.r.ne HA5.out.1.d.row (Or.inl rfl) h.symm
      ·exact HA5.out.1.d.r.ne HA5.out.1.d.row (Or.inr (Or.inl h)) rfl
      ·exact HA5.out.1.d.r.ne HA5.out.1.d.row (Or.inr (Or.inr (Or.inl h))) rfl)
     have HA6 : Hid ((HtW w V6 c2 gp gh gf gm m2 n (us ++ [(a, bs)]) (K + 20)) ∧ (Sd w V6 c2 gp gh gf gm gs gr n (us ++ [(a, bs)]) vu2 vb2 bl2 (ever + costN bs.length) dims) ∧ Row V6 q6 30 (toP (a, bs)).cells ∧ Row V6 q8 30 (toP (a, bs)).cells) := ⟨(HA5.out.1.h.on (by decide)).own hc_ (fun _ _ e => HA5.out.1.d.r.out e), ⟨hc_.row hng HA5.out.1.d.row, HA5.out.1.d.os.bel hc_.size, hr_⟩, hc_.row (hnf q6 HQQ.out.2.2.1) HA5.out.2.1, hc_.row (hnf q8 HQQ.out.2.2.2) HA5.out.2.2⟩
     replace HS_ : Row V6 gs 38 (scells gp gh gr ((ever + costN bs.length) : Nat) (dims : Nat)) ∧ Row V6 q 33 oc ∧ Row V6 q6 30 (toP (a, bs)).cells := ⟨HA6.out.2.1.row, hc_.row (fun hf => by have := HA5.out.1.lb q (Or.inr (Or.inl hf)); have := HQB.out; omega) HA5.out.1.o, HA6.out.2.2.1⟩
     clear hnf hng hc_ hr_ HA5
     refine ⟨HS_, ?_⟩
     simp only [Act.put, aS, aC, aZ]
     refine wpAnyH_done (by kernel_rfl) ?_ _
     go_upto_region 22 with fail
     refine wp_region_lit ?_
     refine wl rfl (.int .i64 0) _ (run_mvZ (.tmp 9) rfl (.int .i64 0) rfl) ?_
     refine wl rfl (.bool bt) _ ((by rw [HBT.out]; exact run_eqZ (.tmp 134) (.const (.int .i64 0)) rfl 0 0 rfl rfl true rfl)) ?_
     refine wl rfl (.bool bt) _ (run_mvZ (.tmp 135) rfl (.bool bt) rfl) ?_
     refine wl (by rw [HBT.out]; kernel_rfl) (.agg ((toP (a, bs)).cells).toArray) _ (run_loadA ag30 (.tmp 8) rfl q8 (0) rfl ((toP (a, bs)).cells) rfl (rows_one HA6.out.2.2.2)) ?_
     simp only [Act.put, aS, aC, aZ]
     refine wl (by rw [HBT.out]; kernel_rfl) (.agg ((toP (a, bs)).cells).toArray) _ (run_loadA ag30 (.tmp 6) rfl q6 (0) rfl ((toP (a, bs)).cells) rfl (rows_one HA6.out.2.2.1)) ?_
     refine wl (by rw [HBT.out]; kernel_rfl) (.bool bt) _ ((by rw [HBT.out]; exact run_eqPl (.tmp 137) (.tmp 138) rfl 1 (a : Nat) (costN bs.length : Nat) 1 (a : Nat) (costN bs.length : Nat) false false rfl rfl true (by simp))) ?_
     refine wl rfl (.bool bt) _ (run_pickZ (.tmp 136) (.tmp 139) (.const (.bool false)) rfl bt (.bool bt) rfl (by rw [HBT.out]; rfl)) ?_
     refine wl rfl (.bool bt) _ (run_asZ (.tmp 140) rfl (.bool bt) rfl) ?_
     simp only [Act.put, aS, aC, aZ]
     refine wpList_nil ?_
     obtain rfl : bt = true := HBT.out
     go_wp2_with fail
     rw [HPQ.out]
     exact ⟨rfl, c2, gh, gf, gm, m2, (us ++ [(a, bs)]), vu2, vb2, bl2, (ever + costN bs.length), dims, HA6.out.1, HA6.out.2.1, (by rw [List.map_append]; exact HM.out.2.2.2.2.2.1.add (fun u hu => ⟨(HM.out.1.ok.1 u hu).1, (HM.out.1.ok.1 u hu).2.1⟩) hfit), (by have := (costN_le hlen).2; omega), by omega, by omega⟩
    ·have hu3 := hu2.symm
     subst hu3
     go_upto_region 10 with fail
     refine wp_region_lit ?_
     refine wl rfl (.pointer (some ⟨q, 0 + 2, none⟩)) _ (run_fieldOp' f33_2 (.tmp 3) rfl q (0) rfl) ?_
     refine wl rfl vy _ (run_load1 o28 (.tmp 50) rfl q (0 + 2) rfl vy (HA4.out.1.o.at 2 _ HM.out.2.2.2.2.1)) ?_
     refine wl rfl (.int .i64 (bs.length : Nat)) _ (run_lenS HA4.out.1.inn (.tmp 51) rfl rfl) ?_
     refine wl rfl (.bool false) _ (run_gtrZ (.tmp 52) (.const (.int .i64 512)) rfl (bs.length : Nat) 512 rfl rfl false (decide_eq_false (by omega))) ?_
     simp only [Act.put, aS, aC, aZ]
     refine wpList_nil ?_
     go_upto_region 12 with fail
     refine wp_region_until (S := fun X => Row X gs 38 (scells gp gh gr (ever : Nat) (dims : Nat)) ∧ Row X q 33 oc) 12 (by kernel_rfl) ?_
     show wpAnyU _ _ _ _ _ _ 13 (Array.replicate 13 false) _ _
     obtain ⟨X, hX⟩ : ∃ X : World, X = { V4 with drawn := V4.drawn + 1 } := ⟨_, rfl⟩
     rw [← hX]
     have HBX : Hid (Below V4.heap.size V4 X) := (by rw [hX]; exact ⟨rfl, rfl, rfl, Nat.le_refl _, fun _ _ => rfl⟩)
     replace HA4 : Hid ((ApE w X c2 gp gh gf gm gs gr n us m2 (K + 20) 2 us vu vb bl ever dims q oc B vo ys vy bs) ∧ Row X q6 30 (toP (a, bs)).cells ∧ Row X q8 30 zP.cells) := ⟨HA4.out.1.bel HBX.out, HA4.out.2.1.later HBX.out HA4.out.2.1.lt, HA4.out.2.2.later HBX.out HA4.out.2.2.lt⟩
     clear HBX
     have HS_ : Row X gs 38 (scells gp gh gr (ever : Nat) (dims : Nat)) ∧ Row X q 33 oc := ⟨HA4.out.1.d.row, HA4.out.1.o⟩
     clear hX
     refine tV 0 [12] 61 rfl rfl (gRun rfl (ptr gs) fun _ h => run_mvZ (.tmp 0) rfl (ptr gs) rfl) HS_ ?_
     refine tV 1 [12] 62 rfl rfl (gRun rfl (ptr gs) fun _ h => run_mvZ (.tmp 0) rfl (ptr gs) rfl) HS_ ?_
     refine tV 2 [12] 63 rfl rfl (gRun rfl (ptr gs) fun _ h => run_nil (.tmp 62) rfl ⟨gs, 0, none⟩ rfl) HS_ ?_
     refine tV 3 [12] 64 rfl rfl (gRun rfl (.pointer (some ⟨gs, 0 + 3, none⟩)) fun _ h => run_fieldOp' f38_3 (.tmp 63) rfl gs (0) rfl) HS_ ?_
     simp only [Act.put, aS, aC, aZ]
     refine tV 4 [12] 65 rfl rfl (gRun rfl (.int .i64 (ever : Nat)) fun _ h => run_load1 o3 (.tmp 64) rfl gs (0 + 3) rfl (.int .i64 (ever : Nat)) (h.1.at 3 _ rfl)) HS_ ?_
     refine tV 5 [12] 66 rfl rfl (gRun rfl (.pointer (some ⟨q, 0 + 2, none⟩)) fun _ h => run_fieldOp' f33_2 (.tmp 3) rfl q (0) rfl) HS_ ?_
     refine tV 6 [12] 67 rfl rfl (gRun rfl vy fun _ h => run_load1 o28 (.tmp 66) rfl q (0 + 2) rfl vy (h.2.at 2 _ HM.out.2.2.2.2.1)) HS_ ?_
     refine tV 7 [12] 68 rfl rfl (gRun rfl (.int .i64 (bs.length : Nat)) fun _ h => run_lenS HM.out.2.2.1 (.tmp 67) rfl rfl) HS_ ?_
     simp only [Act.put, aS, aC, aZ]
     refine oneU (i := 8) (by kernel_rfl) ?_
     refine opCallG (some 69) rfl rfl rfl 22 _ (run_call eN22 [.tmp 68] _ rfl [(.int .i64 (bs.length : Nat))] rfl) ?_
     refine (rcost_any X bs.length (by omega)).mono ?_
     rintro e X_ ⟨rfl, rfl⟩
     refine ⟨_, rfl, ?_⟩
     refine ⟨fun _ => HS_, ?_⟩
     simp only [Act.put, aS, aC, aZ]
     refine tV 9 [12] 70 rfl rfl (gRun rfl (.int .i64 ((ever + costN bs.length) : Nat)) fun _ h => run_addZ (.tmp 65) (.tmp 69) rfl (ever : Nat) (costN bs.length : Nat) _ rfl rfl (by omega) (by omega) (by have := (costN_le hlen).2; omega)) HS_ ?_
     refine tV 10 [11, 12] 71 rfl rfl (gRun rfl (ptr gs) fun _ h => run_nil (.tmp 61) rfl ⟨gs, 0, none⟩ rfl) HS_ ?_
     refine tV 11 [12] 72 rfl rfl (gRun rfl (.pointer (some ⟨gs, 0 + 3, none⟩)) fun _ h => run_fieldOp' f38_3 (.tmp 71) rfl gs (0) rfl) HS_ ?_
     simp only [Act.put, aS, aC, aZ]
     refine oneU (i := 12) (by kernel_rfl) ?_
     refine opSkipZ rfl rfl rfl _ (run_putRow (t := 3) sz3 (.tmp 72) (.tmp 70) rfl gs (0 + 3) 38 _ rfl (.int .i64 ((ever + costN bs.length) : Nat)) rfl ⟨rfl, rfl⟩ HS_.1 (by decide : 0 + 3 < 5)) ?_
     refine ⟨(fun h => absurd (show true = false from h) (by decide)), ?_⟩
     have hb_ := (Ch.refl (· = gs) X).setCell (Or.inl rfl) (0 + 3) (.int .i64 ((ever + costN bs.length) : Nat))
     have r_ := HS_.1.setCell (0 + 3) (.int .i64 ((ever + costN bs.length) : Nat))
     obtain ⟨V5, hW_⟩ : ∃ U_ : World, U_ = X.setCell ⟨gs, 0 + 3, none⟩ (.int .i64 ((ever + costN bs.length) : Nat)) := ⟨_, rfl⟩
     rw [← hW_] at hb_ r_ ⊢
     have HA5 : Hid ((ApE w V5 c2 gp gh gf gm gs gr n us m2 (K + 20) 2 us vu vb bl (ever + costN bs.length) dims q oc B vo ys vy bs) ∧ Row V5 q6 30 (toP (a, bs)).cells ∧ Row V5 q8 30 zP.cells) := ⟨HA4.out.1.tick hb_ r_, hb_.row (row_ne HA4.out.2.1 HA4.out.1.d.row (by decide)) HA4.out.2.1, hb_.row (row_ne HA4.out.2.2 HA4.out.1.d.row (by decide)) HA4.out.2.2⟩
     clear hb_ r_ hW_ HA4 HS_
     refine wpAnyU_done (by kernel_rfl) ?_ _
     go_upto_region 13 with fail
     refine wp_region_lit ?_
     refine wl rfl (.bool true) _ (run_mvZ (.tmp 7) rfl (.bool true) rfl) ?_
     refine wl rfl (.bool false) _ (run_not (.tmp 73) 4 rfl true rfl) ?_
     simp only [Act.put, aS, aC, aZ]
     refine wpList_nil ?_
     go_upto_region 15 with fail
     refine wp_region_lit ?_
     refine wl rfl (.int .i64 2) _ (run_mvZ (.tmp 9) rfl (.int .i64 2) rfl) ?_
     refine wl rfl (.bool true) _ (run_eqZ (.tmp 98) (.const (.int .i64 2)) rfl (2) (2) rfl rfl true rfl) ?_
     simp only [Act.put, aS, aC, aZ]
     refine wpList_nil ?_
     go_upto_region 16 with fail
     refine wp_region_lit ?_
     refine wl rfl (.agg (zP.cells).toArray) _ (run_loadA ag30 (.tmp 8) rfl q8 (0) rfl (zP.cells) rfl (rows_one HA5.out.2.2)) ?_
     refine wl rfl (.agg (plC 0 0 0 false).toArray) _ (run_build30z rfl) ?_
     refine wl rfl (.bool false) _ (run_nePl (.tmp 100) (.tmp 101) rfl 0 0 0 0 0 0 false false rfl rfl false (by simp)) ?_
     refine wl rfl (.bool false) _ (run_mvZ (.tmp 102) rfl (.bool false) rfl) ?_
     simp only [Act.put, aS, aC, aZ]
     refine wl (by kernel_rfl) (ptr gs) _ (run_mvZ (.tmp 0) rfl (ptr gs) rfl) ?_
     refine wl (by kernel_rfl) (ptr gs) _ (run_nil (.tmp 104) rfl ⟨gs, 0, none⟩ rfl) ?_
     refine wl (by kernel_rfl) (.pointer (some ⟨gs, 0 + 0, none⟩)) _ (run_fieldOp' f38_0 (.tmp 105) rfl gs (0) rfl) ?_
     refine wl (by kernel_rfl) (ptr gp) _ (run_load1 o34 (.tmp 106) rfl gs (0 + 0) rfl (ptr gp) (HA5.out.1.d.row.at 0 _ rfl)) ?_
     simp only [Act.put, aS, aC, aZ]
     refine wpList_callW eN45 [.tmp 107] _ rfl rfl [(ptr gp)] rfl ?_
     refine (HA5.out.1.h.o.pl.isOn).mono ?_
     rintro e X_ ⟨he_, rfl⟩
     rw [(HA5.out.1.h.off rfl).1] at he_
     subst he_
     refine ⟨_, rfl, ?_⟩
     simp only [Act.put, aS, aC, aZ]
     refine wl rfl (.bool false) _ (run_pickZ (.tmp 103) (.const (.bool true)) (.tmp 108) rfl false (.bool false) rfl rfl) ?_
     simp only [Act.put, aS, aC, aZ]
     refine wpList_nil ?_
     go_upto_region 18 with fail
     refine wp_region_held (S := fun X => Row X gs 38 (scells gp gh gr ((ever + costN bs.length) : Nat) (dims : Nat)) ∧ Row X q 33 oc) (by kernel_rfl) ?_
     show wpAnyH _ _ _ _ _ 7 (Array.replicate 7 false) _ _
     obtain ⟨X, hX⟩ : ∃ X : World, X = { V5 with drawn := V5.drawn + 1 } := ⟨_, rfl⟩
     rw [← hX]
     have HBX : Hid (Below V5.heap.size V5 X) := (by rw [hX]; exact ⟨rfl, rfl, rfl, Nat.le_refl _, fun _ _ => rfl⟩)
     replace HA5 : Hid ((ApE w X c2 gp gh gf gm gs gr n us m2 (K + 20) 2 us vu vb bl (ever + costN bs.length) dims q oc B vo ys vy bs) ∧ Row X q6 30 (toP (a, bs)).cells ∧ Row X q8 30 zP.cells) := ⟨HA5.out.1.bel HBX.out, HA5.out.2.1.later HBX.out HA5.out.2.1.lt, HA5.out.2.2.later HBX.out HA5.out.2.2.lt⟩
     clear HBX
     have HS_ : Row X gs 38 (scells gp gh gr ((ever + costN bs.length) : Nat) (dims : Nat)) ∧ Row X q 33 oc := ⟨HA5.out.1.d.row, HA5.out.1.o⟩
     clear hX
     refine tH 0 110 rfl rfl (gRun rfl (ptr gs) fun _ h => run_mvZ (.tmp 0) rfl (ptr gs) rfl) HS_ ?_
     refine tH 1 111 rfl rfl (gRun rfl (ptr gs) fun _ h => run_nil (.tmp 110) rfl ⟨gs, 0, none⟩ rfl) HS_ ?_
     refine tH 2 112 rfl rfl (gRun rfl (.pointer (some ⟨gs, 0 + 0, none⟩)) fun _ h => run_fieldOp' f38_0 (.tmp 111) rfl gs (0) rfl) HS_ ?_
     refine tH 3 113 rfl rfl (gRun rfl (ptr gp) fun _ h => run_load1 o34 (.tmp 112) rfl gs (0 + 0) rfl (ptr gp) (h.1.at 0 _ rfl)) HS_ ?_
     simp only [Act.put, aS, aC, aZ]
     refine tH 4 114 rfl rfl (gRun rfl (.pointer (some ⟨q, 0 + 7, none⟩)) fun _ h => run_fieldOp' f33_4 (.tmp 3) rfl q (0) rfl) HS_ ?_
     refine tH 5 115 rfl rfl (gRun rfl vk fun _ h => run_load1 o31 (.tmp 114) rfl q (0 + 7) rfl vk (h.2.at 7 _ HM.out.2.2.2.2.2.2.1)) HS_ ?_
     simp only [Act.put, aS, aC, aZ]
     refine oneH (i := 6) (by kernel_rfl) ?_
     refine opCallG (some 116) rfl rfl rfl 15 _ (run_call eN15 [.tmp 113, .tmp 115] _ rfl [(ptr gp), vk] rfl) ?_
     refine (HA5.out.1.h.o.pl.boot hK vk ks (keepIn HA5.out.1.h.o.pl HM.out.2.2.2.2.2.2.2)).mono ?_
     rintro e V6 ⟨rfl, c3, hs_, hp_⟩
     refine ⟨_, rfl, ?_⟩
     have HA6 : Hid (Cl w V6 c3 gp (m2.boot ks) n us (K + 20) ∧ Sd w V6 c3 gp gh gf gm gs gr n us vu vb bl (ever + costN bs.length) dims) := ⟨⟨hp_, rfl, boot_wt m2 ks 1, (HA5.out.1.h.off rfl).2 ks, HM.out.1.apt⟩, HA5.out.1.d.sq (hs_.sq gf gm)⟩
     replace HS_ : Row V6 gs 38 (scells gp gh gr ((ever + costN bs.length) : Nat) (dims : Nat)) ∧ Row V6 q 33 oc := ⟨HA6.out.2.row, HA5.out.1.oo.row (hs_.sq gf gm) HA5.out.1.o⟩
     clear hs_ hp_ HA5
     refine ⟨HS_, ?_⟩
     simp only [Act.put, aS, aC, aZ]
     refine wpAnyH_done (by kernel_rfl) ?_ _
     go_upto_region 19 with fail
     refine wp_region_lit ?_
     refine wl rfl (ptr gs) _ (run_mvZ (.tmp 0) rfl (ptr gs) rfl) ?_
     refine wl rfl (ptr gs) _ (run_nil (.tmp 117) rfl ⟨gs, 0, none⟩ rfl) ?_
     refine wl rfl (.pointer (some ⟨gs, 0 + 4, none⟩)) _ (run_fieldOp' f38_4 (.tmp 118) rfl gs (0) rfl) ?_
     refine wl rfl (.int .i64 (dims : Nat)) _ (run_load1 o3 (.tmp 119) rfl gs (0 + 4) rfl (.int .i64 (dims : Nat)) (HA6.out.2.row.at 4 _ rfl)) ?_
     simp only [Act.put, aS, aC, aZ]
     refine wl rfl (.int .i64 ((dims + 1 : Nat) : Int)) _ (run_addZ (.tmp 120) (.const (.int .i64 1)) rfl (dims : Nat) 1 _ rfl rfl (by omega) (by omega) (by omega)) ?_
     refine wl rfl (ptr gs) _ (run_nil (.tmp 117) rfl ⟨gs, 0, none⟩ rfl) ?_
     refine wl rfl (.pointer (some ⟨gs, 0 + 4, none⟩)) _ (run_fieldOp' f38_4 (.tmp 122) rfl gs (0) rfl) ?_
     simp only [Act.put, aS, aC, aZ]
     refine wlS rfl rfl _ (run_putRow (t := 3) sz3 (.tmp 123) (.tmp 121) rfl gs (0 + 4) 38 _ rfl (.int .i64 ((dims + 1 : Nat) : Int)) rfl ⟨rfl, rfl⟩ HA6.out.2.row (by decide : 0 + 4 < 5)) ?_
     have hb_ := (Ch.refl (· = gs) V6).setCell (Or.inl rfl) (0 + 4) (.int .i64 ((dims + 1 : Nat) : Int))
     have r_ := HA6.out.2.row.setCell (0 + 4) (.int .i64 ((dims + 1 : Nat) : Int))
     obtain ⟨V7, hW_⟩ : ∃ U_ : World, U_ = V6.setCell ⟨gs, 0 + 4, none⟩ (.int .i64 ((dims + 1 : Nat) : Int)) := ⟨_, rfl⟩
     rw [← hW_] at hb_ r_ ⊢
     have HA7 : Hid (Cl w V7 c3 gp (m2.boot ks) n us (K + 20) ∧ Sd w V7 c3 gp gh gf gm gs gr n us vu vb bl (ever + costN bs.length) (dims + 1)) := ⟨HA6.out.1.own hb_ (fun _ _ e => e ▸ HA6.out.2.os), HA6.out.2.tick hb_ r_⟩
     clear hb_ r_ hW_ HA6 HS_
     refine wpList_nil ?_
     go_upto_region 20 with fail
     refine wp_region_lit ?_
     refine wl rfl (ptr gs) _ (run_mvZ (.tmp 0) rfl (ptr gs) rfl) ?_
     simp only [Act.put, aS, aC, aZ]
     refine wpList_callW eN16 [.tmp 124] _ rfl rfl [(ptr gs)] rfl ?_
     refine (opened_any HA7.out.1 HA7.out.2 (by omega) hK).mono ?_
     rintro e V8 ⟨rfl, gh2, gf2, gm2, hh_, hd_⟩
     refine ⟨_, rfl, ?_⟩
     have HA8 : Hid (HtW w V8 c3 gp gh2 gf2 gm2 (m2.boot ks) n us (K + 20) ∧ Sd w V8 c3 gp gh2 gf2 gm2 gs gr n us vu vb bl (ever + costN bs.length) (dims + 1)) := ⟨hh_, hd_⟩
     clear hh_ hd_
     simp only [Act.put, aS, aC, aZ]
     refine wl rfl (.bool true) _ (run_asZ (.tmp 125) rfl (.bool true) rfl) ?_
     simp only [Act.put, aS, aC, aZ]
     refine wpList_nil ?_
     go_wp2_with fail
     rw [HPQ.out]
     exact ⟨rfl, c3, gh2, gf2, gm2, m2.boot ks, us, vu, vb, bl, (ever + costN bs.length), dims + 1, HA8.out.1, HA8.out.2, HM.out.2.2.2.2.2.1.mono (Nat.le_add_right _ _), (by have := (costN_le hlen).2; omega), by omega, by omega⟩
 ·refine opValueG (some 6) rfl rfl rfl (ptr X.heap.size) _ (run_allocA (plC 0 0 0 false) zero30 rfl) ?_
  have hb_ := below_alloc X (.cells (plC 0 0 0 false).toArray 30)
  have r_ := Row.new X 30 (plC 0 0 0 false)
  obtain ⟨Y1, hW_⟩ : ∃ U_ : World, U_ = X.alloc (.cells (plC 0 0 0 false).toArray 30) := ⟨_, rfl⟩
  obtain ⟨q6, hq_⟩ : ∃ q, q = X.heap.size := ⟨_, rfl⟩
  rw [← hW_] at hb_
  rw [← hW_, ← hq_] at r_
  rw [← hW_, ← hq_]
  have HQ : Hid (Row Y1 q6 30 (plC 0 0 0 false) ∧ Out w Y1 c gh gf gm q6 ∧ B ≤ q6) := ⟨r_, Out.new HA.out.h (by omega) r_.lt, (by have h1 := HA.out.o.lt; have h2 := HQB.out; omega)⟩
  replace HA : Hid (Ap w Y1 c gp gh gf gm gs gr n us m K us vu vb bl ever dims q oc B vo bs vy bs) := HA.out.bel hb_
  clear r_ hb_ hW_ hq_
  refine ⟨⟨HA.out.d.row, HA.out.o⟩, ?_⟩
  simp only [Act.put, aS, aC, aZ]
  refine oneH (i := 7) (by kernel_rfl) ?_
  refine opCallG (some 23) rfl rfl rfl 20 _ (run_call eN20 [.tmp 19, .tmp 22] _ rfl [(ptr gr), (.int .i64 (bs.length : Nat))] rfl) ?_
  refine (fitR HA.out.h HA.out.d.r bs hl).mono ?_
  rintro e Y2 ⟨xw, fb, rfl, hb_, hf_⟩
  refine ⟨_, rfl, ?_⟩
  have HF : Hid (FitR (n / 16) us bs xw fb) := hf_
  replace HQ : Hid (Row Y2 q6 30 (plC 0 0 0 false) ∧ Out w Y2 c gh gf gm q6 ∧ B ≤ q6) := ⟨HQ.out.1.later hb_ HQ.out.1.lt, HQ.out.2.1.bel hb_.size, HQ.out.2.2⟩
  replace HA : Hid (Ap w Y2 c gp gh gf gm gs gr n us m K us vu vb bl ever dims q oc B vo bs vy bs) := HA.out.bel hb_
  clear hb_ hf_
  refine ⟨⟨HA.out.d.row, HA.out.o⟩, ?_⟩
  simp only [Act.put, aS, aC, aZ]
  refine tH 8 15 rfl rfl (gRun rfl (.tuple #[(.agg xw.cells.toArray), (.bool fb)]) fun _ h => run_mvZ (.tmp 23) rfl (.tuple #[(.agg xw.cells.toArray), (.bool fb)]) rfl) ⟨HA.out.d.row, HA.out.o⟩ ?_
  refine tH 9 24 rfl rfl (gRun rfl (.agg xw.cells.toArray) fun _ h => run_extZ (.tmp 15) 0 rfl #[(.agg xw.cells.toArray), (.bool fb)] rfl (.agg xw.cells.toArray) rfl) ⟨HA.out.d.row, HA.out.o⟩ ?_
  refine tH 10 25 rfl rfl (gRun rfl (.bool fb) fun _ h => run_extZ (.tmp 15) 1 rfl #[(.agg xw.cells.toArray), (.bool fb)] rfl (.bool fb) rfl) ⟨HA.out.d.row, HA.out.o⟩ ?_
  simp only [Act.put, aS, aC, aZ]
  refine oneH (i := 12) (by kernel_rfl) ?_
  refine opSkipZ rfl rfl rfl _ (run_storeA ag30 (.tmp 6) (.tmp 24) rfl q6 30 rfl xw.cells _ rfl rfl HQ.out.1 rfl (plC_one _ _ _ _)) ?_
  have hb_ := (Ch.setRow (S := (· = q6)) (Ch.refl _ Y2) (Or.inl rfl) xw.cells.toArray)
  have r_ := HQ.out.1.setRow xw.cells
  obtain ⟨Y3, hW_⟩ : ∃ U_ : World, U_ = Y2.setRow q6 xw.cells.toArray := ⟨_, rfl⟩
  rw [← hW_] at hb_ r_ ⊢
  replace HA : Hid (Ap w Y3 c gp gh gf gm gs gr n us m K us vu vb bl ever dims q oc B vo bs vy bs) := HA.out.put hb_ HQ.out.2.1 HQ.out.1 HQ.out.2.2
  replace HQ : Hid (Row Y3 q6 30 xw.cells ∧ Out w Y3 c gh gf gm q6 ∧ B ≤ q6) := ⟨r_, HQ.out.2.1.bel hb_.size, HQ.out.2.2⟩
  clear r_ hb_ hW_
  refine ⟨⟨HA.out.d.row, HA.out.o⟩, ?_⟩
  refine tH 13 7 rfl rfl (gRun rfl (.bool fb) fun _ h => run_asZ (.tmp 25) rfl (.bool fb) rfl) ⟨HA.out.d.row, HA.out.o⟩ ?_
  simp only [Act.put, aS, aC, aZ]
  refine wpAnyH_done (by kernel_rfl) ?_ _
  go_upto_region 3 with fail
  refine wp_region_lit ?_
  refine wl rfl (ptr gs) _ (run_mvZ (.tmp 0) rfl (ptr gs) rfl) ?_
  refine wl rfl (ptr gs) _ (run_nil (.tmp 27) rfl ⟨gs, 0, none⟩ rfl) ?_
  refine wl rfl (.pointer (some ⟨gs, 0 + 1, none⟩)) _ (run_fieldOp' f38_1 (.tmp 28) rfl gs (0) rfl) ?_
  refine wl rfl (ptr gh) _ (run_load1 o35 (.tmp 29) rfl gs (0 + 1) rfl (ptr gh) (HA.out.d.row.at 1 _ rfl)) ?_
  simp only [Act.put, aS, aC, aZ]
  refine wl rfl vo _ (run_mvZ (.tmp 5) rfl vo rfl) ?_
  simp only [Act.put, aS, aC, aZ]
  refine wpList_callW eN21 [.tmp 30, .tmp 31] _ rfl rfl [(ptr gh), vo] rfl ?_
  refine (appRF HA.out.h (by omega) vo bs HA.out.ownIn HF.out).mono ?_
  rintro e V1 ⟨c2, m2, xa, er, us2, rfl, hs_, hh_, hr_⟩
  refine ⟨_, rfl, ?_⟩
  have HR : Hid (ApR4 (n / 16) us bs xw fb xa er us2 ∧ True) := ⟨hr_, trivial⟩
  replace HQ : Hid (Row V1 q6 30 xw.cells ∧ Out w V1 c2 gh gf gm q6 ∧ B ≤ q6) := ⟨HQ.out.2.1.row hs_ HQ.out.1, (HQ.out.2.1.step hs_).1, HQ.out.2.2⟩
  have HBS2 : Hid (B ≤ V1.heap.size) := Nat.le_trans (Nat.le_trans HQ.out.2.2 (Nat.le_of_lt HQ.out.2.1.2.1)) (Nat.le_refl _)
  replace HA : Hid (ApE w V1 c2 gp gh gf gm gs gr n us2 m2 (K + 20) er us vu vb bl ever dims q oc B vo bs vy bs) := HA.out.sqE hs_ hh_
  clear hs_ hh_ hr_
  simp only [Act.put, aS, aC, aZ]
  refine wl rfl (.tuple #[(.agg xa.cells.toArray), (.int .i64 er)]) _ (run_mvZ (.tmp 32) rfl (.tuple #[(.agg xa.cells.toArray), (.int .i64 er)]) rfl) ?_
  refine wl rfl (.agg xa.cells.toArray) _ (run_extZ (.tmp 26) 0 rfl #[(.agg xa.cells.toArray), (.int .i64 er)] rfl (.agg xa.cells.toArray) rfl) ?_
  refine wl rfl (.int .i64 er) _ (run_extZ (.tmp 26) 1 rfl #[(.agg xa.cells.toArray), (.int .i64 er)] rfl (.int .i64 er) rfl) ?_
  refine wl rfl (ptr V1.heap.size) _ (run_allocA (plC 0 0 0 false) zero30 rfl) ?_
  have hb_ := below_alloc V1 (.cells (plC 0 0 0 false).toArray 30)
  have r_ := Row.new V1 30 (plC 0 0 0 false)
  obtain ⟨V2, hW_⟩ : ∃ U_ : World, U_ = V1.alloc (.cells (plC 0 0 0 false).toArray 30) := ⟨_, rfl⟩
  obtain ⟨q8, hq_⟩ : ∃ q, q = V1.heap.size := ⟨_, rfl⟩
  rw [← hW_] at hb_
  rw [← hW_, ← hq_] at r_
  rw [← hW_, ← hq_]
  have HQ8 : Hid (Row V2 q8 30 (plC 0 0 0 false) ∧ Out w V2 c2 gh gf gm q8 ∧ B ≤ q8) := ⟨r_, HA.out.h.o.new (by omega) r_.lt, (by have := HBS2.out; omega)⟩
  have HN : Hid (q6 ≠ q8) := (fun e => by have := HQ.out.1.lt; omega)
  replace HQ : Hid (Row V2 q6 30 xw.cells ∧ Out w V2 c2 gh gf gm q6 ∧ B ≤ q6) := ⟨HQ.out.1.later hb_ HQ.out.1.lt, HQ.out.2.1.bel hb_.size, HQ.out.2.2⟩
  replace HA : Hid (ApE w V2 c2 gp gh gf gm gs gr n us2 m2 (K + 20) er us vu vb bl ever dims q oc B vo bs vy bs) := HA.out.bel hb_
  clear r_ hb_ hW_ hq_
  simp only [Act.put, aS, aC, aZ]
  refine wlS rfl rfl _ (run_storeA ag30 (.tmp 8) (.tmp 33) rfl q8 30 rfl xa.cells _ rfl rfl HQ8.out.1 rfl (plC_one _ _ _ _)) ?_
  have hb_ := (Ch.setRow (S := (· = q8)) (Ch.refl _ V2) (Or.inl rfl) xa.cells.toArray)
  have r_ := HQ8.out.1.setRow xa.cells
  obtain ⟨V3, hW_⟩ : ∃ U_ : World, U_ = V2.setRow q8 xa.cells.toArray := ⟨_, rfl⟩
  rw [← hW_] at hb_ r_ ⊢
  replace HA : Hid (ApE w V3 c2 gp gh gf gm gs gr n us2 m2 (K + 20) er us vu vb bl ever dims q oc B vo bs vy bs) := HA.out.put hb_ HQ8.out.2.1 HQ8.out.1 HQ8.out.2.2
  have HQQ : Hid (Row V3 q6 30 xw.cells ∧ Row V3 q8 30 xa.cells ∧ B ≤ q6 ∧ B ≤ q8) := ⟨hb_.row HN.out HQ.out.1, r_, HQ.out.2.2, HQ8.out.2.2⟩
  clear r_ hb_ hW_ HQ HQ8 HN
  refine wl rfl (.int .i64 er) _ (run_asZ (.tmp 34) rfl (.int .i64 er) rfl) ?_
  simp only [Act.put, aS, aC, aZ]
  refine wpList_nil ?_
  go_upto_region 4 with fail
  refine wp_region_lit ?_
  refine wl rfl vo _ (run_mvZ (.tmp 5) rfl vo rfl) ?_
  refine wl rfl (.string (strOfNums (bs.map Int.ofNat))) _ (run_str (.tmp 35) rfl vo bs rfl HA.out.ownIn) ?_
  refine wl rfl (.pointer (some ⟨q, 0 + 2, none⟩)) _ (run_fieldOp' f33_2 (.tmp 3) rfl q (0) rfl) ?_
  refine wl rfl vy _ (run_load1 o28 (.tmp 37) rfl q (0 + 2) rfl vy (HA.out.o.at 2 _ HM.out.2.2.2.2.1)) ?_
  simp only [Act.put, aS, aC, aZ]
  refine wl rfl (.string (strOfNums (bs.map Int.ofNat))) _ (run_str (.tmp 38) rfl vy bs rfl HA.out.inn) ?_
  refine wl rfl (.bool false) _ (run_neS (.tmp 36) (.tmp 39) rfl (strOfNums (bs.map Int.ofNat)) rfl rfl) ?_
  simp only [Act.put, aS, aC, aZ]
  refine wpList_nil ?_
  go_upto_region 6 with fail
  refine wp_region_lit ?_
  refine wl rfl (.int .i64 0) _ (run_asZ (.const (.int .i64 0)) rfl (.int .i64 0) rfl) ?_
  simp only [Act.put, aS, aC, aZ]
  refine wpList_nil ?_
  go_wp2_with fail
  go_loopw [10] (fun vk W => ∃ k : Nat, vk = .int .i64 (k : Nat) ∧ k ≤ bs.length ∧ ∃ ys : List Nat, Hid (ys.length = bs.length ∧ (ApE w W c2 gp gh gf gm gs gr n us2 m2 (K + 20) er us vu vb bl ever dims q oc B vo ys vy bs) ∧ Row W q6 30 xw.cells ∧ Row W q8 30 xa.cells)) (fun vk _ => bs.length - (intOf vk).toNat)
  case atStart => exact ⟨0, rfl, Nat.zero_le _, bs, ⟨rfl, HA.out, HQQ.out.1, HQQ.out.2.1⟩⟩
  case round =>
   obtain ⟨k, rfl, hk, ys, HI⟩ := hrel
   by_cases hlt : k < bs.length
   ·go_upto_region 7 with fail
    refine wp_region_lit ?_
    refine wl rfl (.int .i64 (k : Nat)) _ (run_mvZ (.tmp 10) rfl (.int .i64 (k : Nat)) rfl) ?_
    refine wl rfl vo _ (run_mvZ (.tmp 5) rfl vo rfl) ?_
    refine wl rfl (.int .i64 (bs.length : Nat)) _ (run_lenBO HI.out.2.1.own HI.out.1 (.tmp 42) rfl rfl) ?_
    refine wl rfl (.bool true) _ (run_lssZ (.tmp 41) (.tmp 43) rfl (k : Nat) (bs.length : Nat) rfl rfl true (decide_eq_true (by omega))) ?_
    simp only [Act.put, aS, aC, aZ]
    refine wpList_nil ?_
    obtain ⟨sb, cur, hsb, hix, hrow, hcl, hset⟩ := spoil HI.out.2.1.own k (by rw [HI.out.1]; exact hlt)
    have HSP : Hid ((∀ w', (Instr.indexAt 28 vo (.int .i64 (k : Nat))).run Tryd.prog w' = .ok (.pointer (some ⟨sb, k, none⟩)) w') ∧ Row wr sb 5 cur ∧ vo.ownBlock = some sb ∧ BOwn (wr.setCell ⟨sb, k, none⟩ (.int .u8 ((99 : Nat) : Int))) B vo (ys.set k 99)) := ⟨hix, hrow, hsb, hset 99⟩
    clear hsb hix hrow hset
    go_upto_region 9 with fail
    refine wp_region_lit ?_
    refine wl rfl vo _ (run_mvZ (.tmp 5) rfl vo rfl) ?_
    refine wl rfl (.int .i64 (k : Nat)) _ (run_mvZ (.tmp 10) rfl (.int .i64 (k : Nat)) rfl) ?_
    refine wl rfl (.pointer (some ⟨sb, k, none⟩)) _ (run_idx (.tmp 47) (.tmp 48) rfl _ _ _ rfl rfl HSP.out.1) ?_
    simp only [Act.put, aS, aC, aZ]
    refine wlS rfl rfl _ (run_putRow (t := 5) info5 (.tmp 49) (.const (.int .u8 99)) rfl sb k 5 cur rfl (.int .u8 99) rfl ⟨rfl, rfl⟩ HSP.out.2.1 hcl) ?_
    have HZ : Hid ((ys.set k 99).length = bs.length ∧ (ApE w (wr.setCell ⟨sb, k, none⟩ (.int .u8 ((99 : Nat) : Int))) c2 gp gh gf gm gs gr n us2 m2 (K + 20) er us vu vb bl ever dims q oc B vo (ys.set k 99) vy bs) ∧ Row (wr.setCell ⟨sb, k, none⟩ (.int .u8 ((99 : Nat) : Int))) q6 30 xw.cells ∧ Row (wr.setCell ⟨sb, k, none⟩ (.int .u8 ((99 : Nat) : Int))) q8 30 xa.cells) := ⟨(by rw [List.length_set]; exact HI.out.1), HI.out.2.1.spoil HSP.out.2.2.1 HSP.out.2.1 HSP.out.2.2.2, Row.setCell_other HI.out.2.2.1 (row_ne HI.out.2.2.1 HSP.out.2.1 (by decide)) _ _, Row.setCell_other HI.out.2.2.2 (row_ne HI.out.2.2.2 HSP.out.2.1 (by decide)) _ _⟩
    obtain ⟨wz, hW_⟩ : ∃ U_ : World, U_ = wr.setCell ⟨sb, k, none⟩ (.int .u8 99) := ⟨_, rfl⟩
    replace HZ : Hid ((ys.set k 99).length = bs.length ∧ (ApE w wz c2 gp gh gf gm gs gr n us2 m2 (K + 20) er us vu vb bl ever dims q oc B vo (ys.set k 99) vy bs) ∧ Row wz q6 30 xw.cells ∧ Row wz q8 30 xa.cells) := (by rw [hW_]; exact HZ.out)
    rw [← hW_]
    clear hW_
    refine wpList_nil ?_
    go_wp2_with fail
    refine ⟨⟨k + 1, by go_num, by omega, ys.set k 99, HZ⟩, ?_⟩
    simp [intOf]; omega
   ·go_upto_region 7 with fail
    refine wp_region_lit ?_
    refine wl rfl (.int .i64 (k : Nat)) _ (run_mvZ (.tmp 10) rfl (.int .i64 (k : Nat)) rfl) ?_
    refine wl rfl vo _ (run_mvZ (.tmp 5) rfl vo rfl) ?_
    refine wl rfl (.int .i64 (bs.length : Nat)) _ (run_lenBO HI.out.2.1.own HI.out.1 (.tmp 42) rfl rfl) ?_
    refine wl rfl (.bool false) _ (run_lssZ (.tmp 41) (.tmp 43) rfl (k : Nat) (bs.length : Nat) rfl rfl false (decide_eq_false (by omega))) ?_
    simp only [Act.put, aS, aC, aZ]
    refine wpList_nil ?_
    obtain ⟨V4, hV4⟩ : ∃ U_ : World, U_ = wr := ⟨_, rfl⟩
    rw [← hV4]
    have HA4 : Hid ((ApE w V4 c2 gp gh gf gm gs gr n us2 m2 (K + 20) er us vu vb bl ever dims q oc B vo ys vy bs) ∧ Row V4 q6 30 xw.cells ∧ Row V4 q8 30 xa.cells) := (by rw [hV4]; exact HI.out.2)
    clear HI hV4 HA
    rcases HR.out.1 with ⟨hlen, rfl, rfl, hu2⟩ | ⟨hlen, rfl, hfull, rfl, rfl, hu2⟩ | ⟨hlen, rfl, a, hfit, rfl, rfl, rfl, rfl⟩ | ⟨hlen, rfl, a, rfl, rfl, rfl, hu2⟩
    ·have hu3 := hu2.symm
     subst hu3
     go_upto_region 10 with fail
     refine wp_region_lit ?_
     refine wl rfl (.pointer (some ⟨q, 0 + 2, none⟩)) _ (run_fieldOp' f33_2 (.tmp 3) rfl q (0) rfl) ?_
     refine wl rfl vy _ (run_load1 o28 (.tmp 50) rfl q (0 + 2) rfl vy (HA4.out.1.o.at 2 _ HM.out.2.2.2.2.1)) ?_
     refine wl rfl (.int .i64 (bs.length : Nat)) _ (run_lenS HA4.out.1.inn (.tmp 51) rfl rfl) ?_
     refine wl rfl (.bool true) _ (run_gtrZ (.tmp 52) (.const (.int .i64 512)) rfl (bs.length : Nat) 512 rfl rfl true (decide_eq_true (by omega))) ?_
     simp only [Act.put, aS, aC, aZ]
     refine wpList_nil ?_
     go_upto_region 11 with fail
     refine wp_region_lit ?_
     refine wl rfl (.int .i64 5) _ (run_mvZ (.tmp 9) rfl (.int .i64 5) rfl) ?_
     refine wl rfl (.bool bt) _ ((by rw [HBT.out]; exact run_eqZ (.tmp 54) (.const (.int .i64 5)) rfl 5 5 rfl rfl true rfl)) ?_
     refine wl rfl (.bool bt) _ (run_mvZ (.tmp 55) rfl (.bool bt) rfl) ?_
     refine wl (by rw [HBT.out]; kernel_rfl) (.agg (zP.cells).toArray) _ (run_loadA ag30 (.tmp 8) rfl q8 (0) rfl (zP.cells) rfl (rows_one HA4.out.2.2)) ?_
     simp only [Act.put, aS, aC, aZ]
     refine wl (by rw [HBT.out]; kernel_rfl) (.agg (plC 0 0 0 false).toArray) _ (run_build30z rfl) ?_
     refine wl (by rw [HBT.out]; kernel_rfl) (.bool bt) _ ((by rw [HBT.out]; exact run_eqPl (.tmp 57) (.tmp 58) rfl 0 0 0 0 0 0 false false rfl rfl true (by simp))) ?_
     refine wl rfl (.bool bt) _ (run_pickZ (.tmp 56) (.tmp 59) (.const (.bool false)) rfl bt (.bool bt) rfl (by rw [HBT.out]; rfl)) ?_
     refine wl rfl (.bool bt) _ (run_asZ (.tmp 60) rfl (.bool bt) rfl) ?_
     simp only [Act.put, aS, aC, aZ]
     refine wpList_nil ?_
     obtain rfl : bt = true := HBT.out
     go_wp2_with fail
     rw [HPQ.out]
     exact ⟨rfl, c2, gh, gf, gm, m2, us, vu, vb, bl, ever, dims, HA4.out.1.h.on (by decide), HA4.out.1.d, HM.out.2.2.2.2.2.1, by omega, by omega, by omega⟩
    ·have hu3 := hu2.symm
     subst hu3
     go_upto_region 10 with fail
     refine wp_region_lit ?_
     refine wl rfl (.pointer (some ⟨q, 0 + 2, none⟩)) _ (run_fieldOp' f33_2 (.tmp 3) rfl q (0) rfl) ?_
     refine wl rfl vy _ (run_load1 o28 (.tmp 50) rfl q (0 + 2) rfl vy (HA4.out.1.o.at 2 _ HM.out.2.2.2.2.1)) ?_
     refine wl rfl (.int .i64 (bs.length : Nat)) _ (run_lenS HA4.out.1.inn (.tmp 51) rfl rfl) ?_
     refine wl rfl (.bool false) _ (run_gtrZ (.tmp 52) (.const (.int .i64 512)) rfl (bs.length : Nat) 512 rfl rfl false (decide_eq_false (by omega))) ?_
     simp only [Act.put, aS, aC, aZ]
     refine wpList_nil ?_
     go_upto_region 12 with fail
     refine wp_region_until (S := fun X => Row X gs 38 (scells gp gh gr (ever : Nat) (dims : Nat)) ∧ Row X q 33 oc) 12 (by kernel_rfl) ?_
     show wpAnyU _ _ _ _ _ _ 13 (Array.replicate 13 false) _ _
     obtain ⟨X, hX⟩ : ∃ X : World, X = { V4 with drawn := V4.drawn + 1 } := ⟨_, rfl⟩
     rw [← hX]
     have HBX : Hid (Below V4.heap.size V4 X) := (by rw [hX]; exact ⟨rfl, rfl, rfl, Nat.le_refl _, fun _ _ => rfl⟩)
     replace HA4 : Hid ((ApE w X c2 gp gh gf gm gs gr n us m2 (K + 20) 3 us vu vb bl ever dims q oc B vo ys vy bs) ∧ Row X q6 30 xw.cells ∧ Row X q8 30 zP.cells) := ⟨HA4.out.1.bel HBX.out, HA4.out.2.1.later HBX.out HA4.out.2.1.lt, HA4.out.2.2.later HBX.out HA4.out.2.2.lt⟩
     clear HBX
     have HS_ : Row X gs 38 (scells gp gh gr (ever : Nat) (dims : Nat)) ∧ Row X q 33 oc := ⟨HA4.out.1.d.row, HA4.out.1.o⟩
     clear hX
     refine tV 0 [12] 61 rfl rfl (gRun rfl (ptr gs) fun _ h => run_mvZ (.tmp 0) rfl (ptr gs) rfl) HS_ ?_
     refine tV 1 [12] 62 rfl rfl (gRun rfl (ptr gs) fun _ h => run_mvZ (.tmp 0) rfl (ptr gs) rfl) HS_ ?_
     refine tV 2 [12] 63 rfl rfl (gRun rfl (ptr gs) fun _ h => run_nil (.tmp 62) rfl ⟨gs, 0, none⟩ rfl) HS_ ?_
     refine tV 3 [12] 64 rfl rfl (gRun rfl (.pointer (some ⟨gs, 0 + 3, none⟩)) fun _ h => run_fieldOp' f38_3 (.tmp 63) rfl gs (0) rfl) HS_ ?_
     simp only [Act.put, aS, aC, aZ]
     refine tV 4 [12] 65 rfl rfl (gRun rfl (.int .i64 (ever : Nat)) fun _ h => run_load1 o3 (.tmp 64) rfl gs (0 + 3) rfl (.int .i64 (ever : Nat)) (h.1.at 3 _ rfl)) HS_ ?_
     refine tV 5 [12] 66 rfl rfl (gRun rfl (.pointer (some ⟨q, 0 + 2, none⟩)) fun _ h => run_fieldOp' f33_2 (.tmp 3) rfl q (0) rfl) HS_ ?_
     refine tV 6 [12] 67 rfl rfl (gRun rfl vy fun _ h => run_load1 o28 (.tmp 66) rfl q (0 + 2) rfl vy (h.2.at 2 _ HM.out.2.2.2.2.1)) HS_ ?_
     refine tV 7 [12] 68 rfl rfl (gRun rfl (.int .i64 (bs.length : Nat)) fun _ h => run_lenS HM.out.2.2.1 (.tmp 67) rfl rfl) HS_ ?_
     simp only [Act.put, aS, aC, aZ]
     refine oneU (i := 8) (by kernel_rfl) ?_
     refine opCallG (some 69) rfl rfl rfl 22 _ (run_call eN22 [.tmp 68] _ rfl [(.int .i64 (bs.length : Nat))] rfl) ?_
     refine (rcost_any X bs.length (by omega)).mono ?_
     rintro e X_ ⟨rfl, rfl⟩
     refine ⟨_, rfl, ?_⟩
     refine ⟨fun _ => HS_, ?_⟩
     simp only [Act.put, aS, aC, aZ]
     refine tV 9 [12] 70 rfl rfl (gRun rfl (.int .i64 ((ever + costN bs.length) : Nat)) fun _ h => run_addZ (.tmp 65) (.tmp 69) rfl (ever : Nat) (costN bs.length : Nat) _ rfl rfl (by omega) (by omega) (by have := (costN_le hlen).2; omega)) HS_ ?_
     refine tV 10 [11, 12] 71 rfl rfl (gRun rfl (ptr gs) fun _ h => run_nil (.tmp 61) rfl ⟨gs, 0, none⟩ rfl) HS_ ?_
     refine tV 11 [12] 72 rfl rfl (gRun rfl (.pointer (some ⟨gs, 0 + 3, none⟩)) fun _ h => run_fieldOp' f38_3 (.tmp 71) rfl gs (0) rfl) HS_ ?_
     simp only [Act.put, aS, aC, aZ]
     refine oneU (i := 12) (by kernel_rfl) ?_
     refine opSkipZ rfl rfl rfl _ (run_putRow (t := 3) sz3 (.tmp 72) (.tmp 70) rfl gs (0 + 3) 38 _ rfl (.int .i64 ((ever + costN bs.length) : Nat)) rfl ⟨rfl, rfl⟩ HS_.1 (by decide : 0 + 3 < 5)) ?_
     refine ⟨(fun h => absurd (show true = false from h) (by decide)), ?_⟩
     have hb_ := (Ch.refl (· = gs) X).setCell (Or.inl rfl) (0 + 3) (.int .i64 ((ever + costN bs.length) : Nat))
     have r_ := HS_.1.setCell (0 + 3) (.int .i64 ((ever + costN bs.length) : Nat))
     obtain ⟨V5, hW_⟩ : ∃ U_ : World, U_ = X.setCell ⟨gs, 0 + 3, none⟩ (.int .i64 ((ever + costN bs.length) : Nat)) := ⟨_, rfl⟩
     rw [← hW_] at hb_ r_ ⊢
     have HA5 : Hid ((ApE w V5 c2 gp gh gf gm gs gr n us m2 (K + 20) 3 us vu vb bl (ever + costN bs.length) dims q oc B vo ys vy bs) ∧ Row V5 q6 30 xw.cells ∧ Row V5 q8 30 zP.cells) := ⟨HA4.out.1.tick hb_ r_, hb_.row (row_ne HA4.out.2.1 HA4.out.1.d.row (by decide)) HA4.out.2.1, hb_.row (row_ne HA4.out.2.2 HA4.out.1.d.row (by decide)) HA4.out.2.2⟩
     clear hb_ r_ hW_ HA4 HS_
     refine wpAnyU_done (by kernel_rfl) ?_ _
     go_upto_region 13 with fail
     refine wp_region_lit ?_
     refine wl rfl (.bool false) _ (run_mvZ (.tmp 7) rfl (.bool false) rfl) ?_
     refine wl rfl (.bool true) _ (run_not (.tmp 73) 4 rfl false rfl) ?_
     simp only [Act.put, aS, aC, aZ]
     refine wpList_nil ?_
     have hf8 := HM.out.2.2.2.2.2.1.full (fun u hu => ⟨(HM.out.1.ok.1 u hu).1, (HM.out.1.ok.1 u hu).2.1⟩) (costN_le hlen).2 hfull
     have hc1 := costN_le hlen
     go_upto_region 14 with fail
     refine wp_region_held (S := fun X => Row X gs 38 (scells gp gh gr ((ever + costN bs.length) : Nat) (dims : Nat)) ∧ Row X gr 60 [.int .i64 1, .int .i64 (n : Nat), vu, vb] ∧ Row X q8 30 zP.cells) (by kernel_rfl) ?_
     show wpAnyH _ _ _ _ _ 24 (Array.replicate 24 false) _ _
     obtain ⟨X, hX⟩ : ∃ X : World, X = { V5 with drawn := V5.drawn + 1 } := ⟨_, rfl⟩
     rw [← hX]
     have HBX : Hid (Below V5.heap.size V5 X) := (by rw [hX]; exact ⟨rfl, rfl, rfl, Nat.le_refl _, fun _ _ => rfl⟩)
     replace HA5 : Hid ((ApE w X c2 gp gh gf gm gs gr n us m2 (K + 20) 3 us vu vb bl (ever + costN bs.length) dims q oc B vo ys vy bs) ∧ Row X q6 30 xw.cells ∧ Row X q8 30 zP.cells) := ⟨HA5.out.1.bel HBX.out, HA5.out.2.1.later HBX.out HA5.out.2.1.lt, HA5.out.2.2.later HBX.out HA5.out.2.2.lt⟩
     clear HBX
     have HS_ : Row X gs 38 (scells gp gh gr ((ever + costN bs.length) : Nat) (dims : Nat)) ∧ Row X gr 60 [.int .i64 1, .int .i64 (n : Nat), vu, vb] ∧ Row X q8 30 zP.cells := ⟨HA5.out.1.d.row, HA5.out.1.d.r.row, HA5.out.2.2⟩
     clear hX
     refine tH 0 75 rfl rfl (gRun rfl (.int .i64 3) fun _ h => run_mvZ (.tmp 9) rfl (.int .i64 3) rfl) HS_ ?_
     refine tH 1 76 rfl rfl (gRun rfl (.bool true) fun _ h => run_eqZ (.tmp 75) (.const (.int .i64 3)) rfl (3) (3) rfl rfl true rfl) HS_ ?_
     refine tH 2 77 rfl rfl (gRun rfl (.bool true) fun _ h => run_mvZ (.tmp 76) rfl (.bool true) rfl) HS_ ?_
     refine tH 3 78 rfl rfl (gRun (by kernel_rfl) (.agg (zP.cells).toArray) fun _ h => run_loadA ag30 (.tmp 8) rfl q8 (0) rfl (zP.cells) rfl (rows_one h.2.2)) HS_ ?_
     simp only [Act.put, aS, aC, aZ]
     refine tH 4 79 rfl rfl (gRun (by kernel_rfl) (.agg (plC 0 0 0 false).toArray) fun _ h => run_build30z rfl) HS_ ?_
     refine tH 5 80 rfl rfl (gRun (by kernel_rfl) (.bool true) fun _ h => run_eqPl (.tmp 78) (.tmp 79) rfl 0 0 0 0 0 0 false false rfl rfl true (by simp)) HS_ ?_
     refine tH 6 81 rfl rfl (gRun rfl (.bool true) fun _ h => run_pickZ (.tmp 77) (.tmp 80) (.const (.bool false)) rfl true (.bool true) rfl rfl) HS_ ?_
     refine tH 7 82 rfl rfl (gRun rfl (.bool true) fun _ h => run_mvZ (.tmp 81) rfl (.bool true) rfl) HS_ ?_
     simp only [Act.put, aS, aC, aZ]
     refine tH 8 83 rfl rfl (gRun (by kernel_rfl) (ptr gs) fun _ h => run_mvZ (.tmp 0) rfl (ptr gs) rfl) HS_ ?_
     refine tH 9 84 rfl rfl (gRun (by kernel_rfl) (ptr gs) fun _ h => run_nil (.tmp 83) rfl ⟨gs, 0, none⟩ rfl) HS_ ?_
     refine tH 10 85 rfl rfl (gRun (by kernel_rfl) (.pointer (some ⟨gs, 0 + 3, none⟩)) fun _ h => run_fieldOp' f38_3 (.tmp 84) rfl gs (0) rfl) HS_ ?_
     refine tH 11 86 rfl rfl (gRun (by kernel_rfl) (.int .i64 ((ever + costN bs.length) : Nat)) fun _ h => run_load1 o3 (.tmp 85) rfl gs (0 + 3) rfl (.int .i64 ((ever + costN bs.length) : Nat)) (h.1.at 3 _ rfl)) HS_ ?_
     simp only [Act.put, aS, aC, aZ]
     refine tH 12 87 rfl rfl (gRun (by kernel_rfl) (ptr gs) fun _ h => run_mvZ (.tmp 0) rfl (ptr gs) rfl) HS_ ?_
     refine tH 13 88 rfl rfl (gRun (by kernel_rfl) (ptr gs) fun _ h => run_nil (.tmp 87) rfl ⟨gs, 0, none⟩ rfl) HS_ ?_
     refine tH 14 89 rfl rfl (gRun (by kernel_rfl) (.pointer (some ⟨gs, 0 + 2, none⟩)) fun _ h => run_fieldOp' f38_2 (.tmp 88) rfl gs (0) rfl) HS_ ?_
     refine tH 15 90 rfl rfl (gRun (by kernel_rfl) (ptr gr) fun _ h => run_load1 o36 (.tmp 89) rfl gs (0 + 2) rfl (ptr gr) (h.1.at 2 _ rfl)) HS_ ?_
     simp only [Act.put, aS, aC, aZ]
     refine tH 16 91 rfl rfl (gRun (by kernel_rfl) (ptr gr) fun _ h => run_nil (.tmp 90) rfl ⟨gr, 0, none⟩ rfl) HS_ ?_
     refine tH 17 92 rfl rfl (gRun (by kernel_rfl) (.pointer (some ⟨gr, 0 + 1, none⟩)) fun _ h => run_fieldOp' f60_1 (.tmp 91) rfl gr (0) rfl) HS_ ?_
     refine tH 18 93 rfl rfl (gRun (by kernel_rfl) (.int .i64 (n : Nat)) fun _ h => run_load1 o3 (.tmp 92) rfl gr (0 + 1) rfl (.int .i64 (n : Nat)) (h.2.1.at 1 _ rfl)) HS_ ?_
     refine tH 19 94 rfl rfl (gRun (by kernel_rfl) (.int .i64 ((n / 16 : Nat) : Int)) fun _ h => run_quo16 (.tmp 93) rfl n (by omega) rfl) HS_ ?_
     simp only [Act.put, aS, aC, aZ]
     refine tH 20 95 rfl rfl (gRun (by kernel_rfl) (.int .i64 ((8 * (n / 16) : Nat) : Int)) fun _ h => run_mulZ (.const (.int .i64 8)) (.tmp 94) rfl 8 ((n / 16 : Nat) : Int) _ rfl rfl (by omega) (by omega) (by omega)) HS_ ?_
     refine tH 21 96 rfl rfl (gRun (by kernel_rfl) (.bool true) fun _ h => run_gtrZ (.tmp 86) (.tmp 95) rfl ((ever + costN bs.length) : Nat) ((8 * (n / 16) : Nat) : Int) rfl rfl true (decide_eq_true (by omega))) HS_ ?_
     refine tH 22 97 rfl rfl (gRun rfl (.bool true) fun _ h => run_pickZ (.tmp 82) (.tmp 96) (.const (.bool false)) rfl true (.bool true) rfl rfl) HS_ ?_
     refine tH 23 4 rfl rfl (gRun rfl (.bool true) fun _ h => run_asZ (.tmp 97) rfl (.bool true) rfl) HS_ ?_
     simp only [Act.put, aS, aC, aZ]
     refine wpAnyH_done (by kernel_rfl) ?_ _
     go_wp2_with fail
     rw [HPQ.out]
     exact ⟨rfl, c2, gh, gf, gm, m2, us, vu, vb, bl, (ever + costN bs.length), dims, HA5.out.1.h.on (by decide), HA5.out.1.d, HM.out.2.2.2.2.2.1.mono (Nat.le_add_right _ _), (by have := (costN_le hlen).2; omega), by omega, by omega⟩
    ·go_upto_region 10 with fail
     refine wp_region_lit ?_
     refine wl rfl (.pointer (some ⟨q, 0 + 2, none⟩)) _ (run_fieldOp' f33_2 (.tmp 3) rfl q (0) rfl) ?_
     refine wl rfl vy _ (run_load1 o28 (.tmp 50) rfl q (0 + 2) rfl vy (HA4.out.1.o.at 2 _ HM.out.2.2.2.2.1)) ?_
     refine wl rfl (.int .i64 (bs.length : Nat)) _ (run_lenS HA4.out.1.inn (.tmp 51) rfl rfl) ?_
     refine wl rfl (.bool false) _ (run_gtrZ (.tmp 52) (.const (.int .i64 512)) rfl (bs.length : Nat) 512 rfl rfl false (decide_eq_false (by omega))) ?_
     simp only [Act.put, aS, aC, aZ]
     refine wpList_nil ?_
     go_upto_region 12 with fail
     refine wp_region_until (S := fun X => Row X gs 38 (scells gp gh gr (ever : Nat) (dims : Nat)) ∧ Row X q 33 oc) 12 (by kernel_rfl) ?_
     show wpAnyU _ _ _ _ _ _ 13 (Array.replicate 13 false) _ _
     obtain ⟨X, hX⟩ : ∃ X : World, X = { V4 with drawn := V4.drawn + 1 } := ⟨_, rfl⟩
     rw [← hX]
     have HBX : Hid (Below V4.heap.size V4 X) := (by rw [hX]; exact ⟨rfl, rfl, rfl, Nat.le_refl _, fun _ _ => rfl⟩)
     replace HA4 : Hid ((ApE w X c2 gp gh gf gm gs gr n (us ++ [(a, bs)]) m2 (K + 20) 0 us vu vb bl ever dims q oc B vo ys vy bs) ∧ Row X q6 30 (toP (a, bs)).cells ∧ Row X q8 30 (toP (a, bs)).cells) := ⟨HA4.out.1.bel HBX.out, HA4.out.2.1.later HBX.out HA4.out.2.1.lt, HA4.out.2.2.later HBX.out HA4.out.2.2.lt⟩
     clear HBX
     have HS_ : Row X gs 38 (scells gp gh gr (ever : Nat) (dims : Nat)) ∧ Row X q 33 oc := ⟨HA4.out.1.d.row, HA4.out.1.o⟩
     clear hX
     refine tV 0 [12] 61 rfl rfl (gRun rfl (ptr gs) fun _ h => run_mvZ (.tmp 0) rfl (ptr gs) rfl) HS_ ?_
     refine tV 1 [12] 62 rfl rfl (gRun rfl (ptr gs) fun _ h => run_mvZ (.tmp 0) rfl (ptr gs) rfl) HS_ ?_
     refine tV 2 [12] 63 rfl rfl (gRun rfl (ptr gs) fun _ h => run_nil (.tmp 62) rfl ⟨gs, 0, none⟩ rfl) HS_ ?_
     refine tV 3 [12] 64 rfl rfl (gRun rfl (.pointer (some ⟨gs, 0 + 3, none⟩)) fun _ h => run_fieldOp' f38_3 (.tmp 63) rfl gs (0) rfl) HS_ ?_
     simp only [Act.put, aS, aC, aZ]
     refine tV 4 [12] 65 rfl rfl (gRun rfl (.int .i64 (ever : Nat)) fun _ h => run_load1 o3 (.tmp 64) rfl gs (0 + 3) rfl (.int .i64 (ever : Nat)) (h.1.at 3 _ rfl)) HS_ ?_
     refine tV 5 [12] 66 rfl rfl (gRun rfl (.pointer (some ⟨q, 0 + 2, none⟩)) fun _ h => run_fieldOp' f33_2 (.tmp 3) rfl q (0) rfl) HS_ ?_
     refine tV 6 [12] 67 rfl rfl (gRun rfl vy fun _ h => run_load1 o28 (.tmp 66) rfl q (0 + 2) rfl vy (h.2.at 2 _ HM.out.2.2.2.2.1)) HS_ ?_
     refine tV 7 [12] 68 rfl rfl (gRun rfl (.int .i64 (bs.length : Nat)) fun _ h => run_lenS HM.out.2.2.1 (.tmp 67) rfl rfl) HS_ ?_
     simp only [Act.put, aS, aC, aZ]
     refine oneU (i := 8) (by kernel_rfl) ?_
     refine opCallG (some 69) rfl rfl rfl 22 _ (run_call eN22 [.tmp 68] _ rfl [(.int .i64 (bs.length : Nat))] rfl) ?_
     refine (rcost_any X bs.length (by omega)).mono ?_
     rintro e X_ ⟨rfl, rfl⟩
     refine ⟨_, rfl, ?_⟩
     refine ⟨fun _ => HS_, ?_⟩
     simp only [Act.put, aS, aC, aZ]
     refine tV 9 [12] 70 rfl rfl (gRun rfl (.int .i64 ((ever + costN bs.length) : Nat)) fun _ h => run_addZ (.tmp 65) (.tmp 69) rfl (ever : Nat) (costN bs.length : Nat) _ rfl rfl (by omega) (by omega) (by have := (costN_le hlen).2; omega)) HS_ ?_
     refine tV 10 [11, 12] 71 rfl rfl (gRun rfl (ptr gs) fun _ h => run_nil (.tmp 61) rfl ⟨gs, 0, none⟩ rfl) HS_ ?_
     refine tV 11 [12] 72 rfl rfl (gRun rfl (.pointer (some ⟨gs, 0 + 3, none⟩)) fun _ h => run_fieldOp' f38_3 (.tmp 71) rfl gs (0) rfl) HS_ ?_
     simp only [Act.put, aS, aC, aZ]
     refine oneU (i := 12) (by kernel_rfl) ?_
     refine opSkipZ rfl rfl rfl _ (run_putRow (t := 3) sz3 (.tmp 72) (.tmp 70) rfl gs (0 + 3) 38 _ rfl (.int .i64 ((ever + costN bs.length) : Nat)) rfl ⟨rfl, rfl⟩ HS_.1 (by decide : 0 + 3 < 5)) ?_
     refine ⟨(fun h => absurd (show true = false from h) (by decide)), ?_⟩
     have hb_ := (Ch.refl (· = gs) X).setCell (Or.inl rfl) (0 + 3) (.int .i64 ((ever + costN bs.length) : Nat))
     have r_ := HS_.1.setCell (0 + 3) (.int .i64 ((ever + costN bs.length) : Nat))
     obtain ⟨V5, hW_⟩ : ∃ U_ : World, U_ = X.setCell ⟨gs, 0 + 3, none⟩ (.int .i64 ((ever + costN bs.length) : Nat)) := ⟨_, rfl⟩
     rw [← hW_] at hb_ r_ ⊢
     have HA5 : Hid ((ApE w V5 c2 gp gh gf gm gs gr n (us ++ [(a, bs)]) m2 (K + 20) 0 us vu vb bl (ever + costN bs.length) dims q oc B vo ys vy bs) ∧ Row V5 q6 30 (toP (a, bs)).cells ∧ Row V5 q8 30 (toP (a, bs)).cells) := ⟨HA4.out.1.tick hb_ r_, hb_.row (row_ne HA4.out.2.1 HA4.out.1.d.row (by decide)) HA4.out.2.1, hb_.row (row_ne HA4.out.2.2 HA4.out.1.d.row (by decide)) HA4.out.2.2⟩
     clear hb_ r_ hW_ HA4 HS_
     refine wpAnyU_done (by kernel_rfl) ?_ _
     go_upto_region 13 with fail
     refine wp_region_lit ?_
     refine wl rfl (.bool true) _ (run_mvZ (.tmp 7) rfl (.bool true) rfl) ?_
     refine wl rfl (.bool false) _ (run_not (.tmp 73) 4 rfl true rfl) ?_
     simp only [Act.put, aS, aC, aZ]
     refine wpList_nil ?_
     go_upto_region 15 with fail
     refine wp_region_lit ?_
     refine wl rfl (.int .i64 0) _ (run_mvZ (.tmp 9) rfl (.int .i64 0) rfl) ?_
     refine wl rfl (.bool false) _ (run_eqZ (.tmp 98) (.const (.int .i64 2)) rfl (0) (2) rfl rfl false rfl) ?_
     simp only [Act.put, aS, aC, aZ]
     refine wpList_nil ?_
     go_upto_region 21 with fail
     refine wp_region_held (S := fun X => Row X gs 38 (scells gp gh gr ((ever + costN bs.length) : Nat) (dims : Nat)) ∧ Row X q 33 oc ∧ Row X q6 30 (toP (a, bs)).cells) (by kernel_rfl) ?_
     show wpAnyH _ _ _ _ _ 8 (Array.replicate 8 false) _ _
     obtain ⟨X, hX⟩ : ∃ X : World, X = { V5 with drawn := V5.drawn + 1 } := ⟨_, rfl⟩
     rw [← hX]
     have HBX : Hid (Below V5.heap.size V5 X) := (by rw [hX]; exact ⟨rfl, rfl, rfl, Nat.le_refl _, fun _ _ => rfl⟩)
     replace HA5 : Hid ((ApE w X c2 gp gh gf gm gs gr n (us ++ [(a, bs)]) m2 (K + 20) 0 us vu vb bl (ever + costN bs.length) dims q oc B vo ys vy bs) ∧ Row X q6 30 (toP (a, bs)).cells ∧ Row X q8 30 (toP (a, bs)).cells) := ⟨HA5.out.1.bel HBX.out, HA5.out.2.1.later HBX.out HA5.out.2.1.lt, HA5.out.2.2.later HBX.out HA5.out.2.2.lt⟩
     clear HBX
     have HS_ : Row X gs 38 (scells gp gh gr ((ever + costN bs.length) : Nat) (dims : Nat)) ∧ Row X q 33 oc ∧ Row X q6 30 (toP (a, bs)).cells := ⟨HA5.out.1.d.row, HA5.out.1.o, HA5.out.2.1⟩
     clear hX
     refine tH 0 126 rfl rfl (gRun rfl (ptr gs) fun _ h => run_mvZ (.tmp 0) rfl (ptr gs) rfl) HS_ ?_
     refine tH 1 127 rfl rfl (gRun rfl (ptr gs) fun _ h => run_nil (.tmp 126) rfl ⟨gs, 0, none⟩ rfl) HS_ ?_
     refine tH 2 128 rfl rfl (gRun rfl (.pointer (some ⟨gs, 0 + 2, none⟩)) fun _ h => run_fieldOp' f38_2 (.tmp 127) rfl gs (0) rfl) HS_ ?_
     refine tH 3 129 rfl rfl (gRun rfl (ptr gr) fun _ h => run_load1 o36 (.tmp 128) rfl gs (0 + 2) rfl (ptr gr) (h.1.at 2 _ rfl)) HS_ ?_
     simp only [Act.put, aS, aC, aZ]
     refine tH 4 130 rfl rfl (gRun rfl (.agg ((toP (a, bs)).cells).toArray) fun _ h => run_loadA ag30 (.tmp 6) rfl q6 (0) rfl ((toP (a, bs)).cells) rfl (rows_one h.2.2)) HS_ ?_
     refine tH 5 131 rfl rfl (gRun rfl (.pointer (some ⟨q, 0 + 2, none⟩)) fun _ h => run_fieldOp' f33_2 (.tmp 3) rfl q (0) rfl) HS_ ?_
     refine tH 6 132 rfl rfl (gRun rfl vy fun _ h => run_load1 o28 (.tmp 131) rfl q (0 + 2) rfl vy (h.2.1.at 2 _ HM.out.2.2.2.2.1)) HS_ ?_
     simp only [Act.put, aS, aC, aZ]
     refine oneH (i := 7) (by kernel_rfl) ?_
     refine opCallG (some 133) rfl rfl rfl 46 _ (run_call eN46 [.tmp 129, .tmp 130, .tmp 132] _ rfl [(ptr gr), (.agg ((toP (a, bs)).cells).toArray), vy] rfl) ?_
     refine (add_any (HA5.out.1.h.on (by decide)) HA5.out.1.d.r (a, bs) vy (fun W' hc => HA5.out.1.far.keep HA5.out.1.inn (HA5.out.1.h.own hc (fun _ _ e => HA5.out.1.d.r.out e)).o.pl.below fun b ho _ hn _ => hc.block b ho.2.1 hn) (by omega) (by show bs.length ≤ 1000000; omega)).mono ?_
     rintro e V6 ⟨rfl, hc_, vu2, vb2, bl2, hr_⟩
     refine ⟨_, rfl, ?_⟩
     have hnf : ∀ k, B ≤ k → ¬ Fr3 gr vu vb k := (fun k hk hf => by have := HA5.out.1.lb k (Or.inr (Or.inl hf)); omega)
     have hng : ¬ Fr3 gr vu vb gs := (fun hf => by
      rcases hf with h | h | h
      ·exact HA5.out.1.d.r.ne HA5.out.1.d.row (Or.inl rfl) h.symm
      ·exact HA5.out.1.d.r.ne HA5.out.1.d.row (Or.inr (Or.inl h)) rfl
      ·exact HA5.out.1.d.r.ne HA5.out.1.d.row (Or.inr (Or.inr (Or.inl h))) rfl)
     have HA6 : Hid ((HtW w V6 c2 gp gh gf gm m2 n (us ++ [(a, bs)]) (K + 20)) ∧ (Sd w V6 c2 gp gh gf gm gs gr n (us ++ [(a, bs)]) vu2 vb2 bl2 (ever + costN bs.length) dims) ∧ Row V6 q6 30 (toP (a, bs)).cells ∧ Row V6 q8 30 (toP (a, bs)).cells) := ⟨(HA5.out.1.h.on (by decide)).own hc_ (fun _ _ e => HA5.out.1.d.r.out e), ⟨hc_.row hng HA5.out.1.d.row, HA5.out.1.d.os.bel hc_.size, hr_⟩, hc_.row (hnf q6 HQQ.out.2.2.1) HA5.out.2.1, hc_.row (hnf q8 HQQ.out.2.2.2) HA5.out.2.2⟩
     replace HS_ : Row V6 gs 38 (scells gp gh gr ((ever + costN bs.length) : Nat) (dims : Nat)) ∧ Row V6 q 33 oc ∧ Row V6 q6 30 (toP (a, bs)).cells := ⟨HA6.out.2.1.row, hc_.row (fun hf => by have := HA5.out.1.lb q (Or.inr (Or.inl hf)); have := HQB.out; omega) HA5.out.1.o, HA6.out.2.2.1⟩
     clear hnf hng hc_ hr_ HA5
     refine ⟨HS_, ?_⟩
     simp only [Act.put, aS, aC, aZ]
     refine wpAnyH_done (by kernel_rfl) ?_ _
     go_upto_region 22 with fail
     refine wp_region_lit ?_
     refine wl rfl (.int .i64 0) _ (run_mvZ (.tmp 9) rfl (.int .i64 0) rfl) ?_
     refine wl rfl (.bool bt) _ ((by rw [HBT.out]; exact run_eqZ (.tmp 134) (.const (.int .i64 0)) rfl 0 0 rfl rfl true rfl)) ?_
     refine wl rfl (.bool bt) _ (run_mvZ (.tmp 135) rfl (.bool bt) rfl) ?_
     refine wl (by rw [HBT.out]; kernel_rfl) (.agg ((toP (a, bs)).cells).toArray) _ (run_loadA ag30 (.tmp 8) rfl q8 (0) rfl ((toP (a, bs)).cells) rfl (rows_one HA6.out.2.2.2)) ?_
     simp only [Act.put, aS, aC, aZ]
     refine wl (by rw [HBT.out]; kernel_rfl) (.agg ((toP (a, bs)).cells).toArray) _ (run_loadA ag30 (.tmp 6) rfl q6 (0) rfl ((toP (a, bs)).cells) rfl (rows_one HA6.out.2.2.1)) ?_
     refine wl (by rw [HBT.out]; kernel_rfl) (.bool bt) _ ((by rw [HBT.out]; exact run_eqPl (.tmp 137) (.tmp 138) rfl 1 (a : Nat) (costN bs.length : Nat) 1 (a : Nat) (costN bs.length : Nat) false false rfl rfl true (by simp))) ?_
     refine wl rfl (.bool bt) _ (run_pickZ (.tmp 136) (.tmp 139) (.const (.bool false)) rfl bt (.bool bt) rfl (by rw [HBT.out]; rfl)) ?_
     refine wl rfl (.bool bt) _ (run_asZ (.tmp 140) rfl (.bool bt) rfl) ?_
     simp only [Act.put, aS, aC, aZ]
     refine wpList_nil ?_
     obtain rfl : bt = true := HBT.out
     go_wp2_with fail
     rw [HPQ.out]
     exact ⟨rfl, c2, gh, gf, gm, m2, (us ++ [(a, bs)]), vu2, vb2, bl2, (ever + costN bs.length), dims, HA6.out.1, HA6.out.2.1, (by rw [List.map_append]; exact HM.out.2.2.2.2.2.1.add (fun u hu => ⟨(HM.out.1.ok.1 u hu).1, (HM.out.1.ok.1 u hu).2.1⟩) hfit), (by have := (costN_le hlen).2; omega), by omega, by omega⟩
    ·have hu3 := hu2.symm
     subst hu3
     go_upto_region 10 with fail
     refine wp_region_lit ?_
     refine wl rfl (.pointer (some ⟨q, 0 + 2, none⟩)) _ (run_fieldOp' f33_2 (.tmp 3) rfl q (0) rfl) ?_
     refine wl rfl vy _ (run_load1 o28 (.tmp 50) rfl q (0 + 2) rfl vy (HA4.out.1.o.at 2 _ HM.out.2.2.2.2.1)) ?_
     refine wl rfl (.int .i64 (bs.length : Nat)) _ (run_lenS HA4.out.1.inn (.tmp 51) rfl rfl) ?_
     refine wl rfl (.bool false) _ (run_gtrZ (.tmp 52) (.const (.int .i64 512)) rfl (bs.length : Nat) 512 rfl rfl false (decide_eq_false (by omega))) ?_
     simp only [Act.put, aS, aC, aZ]
     refine wpList_nil ?_
     go_upto_region 12 with fail
     refine wp_region_until (S := fun X => Row X gs 38 (scells gp gh gr (ever : Nat) (dims : Nat)) ∧ Row X q 33 oc) 12 (by kernel_rfl) ?_
     show wpAnyU _ _ _ _ _ _ 13 (Array.replicate 13 false) _ _
     obtain ⟨X, hX⟩ : ∃ X : World, X = { V4 with drawn := V4.drawn + 1 } := ⟨_, rfl⟩
     rw [← hX]
     have HBX : Hid (Below V4.heap.size V4 X) := (by rw [hX]; exact ⟨rfl, rfl, rfl, Nat.le_refl _, fun _ _ => rfl⟩)
     replace HA4 : Hid ((ApE w X c2 gp gh gf gm gs gr n us m2 (K + 20) 2 us vu vb bl ever dims q oc B vo ys vy bs) ∧ Row X q6 30 (toP (a, bs)).cells ∧ Row X q8 30 zP.cells) := ⟨HA4.out.1.bel HBX.out, HA4.out.2.1.later HBX.out HA4.out.2.1.lt, HA4.out.2.2.later HBX.out HA4.out.2.2.lt⟩
     clear HBX
     have HS_ : Row X gs 38 (scells gp gh gr (ever : Nat) (dims : Nat)) ∧ Row X q 33 oc := ⟨HA4.out.1.d.row, HA4.out.1.o⟩
     clear hX
     refine tV 0 [12] 61 rfl rfl (gRun rfl (ptr gs) fun _ h => run_mvZ (.tmp 0) rfl (ptr gs) rfl) HS_ ?_
     refine tV 1 [12] 62 rfl rfl (gRun rfl (ptr gs) fun _ h => run_mvZ (.tmp 0) rfl (ptr gs) rfl) HS_ ?_
     refine tV 2 [12] 63 rfl rfl (gRun rfl (ptr gs) fun _ h => run_nil (.tmp 62) rfl ⟨gs, 0, none⟩ rfl) HS_ ?_
     refine tV 3 [12] 64 rfl rfl (gRun rfl (.pointer (some ⟨gs, 0 + 3, none⟩)) fun _ h => run_fieldOp' f38_3 (.tmp 63) rfl gs (0) rfl) HS_ ?_
     simp only [Act.put, aS, aC, aZ]
     refine tV 4 [12] 65 rfl rfl (gRun rfl (.int .i64 (ever : Nat)) fun _ h => run_load1 o3 (.tmp 64) rfl gs (0 + 3) rfl (.int .i64 (ever : Nat)) (h.1.at 3 _ rfl)) HS_ ?_
     refine tV 5 [12] 66 rfl rfl (gRun rfl (.pointer (some ⟨q, 0 + 2, none⟩)) fun _ h => run_fieldOp' f33_2 (.tmp 3) rfl q (0) rfl) HS_ ?_
     refine tV 6 [12] 67 rfl rfl (gRun rfl vy fun _ h => run_load1 o28 (.tmp 66) rfl q (0 + 2) rfl vy (h.2.at 2 _ HM.out.2.2.2.2.1)) HS_ ?_
     refine tV 7 [12] 68 rfl rfl (gRun rfl (.int .i64 (bs.length : Nat)) fun _ h => run_lenS HM.out.2.2.1 (.tmp 67) rfl rfl) HS_ ?_
     simp only [Act.put, aS, aC, aZ]
     refine oneU (i := 8) (by kernel_rfl) ?_
     refine opCallG (some 69) rfl rfl rfl 22 _ (run_call eN22 [.tmp 68] _ rfl [(.int .i64 (bs.length : Nat))] rfl) ?_
     refine (rcost_any X bs.length (by omega)).mono ?_
     rintro e X_ ⟨rfl, rfl⟩
     refine ⟨_, rfl, ?_⟩
     refine ⟨fun _ => HS_, ?_⟩
     simp only [Act.put, aS, aC, aZ]
     refine tV 9 [12] 70 rfl rfl (gRun rfl (.int .i64 ((ever + costN bs.length) : Nat)) fun _ h => run_addZ (.tmp 65) (.tmp 69) rfl (ever : Nat) (costN bs.length : Nat) _ rfl rfl (by omega) (by omega) (by have := (costN_le hlen).2; omega)) HS_ ?_
     refine tV 10 [11, 12] 71 rfl rfl (gRun rfl (ptr gs) fun _ h => run_nil (.tmp 61) rfl ⟨gs, 0, none⟩ rfl) HS_ ?_
     refine tV 11 [12] 72 rfl rfl (gRun rfl (.pointer (some ⟨gs, 0 + 3, none⟩)) fun _ h => run_fieldOp' f38_3 (.tmp 71) rfl gs (0) rfl) HS_ ?_
     simp only [Act.put, aS, aC, aZ]
     refine oneU (i := 12) (by kernel_rfl) ?_
     refine opSkipZ rfl rfl rfl _ (run_putRow (t := 3) sz3 (.tmp 72) (.tmp 70) rfl gs (0 + 3) 38 _ rfl (.int .i64 ((ever + costN bs.length) : Nat)) rfl ⟨rfl, rfl⟩ HS_.1 (by decide : 0 + 3 < 5)) ?_
     refine ⟨(fun h => absurd (show true = false from h) (by decide)), ?_⟩
     have hb_ := (Ch.refl (· = gs) X).setCell (Or.inl rfl) (0 + 3) (.int .i64 ((ever + costN bs.length) : Nat))
     have r_ := HS_.1.setCell (0 + 3) (.int .i64 ((ever + costN bs.length) : Nat))
     obtain ⟨V5, hW_⟩ : ∃ U_ : World, U_ = X.setCell ⟨gs, 0 + 3, none⟩ (.int .i64 ((ever + costN bs.length) : Nat)) := ⟨_, rfl⟩
     rw [← hW_] at hb_ r_ ⊢
     have HA5 : Hid ((ApE w V5 c2 gp gh gf gm gs gr n us m2 (K + 20) 2 us vu vb bl (ever + costN bs.length) dims q oc B vo ys vy bs) ∧ Row V5 q6 30 (toP (a, bs)).cells ∧ Row V5 q8 30 zP.cells) := ⟨HA4.out.1.tick hb_ r_, hb_.row (row_ne HA4.out.2.1 HA4.out.1.d.row (by decide)) HA4.out.2.1, hb_.row (row_ne HA4.out.2.2 HA4.out.1.d.row (by decide)) HA4.out.2.2⟩
     clear hb_ r_ hW_ HA4 HS_
     refine wpAnyU_done (by kernel_rfl) ?_ _
     go_upto_region 13 with fail
     refine wp_region_lit ?_
     refine wl rfl (.bool true) _ (run_mvZ (.tmp 7) rfl (.bool true) rfl) ?_
     refine wl rfl (.bool false) _ (run_not (.tmp 73) 4 rfl true rfl) ?_
     simp only [Act.put, aS, aC, aZ]
     refine wpList_nil ?_
     go_upto_region 15 with fail
     refine wp_region_lit ?_
     refine wl rfl (.int .i64 2) _ (run_mvZ (.tmp 9) rfl (.int .i64 2) rfl) ?_
     refine wl rfl (.bool true) _ (run_eqZ (.tmp 98) (.const (.int .i64 2)) rfl (2) (2) rfl rfl true rfl) ?_
     simp only [Act.put, aS, aC, aZ]
     refine wpList_nil ?_
     go_upto_region 16 with fail
     refine wp_region_lit ?_
     refine wl rfl (.agg (zP.cells).toArray) _ (run_loadA ag30 (.tmp 8) rfl q8 (0) rfl (zP.cells) rfl (rows_one HA5.out.2.2)) ?_
     refine wl rfl (.agg (plC 0 0 0 false).toArray) _ (run_build30z rfl) ?_
     refine wl rfl (.bool false) _ (run_nePl (.tmp 100) (.tmp 101) rfl 0 0 0 0 0 0 false false rfl rfl false (by simp)) ?_
     refine wl rfl (.bool false) _ (run_mvZ (.tmp 102) rfl (.bool false) rfl) ?_
     simp only [Act.put, aS, aC, aZ]
     refine wl (by kernel_rfl) (ptr gs) _ (run_mvZ (.tmp 0) rfl (ptr gs) rfl) ?_
     refine wl (by kernel_rfl) (ptr gs) _ (run_nil (.tmp 104) rfl ⟨gs, 0, none⟩ rfl) ?_
     refine wl (by kernel_rfl) (.pointer (some ⟨gs, 0 + 0, none⟩)) _ (run_fieldOp' f38_0 (.tmp 105) rfl gs (0) rfl) ?_
     refine wl (by kernel_rfl) (ptr gp) _ (run_load1 o34 (.tmp 106) rfl gs (0 + 0) rfl (ptr gp) (HA5.out.1.d.row.at 0 _ rfl)) ?_
     simp only [Act.put, aS, aC, aZ]
     refine wpList_callW eN45 [.tmp 107] _ rfl rfl [(ptr gp)] rfl ?_
     refine (HA5.out.1.h.o.pl.isOn).mono ?_
     rintro e X_ ⟨he_, rfl⟩
     rw [(HA5.out.1.h.off rfl).1] at he_
     subst he_
     refine ⟨_, rfl, ?_⟩
     simp only [Act.put, aS, aC, aZ]
     refine wl rfl (.bool false) _ (run_pickZ (.tmp 103) (.const (.bool true)) (.tmp 108) rfl false (.bool false) rfl rfl) ?_
     simp only [Act.put, aS, aC, aZ]
     refine wpList_nil ?_
     go_upto_region 18 with fail
     refine wp_region_held (S := fun X => Row X gs 38 (scells gp gh gr ((ever + costN bs.length) : Nat) (dims : Nat)) ∧ Row X q 33 oc) (by kernel_rfl) ?_
     show wpAnyH _ _ _ _ _ 7 (Array.replicate 7 false) _ _
     obtain ⟨X, hX⟩ : ∃ X : World, X = { V5 with drawn := V5.drawn + 1 } := ⟨_, rfl⟩
     rw [← hX]
     have HBX : Hid (Below V5.heap.size V5 X) := (by rw [hX]; exact ⟨rfl, rfl, rfl, Nat.le_refl _, fun _ _ => rfl⟩)
     replace HA5 : Hid ((ApE w X c2 gp gh gf gm gs gr n us m2 (K + 20) 2 us vu vb bl (ever + costN bs.length) dims q oc B vo ys vy bs) ∧ Row X q6 30 (toP (a, bs)).cells ∧ Row X q8 30 zP.cells) := ⟨HA5.out.1.bel HBX.out, HA5.out.2.1.later HBX.out HA5.out.2.1.lt, HA5.out.2.2.later HBX.out HA5.out.2.2.lt⟩
     clear HBX
     have HS_ : Row X gs 38 (scells gp gh gr ((ever + costN bs.length) : Nat) (dims : Nat)) ∧ Row X q 33 oc := ⟨HA5.out.1.d.row, HA5.out.1.o⟩
     clear hX
     refine tH 0 110 rfl rfl (gRun rfl (ptr gs) fun _ h => run_mvZ (.tmp 0) rfl (ptr gs) rfl) HS_ ?_
     refine tH 1 111 rfl rfl (gRun rfl (ptr gs) fun _ h => run_nil (.tmp 110) rfl ⟨gs, 0, none⟩ rfl) HS_ ?_
     refine tH 2 112 rfl rfl (gRun rfl (.pointer (some ⟨gs, 0 + 0, none⟩)) fun _ h => run_fieldOp' f38_0 (.tmp 111) rfl gs (0) rfl) HS_ ?_
     refine tH 3 113 rfl rfl (gRun rfl (ptr gp) fun _ h => run_load1 o34 (.tmp 112) rfl gs (0 + 0) rfl (ptr gp) (h.1.at 0 _ rfl)) HS_ ?_
     simp only [Act.put, aS, aC, aZ]
     refine tH 4 114 rfl rfl (gRun rfl (.pointer (some ⟨q, 0 + 7, none⟩)) fun _ h => run_fieldOp' f33_4 (.tmp 3) rfl q (0) rfl) HS_ ?_
     refine tH 5 115 rfl rfl (gRun rfl vk fun _ h => run_load1 o31 (.tmp 114) rfl q (0 + 7) rfl vk (h.2.at 7 _ HM.out.2.2.2.2.2.2.1)) HS_ ?_
     simp only [Act.put, aS, aC, aZ]
     refine oneH (i := 6) (by kernel_rfl) ?_
     refine opCallG (some 116) rfl rfl rfl 15 _ (run_call eN15 [.tmp 113, .tmp 115] _ rfl [(ptr gp), vk] rfl) ?_
     refine (HA5.out.1.h.o.pl.boot hK vk ks (keepIn HA5.out.1.h.o.pl HM.out.2.2.2.2.2.2.2)).mono ?_
     rintro e V6 ⟨rfl, c3, hs_, hp_⟩
     refine ⟨_, rfl, ?_⟩
     have HA6 : Hid (Cl w V6 c3 gp (m2.boot ks) n us (K + 20) ∧ Sd w V6 c3 gp gh gf gm gs gr n us vu vb bl (ever + costN bs.length) dims) := ⟨⟨hp_, rfl, boot_wt m2 ks 1, (HA5.out.1.h.off rfl).2 ks, HM.out.1.apt⟩, HA5.out.1.d.sq (hs_.sq gf gm)⟩
     replace HS_ : Row V6 gs 38 (scells gp gh gr ((ever + costN bs.length) : Nat) (dims : Nat)) ∧ Row V6 q 33 oc := ⟨HA6.out.2.row, HA5.out.1.oo.row (hs_.sq gf gm) HA5.out.1.o⟩
     clear hs_ hp_ HA5
     refine ⟨HS_, ?_⟩
     simp only [Act.put, aS, aC, aZ]
     refine wpAnyH_done (by kernel_rfl) ?_ _
     go_upto_region 19 with fail
     refine wp_region_lit ?_
     refine wl rfl (ptr gs) _ (run_mvZ (.tmp 0) rfl (ptr gs) rfl) ?_
     refine wl rfl (ptr gs) _ (run_nil (.tmp 117) rfl ⟨gs, 0, none⟩ rfl) ?_
     refine wl rfl (.pointer (some ⟨gs, 0 + 4, none⟩)) _ (run_fieldOp' f38_4 (.tmp 118) rfl gs (0) rfl) ?_
     refine wl rfl (.int .i64 (dims : Nat)) _ (run_load1 o3 (.tmp 119) rfl gs (0 + 4) rfl (.int .i64 (dims : Nat)) (HA6.out.2.row.at 4 _ rfl)) ?_
     simp only [Act.put, aS, aC, aZ]
     refine wl rfl (.int .i64 ((dims + 1 : Nat) : Int)) _ (run_addZ (.tmp 120) (.const (.int .i64 1)) rfl (dims : Nat) 1 _ rfl rfl (by omega) (by omega) (by omega)) ?_
     refine wl rfl (ptr gs) _ (run_nil (.tmp 117) rfl ⟨gs, 0, none⟩ rfl) ?_
     refine wl rfl (.pointer (some ⟨gs, 0 + 4, none⟩)) _ (run_fieldOp' f38_4 (.tmp 122) rfl gs (0) rfl) ?_
     simp only [Act.put, aS, aC, aZ]
     refine wlS rfl rfl _ (run_putRow (t := 3) sz3 (.tmp 123) (.tmp 121) rfl gs (0 + 4) 38 _ rfl (.int .i64 ((dims + 1 : Nat) : Int)) rfl ⟨rfl, rfl⟩ HA6.out.2.row (by decide : 0 + 4 < 5)) ?_
     have hb_ := (Ch.refl (· = gs) V6).setCell (Or.inl rfl) (0 + 4) (.int .i64 ((dims + 1 : Nat) : Int))
     have r_ := HA6.out.2.row.setCell (0 + 4) (.int .i64 ((dims + 1 : Nat) : Int))
     obtain ⟨V7, hW_⟩ : ∃ U_ : World, U_ = V6.setCell ⟨gs, 0 + 4, none⟩ (.int .i64 ((dims + 1 : Nat) : Int)) := ⟨_, rfl⟩
     rw [← hW_] at hb_ r_ ⊢
     have HA7 : Hid (Cl w V7 c3 gp (m2.boot ks) n us (K + 20) ∧ Sd w V7 c3 gp gh gf gm gs gr n us vu vb bl (ever + costN bs.length) (dims + 1)) := ⟨HA6.out.1.own hb_ (fun _ _ e => e ▸ HA6.out.2.os), HA6.out.2.tick hb_ r_⟩
     clear hb_ r_ hW_ HA6 HS_
     refine wpList_nil ?_
     go_upto_region 20 with fail
     refine wp_region_lit ?_
     refine wl rfl (ptr gs) _ (run_mvZ (.tmp 0) rfl (ptr gs) rfl) ?_
     simp only [Act.put, aS, aC, aZ]
     refine wpList_callW eN16 [.tmp 124] _ rfl rfl [(ptr gs)] rfl ?_
     refine (opened_any HA7.out.1 HA7.out.2 (by omega) hK).mono ?_
     rintro e V8 ⟨rfl, gh2, gf2, gm2, hh_, hd_⟩
     refine ⟨_, rfl, ?_⟩
     have HA8 : Hid (HtW w V8 c3 gp gh2 gf2 gm2 (m2.boot ks) n us (K + 20) ∧ Sd w V8 c3 gp gh2 gf2 gm2 gs gr n us vu vb bl (ever + costN bs.length) (dims + 1)) := ⟨hh_, hd_⟩
     clear hh_ hd_
     simp only [Act.put, aS, aC, aZ]
     refine wl rfl (.bool true) _ (run_asZ (.tmp 125) rfl (.bool true) rfl) ?_
     simp only [Act.put, aS, aC, aZ]
     refine wpList_nil ?_
     go_wp2_with fail
     rw [HPQ.out]
     exact ⟨rfl, c3, gh2, gf2, gm2, m2.boot ks, us, vu, vb, bl, (ever + costN bs.length), dims + 1, HA8.out.1, HA8.out.2, HM.out.2.2.2.2.2.1.mono (Nat.le_add_right _ _), (by have := (costN_le hlen).2; omega), by omega, by omega⟩

end Go.Proofs.YthgidfoidbgnaaaDoor

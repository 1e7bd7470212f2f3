/- Layer 14: a plant and a hot disk, as the statements meet them. -/
import Derived.Test.YthgidfoidbgnaaaDoorE35
namespace Go.Proofs.YthgidfoidbgnaaaDoor
open Go.RowKit Go.Maps

/-- what the map says is what is in use -/
def FM (f : Int → Option Int) (us : List (Nat × Nat)) : Prop := ∀ z y, f z = some y ↔ ∃ u ∈ us, z = (u.1 : Nat) ∧ y = (u.2 : Nat)
theorem FM.nil : FM (fun _ => none) [] := fun z y => ⟨fun h => (by cases h), fun ⟨u, hu, _⟩ => (by cases hu)⟩
theorem FM.take {f : Int → Option Int} {us : List (Nat × Nat)} (h : FM f us) {a n : Nat} (ha : ∀ u ∈ us, u.1 ≠ a) : FM (fun q => if q = (a : Nat) then some (n : Nat) else f q) (us ++ [(a, n)]) := fun z y => by
 show (if z = (a : Nat) then some ((n : Nat) : Int) else f z) = some y ↔ _
 by_cases hz : z = (a : Nat)
 ·rw [if_pos hz]
  constructor
  ·intro e
   injection e with e
   exact ⟨(a, n), by simp, hz, e.symm⟩
  ·rintro ⟨u, hu, h1, h2⟩
   rcases List.mem_append.1 hu with hu | hu
   ·exact absurd (by omega : u.1 = a) (ha u hu)
   ·rw [List.mem_singleton] at hu
    subst hu
    rw [h2]
 ·rw [if_neg hz, h z y]
  constructor
  ·rintro ⟨u, hu, h1, h2⟩
   exact ⟨u, by simp [hu], h1, h2⟩
  ·rintro ⟨u, hu, h1, h2⟩
   rcases List.mem_append.1 hu with hu | hu
   ·exact ⟨u, hu, h1, h2⟩
   ·rw [List.mem_singleton] at hu
    subst hu
    exact absurd h1 hz
theorem FM.perm {f : Int → Option Int} {us vs : List (Nat × Nat)} (h : FM f us) (hp : us.Perm vs) : FM f vs := fun z y => (h z y).trans ⟨fun ⟨u, hu, k⟩ => ⟨u, hp.mem_iff.1 hu, k⟩, fun ⟨u, hu, k⟩ => ⟨u, hp.mem_iff.2 hu, k⟩⟩
theorem FM.give {f : Int → Option Int} {us : List (Nat × Nat)} {a n : Nat} (h : FM f ((a, n) :: us)) (ha : ∀ u ∈ us, u.1 ≠ a) : FM (fun q => if q = (a : Nat) then none else f q) us := fun z y => by
 show (if z = (a : Nat) then none else f z) = some y ↔ _
 by_cases hz : z = (a : Nat)
 ·rw [if_pos hz]
  constructor
  ·intro e; cases e
  ·rintro ⟨u, hu, h1, _⟩
   exact absurd (by omega : u.1 = a) (ha u hu)
 ·rw [if_neg hz, h z y]
  constructor
  ·rintro ⟨u, hu, h1, h2⟩
   rcases List.mem_cons.1 hu with rfl | hu
   ·exact absurd h1 hz
   ·exact ⟨u, hu, h1, h2⟩
  ·rintro ⟨u, hu, h1, h2⟩
   exact ⟨u, by simp [hu], h1, h2⟩
theorem apart_fst {k : Nat} {us : List (Nat × Nat)} {fr : List Nat} (h : SegInv fr us) {a n : Nat} (hn : 1 ≤ n) (hr : Room1 k us a n) : ∀ u ∈ us, u.1 ≠ a := fun u hu e => by
 have h1 := h.ok u hu
 have h2 := hr.2.2 u hu
 omega
theorem FirstFit.fits {fr : List Nat} {us : List (Nat × Nat)} (h : SegInv fr us) {a n : Nat} (hn : 1 ≤ n) (hf : FirstFit fr a n) : Fits fr.length us a n :=
 ⟨(h.free hn).1 hf.1, fun b hb hr => hf.2 b hb ((h.free hn).2 hr)⟩
theorem usB_iff {d : Nat} {f : Int → Option Int} {us : List (Nat × Nat)} (h : FM f us) (dv at_ ln : Int) : usB d f dv at_ ln = true ↔ dv = (d : Nat) ∧ ∃ u ∈ us, at_ = (u.1 : Nat) ∧ ln = (u.2 : Nat) := by
 unfold usB
 rw [decide_eq_true_iff, h at_ ln]
 exact ⟨fun ⟨h1, h2⟩ => ⟨h2, h1⟩, fun ⟨h1, h2⟩ => ⟨h2, h1⟩⟩
/-- a place in use, of an object -/
def plc (u : Nat × List Nat) : Nat × Nat := (u.1, costN u.2.length)
/-- what the disk has of objects -/
def Held (m : Pl) (us : List (Nat × List Nat)) : Prop := ∀ u ∈ us, u.2.length ≤ 512 ∧ (∀ c ∈ u.2, c < 256) ∧ ∃ t, ∀ j, j < costN u.2.length → m.rd 1 (u.1 + j) = secI 1 u.1 t u.2 j
/-- a plant that the law has made: a disk of one sector, one of n, a tape -/
structure PlW (w W : World) (c : Nat → Colour) (g : Nat) (m : Pl) (n K : Nat) : Prop where
 live : Live W c 2 g m
 tab : Fr.TabIn w
 tz : TzIn w
 cc : ∀ b, b < w.heap.size → c b = (0, 0)
 below : Below w.heap.size w W
 shape : ShapeOf m [1, n] [9]
 hn : 1 ≤ n ∧ n ≤ 4096
 le : m.steps ≤ K
section
variable {w W W' : World} {c c' : Nat → Colour} {g : Nat} {m m' : Pl} {n K : Nat}
theorem PlW.bel (h : PlW w W c g m n K) (hb : Below W.heap.size W W') : PlW w W' c g m n K := ⟨h.live.below hb, h.tab, h.tz, h.cc, h.below.trans (hb.mono h.below.size), h.shape, h.hn, h.le⟩
theorem PlW.mono {K' : Nat} (h : PlW w W c g m n K) (hk : K ≤ K') : PlW w W c g m n K' := ⟨h.live, h.tab, h.tz, h.cc, h.below, h.shape, h.hn, Nat.le_trans h.le hk⟩
theorem PlW.tabW (h : PlW w W c g m n K) : Fr.TabIn W := h.tab.later h.below
theorem PlW.tzW (h : PlW w W c g m n K) : TzIn W := h.tz.later h.below
theorem PlW.sp (h : PlW w W c g m n K) (s : Sp W W' c c') (hl : Live W' c' 2 g m') (hsh : m'.sh = m.sh) {K' : Nat} (hK : m'.steps ≤ K') : PlW w W' c' g m' n K' := by
 refine ⟨hl, h.tab, h.tz, fun b hb => by rw [s.cc b (Nat.lt_of_lt_of_le hb h.below.size)]; exact h.cc b hb, h.below.trans (s.ch.below h.below.size fun i hi e => ?_), by unfold ShapeOf; rw [hsh]; exact h.shape, h.hn, hK⟩
 rw [h.cc i hi] at e
 cases e
theorem PlW.sq {gf gm : Nat} (h : PlW w W c g m n K) (s : Sq W W' c c' gf gm) (hf : w.heap.size ≤ gf) (hm : w.heap.size ≤ gm) (hl : Live W' c' 2 g m') (hsh : m'.sh = m.sh) {K' : Nat} (hK : m'.steps ≤ K') : PlW w W' c' g m' n K' := by
 refine ⟨hl, h.tab, h.tz, fun b hb => by rw [s.cc b (Nat.lt_of_lt_of_le hb h.below.size)]; exact h.cc b hb, h.below.trans (s.ch.below h.below.size fun i hi e => ?_), by unfold ShapeOf; rw [hsh]; exact h.shape, h.hn, hK⟩
 rcases e with e | rfl | rfl
 ·rw [h.cc i hi] at e
  cases e
 ·omega
 ·omega
theorem PlW.dev (h : PlW w W c g m n K) : 1 < m.n ∧ m.tape 1 = false ∧ m.size 1 = n ∧ m.len 1 = n := by
 have h1 := h.shape.n
 have h2 := h.shape.disk 1 (by simp)
 have e : m.size 1 = n := h2.2
 refine ⟨by rw [h1]; simp, h2.1, e, ?_⟩
 unfold Pl.len
 rw [h2.1]
 exact e
theorem PlW.lv (h : PlW w W c g m n K) (hon : m.on = true) : Lv m 1 := ⟨h.live.2.1, hon, h.dev.1, h.dev.2.1⟩
theorem PlW.isOn (h : PlW w W c g m n K) : Calls Tryd.prog 45 #[ptr g] W fun e W' => e = .returned (.bool m.on) ∧ W = W' := h.live.isOn.mono fun _ _ ⟨h1, h2⟩ => ⟨h1, h2.symm⟩
theorem PlW.fuse (h : PlW w W c g m n K) (N : Int) (h0 : -9223372036854775808 ≤ N) (h1 : N ≤ 9223372036854775807) : Calls Tryd.prog 13 #[ptr g, .int .i64 N] W fun e W' => e = .returned noResult ∧ ∃ c', Sp W W' c c' ∧ PlW w W' c' g (m.fuseTo N) n K := by
 refine (h.live.fuse N h0 h1).mono fun e W' he => ⟨he.1, ?_⟩
 have hs : (m.fuseTo N).sh = m.sh ∧ (m.fuseTo N).steps = m.steps := by unfold Pl.fuseTo; split <;> exact ⟨rfl, rfl⟩
 obtain ⟨c', k1, k3⟩ := he.2.sp
 exact ⟨c', k1, h.sp k1 k3 hs.1 (by rw [hs.2]; exact h.le)⟩
theorem PlW.boot (h : PlW w W c g m n K) (hK : K ≤ 1000000000000) (kv : Value) (ks : List Int) (hk : KeepIn W c 2 kv ks) : Calls Tryd.prog 15 #[ptr g, kv] W fun e W' => e = .returned noResult ∧ ∃ c', Sp W W' c c' ∧ PlW w W' c' g (m.boot ks) n K := by
 refine (h.live.boot (by have := h.le; omega) kv ks hk).mono fun e W' he => ⟨he.1, ?_⟩
 obtain ⟨c', k1, k3⟩ := he.2.sp
 exact ⟨c', k1, h.sp k1 k3 rfl h.le⟩
end
theorem shapeOk_two (n : Nat) (hn : 1 ≤ n ∧ n ≤ 4096) : shapeOk [1, (n : Int)] [9] = true := by
 unfold shapeOk sizesOk
 simp
 omega
theorem newPl_two (n : Nat) : ShapeOf (newPl [1, (n : Int)] [9]) [1, n] [9] := by
 unfold ShapeOf newPl
 simp
theorem PlW.new {w W : World} (hb : Below w.heap.size w W) (ht : Fr.TabIn w) (hz : TzIn w) (n : Nat) (hn : 1 ≤ n ∧ n ≤ 4096) (vd vt : Value) (hd : IntsIn W vd [1, (n : Int)]) (htp : IntsIn W vt [9]) : Calls Tryd.prog 32 #[.agg #[vd, vt]] W fun e W' => ∃ g c', e = .returned (.tuple #[ptr g, .int .i64 0]) ∧ Below W.heap.size W W' ∧ PlW w W' c' g (newPl [1, (n : Int)] [9]) n 0 := by
 refine (Live.new W (fun _ => (0, 0)) 2 vd vt _ _ hd htp (shapeOk_two n hn)).mono ?_
 rintro e W' ⟨g, c', rfl, h1, h2, _, h4, h5⟩
 exact ⟨g, c', rfl, h5, ⟨h4, ht, hz, fun b hlt => h2 b (Nat.lt_of_lt_of_le hlt hb.size), hb.trans (h5.mono hb.size), newPl_two n, hn, Nat.le_refl _⟩⟩
/-- a plant and its hot disk, with what is in use on it -/
structure HtW (w W : World) (c : Nat → Colour) (gp gh gf gm : Nat) (m : Pl) (n : Nat) (us : List (Nat × List Nat)) (K : Nat) : Prop where
 pl : PlW w W c gp m n K
 hot : ∃ fr f q, HotM W gh gp gf gm 1 q fr f ∧ SegInv fr (us.map plc) ∧ FM f (us.map plc) ∧ fr.length = n / 16 ∧ q ≤ K
 hc : HotC c gh gf gm
 new : w.heap.size ≤ gh ∧ w.heap.size ≤ gf ∧ w.heap.size ≤ gm
 on : m.on = true
 wt : m.wt 1 = []
 held : Held m us
/-- a block of the law's own -/
def Out (w W : World) (c : Nat → Colour) (gh gf gm : Nat) (q : Nat) : Prop := w.heap.size ≤ q ∧ q < W.heap.size ∧ (c q).1 ≠ 2 ∧ q ≠ gh ∧ q ≠ gf ∧ q ≠ gm
section
variable {w W W' : World} {c c' : Nat → Colour} {gp gh gf gm : Nat} {m m' : Pl} {n K : Nat} {us : List (Nat × List Nat)}
theorem HtW.lt (h : HtW w W c gp gh gf gm m n us K) : gh < W.heap.size ∧ gf < W.heap.size ∧ gm < W.heap.size := by
 obtain ⟨fr, f, q, h1, _⟩ := h.hot
 exact ⟨h1.lt (Or.inl rfl), h1.lt (Or.inr (Or.inl rfl)), h1.lt (Or.inr (Or.inr rfl))⟩
theorem HtW.bel (h : HtW w W c gp gh gf gm m n us K) (hb : Below W.heap.size W W') : HtW w W' c gp gh gf gm m n us K := by
 obtain ⟨fr, f, q, h1, h2⟩ := h.hot
 exact ⟨h.pl.bel hb, ⟨fr, f, q, h1.later hb, h2⟩, h.hc, h.new, h.on, h.wt, h.held⟩
theorem HtW.mono {K' : Nat} (h : HtW w W c gp gh gf gm m n us K) (hk : K ≤ K') : HtW w W c gp gh gf gm m n us K' := by
 obtain ⟨fr, f, q, h1, h2, h3, h4, h5⟩ := h.hot
 exact ⟨h.pl.mono hk, ⟨fr, f, q, h1, h2, h3, h4, Nat.le_trans h5 hk⟩, h.hc, h.new, h.on, h.wt, h.held⟩
/-- the law's own blocks may turn -/
theorem HtW.own {S : Nat → Prop} (h : HtW w W c gp gh gf gm m n us K) (hc : Ch S W W') (hS : ∀ q, q < W.heap.size → S q → Out w W c gh gf gm q) : HtW w W' c gp gh gf gm m n us K := by
 obtain ⟨fr, f, q, h1, h2⟩ := h.hot
 have hl := h.lt
 refine ⟨⟨h.pl.live.ch' hc (fun b hb hs => (hS b hb hs).2.2.1), h.pl.tab, h.pl.tz, h.pl.cc, h.pl.below.trans (hc.below h.pl.below.size fun i hi e => ?_), h.pl.shape, h.pl.hn, h.pl.le⟩, ⟨fr, f, q, h1.ch hc ⟨fun e => (hS gh hl.1 e).2.2.2.1 rfl, fun e => (hS gf hl.2.1 e).2.2.2.2.1 rfl, fun e => (hS gm hl.2.2 e).2.2.2.2.2 rfl⟩, h2⟩, h.hc, h.new, h.on, h.wt, h.held⟩
 have := (hS i (Nat.lt_of_lt_of_le hi h.pl.below.size) e).1
 omega
theorem Out.new (h : HtW w W c gp gh gf gm m n us K) {q : Nat} (hq : W.heap.size ≤ q) (hq2 : q < W'.heap.size) : Out w W' c gh gf gm q :=
 ⟨Nat.le_trans h.pl.below.size hq, hq2, h.pl.live.2.2 q hq, (fun e => by have := h.lt; omega), (fun e => by have := h.lt; omega), (fun e => by have := h.lt; omega)⟩
theorem Out.bel {q : Nat} (h : Out w W c gh gf gm q) (hb : W.heap.size ≤ W'.heap.size) : Out w W' c gh gf gm q := ⟨h.1, Nat.lt_of_lt_of_le h.2.1 hb, h.2.2⟩
theorem Out.step {q : Nat} (h : Out w W c gh gf gm q) (s : Sq W W' c c' gf gm) : Out w W' c' gh gf gm q ∧ W'.heap[q]? = W.heap[q]? :=
 ⟨⟨h.1, Nat.lt_of_lt_of_le h.2.1 s.ch.size, by rw [s.cc q h.2.1]; exact h.2.2.1, h.2.2.2⟩, s.ch.block q h.2.1 (fun e => by rcases e with e | e | e; exact h.2.2.1 e; exact h.2.2.2.2.1 e; exact h.2.2.2.2.2 e)⟩
theorem Out.row {q T : Nat} {cs : List Value} (h : Out w W c gh gf gm q) (s : Sq W W' c c' gf gm) (hr : Row W q T cs) : Row W' q T cs := by
 unfold Row
 rw [(h.step s).2]
 exact hr
theorem Held.rd (h : Held m us) (hr : ∀ u ∈ us, ∀ j, j < costN u.2.length → m'.rd 1 (u.1 + j) = m.rd 1 (u.1 + j)) : Held m' us := fun u hu => by
 obtain ⟨h1, h2, t, h3⟩ := h u hu
 exact ⟨h1, h2, t, fun j hj => (hr u hu j hj).trans (h3 j hj)⟩
theorem imgP_getD (d a t : Nat) (b : List Nat) (j : Nat) (h : j < costN b.length) : (imgP d a t b).getD j [] = secI d a t b j := by
 unfold imgP
 simp [List.getD_eq_getElem?_getD, h]
theorem imgP_sec (d a t : Nat) {b : List Nat} (hb : ∀ c ∈ b, c < 256) : ∀ s ∈ imgP d a t b, Sec s := fun s hs => by
 obtain ⟨j, _, rfl⟩ := List.mem_map.1 hs
 exact ⟨secI_length d a t b j, secI_lt d a t hb j⟩
def ret1 (p e : Int) (l : Int) : Ending := .returned (.tuple #[.agg (plC 1 p l false).toArray, .int .i64 e])
def retZ (e : Int) : Ending := .returned (.tuple #[.agg (plC 0 0 0 false).toArray, .int .i64 e])
theorem HtW.append (h : HtW w W c gp gh gf gm m n us K) (hK : K ≤ 1000000000000) (vb : Value) (b : List Nat) (hin : SliceIn W vb b) (hl : b.length ≤ 512) : Calls Tryd.prog 21 #[ptr gh, vb] W fun e W' => ∃ c', Sq W W' c c' gf gm ∧
  (((∀ a, ¬ Room1 (n / 16) (us.map plc) a (costN b.length)) ∧ e = retZ 3 ∧ HtW w W' c' gp gh gf gm m n us K) ∨
  (∃ a m', Fits (n / 16) (us.map plc) a (costN b.length) ∧ e = ret1 (a : Nat) 0 (costN b.length : Nat) ∧ (m.fuse < 0 → m'.fuse < 0) ∧ HtW w W' c' gp gh gf gm m' n (us ++ [(a, b)]) (K + 20)) ∨
  (∃ a m', Fits (n / 16) (us.map plc) a (costN b.length) ∧ 0 ≤ m.fuse ∧ e = retZ 2 ∧ m'.on = false ∧ PlW w W' c' gp m' n (K + 20) ∧ ∀ ks, Held (m'.boot ks) us)) := by
 obtain ⟨fr, f, q, h1, h2, h3, h4, h5⟩ := h.hot
 have hc1 := (costN_le hl).1
 have hle := h.pl.le
 have hn := h.pl.hn
 refine (appendH_any h1 h.pl.tabW h.pl.tzW h.pl.live h.hc h2.lt (by omega) (by omega) (by omega) (by decide) vb b hin hl).mono ?_
 rintro e W' ⟨c', hs, hr⟩
 refine ⟨c', hs, ?_⟩
 have hHC : HotC c' gh gf gm := by
  rw [HotC, hs.cc gh h.lt.1, hs.cc gf h.lt.2.1, hs.cc gm h.lt.2.2]
  exact h.hc
 rcases hr with ⟨r1, r2, r3, r4⟩ | ⟨a, r1, r2, r3⟩
 ·refine Or.inl ⟨fun a ha => r1 a ((h2.free hc1).2 (by rw [h4]; exact ha)), r2, ⟨h.pl.sq hs h.new.2.1 h.new.2.2 r4 rfl hle, ⟨fr, f, q, r3, h2, h3, h4, h5⟩, hHC, h.new, h.on, h.wt, h.held⟩⟩
 ·have hfit := FirstFit.fits h2 hc1 r1
  rw [h4] at hfit
  have hsz : a + (imgP 1 a m.steps b).length ≤ m.size 1 := by
   rw [h.pl.dev.2.2.1, imgP_length]
   have h8 := hfit.1.1
   have h9 := hfit.1.2.1
   omega
  have hil := imgP_length 1 a m.steps b
  have hc9 := (costN_le hl).2
  rcases Lv.lay (i := 1) (imgP 1 a m.steps b) a m (h.pl.lv h.on) (imgP_sec 1 a m.steps hin.lt256) hsz with ⟨l1, l2⟩ | ⟨l1, l2⟩
  ·rcases r3 with ⟨q1, _⟩ | ⟨q1, q2, q3, q4⟩
   ·exact absurd l1 q1
   refine Or.inr (Or.inl ⟨a, _, hfit, q2, l2.fuse, ⟨h.pl.sq hs h.new.2.1 h.new.2.2 q4 l2.oth.sh (by have := l2.le; omega), ⟨_, _, _, q3, ?_, ?_, by rw [List.length_set]; exact h4, (by split <;> omega)⟩, hHC, h.new, l2.lv.on, l2.wt, ?_⟩⟩)
   ·rw [List.map_append]
    exact h2.take hc1 (by rw [h4]; exact hfit.1)
   ·rw [List.map_append]
    exact h3.take (apart_fst h2 hc1 hfit.1)
   ·intro u hu
    rcases List.mem_append.1 hu with hu | hu
    ·obtain ⟨k1, k2, t, k3⟩ := h.held u hu
     refine ⟨k1, k2, t, fun j hj => ?_⟩
     rw [← k3 j hj]
     have := hfit.1.2.2 (plc u) (List.mem_map.2 ⟨u, hu, rfl⟩)
     have e1 : (plc u).1 = u.1 := rfl
     have e2 : (plc u).2 = costN u.2.length := rfl
     exact (l2.rd (u.1 + j)).trans (if_neg (by rw [hil]; omega))
    ·rw [List.mem_singleton] at hu
     subst hu
     refine ⟨hl, hin.lt256, m.steps, fun j hj => (l2.rd (a + j)).trans ?_⟩
     rw [if_pos (by rw [hil]; exact ⟨by omega, by have hj : j < costN b.length := hj; omega⟩), show a + j - a = j by omega, imgP_getD 1 a m.steps b j hj]
  ·rcases r3 with ⟨_, q2, q3, q4⟩ | ⟨q1, _⟩
   ·have e2 : e = retZ 2 := by
     rw [q2]
     exact congrArg (fun z : Int => Ending.returned (.tuple #[.agg (plC 0 0 0 false).toArray, .int .i64 z])) l1
    refine Or.inr (Or.inr ⟨a, _, hfit, l2.fuse, e2, l2.off, h.pl.sq hs h.new.2.1 h.new.2.2 q4 l2.oth.sh (by have := l2.le; omega), fun ks => h.held.rd fun u hu j hj => ?_⟩)
    rcases l2.boot h.wt h.pl.dev.2.1 ks (u.1 + j) with k | ⟨i, k1, k2, _⟩
    ·exact k
    ·have := hfit.1.2.2 (plc u) (List.mem_map.2 ⟨u, hu, rfl⟩)
     have e1 : (plc u).1 = u.1 := rfl
     have e2 : (plc u).2 = costN u.2.length := rfl
     omega
   ·rw [l1] at q1
    cases q1
/-- a place in use is read -/
theorem HtW.read (h : HtW w W c gp gh gf gm m n us K) (hK : K ≤ 1000000000000) {u : Nat × List Nat} (hu : u ∈ us) (bd : Bool) : Calls Tryd.prog 25 #[ptr gh, .agg (plC 1 (u.1 : Nat) (costN u.2.length : Nat) bd).toArray] W fun e W' => ∃ v, e = .returned (.tuple #[v, .int .i64 0]) ∧ BNew W.heap.size W' v u.2 ∧ Below W.heap.size W W' := by
 obtain ⟨fr, f, q, h1, h2, h3, h4, h5⟩ := h.hot
 obtain ⟨k1, k2, t, k3⟩ := h.held u hu
 have hok := h2.ok (plc u) (List.mem_map.2 ⟨u, hu, rfl⟩)
 have e1 : (plc u).1 = u.1 := rfl
 have e2 : (plc u).2 = costN u.2.length := rfl
 have hn := h.pl.hn
 have hle := h.pl.le
 have hc9 := (costN_le k1).2
 refine (readH_yes h1 h.pl.tabW h.pl.live (by omega) h.on h.pl.dev.1 (by decide) u.1 (costN u.2.length) bd (by rw [h.pl.dev.2.2.2]; omega) (by omega) (by omega) ((usB_iff h3 _ _ _).2 ⟨rfl, plc u, List.mem_map.2 ⟨u, hu, rfl⟩, rfl, rfl⟩)).mono ?_
 have hs : ((List.range (costN u.2.length)).map fun j => m.rd 1 (u.1 + j)) = imgP 1 u.1 t u.2 := by
  unfold imgP
  exact List.map_congr_left fun j hj => k3 j (List.mem_range.1 hj)
 rw [hs, bytesP_img 1 u.1 t u.2 k1]
 rintro e W' ⟨hb, ⟨b, v, g1, g2, g3⟩ | ⟨g1, _⟩⟩
 ·injection g1 with g1
  subst g1
  exact ⟨v, g2, g3, hb⟩
 ·cases g1
theorem used_no (dv at_ ln : Int) (hno : ¬ (dv = 1 ∧ ∃ u ∈ us, at_ = (u.1 : Nat) ∧ ln = (costN u.2.length : Nat))) {f : Int → Option Int} (h3 : FM f (us.map plc)) : usB 1 f dv at_ ln = false := by
 rcases hx : usB 1 f dv at_ ln with _ | _
 ·rfl
 ·obtain ⟨k1, u, hu, k2, k3⟩ := (usB_iff h3 _ _ _).1 hx
  obtain ⟨u', hu', rfl⟩ := List.mem_map.1 hu
  exact absurd ⟨k1, u', hu', k2, k3⟩ hno
theorem HtW.readNo (h : HtW w W c gp gh gf gm m n us K) (dv at_ ln : Int) (bd : Bool) (ha : I64 at_) (hno : ¬ (dv = 1 ∧ ∃ u ∈ us, at_ = (u.1 : Nat) ∧ ln = (costN u.2.length : Nat))) : Calls Tryd.prog 25 #[ptr gh, .agg (plC dv at_ ln bd).toArray] W fun e W' => e = .returned (.tuple #[.slice none 0 0, .int .i64 31]) ∧ Below W.heap.size W W' := by
 obtain ⟨fr, f, q, h1, h2, h3, _⟩ := h.hot
 exact readH_no h1 dv at_ ln bd ha (used_no dv at_ ln hno h3)
theorem HtW.freeNo (h : HtW w W c gp gh gf gm m n us K) (dv at_ ln : Int) (bd : Bool) (ha : I64 at_) (hno : ¬ (dv = 1 ∧ ∃ u ∈ us, at_ = (u.1 : Nat) ∧ ln = (costN u.2.length : Nat))) : Calls Tryd.prog 26 #[ptr gh, .agg (plC dv at_ ln bd).toArray] W fun e W' => e = .returned (.int .i64 31) ∧ Below W.heap.size W W' := by
 obtain ⟨fr, f, q, h1, h2, h3, _⟩ := h.hot
 exact free_no h1 dv at_ ln bd ha (used_no dv at_ ln hno h3)
theorem erase_perm {α : Type} [Inhabited α] (us : List α) (k : Nat) (hk : k < us.length) : us.Perm (us.getD k default :: (us.take k ++ us.drop (k + 1))) := by
 have e : us = us.take k ++ us.getD k default :: us.drop (k + 1) := by
  rw [List.getD_eq_getElem?_getD, List.getElem?_eq_getElem hk, Option.getD_some, ← List.drop_eq_getElem_cons hk, List.take_append_drop]
 have p := List.perm_middle (a := us.getD k default) (l₁ := us.take k) (l₂ := us.drop (k + 1))
 rw [← e] at p
 exact p
theorem HtW.free (h : HtW w W c gp gh gf gm m n us K) (k : Nat) (hk : k < us.length) (bd : Bool) : Calls Tryd.prog 26 #[ptr gh, .agg (plC 1 ((us.getD k default).1 : Nat) (costN (us.getD k default).2.length : Nat) bd).toArray] W fun e W' => e = .returned (.int .i64 0) ∧ Ch (fun b => b = gf ∨ b = gm) W W' ∧ HtW w W' c gp gh gf gm m n (us.take k ++ us.drop (k + 1)) K := by
 obtain ⟨fr, f, q, h1, h2, h3, h4, h5⟩ := h.hot
 have hp := erase_perm us k hk
 obtain ⟨u, hu⟩ : ∃ u, u = us.getD k default := ⟨_, rfl⟩
 rw [← hu] at hp ⊢
 have hm : u ∈ us := hp.mem_iff.2 (by simp)
 have hok := h2.ok (plc u) (List.mem_map.2 ⟨u, hm, rfl⟩)
 have e1 : (plc u).1 = u.1 := rfl
 have e2 : (plc u).2 = costN u.2.length := rfl
 have hn := h.pl.hn
 refine (free_yes h1 h2.lt 1 u.1 (costN u.2.length) bd (by omega) (by omega) (by omega) ((usB_iff h3 _ _ _).2 ⟨rfl, plc u, List.mem_map.2 ⟨u, hm, rfl⟩, rfl, rfl⟩)).mono ?_
 rintro e W' ⟨rfl, hM, hch⟩
 have hl := h.lt
 have hp2 := hp.map plc
 rw [List.map_cons] at hp2
 have hs2 := h2.perm hp2
 have hap := hs2.apart
 rw [List.pairwise_cons] at hap
 refine ⟨rfl, hch, ⟨⟨h.pl.live.ch' hch (fun b _ e => by rcases e with rfl | rfl; exact h.hc.2.1; exact h.hc.2.2), h.pl.tab, h.pl.tz, h.pl.cc, h.pl.below.trans (hch.below h.pl.below.size fun i hi e => by rcases e with rfl | rfl; (have := h.new.2.1; omega); (have := h.new.2.2; omega)), h.pl.shape, h.pl.hn, h.pl.le⟩, ⟨_, _, _, hM, hs2.give, (h3.perm hp2).give (fun v hv e => ?_), by rw [List.length_set]; exact h4, by omega⟩, h.hc, h.new, h.on, h.wt, fun v hv => h.held v (hp.mem_iff.2 (by simp [hv]))⟩⟩
 have a1 := hap.1 v hv
 have a2 := hs2.ok v (List.mem_cons_of_mem _ hv)
 rw [e1] at a1
 omega
end
end Go.Proofs.YthgidfoidbgnaaaDoor

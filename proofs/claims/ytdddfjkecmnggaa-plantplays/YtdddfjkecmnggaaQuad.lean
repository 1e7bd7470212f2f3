/- Four plants side by side: two of the program, two of the document's own. -/
import Derived.Test.YtdddfjkecmnggaaRefNewB
import Derived.Test.YtdddfjkecmnggaaRefLive2
import Derived.Test.YtdddfjkecmnggaaPlayAlike
namespace Go.Proofs.Ytdddfjkecmnggaa
open Go.RowKit Go.Maps

theorem Live.past {W W' : World} {c c' : Nat → Colour} {t g : Nat} {m : Pl} (h : Live W c t g m) (hsz : W.heap.size ≤ W'.heap.size) (hcc : ∀ b, b < W.heap.size → c' b = c b) (hch : ∀ b, b < W.heap.size → (c b).1 = t → W'.heap[b]? = W.heap[b]?) (hnew : ∀ b, W'.heap.size ≤ b → (c' b).1 ≠ t) : Live W' c' t g m :=
  ⟨h.1.kept hsz fun b hlt he => ⟨hch b hlt he, hcc b hlt⟩, h.2.1, hnew⟩
theorem LiveR.past {W W' : World} {c c' : Nat → Colour} {t g : Nat} {m : Pl} (h : LiveR W c t g m) (hsz : W.heap.size ≤ W'.heap.size) (hcc : ∀ b, b < W.heap.size → c' b = c b) (hch : ∀ b, b < W.heap.size → ((c b).1 = t ∨ (c b).1 = 1) → W'.heap[b]? = W.heap[b]?) (hnew : ∀ b, W'.heap.size ≤ b → (c' b).1 ≠ t ∧ (c' b).1 ≠ 1) : LiveR W' c' t g m :=
  ⟨h.1.same (fun b hlt he => ⟨hch b hlt he, hcc b hlt⟩) hsz, h.2.1, hnew⟩

/-- the tags: even, from 2 on, below T, no two alike -/
def TagsOk (T tx ty tz tw : Nat) : Prop := T % 2 = 0 ∧ (tx % 2 = 0 ∧ ty % 2 = 0 ∧ tz % 2 = 0 ∧ tw % 2 = 0) ∧ (2 ≤ tx ∧ 2 ≤ ty ∧ 2 ≤ tz ∧ 2 ≤ tw) ∧ (tx + 2 ≤ T ∧ ty + 2 ≤ T ∧ tz + 2 ≤ T ∧ tw + 2 ≤ T) ∧ tx ≠ ty ∧ tx ≠ tz ∧ tx ≠ tw ∧ ty ≠ tz ∧ ty ≠ tw ∧ tz ≠ tw
structure Quad (W0 W : World) (c : Nat → Colour) (T tx gx : Nat) (mx : Pl) (ty gy : Nat) (my : Pl) (tz gz : Nat) (mz : Pl) (tw gw : Nat) (mw : Pl) : Prop where
  x : Live W c tx gx mx
  y : LiveR W c ty gy my
  z : Live W c tz gz mz
  w : LiveR W c tw gw mw
  top : ∀ b, (c b).1 < T
  tags : TagsOk T tx ty tz tw
  low : ∀ b, b < W0.heap.size → (c b).1 = 0
  bel : Below W0.heap.size W0 W
/-- a block that is no plant's -/
def Scr (W0 W : World) (c : Nat → Colour) (tx ty tz tw b : Nat) : Prop := W0.heap.size ≤ b ∧ b < W.heap.size ∧ (c b).1 ≠ tx ∧ (c b).1 ≠ ty ∧ (c b).1 ≠ tz ∧ (c b).1 ≠ tw ∧ (c b).1 ≠ 1
section
variable {W0 W W' : World} {c : Nat → Colour} {T tx gx ty gy tz gz tw gw : Nat} {mx my mz mw mx' my' : Pl}
theorem Quad.fresh (h : Quad W0 W c T tx gx mx ty gy my tz gz mz tw gw mw) (b : Nat) (hb : W.heap.size ≤ b) (hb' : b < W'.heap.size) : Scr W0 W' c tx ty tz tw b :=
  ⟨Nat.le_trans h.bel.size hb, hb', h.x.2.2 b hb, (h.y.2.2 b hb).1, h.z.2.2 b hb, (h.w.2.2 b hb).1, (h.y.2.2 b hb).2⟩
/-- the colours and the blocks behind a call on one of them -/
theorem Quad.nextX (h : Quad W0 W c T tx gx mx ty gy my tz gz mz tw gw mw) (hn : Next W c tx gx mx' W') :
    ∃ c', Quad W0 W' c' T tx gx mx' ty gy my tz gz mz tw gw mw ∧ W.heap.size ≤ W'.heap.size ∧ ∀ b, Scr W0 W c tx ty tz tw b → Scr W0 W' c' tx ty tz tw b ∧ W'.heap[b]? = W.heap[b]? := by
  obtain ⟨c', h1, h2, h3, h4⟩ := hn
  obtain ⟨t0, ⟨e1, e2, e3, e4⟩, ⟨u1, u2, u3, u4⟩, ⟨l1, l2, l3, l4⟩, d1, d2, d3, d4, d5, d6⟩ := h.tags
  have hsz := h4.size
  have hf : ∀ b, W'.heap.size ≤ b → (c' b).1 = tx + 1 := fun b hb => by
    rcases h2 b (by omega) with e | e
    · exact absurd e (h3.2.2 b hb)
    · exact e
  have hb0 := h.bel.size
  refine ⟨c', ⟨h3, h.y.past hsz h1 (fun b hb he => h4.block b hb (by omega)) (fun b hb => by rw [hf b hb]; omega), h.z.past hsz h1 (fun b hb he => h4.block b hb (by omega)) (fun b hb => by rw [hf b hb]; omega), h.w.past hsz h1 (fun b hb he => h4.block b hb (by omega)) (fun b hb => by rw [hf b hb]; omega), fun b => ?_, h.tags, fun b hb => by rw [h1 b (by omega)]; exact h.low b hb, h.bel.trans (h4.below hb0 fun i hi => by rw [h.low i hi]; omega)⟩, hsz, fun b hs => ?_⟩
  · rcases Nat.lt_or_ge b W.heap.size with hb | hb
    · rw [h1 b hb]; exact h.top b
    · rcases h2 b hb with e | e <;> omega
  · obtain ⟨s1, s2, s3, s4, s5, s6, s7⟩ := hs
    have e := h1 b s2
    exact ⟨⟨s1, by omega, by rw [e]; exact s3, by rw [e]; exact s4, by rw [e]; exact s5, by rw [e]; exact s6, by rw [e]; exact s7⟩, h4.block b s2 s3⟩
theorem Quad.nextY (h : Quad W0 W c T tx gx mx ty gy my tz gz mz tw gw mw) (hn : NextR W c ty gy my' W') :
    ∃ c', Quad W0 W' c' T tx gx mx ty gy my' tz gz mz tw gw mw ∧ W.heap.size ≤ W'.heap.size ∧ ∀ b, Scr W0 W c tx ty tz tw b → Scr W0 W' c' tx ty tz tw b ∧ W'.heap[b]? = W.heap[b]? := by
  obtain ⟨c', h1, h2, hf, h3, h4⟩ := hn
  obtain ⟨t0, ⟨e1, e2, e3, e4⟩, ⟨u1, u2, u3, u4⟩, ⟨l1, l2, l3, l4⟩, d1, d2, d3, d4, d5, d6⟩ := h.tags
  have hsz := h4.size
  have hb0 := h.bel.size
  refine ⟨c', ⟨h.x.past hsz h1 (fun b hb he => h4.block b hb (by omega)) (fun b hb => by rw [hf b hb]; omega), h3, h.z.past hsz h1 (fun b hb he => h4.block b hb (by omega)) (fun b hb => by rw [hf b hb]; omega), h.w.past hsz h1 (fun b hb he => h4.block b hb (by omega)) (fun b hb => by rw [hf b hb]; omega), fun b => ?_, h.tags, fun b hb => by rw [h1 b (by omega)]; exact h.low b hb, h.bel.trans (h4.below hb0 fun i hi => by rw [h.low i hi]; omega)⟩, hsz, fun b hs => ?_⟩
  · rcases Nat.lt_or_ge b W.heap.size with hb | hb
    · rw [h1 b hb]; exact h.top b
    · rcases h2 b hb with e | e | e <;> omega
  · obtain ⟨s1, s2, s3, s4, s5, s6, s7⟩ := hs
    have e := h1 b s2
    exact ⟨⟨s1, by omega, by rw [e]; exact s3, by rw [e]; exact s4, by rw [e]; exact s5, by rw [e]; exact s6, by rw [e]; exact s7⟩, h4.block b s2 s4⟩
theorem Quad.below (h : Quad W0 W c T tx gx mx ty gy my tz gz mz tw gw mw) (hb : Below W.heap.size W W') : Quad W0 W' c T tx gx mx ty gy my tz gz mz tw gw mw :=
  ⟨h.x.below hb, h.y.below hb, h.z.below hb, h.w.below hb, h.top, h.tags, h.low, h.bel.trans (hb.mono h.bel.size)⟩
theorem Scr.below (b : Nat) (hs : Scr W0 W c tx ty tz tw b) (hb : Below W.heap.size W W') : Scr W0 W' c tx ty tz tw b := ⟨hs.1, Nat.lt_of_lt_of_le hs.2.1 hb.size, hs.2.2⟩
/-- a block of nobody's is written -/
theorem Quad.scr (h : Quad W0 W c T tx gx mx ty gy my tz gz mz tw gw mw) (b : Nat) (hs : Scr W0 W c tx ty tz tw b) (hc : Ch (· = b) W W') : Quad W0 W' c T tx gx mx ty gy my tz gz mz tw gw mw := by
  obtain ⟨s1, s2, s3, s4, s5, s6, s7⟩ := hs
  have hsz := hc.size
  refine ⟨h.x.past hsz (fun _ _ => rfl) (fun b' hb he => hc.block b' hb ?_) (fun b' hb => h.x.2.2 b' (by omega)), h.y.past hsz (fun _ _ => rfl) (fun b' hb he => hc.block b' hb ?_) (fun b' hb => h.y.2.2 b' (by omega)), h.z.past hsz (fun _ _ => rfl) (fun b' hb he => hc.block b' hb ?_) (fun b' hb => h.z.2.2 b' (by omega)), h.w.past hsz (fun _ _ => rfl) (fun b' hb he => hc.block b' hb ?_) (fun b' hb => h.w.2.2 b' (by omega)), h.top, h.tags, h.low, h.bel.trans (hc.below h.bel.size fun i hi e => by omega)⟩
  · rintro rfl; exact s3 he
  · rintro rfl; rcases he with e | e; exact s4 e; exact s7 e
  · rintro rfl; exact s5 he
  · rintro rfl; rcases he with e | e; exact s6 e; exact s7 e
theorem Quad.swap (h : Quad W0 W c T tx gx mx ty gy my tz gz mz tw gw mw) : Quad W0 W c T tz gz mz tw gw mw tx gx mx ty gy my := by
  obtain ⟨t0, ⟨e1, e2, e3, e4⟩, ⟨u1, u2, u3, u4⟩, ⟨l1, l2, l3, l4⟩, d1, d2, d3, d4, d5, d6⟩ := h.tags
  exact ⟨h.z, h.w, h.x, h.y, h.top, ⟨t0, ⟨e3, e4, e1, e2⟩, ⟨u3, u4, u1, u2⟩, ⟨l3, l4, l1, l2⟩, d6, d2.symm, d4.symm, d3.symm, d5.symm, d1⟩, h.low, h.bel⟩
theorem Scr.swap {b : Nat} (hs : Scr W0 W c tx ty tz tw b) : Scr W0 W c tz tw tx ty b := ⟨hs.1, hs.2.1, hs.2.2.2.2.1, hs.2.2.2.2.2.1, hs.2.2.1, hs.2.2.2.1, hs.2.2.2.2.2.2⟩
theorem Quad.cloneX {c' : Nat → Colour} {G : Nat} (h : Quad W0 W c T tx gx mx ty gy my tz gz mz tw gw mw) (h1 : ∀ b, b < W.heap.size → c' b = c b) (h2 : ∀ b, W.heap.size ≤ b → (c' b).1 = T ∨ (c' b).1 = T + 1) (h3 : Live W' c' T G mx) (hb : Below W.heap.size W W') :
    Quad W0 W' c' (T + 2) T G mx ty gy my tx gx mx tw gw mw ∧ ∀ b, Scr W0 W c tx ty tz tw b → Scr W0 W' c' T ty tx tw b ∧ W'.heap[b]? = W.heap[b]? := by
  obtain ⟨t0, ⟨e1, e2, e3, e4⟩, ⟨u1, u2, u3, u4⟩, ⟨l1, l2, l3, l4⟩, d1, d2, d3, d4, d5, d6⟩ := h.tags
  have hsz := hb.size
  have hb0 := h.bel.size
  have hf : ∀ b, W'.heap.size ≤ b → (c' b).1 = T + 1 := fun b hb => by
    rcases h2 b (by omega) with e | e
    · exact absurd e (h3.2.2 b hb)
    · exact e
  refine ⟨⟨h3, h.y.past hsz h1 (fun b hlt he => hb.block b hlt) (fun b hb => by rw [hf b hb]; omega), h.x.past hsz h1 (fun b hlt he => hb.block b hlt) (fun b hb => by rw [hf b hb]; omega), h.w.past hsz h1 (fun b hlt he => hb.block b hlt) (fun b hb => by rw [hf b hb]; omega), fun b => ?_, ⟨by omega, ⟨by omega, by omega, by omega, by omega⟩, ⟨by omega, by omega, by omega, by omega⟩, ⟨by omega, by omega, by omega, by omega⟩, by omega, by omega, by omega, by omega, by omega, by omega⟩, fun b hb => by rw [h1 b (by omega)]; exact h.low b hb, h.bel.trans (hb.mono hb0)⟩, fun b hs => ?_⟩
  · rcases Nat.lt_or_ge b W.heap.size with hb | hb
    · rw [h1 b hb]; have := h.top b; omega
    · rcases h2 b hb with e | e <;> omega
  · obtain ⟨s1, s2, s3, s4, s5, s6, s7⟩ := hs
    have e := h1 b s2
    have ht := h.top b
    exact ⟨⟨s1, by omega, by rw [e]; omega, by rw [e]; exact s4, by rw [e]; exact s3, by rw [e]; exact s6, by rw [e]; exact s7⟩, hb.block b s2⟩
theorem Quad.cloneY {c' : Nat → Colour} {G : Nat} (h : Quad W0 W c T tx gx mx ty gy my tz gz mz tw gw mw) (h1 : ∀ b, b < W.heap.size → c' b = c b) (h2 : ∀ b, W.heap.size ≤ b → (c' b).1 = T ∨ (c' b).1 = T + 1) (h3 : LiveR W' c' T G my) (hb : Below W.heap.size W W') :
    Quad W0 W' c' (T + 2) tx gx mx T G my tz gz mz ty gy my ∧ ∀ b, Scr W0 W c tx ty tz tw b → Scr W0 W' c' tx T tz ty b ∧ W'.heap[b]? = W.heap[b]? := by
  obtain ⟨t0, ⟨e1, e2, e3, e4⟩, ⟨u1, u2, u3, u4⟩, ⟨l1, l2, l3, l4⟩, d1, d2, d3, d4, d5, d6⟩ := h.tags
  have hsz := hb.size
  have hb0 := h.bel.size
  have hf : ∀ b, W'.heap.size ≤ b → (c' b).1 = T + 1 := fun b hb => by
    rcases h2 b (by omega) with e | e
    · exact absurd e (h3.2.2 b hb).1
    · exact e
  refine ⟨⟨h.x.past hsz h1 (fun b hlt he => hb.block b hlt) (fun b hb => by rw [hf b hb]; omega), h3, h.z.past hsz h1 (fun b hlt he => hb.block b hlt) (fun b hb => by rw [hf b hb]; omega), h.y.past hsz h1 (fun b hlt he => hb.block b hlt) (fun b hb => by rw [hf b hb]; omega), fun b => ?_, ⟨by omega, ⟨by omega, by omega, by omega, by omega⟩, ⟨by omega, by omega, by omega, by omega⟩, ⟨by omega, by omega, by omega, by omega⟩, by omega, by omega, by omega, by omega, by omega, by omega⟩, fun b hb => by rw [h1 b (by omega)]; exact h.low b hb, h.bel.trans (hb.mono hb0)⟩, fun b hs => ?_⟩
  · rcases Nat.lt_or_ge b W.heap.size with hb | hb
    · rw [h1 b hb]; have := h.top b; omega
    · rcases h2 b hb with e | e <;> omega
  · obtain ⟨s1, s2, s3, s4, s5, s6, s7⟩ := hs
    have e := h1 b s2
    have ht := h.top b
    exact ⟨⟨s1, by omega, by rw [e]; exact s3, by rw [e]; omega, by rw [e]; exact s5, by rw [e]; exact s4, by rw [e]; exact s7⟩, hb.block b s2⟩
end
end Go.Proofs.Ytdddfjkecmnggaa

/- PlantPlays: how the four plants begin. -/
import Derived.Test.YtdddfjkecmnggaaLawSt
namespace Go.Proofs.Ytdddfjkecmnggaa
open Go.RowKit Go.Maps

structure P1 (W0 W : World) (c : Nat → Colour) (gx : Nat) (m : Pl) : Prop where
  x : Live W c 2 gx m
  top : ∀ b, (c b).1 < 4
  low : ∀ b, b < W0.heap.size → (c b).1 = 0
  bel : Below W0.heap.size W0 W
structure P2 (W0 W : World) (c : Nat → Colour) (gx gy : Nat) (m : Pl) : Prop where
  x : Live W c 2 gx m
  y : LiveR W c 4 gy m
  top : ∀ b, (c b).1 < 6
  low : ∀ b, b < W0.heap.size → (c b).1 = 0
  bel : Below W0.heap.size W0 W
structure P3 (W0 W : World) (c : Nat → Colour) (gx gy gz : Nat) (m : Pl) : Prop where
  x : Live W c 2 gx m
  y : LiveR W c 4 gy m
  z : Live W c 6 gz m
  top : ∀ b, (c b).1 < 8
  low : ∀ b, b < W0.heap.size → (c b).1 = 0
  bel : Below W0.heap.size W0 W
section
variable {W0 W W' : World} {c c' : Nat → Colour} {gx gy gz gw : Nat} {m : Pl}
theorem begin1 (hb : Below W0.heap.size W0 W) (h1 : ∀ b, b < W.heap.size → c' b = (0, 0)) (h2 : ∀ b, W.heap.size ≤ b → (c' b).1 = 2 ∨ (c' b).1 = 2 + 1) (h3 : Live W' c' 2 gx m) (h4 : Below W.heap.size W W') : P1 W0 W' c' gx m := by
  refine ⟨h3, fun b => ?_, fun b hlt => by rw [h1 b (Nat.lt_of_lt_of_le hlt hb.size)], hb.trans (h4.mono hb.size)⟩
  rcases Nat.lt_or_ge b W.heap.size with h | h
  · rw [h1 b h]; decide
  · rcases h2 b h with e | e <;> omega
theorem begin2 (h : P1 W0 W c gx m) (h1 : ∀ b, b < W.heap.size → c' b = c b) (h2 : ∀ b, W.heap.size ≤ b → (c' b).1 = 4 ∨ (c' b).1 = 4 + 1 ∨ (c' b).1 = 1) (hf : ∀ b, W'.heap.size ≤ b → (c' b).1 = 4 + 1) (h3 : LiveR W' c' 4 gy m) (h4 : Below W.heap.size W W') : P2 W0 W' c' gx gy m := by
  refine ⟨h.x.past h4.size h1 (fun b hb _ => h4.block b hb) (fun b hb => by rw [hf b hb]; decide), h3, fun b => ?_, fun b hlt => by rw [h1 b (Nat.lt_of_lt_of_le hlt h.bel.size)]; exact h.low b hlt, h.bel.trans (h4.mono h.bel.size)⟩
  rcases Nat.lt_or_ge b W.heap.size with h' | h'
  · rw [h1 b h']; have := h.top b; omega
  · rcases h2 b h' with e | e | e <;> omega
theorem begin3 (h : P2 W0 W c gx gy m) (h1 : ∀ b, b < W.heap.size → c' b = c b) (h2 : ∀ b, W.heap.size ≤ b → (c' b).1 = 6 ∨ (c' b).1 = 6 + 1) (h3 : Live W' c' 6 gz m) (h4 : Below W.heap.size W W') : P3 W0 W' c' gx gy gz m := by
  have hf : ∀ b, W'.heap.size ≤ b → (c' b).1 = 7 := fun b hb => by
    rcases h2 b (Nat.le_trans h4.size hb) with e | e
    · exact absurd e (h3.2.2 b hb)
    · exact e
  refine ⟨h.x.past h4.size h1 (fun b hb _ => h4.block b hb) (fun b hb => by rw [hf b hb]; decide), h.y.past h4.size h1 (fun b hb _ => h4.block b hb) (fun b hb => by rw [hf b hb]; decide), h3, fun b => ?_, fun b hlt => by rw [h1 b (Nat.lt_of_lt_of_le hlt h.bel.size)]; exact h.low b hlt, h.bel.trans (h4.mono h.bel.size)⟩
  rcases Nat.lt_or_ge b W.heap.size with h' | h'
  · rw [h1 b h']; have := h.top b; omega
  · rcases h2 b h' with e | e <;> omega
theorem begin4 (h : P3 W0 W c gx gy gz m) (h1 : ∀ b, b < W.heap.size → c' b = c b) (h2 : ∀ b, W.heap.size ≤ b → (c' b).1 = 8 ∨ (c' b).1 = 8 + 1) (h3 : LiveR W' c' 8 gw m) (h4 : Below W.heap.size W W') : Quad W0 W' c' 10 2 gx m 4 gy m 6 gz m 8 gw m := by
  have hf : ∀ b, W'.heap.size ≤ b → (c' b).1 = 9 := fun b hb => by
    rcases h2 b (Nat.le_trans h4.size hb) with e | e
    · exact absurd e (h3.2.2 b hb).1
    · exact e
  refine ⟨h.x.past h4.size h1 (fun b hb _ => h4.block b hb) (fun b hb => by rw [hf b hb]; decide), h.y.past h4.size h1 (fun b hb _ => h4.block b hb) (fun b hb => by rw [hf b hb]; decide), h.z.past h4.size h1 (fun b hb _ => h4.block b hb) (fun b hb => by rw [hf b hb]; decide), h3, fun b => ?_, by unfold TagsOk; decide, fun b hlt => by rw [h1 b (Nat.lt_of_lt_of_le hlt h.bel.size)]; exact h.low b hlt, h.bel.trans (h4.mono h.bel.size)⟩
  rcases Nat.lt_or_ge b W.heap.size with h' | h'
  · rw [h1 b h']; have := h.top b; omega
  · rcases h2 b h' with e | e <;> omega
/-- what holds ahead of each call -/
def LoopQ (W0 : World) (i : Nat) (sx sy sz sw : Value) (W : World) : Prop :=
  ∃ c T tx gx ty gy tz gz tw gw m1 m2, sx = ptr gx ∧ sy = ptr gy ∧ sz = ptr gz ∧ sw = ptr gw ∧ Quad W0 W c T tx gx m1 ty gy m1 tz gz m2 tw gw m2 ∧ m1.steps ≤ i ∧ m2.steps ≤ i
/-- what holds behind the switch -/
def SwQ (W0 : World) (o : OpD) (bo bq i : Nat) (sx sy sz sw : Value) (W : World) : Prop :=
  ∃ gx gy gz gw m1 m2 cells, sx = ptr gx ∧ sy = ptr gy ∧ sz = ptr gz ∧ sw = ptr gw ∧ cells.length = 64 ∧ St4 W0 o bo bq cells gx m1 gy m1 gz m2 gw m2 W ∧ m1.steps ≤ i + 1 ∧ m2.steps ≤ i + 1
theorem St4.loop {o : OpD} {bo bq i : Nat} {cells : List Value} {m1 m2 : Pl} (h : St4 W0 o bo bq cells gx m1 gy m1 gz m2 gw m2 W) (h1 : m1.steps ≤ i) (h2 : m2.steps ≤ i) : LoopQ W0 i (ptr gx) (ptr gy) (ptr gz) (ptr gw) W := by
  obtain ⟨c, T, tx, ty, tz, tw, q, _⟩ := h
  exact ⟨c, T, tx, gx, ty, gy, tz, gz, tw, gw, m1, m2, rfl, rfl, rfl, rfl, q, h1, h2⟩
end
end Go.Proofs.Ytdddfjkecmnggaa

/- The document's own plant: from call to call. -/
import Derived.Test.YtdddfjkecmnggaaRefWait
import Derived.Test.YtdddfjkecmnggaaME
namespace Go.Proofs.Ytdddfjkecmnggaa
open Go.RowKit Go.Maps

section
variable {w w1 w' : World} {c : Nat → Colour} {t g : Nat} {vd vt hv wv hv' wv' : Value} {ds ts : List Int} {m m' : Pl}
theorem NextA.after (hfr : ∀ b, w.heap.size ≤ b → (c b).1 = t + 1) (hc : Ch (fun b => (c b).1 = t) w w1) (h : NextA w1 c t g vd vt hv wv ds ts m w') : NextA w c t g vd vt hv wv ds ts m w' := by
  obtain ⟨c', h1, h2, h3, h4, h5⟩ := h
  refine ⟨c', fun b hb => h1 b (Nat.lt_of_lt_of_le hb hc.size), fun b hb => ?_, h3, h4, hc.trans h5⟩
  rcases Nat.lt_or_ge b w1.heap.size with hlt | hge
  · rw [h1 b hlt]
    exact Or.inr (Or.inl (hfr b hb))
  · exact h2 b hge
theorem NextA.refl (hfr : ∀ b, w.heap.size ≤ b → (c b).1 = t + 1) (h : RefAt w c t g vd vt hv wv ds ts m) : NextA w c t g vd vt hv wv ds ts m w :=
  ⟨c, fun _ _ => rfl, fun b hb => Or.inr (Or.inl (hfr b hb)), hfr, h, Ch.refl _ _⟩
theorem NextA.below (hfr : ∀ b, w.heap.size ≤ b → (c b).1 = t + 1) (h : RefAt w c t g vd vt hv wv ds ts m) (hb : Below w.heap.size w w') : NextA w c t g vd vt hv wv ds ts m w' :=
  NextA.after hfr (Ch.of_below hb) (NextA.refl (fun b hlt => hfr b (Nat.le_trans hb.size hlt)) (h.same (Same.below hb) hb.size))
theorem NextA.head (hfr : ∀ b, w.heap.size ≤ b → (c b).1 = t + 1) (ht1 : t ≠ 1) (h : RefAt w c t g vd vt hv wv ds ts m) (hr : RefRow w' g vd vt hv wv m') (hc : Ch (· = g) w w') (hsh : m'.sh = m.sh) (hfl : m'.fl = m.fl) (hwt : m'.wts = m.wts) : NextA w c t g vd vt hv wv ds ts m' w' :=
  NextA.after hfr (hc.mono fun b _ e => by rw [e, h.cg]) (NextA.refl (fun b hlt => hfr b (Nat.le_trans hc.size hlt)) (h.head ht1 hr hc hsh hfl hwt))
theorem LiveR.opened (h : LiveR w c t g m) (ht0 : t ≠ 0) : ∃ vd vt hv wv ds ts c0, RefAt w c0 t g vd vt hv wv ds ts m ∧ (∀ b, w.heap.size ≤ b → (c0 b).1 = t + 1) ∧ (∀ b, b < w.heap.size → c0 b = c b) ∧
    ∀ hv' wv' m' w', NextA w c0 t g vd vt hv' wv' ds ts m' w' → m'.WF → NextR w c t g m' w' := by
  obtain ⟨⟨vd, vt, hv, wv, ds, ts, hA⟩, hwf, hfr⟩ := h
  obtain ⟨c0, hc0⟩ : ∃ c0 : Nat → Colour, c0 = fun b => if b < w.heap.size then c b else (t + 1, 0) := ⟨_, rfl⟩
  have hlt : ∀ b, b < w.heap.size → c0 b = c b := fun b hb => by rw [hc0]; exact if_pos hb
  have hge : ∀ b, w.heap.size ≤ b → (c0 b).1 = t + 1 := fun b hb => by rw [hc0]; dsimp only; rw [if_neg (by omega)]
  refine ⟨vd, vt, hv, wv, ds, ts, c0, hA.same (fun b hb _ => ⟨rfl, hlt b hb⟩) (Nat.le_refl _), hge, hlt, fun hv' wv' m' w' hn hwf' => ?_⟩
  obtain ⟨c', h1, h2, h3, h4, h5⟩ := hn
  exact ⟨c', fun b hb => by rw [h1 b hb, hlt b hb], h2, h3, ⟨⟨_, _, _, _, _, _, h4⟩, hwf', fun b hb => by rw [h3 b hb]; omega⟩, h5.mono fun b hb e => by rw [← hlt b hb]; exact e⟩
end
end Go.Proofs.Ytdddfjkecmnggaa

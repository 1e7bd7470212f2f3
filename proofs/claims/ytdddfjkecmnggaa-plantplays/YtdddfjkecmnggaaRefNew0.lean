/- The document's own New: one more device behind the others. -/
import Derived.Test.YtdddfjkecmnggaaRefClone0
namespace Go.Proofs.Ytdddfjkecmnggaa
open Go.RowKit Go.Maps

/-- one more row that the call has made -/
theorem new_chain {w W : World} {c c' : Nat → Colour} {t' : Nat} {vd vt hv wv : Value} {m : Pl} {left : Int} {G k : Nat} (h : CloneR w c t' vd vt wv m left G k hv W c') (ht1 : t' ≠ 1) (ht0 : t' ≠ 0) (hk : k ≤ 1000) (vr : Value) (xs : List Value) (or2 : W.ownsRow 0 40 1 vr (m.fl k).length xs) (hr2 : ∀ i, i < (m.fl k).length → RO W c' (xs.getD i undef) ((m.fl k).getD i [])) (hvb : ∀ b, vr.ownBlock = some b → (c' b).1 = t' + 1 ∧ w.heap.size ≤ b) :
    Below W.heap.size W (W.alloc (.cells #[vr] 57)) ∧
    ∃ v5 W5, (Builtin.append_ #[53, 53] 53 #[hv, .slice (some ⟨W.heap.size, 0, none⟩) 1 1]).run Try.prog (W.alloc (.cells #[vr] 57)) = .ok v5 W5 ∧ (v5.cells = #[v5] ∧ v5.oneCell' = true) ∧ Row W5 G 56 (rcells vd vt hv wv (!m.on) (decide (0 ≤ m.fuse)) left (m.steps : Nat) m.clock) ∧ (∀ b, b < W.heap.size → ¬ hv.ownBlock = some b → W5.heap[b]? = W.heap[b]?) ∧ ∃ c'', CloneR w c t' vd vt wv m left G (k + 1) v5 (W5.setCell ⟨G, 2, none⟩ v5) c'' := by
  obtain ⟨n1, n2, n3, n4, hG, ⟨hcG, hGw⟩, ⟨⟨us, o1, o2⟩, o3⟩, o4⟩ := h
  have b3 : Below W.heap.size W (W.alloc (.cells #[vr] 57)) := (Below.refl _ _).alloc (Nat.le_refl _) _
  have z3 : (W.alloc (.cells #[vr] 57)).heap.size = W.heap.size + 1 := World.size_alloc _ _
  have hrow3 : Row (W.alloc (.cells #[vr] 57)) W.heap.size 57 [vr] := Row.new W 57 [vr]
  have or3 : (W.alloc (.cells #[vr] 57)).ownsRow 0 40 1 vr (m.fl k).length xs := ownK or2 fun b hb => Below.heap_alloc W _ b (or2.lt b hb).2
  have ohv3 : (W.alloc (.cells #[vr] 57)).ownsRow 0 57 1 hv k us := ownK o1 fun b hb => b3.block b (o1.lt b hb).2
  refine ⟨b3, ?_⟩
  generalize W.alloc (.cells #[vr] 57) = W3 at b3 z3 hrow3 or3 ohv3 ⊢
  obtain ⟨v5, W5, hrun5, h2, h3, h5⟩ := app_one (w := W3) Try.underlying53 i57 53 hv k us ohv3 W.heap.size vr (own_cells or2).2 hrow3 (by omega)
  have hch : Ch (fun b => hv.ownBlock = some b) W W5 := (Ch.of_below b3).grown h3 fun k hk => Or.inl hk
  have hz5 := h3.size
  have hGlt := hG.lt
  have hGh : ¬ hv.ownBlock = some G := fun e => by have := o3 G e; rw [hcG] at this; simp at this
  have hG5 : Row W5 G 56 (rcells vd vt hv wv (!m.on) (decide (0 ≤ m.fuse)) left (m.steps : Nat) m.clock) := by unfold Row; rw [hch.block G hGlt hGh]; exact hG
  have h5' : ∀ b, v5.ownBlock = some b → hv.ownBlock = some b ∨ W3.heap.size ≤ b := fun b hb => by
    rcases h5 with e | e
    · exact Or.inl (by rw [← e]; exact hb)
    · rw [hb] at e; injection e with e; exact Or.inr (by omega)
  have hvr5 : ∀ b, vr.ownBlock = some b → v5.ownBlock ≠ some b := fun b hb e => by
    rcases h5' b e with e' | e'
    · have h1 := (hvb b hb).1; rw [o3 b e'] at h1; simp at h1
    · have := (or2.lt b hb).2; omega
  have hwW := n4.size
  obtain ⟨c2, hc2⟩ : ∃ c2 : Nat → Colour, c2 = fun b => if v5.ownBlock = some b then (t', 1) else if vr.ownBlock = some b then (t', 3 + k) else c' b := ⟨_, rfl⟩
  have hcy : ∀ b, v5.ownBlock = some b → c2 b = (t', 1) := fun b hb => by rw [hc2]; exact if_pos hb
  have hcb : ∀ b, vr.ownBlock = some b → c2 b = (t', 3 + k) := fun b hb => by rw [hc2]; dsimp only; rw [if_neg (hvr5 b hb), if_pos hb]
  have hcn : ∀ b, v5.ownBlock ≠ some b → vr.ownBlock ≠ some b → c2 b = c' b := fun b hb hb' => by rw [hc2]; dsimp only; rw [if_neg hb, if_neg hb']
  have hold : ∀ b, b < W.heap.size → (c' b).1 ≠ t' + 1 → c2 b = c' b := fun b hb hne => by
    by_cases e : v5.ownBlock = some b
    · rw [hcy b e]
      rcases h5' b e with e' | e'
      · exact (o3 b e').symm
      · omega
    · exact hcn b e fun e' => hne (hvb b e').1
  have hsz : (W5.setCell ⟨G, 2, none⟩ v5).heap.size = W5.heap.size := World.size_setCell _ _ _
  have hkept : KeptC (fun x => x.1 = 1 ∨ (x.1 = t' ∧ x ≠ (t', 0) ∧ x ≠ (t', 1))) W c' (W5.setCell ⟨G, 2, none⟩ v5) c2 := ⟨fun b hb hK => ⟨by
    rw [Below.heap_setCell W5 ⟨G, 2, none⟩ v5 b (by
      rintro rfl
      rw [hcG] at hK
      rcases hK with e | e
      · exact ht1 e
      · exact e.2.1 rfl)]
    exact hch.block b hb fun e => by
      rw [o3 b e] at hK
      rcases hK with e | e
      · exact ht1 e
      · exact e.2.2 rfl, hold b hb (by
      rcases hK with e | e
      · rw [e]; omega
      · rw [e.1]; omega)⟩, by omega⟩
  have hK1 : ∀ x, (fun x : Colour => x.1 = 1 ∨ (x.1 = t' ∧ x ≠ (t', 0) ∧ x ≠ (t', 1))) (1, x) := fun x => Or.inl rfl
  have hfr : ∀ b, W.heap.size ≤ b → (c' b).1 = t' + 1 := n3
  have hul : us.length = k := by have := o1.1; omega
  have hbelow : Below w.heap.size w (W5.setCell ⟨G, 2, none⟩ v5) := (hch.below (B := w.heap.size) hwW fun i hi e => by have := o4 i e; omega) |> fun hb => (n4.trans hb).setCell hGw v5
  refine ⟨v5, W5, hrun5, own_cells h2, hG5, fun b hb hne => hch.block b hb hne, c2, fun b hb => ?_, fun b hb => ?_, fun b hb => ?_, hbelow, ?_, ⟨by rw [hold G hGlt (by rw [hcG]; simp)]; exact hcG, hGw⟩, ⟨⟨us ++ [vr], ownK h2 fun b hb => Below.heap_setCell W5 ⟨G, 2, none⟩ v5 b (by rintro rfl; rcases h5' b hb with e | e; exact hGh e; show False; omega), fun j hj => ?_⟩, hcy⟩, fun b hb => ?_⟩
  · rw [hcn b (fun e => ?_) (fun e => ?_)]
    · exact n1 b hb
    · rcases h5' b e with e' | e'
      · have := o4 b e'; omega
      · omega
    · have := (hvb b e).2; omega
  · by_cases e : v5.ownBlock = some b
    · exact Or.inl (by rw [hcy b e])
    · by_cases e' : vr.ownBlock = some b
      · exact Or.inl (by rw [hcb b e'])
      · rw [hcn b e e']; exact n2 b hb
  · rw [hcn b (fun e => by have := (h2.lt b e).2; omega) (fun e => by have := (or2.lt b e).2; omega)]
    exact hfr b (by omega)
  · have h6 := hG5.setRow (rcells vd vt v5 wv (!m.on) (decide (0 ≤ m.fuse)) left (m.steps : Nat) m.clock)
    rw [setCell_eq_setRow W5 G 2 _ 56 (0, 0) v5 hG5]
    simpa [rcells] using h6
  · by_cases e : j = k
    · subst e
      have e1 : (us ++ [vr]).getD j undef = vr := by rw [List.getD_eq_getElem?_getD, List.getElem?_append_right (by omega), hul, Nat.sub_self]; rfl
      rw [e1]
      have hne : ∀ b, vr.ownBlock = some b → (W5.setCell ⟨G, 2, none⟩ v5).heap[b]? = W3.heap[b]? := fun b hb => by
        have hlt := (or2.lt b hb).2
        rw [Below.heap_setCell W5 ⟨G, 2, none⟩ v5 b (by rintro rfl; have := (hvb b hb).1; rw [hcG] at this; simp at this)]
        exact h3.block b (by omega) fun e' => by have h1 := (hvb b hb).1; rw [o3 b e'.symm] at h1; simp at h1
      exact ⟨⟨xs, ownK or3 hne, fun i hi => (hr2 i hi).k hkept hK1⟩, hcb⟩
    · have e1 : (us ++ [vr]).getD j undef = us.getD j undef := by rw [List.getD_eq_getElem?_getD, List.getElem?_append_left (by omega), ← List.getD_eq_getElem?_getD]
      rw [e1]
      exact (o2 j (by omega)).k hkept hK1 (Or.inr ⟨rfl, fun e => by injection e; omega, fun e => by injection e; omega⟩)
  · rcases h5' b hb with e | e
    · exact o4 b e
    · omega
end Go.Proofs.Ytdddfjkecmnggaa

/- The document's own New: what holds from round to round. -/
import Derived.Test.YtdddfjkecmnggaaRefNewA
import Derived.Test.YtdddfjkecmnggaaME
namespace Go.Proofs.Ytdddfjkecmnggaa
open Go.RowKit Go.Maps

def CloneN (w : World) (c : Nat → Colour) (t' : Nat) (vd vt wv : Value) (m : Pl) (left : Int) (G k : Nat) (hv : Value) (W : World) (c' : Nat → Colour) : Prop :=
  (∀ b, b < w.heap.size → c' b = c b) ∧ (∀ b, w.heap.size ≤ b → (c' b).1 = t' ∨ (c' b).1 = t' + 1 ∨ (c' b).1 = 1) ∧ (∀ b, W.heap.size ≤ b → (c' b).1 = t' + 1) ∧ Below w.heap.size w W ∧
  Row W G 56 (rcells vd vt hv wv (!m.on) (decide (0 ≤ m.fuse)) left (m.steps : Nat) m.clock) ∧ (c' G = (t', 0) ∧ w.heap.size ≤ G) ∧ HasOf W c' t' hv k m.fl ∧ ∀ b, hv.ownBlock = some b → w.heap.size ≤ b
theorem CloneN.step {w W W' : World} {c c' c'' : Nat → Colour} {t' : Nat} {vd vt hv wv : Value} {m : Pl} {left : Int} {G k : Nat} (h : CloneN w c t' vd vt wv m left G k hv W c') (ht0 : t' ≠ 0) (hch : ∀ b, b < W.heap.size → (c' b).1 ≠ t' + 1 → W'.heap[b]? = W.heap[b]?) (hsz : W.heap.size ≤ W'.heap.size) (hcc : ∀ b, b < W.heap.size → c'' b = c' b) (hn : ∀ b, W.heap.size ≤ b → (c'' b).1 = t' + 1 ∨ (c'' b).1 = 1) (hn' : ∀ b, W'.heap.size ≤ b → (c'' b).1 = t' + 1) (hb : Below w.heap.size w W') : CloneN w c t' vd vt wv m left G k hv W' c'' := by
  obtain ⟨n1, n2, n3, n4, hG, ⟨hcG, hGw⟩, hH, o4⟩ := h
  have hwW := n4.size
  have hs : Same t' W c' W' c'' := fun b hlt ht => ⟨hch b hlt (by rcases ht with e | e <;> rw [e] <;> omega), hcc b hlt⟩
  have hGlt := hG.lt
  refine ⟨fun b hlt => by rw [hcc b (by omega)]; exact n1 b hlt, fun b hlt => ?_, hn', hb, ?_, ⟨by rw [hcc G hGlt]; exact hcG, hGw⟩, hH.same hs hsz, o4⟩
  · rcases Nat.lt_or_ge b W.heap.size with h' | h'
    · rw [hcc b h']; exact n2 b hlt
    · exact Or.inr (hn b h')
  · unfold Row
    rw [(hs G hGlt (Or.inl (by rw [hcG]))).1]
    exact hG
theorem NRO.keep {W W' : World} {c' c'' : Nat → Colour} {v : Value} {l : List Int} (h : NRO W c' v l) (hk : ∀ b, b < W.heap.size → (c' b).1 = 1 → W'.heap[b]? = W.heap[b]? ∧ c'' b = c' b) (hz : W.heap.size ≤ W'.heap.size) : NRO W' c'' v l :=
  ⟨numsK h.1 fun b hb hlt => (hk b hlt (h.2 b hb).2).1, fun b hb => ⟨Nat.lt_of_lt_of_le (h.2 b hb).1 hz, by rw [(hk b (h.2 b hb).1 (h.2 b hb).2).2]; exact (h.2 b hb).2⟩⟩
theorem RO.keep {W W' : World} {c' c'' : Nat → Colour} {v : Value} {l : List Nat} (h : RO W c' v l) (hk : ∀ b, b < W.heap.size → (c' b).1 = 1 → W'.heap[b]? = W.heap[b]? ∧ c'' b = c' b) (hz : W.heap.size ≤ W'.heap.size) : RO W' c'' v l :=
  ⟨sliceK h.1 fun b hb hlt => (hk b hlt (h.2 b hb).2).1, fun b hb => ⟨Nat.lt_of_lt_of_le (h.2 b hb).1 hz, by rw [(hk b (h.2 b hb).1 (h.2 b hb).2).2]; exact (h.2 b hb).2⟩⟩
/-- one more row that the call has made -/
theorem new_chainN {w W : World} {c c' : Nat → Colour} {t' : Nat} {vd vt hv wv : Value} {m : Pl} {left : Int} {G k : Nat} (h : CloneN w c t' vd vt wv m left G k hv W c') (ht1 : t' ≠ 1) (ht0 : t' ≠ 0) (hk : k ≤ 1000) (vr : Value) (xs : List Value) (or2 : W.ownsRow 0 40 1 vr (m.fl k).length xs) (hr2 : ∀ i, i < (m.fl k).length → RO W c' (xs.getD i undef) ((m.fl k).getD i [])) (hvb : ∀ b, vr.ownBlock = some b → (c' b).1 = t' + 1 ∧ w.heap.size ≤ b) :
    Below W.heap.size W (W.alloc (.cells #[vr] 57)) ∧
    ∃ v5 W5, (Builtin.append_ #[53, 53] 53 #[hv, .slice (some ⟨W.heap.size, 0, none⟩) 1 1]).run Try.prog (W.alloc (.cells #[vr] 57)) = .ok v5 W5 ∧ (v5.cells = #[v5] ∧ v5.oneCell' = true) ∧ Row W5 G 56 (rcells vd vt hv wv (!m.on) (decide (0 ≤ m.fuse)) left (m.steps : Nat) m.clock) ∧ (∀ b, b < W.heap.size → ¬ hv.ownBlock = some b → W5.heap[b]? = W.heap[b]?) ∧ ∃ c'', CloneN w c t' vd vt wv m left G (k + 1) v5 (W5.setCell ⟨G, 2, none⟩ v5) c'' ∧ KeptC (fun x => x.1 = 1) W c' (W5.setCell ⟨G, 2, none⟩ v5) c'' := by
  obtain ⟨n1, n2, n3, n4, hG, ⟨hcG, hGw⟩, ⟨⟨us, o1, o2⟩, o3⟩, o4⟩ := h
  have b3 : Below W.heap.size W (W.alloc (.cells #[vr] 57)) := (Below.refl _ _).alloc (Nat.le_refl _) _
  have z3 : (W.alloc (.cells #[vr] 57)).heap.size = W.heap.size + 1 := World.size_alloc _ _
  have hrow3 : Row (W.alloc (.cells #[vr] 57)) W.heap.size 57 [vr] := Row.new W 57 [vr]
  have or3 : (W.alloc (.cells #[vr] 57)).ownsRow 0 40 1 vr (m.fl k).length xs := ownK or2 fun b hb => Below.heap_alloc W _ b (or2.lt b hb).2
  have ohv3 : (W.alloc (.cells #[vr] 57)).ownsRow 0 57 1 hv k us := ownK o1 fun b hb => b3.block b (o1.lt b hb).2
  refine ⟨b3, ?_⟩
  generalize W.alloc (.cells #[vr] 57) = W3 at b3 z3 hrow3 or3 ohv3 ⊢
  obtain ⟨v5, W5, hrun5, h2, h3, h5⟩ := app_one (w := W3) Try.underlying53 i57 53 hv k us ohv3 W.heap.size vr (own_cells or2).2 hrow3 (by omega)
  have hch : Ch (fun b => hv.ownBlock = some b) W W5 := (Ch.of_below b3).grown h3 fun k hk => Or.inl hk
  have hz5 := h3.size
  have hGlt := hG.lt
  have hGh : ¬ hv.ownBlock = some G := fun e => by have := o3 G e; rw [hcG] at this; simp at this
  have hG5 : Row W5 G 56 (rcells vd vt hv wv (!m.on) (decide (0 ≤ m.fuse)) left (m.steps : Nat) m.clock) := by unfold Row; rw [hch.block G hGlt hGh]; exact hG
  have h5' : ∀ b, v5.ownBlock = some b → hv.ownBlock = some b ∨ W3.heap.size ≤ b := fun b hb => by
    rcases h5 with e | e
    · exact Or.inl (by rw [← e]; exact hb)
    · rw [hb] at e; injection e with e; exact Or.inr (by omega)
  have hvr5 : ∀ b, vr.ownBlock = some b → v5.ownBlock ≠ some b := fun b hb e => by
    rcases h5' b e with e' | e'
    · have h1 := (hvb b hb).1; rw [o3 b e'] at h1; simp at h1
    · have := (or2.lt b hb).2; omega
  have hwW := n4.size
  obtain ⟨c2, hc2⟩ : ∃ c2 : Nat → Colour, c2 = fun b => if v5.ownBlock = some b then (t', 1) else if vr.ownBlock = some b then (t', 3 + k) else c' b := ⟨_, rfl⟩
  have hcy : ∀ b, v5.ownBlock = some b → c2 b = (t', 1) := fun b hb => by rw [hc2]; exact if_pos hb
  have hcb : ∀ b, vr.ownBlock = some b → c2 b = (t', 3 + k) := fun b hb => by rw [hc2]; dsimp only; rw [if_neg (hvr5 b hb), if_pos hb]
  have hcn : ∀ b, v5.ownBlock ≠ some b → vr.ownBlock ≠ some b → c2 b = c' b := fun b hb hb' => by rw [hc2]; dsimp only; rw [if_neg hb, if_neg hb']
  have hold : ∀ b, b < W.heap.size → (c' b).1 ≠ t' + 1 → c2 b = c' b := fun b hb hne => by
    by_cases e : v5.ownBlock = some b
    · rw [hcy b e]
      rcases h5' b e with e' | e'
      · exact (o3 b e').symm
      · omega
    · exact hcn b e fun e' => hne (hvb b e').1
  have hsz : (W5.setCell ⟨G, 2, none⟩ v5).heap.size = W5.heap.size := World.size_setCell _ _ _
  have hkept : KeptC (fun x => x.1 = 1 ∨ (x.1 = t' ∧ x ≠ (t', 0) ∧ x ≠ (t', 1))) W c' (W5.setCell ⟨G, 2, none⟩ v5) c2 := ⟨fun b hb hK => ⟨by
    rw [Below.heap_setCell W5 ⟨G, 2, none⟩ v5 b (by
      rintro rfl
      rw [hcG] at hK
      rcases hK with e | e
      · exact ht1 e
      · exact e.2.1 rfl)]
    exact hch.block b hb fun e => by
      rw [o3 b e] at hK
      rcases hK with e | e
      · exact ht1 e
      · exact e.2.2 rfl, hold b hb (by
      rcases hK with e | e
      · rw [e]; omega
      · rw [e.1]; omega)⟩, by omega⟩
  have hK1 : ∀ x, (fun x : Colour => x.1 = 1 ∨ (x.1 = t' ∧ x ≠ (t', 0) ∧ x ≠ (t', 1))) (1, x) := fun x => Or.inl rfl
  have hfr : ∀ b, W.heap.size ≤ b → (c' b).1 = t' + 1 := n3
  have hul : us.length = k := by have := o1.1; omega
  have hbelow : Below w.heap.size w (W5.setCell ⟨G, 2, none⟩ v5) := (hch.below (B := w.heap.size) hwW fun i hi e => by have := o4 i e; omega) |> fun hb => (n4.trans hb).setCell hGw v5
  refine ⟨v5, W5, hrun5, own_cells h2, hG5, fun b hb hne => hch.block b hb hne, c2, ⟨fun b hb => ?_, fun b hb => ?_, fun b hb => ?_, hbelow, ?_, ⟨by rw [hold G hGlt (by rw [hcG]; simp)]; exact hcG, hGw⟩, ⟨⟨us ++ [vr], ownK h2 fun b hb => Below.heap_setCell W5 ⟨G, 2, none⟩ v5 b (by rintro rfl; rcases h5' b hb with e | e; exact hGh e; show False; omega), fun j hj => ?_⟩, hcy⟩, fun b hb => ?_⟩, ⟨fun b hb hK => hkept.1 b hb (Or.inl hK), hkept.2⟩⟩
  · rw [hcn b (fun e => ?_) (fun e => ?_)]
    · exact n1 b hb
    · rcases h5' b e with e' | e'
      · have := o4 b e'; omega
      · omega
    · have := (hvb b e).2; omega
  · by_cases e : v5.ownBlock = some b
    · exact Or.inl (by rw [hcy b e])
    · by_cases e' : vr.ownBlock = some b
      · exact Or.inl (by rw [hcb b e'])
      · rw [hcn b e e']; exact n2 b hb
  · rw [hcn b (fun e => by have := (h2.lt b e).2; omega) (fun e => by have := (or2.lt b e).2; omega)]
    exact hfr b (by omega)
  · have h6 := hG5.setRow (rcells vd vt v5 wv (!m.on) (decide (0 ≤ m.fuse)) left (m.steps : Nat) m.clock)
    rw [setCell_eq_setRow W5 G 2 _ 56 (0, 0) v5 hG5]
    simpa [rcells] using h6
  · by_cases e : j = k
    · subst e
      have e1 : (us ++ [vr]).getD j undef = vr := by rw [List.getD_eq_getElem?_getD, List.getElem?_append_right (by omega), hul, Nat.sub_self]; rfl
      rw [e1]
      have hne : ∀ b, vr.ownBlock = some b → (W5.setCell ⟨G, 2, none⟩ v5).heap[b]? = W3.heap[b]? := fun b hb => by
        have hlt := (or2.lt b hb).2
        rw [Below.heap_setCell W5 ⟨G, 2, none⟩ v5 b (by rintro rfl; have := (hvb b hb).1; rw [hcG] at this; simp at this)]
        exact h3.block b (by omega) fun e' => by have h1 := (hvb b hb).1; rw [o3 b e'.symm] at h1; simp at h1
      exact ⟨⟨xs, ownK or3 hne, fun i hi => (hr2 i hi).k hkept hK1⟩, hcb⟩
    · have e1 : (us ++ [vr]).getD j undef = us.getD j undef := by rw [List.getD_eq_getElem?_getD, List.getElem?_append_left (by omega), ← List.getD_eq_getElem?_getD]
      rw [e1]
      exact (o2 j (by omega)).k hkept hK1 (Or.inr ⟨rfl, fun e => by injection e; omega, fun e => by injection e; omega⟩)
  · rcases h5' b hb with e | e
    · exact o4 b e
    · omega

/-- a plant that is being made: k devices -/
def NewI (w : World) (c : Nat → Colour) (t : Nat) (va vb : Value) (ds ts : List Int) (G k : Nat) (hv : Value) (W : World) (c' : Nat → Colour) : Prop :=
  CloneN w c t va vb (.slice none 0 0) (newPl ds ts) 0 G k hv W c' ∧ NRO W c' va ds ∧ NRO W c' vb ts
/-- the sectors of the next device: j of them -/
def SecsP (w : World) (c : Nat → Colour) (t : Nat) (va vb : Value) (ds ts : List Int) (G k : Nat) (hv : Value) (l : Value) (j : Nat) (ys : List Value) (W : World) (c' : Nat → Colour) : Prop :=
  W.ownsRow 0 40 1 l j ys ∧ (∀ b, l.ownBlock = some b → (c' b).1 = t + 1 ∧ w.heap.size ≤ b) ∧ (∀ i, i < j → RO W c' (ys.getD i undef) zeros) ∧ NewI w c t va vb ds ts G k hv W c'
theorem zeros_in (W : World) (b : Nat) (h : Row W b 5 (zerosU8 64)) : SliceIn W (.slice (some ⟨b, 0, none⟩) 64 64) zeros := by
  have h' : Row W b 5 (bcells zeros) := by rw [show bcells zeros = zerosU8 64 by rfl]; exact h
  exact Row.slice h' (fun c hc => by rw [List.eq_of_mem_replicate (show c ∈ List.replicate 64 0 from hc)]; decide) (by decide)
theorem sec_step {w wr w3 w4 w5 : World} {c c' : Nat → Colour} {t : Nat} {va vb hv l v5 : Value} {ds ts : List Int} {G k j : Nat} {ys : List Value} (h : SecsP w c t va vb ds ts G k hv l j ys wr c') (ht0 : t ≠ 0)
    (r3 : Row w3 wr.heap.size 5 (zerosU8 64)) (s3 : w3.heap.size = wr.heap.size + 1) (b3 : Below wr.heap.size wr w3) (b4 : Below w3.heap.size w3 w4)
    (o5 : w5.ownsRow 0 40 1 v5 (j + 1) (ys ++ [.slice (some ⟨wr.heap.size, 0, none⟩) 64 64])) (hg : w4.grownBy w5 l.ownBlock) (h5 : v5.ownBlock = l.ownBlock ∨ v5.ownBlock = some w4.heap.size) : ∃ c'', SecsP w c t va vb ds ts G k hv v5 (j + 1) (ys ++ [.slice (some ⟨wr.heap.size, 0, none⟩) 64 64]) w5 c'' := by
  obtain ⟨o1, o2, o3, hN, hA, hB⟩ := h
  have n3 := hN.2.2.1
  have hwW := hN.2.2.2.1.size
  have b34 : Below wr.heap.size wr w4 := b3.trans (b4.mono b3.size)
  have hch : Ch (fun b => l.ownBlock = some b) wr w5 := (Ch.of_below b34).grown hg fun k hk => Or.inl hk
  have h4 := b4.size
  have hsz5 := hg.size
  obtain ⟨c2, hc2⟩ : ∃ c2 : Nat → Colour, c2 = fun b => if b = wr.heap.size then (1, 0) else c' b := ⟨_, rfl⟩
  have hlt : ∀ b, b < wr.heap.size → c2 b = c' b := fun b hb => by rw [hc2]; exact if_neg (by omega)
  have hat : c2 wr.heap.size = (1, 0) := by rw [hc2]; exact if_pos rfl
  have hgt : ∀ b, b ≠ wr.heap.size → wr.heap.size ≤ b → (c2 b).1 = t + 1 := fun b hb hb' => by rw [hc2]; dsimp only; rw [if_neg hb]; exact n3 b hb'
  have hk1 : ∀ b, b < wr.heap.size → (c' b).1 = 1 → w5.heap[b]? = wr.heap[b]? ∧ c2 b = c' b := fun b hb he => ⟨hch.block b hb fun e => by have := (o2 b e).1; omega, hlt b hb⟩
  have hsz : wr.heap.size ≤ w5.heap.size := by omega
  have hrow5 : Row w5 wr.heap.size 5 (zerosU8 64) := by
    have hr4 : Row w4 wr.heap.size 5 (zerosU8 64) := r3.later b4 (by omega)
    unfold Row
    rw [hg.block _ (by omega) fun e => by have := (o1.lt _ e.symm).2; omega]
    exact hr4
  refine ⟨c2, o5, fun b hb => ?_, fun i hi => ?_, hN.step ht0 (fun b hb hne => hch.block b hb fun e => hne (o2 b e).1) hsz hlt (fun b hb => ?_) (fun b hb => hgt b (by omega) (by omega)) ?_, hA.keep hk1 hsz, hB.keep hk1 hsz⟩
  · rcases h5 with e | e
    · have hb' : l.ownBlock = some b := by rw [← e]; exact hb
      rw [hlt b (o1.lt b hb').2]
      exact o2 b hb'
    · rw [hb] at e; injection e with e
      exact ⟨hgt b (by omega) (by omega), by omega⟩
  · have hyl : ys.length = j := by have := o1.1; omega
    by_cases e : i = j
    · subst e
      rw [List.getD_eq_getElem?_getD, List.getElem?_append_right (by omega), hyl, Nat.sub_self]
      refine ⟨zeros_in w5 _ hrow5, fun b hb => ?_⟩
      have e : wr.heap.size = b := by injection hb
      subst e
      exact ⟨by omega, by rw [hat]⟩
    · rw [List.getD_eq_getElem?_getD, List.getElem?_append_left (by omega), ← List.getD_eq_getElem?_getD]
      exact (o3 i (by omega)).keep hk1 hsz
  · by_cases e : b = wr.heap.size
    · exact Or.inr (by rw [e, hat])
    · exact Or.inl (hgt b e hb)
  · exact (hch.below (B := w.heap.size) hwW fun i hi e => by have := (o2 i e).2; omega) |> fun hb => hN.2.2.2.1.trans hb
section
variable {w : World} {ops : Array Oper} {rest : List Oper} {o : Oper} {a : Act} {Q : Exit → Act → World → Prop}
theorem wl_app1 {t e : TypeId} (hu : Try.prog.underlying t = some (.slice e)) (hinfo : (Try.prog.info? e).map (fun i => (i.zero, i.size, i.bytes)) = some (some (.slice none 0 0), 1, 24)) (sv x : Operand) (hgd : Region.wanted o (yielded ops a.tmps) = true) (ho : o.op = .call { callee := .builtin .append, args := #[sv, x], argTypes := #[t, t] })
    (v : Value) (n : Nat) (xs : List Value) (hs : a.eval sv = v) (hown : w.ownsRow 0 e 1 v n xs) (b : Nat) (u : Value) (hu1 : u.oneCell' = true) (hb : Row w b e [u]) (hx : a.eval x = .slice (some ⟨b, 0, none⟩) 1 1) (hn : n ≤ 1000000)
    (h : ∀ v' w', w'.ownsRow 0 e 1 v' (n + 1) (xs ++ [u]) → w.grownBy w' v.ownBlock → (v'.ownBlock = v.ownBlock ∨ v'.ownBlock = some w.heap.size) → wpList Try.prog ops Q rest (a.put o.dst v') w') : wpList Try.prog ops Q (o :: rest) a w := by
  obtain ⟨v', w', hr, h1, h2, h3⟩ := app_one hu hinfo o.type v n xs hown b u hu1 hb hn
  refine wl hgd v' w' ?_ (h v' w' h1 h2 h3)
  simp only [execOp, ho, resolve, invoke, builtin, Sem.run_bind, Sem.run_pure, Result.andThen_ok, List.map_toArray, List.map_cons, List.map_nil, hs, hx, hr]
theorem wl_appR {w' : World} {t ty : TypeId} (sv x : Operand) (hgd : Region.wanted o (yielded ops a.tmps) = true) (ho : o.op = .call { callee := .builtin .append, args := #[sv, x], argTypes := #[t, t] }) (hty : o.type = ty) (v vx v' : Value) (hs : a.eval sv = v) (hx : a.eval x = vx) (hr : (Builtin.append_ #[t, t] ty #[v, vx]).run Try.prog w = .ok v' w') (h : wpList Try.prog ops Q rest (a.put o.dst v') w') : wpList Try.prog ops Q (o :: rest) a w := by
  refine wl hgd v' w' ?_ h
  subst hty
  simp only [execOp, ho, resolve, invoke, builtin, Sem.run_bind, Sem.run_pure, Result.andThen_ok, List.map_toArray, List.map_cons, List.map_nil, hs, hx, hr]
end
theorem newPl_fl_disk (ds ts : List Int) (k : Nat) (hk : k < ds.length) : (newPl ds ts).fl k = List.replicate (ds.getD k 0).toNat zeros := by
  simp [newPl, fresh, List.getElem?_append_left, hk]
theorem newPl_fl_tape (ds ts : List Int) (k : Nat) (hk : ds.length ≤ k) (hk2 : k < ds.length + ts.length) : (newPl ds ts).fl k = [] := by
  have h2 : k - ds.length < ts.length := by omega
  simp [newPl, fresh, List.getElem?_append_right, hk, h2]
end Go.Proofs.Ytdddfjkecmnggaa

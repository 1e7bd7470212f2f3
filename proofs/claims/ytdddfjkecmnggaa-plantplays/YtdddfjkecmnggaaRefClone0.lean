/- The document's own plant: Clone, what holds from round to round. -/
import Derived.Test.YtdddfjkecmnggaaRefFlush
namespace Go.Proofs.Ytdddfjkecmnggaa
open Go.RowKit Go.Maps

theorem app_nil57 (w : World) (b : Nat) : (Builtin.append_ #[57, 57] 57 #[.slice (some ⟨b, 0, none⟩) 0 0, .slice none 0 0]).run Try.prog w = .ok (.slice (some ⟨b, 0, none⟩) 0 0) w := by kernel_rfl
theorem app_nil54 (w : World) (b : Nat) : (Builtin.append_ #[54, 54] 54 #[.slice (some ⟨b, 0, none⟩) 0 0, .slice none 0 0]).run Try.prog w = .ok (.slice (some ⟨b, 0, none⟩) 0 0) w := by kernel_rfl
theorem run_lit57n {w : World} {a : Act} {o : Oper} (ho : o.op = .buildSlice 57 0 #[]) : (execOp a.eval o).run Try.prog w = .ok (.value (.slice (some ⟨w.heap.size, 0, none⟩) 0 0)) (w.alloc (.cells #[] 40)) := by
  have hr : (Instr.buildSlice 57 0 #[]).run Try.prog w = .ok (.slice (some ⟨w.heap.size, 0, none⟩) 0 0) (w.alloc (.cells #[] 40)) := by kernel_rfl
  simp [execOp, ho, hr]
theorem run_lit54n {w : World} {a : Act} {o : Oper} (ho : o.op = .buildSlice 54 0 #[]) : (execOp a.eval o).run Try.prog w = .ok (.value (.slice (some ⟨w.heap.size, 0, none⟩) 0 0)) (w.alloc (.cells #[] 81)) := by
  have hr : (Instr.buildSlice 54 0 #[]).run Try.prog w = .ok (.slice (some ⟨w.heap.size, 0, none⟩) 0 0) (w.alloc (.cells #[] 81)) := by kernel_rfl
  simp [execOp, ho, hr]
theorem run_lit53 {w : World} {a : Act} {o : Oper} (x : Operand) (ho : o.op = .buildSlice 53 1 #[(0, x)]) (u : Value) (hu : ∃ p n c, u = .slice p n c) (hx : a.eval x = u) : (execOp a.eval o).run Try.prog w = .ok (.value (.slice (some ⟨w.heap.size, 0, none⟩) 1 1)) (w.alloc (.cells #[u] 57)) := by
  obtain ⟨p, n, c, rfl⟩ := hu
  have hr : (Instr.buildSlice 53 1 #[(0, .slice p n c)]).run Try.prog w = .ok (.slice (some ⟨w.heap.size, 0, none⟩) 1 1) (w.alloc (.cells #[.slice p n c] 57)) := by kernel_rfl
  simp only [execOp, ho, List.map_toArray, List.map_cons, List.map_nil, hx, hr, Sem.run_bind, Sem.run_pure, Result.andThen_ok]
/-- a copy of a row: a block of its own -/
theorem copy_row {w : World} {t e sz bytes : Nat} {z : Value} (hu : Try.prog.underlying t = some (.slice e)) (hinfo : (Try.prog.info? e).map (fun i => (i.zero, i.size, i.bytes)) = some (some z, sz, bytes)) (hzs : z.cells.size = sz) (hsz : 0 < sz)
    (hnil : ∀ w b, (Builtin.append_ #[t, t] t #[.slice (some ⟨b, 0, none⟩) 0 0, .slice none 0 0]).run Try.prog w = .ok (.slice (some ⟨b, 0, none⟩) 0 0) w) (v : Value) (n : Nat) (xs : List Value) (hown : w.ownsRow 0 e sz v n xs) (h1 : ∀ u ∈ xs, u.oneCell' = true) (h63 : n ≤ maxLen) (hb : n * bytes ≤ 140737488355328) :
    ∃ v' w' b, (Builtin.append_ #[t, t] t #[.slice (some ⟨w.heap.size, 0, none⟩) 0 0, v]).run Try.prog (w.alloc (.cells #[] e)) = .ok v' w' ∧ w'.ownsRow 0 e sz v' n xs ∧ v'.ownBlock = some b ∧ w.heap.size ≤ b ∧ Below w.heap.size w w' := by
  have b1 : Below w.heap.size w (w.alloc (.cells #[] e)) := (Below.refl _ _).alloc (Nat.le_refl _) _
  have hr : Row (w.alloc (.cells #[] e)) w.heap.size e [] := Row.new w e []
  have hown1 : (w.alloc (.cells #[] e)).ownsRow 0 e sz (.slice (some ⟨w.heap.size, 0, none⟩) 0 0) 0 [] := ⟨by simp, Or.inr ⟨w.heap.size, 0, #[], rfl, Nat.zero_le _, hr, Nat.le_refl _, by unfold maxLen; omega, by simp, by simp⟩⟩
  rcases hown.2 with ⟨rfl, rfl⟩ | ⟨g, cap, cur, rfl, _, hg, hcap, hmax, hcs, htake⟩
  · have hx : xs = [] := List.length_eq_zero_iff.1 (by have := hown.1; simpa using this)
    subst hx
    exact ⟨_, _, w.heap.size, hnil _ _, hown1, rfl, Nat.le_refl _, b1⟩
  · obtain ⟨i, hi, hz0, hz1, hz2⟩ := info_parts hinfo
    have hlt : g < w.heap.size := (hown.lt g rfl).2
    obtain ⟨v', w', hrun, h2, h3, _, h5⟩ := run_append_own_at (P := Try.prog) (w := w.alloc (.cells #[] e)) 0 t t e i z sz bytes hu hi hz0 hz1 hz2 hzs hsz _ 0 [] hown1
      ⟨g, 0, none⟩ n cap xs hown.1 (fun j y hy => by
        rw [add_none, Nat.zero_add, b1.cell (by show g < _; exact hlt)]
        have := hown.cells (g := g) rfl j y hy
        rw [add_none, Nat.zero_add] at this
        exact this) h1 (by rw [Nat.zero_add]; exact h63) (by rw [Nat.zero_add]; exact hb) (Nat.zero_le _)
    rw [Nat.zero_add, List.nil_append] at h2
    have hbl : ∃ b, v'.ownBlock = some b ∧ w.heap.size ≤ b := by
      rcases h5 with e' | e'
      · exact ⟨w.heap.size, e', Nat.le_refl _⟩
      · exact ⟨_, e', b1.size⟩
    obtain ⟨b, hb1, hb2⟩ := hbl
    exact ⟨v', w', b, hrun, h2, hb1, hb2, b1.grown h3 b1.size fun k hk => by have e : some w.heap.size = some k := hk; injection e with e; omega⟩
def CloneR (w : World) (c : Nat → Colour) (t' : Nat) (vd vt wv : Value) (m : Pl) (left : Int) (G k : Nat) (hv : Value) (W : World) (c' : Nat → Colour) : Prop :=
  (∀ b, b < w.heap.size → c' b = c b) ∧ (∀ b, w.heap.size ≤ b → (c' b).1 = t' ∨ (c' b).1 = t' + 1) ∧ (∀ b, W.heap.size ≤ b → (c' b).1 = t' + 1) ∧ Below w.heap.size w W ∧
  Row W G 56 (rcells vd vt hv wv (!m.on) (decide (0 ≤ m.fuse)) left (m.steps : Nat) m.clock) ∧ (c' G = (t', 0) ∧ w.heap.size ≤ G) ∧ HasOf W c' t' hv k m.fl ∧ ∀ b, hv.ownBlock = some b → w.heap.size ≤ b
theorem CloneR.below {w W W' : World} {c c' : Nat → Colour} {t' : Nat} {vd vt hv wv : Value} {m : Pl} {left : Int} {G k : Nat} (h : CloneR w c t' vd vt wv m left G k hv W c') (hb : Below W.heap.size W W') : CloneR w c t' vd vt wv m left G k hv W' c' :=
  ⟨h.1, h.2.1, fun b hlt => h.2.2.1 b (Nat.le_trans hb.size hlt), h.2.2.2.1.trans (hb.mono h.2.2.2.1.size), h.2.2.2.2.1.later hb h.2.2.2.2.1.lt, h.2.2.2.2.2.1, h.2.2.2.2.2.2.1.same (Same.below hb) hb.size, h.2.2.2.2.2.2.2⟩
theorem own_slice' {w : World} {base e sz n : Nat} {v : Value} {xs : List Value} (h : w.ownsRow base e sz v n xs) : ∃ p n c, v = .slice p n c := by
  rcases h.2 with ⟨rfl, _⟩ | ⟨g, cap, cur, rfl, _⟩
  · exact ⟨_, _, _, rfl⟩
  · exact ⟨_, _, _, rfl⟩
theorem row_ones {W : World} {c : Nat → Colour} {L : List (List Nat)} {xs : List Value} (hl : xs.length = L.length) (h : ∀ i, i < L.length → RO W c (xs.getD i undef) (L.getD i [])) : ∀ u ∈ xs, u.oneCell' = true := fun u hu => by
  obtain ⟨i, hi, rfl⟩ := List.getElem_of_mem hu
  have := (h i (by omega)).slices
  rw [List.getD_eq_getElem?_getD, List.getElem?_eq_getElem hi, Option.getD_some] at this
  obtain ⟨p, n, c, e⟩ := this
  rw [e]
  rfl
/-- one more row: what the memory is behind -/
theorem clone_chain {w W : World} {c c' : Nat → Colour} {t' : Nat} {vd vt hv wv : Value} {m : Pl} {left : Int} {G k : Nat} (h : CloneR w c t' vd vt wv m left G k hv W c') (ht1 : t' ≠ 1) (hk : k ≤ 1000) (rv : Value) (xs : List Value) (hr1 : W.ownsRow 0 40 1 rv (m.fl k).length xs) (hr2 : ∀ i, i < (m.fl k).length → RO W c' (xs.getD i undef) ((m.fl k).getD i [])) (hlen : (m.fl k).length ≤ 1000000) :
    ∃ vr W2, (Builtin.append_ #[57, 57] 57 #[.slice (some ⟨W.heap.size, 0, none⟩) 0 0, rv]).run Try.prog (W.alloc (.cells #[] 40)) = .ok vr W2 ∧ (∃ p n c, vr = .slice p n c) ∧ Below W.heap.size W W2 ∧ Below W.heap.size W (W2.alloc (.cells #[vr] 57)) ∧
    ∃ v5 W5, (Builtin.append_ #[53, 53] 53 #[hv, .slice (some ⟨W2.heap.size, 0, none⟩) 1 1]).run Try.prog (W2.alloc (.cells #[vr] 57)) = .ok v5 W5 ∧ (v5.cells = #[v5] ∧ v5.oneCell' = true) ∧ Row W5 G 56 (rcells vd vt hv wv (!m.on) (decide (0 ≤ m.fuse)) left (m.steps : Nat) m.clock) ∧ (∀ b, b < W.heap.size → ¬ hv.ownBlock = some b → W5.heap[b]? = W.heap[b]?) ∧ ∃ c'', CloneR w c t' vd vt wv m left G (k + 1) v5 (W5.setCell ⟨G, 2, none⟩ v5) c'' := by
  obtain ⟨n1, n2, n3, n4, hG, ⟨hcG, hGw⟩, ⟨⟨us, o1, o2⟩, o3⟩, o4⟩ := h
  have hxl : xs.length = (m.fl k).length := by have := hr1.1; omega
  obtain ⟨vr, W2, br, hrun2, or2, hbr, hbr', b2⟩ := copy_row (w := W) Try.underlying57 i40 rfl (by decide) (fun w b => app_nil57 w b) rv _ xs hr1 (row_ones hxl hr2) (by unfold maxLen; omega) (by omega)
  have hvs := own_slice' or2
  have b3 : Below W.heap.size W (W2.alloc (.cells #[vr] 57)) := b2.alloc b2.size _
  have z3 : (W2.alloc (.cells #[vr] 57)).heap.size = W2.heap.size + 1 := World.size_alloc _ _
  have hrow3 : Row (W2.alloc (.cells #[vr] 57)) W2.heap.size 57 [vr] := Row.new W2 57 [vr]
  have hbrlt := (or2.lt br hbr).2
  have or3 : (W2.alloc (.cells #[vr] 57)).ownsRow 0 40 1 vr (m.fl k).length xs := ownK or2 fun b hb => Below.heap_alloc W2 _ b (or2.lt b hb).2
  have ohv3 : (W2.alloc (.cells #[vr] 57)).ownsRow 0 57 1 hv k us := ownK o1 fun b hb => b3.block b (o1.lt b hb).2
  refine ⟨vr, W2, hrun2, hvs, b2, b3, ?_⟩
  generalize W2.alloc (.cells #[vr] 57) = W3 at b3 z3 hrow3 or3 ohv3 ⊢
  obtain ⟨v5, W5, hrun5, h2, h3, h5⟩ := app_one (w := W3) Try.underlying53 i57 53 hv k us ohv3 W2.heap.size vr (own_cells or2).2 hrow3 (by omega)
  have hch : Ch (fun b => hv.ownBlock = some b) W W5 := (Ch.of_below b3).grown h3 fun k hk => Or.inl hk
  have hz5 := h3.size
  have hsz2 := b2.size
  have hGlt := hG.lt
  have hGh : ¬ hv.ownBlock = some G := fun e => by have := o3 G e; rw [hcG] at this; simp at this
  have hG5 : Row W5 G 56 (rcells vd vt hv wv (!m.on) (decide (0 ≤ m.fuse)) left (m.steps : Nat) m.clock) := by unfold Row; rw [hch.block G hGlt hGh]; exact hG
  have h5' : ∀ b, v5.ownBlock = some b → hv.ownBlock = some b ∨ W3.heap.size ≤ b := fun b hb => by
    rcases h5 with e | e
    · exact Or.inl (by rw [← e]; exact hb)
    · rw [hb] at e; injection e with e; exact Or.inr (by omega)
  have hbrv : v5.ownBlock ≠ some br := fun e => by
    rcases h5' br e with e' | e'
    · have := (o1.lt br e').2; omega
    · omega
  have hwW := n4.size
  obtain ⟨c2, hc2⟩ : ∃ c2 : Nat → Colour, c2 = fun b => if v5.ownBlock = some b then (t', 1) else if b = br then (t', 3 + k) else c' b := ⟨_, rfl⟩
  have hcy : ∀ b, v5.ownBlock = some b → c2 b = (t', 1) := fun b hb => by rw [hc2]; exact if_pos hb
  have hcb : c2 br = (t', 3 + k) := by rw [hc2]; dsimp only; rw [if_neg hbrv, if_pos rfl]
  have hcn : ∀ b, v5.ownBlock ≠ some b → b ≠ br → c2 b = c' b := fun b hb hb' => by rw [hc2]; dsimp only; rw [if_neg hb, if_neg hb']
  have hold : ∀ b, b < W.heap.size → c2 b = c' b := fun b hb => by
    by_cases e : v5.ownBlock = some b
    · rw [hcy b e]
      rcases h5' b e with e' | e'
      · exact (o3 b e').symm
      · omega
    · exact hcn b e (by omega)
  have hsz : (W5.setCell ⟨G, 2, none⟩ v5).heap.size = W5.heap.size := World.size_setCell _ _ _
  have hkept : KeptC (fun x => x.1 = 1 ∨ (x.1 = t' ∧ x ≠ (t', 0) ∧ x ≠ (t', 1))) W c' (W5.setCell ⟨G, 2, none⟩ v5) c2 := ⟨fun b hb hK => ⟨by
    rw [Below.heap_setCell W5 ⟨G, 2, none⟩ v5 b (by
      rintro rfl
      rw [hcG] at hK
      rcases hK with e | e
      · exact ht1 e
      · exact e.2.1 rfl)]
    exact hch.block b hb fun e => by
      rw [o3 b e] at hK
      rcases hK with e | e
      · exact ht1 e
      · exact e.2.2 rfl, hold b hb⟩, by omega⟩
  have hK1 : ∀ x, (fun x : Colour => x.1 = 1 ∨ (x.1 = t' ∧ x ≠ (t', 0) ∧ x ≠ (t', 1))) (1, x) := fun x => Or.inl rfl
  have hfr : ∀ b, W.heap.size ≤ b → (c' b).1 = t' + 1 := n3
  have hul : us.length = k := by have := o1.1; omega
  have hbelow : Below w.heap.size w (W5.setCell ⟨G, 2, none⟩ v5) := (hch.below (B := w.heap.size) hwW fun i hi e => by have := o4 i e; omega) |> fun hb => (n4.trans hb).setCell hGw v5
  refine ⟨v5, W5, hrun5, own_cells h2, hG5, fun b hb hne => hch.block b hb hne, c2, fun b hb => by rw [hold b (by omega)]; exact n1 b hb, fun b hb => ?_, fun b hb => ?_, hbelow, ?_, ⟨by rw [hold G hGlt]; exact hcG, hGw⟩, ⟨⟨us ++ [vr], ownK h2 fun b hb => Below.heap_setCell W5 ⟨G, 2, none⟩ v5 b (by rintro rfl; rcases h5' b hb with e | e; exact hGh e; show False; omega), fun j hj => ?_⟩, hcy⟩, fun b hb => ?_⟩
  · by_cases e : v5.ownBlock = some b
    · exact Or.inl (by rw [hcy b e])
    · by_cases e' : b = br
      · subst e'; exact Or.inl (by rw [hcb])
      · rw [hcn b e e']; exact n2 b hb
  · rw [hcn b (fun e => by have := (h2.lt b e).2; omega) (by omega)]
    exact hfr b (by omega)
  · have h6 := hG5.setRow (rcells vd vt v5 wv (!m.on) (decide (0 ≤ m.fuse)) left (m.steps : Nat) m.clock)
    rw [setCell_eq_setRow W5 G 2 _ 56 (0, 0) v5 hG5]
    simpa [rcells] using h6
  · by_cases e : j = k
    · subst e
      have e1 : (us ++ [vr]).getD j undef = vr := by rw [List.getD_eq_getElem?_getD, List.getElem?_append_right (by omega), hul, Nat.sub_self]; rfl
      rw [e1]
      have hne : ∀ b, vr.ownBlock = some b → (W5.setCell ⟨G, 2, none⟩ v5).heap[b]? = W3.heap[b]? := fun b hb => by
        have hbb : b = br := Option.some.inj (hb.symm.trans hbr)
        subst hbb
        rw [Below.heap_setCell W5 ⟨G, 2, none⟩ v5 b (by show b ≠ G; omega)]
        exact h3.block b (by omega) fun e' => by have := (o1.lt b e'.symm).2; omega
      refine ⟨⟨xs, ownK or3 hne, fun i hi => (hr2 i hi).k hkept hK1⟩, fun b hb => ?_⟩
      have hbb : b = br := Option.some.inj (hb.symm.trans hbr)
      rw [hbb]
      exact hcb
    · have e1 : (us ++ [vr]).getD j undef = us.getD j undef := by rw [List.getD_eq_getElem?_getD, List.getElem?_append_left (by omega), ← List.getD_eq_getElem?_getD]
      rw [e1]
      exact (o2 j (by omega)).k hkept hK1 (Or.inr ⟨rfl, fun e => by injection e; omega, fun e => by injection e; omega⟩)
  · rcases h5' b hb with e | e
    · exact o4 b e
    · omega
end Go.Proofs.Ytdddfjkecmnggaa

/- The document's own plant: one more that waits. -/
import Derived.Test.YtdddfjkecmnggaaRefSettleT
namespace Go.Proofs.Ytdddfjkecmnggaa
open Go.RowKit Go.Maps

theorem HasOf.k {W W' : World} {c c' : Nat → Colour} {K : Colour → Prop} {t : Nat} {v : Value} {n : Nat} {fl : Nat → List (List Nat)} (h : HasOf W c t v n fl) (hs : KeptC K W c W' c') (hK : ∀ x, K (1, x)) (hk : K (t, 1)) (hk' : ∀ i, K (t, 3 + i)) : HasOf W' c' t v n fl := by
  obtain ⟨⟨us, h1, h2⟩, h3⟩ := h
  have hb : ∀ b, v.ownBlock = some b → W'.heap[b]? = W.heap[b]? ∧ c' b = c b := fun b hb => hs.1 b (h1.lt b hb).2 (by rw [h3 b hb]; exact hk)
  exact ⟨⟨us, ownK h1 fun b hb' => (hb b hb').1, fun i hi => (h2 i hi).k hs hK (hk' i)⟩, fun b hb' => by rw [(hb b hb').2]; exact h3 b hb'⟩
/-- other writes wait -/
theorem RefAt.setWaits {w W : World} {c c' : Nat → Colour} {t g : Nat} {vd vt hv wv wv' : Value} {ds ts : List Int} {m m' : Pl} (h : RefAt w c t g vd vt hv wv ds ts m) (hr : RefRow W g vd vt hv wv' m')
    (hs : KeptC (fun x => x.1 = 1 ∨ (x.1 = t ∧ x ≠ (t, 0) ∧ x ≠ (t, 2))) w c W c') (hcg : c' g = (t, 0)) (hsh : m'.sh = m.sh) (hfl : m'.fl = m.fl) (hw : WaitsOf W c' t wv' m'.wts) : RefAt W c' t g vd vt hv wv' ds ts m' := by
  have hK : ∀ x, (fun x : Colour => x.1 = 1 ∨ (x.1 = t ∧ x ≠ (t, 0) ∧ x ≠ (t, 2))) (1, x) := fun x => Or.inl rfl
  refine ⟨hr, hcg, h.disks.k hs hK, h.tapes.k hs hK, ?_, ?_, hw⟩
  · unfold ShapeIs; rw [hsh]; exact h.shape
  · have : m'.n = m.n := by unfold Pl.n; rw [hsh]
    rw [this, hfl]
    exact h.has.k hs hK (Or.inr ⟨rfl, by simp, by simp⟩) fun i => Or.inr ⟨rfl, fun e => by injection e; omega, fun e => by injection e; omega⟩
/-- the plant's own cells alone turn -/
theorem RefAt.head {w W : World} {c : Nat → Colour} {t g : Nat} {vd vt hv wv : Value} {ds ts : List Int} {m m' : Pl} (h : RefAt w c t g vd vt hv wv ds ts m) (ht1 : t ≠ 1) (hr : RefRow W g vd vt hv wv m') (hc : Ch (· = g) w W) (hsh : m'.sh = m.sh) (hfl : m'.fl = m.fl) (hwt : m'.wts = m.wts) : RefAt W c t g vd vt hv wv ds ts m' := by
  have hk : ∀ (b : Nat) (x : Nat), c b = (t, x) → x ≠ 0 → b ≠ g := fun b x hb hx e => by
    subst e
    rw [h.cg] at hb
    simp at hb
    omega
  have hs : KeptC (fun x => x.1 = 1 ∨ (x.1 = t ∧ x ≠ (t, 0))) w c W c := ⟨fun b hb hK => ⟨hc.block b hb (by
    rintro rfl
    rw [h.cg] at hK
    rcases hK with e | e
    · exact ht1 e
    · exact e.2 rfl), rfl⟩, hc.size⟩
  refine h.setWaits hr ⟨fun b hb hK => hs.1 b hb (by rcases hK with e | e; exact Or.inl e; exact Or.inr ⟨e.1, e.2.1⟩), hs.2⟩ h.cg hsh hfl ?_
  rw [hwt]
  exact h.waits.k hs (fun x => Or.inl rfl) (Or.inr ⟨rfl, by simp⟩)
theorem wtCells_snoc (wts : List Wr) (x : Wr) (us : Nat → Value) (u : Value) : wtCells (wts ++ [x]) (fun i => if i = wts.length then u else us i) = wtCells wts us ++ wtCell x u := by
  unfold wtCells
  rw [List.length_append, List.length_cons, List.length_nil, Nat.zero_add, List.range_succ, List.flatMap_append]
  congr 1
  · rw [List.flatMap_def, List.flatMap_def]
    congr 1
    refine List.map_congr_left fun i hi => ?_
    have hi := List.mem_range.1 hi
    dsimp only
    rw [if_neg (by omega)]
    unfold wtAt
    rw [List.getD_eq_getElem?_getD, List.getElem?_append_left hi, ← List.getD_eq_getElem?_getD]
  · simp [wtAt]
theorem run_lit40 {w : World} {a : Act} {o : Oper} (ho : o.op = .buildSlice 40 0 #[]) : (execOp a.eval o).run Try.prog w = .ok (.value (.slice (some ⟨w.heap.size, 0, none⟩) 0 0)) (w.alloc (.cells #[] 5)) := by
  have hr : (Instr.buildSlice 40 0 #[]).run Try.prog w = .ok (.slice (some ⟨w.heap.size, 0, none⟩) 0 0) (w.alloc (.cells #[] 5)) := by kernel_rfl
  simp [execOp, ho, hr]
theorem run_build81 {w : World} {a : Act} {o : Oper} (x y z : Operand) (ho : o.op = .build 81 #[(0, x), (1, y), (2, z)]) (d p : Int) (u : Value) (hu : ∃ p n c, u = .slice p n c) (hx : a.eval x = .int .i64 d) (hy : a.eval y = .int .i64 p) (hz : a.eval z = u) : (execOp a.eval o).run Try.prog w = .ok (.value (.agg ([.int .i64 d, .int .i64 p, u] : List Value).toArray)) w := by
  obtain ⟨pu, n, c, rfl⟩ := hu
  have hr : (Instr.build 81 #[(0, .int .i64 d), (1, .int .i64 p), (2, .slice pu n c)]).run Try.prog w = .ok (.agg ([.int .i64 d, .int .i64 p, .slice pu n c] : List Value).toArray) w := by kernel_rfl
  simp only [execOp, ho, List.map_toArray, List.map_cons, List.map_nil, hx, hy, hz, hr, Sem.run_bind, Sem.run_pure, Result.andThen_ok]
/-- a copy of the bytes, and one more that waits: what the memory is behind -/
theorem wait_chain {w : World} (v : Value) (s : List Nat) (hv : SliceIn w v s) (h64 : s.length = 64) (hb : ∀ c ∈ s, c < 256) (wv : Value) (n : Nat) (cs : List Value) (hown : w.ownsRow 0 81 3 wv n cs) (hn : n ≤ 1099511627776) (d p : Nat) :
    ∃ vb w2, (Builtin.append_ #[40, 40] 40 #[.slice (some ⟨w.heap.size, 0, none⟩) 0 0, v]).run Try.prog (w.alloc (.cells #[] 5)) = .ok vb w2 ∧ (∃ p n c, vb = .slice p n c) ∧ Below w.heap.size w w2 ∧ Below w.heap.size w (w2.alloc (.cells ([.int .i64 (d : Nat), .int .i64 (p : Nat), vb] : List Value).toArray 81)) ∧ vb.ownBlock = some (w.heap.size + 1) ∧
    ∃ v5 w5, (Builtin.append_ #[54, 54] 54 #[wv, .slice (some ⟨w2.heap.size, 0, none⟩) 1 1]).run Try.prog (w2.alloc (.cells ([.int .i64 (d : Nat), .int .i64 (p : Nat), vb] : List Value).toArray 81)) = .ok v5 w5 ∧
      w5.ownsRow 0 81 3 v5 (n + 1) (cs ++ [.int .i64 (d : Nat), .int .i64 (p : Nat), vb]) ∧ SliceIn w5 vb s ∧ w.heap.size + 2 ≤ w5.heap.size ∧ (∀ b, v5.ownBlock = some b → wv.ownBlock = some b ∨ w.heap.size + 2 ≤ b) ∧ Ch (fun b => wv.ownBlock = some b) w w5 := by
  have b1 : Below w.heap.size w (w.alloc (.cells #[] 5)) := (Below.refl _ _).alloc (Nat.le_refl _) _
  have z1 : (w.alloc (.cells #[] 5)).heap.size = w.heap.size + 1 := World.size_alloc _ _
  obtain ⟨vb, w2, hr2, o2, k2, b2⟩ := app_bytes (w := w.alloc (.cells #[] 5)) 40 w.heap.size (Row.new w 5 []) v s (hv.later b1) (by omega) (by omega)
  have b12 : Below w.heap.size w w2 := b1.trans (b2.mono b1.size)
  have z2 := b2.size
  rw [z1] at z2 k2
  have hlt2 := (o2.lt _ k2).2
  have b3 : Below w.heap.size w (w2.alloc (.cells ([.int .i64 (d : Nat), .int .i64 (p : Nat), vb] : List Value).toArray 81)) := b12.alloc b12.size _
  have hown3 : (w2.alloc (.cells ([.int .i64 (d : Nat), .int .i64 (p : Nat), vb] : List Value).toArray 81)).ownsRow 0 81 3 wv n cs := ownK hown fun b hb => b3.block b (hown.lt b hb).2
  have hvs : ∃ p n c, vb = .slice p n c := by
    rcases o2.2 with ⟨rfl, _⟩ | ⟨g, cap, cur, rfl, _⟩
    · exact ⟨_, _, _, rfl⟩
    · exact ⟨_, _, _, rfl⟩
  have hr3 : Row (w2.alloc (.cells ([.int .i64 (d : Nat), .int .i64 (p : Nat), vb] : List Value).toArray 81)) w2.heap.size 81 [.int .i64 (d : Nat), .int .i64 (p : Nat), vb] := Row.new w2 81 _
  have hs3 : SliceIn (w2.alloc (.cells ([.int .i64 (d : Nat), .int .i64 (p : Nat), vb] : List Value).toArray 81)) vb s := (own_slice o2 hb).later ((Below.refl _ _).alloc (Nat.le_refl _) _)
  have z3 : (w2.alloc (.cells ([.int .i64 (d : Nat), .int .i64 (p : Nat), vb] : List Value).toArray 81)).heap.size = w2.heap.size + 1 := World.size_alloc _ _
  refine ⟨vb, w2, hr2, hvs, b12, b3, k2, ?_⟩
  generalize w2.alloc (.cells ([.int .i64 (d : Nat), .int .i64 (p : Nat), vb] : List Value).toArray 81) = w3 at b3 hown3 hr3 hs3 z3 ⊢
  obtain ⟨i, hi, hz0, hz1, hz2⟩ := info_parts i81
  obtain ⟨v5, w5, hr, h2, h3, _, h5⟩ := run_append_own_at (P := Try.prog) (w := w3) 0 54 54 81 i (.agg #[.int .i64 0, .int .i64 0, .slice none 0 0]) 3 40 Try.underlying54 hi hz0 hz1 hz2 rfl (by decide) wv n cs hown3
    ⟨w2.heap.size, 0, none⟩ 1 1 [.int .i64 (d : Nat), .int .i64 (p : Nat), vb] (by simp) (fun j y hy => by rw [add_none, Nat.zero_add]; exact hr3.at j y hy) (by
      obtain ⟨pp, nn, cc, rfl⟩ := hvs
      intro y hy
      simp only [List.mem_cons, List.not_mem_nil, or_false] at hy
      rcases hy with rfl | rfl | rfl <;> rfl) (by unfold maxLen; omega) (by omega) (Nat.zero_le _)
  refine ⟨v5, w5, hr, h2, ?_, by have := h3.size; omega, fun b hb => ?_, (Ch.of_below b3).grown h3 fun k hk => Or.inl hk⟩
  · refine sliceK hs3 fun b hb hlt => h3.block b hlt fun e => ?_
    rw [k2] at hb
    injection hb with hb
    subst hb
    have := (hown.lt _ e.symm).2
    omega
  · rcases h5 with e | e
    · exact Or.inl (by rw [← e]; exact hb)
    · rw [hb] at e
      injection e with e
      exact Or.inr (by omega)
/-- the plant with one more that waits -/
theorem RefAt.waitOne {w w5 : World} {c : Nat → Colour} {t g : Nat} {vd vt hv wv v5 vb : Value} {ds ts : List Int} {m : Pl} (h : RefAt w c t g vd vt hv wv ds ts m) (ht1 : t ≠ 1) (hfr : ∀ b, w.heap.size ≤ b → (c b).1 = t + 1) (d p : Nat) (s : List Nat) (us : Nat → Value)
    (hu : w.ownsRow 0 81 3 wv m.wts.length (wtCells m.wts us)) (hus : ∀ i, i < m.wts.length → RO w c (us i) (wtAt m.wts i).b)
    (ho : w5.ownsRow 0 81 3 v5 (m.wts.length + 1) (wtCells m.wts us ++ [.int .i64 (d : Nat), .int .i64 (p : Nat), vb])) (hvb : SliceIn w5 vb s) (hkb : vb.ownBlock = some (w.heap.size + 1)) (hz : w.heap.size + 2 ≤ w5.heap.size)
    (h5 : ∀ b, v5.ownBlock = some b → wv.ownBlock = some b ∨ w.heap.size + 2 ≤ b) (hc : Ch (fun b => wv.ownBlock = some b) w w5) : NextA w c t g vd vt hv v5 ds ts (m.wait d p s) (w5.setCell ⟨g, 3, none⟩ v5) := by
  obtain ⟨c2, hc2⟩ : ∃ c2 : Nat → Colour, c2 = fun b => if v5.ownBlock = some b then (t, 2) else if b = w.heap.size + 1 then (1, 0) else c b := ⟨_, rfl⟩
  have hcy : ∀ b, v5.ownBlock = some b → c2 b = (t, 2) := fun b hb => by rw [hc2]; exact if_pos hb
  have hcv : c2 (w.heap.size + 1) = (1, 0) := by
    rw [hc2]
    dsimp only
    rw [if_neg, if_pos rfl]
    intro e
    rcases h5 _ e with e' | e'
    · have := (hu.lt _ e').2
      omega
    · omega
  have hcn : ∀ b, v5.ownBlock ≠ some b → b ≠ w.heap.size + 1 → c2 b = c b := fun b hb hb' => by rw [hc2]; dsimp only; rw [if_neg hb, if_neg hb']
  have hwb : ∀ b, wv.ownBlock = some b → c b = (t, 2) := h.waits.2
  have hold : ∀ b, b < w.heap.size → c2 b = c b := fun b hb => by
    by_cases e : v5.ownBlock = some b
    · rw [hcy b e]
      rcases h5 b e with e' | e'
      · exact (hwb b e').symm
      · omega
    · exact hcn b e (by omega)
  have hg := h.row.lt
  have hgw : ¬ wv.ownBlock = some g := fun e => by have := hwb g e; rw [h.cg] at this; simp at this
  have hch : Ch (fun b => (c b).1 = t) w (w5.setCell ⟨g, 3, none⟩ v5) := (hc.mono fun b _ hb => by rw [hwb b hb]).setCell (Or.inl (by rw [h.cg])) 3 v5
  have hsz : (w5.setCell ⟨g, 3, none⟩ v5).heap.size = w5.heap.size := World.size_setCell _ _ _
  have hkept : KeptC (fun x => x.1 = 1 ∨ (x.1 = t ∧ x ≠ (t, 0) ∧ x ≠ (t, 2))) w c (w5.setCell ⟨g, 3, none⟩ v5) c2 := ⟨fun b hb hK => ⟨by
    rw [Below.heap_setCell w5 ⟨g, 3, none⟩ v5 b (by
      rintro rfl
      rw [h.cg] at hK
      rcases hK with e | e
      · exact ht1 e
      · exact e.2.1 rfl)]
    exact hc.block b hb fun e => by
      rw [hwb b e] at hK
      rcases hK with e | e
      · exact ht1 e
      · exact e.2.2 rfl, hold b hb⟩, by omega⟩
  refine ⟨c2, hold, fun b hb => ?_, fun b hb => ?_, ?_, hch⟩
  · by_cases e : v5.ownBlock = some b
    · exact Or.inl (by rw [hcy b e])
    · by_cases e' : b = w.heap.size + 1
      · subst e'; exact Or.inr (Or.inr (by rw [hcv]))
      · rw [hcn b e e']
        exact Or.inr (Or.inl (hfr b hb))
  · rw [hcn b (fun e => by have := (ho.lt b e).2; omega) (by omega)]
    exact hfr b (by omega)
  · refine h.setWaits (m' := m.wait d p s) ?_ hkept (by rw [hold g hg]; exact h.cg) rfl rfl ?_
    · obtain ⟨left, hl, hr⟩ := h.row
      refine ⟨left, hl, ?_⟩
      have hr5 : Row w5 g 56 (rcells vd vt hv wv (!m.on) (decide (0 ≤ m.fuse)) left (m.steps : Nat) m.clock) := by unfold Row; rw [hc.block g hg hgw]; exact hr
      have := setCell_eq_setRow w5 g 3 _ 56 (0, 0) v5 hr5
      rw [this]
      have h2 := hr5.setRow (rcells vd vt hv v5 (!m.on) (decide (0 ≤ m.fuse)) left (m.steps : Nat) m.clock)
      show Row _ g 56 (rcells vd vt hv v5 (!m.on) (decide (0 ≤ m.fuse)) left (m.steps : Nat) m.clock)
      simpa [rcells] using h2
    · have hgv : v5.ownBlock ≠ some g := fun e => by
        rcases h5 g e with e' | e'
        · exact hgw e'
        · omega
      have hown : (w5.setCell ⟨g, 3, none⟩ v5).ownsRow 0 81 3 v5 (m.wts.length + 1) (wtCells m.wts us ++ [.int .i64 (d : Nat), .int .i64 (p : Nat), vb]) := ownK ho fun b hb => Below.heap_setCell w5 ⟨g, 3, none⟩ v5 b (by rintro rfl; exact hgv hb)
      refine ⟨⟨fun i => if i = m.wts.length then vb else us i, ?_, fun i hi => ?_⟩, hcy⟩
      · show (w5.setCell ⟨g, 3, none⟩ v5).ownsRow 0 81 3 v5 (m.wts ++ [_]).length (wtCells (m.wts ++ [_]) _)
        rw [wtCells_snoc, List.length_append]
        exact hown
      · show RO _ _ (if i = m.wts.length then vb else us i) (wtAt (m.wts ++ [⟨d, m.steps, p, s⟩]) i).b
        have hi : i < m.wts.length + 1 := by simpa [Pl.wait] using hi
        by_cases e : i = m.wts.length
        · rw [if_pos e]
          subst e
          have : wtAt (m.wts ++ [⟨d, m.steps, p, s⟩]) m.wts.length = ⟨d, m.steps, p, s⟩ := by simp [wtAt]
          rw [this]
          refine ⟨sliceK hvb fun b hb _ => Below.heap_setCell w5 ⟨g, 3, none⟩ v5 b (by rw [hkb] at hb; injection hb with hb; show b ≠ g; omega), fun b hb => ?_⟩
          rw [hkb] at hb
          injection hb with hb
          subst hb
          exact ⟨by omega, by rw [hcv]⟩
        · rw [if_neg e]
          have : wtAt (m.wts ++ [⟨d, m.steps, p, s⟩]) i = wtAt m.wts i := by
            unfold wtAt
            rw [List.getD_eq_getElem?_getD, List.getElem?_append_left (by omega), ← List.getD_eq_getElem?_getD]
          rw [this]
          exact (hus i (by omega)).k hkept fun x => Or.inl rfl
end Go.Proofs.Ytdddfjkecmnggaa

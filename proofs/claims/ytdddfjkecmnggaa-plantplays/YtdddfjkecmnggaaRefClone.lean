/- The document's own plant: Clone. -/
import Derived.Test.YtdddfjkecmnggaaRefClone0
namespace Go.Proofs.Ytdddfjkecmnggaa
open Go.RowKit Go.Maps

theorem zero56c : (Try.prog.info? 56).map (·.zero) = some (some (.agg ([.slice none 0 0, .slice none 0 0, .slice none 0 0, .slice none 0 0, .bool false, .bool false, .int .i64 0, .int .i64 0, .int .i64 0] : List Value).toArray)) := by kernel_rfl
theorem agg56c : AggT 56 9 := ⟨Or.inl ⟨_, Try.underlying56⟩, by kernel_rfl⟩
theorem s53 : (Try.prog.info? 53).map (·.size) = some 1 := by kernel_rfl
theorem wts_ones {W : World} {c : Nat → Colour} {wts : List Wr} {us : Nat → Value} (h : ∀ i, i < wts.length → RO W c (us i) (wtAt wts i).b) : ∀ u ∈ wtCells wts us, u.oneCell' = true := fun u hu => by
  unfold wtCells at hu
  obtain ⟨i, hi, hu⟩ := List.mem_flatMap.1 hu
  obtain ⟨p, n, c, e⟩ := (h i (List.mem_range.1 hi)).slices
  unfold wtCell at hu
  simp only [List.mem_cons, List.not_mem_nil, or_false] at hu
  rcases hu with rfl | rfl | rfl
  · rfl
  · rfl
  · rw [e]; rfl
/-- the copy stands -/
theorem clone_end {w W w5 : World} {c c' : Nat → Colour} {t t' g : Nat} {vd vt hv hv' wv v5 : Value} {ds ts : List Int} {m : Pl} {left : Int} {G b5 : Nat} (h : RefAt w c t g vd vt hv wv ds ts m) (hleft : 0 ≤ m.fuse → left = m.fuse) (hC : CloneR w c t' vd vt wv m left G m.n hv' W c') (ht1 : t' ≠ 1) (us : Nat → Value) (hus : ∀ i, i < m.wts.length → RO w c (us i) (wtAt m.wts i).b)
    (ho : w5.ownsRow 0 81 3 v5 m.wts.length (wtCells m.wts us)) (hb5 : v5.ownBlock = some b5) (hge : W.heap.size ≤ b5) (hbl : Below W.heap.size W w5) :
    ∃ c2, (∀ b, b < w.heap.size → c2 b = c b) ∧ (∀ b, w.heap.size ≤ b → (c2 b).1 = t' ∨ (c2 b).1 = t' + 1) ∧ (∀ b, (w5.setCell ⟨G, 3, none⟩ v5).heap.size ≤ b → (c2 b).1 = t' + 1) ∧ RefAt (w5.setCell ⟨G, 3, none⟩ v5) c2 t' G vd vt hv' v5 ds ts m ∧ Below w.heap.size w (w5.setCell ⟨G, 3, none⟩ v5) := by
  obtain ⟨n1, n2, n3, n4, hG, ⟨hcG, hGw⟩, hhas, o4⟩ := hC
  have hlt5 := (ho.lt b5 hb5).2
  have hGlt := hG.lt
  have hsz : (w5.setCell ⟨G, 3, none⟩ v5).heap.size = w5.heap.size := World.size_setCell _ _ _
  have hwW := n4.size
  obtain ⟨c2, hc2⟩ : ∃ c2 : Nat → Colour, c2 = fun b => if b = b5 then (t', 2) else c' b := ⟨_, rfl⟩
  have hcy : c2 b5 = (t', 2) := by rw [hc2]; exact if_pos rfl
  have hcn : ∀ b, b ≠ b5 → c2 b = c' b := fun b hb => by rw [hc2]; exact if_neg hb
  have hblk : ∀ b, b < W.heap.size → b ≠ G → (w5.setCell ⟨G, 3, none⟩ v5).heap[b]? = W.heap[b]? := fun b hb hne => by
    rw [Below.heap_setCell w5 ⟨G, 3, none⟩ v5 b hne]
    exact hbl.block b hb
  have hk1 : KeptC (fun x => x.1 = 1) w c (w5.setCell ⟨G, 3, none⟩ v5) c2 := ⟨fun b hb _ => ⟨by rw [hblk b (by omega) (by omega)]; exact n4.block b hb, by rw [hcn b (by omega)]; exact n1 b hb⟩, by have := hbl.size; omega⟩
  have hk2 : KeptC (fun x => x.1 = 1 ∨ (x.1 = t' ∧ x ≠ (t', 0))) W c' (w5.setCell ⟨G, 3, none⟩ v5) c2 := ⟨fun b hb hK => ⟨hblk b hb (by
    rintro rfl
    rw [hcG] at hK
    rcases hK with e | e
    · exact ht1 e
    · exact e.2 rfl), hcn b (by omega)⟩, by have := hbl.size; omega⟩
  refine ⟨c2, fun b hb => by rw [hcn b (by omega)]; exact n1 b hb, fun b hb => ?_, fun b hb => ?_, ⟨?_, by rw [hcn G (by omega)]; exact hcG, h.disks.k hk1 fun _ => rfl, h.tapes.k hk1 fun _ => rfl, h.shape, hhas.k hk2 (fun _ => Or.inl rfl) (Or.inr ⟨rfl, by simp⟩) fun i => Or.inr ⟨rfl, fun e => by injection e; omega⟩, ⟨⟨us, ?_, fun i hi => (hus i hi).k hk1 fun _ => rfl⟩, fun b hb => ?_⟩⟩, (n4.trans (hbl.mono hwW)).setCell hGw v5⟩
  · by_cases e : b = b5
    · subst e; exact Or.inl (by rw [hcy])
    · rw [hcn b e]; exact n2 b hb
  · rw [hcn b (by omega)]
    exact n3 b (by have := hbl.size; omega)
  · have hG5 : Row w5 G 56 (rcells vd vt hv' wv (!m.on) (decide (0 ≤ m.fuse)) left (m.steps : Nat) m.clock) := hG.later hbl hGlt
    refine ⟨left, hleft, ?_⟩
    have h6 := hG5.setRow (rcells vd vt hv' v5 (!m.on) (decide (0 ≤ m.fuse)) left (m.steps : Nat) m.clock)
    rw [setCell_eq_setRow w5 G 3 _ 56 (0, 0) v5 hG5]
    simpa [rcells] using h6
  · exact ownK ho fun b hb => Below.heap_setCell w5 ⟨G, 3, none⟩ v5 b (by have e := Option.some.inj (hb.symm.trans hb5); show b ≠ G; omega)
  · have e := Option.some.inj (hb.symm.trans hb5)
    rw [e]
    exact hcy
set_option maxHeartbeats 4000000 in
set_option maxRecDepth 100000 in
theorem refClone_at {w : World} {c : Nat → Colour} {t g : Nat} {vd vt hv wv : Value} {ds ts : List Int} {m : Pl} (h : RefAt w c t g vd vt hv wv ds ts m) (hwf : m.WF) (hst : m.steps < 1099511627775) (t' : Nat) (ht1 : t' ≠ 1) :
    Calls Try.prog 13 #[ptr g] w fun e w' => ∃ G c', e = .returned (ptr G) ∧ w.heap.size ≤ G ∧ (∀ b, b < w.heap.size → c' b = c b) ∧ (∀ b, w.heap.size ≤ b → (c' b).1 = t' ∨ (c' b).1 = t' + 1) ∧ (∀ b, w'.heap.size ≤ b → (c' b).1 = t' + 1) ∧ (∃ hv' wv', RefAt w' c' t' G vd vt hv' wv' ds ts m) ∧ Below w.heap.size w w' := by
  obtain ⟨left, hleft, hrow⟩ := h.row
  obtain ⟨⟨us, ho1, ho2⟩, ho3⟩ := h.has
  obtain ⟨⟨uw, hw1, hw2⟩, hw3⟩ := h.waits
  have hN12 : m.n ≤ 12 := hwf.few
  have hcn := hwf.count
  have HA : Hid (RefAt w c t g vd vt hv wv ds ts m) := h
  have HLF : Hid (0 ≤ m.fuse → left = m.fuse) := hleft
  have HROW : Hid (Row w g 56 (rcells vd vt hv wv (!m.on) (decide (0 ≤ m.fuse)) left (m.steps : Nat) m.clock)) := hrow
  have HO : Hid (w.ownsRow 0 57 1 hv m.n us) := ho1
  have HO2 : Hid (∀ j, j < m.n → RowOf w c (t, 3 + j) (us.getD j undef) (m.fl j)) := ho2
  have HFL : Hid (∀ j, j < m.n → (m.fl j).length ≤ 1000000) := fun j hj => by
    have h1 := (hwf.sizes j hj).2
    cases ht : m.tape j with
    | false => have := hwf.disk j hj ht; omega
    | true => have := (hwf.tapes j hj ht).1; omega
  have HWV : Hid (w.ownsRow 0 81 3 wv m.wts.length (wtCells m.wts uw) ∧ ∀ i, i < m.wts.length → RO w c (uw i) (wtAt m.wts i).b) := ⟨hw1, hw2⟩
  have HCN : Hid (m.wts.length ≤ 1099511627775) := by show _ ≤ _; omega
  have HUL : Hid (us.length = m.n) := hasK ho1
  have hg := hrow.lt
  obtain ⟨N, hN⟩ : ∃ N, N = m.n := ⟨_, rfl⟩
  have HN : Hid (N = m.n) := hN
  rw [← hN] at HO HO2 HFL HUL hN12
  obtain ⟨G, hG⟩ : ∃ G, G = w.heap.size := ⟨_, rfl⟩
  have HG : Hid (G = w.heap.size) := hG
  rw [← hG] at hg
  have HSL : Hid ((∃ p n c, vd = .slice p n c) ∧ (∃ p n c, vt = .slice p n c) ∧ (∃ p n c, hv = .slice p n c) ∧ ∃ p n c, wv = .slice p n c) := by
    obtain ⟨p1, n1, e1, _⟩ := h.disks.1.shape
    obtain ⟨p2, n2, e2, _⟩ := h.tapes.1.shape
    exact ⟨⟨_, _, _, e1⟩, ⟨_, _, _, e2⟩, own_slice' ho1, own_slice' hw1⟩
  clear h hleft hrow ho1 ho2 ho3 hw1 hw2 hw3 hwf hcn hN hG
  go_enter Try.func13, Try.ntmps13
  go_upto_region 1 with fail
  refine wp_region_lit ?_
  refine wl_mv (.tmp 0) rfl rfl (ptr g) rfl ?_
  simp only [Act.put, List.setIfInBounds_toArray, List.set_cons_succ, List.set_cons_zero]
  refine wl_nil (.tmp 5) rfl rfl ⟨g, 0, none⟩ rfl ?_
  simp only [Act.put, List.setIfInBounds_toArray, List.set_cons_succ, List.set_cons_zero]
  refine wl_ldA agg56c (.tmp 6) rfl rfl g 0 rfl (rcells vd vt hv wv (!m.on) (decide (0 ≤ m.fuse)) left (m.steps : Nat) m.clock) rfl (fun j v hj => by rw [Nat.zero_add]; exact HROW.out.at j v hj) ?_
  simp only [Act.put, List.setIfInBounds_toArray, List.set_cons_succ, List.set_cons_zero]
  refine wpList_alloc_store agg56c _ zero56c rfl rfl rfl rfl rfl (.tmp 7) rfl (rcells vd vt hv wv (!m.on) (decide (0 ≤ m.fuse)) left (m.steps : Nat) m.clock) rfl rfl (by obtain ⟨⟨a1, a2, a3, e1⟩, ⟨b1, b2, b3, e2⟩, ⟨c1, c2, c3, e3⟩, ⟨d1, d2, d3, e4⟩⟩ := HSL.out; intro y hy; simp only [rcells, List.mem_cons, List.not_mem_nil, or_false] at hy; rcases hy with rfl | rfl | rfl | rfl | rfl | rfl | rfl | rfl | rfl; rw [e1]; rfl; rw [e2]; rfl; rw [e3]; rfl; rw [e4]; rfl; all_goals rfl) (fun _ => rfl) (fun _ => rfl) ?_; intro w1 r1 s1 b1; rw [← HG.out] at r1 s1 b1 ⊢; simp only [Act.put, List.setIfInBounds_toArray, List.set_cons_succ, List.set_cons_zero]
  refine wpList_nil ?_
  have R1 : Hid (Row w1 G 56 (rcells vd vt hv wv (!m.on) (decide (0 ≤ m.fuse)) left (m.steps : Nat) m.clock) ∧ w1.heap.size = G + 1 ∧ Below G w w1) := ⟨r1, s1, b1⟩
  clear r1 s1 b1
  go_upto_region 2 with fail
  refine wp_region_lit ?_
  refine wl_fld f56_h (.tmp 3) rfl rfl G 0 rfl ?_
  simp only [Act.put, List.setIfInBounds_toArray, List.set_cons_succ, List.set_cons_zero]
  refine wl_put s53 (.tmp 8) (.const (.slice none 0 0)) rfl rfl rfl G 2 56 _ rfl (.slice none 0 0) rfl ⟨rfl, rfl⟩ R1.out.1 (by show 2 < 9; decide) ?_
  refine wpList_nil ?_
  have HI0 : Hid (∃ c', CloneR w c t' vd vt wv m left G 0 (.slice none 0 0) (w1.setCell ⟨G, 2, none⟩ (.slice none 0 0)) c') := by
    have hgw := HG.out
    have hsz : (w1.setCell ⟨G, 2, none⟩ (.slice none 0 0)).heap.size = G + 1 := by rw [World.size_setCell]; exact R1.out.2.1
    refine ⟨fun b => if b < w.heap.size then c b else if b = G then (t', 0) else (t' + 1, 0), fun b hb => if_pos hb, fun b hb => ?_, fun b hb => ?_, ?_, ?_, ⟨?_, by omega⟩, ⟨⟨[], World.ownsRow_nil _ _ _ _, fun j hj => by omega⟩, fun b hb => by cases hb⟩, fun b hb => by cases hb⟩
    · dsimp only
      rw [if_neg (by omega)]
      split
      · exact Or.inl rfl
      · exact Or.inr rfl
    · dsimp only
      rw [if_neg (by omega), if_neg (by omega)]
    · rw [← hgw]
      exact R1.out.2.2.setCell (Nat.le_refl _) _
    · have h6 := R1.out.1.setRow (rcells vd vt (.slice none 0 0) wv (!m.on) (decide (0 ≤ m.fuse)) left (m.steps : Nat) m.clock)
      rw [setCell_eq_setRow w1 G 2 _ 56 (0, 0) (.slice none 0 0) R1.out.1]
      simpa [rcells] using h6
    · dsimp only
      rw [if_neg (by omega), if_pos rfl]
  generalize w1.setCell ⟨G, 2, none⟩ (.slice none 0 0) = w2 at HI0 ⊢
  simp only [Nat.zero_add]
  go_wp2_with fail
  go_loopw [4] (fun ix W => ∃ k : Nat, k ≤ N ∧ ix = .int .i64 k ∧ ∃ hv' c', CloneR w c t' vd vt wv m left G k hv' W c') (fun ix _ => N - (intOf ix).toNat)
  case atStart => exact ⟨0, Nat.zero_le _, rfl, _, HI0.out⟩
  case round =>
    obtain ⟨k, hk, rfl, hv', c', hC⟩ := hrel
    clear HI0 R1
    have HC : Hid (CloneR w c t' vd vt wv m left G k hv' wr c') := hC
    have HB : Hid (Below w.heap.size w wr) := hC.2.2.2.1
    have k2 : wr.cell? ⟨g, 2, none⟩ = some hv := by rw [HB.out.cell (by show g < _; rw [← HG.out]; exact hg)]; exact HROW.out.at 2 _ rfl
    have k3 : wr.cell? ⟨g, 3, none⟩ = some wv := by rw [HB.out.cell (by show g < _; rw [← HG.out]; exact hg)]; exact HROW.out.at 3 _ rfl
    have HO3 : Hid (wr.ownsRow 0 57 1 hv N us) := ownK HO.out fun b hb => HB.out.block b (HO.out.lt b hb).2
    clear hC
    by_cases hlt : k < N
    · have hlt' : (k : Int) < (N : Int) := by omega
      obtain ⟨bh, hbh, hih, hch⟩ := own_index HO3.out Try.underlying53 s57 k hlt
      rw [Nat.mul_one] at hih
      have HIH : Hid (∀ w', (Instr.indexAt 53 hv (.int .i64 (k : Nat))).run Try.prog w' = .ok (.pointer (some ⟨bh, k, none⟩)) w') := hih
      have HCH : Hid (wr.cell? ⟨bh, k, none⟩ = some (us.getD k undef)) := by have := hch 0 (by decide); rw [Nat.add_zero, Nat.mul_one] at this; show _ = _; rw [this]; have hl := HUL.out; simp [show k < us.length by omega]
      go_upto_region 6 with (refine wl_olen (.tmp 13) 53 rfl rfl sl53 hv rfl HO3.out ?_)
      refine wp_region_until (S := fun X => X.cell? ⟨G, 2, none⟩ = some hv' ∧ X.cell? ⟨g, 2, none⟩ = some hv ∧ X.cell? ⟨bh, k, none⟩ = some (us.getD k undef)) 14 (by kernel_rfl) ?_
      show wpAnyU _ _ _ _ _ _ 15 (Array.replicate 15 false) _ _
      have HWD : Hid ({ wr with drawn := wr.drawn + 1 } = wr.drewN 1) := rfl
      rw [HWD.out]
      obtain ⟨X, hX⟩ : ∃ X, X = wr.drewN 1 := ⟨_, rfl⟩
      have bX : Below wr.heap.size wr X := by rw [hX]; exact below_drewN' _ _
      rw [← hX]
      have HCX : Hid (CloneR w c t' vd vt wv m left G k hv' X c') := HC.out.below bX
      have HBX : Hid (Below w.heap.size w X) := HB.out.trans (bX.mono HB.out.size)
      have hx2 : X.cell? ⟨g, 2, none⟩ = some hv := by rw [hX]; exact k2
      have hx4 : X.cell? ⟨bh, k, none⟩ = some (us.getD k undef) := by rw [hX]; exact HCH.out
      have hbhlt : bh < X.heap.size := by rw [hX]; exact (HO3.out.lt bh hbh).2
      clear hX bX HC HB
      obtain ⟨⟨xs, hr1, hr2⟩, hr3⟩ := HO2.out k hlt
      have hkp : KeptC (fun x => x.1 = 1) w c X c' := ⟨fun b hb _ => ⟨HBX.out.block b hb, HCX.out.1 b hb⟩, HBX.out.size⟩
      obtain ⟨vr, W2, hrun2, hvs, b2, b3, v5, W5, hrun5, hv5, hG5, hB5, hC5⟩ := clone_chain (c := c) HCX.out ht1 (by omega) (us.getD k undef) xs (ownK hr1 fun b hb => HBX.out.block b (hr1.lt b hb).2) (fun i hi => (hr2 i hi).k hkp fun _ => rfl) (HFL.out k hlt)
      have HR2 : Hid ((Builtin.append_ #[57, 57] 57 #[.slice (some ⟨X.heap.size, 0, none⟩) 0 0, us.getD k undef]).run Try.prog (X.alloc (.cells #[] 40)) = .ok vr W2) := hrun2
      have HR5 : Hid ((Builtin.append_ #[53, 53] 53 #[hv', .slice (some ⟨W2.heap.size, 0, none⟩) 1 1]).run Try.prog (W2.alloc (.cells #[vr] 57)) = .ok v5 W5) := hrun5
      have HVS : Hid (∃ p n c, vr = .slice p n c) := hvs
      have HV5 : Hid (v5.cells = #[v5] ∧ v5.oneCell' = true) := hv5
      have HG5 : Hid (Row W5 G 56 (rcells vd vt hv' wv (!m.on) (decide (0 ≤ m.fuse)) left (m.steps : Nat) m.clock)) := hG5
      have HC5 : Hid (∃ c'', CloneR w c t' vd vt wv m left G (k + 1) v5 (W5.setCell ⟨G, 2, none⟩ v5) c'') := hC5
      have hGlt := HCX.out.2.2.2.2.1.lt
      have hglt : g < X.heap.size := by have := HBX.out.size; have := HG.out; omega
      have HGB : Hid (∀ Y, Below X.heap.size X Y → Y.cell? ⟨G, 2, none⟩ = some hv' ∧ Y.cell? ⟨g, 2, none⟩ = some hv ∧ Y.cell? ⟨bh, k, none⟩ = some (us.getD k undef)) := fun Y hY => ⟨by rw [hY.cell (by show G < _; exact hGlt)]; exact HCX.out.2.2.2.2.1.at 2 _ rfl, by rw [hY.cell (by show g < _; exact hglt)]; exact hx2, by rw [hY.cell (by show bh < _; exact hbhlt)]; exact hx4⟩
      have hS0 := HGB.out X (Below.refl _ _)
      have hS1 := HGB.out (X.alloc (.cells #[] 40)) ((Below.refl _ _).alloc (Nat.le_refl _) _)
      have hS2 := HGB.out W2 b2
      have hS3 := HGB.out (W2.alloc (.cells #[vr] 57)) b3
      have HB5 : Hid (∀ b, b < X.heap.size → ¬ hv'.ownBlock = some b → W5.heap[b]? = X.heap[b]?) := hB5
      have hS5 : W5.cell? ⟨G, 2, none⟩ = some hv' ∧ W5.cell? ⟨g, 2, none⟩ = some hv ∧ W5.cell? ⟨bh, k, none⟩ = some (us.getD k undef) := by
        have hown := HCX.out.2.2.2.2.2.2.2
        refine ⟨HG5.out.at 2 _ rfl, ?_, ?_⟩
        · rw [World.cell?_of_block (w := X) (HB5.out g hglt fun e => by have := hown g e; have := HG.out; omega)]; exact hx2
        · rw [World.cell?_of_block (w := X) (HB5.out bh hbhlt fun e => by have := hown bh e; have := (HO.out.lt bh hbh).2; omega)]; exact hx4
      generalize us.getD k undef = rv at HR2 hS0 hS1 hS2 hS3 hS5 ⊢
      clear hrun2 hrun5 hvs hv5 hG5 hC5 hr1 hr2 hr3 hkp hih hch hbh HCH hx2 hx4 hB5 HGB
      refine takeU (i := 0) (some 18) rfl rfl (by kernel_rfl) (by kernel_rfl) (by kernel_rfl) (by kernel_rfl) (by kernel_rfl) (fun _ _ _ h => h) (zField f56_h rfl (.tmp 3) rfl G 0 rfl) hS0 ?_
      simp only [Act.put, List.setIfInBounds_toArray, List.set_cons_succ, List.set_cons_zero]
      refine takeU (i := 1) (some 19) rfl rfl (by kernel_rfl) (by kernel_rfl) (by kernel_rfl) (by kernel_rfl) (by kernel_rfl) (fun _ _ _ h => h) (zLoad o53 rfl (.tmp 18) rfl G (0 + 2) rfl hv' (fun X hX => hX.1)) hS0 ?_
      simp only [Act.put, List.setIfInBounds_toArray, List.set_cons_succ, List.set_cons_zero]
      refine takeU (i := 3) (some 21) rfl rfl (by kernel_rfl) (by kernel_rfl) (by kernel_rfl) (by kernel_rfl) (by kernel_rfl) (fun _ _ _ h => h) (zMove rfl (.tmp 0) rfl (ptr g) rfl) hS0 ?_
      simp only [Act.put, List.setIfInBounds_toArray, List.set_cons_succ, List.set_cons_zero]
      refine takeU (i := 4) (some 22) rfl rfl (by kernel_rfl) (by kernel_rfl) (by kernel_rfl) (by kernel_rfl) (by kernel_rfl) (fun _ _ _ h => h) (zNil rfl (.tmp 21) rfl ⟨g, 0, none⟩ rfl) hS0 ?_
      simp only [Act.put, List.setIfInBounds_toArray, List.set_cons_succ, List.set_cons_zero]
      refine takeU (i := 5) (some 23) rfl rfl (by kernel_rfl) (by kernel_rfl) (by kernel_rfl) (by kernel_rfl) (by kernel_rfl) (fun _ _ _ h => h) (zField f56_h rfl (.tmp 22) rfl g 0 rfl) hS0 ?_
      simp only [Act.put, List.setIfInBounds_toArray, List.set_cons_succ, List.set_cons_zero]
      refine takeU (i := 6) (some 24) rfl rfl (by kernel_rfl) (by kernel_rfl) (by kernel_rfl) (by kernel_rfl) (by kernel_rfl) (fun _ _ _ h => h) (zLoad o53 rfl (.tmp 23) rfl g (0 + 2) rfl hv (fun X hX => hX.2.1)) hS0 ?_
      simp only [Act.put, List.setIfInBounds_toArray, List.set_cons_succ, List.set_cons_zero]
      refine takeU (i := 7) (some 25) rfl rfl (by kernel_rfl) (by kernel_rfl) (by kernel_rfl) (by kernel_rfl) (by kernel_rfl) (fun _ _ _ h => h) (zMove rfl (.tmp 4) rfl (.int .i64 (k : Nat)) rfl) hS0 ?_
      simp only [Act.put, List.setIfInBounds_toArray, List.set_cons_succ, List.set_cons_zero]
      refine takeU (i := 8) (some 26) rfl rfl (by kernel_rfl) (by kernel_rfl) (by kernel_rfl) (by kernel_rfl) (by kernel_rfl) (fun _ _ _ h => h) (zIndex rfl (.tmp 24) (.tmp 25) rfl hv (.pointer (some ⟨bh, k, none⟩)) _ rfl rfl HIH.out) hS0 ?_
      simp only [Act.put, List.setIfInBounds_toArray, List.set_cons_succ, List.set_cons_zero]
      refine takeU (i := 9) (some 27) rfl rfl (by kernel_rfl) (by kernel_rfl) (by kernel_rfl) (by kernel_rfl) (by kernel_rfl) (fun _ _ _ h => h) (zLoad o57 rfl (.tmp 26) rfl bh k rfl rv (fun X hX => hX.2.2)) hS0 ?_
      simp only [Act.put, List.setIfInBounds_toArray, List.set_cons_succ, List.set_cons_zero]
      refine oneU (i := 2) (by kernel_rfl) ?_
      refine opValZ (some 20) rfl rfl rfl (.slice (some ⟨X.heap.size, 0, none⟩) 0 0) _ (run_lit57n rfl) ?_
      refine ⟨fun _ => hS1, ?_⟩
      simp only [Act.put, List.setIfInBounds_toArray, List.set_cons_succ, List.set_cons_zero]
      refine oneU (i := 10) (by kernel_rfl) ?_
      refine opValZ (some 28) rfl rfl rfl vr W2 (run_append (.tmp 20) (.tmp 27) rfl _ rv vr rfl rfl HR2.out) ?_
      refine ⟨fun _ => hS2, ?_⟩
      simp only [Act.put, List.setIfInBounds_toArray, List.set_cons_succ, List.set_cons_zero]
      refine oneU (i := 11) (by kernel_rfl) ?_
      refine opValZ (some 29) rfl rfl rfl (.slice (some ⟨W2.heap.size, 0, none⟩) 1 1) _ (run_lit53 (.tmp 28) rfl vr HVS.out rfl) ?_
      refine ⟨fun _ => hS3, ?_⟩
      simp only [Act.put, List.setIfInBounds_toArray, List.set_cons_succ, List.set_cons_zero]
      refine oneU (i := 12) (by kernel_rfl) ?_
      refine opValZ (some 30) rfl rfl rfl v5 W5 (run_append (.tmp 19) (.tmp 29) rfl hv' _ v5 rfl rfl HR5.out) ?_
      refine ⟨fun _ => hS5, ?_⟩
      simp only [Act.put, List.setIfInBounds_toArray, List.set_cons_succ, List.set_cons_zero]
      refine oneU (i := 13) (by kernel_rfl) ?_
      refine opValZ (some 31) rfl rfl rfl (.pointer (some ⟨G, 0 + 2, none⟩)) W5 (run_fieldR f56_h (.tmp 3) rfl G 0 rfl) ?_
      refine ⟨fun _ => hS5, ?_⟩
      simp only [Act.put, List.setIfInBounds_toArray, List.set_cons_succ, List.set_cons_zero]
      refine oneU (i := 14) (by kernel_rfl) ?_
      refine opSkipZ rfl rfl rfl _ (run_putRow s53 (.tmp 31) (.tmp 30) rfl G 2 56 _ rfl v5 rfl HV5.out HG5.out (by show 2 < 9; decide)) ?_
      refine ⟨fun h => Bool.noConfusion (show true = false from h), ?_⟩
      refine wpAnyU_done (by kernel_rfl) ?_ _
      generalize W5.setCell ⟨G, 2, none⟩ v5 = wn at HC5 ⊢
      go_wp2_with fail
      exact ⟨⟨k + 1, by omega, by first | omega | go_num, v5, HC5.out⟩, by simp [intOf]; omega⟩
    · have hlt' : ¬ (k : Int) < (N : Int) := by omega
      have hkn : k = m.n := by have := HN.out; omega
      subst hkn
      have HWR : Hid (wr.ownsRow 0 81 3 wv m.wts.length (wtCells m.wts uw)) := ownK HWV.out.1 fun b hb => HB.out.block b (HWV.out.1.lt b hb).2
      have hcn := HCN.out
      obtain ⟨v5, w5, b5, hr5, ho5, hb5, hge5, hbl5⟩ := copy_row (w := wr) Try.underlying54 i81 rfl (by decide) (fun w b => app_nil54 w b) wv _ _ HWR.out (wts_ones HWV.out.2) (by unfold maxLen; omega) (by omega)
      obtain ⟨c2, e1, e2, e3, e4, e5⟩ := clone_end HA.out HLF.out HC.out ht1 uw HWV.out.2 ho5 hb5 hge5 hbl5
      have HR5 : Hid ((Builtin.append_ #[54, 54] 54 #[.slice (some ⟨wr.heap.size, 0, none⟩) 0 0, wv]).run Try.prog (wr.alloc (.cells #[] 81)) = .ok v5 w5) := hr5
      have HE : Hid ((∀ b, b < w.heap.size → c2 b = c b) ∧ (∀ b, w.heap.size ≤ b → (c2 b).1 = t' ∨ (c2 b).1 = t' + 1) ∧ (∀ b, (w5.setCell ⟨G, 3, none⟩ v5).heap.size ≤ b → (c2 b).1 = t' + 1) ∧ RefAt (w5.setCell ⟨G, 3, none⟩ v5) c2 t' G vd vt hv' v5 ds ts m ∧ Below w.heap.size w (w5.setCell ⟨G, 3, none⟩ v5)) := ⟨e1, e2, e3, e4, e5⟩
      have HG5 : Hid (Row w5 G 56 (rcells vd vt hv' wv (!m.on) (decide (0 ≤ m.fuse)) left (m.steps : Nat) m.clock)) := HC.out.2.2.2.2.1.later hbl5 HC.out.2.2.2.2.1.lt
      have HV5 : Hid (v5.cells = #[v5] ∧ v5.oneCell' = true) := own_cells ho5
      have HK3 : Hid ((wr.alloc (.cells #[] 81)).cell? ⟨g, 3, none⟩ = some wv) := by
        show _ = _
        rw [((Below.refl wr.heap.size wr).alloc (Nat.le_refl _) (.cells #[] 81)).cell (by show g < _; have := HB.out.size; have := HG.out; omega)]
        exact k3
      have HGW : Hid (w.heap.size ≤ G) := by rw [HG.out]; exact Nat.le_refl _
      clear hr5 ho5 hb5 hge5 hbl5 e1 e2 e3 e4 e5 HWR hcn
      go_upto_region 7 with (refine wl_olen (.tmp 13) 53 rfl rfl sl53 hv rfl HO3.out ?_)
      refine wp_region_lit ?_
      refine wl rfl _ _ (run_lit54n rfl) ?_
      simp only [Act.put, List.setIfInBounds_toArray, List.set_cons_succ, List.set_cons_zero]
      generalize wr.alloc (.cells #[] 81) = wx at HR5 HK3 ⊢
      refine wl_mv (.tmp 0) rfl rfl (ptr g) rfl ?_
      simp only [Act.put, List.setIfInBounds_toArray, List.set_cons_succ, List.set_cons_zero]
      refine wl_nil (.tmp 33) rfl rfl ⟨g, 0, none⟩ rfl ?_
      simp only [Act.put, List.setIfInBounds_toArray, List.set_cons_succ, List.set_cons_zero]
      refine wl_fld f56_w (.tmp 34) rfl rfl g 0 rfl ?_
      simp only [Act.put, List.setIfInBounds_toArray, List.set_cons_succ, List.set_cons_zero]
      refine wl_ld o54 (.tmp 35) rfl rfl g (0 + 3) rfl wv HK3.out ?_
      simp only [Act.put, List.setIfInBounds_toArray, List.set_cons_succ, List.set_cons_zero]
      refine wl_app (.tmp 32) (.tmp 36) rfl rfl _ wv v5 rfl rfl HR5.out ?_
      simp only [Act.put, List.setIfInBounds_toArray, List.set_cons_succ, List.set_cons_zero]
      refine wl_fld f56_w (.tmp 3) rfl rfl G 0 rfl ?_
      simp only [Act.put, List.setIfInBounds_toArray, List.set_cons_succ, List.set_cons_zero]
      refine wl_put s54 (.tmp 38) (.tmp 37) rfl rfl rfl G 3 56 _ rfl v5 rfl HV5.out HG5.out (by show 3 < 9; decide) ?_
      refine wpList_nil ?_
      generalize w5.setCell ⟨G, 3, none⟩ v5 = wz at HE ⊢
      go_wp2_with fail
      go_ret
      exact ⟨G, rfl, HGW.out, c2, HE.out.1, HE.out.2.1, HE.out.2.2.1, ⟨_, _, HE.out.2.2.2.1⟩, HE.out.2.2.2.2⟩
end Go.Proofs.Ytdddfjkecmnggaa

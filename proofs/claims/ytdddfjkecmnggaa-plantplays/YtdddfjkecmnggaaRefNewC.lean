/- The document's own New: the plant that it makes. -/
import Derived.Test.YtdddfjkecmnggaaRefNewB
namespace Go.Proofs.Ytdddfjkecmnggaa
open Go.RowKit Go.Maps

set_option maxHeartbeats 4000000 in
set_option maxRecDepth 100000 in
theorem refNew_any (w : World) (c : Nat → Colour) (t : Nat) (ht0 : t ≠ 0) (ht1 : t ≠ 1) (vd vt : Value) (ds ts : List Int) (hd : IntsIn w vd ds) (ht : IntsIn w vt ts) (hl1 : ds.length ≤ 17592186043904) (hl2 : ts.length ≤ 17592186043904) :
    Calls Try.prog 10 #[.agg #[vd, vt]] w fun e w' => (shapeOk ds ts = false ∧ e = .returned (.tuple #[.pointer none, .int .i64 30]) ∧ Below w.heap.size w w') ∨ (shapeOk ds ts = true ∧ ∃ g c', e = .returned (.tuple #[ptr g, .int .i64 0]) ∧ w.heap.size ≤ g ∧ (∀ b, b < w.heap.size → c' b = c b) ∧ (∀ b, w.heap.size ≤ b → (c' b).1 = t ∨ (c' b).1 = t + 1 ∨ (c' b).1 = 1) ∧ (∀ b, w'.heap.size ≤ b → (c' b).1 = t + 1) ∧ LiveR w' c' t g (newPl ds ts) ∧ Below w.heap.size w w') := by
  obtain ⟨B, hB⟩ : ∃ B, B = w.heap.size := ⟨_, rfl⟩
  have HB : Hid (B = w.heap.size) := hB
  obtain ⟨pd, cd, hvd, hdl⟩ := hd.shape
  obtain ⟨pt, ct, hvt, htl⟩ := ht.shape
  subst hvd hvt
  obtain ⟨nd, hnd⟩ : ∃ nd, nd = ds.length := ⟨_, rfl⟩
  obtain ⟨nt, hnt⟩ : ∃ nt, nt = ts.length := ⟨_, rfl⟩
  have HND : Hid (nd = ds.length) := hnd
  have HNT : Hid (nt = ts.length) := hnt
  have HD : Hid (IntsIn w (.slice pd nd cd) ds) := by rw [hnd]; exact hd
  have HT : Hid (IntsIn w (.slice pt nt ct) ts) := by rw [hnt]; exact ht
  rw [← hnd, ← hnt, ← hB]
  rw [← hnd] at hl1
  rw [← hnt] at hl2
  clear hd ht hB hnd hnt hdl htl
  obtain ⟨c1, hc1⟩ : ∃ c1 : Nat → Colour, c1 = fun b => if b < B then c b else (t + 1, 0) := ⟨_, rfl⟩
  have HC1c : Hid ((∀ b, b < B → c1 b = c b) ∧ ∀ b, B ≤ b → c1 b = (t + 1, 0)) := ⟨fun b hb => by rw [hc1]; exact if_pos hb, fun b hb => by rw [hc1]; exact if_neg (by omega)⟩
  clear hc1
  obtain ⟨RES, hRES⟩ : ∃ RES : Ending → World → Prop, RES = fun e w' => (shapeOk ds ts = false ∧ e = .returned (.tuple #[.pointer none, .int .i64 30]) ∧ Below B w w') ∨ (shapeOk ds ts = true ∧ ∃ g c', e = .returned (.tuple #[ptr g, .int .i64 0]) ∧ B ≤ g ∧ (∀ b, b < B → c' b = c b) ∧ (∀ b, B ≤ b → (c' b).1 = t ∨ (c' b).1 = t + 1 ∨ (c' b).1 = 1) ∧ (∀ b, w'.heap.size ≤ b → (c' b).1 = t + 1) ∧ LiveR w' c' t g (newPl ds ts) ∧ Below B w w') := ⟨_, rfl⟩
  have HRES : Hid (RES = fun e w' => (shapeOk ds ts = false ∧ e = .returned (.tuple #[.pointer none, .int .i64 30]) ∧ Below B w w') ∨ (shapeOk ds ts = true ∧ ∃ g c', e = .returned (.tuple #[ptr g, .int .i64 0]) ∧ B ≤ g ∧ (∀ b, b < B → c' b = c b) ∧ (∀ b, B ≤ b → (c' b).1 = t ∨ (c' b).1 = t + 1 ∨ (c' b).1 = 1) ∧ (∀ b, w'.heap.size ≤ b → (c' b).1 = t + 1) ∧ LiveR w' c' t g (newPl ds ts) ∧ Below B w w')) := hRES
  refine Calls.mono (R := fun e w' => RES e w' ∧ True) ?_ (fun e w' h => by have h := h.1; rw [HRES.out] at h; exact h)
  clear hRES
  have HBAD : Hid (∀ w', shapeOk ds ts = false → Below B w w' → RES (.returned (.tuple #[.pointer none, .int .i64 30])) w') := fun w' h1 h2 => by rw [HRES.out]; exact Or.inl ⟨h1, rfl, h2⟩
  go_enter Try.func10, Try.ntmps10
  go_upto_region 0 with fail
  refine wp_region_lit ?_
  refine wpList_box (.tmp 0) rfl rfl [.slice pd nd cd, .slice pt nt ct] rfl ?_
  intro w1 r1 s1 b1
  refine wpList_assign (.const (.pointer none)) rfl rfl (.pointer none) rfl ?_
  refine wpList_assign (.const (.int .i64 0)) rfl rfl (.int .i64 0) rfl ?_
  refine wpList_nil ?_
  simp only [Act.put, List.setIfInBounds_toArray, List.set_cons_succ, List.set_cons_zero]
  rw [← HB.out] at r1 s1 b1 ⊢
  have k0 := r1.at 0 _ rfl
  have k1 := r1.at 1 _ rfl
  have HB1 : Hid (Below B w w1 ∧ w1.heap.size = B + 1) := ⟨b1, s1⟩
  have HR1 : Hid (Row w1 B 24 [.slice pd nd cd, .slice pt nt ct]) := r1
  have HD1 : Hid (IntsIn w1 (.slice pd nd cd) ds) := HD.out.later (by rw [← HB.out]; exact b1)
  have HT1 : Hid (IntsIn w1 (.slice pt nt ct) ts) := HT.out.later (by rw [← HB.out]; exact b1)
  clear r1 s1 b1
  by_cases h1 : nd + nt = 0
  · have t1 : ((nd : Int) + (nt : Int) == 0) = true := by simp; omega
    have t1' : decide ((nd : Int) + (nt : Int) = 0) = true := by simp; omega
    have e30 : shapeOk ds ts = false := by
        unfold shapeOk
        rw [← HND.out, ← HNT.out, decide_eq_false (by omega)]
        rfl
    have e30 : Hid (shapeOk ds ts = false) := e30
    go_wp2
    go_ret2
    exact ⟨HBAD.out _ e30.out HB1.out.1, trivial⟩
  have t1 : ((nd : Int) + (nt : Int) == 0) = false := by simp; omega
  have t1' : decide ((nd : Int) + (nt : Int) = 0) = false := by simp; omega
  by_cases h2 : 12 < nd + nt
  · have t2 : decide (12 < (nd : Int) + (nt : Int)) = true := by simp; omega
    have e30 : shapeOk ds ts = false := by
        unfold shapeOk
        rw [← HND.out, ← HNT.out, decide_eq_true (by omega : 1 ≤ nd + nt), decide_eq_false (by omega : ¬ nd + nt ≤ 12)]
        rfl
    have e30 : Hid (shapeOk ds ts = false) := e30
    go_wp2
    go_ret2
    exact ⟨HBAD.out _ e30.out HB1.out.1, trivial⟩
  have t2 : decide (12 < (nd : Int) + (nt : Int)) = false := by simp; omega
  go_upto_region 4 with fail
  clear k0 k1
  go_cut [5] from 23 to 33 (fun s W => ∃ g va vb, s = ptr g ∧ NewAt W g va vb (.slice none 0 0) ds ts ∧ w1.heap.size ≤ g ∧ Below w1.heap.size w1 W ∧ (∀ q, va.ownBlock = some q → w1.heap.size ≤ q) ∧ ∀ q, vb.ownBlock = some q → w1.heap.size ≤ q)
  case first =>
    refine wp_region_held (S := fun W => Below w1.heap.size w1 W) (by kernel_rfl) ?_
    show wpAnyH _ _ _ _ _ 12 (Array.replicate 12 false) _ _
    obtain ⟨W0, hW0⟩ : ∃ W0 : World, W0 = { w1 with drawn := w1.drawn + 1 } := ⟨_, rfl⟩
    rw [← hW0]
    have hS : Below w1.heap.size w1 W0 := by rw [hW0]; exact ⟨rfl, rfl, rfl, Nat.le_refl _, fun _ _ => rfl⟩
    clear hW0
    refine takeH (i := 1) (some 24) rfl rfl (by kernel_rfl) (by kernel_rfl) (by kernel_rfl) (fun _ _ _ h => h) (yRunH rfl (.pointer (some ⟨B, 0, none⟩)) (fun W' _ => run_fieldOp' f24_0 (.tmp 1) rfl B 0 rfl)) hS ?_
    simp only [Act.put, List.setIfInBounds_toArray, List.set_cons_succ, List.set_cons_zero]
    refine takeH (i := 2) (some 25) rfl rfl (by kernel_rfl) (by kernel_rfl) (by kernel_rfl) (fun _ _ _ h => h) (yRunH rfl (.slice pd nd cd) (fun W' hW => run_load1 one22 (.tmp 24) rfl B 0 rfl _ ((HR1.out.later hW HR1.out.lt).at 0 _ rfl))) hS ?_
    simp only [Act.put, List.setIfInBounds_toArray, List.set_cons_succ, List.set_cons_zero]
    refine takeH (i := 5) (some 28) rfl rfl (by kernel_rfl) (by kernel_rfl) (by kernel_rfl) (fun _ _ _ h => h) (yRunH rfl (.pointer (some ⟨B, 1, none⟩)) (fun W' _ => run_fieldOp' f24_1 (.tmp 1) rfl B 0 rfl)) hS ?_
    simp only [Act.put, List.setIfInBounds_toArray, List.set_cons_succ, List.set_cons_zero]
    refine takeH (i := 6) (some 29) rfl rfl (by kernel_rfl) (by kernel_rfl) (by kernel_rfl) (fun _ _ _ h => h) (yRunH rfl (.slice pt nt ct) (fun W' hW => run_load1 one22 (.tmp 28) rfl B 1 rfl _ ((HR1.out.later hW HR1.out.lt).at 1 _ rfl))) hS ?_
    simp only [Act.put, List.setIfInBounds_toArray, List.set_cons_succ, List.set_cons_zero]
    refine wpAnyH_all (rs := [0, 4]) (by kernel_rfl) (by decide) ?_
    intro i hi
    have hi' : i = 0 ∨ i = 4 := by simpa using hi
    clear hi
    rcases hi' with rfl | rfl
    · refine opValue (some 23) rfl rfl rfl _ _ (run_int0Op rfl) ?_
      obtain ⟨W1, g1, hW1, hg1⟩ : ∃ W1 g1, W1 = W0.alloc (.cells #[] 3) ∧ g1 = W0.heap.size := ⟨_, _, rfl, rfl⟩
      rw [← hW1, ← hg1]
      have b1 : Below W0.heap.size W0 W1 := by rw [hW1]; exact (Below.refl _ _).alloc (Nat.le_refl _) _
      have r1 : Row W1 g1 3 [] := by rw [hW1, hg1]; exact Row.new _ _ _
      have h1 : Below w1.heap.size w1 W1 := hS.trans (b1.mono hS.size)
      refine ⟨h1, ?_⟩
      have lg1 : w1.heap.size ≤ g1 := by rw [hg1]; exact hS.size
      clear hW1 hg1
      simp only [Act.put, List.setIfInBounds_toArray, List.set_cons_succ, List.set_cons_zero]
      refine wpAnyH_all (rs := [3, 4]) (by kernel_rfl) (by decide) ?_
      intro i hi
      have hi' : i = 3 ∨ i = 4 := by simpa using hi
      clear hi
      rcases hi' with rfl | rfl
      · obtain ⟨v2, W2, ra2, Iv2, b2, Lxv2⟩ := app_ints2 22 g1 r1 (.slice pd nd cd) ds (HD1.out.later h1) (by have := HND.out; omega)
        have Lv2 : ∀ q, v2.ownBlock = some q → q < W2.heap.size := fun q hq => (Lxv2 q hq).2
        have Lov2 : ∀ q, v2.ownBlock = some q → w1.heap.size ≤ q := fun q hq => Nat.le_trans lg1 (Lxv2 q hq).1
        clear Lxv2
        refine opValue (some 26) rfl rfl rfl v2 W2 (run_appOp (.tmp 23) (.tmp 25) rfl _ _ _ rfl rfl ra2) ?_
        have h2 : Below w1.heap.size w1 W2 := h1.trans (b2.mono h1.size)
        refine ⟨h2, ?_⟩
        obtain ⟨Cv2, Hv2⟩ := Iv2.isSlice
        clear ra2
        simp only [Act.put, List.setIfInBounds_toArray, List.set_cons_succ, List.set_cons_zero]
        refine oneH (i := 4) (by kernel_rfl) ?_
        refine opValue (some 27) rfl rfl rfl _ _ (run_int0Op rfl) ?_
        obtain ⟨W3, g3, hW3, hg3⟩ : ∃ W3 g3, W3 = W2.alloc (.cells #[] 3) ∧ g3 = W2.heap.size := ⟨_, _, rfl, rfl⟩
        rw [← hW3, ← hg3]
        have b3 : Below W2.heap.size W2 W3 := by rw [hW3]; exact (Below.refl _ _).alloc (Nat.le_refl _) _
        have r3 : Row W3 g3 3 [] := by rw [hW3, hg3]; exact Row.new _ _ _
        have h3 : Below w1.heap.size w1 W3 := h2.trans (b3.mono h2.size)
        refine ⟨h3, ?_⟩
        have lg3 : w1.heap.size ≤ g3 := by rw [hg3]; exact h2.size
        clear hW3 hg3
        simp only [Act.put, List.setIfInBounds_toArray, List.set_cons_succ, List.set_cons_zero]
        have Iv2' := Iv2.later b3
        clear Iv2
        have Iv2 := Iv2'
        clear Iv2'
        have Lv2' : ∀ q, v2.ownBlock = some q → q < W3.heap.size := fun q hq => Nat.lt_of_lt_of_le (Lv2 q hq) b3.size
        clear Lv2
        have Lv2 := Lv2'
        clear Lv2'
        refine oneH (i := 7) (by kernel_rfl) ?_
        obtain ⟨v4, W4, ra4, Iv4, b4, Lxv4⟩ := app_ints2 22 g3 r3 (.slice pt nt ct) ts (HT1.out.later h3) (by have := HNT.out; omega)
        have Lv4 : ∀ q, v4.ownBlock = some q → q < W4.heap.size := fun q hq => (Lxv4 q hq).2
        have Lov4 : ∀ q, v4.ownBlock = some q → w1.heap.size ≤ q := fun q hq => Nat.le_trans lg3 (Lxv4 q hq).1
        clear Lxv4
        refine opValue (some 30) rfl rfl rfl v4 W4 (run_appOp (.tmp 27) (.tmp 29) rfl _ _ _ rfl rfl ra4) ?_
        have h4 : Below w1.heap.size w1 W4 := h3.trans (b4.mono h3.size)
        refine ⟨h4, ?_⟩
        obtain ⟨Cv4, Hv4⟩ := Iv4.isSlice
        clear ra4
        simp only [Act.put, List.setIfInBounds_toArray, List.set_cons_succ, List.set_cons_zero]
        have Iv2' := Iv2.later b4
        clear Iv2
        have Iv2 := Iv2'
        clear Iv2'
        have Lv2' : ∀ q, v2.ownBlock = some q → q < W4.heap.size := fun q hq => Nat.lt_of_lt_of_le (Lv2 q hq) b4.size
        clear Lv2
        have Lv2 := Lv2'
        clear Lv2'
        refine takeH (i := 8) (some 31) rfl rfl (by kernel_rfl) (by kernel_rfl) (by kernel_rfl) (fun _ _ _ h => h) (yRunH rfl (.agg #[v2, v4]) (fun W' _ => run_build24Op (.tmp 26) (.tmp 30) rfl _ _ Cv2 Cv4 rfl rfl)) h4 ?_
        simp only [Act.put, List.setIfInBounds_toArray, List.set_cons_succ, List.set_cons_zero]
        refine takeH (i := 9) (some 32) rfl rfl (by kernel_rfl) (by kernel_rfl) (by kernel_rfl) (fun _ _ _ h => h) (yRunH rfl (.agg (refCells v2 v4 (.slice none 0 0)).toArray) (fun W' _ => run_build56Op (.tmp 31) rfl _ _ Hv2 Hv4 rfl)) h4 ?_
        simp only [Act.put, List.setIfInBounds_toArray, List.set_cons_succ, List.set_cons_zero]
        refine oneH (i := 10) (by kernel_rfl) ?_
        refine opValue (some 33) rfl rfl rfl _ _ (run_boxOp (.tmp 32) rfl (refCells v2 v4 (.slice none 0 0)) rfl) ?_
        obtain ⟨Wz, hWz⟩ : ∃ Wz, Wz = W4.alloc (.cells (refCells v2 v4 (.slice none 0 0)).toArray 56) := ⟨_, rfl⟩
        rw [← hWz]
        have bz : Below W4.heap.size W4 Wz := by rw [hWz]; exact (Below.refl _ _).alloc (Nat.le_refl _) _
        have rz : Row Wz W4.heap.size 56 (refCells v2 v4 (.slice none 0 0)) := by rw [hWz]; exact Row.new _ _ _
        have hz : Below w1.heap.size w1 Wz := h4.trans (bz.mono h4.size)
        refine ⟨hz, ?_⟩
        simp only [Act.put, List.setIfInBounds_toArray, List.set_cons_succ, List.set_cons_zero]
        refine takeH (i := 11) (some 5) rfl rfl (by kernel_rfl) (by kernel_rfl) (by kernel_rfl) (fun _ _ _ h => h) (yRunH rfl (ptr W4.heap.size) (fun W' _ => run_assignOp (.tmp 33) rfl _ rfl)) hz ?_
        simp only [Act.put, List.setIfInBounds_toArray, List.set_cons_succ, List.set_cons_zero]
        refine wpAnyH_done (by kernel_rfl) ?_ _
        have RS : Hid (∃ g va vb, ptr W4.heap.size = ptr g ∧ NewAt Wz g va vb (.slice none 0 0) ds ts ∧ w1.heap.size ≤ g ∧ Below w1.heap.size w1 Wz ∧ (∀ q, va.ownBlock = some q → w1.heap.size ≤ q) ∧ ∀ q, vb.ownBlock = some q → w1.heap.size ≤ q) := ⟨_, v2, v4, rfl, ⟨rz, Iv2.later bz, Iv4.later bz, Lv2, Lv4⟩, h4.size, hz, Lov2, Lov4⟩
        clear rz hz bz hWz
        go_wp2
        go_meet
        case rel => exact RS.out
      · refine opValue (some 27) rfl rfl rfl _ _ (run_int0Op rfl) ?_
        obtain ⟨W5, g5, hW5, hg5⟩ : ∃ W5 g5, W5 = W1.alloc (.cells #[] 3) ∧ g5 = W1.heap.size := ⟨_, _, rfl, rfl⟩
        rw [← hW5, ← hg5]
        have b5 : Below W1.heap.size W1 W5 := by rw [hW5]; exact (Below.refl _ _).alloc (Nat.le_refl _) _
        have r5 : Row W5 g5 3 [] := by rw [hW5, hg5]; exact Row.new _ _ _
        have h5 : Below w1.heap.size w1 W5 := h1.trans (b5.mono h1.size)
        refine ⟨h5, ?_⟩
        have lg5 : w1.heap.size ≤ g5 := by rw [hg5]; exact h1.size
        clear hW5 hg5
        simp only [Act.put, List.setIfInBounds_toArray, List.set_cons_succ, List.set_cons_zero]
        have r1' : Row W5 g1 3 [] := r1.later b5 r1.lt
        clear r1
        have r1 := r1'
        clear r1'
        refine oneH (i := 3) (by kernel_rfl) ?_
        obtain ⟨v6, W6, ra6, Iv6, b6, Lxv6⟩ := app_ints2 22 g1 r1 (.slice pd nd cd) ds (HD1.out.later h5) (by have := HND.out; omega)
        have Lv6 : ∀ q, v6.ownBlock = some q → q < W6.heap.size := fun q hq => (Lxv6 q hq).2
        have Lov6 : ∀ q, v6.ownBlock = some q → w1.heap.size ≤ q := fun q hq => Nat.le_trans lg1 (Lxv6 q hq).1
        clear Lxv6
        refine opValue (some 26) rfl rfl rfl v6 W6 (run_appOp (.tmp 23) (.tmp 25) rfl _ _ _ rfl rfl ra6) ?_
        have h6 : Below w1.heap.size w1 W6 := h5.trans (b6.mono h5.size)
        refine ⟨h6, ?_⟩
        obtain ⟨Cv6, Hv6⟩ := Iv6.isSlice
        clear ra6
        simp only [Act.put, List.setIfInBounds_toArray, List.set_cons_succ, List.set_cons_zero]
        have r5' : Row W6 g5 3 [] := r5.later b6 r5.lt
        clear r5
        have r5 := r5'
        clear r5'
        refine oneH (i := 7) (by kernel_rfl) ?_
        obtain ⟨v7, W7, ra7, Iv7, b7, Lxv7⟩ := app_ints2 22 g5 r5 (.slice pt nt ct) ts (HT1.out.later h6) (by have := HNT.out; omega)
        have Lv7 : ∀ q, v7.ownBlock = some q → q < W7.heap.size := fun q hq => (Lxv7 q hq).2
        have Lov7 : ∀ q, v7.ownBlock = some q → w1.heap.size ≤ q := fun q hq => Nat.le_trans lg5 (Lxv7 q hq).1
        clear Lxv7
        refine opValue (some 30) rfl rfl rfl v7 W7 (run_appOp (.tmp 27) (.tmp 29) rfl _ _ _ rfl rfl ra7) ?_
        have h7 : Below w1.heap.size w1 W7 := h6.trans (b7.mono h6.size)
        refine ⟨h7, ?_⟩
        obtain ⟨Cv7, Hv7⟩ := Iv7.isSlice
        clear ra7
        simp only [Act.put, List.setIfInBounds_toArray, List.set_cons_succ, List.set_cons_zero]
        have Iv6' := Iv6.later b7
        clear Iv6
        have Iv6 := Iv6'
        clear Iv6'
        have Lv6' : ∀ q, v6.ownBlock = some q → q < W7.heap.size := fun q hq => Nat.lt_of_lt_of_le (Lv6 q hq) b7.size
        clear Lv6
        have Lv6 := Lv6'
        clear Lv6'
        refine takeH (i := 8) (some 31) rfl rfl (by kernel_rfl) (by kernel_rfl) (by kernel_rfl) (fun _ _ _ h => h) (yRunH rfl (.agg #[v6, v7]) (fun W' _ => run_build24Op (.tmp 26) (.tmp 30) rfl _ _ Cv6 Cv7 rfl rfl)) h7 ?_
        simp only [Act.put, List.setIfInBounds_toArray, List.set_cons_succ, List.set_cons_zero]
        refine takeH (i := 9) (some 32) rfl rfl (by kernel_rfl) (by kernel_rfl) (by kernel_rfl) (fun _ _ _ h => h) (yRunH rfl (.agg (refCells v6 v7 (.slice none 0 0)).toArray) (fun W' _ => run_build56Op (.tmp 31) rfl _ _ Hv6 Hv7 rfl)) h7 ?_
        simp only [Act.put, List.setIfInBounds_toArray, List.set_cons_succ, List.set_cons_zero]
        refine oneH (i := 10) (by kernel_rfl) ?_
        refine opValue (some 33) rfl rfl rfl _ _ (run_boxOp (.tmp 32) rfl (refCells v6 v7 (.slice none 0 0)) rfl) ?_
        obtain ⟨Wz, hWz⟩ : ∃ Wz, Wz = W7.alloc (.cells (refCells v6 v7 (.slice none 0 0)).toArray 56) := ⟨_, rfl⟩
        rw [← hWz]
        have bz : Below W7.heap.size W7 Wz := by rw [hWz]; exact (Below.refl _ _).alloc (Nat.le_refl _) _
        have rz : Row Wz W7.heap.size 56 (refCells v6 v7 (.slice none 0 0)) := by rw [hWz]; exact Row.new _ _ _
        have hz : Below w1.heap.size w1 Wz := h7.trans (bz.mono h7.size)
        refine ⟨hz, ?_⟩
        simp only [Act.put, List.setIfInBounds_toArray, List.set_cons_succ, List.set_cons_zero]
        refine takeH (i := 11) (some 5) rfl rfl (by kernel_rfl) (by kernel_rfl) (by kernel_rfl) (fun _ _ _ h => h) (yRunH rfl (ptr W7.heap.size) (fun W' _ => run_assignOp (.tmp 33) rfl _ rfl)) hz ?_
        simp only [Act.put, List.setIfInBounds_toArray, List.set_cons_succ, List.set_cons_zero]
        refine wpAnyH_done (by kernel_rfl) ?_ _
        have RS : Hid (∃ g va vb, ptr W7.heap.size = ptr g ∧ NewAt Wz g va vb (.slice none 0 0) ds ts ∧ w1.heap.size ≤ g ∧ Below w1.heap.size w1 Wz ∧ (∀ q, va.ownBlock = some q → w1.heap.size ≤ q) ∧ ∀ q, vb.ownBlock = some q → w1.heap.size ≤ q) := ⟨_, v6, v7, rfl, ⟨rz, Iv6.later bz, Iv7.later bz, Lv6, Lv7⟩, h7.size, hz, Lov6, Lov7⟩
        clear rz hz bz hWz
        go_wp2
        go_meet
        case rel => exact RS.out
    · refine opValue (some 27) rfl rfl rfl _ _ (run_int0Op rfl) ?_
      obtain ⟨W8, g8, hW8, hg8⟩ : ∃ W8 g8, W8 = W0.alloc (.cells #[] 3) ∧ g8 = W0.heap.size := ⟨_, _, rfl, rfl⟩
      rw [← hW8, ← hg8]
      have b8 : Below W0.heap.size W0 W8 := by rw [hW8]; exact (Below.refl _ _).alloc (Nat.le_refl _) _
      have r8 : Row W8 g8 3 [] := by rw [hW8, hg8]; exact Row.new _ _ _
      have h8 : Below w1.heap.size w1 W8 := hS.trans (b8.mono hS.size)
      refine ⟨h8, ?_⟩
      have lg8 : w1.heap.size ≤ g8 := by rw [hg8]; exact hS.size
      clear hW8 hg8
      simp only [Act.put, List.setIfInBounds_toArray, List.set_cons_succ, List.set_cons_zero]
      refine oneH (i := 0) (by kernel_rfl) ?_
      refine opValue (some 23) rfl rfl rfl _ _ (run_int0Op rfl) ?_
      obtain ⟨W9, g9, hW9, hg9⟩ : ∃ W9 g9, W9 = W8.alloc (.cells #[] 3) ∧ g9 = W8.heap.size := ⟨_, _, rfl, rfl⟩
      rw [← hW9, ← hg9]
      have b9 : Below W8.heap.size W8 W9 := by rw [hW9]; exact (Below.refl _ _).alloc (Nat.le_refl _) _
      have r9 : Row W9 g9 3 [] := by rw [hW9, hg9]; exact Row.new _ _ _
      have h9 : Below w1.heap.size w1 W9 := h8.trans (b9.mono h8.size)
      refine ⟨h9, ?_⟩
      have lg9 : w1.heap.size ≤ g9 := by rw [hg9]; exact h8.size
      clear hW9 hg9
      simp only [Act.put, List.setIfInBounds_toArray, List.set_cons_succ, List.set_cons_zero]
      have r8' : Row W9 g8 3 [] := r8.later b9 r8.lt
      clear r8
      have r8 := r8'
      clear r8'
      refine oneH (i := 3) (by kernel_rfl) ?_
      obtain ⟨v10, W10, ra10, Iv10, b10, Lxv10⟩ := app_ints2 22 g9 r9 (.slice pd nd cd) ds (HD1.out.later h9) (by have := HND.out; omega)
      have Lv10 : ∀ q, v10.ownBlock = some q → q < W10.heap.size := fun q hq => (Lxv10 q hq).2
      have Lov10 : ∀ q, v10.ownBlock = some q → w1.heap.size ≤ q := fun q hq => Nat.le_trans lg9 (Lxv10 q hq).1
      clear Lxv10
      refine opValue (some 26) rfl rfl rfl v10 W10 (run_appOp (.tmp 23) (.tmp 25) rfl _ _ _ rfl rfl ra10) ?_
      have h10 : Below w1.heap.size w1 W10 := h9.trans (b10.mono h9.size)
      refine ⟨h10, ?_⟩
      obtain ⟨Cv10, Hv10⟩ := Iv10.isSlice
      clear ra10
      simp only [Act.put, List.setIfInBounds_toArray, List.set_cons_succ, List.set_cons_zero]
      have r8' : Row W10 g8 3 [] := r8.later b10 r8.lt
      clear r8
      have r8 := r8'
      clear r8'
      refine oneH (i := 7) (by kernel_rfl) ?_
      obtain ⟨v11, W11, ra11, Iv11, b11, Lxv11⟩ := app_ints2 22 g8 r8 (.slice pt nt ct) ts (HT1.out.later h10) (by have := HNT.out; omega)
      have Lv11 : ∀ q, v11.ownBlock = some q → q < W11.heap.size := fun q hq => (Lxv11 q hq).2
      have Lov11 : ∀ q, v11.ownBlock = some q → w1.heap.size ≤ q := fun q hq => Nat.le_trans lg8 (Lxv11 q hq).1
      clear Lxv11
      refine opValue (some 30) rfl rfl rfl v11 W11 (run_appOp (.tmp 27) (.tmp 29) rfl _ _ _ rfl rfl ra11) ?_
      have h11 : Below w1.heap.size w1 W11 := h10.trans (b11.mono h10.size)
      refine ⟨h11, ?_⟩
      obtain ⟨Cv11, Hv11⟩ := Iv11.isSlice
      clear ra11
      simp only [Act.put, List.setIfInBounds_toArray, List.set_cons_succ, List.set_cons_zero]
      have Iv10' := Iv10.later b11
      clear Iv10
      have Iv10 := Iv10'
      clear Iv10'
      have Lv10' : ∀ q, v10.ownBlock = some q → q < W11.heap.size := fun q hq => Nat.lt_of_lt_of_le (Lv10 q hq) b11.size
      clear Lv10
      have Lv10 := Lv10'
      clear Lv10'
      refine takeH (i := 8) (some 31) rfl rfl (by kernel_rfl) (by kernel_rfl) (by kernel_rfl) (fun _ _ _ h => h) (yRunH rfl (.agg #[v10, v11]) (fun W' _ => run_build24Op (.tmp 26) (.tmp 30) rfl _ _ Cv10 Cv11 rfl rfl)) h11 ?_
      simp only [Act.put, List.setIfInBounds_toArray, List.set_cons_succ, List.set_cons_zero]
      refine takeH (i := 9) (some 32) rfl rfl (by kernel_rfl) (by kernel_rfl) (by kernel_rfl) (fun _ _ _ h => h) (yRunH rfl (.agg (refCells v10 v11 (.slice none 0 0)).toArray) (fun W' _ => run_build56Op (.tmp 31) rfl _ _ Hv10 Hv11 rfl)) h11 ?_
      simp only [Act.put, List.setIfInBounds_toArray, List.set_cons_succ, List.set_cons_zero]
      refine oneH (i := 10) (by kernel_rfl) ?_
      refine opValue (some 33) rfl rfl rfl _ _ (run_boxOp (.tmp 32) rfl (refCells v10 v11 (.slice none 0 0)) rfl) ?_
      obtain ⟨Wz, hWz⟩ : ∃ Wz, Wz = W11.alloc (.cells (refCells v10 v11 (.slice none 0 0)).toArray 56) := ⟨_, rfl⟩
      rw [← hWz]
      have bz : Below W11.heap.size W11 Wz := by rw [hWz]; exact (Below.refl _ _).alloc (Nat.le_refl _) _
      have rz : Row Wz W11.heap.size 56 (refCells v10 v11 (.slice none 0 0)) := by rw [hWz]; exact Row.new _ _ _
      have hz : Below w1.heap.size w1 Wz := h11.trans (bz.mono h11.size)
      refine ⟨hz, ?_⟩
      simp only [Act.put, List.setIfInBounds_toArray, List.set_cons_succ, List.set_cons_zero]
      refine takeH (i := 11) (some 5) rfl rfl (by kernel_rfl) (by kernel_rfl) (by kernel_rfl) (fun _ _ _ h => h) (yRunH rfl (ptr W11.heap.size) (fun W' _ => run_assignOp (.tmp 33) rfl _ rfl)) hz ?_
      simp only [Act.put, List.setIfInBounds_toArray, List.set_cons_succ, List.set_cons_zero]
      refine wpAnyH_done (by kernel_rfl) ?_ _
      have RS : Hid (∃ g va vb, ptr W11.heap.size = ptr g ∧ NewAt Wz g va vb (.slice none 0 0) ds ts ∧ w1.heap.size ≤ g ∧ Below w1.heap.size w1 Wz ∧ (∀ q, va.ownBlock = some q → w1.heap.size ≤ q) ∧ ∀ q, vb.ownBlock = some q → w1.heap.size ≤ q) := ⟨_, v10, v11, rfl, ⟨rz, Iv10.later bz, Iv11.later bz, Lv10, Lv11⟩, h11.size, hz, Lov10, Lov11⟩
      clear rz hz bz hWz
      go_wp2
      go_meet
      case rel => exact RS.out
  case rest =>
    obtain ⟨g, va, vb, rfl, hra, hwg, hbc, hla, hlb⟩ := hcut
    have HLO : Hid ((∀ q, va.ownBlock = some q → w1.heap.size ≤ q) ∧ ∀ q, vb.ownBlock = some q → w1.heap.size ≤ q) := ⟨hla, hlb⟩
    clear hla hlb
    obtain ⟨N, hN⟩ : ∃ N, N = nd + nt := ⟨_, rfl⟩
    have hN' : (nd : Int) + (nt : Int) = (N : Int) := by omega
    have hN12 : N ≤ 12 := by omega
    have HNN : Hid (N = nd + nt) := hN
    have HRA : Hid (NewAt wc g va vb (.slice none 0 0) ds ts) := hra
    have HBW : Hid (Below B w wc) := HB1.out.1.trans (hbc.mono (by have := HB1.out.2; omega))
    have HNpos : Hid (1 ≤ ds.length + ts.length) := by show _ ≤ _; have := HND.out; have := HNT.out; omega
    have HBC : Hid (Below w1.heap.size w1 wc) := hbc
    have HWG : Hid (w1.heap.size ≤ g) := hwg
    have HMo : Hid (∀ W : World, NewAt W g va vb (.slice none 0 0) ds ts → ∀ k, k < N → Calls Try.prog 39 #[ptr g, .int .i64 (k : Nat)] W fun e w' => e = .returned (.int .i64 ((ds ++ ts).getD k 0)) ∧ ∃ n, w' = W.drewN n) := by
      intro W hW k hk
      by_cases hkd : k < ds.length
      · have := refMost_disk (m := newPl ds ts) (wv := .slice none 0 0) ⟨0, fun h => absurd h (by show ¬ (0 : Int) ≤ -1; decide), hW.row⟩ hW.disks k hkd
        rw [show (ds ++ ts).getD k 0 = ds.getD k 0 by simp [List.getElem?_append_left hkd]]
        exact this
      · have hkt : k - ds.length < ts.length := by have := HND.out; have := HNT.out; omega
        have := refMost_tape (m := newPl ds ts) (wv := .slice none 0 0) ⟨0, fun h => absurd h (by show ¬ (0 : Int) ≤ -1; decide), hW.row⟩ hW.disks hW.tapes (k - ds.length) hkt
        rw [show ds.length + (k - ds.length) = k by omega] at this
        rw [show (ds ++ ts).getD k 0 = ts.getD (k - ds.length) 0 by simp [List.getElem?_append_right (Nat.le_of_not_lt hkd)]]
        exact this
    rw [hN']
    clear hra hbc hwg hN hN' h1 h2 t1 t1' t2 hl1 hl2
    go_wp2
    go_loopw [6] (fun i W => ∃ k : Nat, k ≤ N ∧ i = .int .i64 k ∧ (∀ j, j < k → 1 ≤ (ds ++ ts).getD j 0 ∧ (ds ++ ts).getD j 0 ≤ 4096) ∧ ∃ n, W = wc.drewN n) (fun i _ => N - (intOf i).toNat)
    case atStart => exact ⟨0, Nat.zero_le _, rfl, fun j hj => (by omega), 0, rfl⟩
    case round =>
      obtain ⟨k, hk, rfl, hgood, m, hW⟩ := hrel
      have HGD : Hid (∀ j, j < k → 1 ≤ (ds ++ ts).getD j 0 ∧ (ds ++ ts).getD j 0 ≤ 4096) := hgood
      have HWW : Hid (wr = wc.drewN m) := hW
      have HRW : Hid (NewAt wr g va vb (.slice none 0 0) ds ts) := by
        show NewAt _ _ _ _ _ _ _
        rw [hW]
        exact ⟨HRA.out.row, HRA.out.disks, HRA.out.tapes, HRA.out.lta, HRA.out.ltb⟩
      clear hgood hW
      by_cases hlt : k < N
      · obtain ⟨x, hx⟩ : ∃ x, (ds ++ ts).getD k 0 = x := ⟨_, rfl⟩
        have HX : Hid ((ds ++ ts).getD k 0 = x) := hx
        have HC1 : Hid (Calls Try.prog 39 #[ptr g, .int .i64 (k : Nat)] wr fun e w' => e = .returned (.int .i64 x) ∧ ∃ n, w' = wr.drewN n) := by
          show Calls _ _ _ _ _
          rw [← hx]
          exact HMo.out wr HRW.out k hlt
        have HC2 : Hid (∀ n, Calls Try.prog 39 #[ptr g, .int .i64 (k : Nat)] (wr.drewN n) fun e w' => e = .returned (.int .i64 x) ∧ ∃ n', w' = (wr.drewN n).drewN n') := by
          intro n
          rw [← hx]
          exact HMo.out (wr.drewN n) ⟨HRW.out.row, HRW.out.disks, HRW.out.tapes, HRW.out.lta, HRW.out.ltb⟩ k hlt
        have HBad : Hid (¬ (1 ≤ x ∧ x ≤ 4096) → shapeOk ds ts = false) := by
          intro hb
          · apply Classical.byContradiction
            intro hne
            have hok : shapeOk ds ts = true := by simpa using hne
            unfold shapeOk at hok
            simp only [Bool.and_eq_true, decide_eq_true_eq] at hok
            apply hb
            rw [← hx]
            by_cases hkd : k < ds.length
            · have := sizesOk_at hok.2.2.1 k hkd
              rw [show (ds ++ ts).getD k 0 = ds.getD k 0 by simp [List.getElem?_append_left hkd]]
              exact this
            · have hkt : k - ds.length < ts.length := by have := HND.out; have := HNT.out; have := HNN.out; omega
              have := sizesOk_at hok.2.2.2 _ hkt
              rw [show (ds ++ ts).getD k 0 = ts.getD (k - ds.length) 0 by simp [List.getElem?_append_right (Nat.le_of_not_lt hkd)]]
              exact this
        clear hx
        by_cases hx1 : x < 1
        · have e30 : Hid (shapeOk ds ts = false) := HBad.out (by omega)
          have t1 : decide (x < 1) = true := decide_eq_true hx1
          go_wp2_with (go_at_call 39; refine HC1.out.mono ?_; rintro e w' ⟨rfl, n, rfl⟩)
          go_ret2
          exact ⟨HBAD.out _ e30.out (by rw [HWW.out]; exact Below.drewN (Below.drewN HBW.out _) _), trivial⟩
        · have t1 : decide (x < 1) = false := decide_eq_false hx1
          by_cases hx2 : 4096 < x
          · have e30 : Hid (shapeOk ds ts = false) := HBad.out (by omega)
            have t2 : decide (4096 < x) = true := decide_eq_true hx2
            go_wp2_with (first | (go_at_call 39; refine HC1.out.mono ?_; rintro e w' ⟨rfl, n, rfl⟩) | (go_at_call 39; refine (HC2.out n).mono ?_; rintro e w' ⟨rfl, n2, rfl⟩))
            go_ret2
            exact ⟨HBAD.out _ e30.out (by rw [HWW.out]; exact Below.drewN (Below.drewN HBW.out _) _), trivial⟩
          · have t2 : decide (4096 < x) = false := decide_eq_false hx2
            go_wp2_with (first | (go_at_call 39; refine HC1.out.mono ?_; rintro e w' ⟨rfl, n, rfl⟩) | (go_at_call 39; refine (HC2.out n).mono ?_; rintro e w' ⟨rfl, n2, rfl⟩))
            refine ⟨⟨k + 1, by omega, by go_num, fun j hj => ?_, m + (n + n2), by rw [HWW.out, World.drewN_drewN]⟩, ?_⟩
            · by_cases hjk : j = k
              · subst hjk
                rw [HX.out]
                omega
              · exact HGD.out j (by omega)
            · simp [intOf]; omega
      · obtain rfl : N = k := by omega
        have HOK : Hid (shapeOk ds ts = true) := by
          · show shapeOk ds ts = true
            unfold shapeOk
            have h1 := HND.out
            have h2 := HNT.out
            have h3 := HNN.out
            have hs1 : sizesOk ds = true := List.all_eq_true.2 fun x hx => by
              obtain ⟨j, hj, rfl⟩ := List.getElem_of_mem hx
              have := HGD.out j (by omega)
              rw [show (ds ++ ts).getD j 0 = ds[j] by simp [List.getElem?_append_left hj, hj]] at this
              simp [this.1, this.2]
            have hs2 : sizesOk ts = true := List.all_eq_true.2 fun x hx => by
              obtain ⟨j, hj, rfl⟩ := List.getElem_of_mem hx
              have := HGD.out (ds.length + j) (by omega)
              rw [show (ds ++ ts).getD (ds.length + j) 0 = ts[j] by simp [hj]] at this
              simp [this.1, this.2]
            rw [hs1, hs2, decide_eq_true (by have := HNpos.out; omega : 1 ≤ ds.length + ts.length), decide_eq_true (by omega : ds.length + ts.length ≤ 12)]
            rfl
        obtain ⟨wd, rfl⟩ : ∃ wd, wd = wr := ⟨_, rfl⟩
        have HBD : Hid (Below B w wd) := by show Below _ _ _; rw [HWW.out]; exact Below.drewN HBW.out _
        have HRB : Hid (Row wd B 24 [.slice pd nd cd, .slice pt nt ct]) := by
          show Row _ _ _ _
          rw [HWW.out]
          exact Row.drewN (HR1.out.later HBC.out (by have := HB1.out.2; omega)) _
        have HGC : Hid (B < g ∧ g < wd.heap.size) := ⟨by have := HB1.out.2; have := HWG.out; omega, HRW.out.row.lt⟩
        have HGD' : Hid (∀ j, j < nd → 1 ≤ ds.getD j 0 ∧ ds.getD j 0 ≤ 4096) := fun j hj => by
          have h1 := HND.out
          have := HGD.out j (by have := HNN.out; omega)
          rw [show (ds ++ ts).getD j 0 = ds.getD j 0 by simp [List.getElem?_append_left (show j < ds.length by omega)]] at this
          exact this
        have HIA : Hid (IntsIn wd va ds ∧ IntsIn wd vb ts ∧ (∀ q, va.ownBlock = some q → w1.heap.size ≤ q ∧ q < g) ∧ (∀ q, vb.ownBlock = some q → w1.heap.size ≤ q ∧ q < g) ∧ Row wd g 56 (refCells va vb (.slice none 0 0)) ∧ Below w1.heap.size w1 wd) := by
          refine ⟨HRW.out.disks, HRW.out.tapes, fun q hq => ⟨HLO.out.1 q hq, HRW.out.lta q hq⟩, fun q hq => ⟨HLO.out.2 q hq, HRW.out.ltb q hq⟩, HRW.out.row, ?_⟩
          rw [HWW.out]
          exact Below.drewN HBC.out _
        have HNI : Hid (∃ c', NewI w1 c1 t va vb ds ts g 0 (.slice none 0 0) wd c') := by
          obtain ⟨h1, h2, h3, h4, h5, h6⟩ := HIA.out
          have hwg := HWG.out
          obtain ⟨c2, hc2⟩ : ∃ c2 : Nat → Colour, c2 = fun b => if b < w1.heap.size then c1 b else if b = g then (t, 0) else if va.ownBlock = some b ∨ vb.ownBlock = some b then (1, 0) else (t + 1, 0) := ⟨_, rfl⟩
          have ca : ∀ b, va.ownBlock = some b → b < wd.heap.size ∧ (c2 b).1 = 1 := fun b hb => ⟨Nat.lt_trans (h3 b hb).2 h5.lt, by rw [hc2]; dsimp only; rw [if_neg (by have := (h3 b hb).1; omega), if_neg (by have := (h3 b hb).2; omega), if_pos (Or.inl hb)]⟩
          have cb : ∀ b, vb.ownBlock = some b → b < wd.heap.size ∧ (c2 b).1 = 1 := fun b hb => ⟨Nat.lt_trans (h4 b hb).2 h5.lt, by rw [hc2]; dsimp only; rw [if_neg (by have := (h4 b hb).1; omega), if_neg (by have := (h4 b hb).2; omega), if_pos (Or.inr hb)]⟩
          have hlt5 := h5.lt
          refine ⟨c2, ⟨fun b hb => by rw [hc2]; exact if_pos hb, fun b hb => ?_, fun b hb => ?_, h6, ?_, ⟨by rw [hc2]; dsimp only; rw [if_neg (by omega), if_pos rfl], hwg⟩, ⟨⟨[], World.ownsRow_nil _ _ _ _, fun j hj => by omega⟩, fun b hb => by cases hb⟩, fun b hb => by cases hb⟩, ⟨h1, ca⟩, ⟨h2, cb⟩⟩
          · rw [hc2]
            dsimp only
            rw [if_neg (by omega)]
            split
            · exact Or.inl rfl
            · split
              · exact Or.inr (Or.inr rfl)
              · exact Or.inr (Or.inl rfl)
          · have hsz := h6.size
            rw [hc2]
            dsimp only
            rw [if_neg (by omega), if_neg (by omega), if_neg (by rintro (e | e); exact absurd (ca b e).1 (by omega); exact absurd (cb b e).1 (by omega))]
          · exact h5
        have HGOOD : Hid (∀ W c' hv, NewI w1 c1 t va vb ds ts g N hv W c' → RES (.returned (.tuple #[ptr g, .int .i64 0])) W) := fun W c' hv hN => by
          rw [HRES.out]
          obtain ⟨⟨n1, n2, n3, n4, hG, ⟨hcG, hGw⟩, hH, o4⟩, hA, hB⟩ := hN
          have hb1 := HB1.out
          refine Or.inr ⟨HOK.out, g, c', rfl, by omega, fun b hb => ?_, fun b hb => ?_, n3, ⟨⟨va, vb, hv, .slice none 0 0, ds, ts, ⟨0, fun h => absurd h (by show ¬ (0 : Int) ≤ -1; decide), hG⟩, hcG, hA, hB, ⟨rfl, fun x hx => ?_, fun x hx => ?_⟩, ?_, ⟨⟨fun _ => undef, World.ownsRow_nil _ _ _ _, fun i hi => absurd hi (Nat.not_lt_zero _)⟩, fun b hb => by cases hb⟩⟩, newPl_wf ds ts HOK.out, fun b hb => ?_⟩, hb1.1.trans (n4.mono (by omega))⟩
          · rw [n1 b (by omega)]; exact HC1c.out.1 b hb
          · rcases Nat.lt_or_ge b w1.heap.size with h' | h'
            · rw [n1 b h', HC1c.out.2 b hb]; exact Or.inr (Or.inl rfl)
            · exact n2 b h'
          · have hok := HOK.out
            unfold shapeOk sizesOk at hok
            simp only [Bool.and_eq_true, List.all_eq_true, decide_eq_true_eq] at hok
            have := hok.2.2.1 x hx
            omega
          · have hok := HOK.out
            unfold shapeOk sizesOk at hok
            simp only [Bool.and_eq_true, List.all_eq_true, decide_eq_true_eq] at hok
            have := hok.2.2.2 x hx
            omega
          · rw [newPl_n, ← HND.out, ← HNT.out, ← HNN.out]; exact hH
          · rw [n3 b hb]; omega
        have HND2 : Hid (nd = ds.length ∧ nt = ts.length ∧ N = nd + nt) := ⟨HND.out, HNT.out, HNN.out⟩
        clear HGD HWW HMo hlt hk HRES HBAD HBW HBD HRB HRW HRA
        go_wp2
        go_loopw [7] (fun i W => ∃ k : Nat, k ≤ N ∧ i = .int .i64 k ∧ ∃ hv c', NewI w1 c1 t va vb ds ts g k hv W c') (fun i _ => N - (intOf i).toNat)
        case atStart => exact ⟨0, Nat.zero_le _, rfl, _, HNI.out⟩
        case round =>
          obtain ⟨k, hk, rfl, hv, c', hK⟩ := hrel
          have HK : Hid (NewI w1 c1 t va vb ds ts g k hv wr c') := hK
          clear hK HNI
          by_cases hlt : k < N
          · go_wp2
            go_loopw [8, 9] (fun l i W => ∃ j : Nat, j ≤ 4096 ∧ i = .int .i64 j ∧ (if k < nd then (j : Int) ≤ ds.getD k 0 else j = 0) ∧ ∃ ys c', SecsP w1 c1 t va vb ds ts g k hv l j ys W c') (fun _ i _ => 4096 - (intOf i).toNat)
            case atStart => exact ⟨0, Nat.zero_le _, rfl, by split; exact (by have := HGD'.out k (by assumption); omega); rfl, [], c', World.ownsRow_nil _ _ _ _, fun b hb => (by cases hb), fun i hi => (by omega), HK.out⟩
            case round =>
              obtain ⟨j, hj, rfl, hjk, ys, c2, hP⟩ := hrel
              have HP : Hid (SecsP w1 c1 t va vb ds ts g k hv u8 j ys wr c2) := hP
              have HJK : Hid (if k < nd then (j : Int) ≤ ds.getD k 0 else j = 0) := hjk
              have hb1 := hP.2.2.2.1.2.2.2.1
              have kB := (HR1.out.later hb1 HR1.out.lt).at 0 _ rfl
              clear hP hb1 hjk
              by_cases hkd : k < nd
              · obtain ⟨hx1, hx2⟩ := HGD'.out k hkd
                obtain ⟨x, hx⟩ : ∃ x, ds.getD k 0 = x := ⟨_, rfl⟩
                have HX : Hid (ds.getD k 0 = x) := hx
                rw [hx] at hx1 hx2
                have HI : Hid (IntsIn wr (.slice pd nd cd) ds ∧ k < ds.length) := ⟨HD1.out.later HP.out.2.2.2.1.2.2.2.1, by rw [← HND.out]; exact hkd⟩
                have hjx' : (j : Int) ≤ x := by have := HJK.out; rw [if_pos hkd, hx] at this; exact this
                clear hx
                by_cases hjx : (j : Int) < x
                · have t3 : decide ((j : Int) < x) = true := decide_eq_true hjx
                  go_wp2_with (first
                    | (refine wpList_indexInts (.tmp 62) (.tmp 63) rfl rfl (.slice pd nd cd) ds rfl HI.out.1 k HI.out.2 _ rfl rfl ?_; intro bq jq kC; rw [HX.out] at kC)
                    | (refine wpList_make64 (.const (.int .i64 64)) (.const (.int .i64 64)) rfl rfl rfl rfl ?_; intro w3 r3 s3 b3; have B3 : Hid (Row w3 wr.heap.size 5 (zerosU8 64) ∧ w3.heap.size = wr.heap.size + 1 ∧ Below wr.heap.size wr w3) := ⟨r3, s3, b3⟩; clear r3 s3 b3)
                    | (refine wpList_lit57 (.tmp 71) rfl rfl _ ⟨_, _, _, rfl⟩ rfl ?_; intro w4 r4 b4; have R4 : Hid (Row w4 w3.heap.size 40 [.slice (some ⟨wr.heap.size, 0, none⟩) 64 64] ∧ Below w3.heap.size w3 w4) := ⟨r4, b4⟩; clear r4 b4)
                    | (refine wl_app1 Try.underlying57 info40 (.tmp 70) (.tmp 72) rfl rfl u8 j ys rfl (own_later (own_later HP.out.1 B3.out.2.2) R4.out.2) w3.heap.size _ rfl R4.out.1 rfl (by omega) ?_; intro v5 w5 o5 g5 h5; have O5 : Hid (∃ c2, SecsP w1 c1 t va vb ds ts g k hv v5 (j + 1) (ys ++ [.slice (some ⟨wr.heap.size, 0, none⟩) 64 64]) w5 c2) := sec_step HP.out ht0 B3.out.1 B3.out.2.1 B3.out.2.2 R4.out.2 o5 g5 h5; clear o5 g5 h5))
                  refine ⟨⟨j + 1, by omega, by go_num, by rw [if_pos hkd, HX.out]; omega, _, O5.out⟩, ?_⟩
                  simp [intOf]; omega
                · have t3 : decide ((j : Int) < x) = false := decide_eq_false hjx
                  obtain ⟨b5, v5, W5, hr5, hv5, hG5, hB5, c5, hC5, hk5⟩ := new_chainN HP.out.2.2.2.1 ht1 ht0 (by omega) u8 ys (by rw [newPl_fl_disk ds ts k (by rw [← HND.out]; exact hkd), List.length_replicate, HX.out, show x.toNat = j by omega]; exact HP.out.1) (fun i hi => by
                    rw [newPl_fl_disk ds ts k (by rw [← HND.out]; exact hkd)] at hi ⊢
                    rw [List.length_replicate, HX.out] at hi
                    rw [List.getD_eq_getElem?_getD (l := List.replicate _ _), List.getElem?_replicate, if_pos (by rw [HX.out]; exact hi)]
                    exact HP.out.2.2.1 i (by omega)) HP.out.2.1
                  have hsz5 : wr.heap.size ≤ (W5.setCell ⟨g, 2, none⟩ v5).heap.size := hk5.2
                  have HI5 : Hid (∃ hv c', NewI w1 c1 t va vb ds ts g (k + 1) hv (W5.setCell ⟨g, 2, none⟩ v5) c') := ⟨v5, c5, hC5, HP.out.2.2.2.2.1.keep (fun b hb he => hk5.1 b hb he) hsz5, HP.out.2.2.2.2.2.keep (fun b hb he => hk5.1 b hb he) hsz5⟩
                  have HR5 : Hid ((Builtin.append_ #[53, 53] 53 #[hv, .slice (some ⟨wr.heap.size, 0, none⟩) 1 1]).run Try.prog (wr.alloc (.cells #[u8] 57)) = .ok v5 W5) := hr5
                  have HV5 : Hid (v5.cells = #[v5] ∧ v5.oneCell' = true) := hv5
                  have HG5 : Hid (Row W5 g 56 (rcells va vb hv (.slice none 0 0) (!(newPl ds ts).on) (decide (0 ≤ (newPl ds ts).fuse)) 0 ((newPl ds ts).steps : Nat) (newPl ds ts).clock)) := hG5
                  have kH := HP.out.2.2.2.1.2.2.2.2.1.at 2 _ rfl
                  have HUS : Hid (∃ p n c, u8 = .slice p n c) := own_isSlice HP.out.1
                  clear hr5 hv5 hG5 hB5 hC5 hk5 hsz5
                  go_upto_region 18 with (refine wpList_indexInts (.tmp 62) (.tmp 63) rfl rfl (.slice pd nd cd) ds rfl HI.out.1 k HI.out.2 _ rfl rfl ?_; intro bq jq kC; rw [HX.out] at kC)
                  refine wp_region_lit ?_
                  refine wl_mv (.tmp 5) rfl rfl (ptr g) rfl ?_
                  simp only [Act.put, List.setIfInBounds_toArray, List.set_cons_succ, List.set_cons_zero]
                  refine wl_mv (.tmp 5) rfl rfl (ptr g) rfl ?_
                  simp only [Act.put, List.setIfInBounds_toArray, List.set_cons_succ, List.set_cons_zero]
                  refine wl_nil (.tmp 75) rfl rfl ⟨g, 0, none⟩ rfl ?_
                  simp only [Act.put, List.setIfInBounds_toArray, List.set_cons_succ, List.set_cons_zero]
                  refine wl_fld f56_1 (.tmp 76) rfl rfl g 0 rfl ?_
                  simp only [Act.put, List.setIfInBounds_toArray, List.set_cons_succ, List.set_cons_zero]
                  refine wl_ld one53 (.tmp 77) rfl rfl g (0 + 2) rfl hv kH ?_
                  simp only [Act.put, List.setIfInBounds_toArray, List.set_cons_succ, List.set_cons_zero]
                  refine wl_mv (.tmp 8) rfl rfl u8 rfl ?_
                  simp only [Act.put, List.setIfInBounds_toArray, List.set_cons_succ, List.set_cons_zero]
                  refine wl rfl _ _ (run_lit53 (.tmp 79) rfl u8 HUS.out rfl) ?_
                  simp only [Act.put, List.setIfInBounds_toArray, List.set_cons_succ, List.set_cons_zero]
                  refine wl_app (.tmp 78) (.tmp 80) rfl rfl hv _ v5 rfl rfl HR5.out ?_
                  simp only [Act.put, List.setIfInBounds_toArray, List.set_cons_succ, List.set_cons_zero]
                  refine wl_nil (.tmp 74) rfl rfl ⟨g, 0, none⟩ rfl ?_
                  simp only [Act.put, List.setIfInBounds_toArray, List.set_cons_succ, List.set_cons_zero]
                  refine wl_fld f56_1 (.tmp 82) rfl rfl g 0 rfl ?_
                  simp only [Act.put, List.setIfInBounds_toArray, List.set_cons_succ, List.set_cons_zero]
                  refine wl_put size53 (.tmp 83) (.tmp 81) rfl rfl rfl g 2 56 _ rfl v5 rfl HV5.out HG5.out (by show 2 < 9; decide) ?_
                  refine wpList_nil ?_
                  generalize W5.setCell ⟨g, 2, none⟩ v5 = W6 at HI5 ⊢
                  simp only [Nat.zero_add]
                  go_wp2_with fail
                  refine ⟨⟨k + 1, by omega, by go_num, HI5.out⟩, ?_⟩
                  simp [intOf]; omega
              · have t3 : decide ((k : Int) < (nd : Int)) = false := by simp; omega
                have hj0 : j = 0 := by have := HJK.out; rw [if_neg hkd] at this; exact this
                obtain ⟨b5, v5, W5, hr5, hv5, hG5, hB5, c5, hC5, hk5⟩ := new_chainN HP.out.2.2.2.1 ht1 ht0 (by omega) u8 ys (by rw [newPl_fl_tape ds ts k (by have := HND2.out; omega) (by have := HND2.out; omega), List.length_nil]; have hq := HP.out.1; rw [hj0] at hq; exact hq) (fun i hi => by
                    rw [newPl_fl_tape ds ts k (by have := HND2.out; omega) (by have := HND2.out; omega), List.length_nil] at hi
                    exact absurd hi (Nat.not_lt_zero _)) HP.out.2.1
                have hsz5 : wr.heap.size ≤ (W5.setCell ⟨g, 2, none⟩ v5).heap.size := hk5.2
                have HI5 : Hid (∃ hv c', NewI w1 c1 t va vb ds ts g (k + 1) hv (W5.setCell ⟨g, 2, none⟩ v5) c') := ⟨v5, c5, hC5, HP.out.2.2.2.2.1.keep (fun b hb he => hk5.1 b hb he) hsz5, HP.out.2.2.2.2.2.keep (fun b hb he => hk5.1 b hb he) hsz5⟩
                have HR5 : Hid ((Builtin.append_ #[53, 53] 53 #[hv, .slice (some ⟨wr.heap.size, 0, none⟩) 1 1]).run Try.prog (wr.alloc (.cells #[u8] 57)) = .ok v5 W5) := hr5
                have HV5 : Hid (v5.cells = #[v5] ∧ v5.oneCell' = true) := hv5
                have HG5 : Hid (Row W5 g 56 (rcells va vb hv (.slice none 0 0) (!(newPl ds ts).on) (decide (0 ≤ (newPl ds ts).fuse)) 0 ((newPl ds ts).steps : Nat) (newPl ds ts).clock)) := hG5
                have kH := HP.out.2.2.2.1.2.2.2.2.1.at 2 _ rfl
                have HUS : Hid (∃ p n c, u8 = .slice p n c) := own_isSlice HP.out.1
                clear hr5 hv5 hG5 hB5 hC5 hk5 hsz5
                go_upto_region 18 with fail
                refine wp_region_lit ?_
                refine wl_mv (.tmp 5) rfl rfl (ptr g) rfl ?_
                simp only [Act.put, List.setIfInBounds_toArray, List.set_cons_succ, List.set_cons_zero]
                refine wl_mv (.tmp 5) rfl rfl (ptr g) rfl ?_
                simp only [Act.put, List.setIfInBounds_toArray, List.set_cons_succ, List.set_cons_zero]
                refine wl_nil (.tmp 75) rfl rfl ⟨g, 0, none⟩ rfl ?_
                simp only [Act.put, List.setIfInBounds_toArray, List.set_cons_succ, List.set_cons_zero]
                refine wl_fld f56_1 (.tmp 76) rfl rfl g 0 rfl ?_
                simp only [Act.put, List.setIfInBounds_toArray, List.set_cons_succ, List.set_cons_zero]
                refine wl_ld one53 (.tmp 77) rfl rfl g (0 + 2) rfl hv kH ?_
                simp only [Act.put, List.setIfInBounds_toArray, List.set_cons_succ, List.set_cons_zero]
                refine wl_mv (.tmp 8) rfl rfl u8 rfl ?_
                simp only [Act.put, List.setIfInBounds_toArray, List.set_cons_succ, List.set_cons_zero]
                refine wl rfl _ _ (run_lit53 (.tmp 79) rfl u8 HUS.out rfl) ?_
                simp only [Act.put, List.setIfInBounds_toArray, List.set_cons_succ, List.set_cons_zero]
                refine wl_app (.tmp 78) (.tmp 80) rfl rfl hv _ v5 rfl rfl HR5.out ?_
                simp only [Act.put, List.setIfInBounds_toArray, List.set_cons_succ, List.set_cons_zero]
                refine wl_nil (.tmp 74) rfl rfl ⟨g, 0, none⟩ rfl ?_
                simp only [Act.put, List.setIfInBounds_toArray, List.set_cons_succ, List.set_cons_zero]
                refine wl_fld f56_1 (.tmp 82) rfl rfl g 0 rfl ?_
                simp only [Act.put, List.setIfInBounds_toArray, List.set_cons_succ, List.set_cons_zero]
                refine wl_put size53 (.tmp 83) (.tmp 81) rfl rfl rfl g 2 56 _ rfl v5 rfl HV5.out HG5.out (by show 2 < 9; decide) ?_
                refine wpList_nil ?_
                generalize W5.setCell ⟨g, 2, none⟩ v5 = W6 at HI5 ⊢
                simp only [Nat.zero_add]
                go_wp2_with fail
                refine ⟨⟨k + 1, by omega, by go_num, HI5.out⟩, ?_⟩
                simp [intOf]; omega
          · obtain rfl : N = k := by omega
            go_wp2
            go_ret2
            exact ⟨HGOOD.out _ _ _ HK.out, trivial⟩
end Go.Proofs.Ytdddfjkecmnggaa

/- verify.parted. -/
import Derived.Test.YtjdmpanemdhbbaaDoorWay
namespace Go.Proofs.YtjdmpanemdhbbaaDoor
open Go.RowKit
set_option maxHeartbeats 1000000 in
set_option maxRecDepth 100000 in
theorem parted_any (v : Value) (hs : List (List Nat)) (w : World) (h : HIn w v hs) (h0 : hs.length ≠ 0) :
    Calls Tryd.prog 24 #[v] w fun e w' => ∃ v', e = .returned (.tuple #[hv (Tree.lastOf hs), v']) ∧ HIn w v' (Tree.othersOf hs) ∧ Below w.heap.size w w' := by
  have hmax := h.max
  obtain ⟨N, hN⟩ : ∃ N, hs.length = N + 1 := ⟨hs.length - 1, by omega⟩
  have HN : Hid (hs.length = N + 1) := hN
  have hNm : N + 1 ≤ 9223372036854775807 := by omega
  obtain ⟨p, r1, a1⟩ := run_hindex h N (by omega)
  obtain ⟨vo, r2, a2⟩ := run_hto h N (by omega)
  have HP : Hid ((∀ w', (Instr.indexAt 24 v (.int .i64 (N : Nat))).run Tryd.prog w' = .ok p w') ∧ HAt w p (Tree.lastOf hs)) := ⟨r1, by unfold Tree.lastOf; rw [hN]; exact a1⟩
  have HO : Hid ((∀ w', (Instr.slice 24 v none (some (.int .i64 (N : Nat))) none).run Tryd.prog w' = .ok vo w') ∧ HIn w vo (Tree.othersOf hs)) := ⟨r2, by unfold Tree.othersOf; rw [hN]; exact a2⟩
  clear r1 a1 r2 a2 hN h0
  generalize Tree.lastOf hs = x at HP ⊢
  generalize Tree.othersOf hs = ys at HO ⊢
  obtain ⟨g0, hg0⟩ : ∃ g0, g0 = w.heap.size := ⟨_, rfl⟩
  have G0 : Hid (g0 = w.heap.size) := hg0
  go_enter Tryd.func24, Tryd.ntmps24
  go_wp2_with (first
    | (refine wl_alloc rfl rfl ?_; rw [← hg0]; intro w1 r1 s1 b1; have R1 : Hid (HIs w1 g0 noH ∧ w1.heap.size = g0 + 1 ∧ Below g0 w w1) := ⟨r1, s1, b1⟩; clear r1 s1 b1 hg0)
    | (refine wl_lenN (.tmp 5) rfl rfl v hs rfl h (N + 1) HN.out ?_))
  refine wp_region_held (S := fun W => Below w.heap.size w W) (by kernel_rfl) ?_
  show wpAnyH _ _ _ _ _ 9 (Array.replicate 9 false) _ _
  have hS : Below w.heap.size w { w1 with drawn := w1.drawn + 1 } := below_append (G0.out ▸ R1.out.2.2) (below_drawn w1 _)
  refine takeH (i := 0) (some 8) rfl rfl (by kernel_rfl) (by kernel_rfl) (by kernel_rfl) (fun _ _ _ h => h) (yMove rfl (.tmp 0) rfl v rfl) hS ?_
  simp only [Act.put, List.setIfInBounds_toArray, List.set_cons_succ, List.set_cons_zero]
  refine takeH (i := 1) (some 9) rfl rfl (by kernel_rfl) (by kernel_rfl) (by kernel_rfl) (fun _ _ _ h => h) (yMove rfl (.tmp 4) rfl (.int .i64 (N : Nat)) rfl) hS ?_
  simp only [Act.put, List.setIfInBounds_toArray, List.set_cons_succ, List.set_cons_zero]
  refine takeH (i := 2) (some 10) rfl rfl (by kernel_rfl) (by kernel_rfl) (by kernel_rfl) (fun _ _ _ h => h) (yIndex rfl (.tmp 8) (.tmp 9) rfl v p rfl _ rfl HP.out.1) hS ?_
  simp only [Act.put, List.setIfInBounds_toArray, List.set_cons_succ, List.set_cons_zero]
  refine takeH (i := 3) (some 11) rfl rfl (by kernel_rfl) (by kernel_rfl) (by kernel_rfl) (fun _ _ _ h => h) (yLoad rfl (.tmp 10) rfl p rfl x (fun W hW => HP.out.2.later hW)) hS ?_
  simp only [Act.put, List.setIfInBounds_toArray, List.set_cons_succ, List.set_cons_zero]
  refine takeH (i := 4) (some 12) rfl rfl (by kernel_rfl) (by kernel_rfl) (by kernel_rfl) (fun _ _ _ h => h) (yMove rfl (.tmp 0) rfl v rfl) hS ?_
  simp only [Act.put, List.setIfInBounds_toArray, List.set_cons_succ, List.set_cons_zero]
  refine takeH (i := 5) (some 13) rfl rfl (by kernel_rfl) (by kernel_rfl) (by kernel_rfl) (fun _ _ _ h => h) (yMove rfl (.tmp 4) rfl (.int .i64 (N : Nat)) rfl) hS ?_
  simp only [Act.put, List.setIfInBounds_toArray, List.set_cons_succ, List.set_cons_zero]
  refine takeH (i := 6) (some 14) rfl rfl (by kernel_rfl) (by kernel_rfl) (by kernel_rfl) (fun _ _ _ h => h) (ySub rfl (.tmp 12) none (some (.tmp 13)) rfl v vo rfl HO.out.1) hS ?_
  simp only [Act.put, List.setIfInBounds_toArray, List.set_cons_succ, List.set_cons_zero]
  have HX : Hid (IsH x) := HP.out.2.1
  refine oneH (i := 7) (by kernel_rfl) ?_
  refine opSkip rfl rfl rfl _ (rx_store (.tmp 2) (.tmp 11) rfl g0 rfl noH x HX.out rfl R1.out.1) ?_
  have o6 : Only g0 { w1 with drawn := w1.drawn + 1 } ({ w1 with drawn := w1.drawn + 1 }.setRow g0 (bcells x).toArray) := (Only.refl g0 _).setRow _
  have hS' : Below w.heap.size w ({ w1 with drawn := w1.drawn + 1 }.setRow g0 (bcells x).toArray) := hS.trans (o6.below (by rw [G0.out]; exact Nat.le_refl _) hS.size)
  have R7 : Hid (HIs ({ w1 with drawn := w1.drawn + 1 }.setRow g0 (bcells x).toArray) g0 x ∧ Below w.heap.size w ({ w1 with drawn := w1.drawn + 1 }.setRow g0 (bcells x).toArray)) := ⟨his_store (w := { w1 with drawn := w1.drawn + 1 }) HX.out (h := noH) R1.out.1, hS'⟩
  refine ⟨hS', ?_⟩
  clear hS o6
  generalize { w1 with drawn := w1.drawn + 1 }.setRow g0 (bcells x).toArray = w7 at R7 hS' ⊢
  refine takeH (i := 8) (some 3) rfl rfl (by kernel_rfl) (by kernel_rfl) (by kernel_rfl) (fun _ _ _ h => h) (yAssign rfl (.tmp 14) rfl vo rfl) hS' ?_
  simp only [Act.put, List.setIfInBounds_toArray, List.set_cons_succ, List.set_cons_zero]
  refine wpAnyH_done (by kernel_rfl) ?_ _
  clear hS'
  go_wp2_with fail
  exact bodyPost_ret (results_HB Tryd.results24 _ _ g0 rfl _ R7.out.1 vo rfl) rfl ⟨_, rfl, HO.out.2, R7.out.2⟩
end Go.Proofs.YtjdmpanemdhbbaaDoor

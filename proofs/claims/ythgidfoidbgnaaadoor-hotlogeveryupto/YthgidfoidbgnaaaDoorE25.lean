/- Layer 14: is that a place of the disk? -/
import Derived.Test.YthgidfoidbgnaaaDoorE24
namespace Go.Proofs.YthgidfoidbgnaaaDoor
open Go.RowKit Go.Maps


/-- is that a place of the disk? -/
def isPl (d k : Nat) (dv at_ ln : Int) : Bool := decide (dv = (d : Int) ∧ 1 ≤ ln ∧ ln ≤ 16 ∧ 0 ≤ at_ ∧ at_ / 16 < (k : Int) ∧ at_ % 16 + ln ≤ 16)
def I64 (z : Int) : Prop := -9223372036854775808 ≤ z ∧ z ≤ 9223372036854775807
set_option maxHeartbeats 4000000 in
set_option maxRecDepth 100000 in
theorem isPlace_any {w : World} {gh gp gf gm d n : Nat} {fr : List Nat} {f : Int → Option Int} (h : HotM w gh gp gf gm d n fr f) (dv at_ ln : Int) (bd : Bool) (ha : I64 at_) (hk : fr.length ≤ 1000) : Calls Tryd.prog 35 #[ptr gh, .agg (plC dv at_ ln bd).toArray] w fun e w' => e = .returned (.bool (isPl d fr.length dv at_ ln)) ∧ Below w.heap.size w w' := by
 have HM : Hid (HotM w gh gp gf gm d n fr f) := h
 have HK : Hid (fr.length ≤ 1000 ∧ I64 at_) := ⟨hk, ha⟩
 clear h hk ha
 obtain ⟨PQ, HPQ⟩ := exPQ fun (e : Ending) (w' : World) => e = .returned (.bool (isPl d fr.length dv at_ ln)) ∧ Below w.heap.size w w'
 rw [← HPQ.out]
 go_enter Tryd.func35, Tryd.ntmps35
 go_upto_region 0 with fail
 refine wp_region_lit ?_
 refine wl rfl (ptr w.heap.size) _ (run_boxA (.tmp 1) rfl (plC dv at_ ln bd) rfl) ?_
 have hb_ := below_alloc w (.cells (plC dv at_ ln bd).toArray 30)
 have r_ := Row.new w 30 (plC dv at_ ln bd)
 obtain ⟨w1, hW_⟩ : ∃ W, W = w.alloc (.cells (plC dv at_ ln bd).toArray 30) := ⟨_, rfl⟩
 obtain ⟨q, hq_⟩ : ∃ q, q = w.heap.size := ⟨_, rfl⟩
 rw [← hW_] at hb_
 rw [← hW_, ← hq_] at r_
 rw [← hW_, ← hq_]
 have HA : Hid (Row w1 q 30 (plC dv at_ ln bd) ∧ HotM w1 gh gp gf gm d n fr f) := ⟨r_, HM.out.later hb_⟩
 have HB1 : Hid (Below w.heap.size w w1 ∧ w.heap.size ≤ q) := ⟨hb_, by omega⟩
 clear r_ hb_ hW_ hq_
 simp only [Act.put, aS, aC, aZ]
 refine wl rfl (.bool false) _ (run_asZ (.const (.bool false)) rfl (.bool false) rfl) ?_
 simp only [Act.put, aS, aC, aZ]
 refine wpList_nil ?_
 by_cases c13 : dv = (d : Int)
 case neg =>
  go_upto_region 1 with fail
  refine wp_region_held (S := fun X => Row X q 30 (plC dv at_ ln bd) ∧ HotM X gh gp gf gm d n fr f) (by kernel_rfl) ?_
  show wpAnyH _ _ _ _ _ 22 (Array.replicate 22 false) _ _
  obtain ⟨X, hX⟩ : ∃ X : World, X = { w1 with drawn := w1.drawn + 1 } := ⟨_, rfl⟩
  rw [← hX]
  have HS_ : Row X q 30 (plC dv at_ ln bd) ∧ HotM X gh gp gf gm d n fr f := by rw [hX]; exact ⟨HA.out.1, HA.out.2.later ⟨rfl, rfl, rfl, Nat.le_refl _, fun _ _ => rfl⟩⟩
  have HAX : Hid (Row X q 30 (plC dv at_ ln bd) ∧ HotM X gh gp gf gm d n fr f) := HS_
  have HBX : Hid (Below w1.heap.size w1 X) := hX ▸ ⟨rfl, rfl, rfl, Nat.le_refl _, fun _ _ => rfl⟩
  clear hX
  refine tH 0 7 rfl rfl (gRun rfl (.pointer (some ⟨q, 0 + 0, none⟩)) fun _ h => run_fieldOp' f30_0 (.tmp 3) rfl q (0) rfl) HS_ ?_
  refine tH 1 8 rfl rfl (gRun rfl (.int .i64 dv) fun _ h => run_load1 o3 (.tmp 7) rfl q (0 + 0) rfl (.int .i64 dv) (h.1.at 0 _ rfl)) HS_ ?_
  refine tH 2 9 rfl rfl (gRun rfl (ptr gh) fun _ h => run_mvZ (.tmp 0) rfl (ptr gh) rfl) HS_ ?_
  refine tH 3 10 rfl rfl (gRun rfl (ptr gh) fun _ h => run_nil (.tmp 9) rfl ⟨gh, 0, none⟩ rfl) HS_ ?_
  simp only [Act.put, aS, aC, aZ]
  refine tH 4 11 rfl rfl (gRun rfl (.pointer (some ⟨gh, 0 + 1, none⟩)) fun _ h => run_fieldOp' f90_1 (.tmp 10) rfl gh (0) rfl) HS_ ?_
  refine tH 5 12 rfl rfl (gRun rfl (.int .i64 (d : Nat)) fun _ h => run_load1 o3 (.tmp 11) rfl gh (0 + 1) rfl (.int .i64 (d : Nat)) (h.2.row.at 1 _ rfl)) HS_ ?_
  refine tH 6 13 rfl rfl (gRun rfl (.bool true) fun _ h => run_neZ (.tmp 8) (.tmp 12) rfl dv (d : Nat) rfl rfl true (by rw [decide_eq_false c13]; rfl)) HS_ ?_
  refine tH 7 14 rfl rfl (gRun rfl (.bool true) fun _ h => run_mvZ (.tmp 13) rfl (.bool true) rfl) HS_ ?_
  simp only [Act.put, aS, aC, aZ]
  refine tH 8 15 rfl rfl (Or.inr ⟨by kernel_rfl, rfl⟩) HS_ ?_
  refine tH 9 16 rfl rfl (Or.inr ⟨by kernel_rfl, rfl⟩) HS_ ?_
  refine tH 10 17 rfl rfl (Or.inr ⟨by kernel_rfl, rfl⟩) HS_ ?_
  refine tH 11 18 rfl rfl (gRun rfl (.bool true) fun _ h => run_pickZ (.tmp 14) (.const (.bool true)) (.tmp 17) rfl true (.bool true) rfl rfl) HS_ ?_
  simp only [Act.put, aS, aC, aZ]
  refine tH 12 19 rfl rfl (gRun rfl (.bool true) fun _ h => run_mvZ (.tmp 18) rfl (.bool true) rfl) HS_ ?_
  refine tH 13 20 rfl rfl (Or.inr ⟨by kernel_rfl, rfl⟩) HS_ ?_
  refine tH 14 21 rfl rfl (Or.inr ⟨by kernel_rfl, rfl⟩) HS_ ?_
  refine tH 15 22 rfl rfl (Or.inr ⟨by kernel_rfl, rfl⟩) HS_ ?_
  simp only [Act.put, aS, aC, aZ]
  refine tH 16 23 rfl rfl (gRun rfl (.bool true) fun _ h => run_pickZ (.tmp 19) (.const (.bool true)) (.tmp 22) rfl true (.bool true) rfl rfl) HS_ ?_
  refine tH 17 24 rfl rfl (gRun rfl (.bool true) fun _ h => run_mvZ (.tmp 23) rfl (.bool true) rfl) HS_ ?_
  refine tH 18 25 rfl rfl (Or.inr ⟨by kernel_rfl, rfl⟩) HS_ ?_
  refine tH 19 26 rfl rfl (Or.inr ⟨by kernel_rfl, rfl⟩) HS_ ?_
  simp only [Act.put, aS, aC, aZ]
  refine tH 20 27 rfl rfl (Or.inr ⟨by kernel_rfl, rfl⟩) HS_ ?_
  refine tH 21 28 rfl rfl (gRun rfl (.bool true) fun _ h => run_pickZ (.tmp 24) (.const (.bool true)) (.tmp 27) rfl true (.bool true) rfl rfl) HS_ ?_
  simp only [Act.put, aS, aC, aZ]
  refine wpAnyH_done (by kernel_rfl) ?_ _
  go_wp2_with fail
  rw [HPQ.out]
  exact ⟨by unfold isPl; rw [decide_eq_false (fun k => c13 k.1)] <;> rfl, HB1.out.1.trans (HBX.out.mono HB1.out.1.size)⟩
 by_cases c17 : ln < 1
 case pos =>
  go_upto_region 1 with fail
  refine wp_region_held (S := fun X => Row X q 30 (plC dv at_ ln bd) ∧ HotM X gh gp gf gm d n fr f) (by kernel_rfl) ?_
  show wpAnyH _ _ _ _ _ 22 (Array.replicate 22 false) _ _
  obtain ⟨X, hX⟩ : ∃ X : World, X = { w1 with drawn := w1.drawn + 1 } := ⟨_, rfl⟩
  rw [← hX]
  have HS_ : Row X q 30 (plC dv at_ ln bd) ∧ HotM X gh gp gf gm d n fr f := by rw [hX]; exact ⟨HA.out.1, HA.out.2.later ⟨rfl, rfl, rfl, Nat.le_refl _, fun _ _ => rfl⟩⟩
  have HAX : Hid (Row X q 30 (plC dv at_ ln bd) ∧ HotM X gh gp gf gm d n fr f) := HS_
  have HBX : Hid (Below w1.heap.size w1 X) := hX ▸ ⟨rfl, rfl, rfl, Nat.le_refl _, fun _ _ => rfl⟩
  clear hX
  refine tH 0 7 rfl rfl (gRun rfl (.pointer (some ⟨q, 0 + 0, none⟩)) fun _ h => run_fieldOp' f30_0 (.tmp 3) rfl q (0) rfl) HS_ ?_
  refine tH 1 8 rfl rfl (gRun rfl (.int .i64 dv) fun _ h => run_load1 o3 (.tmp 7) rfl q (0 + 0) rfl (.int .i64 dv) (h.1.at 0 _ rfl)) HS_ ?_
  refine tH 2 9 rfl rfl (gRun rfl (ptr gh) fun _ h => run_mvZ (.tmp 0) rfl (ptr gh) rfl) HS_ ?_
  refine tH 3 10 rfl rfl (gRun rfl (ptr gh) fun _ h => run_nil (.tmp 9) rfl ⟨gh, 0, none⟩ rfl) HS_ ?_
  simp only [Act.put, aS, aC, aZ]
  refine tH 4 11 rfl rfl (gRun rfl (.pointer (some ⟨gh, 0 + 1, none⟩)) fun _ h => run_fieldOp' f90_1 (.tmp 10) rfl gh (0) rfl) HS_ ?_
  refine tH 5 12 rfl rfl (gRun rfl (.int .i64 (d : Nat)) fun _ h => run_load1 o3 (.tmp 11) rfl gh (0 + 1) rfl (.int .i64 (d : Nat)) (h.2.row.at 1 _ rfl)) HS_ ?_
  refine tH 6 13 rfl rfl (gRun rfl (.bool false) fun _ h => run_neZ (.tmp 8) (.tmp 12) rfl dv (d : Nat) rfl rfl false (by rw [decide_eq_true c13]; rfl)) HS_ ?_
  refine tH 7 14 rfl rfl (gRun rfl (.bool false) fun _ h => run_mvZ (.tmp 13) rfl (.bool false) rfl) HS_ ?_
  simp only [Act.put, aS, aC, aZ]
  refine tH 8 15 rfl rfl (gRun (by kernel_rfl) (.pointer (some ⟨q, 0 + 2, none⟩)) fun _ h => run_fieldOp' f30_2 (.tmp 3) rfl q (0) rfl) HS_ ?_
  refine tH 9 16 rfl rfl (gRun (by kernel_rfl) (.int .i64 ln) fun _ h => run_load1 o3 (.tmp 15) rfl q (0 + 2) rfl (.int .i64 ln) (h.1.at 2 _ rfl)) HS_ ?_
  refine tH 10 17 rfl rfl (gRun (by kernel_rfl) (.bool true) fun _ h => run_lssZ (.tmp 16) (.const (.int .i64 1)) rfl ln 1 rfl rfl true (decide_eq_true c17)) HS_ ?_
  refine tH 11 18 rfl rfl (gRun rfl (.bool true) fun _ h => run_pickZ (.tmp 14) (.const (.bool true)) (.tmp 17) rfl false (.bool true) rfl rfl) HS_ ?_
  simp only [Act.put, aS, aC, aZ]
  refine tH 12 19 rfl rfl (gRun rfl (.bool true) fun _ h => run_mvZ (.tmp 18) rfl (.bool true) rfl) HS_ ?_
  refine tH 13 20 rfl rfl (Or.inr ⟨by kernel_rfl, rfl⟩) HS_ ?_
  refine tH 14 21 rfl rfl (Or.inr ⟨by kernel_rfl, rfl⟩) HS_ ?_
  refine tH 15 22 rfl rfl (Or.inr ⟨by kernel_rfl, rfl⟩) HS_ ?_
  simp only [Act.put, aS, aC, aZ]
  refine tH 16 23 rfl rfl (gRun rfl (.bool true) fun _ h => run_pickZ (.tmp 19) (.const (.bool true)) (.tmp 22) rfl true (.bool true) rfl rfl) HS_ ?_
  refine tH 17 24 rfl rfl (gRun rfl (.bool true) fun _ h => run_mvZ (.tmp 23) rfl (.bool true) rfl) HS_ ?_
  refine tH 18 25 rfl rfl (Or.inr ⟨by kernel_rfl, rfl⟩) HS_ ?_
  refine tH 19 26 rfl rfl (Or.inr ⟨by kernel_rfl, rfl⟩) HS_ ?_
  simp only [Act.put, aS, aC, aZ]
  refine tH 20 27 rfl rfl (Or.inr ⟨by kernel_rfl, rfl⟩) HS_ ?_
  refine tH 21 28 rfl rfl (gRun rfl (.bool true) fun _ h => run_pickZ (.tmp 24) (.const (.bool true)) (.tmp 27) rfl true (.bool true) rfl rfl) HS_ ?_
  simp only [Act.put, aS, aC, aZ]
  refine wpAnyH_done (by kernel_rfl) ?_ _
  go_wp2_with fail
  rw [HPQ.out]
  exact ⟨by unfold isPl; rw [decide_eq_false (fun k => absurd k.2.1 (by omega))] <;> rfl, HB1.out.1.trans (HBX.out.mono HB1.out.1.size)⟩
 by_cases c22 : 16 < ln
 case pos =>
  go_upto_region 1 with fail
  refine wp_region_held (S := fun X => Row X q 30 (plC dv at_ ln bd) ∧ HotM X gh gp gf gm d n fr f) (by kernel_rfl) ?_
  show wpAnyH _ _ _ _ _ 22 (Array.replicate 22 false) _ _
  obtain ⟨X, hX⟩ : ∃ X : World, X = { w1 with drawn := w1.drawn + 1 } := ⟨_, rfl⟩
  rw [← hX]
  have HS_ : Row X q 30 (plC dv at_ ln bd) ∧ HotM X gh gp gf gm d n fr f := by rw [hX]; exact ⟨HA.out.1, HA.out.2.later ⟨rfl, rfl, rfl, Nat.le_refl _, fun _ _ => rfl⟩⟩
  have HAX : Hid (Row X q 30 (plC dv at_ ln bd) ∧ HotM X gh gp gf gm d n fr f) := HS_
  have HBX : Hid (Below w1.heap.size w1 X) := hX ▸ ⟨rfl, rfl, rfl, Nat.le_refl _, fun _ _ => rfl⟩
  clear hX
  refine tH 0 7 rfl rfl (gRun rfl (.pointer (some ⟨q, 0 + 0, none⟩)) fun _ h => run_fieldOp' f30_0 (.tmp 3) rfl q (0) rfl) HS_ ?_
  refine tH 1 8 rfl rfl (gRun rfl (.int .i64 dv) fun _ h => run_load1 o3 (.tmp 7) rfl q (0 + 0) rfl (.int .i64 dv) (h.1.at 0 _ rfl)) HS_ ?_
  refine tH 2 9 rfl rfl (gRun rfl (ptr gh) fun _ h => run_mvZ (.tmp 0) rfl (ptr gh) rfl) HS_ ?_
  refine tH 3 10 rfl rfl (gRun rfl (ptr gh) fun _ h => run_nil (.tmp 9) rfl ⟨gh, 0, none⟩ rfl) HS_ ?_
  simp only [Act.put, aS, aC, aZ]
  refine tH 4 11 rfl rfl (gRun rfl (.pointer (some ⟨gh, 0 + 1, none⟩)) fun _ h => run_fieldOp' f90_1 (.tmp 10) rfl gh (0) rfl) HS_ ?_
  refine tH 5 12 rfl rfl (gRun rfl (.int .i64 (d : Nat)) fun _ h => run_load1 o3 (.tmp 11) rfl gh (0 + 1) rfl (.int .i64 (d : Nat)) (h.2.row.at 1 _ rfl)) HS_ ?_
  refine tH 6 13 rfl rfl (gRun rfl (.bool false) fun _ h => run_neZ (.tmp 8) (.tmp 12) rfl dv (d : Nat) rfl rfl false (by rw [decide_eq_true c13]; rfl)) HS_ ?_
  refine tH 7 14 rfl rfl (gRun rfl (.bool false) fun _ h => run_mvZ (.tmp 13) rfl (.bool false) rfl) HS_ ?_
  simp only [Act.put, aS, aC, aZ]
  refine tH 8 15 rfl rfl (gRun (by kernel_rfl) (.pointer (some ⟨q, 0 + 2, none⟩)) fun _ h => run_fieldOp' f30_2 (.tmp 3) rfl q (0) rfl) HS_ ?_
  refine tH 9 16 rfl rfl (gRun (by kernel_rfl) (.int .i64 ln) fun _ h => run_load1 o3 (.tmp 15) rfl q (0 + 2) rfl (.int .i64 ln) (h.1.at 2 _ rfl)) HS_ ?_
  refine tH 10 17 rfl rfl (gRun (by kernel_rfl) (.bool false) fun _ h => run_lssZ (.tmp 16) (.const (.int .i64 1)) rfl ln 1 rfl rfl false (decide_eq_false c17)) HS_ ?_
  refine tH 11 18 rfl rfl (gRun rfl (.bool false) fun _ h => run_pickZ (.tmp 14) (.const (.bool true)) (.tmp 17) rfl false (.bool false) rfl rfl) HS_ ?_
  simp only [Act.put, aS, aC, aZ]
  refine tH 12 19 rfl rfl (gRun rfl (.bool false) fun _ h => run_mvZ (.tmp 18) rfl (.bool false) rfl) HS_ ?_
  refine tH 13 20 rfl rfl (gRun (by kernel_rfl) (.pointer (some ⟨q, 0 + 2, none⟩)) fun _ h => run_fieldOp' f30_2 (.tmp 3) rfl q (0) rfl) HS_ ?_
  refine tH 14 21 rfl rfl (gRun (by kernel_rfl) (.int .i64 ln) fun _ h => run_load1 o3 (.tmp 20) rfl q (0 + 2) rfl (.int .i64 ln) (h.1.at 2 _ rfl)) HS_ ?_
  refine tH 15 22 rfl rfl (gRun (by kernel_rfl) (.bool true) fun _ h => run_gtrZ (.tmp 21) (.const (.int .i64 16)) rfl ln 16 rfl rfl true (decide_eq_true c22)) HS_ ?_
  simp only [Act.put, aS, aC, aZ]
  refine tH 16 23 rfl rfl (gRun rfl (.bool true) fun _ h => run_pickZ (.tmp 19) (.const (.bool true)) (.tmp 22) rfl false (.bool true) rfl rfl) HS_ ?_
  refine tH 17 24 rfl rfl (gRun rfl (.bool true) fun _ h => run_mvZ (.tmp 23) rfl (.bool true) rfl) HS_ ?_
  refine tH 18 25 rfl rfl (Or.inr ⟨by kernel_rfl, rfl⟩) HS_ ?_
  refine tH 19 26 rfl rfl (Or.inr ⟨by kernel_rfl, rfl⟩) HS_ ?_
  simp only [Act.put, aS, aC, aZ]
  refine tH 20 27 rfl rfl (Or.inr ⟨by kernel_rfl, rfl⟩) HS_ ?_
  refine tH 21 28 rfl rfl (gRun rfl (.bool true) fun _ h => run_pickZ (.tmp 24) (.const (.bool true)) (.tmp 27) rfl true (.bool true) rfl rfl) HS_ ?_
  simp only [Act.put, aS, aC, aZ]
  refine wpAnyH_done (by kernel_rfl) ?_ _
  go_wp2_with fail
  rw [HPQ.out]
  exact ⟨by unfold isPl; rw [decide_eq_false (fun k => absurd k.2.2.1 (by omega))] <;> rfl, HB1.out.1.trans (HBX.out.mono HB1.out.1.size)⟩
 by_cases c27 : at_ < 0
 case pos =>
  go_upto_region 1 with fail
  refine wp_region_held (S := fun X => Row X q 30 (plC dv at_ ln bd) ∧ HotM X gh gp gf gm d n fr f) (by kernel_rfl) ?_
  show wpAnyH _ _ _ _ _ 22 (Array.replicate 22 false) _ _
  obtain ⟨X, hX⟩ : ∃ X : World, X = { w1 with drawn := w1.drawn + 1 } := ⟨_, rfl⟩
  rw [← hX]
  have HS_ : Row X q 30 (plC dv at_ ln bd) ∧ HotM X gh gp gf gm d n fr f := by rw [hX]; exact ⟨HA.out.1, HA.out.2.later ⟨rfl, rfl, rfl, Nat.le_refl _, fun _ _ => rfl⟩⟩
  have HAX : Hid (Row X q 30 (plC dv at_ ln bd) ∧ HotM X gh gp gf gm d n fr f) := HS_
  have HBX : Hid (Below w1.heap.size w1 X) := hX ▸ ⟨rfl, rfl, rfl, Nat.le_refl _, fun _ _ => rfl⟩
  clear hX
  refine tH 0 7 rfl rfl (gRun rfl (.pointer (some ⟨q, 0 + 0, none⟩)) fun _ h => run_fieldOp' f30_0 (.tmp 3) rfl q (0) rfl) HS_ ?_
  refine tH 1 8 rfl rfl (gRun rfl (.int .i64 dv) fun _ h => run_load1 o3 (.tmp 7) rfl q (0 + 0) rfl (.int .i64 dv) (h.1.at 0 _ rfl)) HS_ ?_
  refine tH 2 9 rfl rfl (gRun rfl (ptr gh) fun _ h => run_mvZ (.tmp 0) rfl (ptr gh) rfl) HS_ ?_
  refine tH 3 10 rfl rfl (gRun rfl (ptr gh) fun _ h => run_nil (.tmp 9) rfl ⟨gh, 0, none⟩ rfl) HS_ ?_
  simp only [Act.put, aS, aC, aZ]
  refine tH 4 11 rfl rfl (gRun rfl (.pointer (some ⟨gh, 0 + 1, none⟩)) fun _ h => run_fieldOp' f90_1 (.tmp 10) rfl gh (0) rfl) HS_ ?_
  refine tH 5 12 rfl rfl (gRun rfl (.int .i64 (d : Nat)) fun _ h => run_load1 o3 (.tmp 11) rfl gh (0 + 1) rfl (.int .i64 (d : Nat)) (h.2.row.at 1 _ rfl)) HS_ ?_
  refine tH 6 13 rfl rfl (gRun rfl (.bool false) fun _ h => run_neZ (.tmp 8) (.tmp 12) rfl dv (d : Nat) rfl rfl false (by rw [decide_eq_true c13]; rfl)) HS_ ?_
  refine tH 7 14 rfl rfl (gRun rfl (.bool false) fun _ h => run_mvZ (.tmp 13) rfl (.bool false) rfl) HS_ ?_
  simp only [Act.put, aS, aC, aZ]
  refine tH 8 15 rfl rfl (gRun (by kernel_rfl) (.pointer (some ⟨q, 0 + 2, none⟩)) fun _ h => run_fieldOp' f30_2 (.tmp 3) rfl q (0) rfl) HS_ ?_
  refine tH 9 16 rfl rfl (gRun (by kernel_rfl) (.int .i64 ln) fun _ h => run_load1 o3 (.tmp 15) rfl q (0 + 2) rfl (.int .i64 ln) (h.1.at 2 _ rfl)) HS_ ?_
  refine tH 10 17 rfl rfl (gRun (by kernel_rfl) (.bool false) fun _ h => run_lssZ (.tmp 16) (.const (.int .i64 1)) rfl ln 1 rfl rfl false (decide_eq_false c17)) HS_ ?_
  refine tH 11 18 rfl rfl (gRun rfl (.bool false) fun _ h => run_pickZ (.tmp 14) (.const (.bool true)) (.tmp 17) rfl false (.bool false) rfl rfl) HS_ ?_
  simp only [Act.put, aS, aC, aZ]
  refine tH 12 19 rfl rfl (gRun rfl (.bool false) fun _ h => run_mvZ (.tmp 18) rfl (.bool false) rfl) HS_ ?_
  refine tH 13 20 rfl rfl (gRun (by kernel_rfl) (.pointer (some ⟨q, 0 + 2, none⟩)) fun _ h => run_fieldOp' f30_2 (.tmp 3) rfl q (0) rfl) HS_ ?_
  refine tH 14 21 rfl rfl (gRun (by kernel_rfl) (.int .i64 ln) fun _ h => run_load1 o3 (.tmp 20) rfl q (0 + 2) rfl (.int .i64 ln) (h.1.at 2 _ rfl)) HS_ ?_
  refine tH 15 22 rfl rfl (gRun (by kernel_rfl) (.bool false) fun _ h => run_gtrZ (.tmp 21) (.const (.int .i64 16)) rfl ln 16 rfl rfl false (decide_eq_false c22)) HS_ ?_
  simp only [Act.put, aS, aC, aZ]
  refine tH 16 23 rfl rfl (gRun rfl (.bool false) fun _ h => run_pickZ (.tmp 19) (.const (.bool true)) (.tmp 22) rfl false (.bool false) rfl rfl) HS_ ?_
  refine tH 17 24 rfl rfl (gRun rfl (.bool false) fun _ h => run_mvZ (.tmp 23) rfl (.bool false) rfl) HS_ ?_
  refine tH 18 25 rfl rfl (gRun (by kernel_rfl) (.pointer (some ⟨q, 0 + 1, none⟩)) fun _ h => run_fieldOp' f30_1 (.tmp 3) rfl q (0) rfl) HS_ ?_
  refine tH 19 26 rfl rfl (gRun (by kernel_rfl) (.int .i64 at_) fun _ h => run_load1 o3 (.tmp 25) rfl q (0 + 1) rfl (.int .i64 at_) (h.1.at 1 _ rfl)) HS_ ?_
  simp only [Act.put, aS, aC, aZ]
  refine tH 20 27 rfl rfl (gRun (by kernel_rfl) (.bool true) fun _ h => run_lssZ (.tmp 26) (.const (.int .i64 0)) rfl at_ 0 rfl rfl true (decide_eq_true c27)) HS_ ?_
  refine tH 21 28 rfl rfl (gRun rfl (.bool true) fun _ h => run_pickZ (.tmp 24) (.const (.bool true)) (.tmp 27) rfl false (.bool true) rfl rfl) HS_ ?_
  simp only [Act.put, aS, aC, aZ]
  refine wpAnyH_done (by kernel_rfl) ?_ _
  go_wp2_with fail
  rw [HPQ.out]
  exact ⟨by unfold isPl; rw [decide_eq_false (fun k => absurd k.2.2.2.1 (by omega))] <;> rfl, HB1.out.1.trans (HBX.out.mono HB1.out.1.size)⟩
 go_upto_region 1 with fail
 refine wp_region_held (S := fun X => Row X q 30 (plC dv at_ ln bd) ∧ HotM X gh gp gf gm d n fr f) (by kernel_rfl) ?_
 show wpAnyH _ _ _ _ _ 22 (Array.replicate 22 false) _ _
 obtain ⟨X, hX⟩ : ∃ X : World, X = { w1 with drawn := w1.drawn + 1 } := ⟨_, rfl⟩
 rw [← hX]
 have HS_ : Row X q 30 (plC dv at_ ln bd) ∧ HotM X gh gp gf gm d n fr f := by rw [hX]; exact ⟨HA.out.1, HA.out.2.later ⟨rfl, rfl, rfl, Nat.le_refl _, fun _ _ => rfl⟩⟩
 have HAX : Hid (Row X q 30 (plC dv at_ ln bd) ∧ HotM X gh gp gf gm d n fr f) := HS_
 have HBX : Hid (Below w1.heap.size w1 X) := hX ▸ ⟨rfl, rfl, rfl, Nat.le_refl _, fun _ _ => rfl⟩
 clear hX
 refine tH 0 7 rfl rfl (gRun rfl (.pointer (some ⟨q, 0 + 0, none⟩)) fun _ h => run_fieldOp' f30_0 (.tmp 3) rfl q (0) rfl) HS_ ?_
 refine tH 1 8 rfl rfl (gRun rfl (.int .i64 dv) fun _ h => run_load1 o3 (.tmp 7) rfl q (0 + 0) rfl (.int .i64 dv) (h.1.at 0 _ rfl)) HS_ ?_
 refine tH 2 9 rfl rfl (gRun rfl (ptr gh) fun _ h => run_mvZ (.tmp 0) rfl (ptr gh) rfl) HS_ ?_
 refine tH 3 10 rfl rfl (gRun rfl (ptr gh) fun _ h => run_nil (.tmp 9) rfl ⟨gh, 0, none⟩ rfl) HS_ ?_
 simp only [Act.put, aS, aC, aZ]
 refine tH 4 11 rfl rfl (gRun rfl (.pointer (some ⟨gh, 0 + 1, none⟩)) fun _ h => run_fieldOp' f90_1 (.tmp 10) rfl gh (0) rfl) HS_ ?_
 refine tH 5 12 rfl rfl (gRun rfl (.int .i64 (d : Nat)) fun _ h => run_load1 o3 (.tmp 11) rfl gh (0 + 1) rfl (.int .i64 (d : Nat)) (h.2.row.at 1 _ rfl)) HS_ ?_
 refine tH 6 13 rfl rfl (gRun rfl (.bool false) fun _ h => run_neZ (.tmp 8) (.tmp 12) rfl dv (d : Nat) rfl rfl false (by rw [decide_eq_true c13]; rfl)) HS_ ?_
 refine tH 7 14 rfl rfl (gRun rfl (.bool false) fun _ h => run_mvZ (.tmp 13) rfl (.bool false) rfl) HS_ ?_
 simp only [Act.put, aS, aC, aZ]
 refine tH 8 15 rfl rfl (gRun (by kernel_rfl) (.pointer (some ⟨q, 0 + 2, none⟩)) fun _ h => run_fieldOp' f30_2 (.tmp 3) rfl q (0) rfl) HS_ ?_
 refine tH 9 16 rfl rfl (gRun (by kernel_rfl) (.int .i64 ln) fun _ h => run_load1 o3 (.tmp 15) rfl q (0 + 2) rfl (.int .i64 ln) (h.1.at 2 _ rfl)) HS_ ?_
 refine tH 10 17 rfl rfl (gRun (by kernel_rfl) (.bool false) fun _ h => run_lssZ (.tmp 16) (.const (.int .i64 1)) rfl ln 1 rfl rfl false (decide_eq_false c17)) HS_ ?_
 refine tH 11 18 rfl rfl (gRun rfl (.bool false) fun _ h => run_pickZ (.tmp 14) (.const (.bool true)) (.tmp 17) rfl false (.bool false) rfl rfl) HS_ ?_
 simp only [Act.put, aS, aC, aZ]
 refine tH 12 19 rfl rfl (gRun rfl (.bool false) fun _ h => run_mvZ (.tmp 18) rfl (.bool false) rfl) HS_ ?_
 refine tH 13 20 rfl rfl (gRun (by kernel_rfl) (.pointer (some ⟨q, 0 + 2, none⟩)) fun _ h => run_fieldOp' f30_2 (.tmp 3) rfl q (0) rfl) HS_ ?_
 refine tH 14 21 rfl rfl (gRun (by kernel_rfl) (.int .i64 ln) fun _ h => run_load1 o3 (.tmp 20) rfl q (0 + 2) rfl (.int .i64 ln) (h.1.at 2 _ rfl)) HS_ ?_
 refine tH 15 22 rfl rfl (gRun (by kernel_rfl) (.bool false) fun _ h => run_gtrZ (.tmp 21) (.const (.int .i64 16)) rfl ln 16 rfl rfl false (decide_eq_false c22)) HS_ ?_
 simp only [Act.put, aS, aC, aZ]
 refine tH 16 23 rfl rfl (gRun rfl (.bool false) fun _ h => run_pickZ (.tmp 19) (.const (.bool true)) (.tmp 22) rfl false (.bool false) rfl rfl) HS_ ?_
 refine tH 17 24 rfl rfl (gRun rfl (.bool false) fun _ h => run_mvZ (.tmp 23) rfl (.bool false) rfl) HS_ ?_
 refine tH 18 25 rfl rfl (gRun (by kernel_rfl) (.pointer (some ⟨q, 0 + 1, none⟩)) fun _ h => run_fieldOp' f30_1 (.tmp 3) rfl q (0) rfl) HS_ ?_
 refine tH 19 26 rfl rfl (gRun (by kernel_rfl) (.int .i64 at_) fun _ h => run_load1 o3 (.tmp 25) rfl q (0 + 1) rfl (.int .i64 at_) (h.1.at 1 _ rfl)) HS_ ?_
 simp only [Act.put, aS, aC, aZ]
 refine tH 20 27 rfl rfl (gRun (by kernel_rfl) (.bool false) fun _ h => run_lssZ (.tmp 26) (.const (.int .i64 0)) rfl at_ 0 rfl rfl false (decide_eq_false c27)) HS_ ?_
 refine tH 21 28 rfl rfl (gRun rfl (.bool false) fun _ h => run_pickZ (.tmp 24) (.const (.bool true)) (.tmp 27) rfl false (.bool false) rfl rfl) HS_ ?_
 simp only [Act.put, aS, aC, aZ]
 refine wpAnyH_done (by kernel_rfl) ?_ _
 obtain ⟨A, rfl⟩ : ∃ A : Nat, at_ = (A : Nat) := ⟨at_.toNat, by omega⟩
 have hA : A ≤ 9223372036854775807 := by have := HK.out.2.2; omega
 go_upto_region 3 with fail
 refine wp_region_lit ?_
 refine wl rfl (.pointer (some ⟨q, 0 + 1, none⟩)) _ (run_fieldOp' f30_1 (.tmp 3) rfl q (0) rfl) ?_
 refine wl rfl (.int .i64 (A : Nat)) _ (run_load1 o3 (.tmp 30) rfl q (0 + 1) rfl (.int .i64 (A : Nat)) (HAX.out.1.at 1 _ rfl)) ?_
 simp only [Act.put, aS, aC, aZ]
 refine wpList_callW eN52 [.tmp 31] _ rfl rfl [(.int .i64 (A : Nat))] rfl ?_
 refine (split_any X A hA).mono ?_
 rintro e w_ ⟨rfl, rfl⟩
 refine ⟨_, rfl, ?_⟩
 simp only [Act.put, aS, aC, aZ]
 refine wl rfl (.tuple #[(.int .i64 ((A / 16 : Nat) : Int)), (.int .i64 ((A % 16 : Nat) : Int))]) _ (run_mvZ (.tmp 32) rfl (.tuple #[(.int .i64 ((A / 16 : Nat) : Int)), (.int .i64 ((A % 16 : Nat) : Int))]) rfl) ?_
 refine wl rfl (.int .i64 ((A / 16 : Nat) : Int)) _ (run_extZ (.tmp 29) 0 rfl #[(.int .i64 ((A / 16 : Nat) : Int)), (.int .i64 ((A % 16 : Nat) : Int))] rfl (.int .i64 ((A / 16 : Nat) : Int)) rfl) ?_
 refine wl rfl (.int .i64 ((A % 16 : Nat) : Int)) _ (run_extZ (.tmp 29) 1 rfl #[(.int .i64 ((A / 16 : Nat) : Int)), (.int .i64 ((A % 16 : Nat) : Int))] rfl (.int .i64 ((A % 16 : Nat) : Int)) rfl) ?_
 refine wl rfl (.int .i64 ((A / 16 : Nat) : Int)) _ (run_asZ (.tmp 33) rfl (.int .i64 ((A / 16 : Nat) : Int)) rfl) ?_
 simp only [Act.put, aS, aC, aZ]
 refine wl rfl (.int .i64 ((A % 16 : Nat) : Int)) _ (run_asZ (.tmp 34) rfl (.int .i64 ((A % 16 : Nat) : Int)) rfl) ?_
 simp only [Act.put, aS, aC, aZ]
 refine wpList_nil ?_
 by_cases c41 : A / 16 < fr.length
 case neg =>
  go_upto_region 4 with fail
  refine wp_region_lit ?_
  refine wl rfl (.int .i64 ((A / 16 : Nat) : Int)) _ (run_mvZ (.tmp 5) rfl (.int .i64 ((A / 16 : Nat) : Int)) rfl) ?_
  refine wl rfl (ptr gh) _ (run_mvZ (.tmp 0) rfl (ptr gh) rfl) ?_
  refine wl rfl (ptr gh) _ (run_nil (.tmp 36) rfl ⟨gh, 0, none⟩ rfl) ?_
  refine wl rfl (.pointer (some ⟨gh, 0 + 2, none⟩)) _ (run_fieldOp' f90_2 (.tmp 37) rfl gh (0) rfl) ?_
  simp only [Act.put, aS, aC, aZ]
  refine wl rfl (whole gf fr.length) _ (run_load1 o86 (.tmp 38) rfl gh (0 + 2) rfl (whole gf fr.length) (HAX.out.2.row.at 2 _ rfl)) ?_
  refine wl rfl (.int .i64 (fr.length : Nat)) _ (run_lenZ sl86 (.tmp 39) rfl (some ⟨gf, 0, none⟩) fr.length fr.length rfl) ?_
  refine wl rfl (.bool false) _ (run_lssZ (.tmp 35) (.tmp 40) rfl ((A / 16 : Nat) : Int) (fr.length : Nat) rfl rfl false (decide_eq_false (by omega))) ?_
  refine wl rfl (.bool false) _ (run_mvZ (.tmp 41) rfl (.bool false) rfl) ?_
  simp only [Act.put, aS, aC, aZ]
  refine wpList_skip (by kernel_rfl) ?_
  simp only [Act.put, aS, aC, aZ]
  refine wpList_skip (by kernel_rfl) ?_
  simp only [Act.put, aS, aC, aZ]
  refine wpList_skip (by kernel_rfl) ?_
  simp only [Act.put, aS, aC, aZ]
  refine wpList_skip (by kernel_rfl) ?_
  simp only [Act.put, aS, aC, aZ]
  refine wpList_skip (by kernel_rfl) ?_
  simp only [Act.put, aS, aC, aZ]
  refine wl rfl (.bool false) _ (run_pickZ (.tmp 42) (.tmp 47) (.const (.bool false)) rfl false (.bool false) rfl rfl) ?_
  refine wl rfl (.bool false) _ (run_asZ (.tmp 48) rfl (.bool false) rfl) ?_
  simp only [Act.put, aS, aC, aZ]
  refine wpList_nil ?_
  go_wp2_with fail
  rw [HPQ.out]
  exact ⟨by unfold isPl; rw [decide_eq_false (by omega)] <;> rfl, HB1.out.1.trans (HBX.out.mono HB1.out.1.size)⟩
 by_cases c47 : ((A % 16 : Nat) : Int) + ln ≤ 16
 case neg =>
  go_upto_region 4 with fail
  refine wp_region_lit ?_
  refine wl rfl (.int .i64 ((A / 16 : Nat) : Int)) _ (run_mvZ (.tmp 5) rfl (.int .i64 ((A / 16 : Nat) : Int)) rfl) ?_
  refine wl rfl (ptr gh) _ (run_mvZ (.tmp 0) rfl (ptr gh) rfl) ?_
  refine wl rfl (ptr gh) _ (run_nil (.tmp 36) rfl ⟨gh, 0, none⟩ rfl) ?_
  refine wl rfl (.pointer (some ⟨gh, 0 + 2, none⟩)) _ (run_fieldOp' f90_2 (.tmp 37) rfl gh (0) rfl) ?_
  simp only [Act.put, aS, aC, aZ]
  refine wl rfl (whole gf fr.length) _ (run_load1 o86 (.tmp 38) rfl gh (0 + 2) rfl (whole gf fr.length) (HAX.out.2.row.at 2 _ rfl)) ?_
  refine wl rfl (.int .i64 (fr.length : Nat)) _ (run_lenZ sl86 (.tmp 39) rfl (some ⟨gf, 0, none⟩) fr.length fr.length rfl) ?_
  refine wl rfl (.bool true) _ (run_lssZ (.tmp 35) (.tmp 40) rfl ((A / 16 : Nat) : Int) (fr.length : Nat) rfl rfl true (decide_eq_true (by omega))) ?_
  refine wl rfl (.bool true) _ (run_mvZ (.tmp 41) rfl (.bool true) rfl) ?_
  simp only [Act.put, aS, aC, aZ]
  refine wl (by kernel_rfl) (.int .i64 ((A % 16 : Nat) : Int)) _ (run_mvZ (.tmp 6) rfl (.int .i64 ((A % 16 : Nat) : Int)) rfl) ?_
  refine wl (by kernel_rfl) (.pointer (some ⟨q, 0 + 2, none⟩)) _ (run_fieldOp' f30_2 (.tmp 3) rfl q (0) rfl) ?_
  refine wl (by kernel_rfl) (.int .i64 ln) _ (run_load1 o3 (.tmp 44) rfl q (0 + 2) rfl (.int .i64 ln) (HAX.out.1.at 2 _ rfl)) ?_
  refine wl (by kernel_rfl) (.int .i64 ((A % 16 : Nat) + ln : Int)) _ (run_addZ (.tmp 43) (.tmp 45) rfl ((A % 16 : Nat) : Int) ln _ rfl rfl rfl (by omega) (by omega)) ?_
  simp only [Act.put, aS, aC, aZ]
  refine wl (by kernel_rfl) (.bool false) _ (run_leqZ (.tmp 46) (.const (.int .i64 16)) rfl ((A % 16 : Nat) + ln : Int) 16 rfl rfl false (decide_eq_false (by omega))) ?_
  refine wl rfl (.bool false) _ (run_pickZ (.tmp 42) (.tmp 47) (.const (.bool false)) rfl true (.bool false) rfl rfl) ?_
  refine wl rfl (.bool false) _ (run_asZ (.tmp 48) rfl (.bool false) rfl) ?_
  simp only [Act.put, aS, aC, aZ]
  refine wpList_nil ?_
  go_wp2_with fail
  rw [HPQ.out]
  exact ⟨by unfold isPl; rw [decide_eq_false (by omega)] <;> rfl, HB1.out.1.trans (HBX.out.mono HB1.out.1.size)⟩
 go_upto_region 4 with fail
 refine wp_region_lit ?_
 refine wl rfl (.int .i64 ((A / 16 : Nat) : Int)) _ (run_mvZ (.tmp 5) rfl (.int .i64 ((A / 16 : Nat) : Int)) rfl) ?_
 refine wl rfl (ptr gh) _ (run_mvZ (.tmp 0) rfl (ptr gh) rfl) ?_
 refine wl rfl (ptr gh) _ (run_nil (.tmp 36) rfl ⟨gh, 0, none⟩ rfl) ?_
 refine wl rfl (.pointer (some ⟨gh, 0 + 2, none⟩)) _ (run_fieldOp' f90_2 (.tmp 37) rfl gh (0) rfl) ?_
 simp only [Act.put, aS, aC, aZ]
 refine wl rfl (whole gf fr.length) _ (run_load1 o86 (.tmp 38) rfl gh (0 + 2) rfl (whole gf fr.length) (HAX.out.2.row.at 2 _ rfl)) ?_
 refine wl rfl (.int .i64 (fr.length : Nat)) _ (run_lenZ sl86 (.tmp 39) rfl (some ⟨gf, 0, none⟩) fr.length fr.length rfl) ?_
 refine wl rfl (.bool true) _ (run_lssZ (.tmp 35) (.tmp 40) rfl ((A / 16 : Nat) : Int) (fr.length : Nat) rfl rfl true (decide_eq_true (by omega))) ?_
 refine wl rfl (.bool true) _ (run_mvZ (.tmp 41) rfl (.bool true) rfl) ?_
 simp only [Act.put, aS, aC, aZ]
 refine wl (by kernel_rfl) (.int .i64 ((A % 16 : Nat) : Int)) _ (run_mvZ (.tmp 6) rfl (.int .i64 ((A % 16 : Nat) : Int)) rfl) ?_
 refine wl (by kernel_rfl) (.pointer (some ⟨q, 0 + 2, none⟩)) _ (run_fieldOp' f30_2 (.tmp 3) rfl q (0) rfl) ?_
 refine wl (by kernel_rfl) (.int .i64 ln) _ (run_load1 o3 (.tmp 44) rfl q (0 + 2) rfl (.int .i64 ln) (HAX.out.1.at 2 _ rfl)) ?_
 refine wl (by kernel_rfl) (.int .i64 ((A % 16 : Nat) + ln : Int)) _ (run_addZ (.tmp 43) (.tmp 45) rfl ((A % 16 : Nat) : Int) ln _ rfl rfl rfl (by omega) (by omega)) ?_
 simp only [Act.put, aS, aC, aZ]
 refine wl (by kernel_rfl) (.bool true) _ (run_leqZ (.tmp 46) (.const (.int .i64 16)) rfl ((A % 16 : Nat) + ln : Int) 16 rfl rfl true (decide_eq_true (by omega))) ?_
 refine wl rfl (.bool true) _ (run_pickZ (.tmp 42) (.tmp 47) (.const (.bool false)) rfl true (.bool true) rfl rfl) ?_
 refine wl rfl (.bool true) _ (run_asZ (.tmp 48) rfl (.bool true) rfl) ?_
 simp only [Act.put, aS, aC, aZ]
 refine wpList_nil ?_
 go_wp2_with fail
 rw [HPQ.out]
 exact ⟨by unfold isPl; rw [decide_eq_true (by omega)] <;> rfl, HB1.out.1.trans (HBX.out.mono HB1.out.1.size)⟩

end Go.Proofs.YthgidfoidbgnaaaDoor

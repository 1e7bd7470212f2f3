/- Whether all devices are as wide as their kinds ask for. -/
import Derived.Test.YtbmlbnbhjligdaaI6
namespace Go.Proofs.Ytbmlbnbhjligdaa
open Go.RowKit Go.MapKept

section
variable {w : World} {a : Act} {o : Oper}
theorem run_ix36_0 (x y : Operand) (ho : o.op = .index 36 x y) (v0 v1 v2 v3 : Value) (hx : a.eval x = .agg (rowCells v0 v1 v2 v3).toArray) (hy : a.eval y = .int .i64 0) : (execOp a.eval o).run Try.prog w = .ok (.value (.agg [.int .i64 0, v0].toArray)) w := by
  have hr : (Instr.index 36 (.agg (rowCells v0 v1 v2 v3).toArray) (.int .i64 0)).run Try.prog w = .ok (.agg [.int .i64 0, v0].toArray) w := by kernel_rfl
  simp only [execOp, ho, hx, hy, hr, Sem.run_bind, Sem.run_pure, Result.andThen_ok]
theorem run_ix36_1 (x y : Operand) (ho : o.op = .index 36 x y) (v0 v1 v2 v3 : Value) (hx : a.eval x = .agg (rowCells v0 v1 v2 v3).toArray) (hy : a.eval y = .int .i64 1) : (execOp a.eval o).run Try.prog w = .ok (.value (.agg [.int .i64 1, v1].toArray)) w := by
  have hr : (Instr.index 36 (.agg (rowCells v0 v1 v2 v3).toArray) (.int .i64 1)).run Try.prog w = .ok (.agg [.int .i64 1, v1].toArray) w := by kernel_rfl
  simp only [execOp, ho, hx, hy, hr, Sem.run_bind, Sem.run_pure, Result.andThen_ok]
theorem run_ix36_2 (x y : Operand) (ho : o.op = .index 36 x y) (v0 v1 v2 v3 : Value) (hx : a.eval x = .agg (rowCells v0 v1 v2 v3).toArray) (hy : a.eval y = .int .i64 2) : (execOp a.eval o).run Try.prog w = .ok (.value (.agg [.int .i64 2, v2].toArray)) w := by
  have hr : (Instr.index 36 (.agg (rowCells v0 v1 v2 v3).toArray) (.int .i64 2)).run Try.prog w = .ok (.agg [.int .i64 2, v2].toArray) w := by kernel_rfl
  simp only [execOp, ho, hx, hy, hr, Sem.run_bind, Sem.run_pure, Result.andThen_ok]
theorem run_ix36_3 (x y : Operand) (ho : o.op = .index 36 x y) (v0 v1 v2 v3 : Value) (hx : a.eval x = .agg (rowCells v0 v1 v2 v3).toArray) (hy : a.eval y = .int .i64 3) : (execOp a.eval o).run Try.prog w = .ok (.value (.agg [.int .i64 3, v3].toArray)) w := by
  have hr : (Instr.index 36 (.agg (rowCells v0 v1 v2 v3).toArray) (.int .i64 3)).run Try.prog w = .ok (.agg [.int .i64 3, v3].toArray) w := by kernel_rfl
  simp only [execOp, ho, hx, hy, hr, Sem.run_bind, Sem.run_pure, Result.andThen_ok]
end
/-- what each kind asks for -/
def rowOk (k : Nat) (l : List Int) : Bool := decide ((match k with | 0 => 386 | 1 => 64 | 2 => 32 | _ => 12) ≤ mn l) && decide (mx l ≤ 4096)
def wideOk (l0 l1 l2 l3 : List Int) : Bool := rowOk 0 l0 && (rowOk 1 l1 && (rowOk 2 l2 && rowOk 3 l3))
/-- the first k rows are wide -/
def wideTo (l0 l1 l2 l3 : List Int) : Nat → Bool
  | 0 => true
  | 1 => rowOk 0 l0
  | 2 => rowOk 0 l0 && rowOk 1 l1
  | 3 => rowOk 0 l0 && rowOk 1 l1 && rowOk 2 l2
  | _ => rowOk 0 l0 && rowOk 1 l1 && rowOk 2 l2 && rowOk 3 l3
theorem wideTo_four (l0 l1 l2 l3 : List Int) : wideTo l0 l1 l2 l3 4 = wideOk l0 l1 l2 l3 := by simp [wideTo, wideOk, Bool.and_assoc]
theorem wide_no0 (l0 l1 l2 l3 : List Int) (h : rowOk 0 l0 = false) : wideOk l0 l1 l2 l3 = false := by simp [wideOk, h]
theorem wide_no1 (l0 l1 l2 l3 : List Int) (h : rowOk 1 l1 = false) : wideOk l0 l1 l2 l3 = false := by simp [wideOk, h]
theorem wide_no2 (l0 l1 l2 l3 : List Int) (h : rowOk 2 l2 = false) : wideOk l0 l1 l2 l3 = false := by simp [wideOk, h]
theorem wide_no3 (l0 l1 l2 l3 : List Int) (h : rowOk 3 l3 = false) : wideOk l0 l1 l2 l3 = false := by simp [wideOk, h]
theorem wide_yes0 (l0 l1 l2 l3 : List Int) (h : rowOk 0 l0 = true) (_ : wideTo l0 l1 l2 l3 0 = true) : wideTo l0 l1 l2 l3 1 = true := by simp [wideTo, h]
theorem wide_yes1 (l0 l1 l2 l3 : List Int) (h : rowOk 1 l1 = true) (h2 : wideTo l0 l1 l2 l3 1 = true) : wideTo l0 l1 l2 l3 2 = true := by simp [wideTo, h] at h2 ⊢; exact h2
theorem wide_yes2 (l0 l1 l2 l3 : List Int) (h : rowOk 2 l2 = true) (h2 : wideTo l0 l1 l2 l3 2 = true) : wideTo l0 l1 l2 l3 3 = true := by simp [wideTo, h] at h2 ⊢; exact h2
theorem wide_yes3 (l0 l1 l2 l3 : List Int) (h : rowOk 3 l3 = true) (h2 : wideTo l0 l1 l2 l3 3 = true) : wideTo l0 l1 l2 l3 4 = true := by simp [wideTo, h] at h2 ⊢; exact h2
set_option maxHeartbeats 4000000 in
set_option maxRecDepth 100000 in
theorem wide_any (w : World) (v0 v1 v2 v3 : Value) (l0 l1 l2 l3 : List Int) (h0 : IntsIn w v0 l0 ∧ 0 < l0.length) (h1 : IntsIn w v1 l1 ∧ 0 < l1.length) (h2 : IntsIn w v2 l2 ∧ 0 < l2.length) (h3 : IntsIn w v3 l3 ∧ 0 < l3.length) :
    Calls Try.prog 16 #[.agg (rowCells v0 v1 v2 v3).toArray] w fun e w' => e = .returned (.bool (wideOk l0 l1 l2 l3)) ∧ Below w.heap.size w w' := by
  have H0 : Hid (Loc w w []) := Loc.nil (Below.refl _ _)
  have HI : Hid ((IntsIn w v0 l0 ∧ 0 < l0.length) ∧ (IntsIn w v1 l1 ∧ 0 < l1.length) ∧ (IntsIn w v2 l2 ∧ 0 < l2.length) ∧ (IntsIn w v3 l3 ∧ 0 < l3.length)) := ⟨h0, h1, h2, h3⟩
  obtain ⟨r, hr⟩ : ∃ r, r = wideOk l0 l1 l2 l3 := ⟨_, rfl⟩
  have HV : Hid (r = wideOk l0 l1 l2 l3) := hr
  rw [← hr]
  clear hr h0 h1 h2 h3
  obtain ⟨PQ, HPQ⟩ : ∃ PQ : Ending → World → Prop, Hid (PQ = fun (e : Ending) (w' : World) => e = .returned (.bool r) ∧ Below w.heap.size w w') := ⟨_, rfl⟩
  rw [← HPQ.out]
  go_enter Try.func16, Try.ntmps16
  go_upto_region 0 with fail
  refine wp_region_lit ?_
  refine wl rfl (ptr w.heap.size) _ (run_boxA (.tmp 0) rfl ((rowCells v0 v1 v2 v3)) rfl) ?_
  have k_ := H0.out.box 36 ((rowCells v0 v1 v2 v3))
  obtain ⟨w1, hW_⟩ : ∃ W, W = w.alloc (.cells ((rowCells v0 v1 v2 v3)).toArray 36) := ⟨_, rfl⟩
  obtain ⟨gb, hq_⟩ : ∃ q, q = w.heap.size := ⟨_, rfl⟩
  rw [← hW_, ← hq_] at k_
  rw [← hW_, ← hq_]
  clear hq_
  have Rw1 : Hid (Loc w w1 [(gb, 36, (rowCells v0 v1 v2 v3))]) := k_
  clear k_ hW_ H0
  simp only [Act.put, List.setIfInBounds_toArray, List.set_cons_succ, List.set_cons_zero]
  refine wl rfl (.bool false) _ (run_asZ (.const (.bool false)) rfl (.bool false) rfl) ?_
  simp only [Act.put, List.setIfInBounds_toArray, List.set_cons_succ, List.set_cons_zero]
  refine wpList_nil ?_
  go_upto_region 1 with fail
  refine wp_region_lit ?_
  refine wl rfl (.agg ((rowCells v0 v1 v2 v3)).toArray) _ (run_loadA ag36 (.tmp 1) rfl gb (0) rfl ((rowCells v0 v1 v2 v3)) rfl (fun j v hv => by rw [Nat.zero_add]; exact (Rw1.out.at 0 rfl).at j v hv)) ?_
  simp only [Act.put, List.setIfInBounds_toArray, List.set_cons_succ, List.set_cons_zero]
  refine wl rfl (.int .i64 0) _ (run_mvZ (.const (.int .i64 0)) rfl (.int .i64 0) rfl) ?_
  simp only [Act.put, List.setIfInBounds_toArray, List.set_cons_succ, List.set_cons_zero]
  refine wpList_nil ?_
  have HB1 : Hid (Below w.heap.size w w1) := Rw1.out.below
  clear Rw1
  go_wp2_with fail
  go_loopw [4, 5, 6, 8, 19, 21, 23, 25] (fun _ _ _ v8 _ _ _ _ W => ∃ k : Nat, v8 = .int .i64 (k : Nat) ∧ k ≤ 4 ∧ Hid (wideTo l0 l1 l2 l3 k = true ∧ Below w.heap.size w W)) (fun _ _ _ v8 _ _ _ _ _ => 4 - (intOf v8).toNat)
  case atStart => exact ⟨0, rfl, by omega, rfl, HB1.out⟩
  case round =>
    obtain ⟨k, rfl, hk, HK⟩ := hrel
    obtain ⟨w2, hw2⟩ : ∃ X, X = wr := ⟨_, rfl⟩
    subst hw2
    clear HB1
    by_cases hk0 : k = 0
    · subst hk0
      have HL : Hid (IntsIn w2 v0 l0 ∧ 0 < l0.length) := ⟨HI.out.1.1.later HK.out.2, HI.out.1.2⟩
      obtain ⟨ml, hml⟩ : ∃ z, z = mn l0 := ⟨_, rfl⟩
      obtain ⟨xl, hxl⟩ : ∃ z, z = mx l0 := ⟨_, rfl⟩
      have HM : Hid (rowOk 0 l0 = (decide (386 ≤ ml) && decide (xl ≤ 4096)) ∧ mn l0 = ml ∧ mx l0 = xl) := ⟨by rw [hml, hxl]; rfl, hml.symm, hxl.symm⟩
      clear hml hxl
      have H2 : Hid (Loc w2 w2 []) := Loc.nil (Below.refl _ _)
      by_cases ha : ml < 386
      · go_upto_region 2 with fail
        refine wp_region_lit ?_
        refine wl rfl (.bool true) _ (run_lssZ (.tmp 8) (.const (.int .i64 4)) rfl 0 4 rfl rfl true rfl) ?_
        simp only [Act.put, List.setIfInBounds_toArray, List.set_cons_succ, List.set_cons_zero]
        refine wpList_nil ?_
        go_upto_region 3 with fail
        refine wp_region_lit ?_
        refine wl rfl (.agg [.int .i64 0, v0].toArray) _ (run_ix36_0 (.tmp 7) (.tmp 8) rfl v0 v1 v2 v3 rfl rfl) ?_
        simp only [Act.put, List.setIfInBounds_toArray, List.set_cons_succ, List.set_cons_zero]
        refine wl rfl (ptr w2.heap.size) _ (run_allocA ([Value.int .i64 0, .slice none 0 0]) zero35 rfl) ?_
        have k_ := H2.out.box 35 ([Value.int .i64 0, .slice none 0 0])
        obtain ⟨w3, hW_⟩ : ∃ W, W = w2.alloc (.cells ([Value.int .i64 0, .slice none 0 0]).toArray 35) := ⟨_, rfl⟩
        obtain ⟨gr, hq_⟩ : ∃ q, q = w2.heap.size := ⟨_, rfl⟩
        rw [← hW_, ← hq_] at k_
        rw [← hW_, ← hq_]
        clear hq_
        have Rw3 : Hid (Loc w2 w3 [(gr, 35, [Value.int .i64 0, .slice none 0 0])]) := k_
        clear k_ hW_ H2
        simp only [Act.put, List.setIfInBounds_toArray, List.set_cons_succ, List.set_cons_zero]
        have hone : ∀ v ∈ [Value.int .i64 0, v0], v.oneCell' = true := by
          intro v hv
          simp only [List.mem_cons, List.not_mem_nil, or_false] at hv
          rcases hv with rfl | rfl
          · rfl
          · exact HL.out.1.one
        refine wlS rfl rfl _ (run_storeL ag35 (.tmp 4) (.tmp 10) rfl Rw3.out 0 rfl (0) rfl ([Value.int .i64 0, v0]) rfl rfl (Nat.le_refl _) hone).1 ?_
        have k_ := Rw3.out.lay 0 rfl (0) ([Value.int .i64 0, v0])
        rw [splice_all [Value.int .i64 0, .slice none 0 0] [Value.int .i64 0, v0] rfl] at k_ ⊢
        obtain ⟨w4, hW_⟩ : ∃ W, W = w3.setRow gr ([Value.int .i64 0, v0]).toArray := ⟨_, rfl⟩
        rw [← hW_] at k_ ⊢
        have Rw4 : Hid (Loc w2 w4 [(gr, 35, [Value.int .i64 0, v0])]) := k_
        clear k_ hW_ Rw3
        clear hone
        refine wpList_nil ?_
        have HL4 : Hid (IntsIn w4 v0 l0 ∧ 0 < l0.length) := ⟨HL.out.1.later Rw4.out.below, HL.out.2⟩
        go_upto_region 4 with fail
        refine wp_region_held (S := fun X => Loc w2 X [(gr, 35, [Value.int .i64 0, v0])] ∧ IntsIn X v0 l0) (by kernel_rfl) ?_
        show wpAnyH _ _ _ _ _ 8 (Array.replicate 8 false) _ _
        obtain ⟨X, hX⟩ : ∃ X : World, X = { w4 with drawn := w4.drawn + 1 } := ⟨_, rfl⟩
        rw [← hX]
        have hX0 : Loc w2 X [(gr, 35, [Value.int .i64 0, v0])] ∧ IntsIn X v0 l0 := by rw [hX]; exact ⟨Rw4.out.drew, HL4.out.1.later ⟨rfl, rfl, rfl, Nat.le_refl _, fun _ _ => rfl⟩⟩
        clear hX
        refine takeH (i := 0) (some 11) rfl rfl (by kernel_rfl) (by kernel_rfl) (by kernel_rfl) (fun _ _ _ h => h) (gRun rfl (.pointer (some ⟨gr, 0 + 1, none⟩)) fun _ h => run_fieldOp' f35_1 (.tmp 4) rfl gr (0) rfl) hX0 ?_
        simp only [Act.put, List.setIfInBounds_toArray, List.set_cons_succ, List.set_cons_zero]
        refine takeH (i := 1) (some 12) rfl rfl (by kernel_rfl) (by kernel_rfl) (by kernel_rfl) (fun _ _ _ h => h) (gRun rfl v0 fun _ h => run_load1 o22 (.tmp 11) rfl gr (0 + 1) rfl v0 ((h.1.at 0 rfl).at 1 _ rfl)) hX0 ?_
        simp only [Act.put, List.setIfInBounds_toArray, List.set_cons_succ, List.set_cons_zero]
        refine takeH (i := 3) (some 14) rfl rfl (by kernel_rfl) (by kernel_rfl) (by kernel_rfl) (fun _ _ _ h => h) (gRun rfl (.pointer (some ⟨gr, 0 + 1, none⟩)) fun _ h => run_fieldOp' f35_1 (.tmp 4) rfl gr (0) rfl) hX0 ?_
        simp only [Act.put, List.setIfInBounds_toArray, List.set_cons_succ, List.set_cons_zero]
        refine takeH (i := 4) (some 15) rfl rfl (by kernel_rfl) (by kernel_rfl) (by kernel_rfl) (fun _ _ _ h => h) (gRun rfl v0 fun _ h => run_load1 o22 (.tmp 14) rfl gr (0 + 1) rfl v0 ((h.1.at 0 rfl).at 1 _ rfl)) hX0 ?_
        simp only [Act.put, List.setIfInBounds_toArray, List.set_cons_succ, List.set_cons_zero]
        refine oneH (i := 2) (by kernel_rfl) ?_
        refine opCallG (some 13) rfl rfl rfl 19 _ (run_call eN19 [.tmp 12] _ rfl [v0] rfl) ?_
        refine (min_any X v0 l0 hX0.2 HL.out.2).mono ?_
        rintro e w' ⟨rfl, he⟩
        refine ⟨_, rfl, ?_⟩
        obtain rfl := he.symm
        clear he
        rw [HM.out.2.1]
        refine ⟨hX0, ?_⟩
        simp only [Act.put, List.setIfInBounds_toArray, List.set_cons_succ, List.set_cons_zero]
        refine oneH (i := 5) (by kernel_rfl) ?_
        refine opCallG (some 16) rfl rfl rfl 20 _ (run_call eN20 [.tmp 15] _ rfl [v0] rfl) ?_
        refine (max_any _ v0 l0 hX0.2 HL.out.2).mono ?_
        rintro e w' ⟨rfl, he⟩
        refine ⟨_, rfl, ?_⟩
        obtain rfl := he.symm
        clear he
        rw [HM.out.2.2]
        refine ⟨hX0, ?_⟩
        simp only [Act.put, List.setIfInBounds_toArray, List.set_cons_succ, List.set_cons_zero]
        refine takeH (i := 6) (some 5) rfl rfl (by kernel_rfl) (by kernel_rfl) (by kernel_rfl) (fun _ _ _ h => h) (gRun rfl (.int .i64 ml) fun _ h => run_asZ (.tmp 13) rfl (.int .i64 ml) rfl) hX0 ?_
        simp only [Act.put, List.setIfInBounds_toArray, List.set_cons_succ, List.set_cons_zero]
        refine takeH (i := 7) (some 6) rfl rfl (by kernel_rfl) (by kernel_rfl) (by kernel_rfl) (fun _ _ _ h => h) (gRun rfl (.int .i64 xl) fun _ h => run_asZ (.tmp 16) rfl (.int .i64 xl) rfl) hX0 ?_
        simp only [Act.put, List.setIfInBounds_toArray, List.set_cons_succ, List.set_cons_zero]
        refine wpAnyH_done (by kernel_rfl) ?_ _
        have HX : Hid (Below w2.heap.size w2 X ∧ X.cell? ⟨gr, 0, none⟩ = some (.int .i64 0)) := ⟨hX0.1.below, (hX0.1.at 0 rfl).at 0 _ rfl⟩
        have kgr := HX.out.2
        clear hX0 HL4 Rw4 HL
        have t0 : decide (ml < 386) = true := by simp; omega
        obtain rfl : r = false := by rw [HV.out]; exact wide_no0 _ _ _ _ (by rw [HM.out.1, show decide (386 ≤ ml) = false by simp; omega]; rfl)
        clear HV
        go_wp2_with fail
        first
          | (rw [HPQ.out]; exact ⟨rfl, HK.out.2.trans (HX.out.1.mono HK.out.2.size)⟩)
          | (go_ret; rw [HPQ.out]; exact ⟨rfl, HK.out.2.trans (HX.out.1.mono HK.out.2.size)⟩)
      by_cases hb : 4096 < xl
      · go_upto_region 2 with fail
        refine wp_region_lit ?_
        refine wl rfl (.bool true) _ (run_lssZ (.tmp 8) (.const (.int .i64 4)) rfl 0 4 rfl rfl true rfl) ?_
        simp only [Act.put, List.setIfInBounds_toArray, List.set_cons_succ, List.set_cons_zero]
        refine wpList_nil ?_
        go_upto_region 3 with fail
        refine wp_region_lit ?_
        refine wl rfl (.agg [.int .i64 0, v0].toArray) _ (run_ix36_0 (.tmp 7) (.tmp 8) rfl v0 v1 v2 v3 rfl rfl) ?_
        simp only [Act.put, List.setIfInBounds_toArray, List.set_cons_succ, List.set_cons_zero]
        refine wl rfl (ptr w2.heap.size) _ (run_allocA ([Value.int .i64 0, .slice none 0 0]) zero35 rfl) ?_
        have k_ := H2.out.box 35 ([Value.int .i64 0, .slice none 0 0])
        obtain ⟨w3, hW_⟩ : ∃ W, W = w2.alloc (.cells ([Value.int .i64 0, .slice none 0 0]).toArray 35) := ⟨_, rfl⟩
        obtain ⟨gr, hq_⟩ : ∃ q, q = w2.heap.size := ⟨_, rfl⟩
        rw [← hW_, ← hq_] at k_
        rw [← hW_, ← hq_]
        clear hq_
        have Rw3 : Hid (Loc w2 w3 [(gr, 35, [Value.int .i64 0, .slice none 0 0])]) := k_
        clear k_ hW_ H2
        simp only [Act.put, List.setIfInBounds_toArray, List.set_cons_succ, List.set_cons_zero]
        have hone : ∀ v ∈ [Value.int .i64 0, v0], v.oneCell' = true := by
          intro v hv
          simp only [List.mem_cons, List.not_mem_nil, or_false] at hv
          rcases hv with rfl | rfl
          · rfl
          · exact HL.out.1.one
        refine wlS rfl rfl _ (run_storeL ag35 (.tmp 4) (.tmp 10) rfl Rw3.out 0 rfl (0) rfl ([Value.int .i64 0, v0]) rfl rfl (Nat.le_refl _) hone).1 ?_
        have k_ := Rw3.out.lay 0 rfl (0) ([Value.int .i64 0, v0])
        rw [splice_all [Value.int .i64 0, .slice none 0 0] [Value.int .i64 0, v0] rfl] at k_ ⊢
        obtain ⟨w4, hW_⟩ : ∃ W, W = w3.setRow gr ([Value.int .i64 0, v0]).toArray := ⟨_, rfl⟩
        rw [← hW_] at k_ ⊢
        have Rw4 : Hid (Loc w2 w4 [(gr, 35, [Value.int .i64 0, v0])]) := k_
        clear k_ hW_ Rw3
        clear hone
        refine wpList_nil ?_
        have HL4 : Hid (IntsIn w4 v0 l0 ∧ 0 < l0.length) := ⟨HL.out.1.later Rw4.out.below, HL.out.2⟩
        go_upto_region 4 with fail
        refine wp_region_held (S := fun X => Loc w2 X [(gr, 35, [Value.int .i64 0, v0])] ∧ IntsIn X v0 l0) (by kernel_rfl) ?_
        show wpAnyH _ _ _ _ _ 8 (Array.replicate 8 false) _ _
        obtain ⟨X, hX⟩ : ∃ X : World, X = { w4 with drawn := w4.drawn + 1 } := ⟨_, rfl⟩
        rw [← hX]
        have hX0 : Loc w2 X [(gr, 35, [Value.int .i64 0, v0])] ∧ IntsIn X v0 l0 := by rw [hX]; exact ⟨Rw4.out.drew, HL4.out.1.later ⟨rfl, rfl, rfl, Nat.le_refl _, fun _ _ => rfl⟩⟩
        clear hX
        refine takeH (i := 0) (some 11) rfl rfl (by kernel_rfl) (by kernel_rfl) (by kernel_rfl) (fun _ _ _ h => h) (gRun rfl (.pointer (some ⟨gr, 0 + 1, none⟩)) fun _ h => run_fieldOp' f35_1 (.tmp 4) rfl gr (0) rfl) hX0 ?_
        simp only [Act.put, List.setIfInBounds_toArray, List.set_cons_succ, List.set_cons_zero]
        refine takeH (i := 1) (some 12) rfl rfl (by kernel_rfl) (by kernel_rfl) (by kernel_rfl) (fun _ _ _ h => h) (gRun rfl v0 fun _ h => run_load1 o22 (.tmp 11) rfl gr (0 + 1) rfl v0 ((h.1.at 0 rfl).at 1 _ rfl)) hX0 ?_
        simp only [Act.put, List.setIfInBounds_toArray, List.set_cons_succ, List.set_cons_zero]
        refine takeH (i := 3) (some 14) rfl rfl (by kernel_rfl) (by kernel_rfl) (by kernel_rfl) (fun _ _ _ h => h) (gRun rfl (.pointer (some ⟨gr, 0 + 1, none⟩)) fun _ h => run_fieldOp' f35_1 (.tmp 4) rfl gr (0) rfl) hX0 ?_
        simp only [Act.put, List.setIfInBounds_toArray, List.set_cons_succ, List.set_cons_zero]
        refine takeH (i := 4) (some 15) rfl rfl (by kernel_rfl) (by kernel_rfl) (by kernel_rfl) (fun _ _ _ h => h) (gRun rfl v0 fun _ h => run_load1 o22 (.tmp 14) rfl gr (0 + 1) rfl v0 ((h.1.at 0 rfl).at 1 _ rfl)) hX0 ?_
        simp only [Act.put, List.setIfInBounds_toArray, List.set_cons_succ, List.set_cons_zero]
        refine oneH (i := 2) (by kernel_rfl) ?_
        refine opCallG (some 13) rfl rfl rfl 19 _ (run_call eN19 [.tmp 12] _ rfl [v0] rfl) ?_
        refine (min_any X v0 l0 hX0.2 HL.out.2).mono ?_
        rintro e w' ⟨rfl, he⟩
        refine ⟨_, rfl, ?_⟩
        obtain rfl := he.symm
        clear he
        rw [HM.out.2.1]
        refine ⟨hX0, ?_⟩
        simp only [Act.put, List.setIfInBounds_toArray, List.set_cons_succ, List.set_cons_zero]
        refine oneH (i := 5) (by kernel_rfl) ?_
        refine opCallG (some 16) rfl rfl rfl 20 _ (run_call eN20 [.tmp 15] _ rfl [v0] rfl) ?_
        refine (max_any _ v0 l0 hX0.2 HL.out.2).mono ?_
        rintro e w' ⟨rfl, he⟩
        refine ⟨_, rfl, ?_⟩
        obtain rfl := he.symm
        clear he
        rw [HM.out.2.2]
        refine ⟨hX0, ?_⟩
        simp only [Act.put, List.setIfInBounds_toArray, List.set_cons_succ, List.set_cons_zero]
        refine takeH (i := 6) (some 5) rfl rfl (by kernel_rfl) (by kernel_rfl) (by kernel_rfl) (fun _ _ _ h => h) (gRun rfl (.int .i64 ml) fun _ h => run_asZ (.tmp 13) rfl (.int .i64 ml) rfl) hX0 ?_
        simp only [Act.put, List.setIfInBounds_toArray, List.set_cons_succ, List.set_cons_zero]
        refine takeH (i := 7) (some 6) rfl rfl (by kernel_rfl) (by kernel_rfl) (by kernel_rfl) (fun _ _ _ h => h) (gRun rfl (.int .i64 xl) fun _ h => run_asZ (.tmp 16) rfl (.int .i64 xl) rfl) hX0 ?_
        simp only [Act.put, List.setIfInBounds_toArray, List.set_cons_succ, List.set_cons_zero]
        refine wpAnyH_done (by kernel_rfl) ?_ _
        have HX : Hid (Below w2.heap.size w2 X ∧ X.cell? ⟨gr, 0, none⟩ = some (.int .i64 0)) := ⟨hX0.1.below, (hX0.1.at 0 rfl).at 0 _ rfl⟩
        have kgr := HX.out.2
        clear hX0 HL4 Rw4 HL
        have t0 : decide (ml < 386) = false := by simp; omega
        have t1 : decide (ml < 64) = false := by simp; omega
        have t2 : decide (ml < 32) = false := by simp; omega
        have t3 : decide (ml < 12) = false := by simp; omega
        have u0 : decide (4096 < xl) = true := by simp; omega
        obtain rfl : r = false := by rw [HV.out]; exact wide_no0 _ _ _ _ (by rw [HM.out.1, show decide (xl ≤ 4096) = false by simp; omega, Bool.and_false])
        clear HV
        go_wp2_with fail
        first
          | (rw [HPQ.out]; exact ⟨rfl, HK.out.2.trans (HX.out.1.mono HK.out.2.size)⟩)
          | (go_ret; rw [HPQ.out]; exact ⟨rfl, HK.out.2.trans (HX.out.1.mono HK.out.2.size)⟩)
      go_upto_region 2 with fail
      refine wp_region_lit ?_
      refine wl rfl (.bool true) _ (run_lssZ (.tmp 8) (.const (.int .i64 4)) rfl 0 4 rfl rfl true rfl) ?_
      simp only [Act.put, List.setIfInBounds_toArray, List.set_cons_succ, List.set_cons_zero]
      refine wpList_nil ?_
      go_upto_region 3 with fail
      refine wp_region_lit ?_
      refine wl rfl (.agg [.int .i64 0, v0].toArray) _ (run_ix36_0 (.tmp 7) (.tmp 8) rfl v0 v1 v2 v3 rfl rfl) ?_
      simp only [Act.put, List.setIfInBounds_toArray, List.set_cons_succ, List.set_cons_zero]
      refine wl rfl (ptr w2.heap.size) _ (run_allocA ([Value.int .i64 0, .slice none 0 0]) zero35 rfl) ?_
      have k_ := H2.out.box 35 ([Value.int .i64 0, .slice none 0 0])
      obtain ⟨w3, hW_⟩ : ∃ W, W = w2.alloc (.cells ([Value.int .i64 0, .slice none 0 0]).toArray 35) := ⟨_, rfl⟩
      obtain ⟨gr, hq_⟩ : ∃ q, q = w2.heap.size := ⟨_, rfl⟩
      rw [← hW_, ← hq_] at k_
      rw [← hW_, ← hq_]
      clear hq_
      have Rw3 : Hid (Loc w2 w3 [(gr, 35, [Value.int .i64 0, .slice none 0 0])]) := k_
      clear k_ hW_ H2
      simp only [Act.put, List.setIfInBounds_toArray, List.set_cons_succ, List.set_cons_zero]
      have hone : ∀ v ∈ [Value.int .i64 0, v0], v.oneCell' = true := by
        intro v hv
        simp only [List.mem_cons, List.not_mem_nil, or_false] at hv
        rcases hv with rfl | rfl
        · rfl
        · exact HL.out.1.one
      refine wlS rfl rfl _ (run_storeL ag35 (.tmp 4) (.tmp 10) rfl Rw3.out 0 rfl (0) rfl ([Value.int .i64 0, v0]) rfl rfl (Nat.le_refl _) hone).1 ?_
      have k_ := Rw3.out.lay 0 rfl (0) ([Value.int .i64 0, v0])
      rw [splice_all [Value.int .i64 0, .slice none 0 0] [Value.int .i64 0, v0] rfl] at k_ ⊢
      obtain ⟨w4, hW_⟩ : ∃ W, W = w3.setRow gr ([Value.int .i64 0, v0]).toArray := ⟨_, rfl⟩
      rw [← hW_] at k_ ⊢
      have Rw4 : Hid (Loc w2 w4 [(gr, 35, [Value.int .i64 0, v0])]) := k_
      clear k_ hW_ Rw3
      clear hone
      refine wpList_nil ?_
      have HL4 : Hid (IntsIn w4 v0 l0 ∧ 0 < l0.length) := ⟨HL.out.1.later Rw4.out.below, HL.out.2⟩
      go_upto_region 4 with fail
      refine wp_region_held (S := fun X => Loc w2 X [(gr, 35, [Value.int .i64 0, v0])] ∧ IntsIn X v0 l0) (by kernel_rfl) ?_
      show wpAnyH _ _ _ _ _ 8 (Array.replicate 8 false) _ _
      obtain ⟨X, hX⟩ : ∃ X : World, X = { w4 with drawn := w4.drawn + 1 } := ⟨_, rfl⟩
      rw [← hX]
      have hX0 : Loc w2 X [(gr, 35, [Value.int .i64 0, v0])] ∧ IntsIn X v0 l0 := by rw [hX]; exact ⟨Rw4.out.drew, HL4.out.1.later ⟨rfl, rfl, rfl, Nat.le_refl _, fun _ _ => rfl⟩⟩
      clear hX
      refine takeH (i := 0) (some 11) rfl rfl (by kernel_rfl) (by kernel_rfl) (by kernel_rfl) (fun _ _ _ h => h) (gRun rfl (.pointer (some ⟨gr, 0 + 1, none⟩)) fun _ h => run_fieldOp' f35_1 (.tmp 4) rfl gr (0) rfl) hX0 ?_
      simp only [Act.put, List.setIfInBounds_toArray, List.set_cons_succ, List.set_cons_zero]
      refine takeH (i := 1) (some 12) rfl rfl (by kernel_rfl) (by kernel_rfl) (by kernel_rfl) (fun _ _ _ h => h) (gRun rfl v0 fun _ h => run_load1 o22 (.tmp 11) rfl gr (0 + 1) rfl v0 ((h.1.at 0 rfl).at 1 _ rfl)) hX0 ?_
      simp only [Act.put, List.setIfInBounds_toArray, List.set_cons_succ, List.set_cons_zero]
      refine takeH (i := 3) (some 14) rfl rfl (by kernel_rfl) (by kernel_rfl) (by kernel_rfl) (fun _ _ _ h => h) (gRun rfl (.pointer (some ⟨gr, 0 + 1, none⟩)) fun _ h => run_fieldOp' f35_1 (.tmp 4) rfl gr (0) rfl) hX0 ?_
      simp only [Act.put, List.setIfInBounds_toArray, List.set_cons_succ, List.set_cons_zero]
      refine takeH (i := 4) (some 15) rfl rfl (by kernel_rfl) (by kernel_rfl) (by kernel_rfl) (fun _ _ _ h => h) (gRun rfl v0 fun _ h => run_load1 o22 (.tmp 14) rfl gr (0 + 1) rfl v0 ((h.1.at 0 rfl).at 1 _ rfl)) hX0 ?_
      simp only [Act.put, List.setIfInBounds_toArray, List.set_cons_succ, List.set_cons_zero]
      refine oneH (i := 2) (by kernel_rfl) ?_
      refine opCallG (some 13) rfl rfl rfl 19 _ (run_call eN19 [.tmp 12] _ rfl [v0] rfl) ?_
      refine (min_any X v0 l0 hX0.2 HL.out.2).mono ?_
      rintro e w' ⟨rfl, he⟩
      refine ⟨_, rfl, ?_⟩
      obtain rfl := he.symm
      clear he
      rw [HM.out.2.1]
      refine ⟨hX0, ?_⟩
      simp only [Act.put, List.setIfInBounds_toArray, List.set_cons_succ, List.set_cons_zero]
      refine oneH (i := 5) (by kernel_rfl) ?_
      refine opCallG (some 16) rfl rfl rfl 20 _ (run_call eN20 [.tmp 15] _ rfl [v0] rfl) ?_
      refine (max_any _ v0 l0 hX0.2 HL.out.2).mono ?_
      rintro e w' ⟨rfl, he⟩
      refine ⟨_, rfl, ?_⟩
      obtain rfl := he.symm
      clear he
      rw [HM.out.2.2]
      refine ⟨hX0, ?_⟩
      simp only [Act.put, List.setIfInBounds_toArray, List.set_cons_succ, List.set_cons_zero]
      refine takeH (i := 6) (some 5) rfl rfl (by kernel_rfl) (by kernel_rfl) (by kernel_rfl) (fun _ _ _ h => h) (gRun rfl (.int .i64 ml) fun _ h => run_asZ (.tmp 13) rfl (.int .i64 ml) rfl) hX0 ?_
      simp only [Act.put, List.setIfInBounds_toArray, List.set_cons_succ, List.set_cons_zero]
      refine takeH (i := 7) (some 6) rfl rfl (by kernel_rfl) (by kernel_rfl) (by kernel_rfl) (fun _ _ _ h => h) (gRun rfl (.int .i64 xl) fun _ h => run_asZ (.tmp 16) rfl (.int .i64 xl) rfl) hX0 ?_
      simp only [Act.put, List.setIfInBounds_toArray, List.set_cons_succ, List.set_cons_zero]
      refine wpAnyH_done (by kernel_rfl) ?_ _
      have HX : Hid (Below w2.heap.size w2 X ∧ X.cell? ⟨gr, 0, none⟩ = some (.int .i64 0)) := ⟨hX0.1.below, (hX0.1.at 0 rfl).at 0 _ rfl⟩
      have kgr := HX.out.2
      clear hX0 HL4 Rw4 HL
      have t0 : decide (ml < 386) = false := by simp; omega
      have t1 : decide (ml < 64) = false := by simp; omega
      have t2 : decide (ml < 32) = false := by simp; omega
      have t3 : decide (ml < 12) = false := by simp; omega
      have u0 : decide (4096 < xl) = false := by simp; omega
      have hy := wide_yes0 _ _ _ _ (show rowOk 0 l0 = true by rw [HM.out.1, show decide (386 ≤ ml) = true by simp; omega, show decide (xl ≤ 4096) = true by simp; omega]; rfl) HK.out.1
      have HY : Hid (wideTo l0 l1 l2 l3 1 = true) := hy
      clear hy
      go_wp2_with fail
      refine ⟨⟨1, by first | rfl | go_num, by omega, HY.out, HK.out.2.trans (HX.out.1.mono HK.out.2.size)⟩, ?_⟩
      simp [intOf]
    by_cases hk1 : k = 1
    · subst hk1
      have HL : Hid (IntsIn w2 v1 l1 ∧ 0 < l1.length) := ⟨HI.out.2.1.1.later HK.out.2, HI.out.2.1.2⟩
      obtain ⟨ml, hml⟩ : ∃ z, z = mn l1 := ⟨_, rfl⟩
      obtain ⟨xl, hxl⟩ : ∃ z, z = mx l1 := ⟨_, rfl⟩
      have HM : Hid (rowOk 1 l1 = (decide (64 ≤ ml) && decide (xl ≤ 4096)) ∧ mn l1 = ml ∧ mx l1 = xl) := ⟨by rw [hml, hxl]; rfl, hml.symm, hxl.symm⟩
      clear hml hxl
      have H2 : Hid (Loc w2 w2 []) := Loc.nil (Below.refl _ _)
      by_cases ha : ml < 64
      · go_upto_region 2 with fail
        refine wp_region_lit ?_
        refine wl rfl (.bool true) _ (run_lssZ (.tmp 8) (.const (.int .i64 4)) rfl 1 4 rfl rfl true rfl) ?_
        simp only [Act.put, List.setIfInBounds_toArray, List.set_cons_succ, List.set_cons_zero]
        refine wpList_nil ?_
        go_upto_region 3 with fail
        refine wp_region_lit ?_
        refine wl rfl (.agg [.int .i64 1, v1].toArray) _ (run_ix36_1 (.tmp 7) (.tmp 8) rfl v0 v1 v2 v3 rfl rfl) ?_
        simp only [Act.put, List.setIfInBounds_toArray, List.set_cons_succ, List.set_cons_zero]
        refine wl rfl (ptr w2.heap.size) _ (run_allocA ([Value.int .i64 0, .slice none 0 0]) zero35 rfl) ?_
        have k_ := H2.out.box 35 ([Value.int .i64 0, .slice none 0 0])
        obtain ⟨w3, hW_⟩ : ∃ W, W = w2.alloc (.cells ([Value.int .i64 0, .slice none 0 0]).toArray 35) := ⟨_, rfl⟩
        obtain ⟨gr, hq_⟩ : ∃ q, q = w2.heap.size := ⟨_, rfl⟩
        rw [← hW_, ← hq_] at k_
        rw [← hW_, ← hq_]
        clear hq_
        have Rw3 : Hid (Loc w2 w3 [(gr, 35, [Value.int .i64 0, .slice none 0 0])]) := k_
        clear k_ hW_ H2
        simp only [Act.put, List.setIfInBounds_toArray, List.set_cons_succ, List.set_cons_zero]
        have hone : ∀ v ∈ [Value.int .i64 1, v1], v.oneCell' = true := by
          intro v hv
          simp only [List.mem_cons, List.not_mem_nil, or_false] at hv
          rcases hv with rfl | rfl
          · rfl
          · exact HL.out.1.one
        refine wlS rfl rfl _ (run_storeL ag35 (.tmp 4) (.tmp 10) rfl Rw3.out 0 rfl (0) rfl ([Value.int .i64 1, v1]) rfl rfl (Nat.le_refl _) hone).1 ?_
        have k_ := Rw3.out.lay 0 rfl (0) ([Value.int .i64 1, v1])
        rw [splice_all [Value.int .i64 0, .slice none 0 0] [Value.int .i64 1, v1] rfl] at k_ ⊢
        obtain ⟨w4, hW_⟩ : ∃ W, W = w3.setRow gr ([Value.int .i64 1, v1]).toArray := ⟨_, rfl⟩
        rw [← hW_] at k_ ⊢
        have Rw4 : Hid (Loc w2 w4 [(gr, 35, [Value.int .i64 1, v1])]) := k_
        clear k_ hW_ Rw3
        clear hone
        refine wpList_nil ?_
        have HL4 : Hid (IntsIn w4 v1 l1 ∧ 0 < l1.length) := ⟨HL.out.1.later Rw4.out.below, HL.out.2⟩
        go_upto_region 4 with fail
        refine wp_region_held (S := fun X => Loc w2 X [(gr, 35, [Value.int .i64 1, v1])] ∧ IntsIn X v1 l1) (by kernel_rfl) ?_
        show wpAnyH _ _ _ _ _ 8 (Array.replicate 8 false) _ _
        obtain ⟨X, hX⟩ : ∃ X : World, X = { w4 with drawn := w4.drawn + 1 } := ⟨_, rfl⟩
        rw [← hX]
        have hX0 : Loc w2 X [(gr, 35, [Value.int .i64 1, v1])] ∧ IntsIn X v1 l1 := by rw [hX]; exact ⟨Rw4.out.drew, HL4.out.1.later ⟨rfl, rfl, rfl, Nat.le_refl _, fun _ _ => rfl⟩⟩
        clear hX
        refine takeH (i := 0) (some 11) rfl rfl (by kernel_rfl) (by kernel_rfl) (by kernel_rfl) (fun _ _ _ h => h) (gRun rfl (.pointer (some ⟨gr, 0 + 1, none⟩)) fun _ h => run_fieldOp' f35_1 (.tmp 4) rfl gr (0) rfl) hX0 ?_
        simp only [Act.put, List.setIfInBounds_toArray, List.set_cons_succ, List.set_cons_zero]
        refine takeH (i := 1) (some 12) rfl rfl (by kernel_rfl) (by kernel_rfl) (by kernel_rfl) (fun _ _ _ h => h) (gRun rfl v1 fun _ h => run_load1 o22 (.tmp 11) rfl gr (0 + 1) rfl v1 ((h.1.at 0 rfl).at 1 _ rfl)) hX0 ?_
        simp only [Act.put, List.setIfInBounds_toArray, List.set_cons_succ, List.set_cons_zero]
        refine takeH (i := 3) (some 14) rfl rfl (by kernel_rfl) (by kernel_rfl) (by kernel_rfl) (fun _ _ _ h => h) (gRun rfl (.pointer (some ⟨gr, 0 + 1, none⟩)) fun _ h => run_fieldOp' f35_1 (.tmp 4) rfl gr (0) rfl) hX0 ?_
        simp only [Act.put, List.setIfInBounds_toArray, List.set_cons_succ, List.set_cons_zero]
        refine takeH (i := 4) (some 15) rfl rfl (by kernel_rfl) (by kernel_rfl) (by kernel_rfl) (fun _ _ _ h => h) (gRun rfl v1 fun _ h => run_load1 o22 (.tmp 14) rfl gr (0 + 1) rfl v1 ((h.1.at 0 rfl).at 1 _ rfl)) hX0 ?_
        simp only [Act.put, List.setIfInBounds_toArray, List.set_cons_succ, List.set_cons_zero]
        refine oneH (i := 2) (by kernel_rfl) ?_
        refine opCallG (some 13) rfl rfl rfl 19 _ (run_call eN19 [.tmp 12] _ rfl [v1] rfl) ?_
        refine (min_any X v1 l1 hX0.2 HL.out.2).mono ?_
        rintro e w' ⟨rfl, he⟩
        refine ⟨_, rfl, ?_⟩
        obtain rfl := he.symm
        clear he
        rw [HM.out.2.1]
        refine ⟨hX0, ?_⟩
        simp only [Act.put, List.setIfInBounds_toArray, List.set_cons_succ, List.set_cons_zero]
        refine oneH (i := 5) (by kernel_rfl) ?_
        refine opCallG (some 16) rfl rfl rfl 20 _ (run_call eN20 [.tmp 15] _ rfl [v1] rfl) ?_
        refine (max_any _ v1 l1 hX0.2 HL.out.2).mono ?_
        rintro e w' ⟨rfl, he⟩
        refine ⟨_, rfl, ?_⟩
        obtain rfl := he.symm
        clear he
        rw [HM.out.2.2]
        refine ⟨hX0, ?_⟩
        simp only [Act.put, List.setIfInBounds_toArray, List.set_cons_succ, List.set_cons_zero]
        refine takeH (i := 6) (some 5) rfl rfl (by kernel_rfl) (by kernel_rfl) (by kernel_rfl) (fun _ _ _ h => h) (gRun rfl (.int .i64 ml) fun _ h => run_asZ (.tmp 13) rfl (.int .i64 ml) rfl) hX0 ?_
        simp only [Act.put, List.setIfInBounds_toArray, List.set_cons_succ, List.set_cons_zero]
        refine takeH (i := 7) (some 6) rfl rfl (by kernel_rfl) (by kernel_rfl) (by kernel_rfl) (fun _ _ _ h => h) (gRun rfl (.int .i64 xl) fun _ h => run_asZ (.tmp 16) rfl (.int .i64 xl) rfl) hX0 ?_
        simp only [Act.put, List.setIfInBounds_toArray, List.set_cons_succ, List.set_cons_zero]
        refine wpAnyH_done (by kernel_rfl) ?_ _
        have HX : Hid (Below w2.heap.size w2 X ∧ X.cell? ⟨gr, 0, none⟩ = some (.int .i64 1)) := ⟨hX0.1.below, (hX0.1.at 0 rfl).at 0 _ rfl⟩
        have kgr := HX.out.2
        clear hX0 HL4 Rw4 HL
        have t0 : decide (ml < 64) = true := by simp; omega
        obtain rfl : r = false := by rw [HV.out]; exact wide_no1 _ _ _ _ (by rw [HM.out.1, show decide (64 ≤ ml) = false by simp; omega]; rfl)
        clear HV
        go_wp2_with fail
        first
          | (rw [HPQ.out]; exact ⟨rfl, HK.out.2.trans (HX.out.1.mono HK.out.2.size)⟩)
          | (go_ret; rw [HPQ.out]; exact ⟨rfl, HK.out.2.trans (HX.out.1.mono HK.out.2.size)⟩)
      by_cases hb : 4096 < xl
      · go_upto_region 2 with fail
        refine wp_region_lit ?_
        refine wl rfl (.bool true) _ (run_lssZ (.tmp 8) (.const (.int .i64 4)) rfl 1 4 rfl rfl true rfl) ?_
        simp only [Act.put, List.setIfInBounds_toArray, List.set_cons_succ, List.set_cons_zero]
        refine wpList_nil ?_
        go_upto_region 3 with fail
        refine wp_region_lit ?_
        refine wl rfl (.agg [.int .i64 1, v1].toArray) _ (run_ix36_1 (.tmp 7) (.tmp 8) rfl v0 v1 v2 v3 rfl rfl) ?_
        simp only [Act.put, List.setIfInBounds_toArray, List.set_cons_succ, List.set_cons_zero]
        refine wl rfl (ptr w2.heap.size) _ (run_allocA ([Value.int .i64 0, .slice none 0 0]) zero35 rfl) ?_
        have k_ := H2.out.box 35 ([Value.int .i64 0, .slice none 0 0])
        obtain ⟨w3, hW_⟩ : ∃ W, W = w2.alloc (.cells ([Value.int .i64 0, .slice none 0 0]).toArray 35) := ⟨_, rfl⟩
        obtain ⟨gr, hq_⟩ : ∃ q, q = w2.heap.size := ⟨_, rfl⟩
        rw [← hW_, ← hq_] at k_
        rw [← hW_, ← hq_]
        clear hq_
        have Rw3 : Hid (Loc w2 w3 [(gr, 35, [Value.int .i64 0, .slice none 0 0])]) := k_
        clear k_ hW_ H2
        simp only [Act.put, List.setIfInBounds_toArray, List.set_cons_succ, List.set_cons_zero]
        have hone : ∀ v ∈ [Value.int .i64 1, v1], v.oneCell' = true := by
          intro v hv
          simp only [List.mem_cons, List.not_mem_nil, or_false] at hv
          rcases hv with rfl | rfl
          · rfl
          · exact HL.out.1.one
        refine wlS rfl rfl _ (run_storeL ag35 (.tmp 4) (.tmp 10) rfl Rw3.out 0 rfl (0) rfl ([Value.int .i64 1, v1]) rfl rfl (Nat.le_refl _) hone).1 ?_
        have k_ := Rw3.out.lay 0 rfl (0) ([Value.int .i64 1, v1])
        rw [splice_all [Value.int .i64 0, .slice none 0 0] [Value.int .i64 1, v1] rfl] at k_ ⊢
        obtain ⟨w4, hW_⟩ : ∃ W, W = w3.setRow gr ([Value.int .i64 1, v1]).toArray := ⟨_, rfl⟩
        rw [← hW_] at k_ ⊢
        have Rw4 : Hid (Loc w2 w4 [(gr, 35, [Value.int .i64 1, v1])]) := k_
        clear k_ hW_ Rw3
        clear hone
        refine wpList_nil ?_
        have HL4 : Hid (IntsIn w4 v1 l1 ∧ 0 < l1.length) := ⟨HL.out.1.later Rw4.out.below, HL.out.2⟩
        go_upto_region 4 with fail
        refine wp_region_held (S := fun X => Loc w2 X [(gr, 35, [Value.int .i64 1, v1])] ∧ IntsIn X v1 l1) (by kernel_rfl) ?_
        show wpAnyH _ _ _ _ _ 8 (Array.replicate 8 false) _ _
        obtain ⟨X, hX⟩ : ∃ X : World, X = { w4 with drawn := w4.drawn + 1 } := ⟨_, rfl⟩
        rw [← hX]
        have hX0 : Loc w2 X [(gr, 35, [Value.int .i64 1, v1])] ∧ IntsIn X v1 l1 := by rw [hX]; exact ⟨Rw4.out.drew, HL4.out.1.later ⟨rfl, rfl, rfl, Nat.le_refl _, fun _ _ => rfl⟩⟩
        clear hX
        refine takeH (i := 0) (some 11) rfl rfl (by kernel_rfl) (by kernel_rfl) (by kernel_rfl) (fun _ _ _ h => h) (gRun rfl (.pointer (some ⟨gr, 0 + 1, none⟩)) fun _ h => run_fieldOp' f35_1 (.tmp 4) rfl gr (0) rfl) hX0 ?_
        simp only [Act.put, List.setIfInBounds_toArray, List.set_cons_succ, List.set_cons_zero]
        refine takeH (i := 1) (some 12) rfl rfl (by kernel_rfl) (by kernel_rfl) (by kernel_rfl) (fun _ _ _ h => h) (gRun rfl v1 fun _ h => run_load1 o22 (.tmp 11) rfl gr (0 + 1) rfl v1 ((h.1.at 0 rfl).at 1 _ rfl)) hX0 ?_
        simp only [Act.put, List.setIfInBounds_toArray, List.set_cons_succ, List.set_cons_zero]
        refine takeH (i := 3) (some 14) rfl rfl (by kernel_rfl) (by kernel_rfl) (by kernel_rfl) (fun _ _ _ h => h) (gRun rfl (.pointer (some ⟨gr, 0 + 1, none⟩)) fun _ h => run_fieldOp' f35_1 (.tmp 4) rfl gr (0) rfl) hX0 ?_
        simp only [Act.put, List.setIfInBounds_toArray, List.set_cons_succ, List.set_cons_zero]
        refine takeH (i := 4) (some 15) rfl rfl (by kernel_rfl) (by kernel_rfl) (by kernel_rfl) (fun _ _ _ h => h) (gRun rfl v1 fun _ h => run_load1 o22 (.tmp 14) rfl gr (0 + 1) rfl v1 ((h.1.at 0 rfl).at 1 _ rfl)) hX0 ?_
        simp only [Act.put, List.setIfInBounds_toArray, List.set_cons_succ, List.set_cons_zero]
        refine oneH (i := 2) (by kernel_rfl) ?_
        refine opCallG (some 13) rfl rfl rfl 19 _ (run_call eN19 [.tmp 12] _ rfl [v1] rfl) ?_
        refine (min_any X v1 l1 hX0.2 HL.out.2).mono ?_
        rintro e w' ⟨rfl, he⟩
        refine ⟨_, rfl, ?_⟩
        obtain rfl := he.symm
        clear he
        rw [HM.out.2.1]
        refine ⟨hX0, ?_⟩
        simp only [Act.put, List.setIfInBounds_toArray, List.set_cons_succ, List.set_cons_zero]
        refine oneH (i := 5) (by kernel_rfl) ?_
        refine opCallG (some 16) rfl rfl rfl 20 _ (run_call eN20 [.tmp 15] _ rfl [v1] rfl) ?_
        refine (max_any _ v1 l1 hX0.2 HL.out.2).mono ?_
        rintro e w' ⟨rfl, he⟩
        refine ⟨_, rfl, ?_⟩
        obtain rfl := he.symm
        clear he
        rw [HM.out.2.2]
        refine ⟨hX0, ?_⟩
        simp only [Act.put, List.setIfInBounds_toArray, List.set_cons_succ, List.set_cons_zero]
        refine takeH (i := 6) (some 5) rfl rfl (by kernel_rfl) (by kernel_rfl) (by kernel_rfl) (fun _ _ _ h => h) (gRun rfl (.int .i64 ml) fun _ h => run_asZ (.tmp 13) rfl (.int .i64 ml) rfl) hX0 ?_
        simp only [Act.put, List.setIfInBounds_toArray, List.set_cons_succ, List.set_cons_zero]
        refine takeH (i := 7) (some 6) rfl rfl (by kernel_rfl) (by kernel_rfl) (by kernel_rfl) (fun _ _ _ h => h) (gRun rfl (.int .i64 xl) fun _ h => run_asZ (.tmp 16) rfl (.int .i64 xl) rfl) hX0 ?_
        simp only [Act.put, List.setIfInBounds_toArray, List.set_cons_succ, List.set_cons_zero]
        refine wpAnyH_done (by kernel_rfl) ?_ _
        have HX : Hid (Below w2.heap.size w2 X ∧ X.cell? ⟨gr, 0, none⟩ = some (.int .i64 1)) := ⟨hX0.1.below, (hX0.1.at 0 rfl).at 0 _ rfl⟩
        have kgr := HX.out.2
        clear hX0 HL4 Rw4 HL
        have t1 : decide (ml < 64) = false := by simp; omega
        have t2 : decide (ml < 32) = false := by simp; omega
        have t3 : decide (ml < 12) = false := by simp; omega
        have u0 : decide (4096 < xl) = true := by simp; omega
        obtain rfl : r = false := by rw [HV.out]; exact wide_no1 _ _ _ _ (by rw [HM.out.1, show decide (xl ≤ 4096) = false by simp; omega, Bool.and_false])
        clear HV
        go_wp2_with fail
        first
          | (rw [HPQ.out]; exact ⟨rfl, HK.out.2.trans (HX.out.1.mono HK.out.2.size)⟩)
          | (go_ret; rw [HPQ.out]; exact ⟨rfl, HK.out.2.trans (HX.out.1.mono HK.out.2.size)⟩)
      go_upto_region 2 with fail
      refine wp_region_lit ?_
      refine wl rfl (.bool true) _ (run_lssZ (.tmp 8) (.const (.int .i64 4)) rfl 1 4 rfl rfl true rfl) ?_
      simp only [Act.put, List.setIfInBounds_toArray, List.set_cons_succ, List.set_cons_zero]
      refine wpList_nil ?_
      go_upto_region 3 with fail
      refine wp_region_lit ?_
      refine wl rfl (.agg [.int .i64 1, v1].toArray) _ (run_ix36_1 (.tmp 7) (.tmp 8) rfl v0 v1 v2 v3 rfl rfl) ?_
      simp only [Act.put, List.setIfInBounds_toArray, List.set_cons_succ, List.set_cons_zero]
      refine wl rfl (ptr w2.heap.size) _ (run_allocA ([Value.int .i64 0, .slice none 0 0]) zero35 rfl) ?_
      have k_ := H2.out.box 35 ([Value.int .i64 0, .slice none 0 0])
      obtain ⟨w3, hW_⟩ : ∃ W, W = w2.alloc (.cells ([Value.int .i64 0, .slice none 0 0]).toArray 35) := ⟨_, rfl⟩
      obtain ⟨gr, hq_⟩ : ∃ q, q = w2.heap.size := ⟨_, rfl⟩
      rw [← hW_, ← hq_] at k_
      rw [← hW_, ← hq_]
      clear hq_
      have Rw3 : Hid (Loc w2 w3 [(gr, 35, [Value.int .i64 0, .slice none 0 0])]) := k_
      clear k_ hW_ H2
      simp only [Act.put, List.setIfInBounds_toArray, List.set_cons_succ, List.set_cons_zero]
      have hone : ∀ v ∈ [Value.int .i64 1, v1], v.oneCell' = true := by
        intro v hv
        simp only [List.mem_cons, List.not_mem_nil, or_false] at hv
        rcases hv with rfl | rfl
        · rfl
        · exact HL.out.1.one
      refine wlS rfl rfl _ (run_storeL ag35 (.tmp 4) (.tmp 10) rfl Rw3.out 0 rfl (0) rfl ([Value.int .i64 1, v1]) rfl rfl (Nat.le_refl _) hone).1 ?_
      have k_ := Rw3.out.lay 0 rfl (0) ([Value.int .i64 1, v1])
      rw [splice_all [Value.int .i64 0, .slice none 0 0] [Value.int .i64 1, v1] rfl] at k_ ⊢
      obtain ⟨w4, hW_⟩ : ∃ W, W = w3.setRow gr ([Value.int .i64 1, v1]).toArray := ⟨_, rfl⟩
      rw [← hW_] at k_ ⊢
      have Rw4 : Hid (Loc w2 w4 [(gr, 35, [Value.int .i64 1, v1])]) := k_
      clear k_ hW_ Rw3
      clear hone
      refine wpList_nil ?_
      have HL4 : Hid (IntsIn w4 v1 l1 ∧ 0 < l1.length) := ⟨HL.out.1.later Rw4.out.below, HL.out.2⟩
      go_upto_region 4 with fail
      refine wp_region_held (S := fun X => Loc w2 X [(gr, 35, [Value.int .i64 1, v1])] ∧ IntsIn X v1 l1) (by kernel_rfl) ?_
      show wpAnyH _ _ _ _ _ 8 (Array.replicate 8 false) _ _
      obtain ⟨X, hX⟩ : ∃ X : World, X = { w4 with drawn := w4.drawn + 1 } := ⟨_, rfl⟩
      rw [← hX]
      have hX0 : Loc w2 X [(gr, 35, [Value.int .i64 1, v1])] ∧ IntsIn X v1 l1 := by rw [hX]; exact ⟨Rw4.out.drew, HL4.out.1.later ⟨rfl, rfl, rfl, Nat.le_refl _, fun _ _ => rfl⟩⟩
      clear hX
      refine takeH (i := 0) (some 11) rfl rfl (by kernel_rfl) (by kernel_rfl) (by kernel_rfl) (fun _ _ _ h => h) (gRun rfl (.pointer (some ⟨gr, 0 + 1, none⟩)) fun _ h => run_fieldOp' f35_1 (.tmp 4) rfl gr (0) rfl) hX0 ?_
      simp only [Act.put, List.setIfInBounds_toArray, List.set_cons_succ, List.set_cons_zero]
      refine takeH (i := 1) (some 12) rfl rfl (by kernel_rfl) (by kernel_rfl) (by kernel_rfl) (fun _ _ _ h => h) (gRun rfl v1 fun _ h => run_load1 o22 (.tmp 11) rfl gr (0 + 1) rfl v1 ((h.1.at 0 rfl).at 1 _ rfl)) hX0 ?_
      simp only [Act.put, List.setIfInBounds_toArray, List.set_cons_succ, List.set_cons_zero]
      refine takeH (i := 3) (some 14) rfl rfl (by kernel_rfl) (by kernel_rfl) (by kernel_rfl) (fun _ _ _ h => h) (gRun rfl (.pointer (some ⟨gr, 0 + 1, none⟩)) fun _ h => run_fieldOp' f35_1 (.tmp 4) rfl gr (0) rfl) hX0 ?_
      simp only [Act.put, List.setIfInBounds_toArray, List.set_cons_succ, List.set_cons_zero]
      refine takeH (i := 4) (some 15) rfl rfl (by kernel_rfl) (by kernel_rfl) (by kernel_rfl) (fun _ _ _ h => h) (gRun rfl v1 fun _ h => run_load1 o22 (.tmp 14) rfl gr (0 + 1) rfl v1 ((h.1.at 0 rfl).at 1 _ rfl)) hX0 ?_
      simp only [Act.put, List.setIfInBounds_toArray, List.set_cons_succ, List.set_cons_zero]
      refine oneH (i := 2) (by kernel_rfl) ?_
      refine opCallG (some 13) rfl rfl rfl 19 _ (run_call eN19 [.tmp 12] _ rfl [v1] rfl) ?_
      refine (min_any X v1 l1 hX0.2 HL.out.2).mono ?_
      rintro e w' ⟨rfl, he⟩
      refine ⟨_, rfl, ?_⟩
      obtain rfl := he.symm
      clear he
      rw [HM.out.2.1]
      refine ⟨hX0, ?_⟩
      simp only [Act.put, List.setIfInBounds_toArray, List.set_cons_succ, List.set_cons_zero]
      refine oneH (i := 5) (by kernel_rfl) ?_
      refine opCallG (some 16) rfl rfl rfl 20 _ (run_call eN20 [.tmp 15] _ rfl [v1] rfl) ?_
      refine (max_any _ v1 l1 hX0.2 HL.out.2).mono ?_
      rintro e w' ⟨rfl, he⟩
      refine ⟨_, rfl, ?_⟩
      obtain rfl := he.symm
      clear he
      rw [HM.out.2.2]
      refine ⟨hX0, ?_⟩
      simp only [Act.put, List.setIfInBounds_toArray, List.set_cons_succ, List.set_cons_zero]
      refine takeH (i := 6) (some 5) rfl rfl (by kernel_rfl) (by kernel_rfl) (by kernel_rfl) (fun _ _ _ h => h) (gRun rfl (.int .i64 ml) fun _ h => run_asZ (.tmp 13) rfl (.int .i64 ml) rfl) hX0 ?_
      simp only [Act.put, List.setIfInBounds_toArray, List.set_cons_succ, List.set_cons_zero]
      refine takeH (i := 7) (some 6) rfl rfl (by kernel_rfl) (by kernel_rfl) (by kernel_rfl) (fun _ _ _ h => h) (gRun rfl (.int .i64 xl) fun _ h => run_asZ (.tmp 16) rfl (.int .i64 xl) rfl) hX0 ?_
      simp only [Act.put, List.setIfInBounds_toArray, List.set_cons_succ, List.set_cons_zero]
      refine wpAnyH_done (by kernel_rfl) ?_ _
      have HX : Hid (Below w2.heap.size w2 X ∧ X.cell? ⟨gr, 0, none⟩ = some (.int .i64 1)) := ⟨hX0.1.below, (hX0.1.at 0 rfl).at 0 _ rfl⟩
      have kgr := HX.out.2
      clear hX0 HL4 Rw4 HL
      have t1 : decide (ml < 64) = false := by simp; omega
      have t2 : decide (ml < 32) = false := by simp; omega
      have t3 : decide (ml < 12) = false := by simp; omega
      have u0 : decide (4096 < xl) = false := by simp; omega
      have hy := wide_yes1 _ _ _ _ (show rowOk 1 l1 = true by rw [HM.out.1, show decide (64 ≤ ml) = true by simp; omega, show decide (xl ≤ 4096) = true by simp; omega]; rfl) HK.out.1
      have HY : Hid (wideTo l0 l1 l2 l3 2 = true) := hy
      clear hy
      go_wp2_with fail
      refine ⟨⟨2, by first | rfl | go_num, by omega, HY.out, HK.out.2.trans (HX.out.1.mono HK.out.2.size)⟩, ?_⟩
      simp [intOf]
    by_cases hk2 : k = 2
    · subst hk2
      have HL : Hid (IntsIn w2 v2 l2 ∧ 0 < l2.length) := ⟨HI.out.2.2.1.1.later HK.out.2, HI.out.2.2.1.2⟩
      obtain ⟨ml, hml⟩ : ∃ z, z = mn l2 := ⟨_, rfl⟩
      obtain ⟨xl, hxl⟩ : ∃ z, z = mx l2 := ⟨_, rfl⟩
      have HM : Hid (rowOk 2 l2 = (decide (32 ≤ ml) && decide (xl ≤ 4096)) ∧ mn l2 = ml ∧ mx l2 = xl) := ⟨by rw [hml, hxl]; rfl, hml.symm, hxl.symm⟩
      clear hml hxl
      have H2 : Hid (Loc w2 w2 []) := Loc.nil (Below.refl _ _)
      by_cases ha : ml < 32
      · go_upto_region 2 with fail
        refine wp_region_lit ?_
        refine wl rfl (.bool true) _ (run_lssZ (.tmp 8) (.const (.int .i64 4)) rfl 2 4 rfl rfl true rfl) ?_
        simp only [Act.put, List.setIfInBounds_toArray, List.set_cons_succ, List.set_cons_zero]
        refine wpList_nil ?_
        go_upto_region 3 with fail
        refine wp_region_lit ?_
        refine wl rfl (.agg [.int .i64 2, v2].toArray) _ (run_ix36_2 (.tmp 7) (.tmp 8) rfl v0 v1 v2 v3 rfl rfl) ?_
        simp only [Act.put, List.setIfInBounds_toArray, List.set_cons_succ, List.set_cons_zero]
        refine wl rfl (ptr w2.heap.size) _ (run_allocA ([Value.int .i64 0, .slice none 0 0]) zero35 rfl) ?_
        have k_ := H2.out.box 35 ([Value.int .i64 0, .slice none 0 0])
        obtain ⟨w3, hW_⟩ : ∃ W, W = w2.alloc (.cells ([Value.int .i64 0, .slice none 0 0]).toArray 35) := ⟨_, rfl⟩
        obtain ⟨gr, hq_⟩ : ∃ q, q = w2.heap.size := ⟨_, rfl⟩
        rw [← hW_, ← hq_] at k_
        rw [← hW_, ← hq_]
        clear hq_
        have Rw3 : Hid (Loc w2 w3 [(gr, 35, [Value.int .i64 0, .slice none 0 0])]) := k_
        clear k_ hW_ H2
        simp only [Act.put, List.setIfInBounds_toArray, List.set_cons_succ, List.set_cons_zero]
        have hone : ∀ v ∈ [Value.int .i64 2, v2], v.oneCell' = true := by
          intro v hv
          simp only [List.mem_cons, List.not_mem_nil, or_false] at hv
          rcases hv with rfl | rfl
          · rfl
          · exact HL.out.1.one
        refine wlS rfl rfl _ (run_storeL ag35 (.tmp 4) (.tmp 10) rfl Rw3.out 0 rfl (0) rfl ([Value.int .i64 2, v2]) rfl rfl (Nat.le_refl _) hone).1 ?_
        have k_ := Rw3.out.lay 0 rfl (0) ([Value.int .i64 2, v2])
        rw [splice_all [Value.int .i64 0, .slice none 0 0] [Value.int .i64 2, v2] rfl] at k_ ⊢
        obtain ⟨w4, hW_⟩ : ∃ W, W = w3.setRow gr ([Value.int .i64 2, v2]).toArray := ⟨_, rfl⟩
        rw [← hW_] at k_ ⊢
        have Rw4 : Hid (Loc w2 w4 [(gr, 35, [Value.int .i64 2, v2])]) := k_
        clear k_ hW_ Rw3
        clear hone
        refine wpList_nil ?_
        have HL4 : Hid (IntsIn w4 v2 l2 ∧ 0 < l2.length) := ⟨HL.out.1.later Rw4.out.below, HL.out.2⟩
        go_upto_region 4 with fail
        refine wp_region_held (S := fun X => Loc w2 X [(gr, 35, [Value.int .i64 2, v2])] ∧ IntsIn X v2 l2) (by kernel_rfl) ?_
        show wpAnyH _ _ _ _ _ 8 (Array.replicate 8 false) _ _
        obtain ⟨X, hX⟩ : ∃ X : World, X = { w4 with drawn := w4.drawn + 1 } := ⟨_, rfl⟩
        rw [← hX]
        have hX0 : Loc w2 X [(gr, 35, [Value.int .i64 2, v2])] ∧ IntsIn X v2 l2 := by rw [hX]; exact ⟨Rw4.out.drew, HL4.out.1.later ⟨rfl, rfl, rfl, Nat.le_refl _, fun _ _ => rfl⟩⟩
        clear hX
        refine takeH (i := 0) (some 11) rfl rfl (by kernel_rfl) (by kernel_rfl) (by kernel_rfl) (fun _ _ _ h => h) (gRun rfl (.pointer (some ⟨gr, 0 + 1, none⟩)) fun _ h => run_fieldOp' f35_1 (.tmp 4) rfl gr (0) rfl) hX0 ?_
        simp only [Act.put, List.setIfInBounds_toArray, List.set_cons_succ, List.set_cons_zero]
        refine takeH (i := 1) (some 12) rfl rfl (by kernel_rfl) (by kernel_rfl) (by kernel_rfl) (fun _ _ _ h => h) (gRun rfl v2 fun _ h => run_load1 o22 (.tmp 11) rfl gr (0 + 1) rfl v2 ((h.1.at 0 rfl).at 1 _ rfl)) hX0 ?_
        simp only [Act.put, List.setIfInBounds_toArray, List.set_cons_succ, List.set_cons_zero]
        refine takeH (i := 3) (some 14) rfl rfl (by kernel_rfl) (by kernel_rfl) (by kernel_rfl) (fun _ _ _ h => h) (gRun rfl (.pointer (some ⟨gr, 0 + 1, none⟩)) fun _ h => run_fieldOp' f35_1 (.tmp 4) rfl gr (0) rfl) hX0 ?_
        simp only [Act.put, List.setIfInBounds_toArray, List.set_cons_succ, List.set_cons_zero]
        refine takeH (i := 4) (some 15) rfl rfl (by kernel_rfl) (by kernel_rfl) (by kernel_rfl) (fun _ _ _ h => h) (gRun rfl v2 fun _ h => run_load1 o22 (.tmp 14) rfl gr (0 + 1) rfl v2 ((h.1.at 0 rfl).at 1 _ rfl)) hX0 ?_
        simp only [Act.put, List.setIfInBounds_toArray, List.set_cons_succ, List.set_cons_zero]
        refine oneH (i := 2) (by kernel_rfl) ?_
        refine opCallG (some 13) rfl rfl rfl 19 _ (run_call eN19 [.tmp 12] _ rfl [v2] rfl) ?_
        refine (min_any X v2 l2 hX0.2 HL.out.2).mono ?_
        rintro e w' ⟨rfl, he⟩
        refine ⟨_, rfl, ?_⟩
        obtain rfl := he.symm
        clear he
        rw [HM.out.2.1]
        refine ⟨hX0, ?_⟩
        simp only [Act.put, List.setIfInBounds_toArray, List.set_cons_succ, List.set_cons_zero]
        refine oneH (i := 5) (by kernel_rfl) ?_
        refine opCallG (some 16) rfl rfl rfl 20 _ (run_call eN20 [.tmp 15] _ rfl [v2] rfl) ?_
        refine (max_any _ v2 l2 hX0.2 HL.out.2).mono ?_
        rintro e w' ⟨rfl, he⟩
        refine ⟨_, rfl, ?_⟩
        obtain rfl := he.symm
        clear he
        rw [HM.out.2.2]
        refine ⟨hX0, ?_⟩
        simp only [Act.put, List.setIfInBounds_toArray, List.set_cons_succ, List.set_cons_zero]
        refine takeH (i := 6) (some 5) rfl rfl (by kernel_rfl) (by kernel_rfl) (by kernel_rfl) (fun _ _ _ h => h) (gRun rfl (.int .i64 ml) fun _ h => run_asZ (.tmp 13) rfl (.int .i64 ml) rfl) hX0 ?_
        simp only [Act.put, List.setIfInBounds_toArray, List.set_cons_succ, List.set_cons_zero]
        refine takeH (i := 7) (some 6) rfl rfl (by kernel_rfl) (by kernel_rfl) (by kernel_rfl) (fun _ _ _ h => h) (gRun rfl (.int .i64 xl) fun _ h => run_asZ (.tmp 16) rfl (.int .i64 xl) rfl) hX0 ?_
        simp only [Act.put, List.setIfInBounds_toArray, List.set_cons_succ, List.set_cons_zero]
        refine wpAnyH_done (by kernel_rfl) ?_ _
        have HX : Hid (Below w2.heap.size w2 X ∧ X.cell? ⟨gr, 0, none⟩ = some (.int .i64 2)) := ⟨hX0.1.below, (hX0.1.at 0 rfl).at 0 _ rfl⟩
        have kgr := HX.out.2
        clear hX0 HL4 Rw4 HL
        have t0 : decide (ml < 32) = true := by simp; omega
        obtain rfl : r = false := by rw [HV.out]; exact wide_no2 _ _ _ _ (by rw [HM.out.1, show decide (32 ≤ ml) = false by simp; omega]; rfl)
        clear HV
        go_wp2_with fail
        first
          | (rw [HPQ.out]; exact ⟨rfl, HK.out.2.trans (HX.out.1.mono HK.out.2.size)⟩)
          | (go_ret; rw [HPQ.out]; exact ⟨rfl, HK.out.2.trans (HX.out.1.mono HK.out.2.size)⟩)
      by_cases hb : 4096 < xl
      · go_upto_region 2 with fail
        refine wp_region_lit ?_
        refine wl rfl (.bool true) _ (run_lssZ (.tmp 8) (.const (.int .i64 4)) rfl 2 4 rfl rfl true rfl) ?_
        simp only [Act.put, List.setIfInBounds_toArray, List.set_cons_succ, List.set_cons_zero]
        refine wpList_nil ?_
        go_upto_region 3 with fail
        refine wp_region_lit ?_
        refine wl rfl (.agg [.int .i64 2, v2].toArray) _ (run_ix36_2 (.tmp 7) (.tmp 8) rfl v0 v1 v2 v3 rfl rfl) ?_
        simp only [Act.put, List.setIfInBounds_toArray, List.set_cons_succ, List.set_cons_zero]
        refine wl rfl (ptr w2.heap.size) _ (run_allocA ([Value.int .i64 0, .slice none 0 0]) zero35 rfl) ?_
        have k_ := H2.out.box 35 ([Value.int .i64 0, .slice none 0 0])
        obtain ⟨w3, hW_⟩ : ∃ W, W = w2.alloc (.cells ([Value.int .i64 0, .slice none 0 0]).toArray 35) := ⟨_, rfl⟩
        obtain ⟨gr, hq_⟩ : ∃ q, q = w2.heap.size := ⟨_, rfl⟩
        rw [← hW_, ← hq_] at k_
        rw [← hW_, ← hq_]
        clear hq_
        have Rw3 : Hid (Loc w2 w3 [(gr, 35, [Value.int .i64 0, .slice none 0 0])]) := k_
        clear k_ hW_ H2
        simp only [Act.put, List.setIfInBounds_toArray, List.set_cons_succ, List.set_cons_zero]
        have hone : ∀ v ∈ [Value.int .i64 2, v2], v.oneCell' = true := by
          intro v hv
          simp only [List.mem_cons, List.not_mem_nil, or_false] at hv
          rcases hv with rfl | rfl
          · rfl
          · exact HL.out.1.one
        refine wlS rfl rfl _ (run_storeL ag35 (.tmp 4) (.tmp 10) rfl Rw3.out 0 rfl (0) rfl ([Value.int .i64 2, v2]) rfl rfl (Nat.le_refl _) hone).1 ?_
        have k_ := Rw3.out.lay 0 rfl (0) ([Value.int .i64 2, v2])
        rw [splice_all [Value.int .i64 0, .slice none 0 0] [Value.int .i64 2, v2] rfl] at k_ ⊢
        obtain ⟨w4, hW_⟩ : ∃ W, W = w3.setRow gr ([Value.int .i64 2, v2]).toArray := ⟨_, rfl⟩
        rw [← hW_] at k_ ⊢
        have Rw4 : Hid (Loc w2 w4 [(gr, 35, [Value.int .i64 2, v2])]) := k_
        clear k_ hW_ Rw3
        clear hone
        refine wpList_nil ?_
        have HL4 : Hid (IntsIn w4 v2 l2 ∧ 0 < l2.length) := ⟨HL.out.1.later Rw4.out.below, HL.out.2⟩
        go_upto_region 4 with fail
        refine wp_region_held (S := fun X => Loc w2 X [(gr, 35, [Value.int .i64 2, v2])] ∧ IntsIn X v2 l2) (by kernel_rfl) ?_
        show wpAnyH _ _ _ _ _ 8 (Array.replicate 8 false) _ _
        obtain ⟨X, hX⟩ : ∃ X : World, X = { w4 with drawn := w4.drawn + 1 } := ⟨_, rfl⟩
        rw [← hX]
        have hX0 : Loc w2 X [(gr, 35, [Value.int .i64 2, v2])] ∧ IntsIn X v2 l2 := by rw [hX]; exact ⟨Rw4.out.drew, HL4.out.1.later ⟨rfl, rfl, rfl, Nat.le_refl _, fun _ _ => rfl⟩⟩
        clear hX
        refine takeH (i := 0) (some 11) rfl rfl (by kernel_rfl) (by kernel_rfl) (by kernel_rfl) (fun _ _ _ h => h) (gRun rfl (.pointer (some ⟨gr, 0 + 1, none⟩)) fun _ h => run_fieldOp' f35_1 (.tmp 4) rfl gr (0) rfl) hX0 ?_
        simp only [Act.put, List.setIfInBounds_toArray, List.set_cons_succ, List.set_cons_zero]
        refine takeH (i := 1) (some 12) rfl rfl (by kernel_rfl) (by kernel_rfl) (by kernel_rfl) (fun _ _ _ h => h) (gRun rfl v2 fun _ h => run_load1 o22 (.tmp 11) rfl gr (0 + 1) rfl v2 ((h.1.at 0 rfl).at 1 _ rfl)) hX0 ?_
        simp only [Act.put, List.setIfInBounds_toArray, List.set_cons_succ, List.set_cons_zero]
        refine takeH (i := 3) (some 14) rfl rfl (by kernel_rfl) (by kernel_rfl) (by kernel_rfl) (fun _ _ _ h => h) (gRun rfl (.pointer (some ⟨gr, 0 + 1, none⟩)) fun _ h => run_fieldOp' f35_1 (.tmp 4) rfl gr (0) rfl) hX0 ?_
        simp only [Act.put, List.setIfInBounds_toArray, List.set_cons_succ, List.set_cons_zero]
        refine takeH (i := 4) (some 15) rfl rfl (by kernel_rfl) (by kernel_rfl) (by kernel_rfl) (fun _ _ _ h => h) (gRun rfl v2 fun _ h => run_load1 o22 (.tmp 14) rfl gr (0 + 1) rfl v2 ((h.1.at 0 rfl).at 1 _ rfl)) hX0 ?_
        simp only [Act.put, List.setIfInBounds_toArray, List.set_cons_succ, List.set_cons_zero]
        refine oneH (i := 2) (by kernel_rfl) ?_
        refine opCallG (some 13) rfl rfl rfl 19 _ (run_call eN19 [.tmp 12] _ rfl [v2] rfl) ?_
        refine (min_any X v2 l2 hX0.2 HL.out.2).mono ?_
        rintro e w' ⟨rfl, he⟩
        refine ⟨_, rfl, ?_⟩
        obtain rfl := he.symm
        clear he
        rw [HM.out.2.1]
        refine ⟨hX0, ?_⟩
        simp only [Act.put, List.setIfInBounds_toArray, List.set_cons_succ, List.set_cons_zero]
        refine oneH (i := 5) (by kernel_rfl) ?_
        refine opCallG (some 16) rfl rfl rfl 20 _ (run_call eN20 [.tmp 15] _ rfl [v2] rfl) ?_
        refine (max_any _ v2 l2 hX0.2 HL.out.2).mono ?_
        rintro e w' ⟨rfl, he⟩
        refine ⟨_, rfl, ?_⟩
        obtain rfl := he.symm
        clear he
        rw [HM.out.2.2]
        refine ⟨hX0, ?_⟩
        simp only [Act.put, List.setIfInBounds_toArray, List.set_cons_succ, List.set_cons_zero]
        refine takeH (i := 6) (some 5) rfl rfl (by kernel_rfl) (by kernel_rfl) (by kernel_rfl) (fun _ _ _ h => h) (gRun rfl (.int .i64 ml) fun _ h => run_asZ (.tmp 13) rfl (.int .i64 ml) rfl) hX0 ?_
        simp only [Act.put, List.setIfInBounds_toArray, List.set_cons_succ, List.set_cons_zero]
        refine takeH (i := 7) (some 6) rfl rfl (by kernel_rfl) (by kernel_rfl) (by kernel_rfl) (fun _ _ _ h => h) (gRun rfl (.int .i64 xl) fun _ h => run_asZ (.tmp 16) rfl (.int .i64 xl) rfl) hX0 ?_
        simp only [Act.put, List.setIfInBounds_toArray, List.set_cons_succ, List.set_cons_zero]
        refine wpAnyH_done (by kernel_rfl) ?_ _
        have HX : Hid (Below w2.heap.size w2 X ∧ X.cell? ⟨gr, 0, none⟩ = some (.int .i64 2)) := ⟨hX0.1.below, (hX0.1.at 0 rfl).at 0 _ rfl⟩
        have kgr := HX.out.2
        clear hX0 HL4 Rw4 HL
        have t2 : decide (ml < 32) = false := by simp; omega
        have t3 : decide (ml < 12) = false := by simp; omega
        have u0 : decide (4096 < xl) = true := by simp; omega
        obtain rfl : r = false := by rw [HV.out]; exact wide_no2 _ _ _ _ (by rw [HM.out.1, show decide (xl ≤ 4096) = false by simp; omega, Bool.and_false])
        clear HV
        go_wp2_with fail
        first
          | (rw [HPQ.out]; exact ⟨rfl, HK.out.2.trans (HX.out.1.mono HK.out.2.size)⟩)
          | (go_ret; rw [HPQ.out]; exact ⟨rfl, HK.out.2.trans (HX.out.1.mono HK.out.2.size)⟩)
      go_upto_region 2 with fail
      refine wp_region_lit ?_
      refine wl rfl (.bool true) _ (run_lssZ (.tmp 8) (.const (.int .i64 4)) rfl 2 4 rfl rfl true rfl) ?_
      simp only [Act.put, List.setIfInBounds_toArray, List.set_cons_succ, List.set_cons_zero]
      refine wpList_nil ?_
      go_upto_region 3 with fail
      refine wp_region_lit ?_
      refine wl rfl (.agg [.int .i64 2, v2].toArray) _ (run_ix36_2 (.tmp 7) (.tmp 8) rfl v0 v1 v2 v3 rfl rfl) ?_
      simp only [Act.put, List.setIfInBounds_toArray, List.set_cons_succ, List.set_cons_zero]
      refine wl rfl (ptr w2.heap.size) _ (run_allocA ([Value.int .i64 0, .slice none 0 0]) zero35 rfl) ?_
      have k_ := H2.out.box 35 ([Value.int .i64 0, .slice none 0 0])
      obtain ⟨w3, hW_⟩ : ∃ W, W = w2.alloc (.cells ([Value.int .i64 0, .slice none 0 0]).toArray 35) := ⟨_, rfl⟩
      obtain ⟨gr, hq_⟩ : ∃ q, q = w2.heap.size := ⟨_, rfl⟩
      rw [← hW_, ← hq_] at k_
      rw [← hW_, ← hq_]
      clear hq_
      have Rw3 : Hid (Loc w2 w3 [(gr, 35, [Value.int .i64 0, .slice none 0 0])]) := k_
      clear k_ hW_ H2
      simp only [Act.put, List.setIfInBounds_toArray, List.set_cons_succ, List.set_cons_zero]
      have hone : ∀ v ∈ [Value.int .i64 2, v2], v.oneCell' = true := by
        intro v hv
        simp only [List.mem_cons, List.not_mem_nil, or_false] at hv
        rcases hv with rfl | rfl
        · rfl
        · exact HL.out.1.one
      refine wlS rfl rfl _ (run_storeL ag35 (.tmp 4) (.tmp 10) rfl Rw3.out 0 rfl (0) rfl ([Value.int .i64 2, v2]) rfl rfl (Nat.le_refl _) hone).1 ?_
      have k_ := Rw3.out.lay 0 rfl (0) ([Value.int .i64 2, v2])
      rw [splice_all [Value.int .i64 0, .slice none 0 0] [Value.int .i64 2, v2] rfl] at k_ ⊢
      obtain ⟨w4, hW_⟩ : ∃ W, W = w3.setRow gr ([Value.int .i64 2, v2]).toArray := ⟨_, rfl⟩
      rw [← hW_] at k_ ⊢
      have Rw4 : Hid (Loc w2 w4 [(gr, 35, [Value.int .i64 2, v2])]) := k_
      clear k_ hW_ Rw3
      clear hone
      refine wpList_nil ?_
      have HL4 : Hid (IntsIn w4 v2 l2 ∧ 0 < l2.length) := ⟨HL.out.1.later Rw4.out.below, HL.out.2⟩
      go_upto_region 4 with fail
      refine wp_region_held (S := fun X => Loc w2 X [(gr, 35, [Value.int .i64 2, v2])] ∧ IntsIn X v2 l2) (by kernel_rfl) ?_
      show wpAnyH _ _ _ _ _ 8 (Array.replicate 8 false) _ _
      obtain ⟨X, hX⟩ : ∃ X : World, X = { w4 with drawn := w4.drawn + 1 } := ⟨_, rfl⟩
      rw [← hX]
      have hX0 : Loc w2 X [(gr, 35, [Value.int .i64 2, v2])] ∧ IntsIn X v2 l2 := by rw [hX]; exact ⟨Rw4.out.drew, HL4.out.1.later ⟨rfl, rfl, rfl, Nat.le_refl _, fun _ _ => rfl⟩⟩
      clear hX
      refine takeH (i := 0) (some 11) rfl rfl (by kernel_rfl) (by kernel_rfl) (by kernel_rfl) (fun _ _ _ h => h) (gRun rfl (.pointer (some ⟨gr, 0 + 1, none⟩)) fun _ h => run_fieldOp' f35_1 (.tmp 4) rfl gr (0) rfl) hX0 ?_
      simp only [Act.put, List.setIfInBounds_toArray, List.set_cons_succ, List.set_cons_zero]
      refine takeH (i := 1) (some 12) rfl rfl (by kernel_rfl) (by kernel_rfl) (by kernel_rfl) (fun _ _ _ h => h) (gRun rfl v2 fun _ h => run_load1 o22 (.tmp 11) rfl gr (0 + 1) rfl v2 ((h.1.at 0 rfl).at 1 _ rfl)) hX0 ?_
      simp only [Act.put, List.setIfInBounds_toArray, List.set_cons_succ, List.set_cons_zero]
      refine takeH (i := 3) (some 14) rfl rfl (by kernel_rfl) (by kernel_rfl) (by kernel_rfl) (fun _ _ _ h => h) (gRun rfl (.pointer (some ⟨gr, 0 + 1, none⟩)) fun _ h => run_fieldOp' f35_1 (.tmp 4) rfl gr (0) rfl) hX0 ?_
      simp only [Act.put, List.setIfInBounds_toArray, List.set_cons_succ, List.set_cons_zero]
      refine takeH (i := 4) (some 15) rfl rfl (by kernel_rfl) (by kernel_rfl) (by kernel_rfl) (fun _ _ _ h => h) (gRun rfl v2 fun _ h => run_load1 o22 (.tmp 14) rfl gr (0 + 1) rfl v2 ((h.1.at 0 rfl).at 1 _ rfl)) hX0 ?_
      simp only [Act.put, List.setIfInBounds_toArray, List.set_cons_succ, List.set_cons_zero]
      refine oneH (i := 2) (by kernel_rfl) ?_
      refine opCallG (some 13) rfl rfl rfl 19 _ (run_call eN19 [.tmp 12] _ rfl [v2] rfl) ?_
      refine (min_any X v2 l2 hX0.2 HL.out.2).mono ?_
      rintro e w' ⟨rfl, he⟩
      refine ⟨_, rfl, ?_⟩
      obtain rfl := he.symm
      clear he
      rw [HM.out.2.1]
      refine ⟨hX0, ?_⟩
      simp only [Act.put, List.setIfInBounds_toArray, List.set_cons_succ, List.set_cons_zero]
      refine oneH (i := 5) (by kernel_rfl) ?_
      refine opCallG (some 16) rfl rfl rfl 20 _ (run_call eN20 [.tmp 15] _ rfl [v2] rfl) ?_
      refine (max_any _ v2 l2 hX0.2 HL.out.2).mono ?_
      rintro e w' ⟨rfl, he⟩
      refine ⟨_, rfl, ?_⟩
      obtain rfl := he.symm
      clear he
      rw [HM.out.2.2]
      refine ⟨hX0, ?_⟩
      simp only [Act.put, List.setIfInBounds_toArray, List.set_cons_succ, List.set_cons_zero]
      refine takeH (i := 6) (some 5) rfl rfl (by kernel_rfl) (by kernel_rfl) (by kernel_rfl) (fun _ _ _ h => h) (gRun rfl (.int .i64 ml) fun _ h => run_asZ (.tmp 13) rfl (.int .i64 ml) rfl) hX0 ?_
      simp only [Act.put, List.setIfInBounds_toArray, List.set_cons_succ, List.set_cons_zero]
      refine takeH (i := 7) (some 6) rfl rfl (by kernel_rfl) (by kernel_rfl) (by kernel_rfl) (fun _ _ _ h => h) (gRun rfl (.int .i64 xl) fun _ h => run_asZ (.tmp 16) rfl (.int .i64 xl) rfl) hX0 ?_
      simp only [Act.put, List.setIfInBounds_toArray, List.set_cons_succ, List.set_cons_zero]
      refine wpAnyH_done (by kernel_rfl) ?_ _
      have HX : Hid (Below w2.heap.size w2 X ∧ X.cell? ⟨gr, 0, none⟩ = some (.int .i64 2)) := ⟨hX0.1.below, (hX0.1.at 0 rfl).at 0 _ rfl⟩
      have kgr := HX.out.2
      clear hX0 HL4 Rw4 HL
      have t2 : decide (ml < 32) = false := by simp; omega
      have t3 : decide (ml < 12) = false := by simp; omega
      have u0 : decide (4096 < xl) = false := by simp; omega
      have hy := wide_yes2 _ _ _ _ (show rowOk 2 l2 = true by rw [HM.out.1, show decide (32 ≤ ml) = true by simp; omega, show decide (xl ≤ 4096) = true by simp; omega]; rfl) HK.out.1
      have HY : Hid (wideTo l0 l1 l2 l3 3 = true) := hy
      clear hy
      go_wp2_with fail
      refine ⟨⟨3, by first | rfl | go_num, by omega, HY.out, HK.out.2.trans (HX.out.1.mono HK.out.2.size)⟩, ?_⟩
      simp [intOf]
    by_cases hk3 : k = 3
    · subst hk3
      have HL : Hid (IntsIn w2 v3 l3 ∧ 0 < l3.length) := ⟨HI.out.2.2.2.1.later HK.out.2, HI.out.2.2.2.2⟩
      obtain ⟨ml, hml⟩ : ∃ z, z = mn l3 := ⟨_, rfl⟩
      obtain ⟨xl, hxl⟩ : ∃ z, z = mx l3 := ⟨_, rfl⟩
      have HM : Hid (rowOk 3 l3 = (decide (12 ≤ ml) && decide (xl ≤ 4096)) ∧ mn l3 = ml ∧ mx l3 = xl) := ⟨by rw [hml, hxl]; rfl, hml.symm, hxl.symm⟩
      clear hml hxl
      have H2 : Hid (Loc w2 w2 []) := Loc.nil (Below.refl _ _)
      by_cases ha : ml < 12
      · go_upto_region 2 with fail
        refine wp_region_lit ?_
        refine wl rfl (.bool true) _ (run_lssZ (.tmp 8) (.const (.int .i64 4)) rfl 3 4 rfl rfl true rfl) ?_
        simp only [Act.put, List.setIfInBounds_toArray, List.set_cons_succ, List.set_cons_zero]
        refine wpList_nil ?_
        go_upto_region 3 with fail
        refine wp_region_lit ?_
        refine wl rfl (.agg [.int .i64 3, v3].toArray) _ (run_ix36_3 (.tmp 7) (.tmp 8) rfl v0 v1 v2 v3 rfl rfl) ?_
        simp only [Act.put, List.setIfInBounds_toArray, List.set_cons_succ, List.set_cons_zero]
        refine wl rfl (ptr w2.heap.size) _ (run_allocA ([Value.int .i64 0, .slice none 0 0]) zero35 rfl) ?_
        have k_ := H2.out.box 35 ([Value.int .i64 0, .slice none 0 0])
        obtain ⟨w3, hW_⟩ : ∃ W, W = w2.alloc (.cells ([Value.int .i64 0, .slice none 0 0]).toArray 35) := ⟨_, rfl⟩
        obtain ⟨gr, hq_⟩ : ∃ q, q = w2.heap.size := ⟨_, rfl⟩
        rw [← hW_, ← hq_] at k_
        rw [← hW_, ← hq_]
        clear hq_
        have Rw3 : Hid (Loc w2 w3 [(gr, 35, [Value.int .i64 0, .slice none 0 0])]) := k_
        clear k_ hW_ H2
        simp only [Act.put, List.setIfInBounds_toArray, List.set_cons_succ, List.set_cons_zero]
        have hone : ∀ v ∈ [Value.int .i64 3, v3], v.oneCell' = true := by
          intro v hv
          simp only [List.mem_cons, List.not_mem_nil, or_false] at hv
          rcases hv with rfl | rfl
          · rfl
          · exact HL.out.1.one
        refine wlS rfl rfl _ (run_storeL ag35 (.tmp 4) (.tmp 10) rfl Rw3.out 0 rfl (0) rfl ([Value.int .i64 3, v3]) rfl rfl (Nat.le_refl _) hone).1 ?_
        have k_ := Rw3.out.lay 0 rfl (0) ([Value.int .i64 3, v3])
        rw [splice_all [Value.int .i64 0, .slice none 0 0] [Value.int .i64 3, v3] rfl] at k_ ⊢
        obtain ⟨w4, hW_⟩ : ∃ W, W = w3.setRow gr ([Value.int .i64 3, v3]).toArray := ⟨_, rfl⟩
        rw [← hW_] at k_ ⊢
        have Rw4 : Hid (Loc w2 w4 [(gr, 35, [Value.int .i64 3, v3])]) := k_
        clear k_ hW_ Rw3
        clear hone
        refine wpList_nil ?_
        have HL4 : Hid (IntsIn w4 v3 l3 ∧ 0 < l3.length) := ⟨HL.out.1.later Rw4.out.below, HL.out.2⟩
        go_upto_region 4 with fail
        refine wp_region_held (S := fun X => Loc w2 X [(gr, 35, [Value.int .i64 3, v3])] ∧ IntsIn X v3 l3) (by kernel_rfl) ?_
        show wpAnyH _ _ _ _ _ 8 (Array.replicate 8 false) _ _
        obtain ⟨X, hX⟩ : ∃ X : World, X = { w4 with drawn := w4.drawn + 1 } := ⟨_, rfl⟩
        rw [← hX]
        have hX0 : Loc w2 X [(gr, 35, [Value.int .i64 3, v3])] ∧ IntsIn X v3 l3 := by rw [hX]; exact ⟨Rw4.out.drew, HL4.out.1.later ⟨rfl, rfl, rfl, Nat.le_refl _, fun _ _ => rfl⟩⟩
        clear hX
        refine takeH (i := 0) (some 11) rfl rfl (by kernel_rfl) (by kernel_rfl) (by kernel_rfl) (fun _ _ _ h => h) (gRun rfl (.pointer (some ⟨gr, 0 + 1, none⟩)) fun _ h => run_fieldOp' f35_1 (.tmp 4) rfl gr (0) rfl) hX0 ?_
        simp only [Act.put, List.setIfInBounds_toArray, List.set_cons_succ, List.set_cons_zero]
        refine takeH (i := 1) (some 12) rfl rfl (by kernel_rfl) (by kernel_rfl) (by kernel_rfl) (fun _ _ _ h => h) (gRun rfl v3 fun _ h => run_load1 o22 (.tmp 11) rfl gr (0 + 1) rfl v3 ((h.1.at 0 rfl).at 1 _ rfl)) hX0 ?_
        simp only [Act.put, List.setIfInBounds_toArray, List.set_cons_succ, List.set_cons_zero]
        refine takeH (i := 3) (some 14) rfl rfl (by kernel_rfl) (by kernel_rfl) (by kernel_rfl) (fun _ _ _ h => h) (gRun rfl (.pointer (some ⟨gr, 0 + 1, none⟩)) fun _ h => run_fieldOp' f35_1 (.tmp 4) rfl gr (0) rfl) hX0 ?_
        simp only [Act.put, List.setIfInBounds_toArray, List.set_cons_succ, List.set_cons_zero]
        refine takeH (i := 4) (some 15) rfl rfl (by kernel_rfl) (by kernel_rfl) (by kernel_rfl) (fun _ _ _ h => h) (gRun rfl v3 fun _ h => run_load1 o22 (.tmp 14) rfl gr (0 + 1) rfl v3 ((h.1.at 0 rfl).at 1 _ rfl)) hX0 ?_
        simp only [Act.put, List.setIfInBounds_toArray, List.set_cons_succ, List.set_cons_zero]
        refine oneH (i := 2) (by kernel_rfl) ?_
        refine opCallG (some 13) rfl rfl rfl 19 _ (run_call eN19 [.tmp 12] _ rfl [v3] rfl) ?_
        refine (min_any X v3 l3 hX0.2 HL.out.2).mono ?_
        rintro e w' ⟨rfl, he⟩
        refine ⟨_, rfl, ?_⟩
        obtain rfl := he.symm
        clear he
        rw [HM.out.2.1]
        refine ⟨hX0, ?_⟩
        simp only [Act.put, List.setIfInBounds_toArray, List.set_cons_succ, List.set_cons_zero]
        refine oneH (i := 5) (by kernel_rfl) ?_
        refine opCallG (some 16) rfl rfl rfl 20 _ (run_call eN20 [.tmp 15] _ rfl [v3] rfl) ?_
        refine (max_any _ v3 l3 hX0.2 HL.out.2).mono ?_
        rintro e w' ⟨rfl, he⟩
        refine ⟨_, rfl, ?_⟩
        obtain rfl := he.symm
        clear he
        rw [HM.out.2.2]
        refine ⟨hX0, ?_⟩
        simp only [Act.put, List.setIfInBounds_toArray, List.set_cons_succ, List.set_cons_zero]
        refine takeH (i := 6) (some 5) rfl rfl (by kernel_rfl) (by kernel_rfl) (by kernel_rfl) (fun _ _ _ h => h) (gRun rfl (.int .i64 ml) fun _ h => run_asZ (.tmp 13) rfl (.int .i64 ml) rfl) hX0 ?_
        simp only [Act.put, List.setIfInBounds_toArray, List.set_cons_succ, List.set_cons_zero]
        refine takeH (i := 7) (some 6) rfl rfl (by kernel_rfl) (by kernel_rfl) (by kernel_rfl) (fun _ _ _ h => h) (gRun rfl (.int .i64 xl) fun _ h => run_asZ (.tmp 16) rfl (.int .i64 xl) rfl) hX0 ?_
        simp only [Act.put, List.setIfInBounds_toArray, List.set_cons_succ, List.set_cons_zero]
        refine wpAnyH_done (by kernel_rfl) ?_ _
        have HX : Hid (Below w2.heap.size w2 X ∧ X.cell? ⟨gr, 0, none⟩ = some (.int .i64 3)) := ⟨hX0.1.below, (hX0.1.at 0 rfl).at 0 _ rfl⟩
        have kgr := HX.out.2
        clear hX0 HL4 Rw4 HL
        have t0 : decide (ml < 12) = true := by simp; omega
        obtain rfl : r = false := by rw [HV.out]; exact wide_no3 _ _ _ _ (by rw [HM.out.1, show decide (12 ≤ ml) = false by simp; omega]; rfl)
        clear HV
        go_wp2_with fail
        first
          | (rw [HPQ.out]; exact ⟨rfl, HK.out.2.trans (HX.out.1.mono HK.out.2.size)⟩)
          | (go_ret; rw [HPQ.out]; exact ⟨rfl, HK.out.2.trans (HX.out.1.mono HK.out.2.size)⟩)
      by_cases hb : 4096 < xl
      · go_upto_region 2 with fail
        refine wp_region_lit ?_
        refine wl rfl (.bool true) _ (run_lssZ (.tmp 8) (.const (.int .i64 4)) rfl 3 4 rfl rfl true rfl) ?_
        simp only [Act.put, List.setIfInBounds_toArray, List.set_cons_succ, List.set_cons_zero]
        refine wpList_nil ?_
        go_upto_region 3 with fail
        refine wp_region_lit ?_
        refine wl rfl (.agg [.int .i64 3, v3].toArray) _ (run_ix36_3 (.tmp 7) (.tmp 8) rfl v0 v1 v2 v3 rfl rfl) ?_
        simp only [Act.put, List.setIfInBounds_toArray, List.set_cons_succ, List.set_cons_zero]
        refine wl rfl (ptr w2.heap.size) _ (run_allocA ([Value.int .i64 0, .slice none 0 0]) zero35 rfl) ?_
        have k_ := H2.out.box 35 ([Value.int .i64 0, .slice none 0 0])
        obtain ⟨w3, hW_⟩ : ∃ W, W = w2.alloc (.cells ([Value.int .i64 0, .slice none 0 0]).toArray 35) := ⟨_, rfl⟩
        obtain ⟨gr, hq_⟩ : ∃ q, q = w2.heap.size := ⟨_, rfl⟩
        rw [← hW_, ← hq_] at k_
        rw [← hW_, ← hq_]
        clear hq_
        have Rw3 : Hid (Loc w2 w3 [(gr, 35, [Value.int .i64 0, .slice none 0 0])]) := k_
        clear k_ hW_ H2
        simp only [Act.put, List.setIfInBounds_toArray, List.set_cons_succ, List.set_cons_zero]
        have hone : ∀ v ∈ [Value.int .i64 3, v3], v.oneCell' = true := by
          intro v hv
          simp only [List.mem_cons, List.not_mem_nil, or_false] at hv
          rcases hv with rfl | rfl
          · rfl
          · exact HL.out.1.one
        refine wlS rfl rfl _ (run_storeL ag35 (.tmp 4) (.tmp 10) rfl Rw3.out 0 rfl (0) rfl ([Value.int .i64 3, v3]) rfl rfl (Nat.le_refl _) hone).1 ?_
        have k_ := Rw3.out.lay 0 rfl (0) ([Value.int .i64 3, v3])
        rw [splice_all [Value.int .i64 0, .slice none 0 0] [Value.int .i64 3, v3] rfl] at k_ ⊢
        obtain ⟨w4, hW_⟩ : ∃ W, W = w3.setRow gr ([Value.int .i64 3, v3]).toArray := ⟨_, rfl⟩
        rw [← hW_] at k_ ⊢
        have Rw4 : Hid (Loc w2 w4 [(gr, 35, [Value.int .i64 3, v3])]) := k_
        clear k_ hW_ Rw3
        clear hone
        refine wpList_nil ?_
        have HL4 : Hid (IntsIn w4 v3 l3 ∧ 0 < l3.length) := ⟨HL.out.1.later Rw4.out.below, HL.out.2⟩
        go_upto_region 4 with fail
        refine wp_region_held (S := fun X => Loc w2 X [(gr, 35, [Value.int .i64 3, v3])] ∧ IntsIn X v3 l3) (by kernel_rfl) ?_
        show wpAnyH _ _ _ _ _ 8 (Array.replicate 8 false) _ _
        obtain ⟨X, hX⟩ : ∃ X : World, X = { w4 with drawn := w4.drawn + 1 } := ⟨_, rfl⟩
        rw [← hX]
        have hX0 : Loc w2 X [(gr, 35, [Value.int .i64 3, v3])] ∧ IntsIn X v3 l3 := by rw [hX]; exact ⟨Rw4.out.drew, HL4.out.1.later ⟨rfl, rfl, rfl, Nat.le_refl _, fun _ _ => rfl⟩⟩
        clear hX
        refine takeH (i := 0) (some 11) rfl rfl (by kernel_rfl) (by kernel_rfl) (by kernel_rfl) (fun _ _ _ h => h) (gRun rfl (.pointer (some ⟨gr, 0 + 1, none⟩)) fun _ h => run_fieldOp' f35_1 (.tmp 4) rfl gr (0) rfl) hX0 ?_
        simp only [Act.put, List.setIfInBounds_toArray, List.set_cons_succ, List.set_cons_zero]
        refine takeH (i := 1) (some 12) rfl rfl (by kernel_rfl) (by kernel_rfl) (by kernel_rfl) (fun _ _ _ h => h) (gRun rfl v3 fun _ h => run_load1 o22 (.tmp 11) rfl gr (0 + 1) rfl v3 ((h.1.at 0 rfl).at 1 _ rfl)) hX0 ?_
        simp only [Act.put, List.setIfInBounds_toArray, List.set_cons_succ, List.set_cons_zero]
        refine takeH (i := 3) (some 14) rfl rfl (by kernel_rfl) (by kernel_rfl) (by kernel_rfl) (fun _ _ _ h => h) (gRun rfl (.pointer (some ⟨gr, 0 + 1, none⟩)) fun _ h => run_fieldOp' f35_1 (.tmp 4) rfl gr (0) rfl) hX0 ?_
        simp only [Act.put, List.setIfInBounds_toArray, List.set_cons_succ, List.set_cons_zero]
        refine takeH (i := 4) (some 15) rfl rfl (by kernel_rfl) (by kernel_rfl) (by kernel_rfl) (fun _ _ _ h => h) (gRun rfl v3 fun _ h => run_load1 o22 (.tmp 14) rfl gr (0 + 1) rfl v3 ((h.1.at 0 rfl).at 1 _ rfl)) hX0 ?_
        simp only [Act.put, List.setIfInBounds_toArray, List.set_cons_succ, List.set_cons_zero]
        refine oneH (i := 2) (by kernel_rfl) ?_
        refine opCallG (some 13) rfl rfl rfl 19 _ (run_call eN19 [.tmp 12] _ rfl [v3] rfl) ?_
        refine (min_any X v3 l3 hX0.2 HL.out.2).mono ?_
        rintro e w' ⟨rfl, he⟩
        refine ⟨_, rfl, ?_⟩
        obtain rfl := he.symm
        clear he
        rw [HM.out.2.1]
        refine ⟨hX0, ?_⟩
        simp only [Act.put, List.setIfInBounds_toArray, List.set_cons_succ, List.set_cons_zero]
        refine oneH (i := 5) (by kernel_rfl) ?_
        refine opCallG (some 16) rfl rfl rfl 20 _ (run_call eN20 [.tmp 15] _ rfl [v3] rfl) ?_
        refine (max_any _ v3 l3 hX0.2 HL.out.2).mono ?_
        rintro e w' ⟨rfl, he⟩
        refine ⟨_, rfl, ?_⟩
        obtain rfl := he.symm
        clear he
        rw [HM.out.2.2]
        refine ⟨hX0, ?_⟩
        simp only [Act.put, List.setIfInBounds_toArray, List.set_cons_succ, List.set_cons_zero]
        refine takeH (i := 6) (some 5) rfl rfl (by kernel_rfl) (by kernel_rfl) (by kernel_rfl) (fun _ _ _ h => h) (gRun rfl (.int .i64 ml) fun _ h => run_asZ (.tmp 13) rfl (.int .i64 ml) rfl) hX0 ?_
        simp only [Act.put, List.setIfInBounds_toArray, List.set_cons_succ, List.set_cons_zero]
        refine takeH (i := 7) (some 6) rfl rfl (by kernel_rfl) (by kernel_rfl) (by kernel_rfl) (fun _ _ _ h => h) (gRun rfl (.int .i64 xl) fun _ h => run_asZ (.tmp 16) rfl (.int .i64 xl) rfl) hX0 ?_
        simp only [Act.put, List.setIfInBounds_toArray, List.set_cons_succ, List.set_cons_zero]
        refine wpAnyH_done (by kernel_rfl) ?_ _
        have HX : Hid (Below w2.heap.size w2 X ∧ X.cell? ⟨gr, 0, none⟩ = some (.int .i64 3)) := ⟨hX0.1.below, (hX0.1.at 0 rfl).at 0 _ rfl⟩
        have kgr := HX.out.2
        clear hX0 HL4 Rw4 HL
        have t3 : decide (ml < 12) = false := by simp; omega
        have u0 : decide (4096 < xl) = true := by simp; omega
        obtain rfl : r = false := by rw [HV.out]; exact wide_no3 _ _ _ _ (by rw [HM.out.1, show decide (xl ≤ 4096) = false by simp; omega, Bool.and_false])
        clear HV
        go_wp2_with fail
        first
          | (rw [HPQ.out]; exact ⟨rfl, HK.out.2.trans (HX.out.1.mono HK.out.2.size)⟩)
          | (go_ret; rw [HPQ.out]; exact ⟨rfl, HK.out.2.trans (HX.out.1.mono HK.out.2.size)⟩)
      go_upto_region 2 with fail
      refine wp_region_lit ?_
      refine wl rfl (.bool true) _ (run_lssZ (.tmp 8) (.const (.int .i64 4)) rfl 3 4 rfl rfl true rfl) ?_
      simp only [Act.put, List.setIfInBounds_toArray, List.set_cons_succ, List.set_cons_zero]
      refine wpList_nil ?_
      go_upto_region 3 with fail
      refine wp_region_lit ?_
      refine wl rfl (.agg [.int .i64 3, v3].toArray) _ (run_ix36_3 (.tmp 7) (.tmp 8) rfl v0 v1 v2 v3 rfl rfl) ?_
      simp only [Act.put, List.setIfInBounds_toArray, List.set_cons_succ, List.set_cons_zero]
      refine wl rfl (ptr w2.heap.size) _ (run_allocA ([Value.int .i64 0, .slice none 0 0]) zero35 rfl) ?_
      have k_ := H2.out.box 35 ([Value.int .i64 0, .slice none 0 0])
      obtain ⟨w3, hW_⟩ : ∃ W, W = w2.alloc (.cells ([Value.int .i64 0, .slice none 0 0]).toArray 35) := ⟨_, rfl⟩
      obtain ⟨gr, hq_⟩ : ∃ q, q = w2.heap.size := ⟨_, rfl⟩
      rw [← hW_, ← hq_] at k_
      rw [← hW_, ← hq_]
      clear hq_
      have Rw3 : Hid (Loc w2 w3 [(gr, 35, [Value.int .i64 0, .slice none 0 0])]) := k_
      clear k_ hW_ H2
      simp only [Act.put, List.setIfInBounds_toArray, List.set_cons_succ, List.set_cons_zero]
      have hone : ∀ v ∈ [Value.int .i64 3, v3], v.oneCell' = true := by
        intro v hv
        simp only [List.mem_cons, List.not_mem_nil, or_false] at hv
        rcases hv with rfl | rfl
        · rfl
        · exact HL.out.1.one
      refine wlS rfl rfl _ (run_storeL ag35 (.tmp 4) (.tmp 10) rfl Rw3.out 0 rfl (0) rfl ([Value.int .i64 3, v3]) rfl rfl (Nat.le_refl _) hone).1 ?_
      have k_ := Rw3.out.lay 0 rfl (0) ([Value.int .i64 3, v3])
      rw [splice_all [Value.int .i64 0, .slice none 0 0] [Value.int .i64 3, v3] rfl] at k_ ⊢
      obtain ⟨w4, hW_⟩ : ∃ W, W = w3.setRow gr ([Value.int .i64 3, v3]).toArray := ⟨_, rfl⟩
      rw [← hW_] at k_ ⊢
      have Rw4 : Hid (Loc w2 w4 [(gr, 35, [Value.int .i64 3, v3])]) := k_
      clear k_ hW_ Rw3
      clear hone
      refine wpList_nil ?_
      have HL4 : Hid (IntsIn w4 v3 l3 ∧ 0 < l3.length) := ⟨HL.out.1.later Rw4.out.below, HL.out.2⟩
      go_upto_region 4 with fail
      refine wp_region_held (S := fun X => Loc w2 X [(gr, 35, [Value.int .i64 3, v3])] ∧ IntsIn X v3 l3) (by kernel_rfl) ?_
      show wpAnyH _ _ _ _ _ 8 (Array.replicate 8 false) _ _
      obtain ⟨X, hX⟩ : ∃ X : World, X = { w4 with drawn := w4.drawn + 1 } := ⟨_, rfl⟩
      rw [← hX]
      have hX0 : Loc w2 X [(gr, 35, [Value.int .i64 3, v3])] ∧ IntsIn X v3 l3 := by rw [hX]; exact ⟨Rw4.out.drew, HL4.out.1.later ⟨rfl, rfl, rfl, Nat.le_refl _, fun _ _ => rfl⟩⟩
      clear hX
      refine takeH (i := 0) (some 11) rfl rfl (by kernel_rfl) (by kernel_rfl) (by kernel_rfl) (fun _ _ _ h => h) (gRun rfl (.pointer (some ⟨gr, 0 + 1, none⟩)) fun _ h => run_fieldOp' f35_1 (.tmp 4) rfl gr (0) rfl) hX0 ?_
      simp only [Act.put, List.setIfInBounds_toArray, List.set_cons_succ, List.set_cons_zero]
      refine takeH (i := 1) (some 12) rfl rfl (by kernel_rfl) (by kernel_rfl) (by kernel_rfl) (fun _ _ _ h => h) (gRun rfl v3 fun _ h => run_load1 o22 (.tmp 11) rfl gr (0 + 1) rfl v3 ((h.1.at 0 rfl).at 1 _ rfl)) hX0 ?_
      simp only [Act.put, List.setIfInBounds_toArray, List.set_cons_succ, List.set_cons_zero]
      refine takeH (i := 3) (some 14) rfl rfl (by kernel_rfl) (by kernel_rfl) (by kernel_rfl) (fun _ _ _ h => h) (gRun rfl (.pointer (some ⟨gr, 0 + 1, none⟩)) fun _ h => run_fieldOp' f35_1 (.tmp 4) rfl gr (0) rfl) hX0 ?_
      simp only [Act.put, List.setIfInBounds_toArray, List.set_cons_succ, List.set_cons_zero]
      refine takeH (i := 4) (some 15) rfl rfl (by kernel_rfl) (by kernel_rfl) (by kernel_rfl) (fun _ _ _ h => h) (gRun rfl v3 fun _ h => run_load1 o22 (.tmp 14) rfl gr (0 + 1) rfl v3 ((h.1.at 0 rfl).at 1 _ rfl)) hX0 ?_
      simp only [Act.put, List.setIfInBounds_toArray, List.set_cons_succ, List.set_cons_zero]
      refine oneH (i := 2) (by kernel_rfl) ?_
      refine opCallG (some 13) rfl rfl rfl 19 _ (run_call eN19 [.tmp 12] _ rfl [v3] rfl) ?_
      refine (min_any X v3 l3 hX0.2 HL.out.2).mono ?_
      rintro e w' ⟨rfl, he⟩
      refine ⟨_, rfl, ?_⟩
      obtain rfl := he.symm
      clear he
      rw [HM.out.2.1]
      refine ⟨hX0, ?_⟩
      simp only [Act.put, List.setIfInBounds_toArray, List.set_cons_succ, List.set_cons_zero]
      refine oneH (i := 5) (by kernel_rfl) ?_
      refine opCallG (some 16) rfl rfl rfl 20 _ (run_call eN20 [.tmp 15] _ rfl [v3] rfl) ?_
      refine (max_any _ v3 l3 hX0.2 HL.out.2).mono ?_
      rintro e w' ⟨rfl, he⟩
      refine ⟨_, rfl, ?_⟩
      obtain rfl := he.symm
      clear he
      rw [HM.out.2.2]
      refine ⟨hX0, ?_⟩
      simp only [Act.put, List.setIfInBounds_toArray, List.set_cons_succ, List.set_cons_zero]
      refine takeH (i := 6) (some 5) rfl rfl (by kernel_rfl) (by kernel_rfl) (by kernel_rfl) (fun _ _ _ h => h) (gRun rfl (.int .i64 ml) fun _ h => run_asZ (.tmp 13) rfl (.int .i64 ml) rfl) hX0 ?_
      simp only [Act.put, List.setIfInBounds_toArray, List.set_cons_succ, List.set_cons_zero]
      refine takeH (i := 7) (some 6) rfl rfl (by kernel_rfl) (by kernel_rfl) (by kernel_rfl) (fun _ _ _ h => h) (gRun rfl (.int .i64 xl) fun _ h => run_asZ (.tmp 16) rfl (.int .i64 xl) rfl) hX0 ?_
      simp only [Act.put, List.setIfInBounds_toArray, List.set_cons_succ, List.set_cons_zero]
      refine wpAnyH_done (by kernel_rfl) ?_ _
      have HX : Hid (Below w2.heap.size w2 X ∧ X.cell? ⟨gr, 0, none⟩ = some (.int .i64 3)) := ⟨hX0.1.below, (hX0.1.at 0 rfl).at 0 _ rfl⟩
      have kgr := HX.out.2
      clear hX0 HL4 Rw4 HL
      have t3 : decide (ml < 12) = false := by simp; omega
      have u0 : decide (4096 < xl) = false := by simp; omega
      have hy := wide_yes3 _ _ _ _ (show rowOk 3 l3 = true by rw [HM.out.1, show decide (12 ≤ ml) = true by simp; omega, show decide (xl ≤ 4096) = true by simp; omega]; rfl) HK.out.1
      have HY : Hid (wideTo l0 l1 l2 l3 4 = true) := hy
      clear hy
      go_wp2_with fail
      refine ⟨⟨4, by first | rfl | go_num, by omega, HY.out, HK.out.2.trans (HX.out.1.mono HK.out.2.size)⟩, ?_⟩
      simp [intOf]
    obtain rfl : k = 4 := by omega
    obtain rfl : r = true := by rw [HV.out, ← wideTo_four]; exact HK.out.1
    clear HV
    go_upto_region 2 with fail
    refine wp_region_lit ?_
    refine wl rfl (.bool false) _ (run_lssZ (.tmp 8) (.const (.int .i64 4)) rfl 4 4 rfl rfl false rfl) ?_
    simp only [Act.put, List.setIfInBounds_toArray, List.set_cons_succ, List.set_cons_zero]
    refine wpList_nil ?_
    go_wp2_with fail
    first
      | (rw [HPQ.out]; exact ⟨rfl, HK.out.2⟩)
      | (go_ret; rw [HPQ.out]; exact ⟨rfl, HK.out.2⟩)

end Go.Proofs.Ytbmlbnbhjligdaa

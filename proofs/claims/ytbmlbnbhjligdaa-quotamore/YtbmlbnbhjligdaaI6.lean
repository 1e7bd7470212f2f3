/- The rows of what a shape must have. -/
import Derived.Test.YtbmlbnbhjligdaaI5
namespace Go.Proofs.Ytbmlbnbhjligdaa
open Go.RowKit Go.MapKept

theorem elem22 : Try.prog.elem 22 = 3 := by kernel_rfl
/-- one number of a row, cut out -/
theorem IntsIn.cut1 {w : World} {v : Value} {l : List Int} (h : IntsIn w v l) (k : Nat) (hk : k < l.length) : ∃ v', (∀ w', (Instr.slice 22 v (some (.int .i64 (k : Nat))) (some (.int .i64 ((k + 1 : Nat) : Int))) none).run Try.prog w' = .ok v' w') ∧ IntsIn w v' [nth l k] := by
  have hbd := h.bd k hk
  obtain ⟨p, cap, rfl, h1, h2, hc, _⟩ := h
  obtain ⟨i, hi5, hsz⟩ := Option.map_eq_some_iff.1 s3
  have hsize : ∀ w' : World, (sizeOf 3).run Try.prog w' = .ok 1 w' := fun w' => by simp [sizeOf, typeInfo, hi5, hsz]
  refine ⟨sliced p k (k + 1) cap 1, fun w' => by rw [run_slice_lh _ _ _ _ _ u22 _ _ _ _ (by omega) (by omega) (by omega), elem22, hsize]; rfl, ?_⟩
  rcases hc with rfl | ⟨b, off, rfl, hc⟩
  · simp at hk
  · refine ⟨some ⟨b, off + k, none⟩, cap - k, ?_, ?_, by simp, Or.inr ⟨b, off + k, rfl, fun j hj => ?_⟩, ?_⟩
    · unfold sliced
      rw [if_neg (by omega), Option.map_some, Nat.mul_one, add_none, show k + 1 - k = 1 by omega]
      rfl
    · show 1 ≤ cap - k
      omega
    · obtain rfl : j = 0 := by simp at hj; omega
      exact hc k hk
    · intro z hz
      rw [List.mem_singleton.1 hz]
      exact hbd
section
variable {w : World} {a : Act} {o : Oper}
theorem run_build35 (x y : Operand) (ho : o.op = .build 35 #[(0, x), (1, y)]) (k : Int) (v : Value) (hv : ∃ p n c, v = .slice p n c) (hx : a.eval x = .int .i64 k) (hy : a.eval y = v) : (execOp a.eval o).run Try.prog w = .ok (.value (.agg [.int .i64 k, v].toArray)) w := by
  obtain ⟨p, n, c, rfl⟩ := hv
  have hr : (Instr.build 35 #[(0, .int .i64 k), (1, .slice p n c)]).run Try.prog w = .ok (.agg [.int .i64 k, .slice p n c].toArray) w := by kernel_rfl
  simp only [execOp, ho, List.map_toArray, List.map_cons, List.map_nil, hx, hy, hr, Sem.run_bind, Sem.run_pure, Result.andThen_ok]
def rowCells (a b c d : Value) : List Value := [.int .i64 0, a, .int .i64 1, b, .int .i64 2, c, .int .i64 3, d]
theorem run_build36 (x y z u : Operand) (ho : o.op = .build 36 #[(0, x), (1, y), (2, z), (3, u)]) (v0 v1 v2 v3 : Value) (h0 : ∃ p n c, v0 = .slice p n c) (h1 : ∃ p n c, v1 = .slice p n c) (h2 : ∃ p n c, v2 = .slice p n c) (h3 : ∃ p n c, v3 = .slice p n c)
    (hx : a.eval x = .agg [.int .i64 0, v0].toArray) (hy : a.eval y = .agg [.int .i64 1, v1].toArray) (hz : a.eval z = .agg [.int .i64 2, v2].toArray) (hu : a.eval u = .agg [.int .i64 3, v3].toArray) : (execOp a.eval o).run Try.prog w = .ok (.value (.agg (rowCells v0 v1 v2 v3).toArray)) w := by
  obtain ⟨p, n, c, rfl⟩ := h0
  obtain ⟨p1, n1, c1, rfl⟩ := h1
  obtain ⟨p2, n2, c2, rfl⟩ := h2
  obtain ⟨p3, n3, c3, rfl⟩ := h3
  have hr : (Instr.build 36 #[(0, .agg [.int .i64 0, .slice p n c].toArray), (1, .agg [.int .i64 1, .slice p1 n1 c1].toArray), (2, .agg [.int .i64 2, .slice p2 n2 c2].toArray), (3, .agg [.int .i64 3, .slice p3 n3 c3].toArray)]).run Try.prog w = .ok (.agg (rowCells (.slice p n c) (.slice p1 n1 c1) (.slice p2 n2 c2) (.slice p3 n3 c3)).toArray) w := by kernel_rfl
  simp only [execOp, ho, List.map_toArray, List.map_cons, List.map_nil, hx, hy, hz, hu, hr, Sem.run_bind, Sem.run_pure, Result.andThen_ok]
theorem run_slice22 (x : Operand) (l r : Operand) (ho : o.op = .slice 22 x (some l) (some r) none) (v v' L R : Value) (hx : a.eval x = v) (hl : a.eval l = L) (hr : a.eval r = R) (h : (Instr.slice 22 v (some L) (some R) none).run Try.prog w = .ok v' w) : (execOp a.eval o).run Try.prog w = .ok (.value v') w := by
  simp only [execOp, ho, hx, hl, hr, Option.map_some, Option.map_none, run_sliceAt_slice _ _ _ _ _ _ u22, h, Sem.run_bind, Sem.run_pure, Result.andThen_ok]
end
def zz36 : List Value := [.int .i64 0, .slice none 0 0, .int .i64 0, .slice none 0 0, .int .i64 0, .slice none 0 0, .int .i64 0, .slice none 0 0]
theorem zero36 : (Try.prog.info? 36).map (·.zero) = some (some (.agg zz36.toArray)) := by kernel_rfl
set_option maxHeartbeats 1000000 in
set_option maxRecDepth 100000 in
theorem rows_any (w : World) (vd vt : Value) (ds ts : List Int) (hs : ShIn w vd vt ds ts) (h3 : ds.length = 3) : Calls Try.prog 17 #[.agg #[vd, vt]] w fun e w' => ∃ v0 v1 v2, e = .returned (.agg (rowCells v0 v1 v2 vt).toArray) ∧ Below w.heap.size w w' ∧ IntsIn w v0 [nth ds 1] ∧ IntsIn w v1 [nth ds 0] ∧ IntsIn w v2 [nth ds 2] := by
  have H0 : Hid (Loc w w []) := Loc.nil (Below.refl _ _)
  obtain ⟨c0, r0, i0⟩ := hs.d.cut1 1 (by omega)
  obtain ⟨c1, r1, i1⟩ := hs.d.cut1 0 (by omega)
  obtain ⟨c2, r2, i2⟩ := hs.d.cut1 2 (by omega)
  have HC : Hid (((∀ w', (Instr.slice 22 vd (some (.int .i64 1)) (some (.int .i64 2)) none).run Try.prog w' = .ok c0 w') ∧ (∀ w', (Instr.slice 22 vd (some (.int .i64 0)) (some (.int .i64 1)) none).run Try.prog w' = .ok c1 w') ∧ (∀ w', (Instr.slice 22 vd (some (.int .i64 2)) (some (.int .i64 3)) none).run Try.prog w' = .ok c2 w'))) := ⟨r0, r1, r2⟩
  have HI : Hid (IntsIn w c0 [nth ds 1] ∧ IntsIn w c1 [nth ds 0] ∧ IntsIn w c2 [nth ds 2]) := ⟨i0, i1, i2⟩
  have HT := hs.t.isSlice.2
  have HT1 := hs.t.one
  obtain ⟨PQ, HPQ⟩ : ∃ PQ : Ending → World → Prop, Hid (PQ = fun (e : Ending) (w' : World) => ∃ v0 v1 v2, e = .returned (.agg (rowCells v0 v1 v2 vt).toArray) ∧ Below w.heap.size w w' ∧ IntsIn w v0 [nth ds 1] ∧ IntsIn w v1 [nth ds 0] ∧ IntsIn w v2 [nth ds 2]) := ⟨_, rfl⟩
  rw [← HPQ.out]
  clear r0 r1 r2 i0 i1 i2 hs h3
  go_enter Try.func17, Try.ntmps17
  go_upto_region 0 with fail
  refine wp_region_lit ?_
  refine wl rfl (ptr w.heap.size) _ (run_boxA (.tmp 0) rfl ([vd, vt]) rfl) ?_
  have k_ := H0.out.box 24 ([vd, vt])
  obtain ⟨w1, hW_⟩ : ∃ W, W = w.alloc (.cells ([vd, vt]).toArray 24) := ⟨_, rfl⟩
  obtain ⟨gb, hq_⟩ : ∃ q, q = w.heap.size := ⟨_, rfl⟩
  rw [← hW_, ← hq_] at k_
  rw [← hW_, ← hq_]
  clear hq_
  have Rw1 : Hid (Loc w w1 [(gb, 24, [vd, vt])]) := k_
  clear k_ hW_ H0
  simp only [Act.put, List.setIfInBounds_toArray, List.set_cons_succ, List.set_cons_zero]
  refine wl rfl (ptr w1.heap.size) _ (run_allocA (zz36) zero36 rfl) ?_
  have k_ := Rw1.out.box 36 (zz36)
  obtain ⟨w2, hW_⟩ : ∃ W, W = w1.alloc (.cells (zz36).toArray 36) := ⟨_, rfl⟩
  obtain ⟨gp, hq_⟩ : ∃ q, q = w1.heap.size := ⟨_, rfl⟩
  rw [← hW_, ← hq_] at k_
  rw [← hW_, ← hq_]
  clear hq_
  have Rw2 : Hid (Loc w w2 [(gb, 24, [vd, vt]), (gp, 36, zz36)]) := k_
  clear k_ hW_ Rw1
  simp only [Act.put, List.setIfInBounds_toArray, List.set_cons_succ, List.set_cons_zero]
  refine wpList_nil ?_
  go_upto_region 1 with fail
  refine wp_region_held (S := fun X => ∃ cs : List Value, cs.length = 8 ∧ Loc w X [(gb, 24, [vd, vt]), (gp, 36, cs)]) (by kernel_rfl) ?_
  show wpAnyH _ _ _ _ _ 17 (Array.replicate 17 false) _ _
  obtain ⟨X, hX⟩ : ∃ X : World, X = { w2 with drawn := w2.drawn + 1 } := ⟨_, rfl⟩
  rw [← hX]
  have hX0 : Loc w X [(gb, 24, [vd, vt]), (gp, 36, zz36)] := by rw [hX]; exact Rw2.out.drew
  clear hX
  refine takeH (i := 0) (some 3) rfl rfl (by kernel_rfl) (by kernel_rfl) (by kernel_rfl) (fun _ _ _ h => h) (gRun rfl (.pointer (some ⟨gb, 0 + 0, none⟩)) fun _ h => run_fieldOp' f24_0 (.tmp 1) rfl gb (0) rfl) ⟨zz36, rfl, hX0⟩ ?_
  simp only [Act.put, List.setIfInBounds_toArray, List.set_cons_succ, List.set_cons_zero]
  refine takeH (i := 1) (some 4) rfl rfl (by kernel_rfl) (by kernel_rfl) (by kernel_rfl) (fun _ _ _ h => h) (gRun rfl vd fun _ h => run_load1 o22 (.tmp 3) rfl gb (0 + 0) rfl vd ((h.choose_spec.2.at 0 rfl).at 0 _ rfl)) ⟨zz36, rfl, hX0⟩ ?_
  simp only [Act.put, List.setIfInBounds_toArray, List.set_cons_succ, List.set_cons_zero]
  refine takeH (i := 2) (some 5) rfl rfl (by kernel_rfl) (by kernel_rfl) (by kernel_rfl) (fun _ _ _ h => h) (gRun rfl c0 fun _ h => run_slice22 (.tmp 4) (.const (.int .i64 1)) (.const (.int .i64 2)) rfl vd c0 _ _ rfl rfl rfl (HC.out.1 _)) ⟨zz36, rfl, hX0⟩ ?_
  simp only [Act.put, List.setIfInBounds_toArray, List.set_cons_succ, List.set_cons_zero]
  refine takeH (i := 3) (some 6) rfl rfl (by kernel_rfl) (by kernel_rfl) (by kernel_rfl) (fun _ _ _ h => h) (gRun rfl (.agg [.int .i64 0, c0].toArray) fun _ h => run_build35 (.const (.int .i64 0)) (.tmp 5) rfl 0 c0 HI.out.1.isSlice.2 rfl rfl) ⟨zz36, rfl, hX0⟩ ?_
  simp only [Act.put, List.setIfInBounds_toArray, List.set_cons_succ, List.set_cons_zero]
  refine takeH (i := 4) (some 7) rfl rfl (by kernel_rfl) (by kernel_rfl) (by kernel_rfl) (fun _ _ _ h => h) (gRun rfl (.pointer (some ⟨gb, 0 + 0, none⟩)) fun _ h => run_fieldOp' f24_0 (.tmp 1) rfl gb (0) rfl) ⟨zz36, rfl, hX0⟩ ?_
  simp only [Act.put, List.setIfInBounds_toArray, List.set_cons_succ, List.set_cons_zero]
  refine takeH (i := 5) (some 8) rfl rfl (by kernel_rfl) (by kernel_rfl) (by kernel_rfl) (fun _ _ _ h => h) (gRun rfl vd fun _ h => run_load1 o22 (.tmp 7) rfl gb (0 + 0) rfl vd ((h.choose_spec.2.at 0 rfl).at 0 _ rfl)) ⟨zz36, rfl, hX0⟩ ?_
  simp only [Act.put, List.setIfInBounds_toArray, List.set_cons_succ, List.set_cons_zero]
  refine takeH (i := 6) (some 9) rfl rfl (by kernel_rfl) (by kernel_rfl) (by kernel_rfl) (fun _ _ _ h => h) (gRun rfl c1 fun _ h => run_slice22 (.tmp 8) (.const (.int .i64 0)) (.const (.int .i64 1)) rfl vd c1 _ _ rfl rfl rfl (HC.out.2.1 _)) ⟨zz36, rfl, hX0⟩ ?_
  simp only [Act.put, List.setIfInBounds_toArray, List.set_cons_succ, List.set_cons_zero]
  refine takeH (i := 7) (some 10) rfl rfl (by kernel_rfl) (by kernel_rfl) (by kernel_rfl) (fun _ _ _ h => h) (gRun rfl (.agg [.int .i64 1, c1].toArray) fun _ h => run_build35 (.const (.int .i64 1)) (.tmp 9) rfl 1 c1 HI.out.2.1.isSlice.2 rfl rfl) ⟨zz36, rfl, hX0⟩ ?_
  simp only [Act.put, List.setIfInBounds_toArray, List.set_cons_succ, List.set_cons_zero]
  refine takeH (i := 8) (some 11) rfl rfl (by kernel_rfl) (by kernel_rfl) (by kernel_rfl) (fun _ _ _ h => h) (gRun rfl (.pointer (some ⟨gb, 0 + 0, none⟩)) fun _ h => run_fieldOp' f24_0 (.tmp 1) rfl gb (0) rfl) ⟨zz36, rfl, hX0⟩ ?_
  simp only [Act.put, List.setIfInBounds_toArray, List.set_cons_succ, List.set_cons_zero]
  refine takeH (i := 9) (some 12) rfl rfl (by kernel_rfl) (by kernel_rfl) (by kernel_rfl) (fun _ _ _ h => h) (gRun rfl vd fun _ h => run_load1 o22 (.tmp 11) rfl gb (0 + 0) rfl vd ((h.choose_spec.2.at 0 rfl).at 0 _ rfl)) ⟨zz36, rfl, hX0⟩ ?_
  simp only [Act.put, List.setIfInBounds_toArray, List.set_cons_succ, List.set_cons_zero]
  refine takeH (i := 10) (some 13) rfl rfl (by kernel_rfl) (by kernel_rfl) (by kernel_rfl) (fun _ _ _ h => h) (gRun rfl c2 fun _ h => run_slice22 (.tmp 12) (.const (.int .i64 2)) (.const (.int .i64 3)) rfl vd c2 _ _ rfl rfl rfl (HC.out.2.2 _)) ⟨zz36, rfl, hX0⟩ ?_
  simp only [Act.put, List.setIfInBounds_toArray, List.set_cons_succ, List.set_cons_zero]
  refine takeH (i := 11) (some 14) rfl rfl (by kernel_rfl) (by kernel_rfl) (by kernel_rfl) (fun _ _ _ h => h) (gRun rfl (.agg [.int .i64 2, c2].toArray) fun _ h => run_build35 (.const (.int .i64 2)) (.tmp 13) rfl 2 c2 HI.out.2.2.isSlice.2 rfl rfl) ⟨zz36, rfl, hX0⟩ ?_
  simp only [Act.put, List.setIfInBounds_toArray, List.set_cons_succ, List.set_cons_zero]
  refine takeH (i := 12) (some 15) rfl rfl (by kernel_rfl) (by kernel_rfl) (by kernel_rfl) (fun _ _ _ h => h) (gRun rfl (.pointer (some ⟨gb, 0 + 1, none⟩)) fun _ h => run_fieldOp' f24_1 (.tmp 1) rfl gb (0) rfl) ⟨zz36, rfl, hX0⟩ ?_
  simp only [Act.put, List.setIfInBounds_toArray, List.set_cons_succ, List.set_cons_zero]
  refine takeH (i := 13) (some 16) rfl rfl (by kernel_rfl) (by kernel_rfl) (by kernel_rfl) (fun _ _ _ h => h) (gRun rfl vt fun _ h => run_load1 o22 (.tmp 15) rfl gb (0 + 1) rfl vt ((h.choose_spec.2.at 0 rfl).at 1 _ rfl)) ⟨zz36, rfl, hX0⟩ ?_
  simp only [Act.put, List.setIfInBounds_toArray, List.set_cons_succ, List.set_cons_zero]
  refine takeH (i := 14) (some 17) rfl rfl (by kernel_rfl) (by kernel_rfl) (by kernel_rfl) (fun _ _ _ h => h) (gRun rfl (.agg [.int .i64 3, vt].toArray) fun _ h => run_build35 (.const (.int .i64 3)) (.tmp 16) rfl 3 vt HT rfl rfl) ⟨zz36, rfl, hX0⟩ ?_
  simp only [Act.put, List.setIfInBounds_toArray, List.set_cons_succ, List.set_cons_zero]
  refine takeH (i := 15) (some 18) rfl rfl (by kernel_rfl) (by kernel_rfl) (by kernel_rfl) (fun _ _ _ h => h) (gRun rfl (.agg (rowCells c0 c1 c2 vt).toArray) fun _ h => run_build36 (.tmp 6) (.tmp 10) (.tmp 14) (.tmp 17) rfl c0 c1 c2 vt HI.out.1.isSlice.2 HI.out.2.1.isSlice.2 HI.out.2.2.isSlice.2 HT rfl rfl rfl rfl) ⟨zz36, rfl, hX0⟩ ?_
  simp only [Act.put, List.setIfInBounds_toArray, List.set_cons_succ, List.set_cons_zero]
  refine oneH (i := 16) (by kernel_rfl) ?_
  have hone : ∀ v ∈ (rowCells c0 c1 c2 vt), v.oneCell' = true := by
    intro v hv
    simp only [rowCells, List.mem_cons, List.not_mem_nil, or_false] at hv
    rcases hv with rfl | rfl | rfl | rfl | rfl | rfl | rfl | rfl
    · rfl
    · exact HI.out.1.one
    · rfl
    · exact HI.out.2.1.one
    · rfl
    · exact HI.out.2.2.one
    · rfl
    · exact HT1
  have hst := fun (a : Act) (o : Oper) (ho : o.op = .store 36 (.tmp 2) (.tmp 18)) (hx : a.eval (.tmp 2) = .pointer (some ⟨gp, 0, none⟩)) (hy : a.eval (.tmp 18) = .agg (rowCells c0 c1 c2 vt).toArray) => run_storeL ag36 (.tmp 2) (.tmp 18) ho hX0 1 rfl 0 hx (rowCells c0 c1 c2 vt) hy rfl (Nat.le_refl _) hone
  refine opSkipZ rfl rfl rfl _ (hst _ _ rfl rfl rfl).1 ?_
  have hl : Loc w (X.setRow gp (splice zz36 0 (rowCells c0 c1 c2 vt)).toArray) [(gb, 24, [vd, vt]), (gp, 36, splice zz36 0 (rowCells c0 c1 c2 vt))] := hX0.lay 1 rfl 0 (rowCells c0 c1 c2 vt)
  rw [splice_all zz36 (rowCells c0 c1 c2 vt) rfl] at hl ⊢
  clear hst hone
  refine ⟨⟨(rowCells c0 c1 c2 vt), rfl, hl⟩, ?_⟩
  refine wpAnyH_done (by kernel_rfl) ?_ _
  go_wp2_with fail
  refine bodyPost_ret (results_cell ag36 Try.results17 _ _ gp 36 rfl (rowCells c0 c1 c2 vt) rfl (hl.at 1 rfl)) rfl ?_
  rw [HPQ.out]
  exact ⟨c0, c1, c2, rfl, hl.below, HI.out⟩

end Go.Proofs.Ytbmlbnbhjligdaa

/- The document's examples. -/
import Derived.Test.YtbmlbnbhjligdaaI8
namespace Go.Proofs.Ytbmlbnbhjligdaa
open Go.RowKit Go.MapKept

theorem belowNext {w w1 w2 : World} (h : Below w.heap.size w w1) (b : Below w1.heap.size w1 w2) : Below w.heap.size w w2 := h.trans (b.mono h.size)
theorem IntsIn.lit (w : World) (l : List Int) (h : ∀ z ∈ l, -9223372036854775808 ≤ z ∧ z ≤ 9223372036854775807) (hl : l.length < 4611686018427387904) : IntsIn (w.alloc (.cells (l.map (Value.int .i64)).toArray 3)) (.slice (some ⟨w.heap.size, 0, none⟩) l.length l.length) l := by
  refine ⟨_, _, rfl, Nat.le_refl _, hl, Or.inr ⟨w.heap.size, 0, rfl, fun j hj => ?_⟩, h⟩
  rw [Nat.zero_add]
  refine (Row.new w 3 (l.map (Value.int .i64))).at j _ ?_
  rw [List.getElem?_map, List.getElem?_eq_getElem hj, nth_at _ j hj]
  rfl
theorem ag26 : AggT 26 1 := ⟨Or.inl ⟨_, Try.underlying26⟩, by kernel_rfl⟩
/-- a block that holds a shape -/
structure ShB (w : World) (q : Nat) (vd vt : Value) (ds ts : List Int) : Prop where
  row : Row w q 24 [vd, vt]
  sh : ShIn w vd vt ds ts
theorem ShB.later {w w' : World} {q : Nat} {vd vt : Value} {ds ts : List Int} (h : ShB w q vd vt ds ts) (hb : Below w.heap.size w w') : ShB w' q vd vt ds ts := ⟨h.row.later hb h.row.lt, h.sh.later hb⟩
/-- a block that holds a config -/
structure CfB (w : World) (q : Nat) (r : Int) : Prop where
  row : Row w q 26 [.int .i64 r]
theorem CfB.later {w w' : World} {q : Nat} {r : Int} (h : CfB w q r) (hb : Below w.heap.size w w') : CfB w' q r := ⟨h.row.later hb h.row.lt⟩
/-- a cell that holds a number -/
structure CellI (w : World) (b j : Nat) (x : Int) : Prop where
  c : w.cell? ⟨b, j, none⟩ = some (.int .i64 x)
theorem CellI.later {w w' : World} {b j : Nat} {x : Int} (h : CellI w b j x) (hb : Below w.heap.size w w') : CellI w' b j x := ⟨cell_later hb h.c⟩
section
variable {w : World} {ops : Array Oper} {rest : List Oper} {o o2 : Oper} {a : Act} {Q : Exit → Act → World → Prop}
theorem run_build24 (x y : Operand) (ho : o.op = .build 24 #[(0, x), (1, y)]) (u v : Value) (hu : ∃ p n c, u = .slice p n c) (hv : ∃ p n c, v = .slice p n c) (hx : a.eval x = u) (hy : a.eval y = v) : (execOp a.eval o).run Try.prog w = .ok (.value (.agg [u, v].toArray)) w := by
  obtain ⟨p, n, c, rfl⟩ := hu
  obtain ⟨p1, n1, c1, rfl⟩ := hv
  have hr : (Instr.build 24 #[(0, .slice p n c), (1, .slice p1 n1 c1)]).run Try.prog w = .ok (.agg [.slice p n c, .slice p1 n1 c1].toArray) w := by kernel_rfl
  simp only [execOp, ho, List.map_toArray, List.map_cons, List.map_nil, hx, hy, hr, Sem.run_bind, Sem.run_pure, Result.andThen_ok]
theorem run_build24z (ho : o.op = .build 24 #[]) : (execOp a.eval o).run Try.prog w = .ok (.value (.agg [Value.slice none 0 0, .slice none 0 0].toArray)) w := by
  have hr : (Instr.build 24 #[]).run Try.prog w = .ok (.agg [Value.slice none 0 0, .slice none 0 0].toArray) w := by kernel_rfl
  simp only [execOp, ho, List.map_toArray, List.map_nil, hr, Sem.run_bind, Sem.run_pure, Result.andThen_ok]
theorem run_build26 (x : Operand) (ho : o.op = .build 26 #[(0, x)]) (k : Int) (hx : a.eval x = .int .i64 k) : (execOp a.eval o).run Try.prog w = .ok (.value (.agg [Value.int .i64 k].toArray)) w := by
  have hr : (Instr.build 26 #[(0, .int .i64 k)]).run Try.prog w = .ok (.agg [Value.int .i64 k].toArray) w := by kernel_rfl
  simp only [execOp, ho, List.map_toArray, List.map_cons, List.map_nil, hx, hr, Sem.run_bind, Sem.run_pure, Result.andThen_ok]
/-- a block is made and a whole value laid into it -/
theorem wl_allocStore {t n : Nat} (ht : AggT t n) (zs : List Value) (hz : (Try.prog.info? t).map (·.zero) = some (some (.agg zs.toArray))) (hg1 : o.guard = none) (hg2 : o2.guard = none) (ho : o.op = .alloc t) (d : Tmp) (hd : o.dst = some d) (hd2 : o2.dst = none) (y : Operand) (ho2 : o2.op = .store t (.tmp d) y) (cs : List Value) (hn : cs.length = n) (hzn : cs.length = zs.length) (h1 : ∀ v ∈ cs, v.oneCell' = true) (hp : ∀ p, (a.put (some d) p).eval (.tmp d) = p) (hy : ∀ p, (a.put (some d) p).eval y = .agg cs.toArray)
    (h : ∀ w', Row w' w.heap.size t cs → Below w.heap.size w w' → wpList Try.prog ops Q rest (a.put (some d) (ptr w.heap.size)) w') : wpList Try.prog ops Q (o :: o2 :: rest) a w := by
  refine wl (by simp [Region.wanted, hg1]) _ _ (run_allocA zs hz ho) ?_
  rw [hd]
  have hr := Row.new w t zs
  have hst := run_storeVar ht (w.alloc (.cells zs.toArray t)) w.heap.size 0 t zs cs hn hr (by omega) h1
  rw [splice_all zs cs hzn] at hst
  refine wlS (by simp [Region.wanted, hg2]) hd2 ((w.alloc (.cells zs.toArray t)).setRow w.heap.size cs.toArray) ?_ ?_
  · simp only [execOp, ho2, hp, hy, Instr.storeAt, Instr.sureAddr, Sem.run_bind, Sem.run_pure, Result.andThen_ok, hst]
  · exact h _ (hr.setRow cs) ((((Ch.refl (fun _ => False) w).alloc _).setRow (Or.inr (Nat.le_refl _)) _).below (Nat.le_refl _) fun _ _ h => h)
theorem run_litA (ho : o.op = .buildSlice 22 3 #[(0, .const (.int .i64 64)), (1, .const (.int .i64 402)), (2, .const (.int .i64 64))]) : (execOp a.eval o).run Try.prog w = .ok (.value (.slice (some ⟨w.heap.size, 0, none⟩) 3 3)) (w.alloc (.cells (([64, 402, 64] : List Int).map (Value.int .i64)).toArray 3)) := by
  have hr : (Instr.buildSlice 22 3 #[(0, .int .i64 64), (1, .int .i64 402), (2, .int .i64 64)]).run Try.prog w = .ok (.slice (some ⟨w.heap.size, 0, none⟩) 3 3) (w.alloc (.cells (([64, 402, 64] : List Int).map (Value.int .i64)).toArray 3)) := by kernel_rfl
  simp only [execOp, ho, List.map_toArray, List.map_cons, List.map_nil, Act.eval, hr, Sem.run_bind, Sem.run_pure, Result.andThen_ok]
theorem litA_in (w : World) : IntsIn (w.alloc (.cells (([64, 402, 64] : List Int).map (Value.int .i64)).toArray 3)) (.slice (some ⟨w.heap.size, 0, none⟩) 3 3) [64, 402, 64] := IntsIn.lit w [64, 402, 64] (by decide) (by decide)
theorem run_litB (ho : o.op = .buildSlice 22 2 #[(0, .const (.int .i64 100)), (1, .const (.int .i64 100))]) : (execOp a.eval o).run Try.prog w = .ok (.value (.slice (some ⟨w.heap.size, 0, none⟩) 2 2)) (w.alloc (.cells (([100, 100] : List Int).map (Value.int .i64)).toArray 3)) := by
  have hr : (Instr.buildSlice 22 2 #[(0, .int .i64 100), (1, .int .i64 100)]).run Try.prog w = .ok (.slice (some ⟨w.heap.size, 0, none⟩) 2 2) (w.alloc (.cells (([100, 100] : List Int).map (Value.int .i64)).toArray 3)) := by kernel_rfl
  simp only [execOp, ho, List.map_toArray, List.map_cons, List.map_nil, Act.eval, hr, Sem.run_bind, Sem.run_pure, Result.andThen_ok]
theorem litB_in (w : World) : IntsIn (w.alloc (.cells (([100, 100] : List Int).map (Value.int .i64)).toArray 3)) (.slice (some ⟨w.heap.size, 0, none⟩) 2 2) [100, 100] := IntsIn.lit w [100, 100] (by decide) (by decide)
theorem run_litC (ho : o.op = .buildSlice 22 3 #[(0, .const (.int .i64 64)), (1, .const (.int .i64 386)), (2, .const (.int .i64 32))]) : (execOp a.eval o).run Try.prog w = .ok (.value (.slice (some ⟨w.heap.size, 0, none⟩) 3 3)) (w.alloc (.cells (([64, 386, 32] : List Int).map (Value.int .i64)).toArray 3)) := by
  have hr : (Instr.buildSlice 22 3 #[(0, .int .i64 64), (1, .int .i64 386), (2, .int .i64 32)]).run Try.prog w = .ok (.slice (some ⟨w.heap.size, 0, none⟩) 3 3) (w.alloc (.cells (([64, 386, 32] : List Int).map (Value.int .i64)).toArray 3)) := by kernel_rfl
  simp only [execOp, ho, List.map_toArray, List.map_cons, List.map_nil, Act.eval, hr, Sem.run_bind, Sem.run_pure, Result.andThen_ok]
theorem litC_in (w : World) : IntsIn (w.alloc (.cells (([64, 386, 32] : List Int).map (Value.int .i64)).toArray 3)) (.slice (some ⟨w.heap.size, 0, none⟩) 3 3) [64, 386, 32] := IntsIn.lit w [64, 386, 32] (by decide) (by decide)
theorem run_litD (ho : o.op = .buildSlice 22 1 #[(0, .const (.int .i64 12))]) : (execOp a.eval o).run Try.prog w = .ok (.value (.slice (some ⟨w.heap.size, 0, none⟩) 1 1)) (w.alloc (.cells (([12] : List Int).map (Value.int .i64)).toArray 3)) := by
  have hr : (Instr.buildSlice 22 1 #[(0, .int .i64 12)]).run Try.prog w = .ok (.slice (some ⟨w.heap.size, 0, none⟩) 1 1) (w.alloc (.cells (([12] : List Int).map (Value.int .i64)).toArray 3)) := by kernel_rfl
  simp only [execOp, ho, List.map_toArray, List.map_cons, List.map_nil, Act.eval, hr, Sem.run_bind, Sem.run_pure, Result.andThen_ok]
theorem litD_in (w : World) : IntsIn (w.alloc (.cells (([12] : List Int).map (Value.int .i64)).toArray 3)) (.slice (some ⟨w.heap.size, 0, none⟩) 1 1) [12] := IntsIn.lit w [12] (by decide) (by decide)
end
theorem two_one {w : World} {u v : Value} {ds ts : List Int} (h : IntsIn w u ds) (h2 : IntsIn w v ts) : ∀ x ∈ [u, v], x.oneCell' = true := ShIn.one ⟨h, h2⟩
theorem shown_facts : mayOk [64, 402, 64] [100, 100] 2 = true ∧ mayOk [64, 386, 32] [12] 1 = true ∧ mayOk [64, 386, 32] [12] 2 = false ∧ mayOk [] [] 1 = false ∧ putsZ [64, 402, 64] = 1 ∧ sectZ [64, 402, 64] = 24 ∧ costZ 0 = 1 ∧ costZ 65 = 3 ∧ costZ 512 = 9 ∧ costZ 513 = 0 ∧ costZ (-1) = 0 := by decide
set_option maxHeartbeats 1000000 in
set_option maxRecDepth 100000 in
theorem shown_any (w : World) : Calls Try.prog 7 #[] w fun e w' => e = .returned (.bool true) ∧ Below w.heap.size w w' := by
  have HF : Hid (mayOk [64, 402, 64] [100, 100] 2 = true ∧ mayOk [64, 386, 32] [12] 1 = true ∧ mayOk [64, 386, 32] [12] 2 = false ∧ mayOk [] [] 1 = false ∧ putsZ [64, 402, 64] = 1 ∧ sectZ [64, 402, 64] = 24 ∧ costZ 0 = 1 ∧ costZ 65 = 3 ∧ costZ 512 = 9 ∧ costZ 513 = 0 ∧ costZ (-1) = 0) := shown_facts
  have HW : Hid (Below w.heap.size w w) := Below.refl _ _
  obtain ⟨PQ, HPQ⟩ : ∃ PQ : Ending → World → Prop, Hid (PQ = fun (e : Ending) (w' : World) => e = .returned (.bool true) ∧ Below w.heap.size w w') := ⟨_, rfl⟩
  rw [← HPQ.out]
  go_enter Try.func7, Try.ntmps7
  go_upto_region 0 with fail
  refine wp_region_lit ?_
  refine wl rfl (.bool false) _ (run_asZ (.const (.bool false)) rfl (.bool false) rfl) ?_
  simp only [Act.put, List.setIfInBounds_toArray, List.set_cons_zero]
  refine wpList_nil ?_
  go_upto_region 1 with fail
  refine wp_region_lit ?_
  refine wl rfl _ _ (run_litA rfl) ?_
  have i_ := litA_in w
  have bW := below_alloc w (.cells (([64, 402, 64] : List Int).map (Value.int .i64)).toArray 3)
  obtain ⟨u1, hW_⟩ : ∃ W, W = w.alloc (.cells (([64, 402, 64] : List Int).map (Value.int .i64)).toArray 3) := ⟨_, rfl⟩
  obtain ⟨vIA, hv_⟩ : ∃ v, v = Value.slice (some ⟨w.heap.size, 0, none⟩) 3 3 := ⟨_, rfl⟩
  rw [← hW_, ← hv_] at i_
  rw [← hW_] at bW
  rw [← hW_, ← hv_]
  clear hW_ hv_
  have HW_ : Hid (Below w.heap.size w u1) := belowNext HW.out bW
  clear HW
  have HW := HW_
  clear HW_
  have IA : Hid (IntsIn u1 vIA [64, 402, 64]) := i_
  clear i_ bW
  simp only [Act.put, List.setIfInBounds_toArray, List.set_cons_succ, List.set_cons_zero]
  refine wl rfl _ _ (run_litB rfl) ?_
  have i_ := litB_in u1
  have bW := below_alloc u1 (.cells (([100, 100] : List Int).map (Value.int .i64)).toArray 3)
  obtain ⟨u2, hW_⟩ : ∃ W, W = u1.alloc (.cells (([100, 100] : List Int).map (Value.int .i64)).toArray 3) := ⟨_, rfl⟩
  obtain ⟨vIB, hv_⟩ : ∃ v, v = Value.slice (some ⟨u1.heap.size, 0, none⟩) 2 2 := ⟨_, rfl⟩
  rw [← hW_, ← hv_] at i_
  rw [← hW_] at bW
  rw [← hW_, ← hv_]
  clear hW_ hv_
  have HW_ : Hid (Below w.heap.size w u2) := belowNext HW.out bW
  clear HW
  have HW := HW_
  clear HW_
  have IA_ : Hid (IntsIn u2 vIA [64, 402, 64]) := IA.out.later bW
  clear IA
  have IA := IA_
  clear IA_
  have IB : Hid (IntsIn u2 vIB [100, 100]) := i_
  clear i_ bW
  simp only [Act.put, List.setIfInBounds_toArray, List.set_cons_succ, List.set_cons_zero]
  refine wl rfl _ _ (run_build24 (.tmp 4) (.tmp 5) rfl vIA vIB (IA.out.isSlice.2) (IB.out.isSlice.2) rfl rfl) ?_
  simp only [Act.put, List.setIfInBounds_toArray, List.set_cons_succ, List.set_cons_zero]
  refine wl_allocStore ag24 [Value.slice none 0 0, .slice none 0 0] zero24 rfl rfl rfl 1 rfl rfl (.tmp 6) rfl ([vIA, vIB]) rfl rfl (two_one IA.out IB.out) (fun _ => rfl) (fun _ => rfl) ?_
  intro u3 r_ bW
  obtain ⟨qa, hq_⟩ : ∃ q, q = u2.heap.size := ⟨_, rfl⟩
  rw [← hq_] at r_
  rw [← hq_]
  clear hq_
  have HW_ : Hid (Below w.heap.size w u3) := belowNext HW.out bW
  clear HW
  have HW := HW_
  clear HW_
  have IA_ : Hid (IntsIn u3 vIA [64, 402, 64]) := IA.out.later bW
  clear IA
  have IA := IA_
  clear IA_
  have IB_ : Hid (IntsIn u3 vIB [100, 100]) := IB.out.later bW
  clear IB
  have IB := IB_
  clear IB_
  have SA : Hid (ShB u3 qa vIA vIB [64, 402, 64] [100, 100]) := ⟨r_, IA.out, IB.out⟩
  clear r_ bW
  simp only [Act.put, List.setIfInBounds_toArray, List.set_cons_succ, List.set_cons_zero]
  refine wpList_nil ?_
  clear IA
  clear IB
  go_upto_region 2 with fail
  refine wp_region_lit ?_
  refine wl rfl _ _ (run_litC rfl) ?_
  have i_ := litC_in u3
  have bW := below_alloc u3 (.cells (([64, 386, 32] : List Int).map (Value.int .i64)).toArray 3)
  obtain ⟨u4, hW_⟩ : ∃ W, W = u3.alloc (.cells (([64, 386, 32] : List Int).map (Value.int .i64)).toArray 3) := ⟨_, rfl⟩
  obtain ⟨vIC, hv_⟩ : ∃ v, v = Value.slice (some ⟨u3.heap.size, 0, none⟩) 3 3 := ⟨_, rfl⟩
  rw [← hW_, ← hv_] at i_
  rw [← hW_] at bW
  rw [← hW_, ← hv_]
  clear hW_ hv_
  have HW_ : Hid (Below w.heap.size w u4) := belowNext HW.out bW
  clear HW
  have HW := HW_
  clear HW_
  have SA_ : Hid (ShB u4 qa vIA vIB [64, 402, 64] [100, 100]) := SA.out.later bW
  clear SA
  have SA := SA_
  clear SA_
  have IC : Hid (IntsIn u4 vIC [64, 386, 32]) := i_
  clear i_ bW
  simp only [Act.put, List.setIfInBounds_toArray, List.set_cons_succ, List.set_cons_zero]
  refine wl rfl _ _ (run_litD rfl) ?_
  have i_ := litD_in u4
  have bW := below_alloc u4 (.cells (([12] : List Int).map (Value.int .i64)).toArray 3)
  obtain ⟨u5, hW_⟩ : ∃ W, W = u4.alloc (.cells (([12] : List Int).map (Value.int .i64)).toArray 3) := ⟨_, rfl⟩
  obtain ⟨vID, hv_⟩ : ∃ v, v = Value.slice (some ⟨u4.heap.size, 0, none⟩) 1 1 := ⟨_, rfl⟩
  rw [← hW_, ← hv_] at i_
  rw [← hW_] at bW
  rw [← hW_, ← hv_]
  clear hW_ hv_
  have HW_ : Hid (Below w.heap.size w u5) := belowNext HW.out bW
  clear HW
  have HW := HW_
  clear HW_
  have SA_ : Hid (ShB u5 qa vIA vIB [64, 402, 64] [100, 100]) := SA.out.later bW
  clear SA
  have SA := SA_
  clear SA_
  have IC_ : Hid (IntsIn u5 vIC [64, 386, 32]) := IC.out.later bW
  clear IC
  have IC := IC_
  clear IC_
  have ID : Hid (IntsIn u5 vID [12]) := i_
  clear i_ bW
  simp only [Act.put, List.setIfInBounds_toArray, List.set_cons_succ, List.set_cons_zero]
  refine wl rfl _ _ (run_build24 (.tmp 7) (.tmp 8) rfl vIC vID (IC.out.isSlice.2) (ID.out.isSlice.2) rfl rfl) ?_
  simp only [Act.put, List.setIfInBounds_toArray, List.set_cons_succ, List.set_cons_zero]
  refine wl_allocStore ag24 [Value.slice none 0 0, .slice none 0 0] zero24 rfl rfl rfl 2 rfl rfl (.tmp 9) rfl ([vIC, vID]) rfl rfl (two_one IC.out ID.out) (fun _ => rfl) (fun _ => rfl) ?_
  intro u6 r_ bW
  obtain ⟨qb, hq_⟩ : ∃ q, q = u5.heap.size := ⟨_, rfl⟩
  rw [← hq_] at r_
  rw [← hq_]
  clear hq_
  have HW_ : Hid (Below w.heap.size w u6) := belowNext HW.out bW
  clear HW
  have HW := HW_
  clear HW_
  have SA_ : Hid (ShB u6 qa vIA vIB [64, 402, 64] [100, 100]) := SA.out.later bW
  clear SA
  have SA := SA_
  clear SA_
  have IC_ : Hid (IntsIn u6 vIC [64, 386, 32]) := IC.out.later bW
  clear IC
  have IC := IC_
  clear IC_
  have ID_ : Hid (IntsIn u6 vID [12]) := ID.out.later bW
  clear ID
  have ID := ID_
  clear ID_
  have SB : Hid (ShB u6 qb vIC vID [64, 386, 32] [12]) := ⟨r_, IC.out, ID.out⟩
  clear r_ bW
  simp only [Act.put, List.setIfInBounds_toArray, List.set_cons_succ, List.set_cons_zero]
  refine wpList_nil ?_
  clear IC
  clear ID
  go_upto_region 3 with fail
  refine wp_region_lit ?_
  refine wl rfl (.agg ([vIA, vIB]).toArray) _ (run_loadA ag24 (.tmp 1) rfl qa (0) rfl ([vIA, vIB]) rfl (fun j v hv => by rw [Nat.zero_add]; exact SA.out.row.at j v hv)) ?_
  simp only [Act.put, List.setIfInBounds_toArray, List.set_cons_succ, List.set_cons_zero]
  refine wl rfl (.agg [.int .i64 2].toArray) _ (run_build26 (.const (.int .i64 2)) rfl 2 rfl) ?_
  simp only [Act.put, List.setIfInBounds_toArray, List.set_cons_succ, List.set_cons_zero]
  refine wpList_callW eN8 [.tmp 10, .tmp 11] _ (by kernel_rfl) rfl [(.agg ([vIA, vIB]).toArray), (.agg [.int .i64 2].toArray)] rfl ?_
  refine (may_any u6 vIA vIB _ _ SA.out.sh 2).mono ?_
  rintro e u7 ⟨rfl, bW⟩
  refine ⟨_, rfl, ?_⟩
  rw [HF.out.1]
  have HW_ : Hid (Below w.heap.size w u7) := belowNext HW.out bW
  clear HW
  have HW := HW_
  clear HW_
  have SA_ : Hid (ShB u7 qa vIA vIB [64, 402, 64] [100, 100]) := SA.out.later bW
  clear SA
  have SA := SA_
  clear SA_
  have SB_ : Hid (ShB u7 qb vIC vID [64, 386, 32] [12]) := SB.out.later bW
  clear SB
  have SB := SB_
  clear SB_
  clear bW
  simp only [Act.put, List.setIfInBounds_toArray, List.set_cons_succ, List.set_cons_zero]
  refine wl rfl (.bool true) _ (run_mvZ (.tmp 12) rfl (.bool true) rfl) ?_
  simp only [Act.put, List.setIfInBounds_toArray, List.set_cons_succ, List.set_cons_zero]
  refine wl (by kernel_rfl) (.agg ([vIC, vID]).toArray) _ (run_loadA ag24 (.tmp 2) rfl qb (0) rfl ([vIC, vID]) rfl (fun j v hv => by rw [Nat.zero_add]; exact SB.out.row.at j v hv)) ?_
  simp only [Act.put, List.setIfInBounds_toArray, List.set_cons_succ, List.set_cons_zero]
  refine wl (by kernel_rfl) (.agg [.int .i64 1].toArray) _ (run_build26 (.const (.int .i64 1)) rfl 1 rfl) ?_
  simp only [Act.put, List.setIfInBounds_toArray, List.set_cons_succ, List.set_cons_zero]
  refine wpList_callW eN8 [.tmp 14, .tmp 15] _ (by kernel_rfl) rfl [(.agg ([vIC, vID]).toArray), (.agg [.int .i64 1].toArray)] rfl ?_
  refine (may_any u7 vIC vID _ _ SB.out.sh 1).mono ?_
  rintro e u8 ⟨rfl, bW⟩
  refine ⟨_, rfl, ?_⟩
  rw [HF.out.2.1]
  have HW_ : Hid (Below w.heap.size w u8) := belowNext HW.out bW
  clear HW
  have HW := HW_
  clear HW_
  have SA_ : Hid (ShB u8 qa vIA vIB [64, 402, 64] [100, 100]) := SA.out.later bW
  clear SA
  have SA := SA_
  clear SA_
  have SB_ : Hid (ShB u8 qb vIC vID [64, 386, 32] [12]) := SB.out.later bW
  clear SB
  have SB := SB_
  clear SB_
  clear bW
  simp only [Act.put, List.setIfInBounds_toArray, List.set_cons_succ, List.set_cons_zero]
  refine wl rfl (.bool true) _ (run_pickZ (.tmp 13) (.tmp 16) (.const (.bool false)) rfl true (.bool true) rfl rfl) ?_
  simp only [Act.put, List.setIfInBounds_toArray, List.set_cons_succ, List.set_cons_zero]
  refine wl rfl (.bool true) _ (run_mvZ (.tmp 17) rfl (.bool true) rfl) ?_
  simp only [Act.put, List.setIfInBounds_toArray, List.set_cons_succ, List.set_cons_zero]
  refine wl (by kernel_rfl) (.agg ([vIC, vID]).toArray) _ (run_loadA ag24 (.tmp 2) rfl qb (0) rfl ([vIC, vID]) rfl (fun j v hv => by rw [Nat.zero_add]; exact SB.out.row.at j v hv)) ?_
  simp only [Act.put, List.setIfInBounds_toArray, List.set_cons_succ, List.set_cons_zero]
  refine wl (by kernel_rfl) (.agg [.int .i64 2].toArray) _ (run_build26 (.const (.int .i64 2)) rfl 2 rfl) ?_
  simp only [Act.put, List.setIfInBounds_toArray, List.set_cons_succ, List.set_cons_zero]
  refine wpList_callW eN8 [.tmp 19, .tmp 20] _ (by kernel_rfl) rfl [(.agg ([vIC, vID]).toArray), (.agg [.int .i64 2].toArray)] rfl ?_
  refine (may_any u8 vIC vID _ _ SB.out.sh 2).mono ?_
  rintro e u9 ⟨rfl, bW⟩
  refine ⟨_, rfl, ?_⟩
  rw [HF.out.2.2.1]
  have HW_ : Hid (Below w.heap.size w u9) := belowNext HW.out bW
  clear HW
  have HW := HW_
  clear HW_
  have SA_ : Hid (ShB u9 qa vIA vIB [64, 402, 64] [100, 100]) := SA.out.later bW
  clear SA
  have SA := SA_
  clear SA_
  have SB_ : Hid (ShB u9 qb vIC vID [64, 386, 32] [12]) := SB.out.later bW
  clear SB
  have SB := SB_
  clear SB_
  clear bW
  simp only [Act.put, List.setIfInBounds_toArray, List.set_cons_succ, List.set_cons_zero]
  refine wl (by kernel_rfl) (.bool true) _ (run_not (.tmp 21) 4 rfl false rfl) ?_
  simp only [Act.put, List.setIfInBounds_toArray, List.set_cons_succ, List.set_cons_zero]
  refine wl rfl (.bool true) _ (run_pickZ (.tmp 18) (.tmp 22) (.const (.bool false)) rfl true (.bool true) rfl rfl) ?_
  simp only [Act.put, List.setIfInBounds_toArray, List.set_cons_succ, List.set_cons_zero]
  refine wl rfl (.bool true) _ (run_mvZ (.tmp 23) rfl (.bool true) rfl) ?_
  simp only [Act.put, List.setIfInBounds_toArray, List.set_cons_succ, List.set_cons_zero]
  refine wl (by kernel_rfl) (.agg [Value.slice none 0 0, .slice none 0 0].toArray) _ (run_build24z rfl) ?_
  simp only [Act.put, List.setIfInBounds_toArray, List.set_cons_succ, List.set_cons_zero]
  refine wl (by kernel_rfl) (.agg [.int .i64 1].toArray) _ (run_build26 (.const (.int .i64 1)) rfl 1 rfl) ?_
  simp only [Act.put, List.setIfInBounds_toArray, List.set_cons_succ, List.set_cons_zero]
  refine wpList_callW eN8 [.tmp 25, .tmp 26] _ (by kernel_rfl) rfl [(.agg [Value.slice none 0 0, .slice none 0 0].toArray), (.agg [.int .i64 1].toArray)] rfl ?_
  refine (may_any u9 _ _ [] [] ⟨IntsIn.nil _, IntsIn.nil _⟩ 1).mono ?_
  rintro e u10 ⟨rfl, bW⟩
  refine ⟨_, rfl, ?_⟩
  rw [HF.out.2.2.2.1]
  have HW_ : Hid (Below w.heap.size w u10) := belowNext HW.out bW
  clear HW
  have HW := HW_
  clear HW_
  have SA_ : Hid (ShB u10 qa vIA vIB [64, 402, 64] [100, 100]) := SA.out.later bW
  clear SA
  have SA := SA_
  clear SA_
  have SB_ : Hid (ShB u10 qb vIC vID [64, 386, 32] [12]) := SB.out.later bW
  clear SB
  have SB := SB_
  clear SB_
  clear bW
  simp only [Act.put, List.setIfInBounds_toArray, List.set_cons_succ, List.set_cons_zero]
  refine wl (by kernel_rfl) (.bool true) _ (run_not (.tmp 27) 4 rfl false rfl) ?_
  simp only [Act.put, List.setIfInBounds_toArray, List.set_cons_succ, List.set_cons_zero]
  refine wl rfl (.bool true) _ (run_pickZ (.tmp 24) (.tmp 28) (.const (.bool false)) rfl true (.bool true) rfl rfl) ?_
  simp only [Act.put, List.setIfInBounds_toArray, List.set_cons_succ, List.set_cons_zero]
  refine wl rfl (.bool true) _ (run_asZ (.tmp 29) rfl (.bool true) rfl) ?_
  simp only [Act.put, List.setIfInBounds_toArray, List.set_cons_succ, List.set_cons_zero]
  refine wpList_nil ?_
  go_upto_region 4 with fail
  refine wp_region_lit ?_
  refine wl rfl (.bool true) _ (run_mvZ (.tmp 3) rfl (.bool true) rfl) ?_
  simp only [Act.put, List.setIfInBounds_toArray, List.set_cons_succ, List.set_cons_zero]
  refine wl rfl (.bool true) _ (run_mvZ (.tmp 30) rfl (.bool true) rfl) ?_
  simp only [Act.put, List.setIfInBounds_toArray, List.set_cons_succ, List.set_cons_zero]
  refine wl (by kernel_rfl) (.agg ([vIA, vIB]).toArray) _ (run_loadA ag24 (.tmp 1) rfl qa (0) rfl ([vIA, vIB]) rfl (fun j v hv => by rw [Nat.zero_add]; exact SA.out.row.at j v hv)) ?_
  simp only [Act.put, List.setIfInBounds_toArray, List.set_cons_succ, List.set_cons_zero]
  refine wpList_callW eN10 [.tmp 32] _ (by kernel_rfl) rfl [(.agg ([vIA, vIB]).toArray)] rfl ?_
  refine (puts_any u10 vIA vIB _ _ SA.out.sh).mono ?_
  rintro e u11 ⟨rfl, bW⟩
  refine ⟨_, rfl, ?_⟩
  rw [HF.out.2.2.2.2.1]
  have HW_ : Hid (Below w.heap.size w u11) := belowNext HW.out bW
  clear HW
  have HW := HW_
  clear HW_
  have SA_ : Hid (ShB u11 qa vIA vIB [64, 402, 64] [100, 100]) := SA.out.later bW
  clear SA
  have SA := SA_
  clear SA_
  have SB_ : Hid (ShB u11 qb vIC vID [64, 386, 32] [12]) := SB.out.later bW
  clear SB
  have SB := SB_
  clear SB_
  clear bW
  simp only [Act.put, List.setIfInBounds_toArray, List.set_cons_succ, List.set_cons_zero]
  refine wl (by kernel_rfl) (.bool true) _ (run_eqZ (.tmp 33) (.const (.int .i64 1)) rfl (1) (1) rfl rfl true rfl) ?_
  simp only [Act.put, List.setIfInBounds_toArray, List.set_cons_succ, List.set_cons_zero]
  refine wl rfl (.bool true) _ (run_pickZ (.tmp 31) (.tmp 34) (.const (.bool false)) rfl true (.bool true) rfl rfl) ?_
  simp only [Act.put, List.setIfInBounds_toArray, List.set_cons_succ, List.set_cons_zero]
  refine wl rfl (.bool true) _ (run_mvZ (.tmp 35) rfl (.bool true) rfl) ?_
  simp only [Act.put, List.setIfInBounds_toArray, List.set_cons_succ, List.set_cons_zero]
  refine wl (by kernel_rfl) (.agg ([vIA, vIB]).toArray) _ (run_loadA ag24 (.tmp 1) rfl qa (0) rfl ([vIA, vIB]) rfl (fun j v hv => by rw [Nat.zero_add]; exact SA.out.row.at j v hv)) ?_
  simp only [Act.put, List.setIfInBounds_toArray, List.set_cons_succ, List.set_cons_zero]
  refine wpList_callW eN12 [.tmp 37] _ (by kernel_rfl) rfl [(.agg ([vIA, vIB]).toArray)] rfl ?_
  refine (sectors_any u11 vIA vIB _ _ SA.out.sh).mono ?_
  rintro e u12 ⟨rfl, bW⟩
  refine ⟨_, rfl, ?_⟩
  rw [HF.out.2.2.2.2.2.1]
  have HW_ : Hid (Below w.heap.size w u12) := belowNext HW.out bW
  clear HW
  have HW := HW_
  clear HW_
  have SA_ : Hid (ShB u12 qa vIA vIB [64, 402, 64] [100, 100]) := SA.out.later bW
  clear SA
  have SA := SA_
  clear SA_
  have SB_ : Hid (ShB u12 qb vIC vID [64, 386, 32] [12]) := SB.out.later bW
  clear SB
  have SB := SB_
  clear SB_
  clear bW
  simp only [Act.put, List.setIfInBounds_toArray, List.set_cons_succ, List.set_cons_zero]
  refine wl (by kernel_rfl) (.bool true) _ (run_eqZ (.tmp 38) (.const (.int .i64 24)) rfl (24) (24) rfl rfl true rfl) ?_
  simp only [Act.put, List.setIfInBounds_toArray, List.set_cons_succ, List.set_cons_zero]
  refine wl rfl (.bool true) _ (run_pickZ (.tmp 36) (.tmp 39) (.const (.bool false)) rfl true (.bool true) rfl rfl) ?_
  simp only [Act.put, List.setIfInBounds_toArray, List.set_cons_succ, List.set_cons_zero]
  refine wl rfl (.bool true) _ (run_mvZ (.tmp 40) rfl (.bool true) rfl) ?_
  simp only [Act.put, List.setIfInBounds_toArray, List.set_cons_succ, List.set_cons_zero]
  refine wpList_callW eN14 [.const (.int .i64 0)] _ (by kernel_rfl) rfl [.int .i64 0] rfl ?_
  refine (cost_any u12 0 (by decide)).mono ?_
  rintro e w' ⟨rfl, he⟩
  refine ⟨_, rfl, ?_⟩
  obtain rfl := he.symm
  rw [HF.out.2.2.2.2.2.2.1]
  simp only [Act.put, List.setIfInBounds_toArray, List.set_cons_succ, List.set_cons_zero]
  refine wl (by kernel_rfl) (.bool true) _ (run_eqZ (.tmp 42) (.const (.int .i64 1)) rfl (1) (1) rfl rfl true rfl) ?_
  simp only [Act.put, List.setIfInBounds_toArray, List.set_cons_succ, List.set_cons_zero]
  refine wl rfl (.bool true) _ (run_pickZ (.tmp 41) (.tmp 43) (.const (.bool false)) rfl true (.bool true) rfl rfl) ?_
  simp only [Act.put, List.setIfInBounds_toArray, List.set_cons_succ, List.set_cons_zero]
  refine wl rfl (.bool true) _ (run_mvZ (.tmp 44) rfl (.bool true) rfl) ?_
  simp only [Act.put, List.setIfInBounds_toArray, List.set_cons_succ, List.set_cons_zero]
  refine wpList_callW eN14 [.const (.int .i64 65)] _ (by kernel_rfl) rfl [.int .i64 65] rfl ?_
  refine (cost_any u12 65 (by decide)).mono ?_
  rintro e w' ⟨rfl, he⟩
  refine ⟨_, rfl, ?_⟩
  obtain rfl := he.symm
  rw [HF.out.2.2.2.2.2.2.2.1]
  simp only [Act.put, List.setIfInBounds_toArray, List.set_cons_succ, List.set_cons_zero]
  refine wl (by kernel_rfl) (.bool true) _ (run_eqZ (.tmp 46) (.const (.int .i64 3)) rfl (3) (3) rfl rfl true rfl) ?_
  simp only [Act.put, List.setIfInBounds_toArray, List.set_cons_succ, List.set_cons_zero]
  refine wl rfl (.bool true) _ (run_pickZ (.tmp 45) (.tmp 47) (.const (.bool false)) rfl true (.bool true) rfl rfl) ?_
  simp only [Act.put, List.setIfInBounds_toArray, List.set_cons_succ, List.set_cons_zero]
  refine wl rfl (.bool true) _ (run_mvZ (.tmp 48) rfl (.bool true) rfl) ?_
  simp only [Act.put, List.setIfInBounds_toArray, List.set_cons_succ, List.set_cons_zero]
  refine wpList_callW eN14 [.const (.int .i64 512)] _ (by kernel_rfl) rfl [.int .i64 512] rfl ?_
  refine (cost_any u12 512 (by decide)).mono ?_
  rintro e w' ⟨rfl, he⟩
  refine ⟨_, rfl, ?_⟩
  obtain rfl := he.symm
  rw [HF.out.2.2.2.2.2.2.2.2.1]
  simp only [Act.put, List.setIfInBounds_toArray, List.set_cons_succ, List.set_cons_zero]
  refine wl (by kernel_rfl) (.bool true) _ (run_eqZ (.tmp 50) (.const (.int .i64 9)) rfl (9) (9) rfl rfl true rfl) ?_
  simp only [Act.put, List.setIfInBounds_toArray, List.set_cons_succ, List.set_cons_zero]
  refine wl rfl (.bool true) _ (run_pickZ (.tmp 49) (.tmp 51) (.const (.bool false)) rfl true (.bool true) rfl rfl) ?_
  simp only [Act.put, List.setIfInBounds_toArray, List.set_cons_succ, List.set_cons_zero]
  refine wl rfl (.bool true) _ (run_mvZ (.tmp 52) rfl (.bool true) rfl) ?_
  simp only [Act.put, List.setIfInBounds_toArray, List.set_cons_succ, List.set_cons_zero]
  refine wpList_callW eN14 [.const (.int .i64 513)] _ (by kernel_rfl) rfl [.int .i64 513] rfl ?_
  refine (cost_any u12 513 (by decide)).mono ?_
  rintro e w' ⟨rfl, he⟩
  refine ⟨_, rfl, ?_⟩
  obtain rfl := he.symm
  rw [HF.out.2.2.2.2.2.2.2.2.2.1]
  simp only [Act.put, List.setIfInBounds_toArray, List.set_cons_succ, List.set_cons_zero]
  refine wl (by kernel_rfl) (.bool true) _ (run_eqZ (.tmp 54) (.const (.int .i64 0)) rfl (0) (0) rfl rfl true rfl) ?_
  simp only [Act.put, List.setIfInBounds_toArray, List.set_cons_succ, List.set_cons_zero]
  refine wl rfl (.bool true) _ (run_pickZ (.tmp 53) (.tmp 55) (.const (.bool false)) rfl true (.bool true) rfl rfl) ?_
  simp only [Act.put, List.setIfInBounds_toArray, List.set_cons_succ, List.set_cons_zero]
  refine wl rfl (.bool true) _ (run_mvZ (.tmp 56) rfl (.bool true) rfl) ?_
  simp only [Act.put, List.setIfInBounds_toArray, List.set_cons_succ, List.set_cons_zero]
  refine wpList_callW eN14 [.const (.int .i64 (-1))] _ (by kernel_rfl) rfl [.int .i64 (-1)] rfl ?_
  refine (cost_any u12 (-1) (by decide)).mono ?_
  rintro e w' ⟨rfl, he⟩
  refine ⟨_, rfl, ?_⟩
  obtain rfl := he.symm
  rw [HF.out.2.2.2.2.2.2.2.2.2.2]
  simp only [Act.put, List.setIfInBounds_toArray, List.set_cons_succ, List.set_cons_zero]
  refine wl (by kernel_rfl) (.bool true) _ (run_eqZ (.tmp 58) (.const (.int .i64 0)) rfl (0) (0) rfl rfl true rfl) ?_
  simp only [Act.put, List.setIfInBounds_toArray, List.set_cons_succ, List.set_cons_zero]
  refine wl rfl (.bool true) _ (run_pickZ (.tmp 57) (.tmp 59) (.const (.bool false)) rfl true (.bool true) rfl rfl) ?_
  simp only [Act.put, List.setIfInBounds_toArray, List.set_cons_succ, List.set_cons_zero]
  refine wl rfl (.bool true) _ (run_asZ (.tmp 60) rfl (.bool true) rfl) ?_
  simp only [Act.put, List.setIfInBounds_toArray, List.set_cons_zero]
  refine wpList_nil ?_
  go_wp2_with fail
  first
    | (rw [HPQ.out]; exact ⟨rfl, HW.out⟩)
    | (go_ret; rw [HPQ.out]; exact ⟨rfl, HW.out⟩)

end Go.Proofs.Ytbmlbnbhjligdaa

/- The document's own New: the region that copies the two rows, in whatever order. -/
import Derived.Test.YtgkmegcejekbcaaRefLaws
namespace Go.Proofs.Ytgkmegcejekbcaa
open Go.RowKit Go.Maps

/-- a plant of the document's own that was just made -/
structure RefAt (W : World) (g : Nat) (va vb hv : Value) (ds ts : List Int) : Prop where
  row : Row W g 56 (refCells va vb hv)
  disks : IntsIn W va ds
  tapes : IntsIn W vb ts
  lta : ∀ q, va.ownBlock = some q → q < g
  ltb : ∀ q, vb.ownBlock = some q → q < g
theorem IntsIn.isSlice {w : World} {v : Value} {l : List Int} (h : IntsIn w v l) : v.cells = #[v] ∧ ∃ p n c, v = .slice p n c := by
  obtain ⟨p, cap, rfl, _⟩ := h
  exact ⟨rfl, p, _, cap, rfl⟩
section
variable {ops : Array Oper} {Q : Exit → Act → World → Prop} {a : Act} {w : World} {listed : Array Bool} {fuel : Nat} {S : World → Prop} {o : Oper}
theorem yRunH (hgd : o.guard = none) (v : Value) (hr : ∀ w, S w → (execOp a.eval o).run Try.prog w = .ok (.value v) w) : YieldsIf Try.prog ops S o v a :=
  Or.inl ⟨by simp [Region.wanted, hgd], hr⟩
theorem run_int0Op (ho : o.op = .buildSlice 22 0 #[]) : (execOp a.eval o).run Try.prog w = .ok (.value (.slice (some ⟨w.heap.size, 0, none⟩) 0 0)) (w.alloc (.cells #[] 3)) := by
  have hr : (Instr.buildSlice 22 0 #[]).run Try.prog w = .ok (.slice (some ⟨w.heap.size, 0, none⟩) 0 0) (w.alloc (.cells #[] 3)) := by kernel_rfl
  simp [execOp, ho, hr]
theorem run_appOp {w' : World} (sv x : Operand) (ho : o.op = .call { callee := .builtin .append, args := #[sv, x], argTypes := #[22, 22] }) (v vx v' : Value) (hs : a.eval sv = v) (hx : a.eval x = vx) (hr : (Builtin.append_ #[22, 22] o.type #[v, vx]).run Try.prog w = .ok v' w') : (execOp a.eval o).run Try.prog w = .ok (.value v') w' := by
  simp only [execOp, ho, resolve, invoke, builtin, Sem.run_bind, Sem.run_pure, Result.andThen_ok, List.map_toArray, List.map_cons, List.map_nil, hs, hx, hr]
theorem run_assignOp (x : Operand) (ho : o.op = .assign x) (v : Value) (hx : a.eval x = v) : (execOp a.eval o).run Try.prog w = .ok (.value v) w := by
  simp [execOp, ho, hx]
theorem run_build24Op (x y : Operand) (ho : o.op = .build 24 #[(0, x), (1, y)]) (u v : Value) (hu : u.cells = #[u]) (hv : v.cells = #[v]) (hx : a.eval x = u) (hy : a.eval y = v) : (execOp a.eval o).run Try.prog w = .ok (.value (.agg #[u, v])) w := by
  simp only [execOp, ho, List.map_toArray, List.map_cons, List.map_nil, hx, hy, run_build24 u v hu hv, Sem.run_bind, Sem.run_pure, Result.andThen_ok]
theorem run_build56Op (x : Operand) (ho : o.op = .build 56 #[(0, x)]) (u v : Value) (hu : ∃ p n c, u = .slice p n c) (hv : ∃ p n c, v = .slice p n c) (hx : a.eval x = .agg #[u, v]) : (execOp a.eval o).run Try.prog w = .ok (.value (.agg (refCells u v (.slice none 0 0)).toArray)) w := by
  obtain ⟨p, n, c, rfl⟩ := hu
  obtain ⟨p2, n2, c2, rfl⟩ := hv
  have hr : (Instr.build 56 #[(0, .agg #[.slice p n c, .slice p2 n2 c2])]).run Try.prog w = .ok (.agg (refCells (.slice p n c) (.slice p2 n2 c2) (.slice none 0 0)).toArray) w := by kernel_rfl
  simp only [execOp, ho, List.map_toArray, List.map_cons, List.map_nil, hx, hr, Sem.run_bind, Sem.run_pure, Result.andThen_ok]
theorem run_boxOp (x : Operand) (ho : o.op = .box 56 x) (cs : List Value) (hx : a.eval x = .agg cs.toArray) : (execOp a.eval o).run Try.prog w = .ok (.value (.pointer (some ⟨w.heap.size, 0, none⟩))) (w.alloc (.cells cs.toArray 56)) := by
  simp [execOp, ho, hx, Instr.box, newVar, newRow, Value.cells]
end
section
variable {w : World} {ops : Array Oper} {rest : List Oper} {o : Oper} {a : Act} {Q : Exit → Act → World → Prop}
theorem info40 : (Try.prog.info? 40).map (fun i => (i.zero, i.size, i.bytes)) = some (some (.slice none 0 0), 1, 24) := by kernel_rfl
theorem info57 : (Try.prog.info? 57).map (fun i => (i.zero, i.size, i.bytes)) = some (some (.slice none 0 0), 1, 24) := by kernel_rfl
theorem one53 : OneT 53 := fun w g o v h => by simp [loadVar, isAgg, run_underlying Try.underlying53, h]
theorem size53 : (Try.prog.info? 53).map (·.size) = some 1 := by kernel_rfl
theorem f56_1 : FieldAt 56 1 2 := fun w g off => by kernel_rfl
/-- a literal of one slice -/
theorem wpList_lit57 (x : Operand) (hgd : o.guard = none) (ho : o.op = .buildSlice 57 1 #[(0, x)]) (u : Value) (hu : ∃ p n c, u = .slice p n c) (hx : a.eval x = u)
    (h : ∀ w', Row w' w.heap.size 40 [u] → Below w.heap.size w w' → wpList Try.prog ops Q rest (a.put o.dst (.slice (some ⟨w.heap.size, 0, none⟩) 1 1)) w') : wpList Try.prog ops Q (o :: rest) a w := by
  obtain ⟨p, n, c, rfl⟩ := hu
  have hr : (Instr.buildSlice 57 1 #[(0, .slice p n c)]).run Try.prog w = .ok (.slice (some ⟨w.heap.size, 0, none⟩) 1 1) (w.alloc (.cells #[.slice p n c] 40)) := by kernel_rfl
  exact wpList_value hgd _ _ (by simp only [execOp, ho, List.map_toArray, List.map_cons, List.map_nil, hx, hr, Sem.run_bind, Sem.run_pure, Result.andThen_ok]) (h _ (Row.new w 40 [.slice p n c]) ((Below.refl _ _).alloc (Nat.le_refl _) _))
theorem wpList_lit53 (x : Operand) (hgd : o.guard = none) (ho : o.op = .buildSlice 53 1 #[(0, x)]) (u : Value) (hu : ∃ p n c, u = .slice p n c) (hx : a.eval x = u)
    (h : ∀ w', Row w' w.heap.size 57 [u] → Below w.heap.size w w' → wpList Try.prog ops Q rest (a.put o.dst (.slice (some ⟨w.heap.size, 0, none⟩) 1 1)) w') : wpList Try.prog ops Q (o :: rest) a w := by
  obtain ⟨p, n, c, rfl⟩ := hu
  have hr : (Instr.buildSlice 53 1 #[(0, .slice p n c)]).run Try.prog w = .ok (.slice (some ⟨w.heap.size, 0, none⟩) 1 1) (w.alloc (.cells #[.slice p n c] 57)) := by kernel_rfl
  exact wpList_value hgd _ _ (by simp only [execOp, ho, List.map_toArray, List.map_cons, List.map_nil, hx, hr, Sem.run_bind, Sem.run_pure, Result.andThen_ok]) (h _ (Row.new w 57 [.slice p n c]) ((Below.refl _ _).alloc (Nat.le_refl _) _))
/-- one more behind a row of the call's own -/
theorem wpList_appendOne {t e : TypeId} (hu : Try.prog.underlying t = some (.slice e)) (hinfo : (Try.prog.info? e).map (fun i => (i.zero, i.size, i.bytes)) = some (some (.slice none 0 0), 1, 24)) (sv x : Operand) (hgd : o.guard = none) (ho : o.op = .call { callee := .builtin .append, args := #[sv, x], argTypes := #[t, t] })
    (base : Nat) (v : Value) (n : Nat) (xs : List Value) (hs : a.eval sv = v) (hown : w.ownsRow base e 1 v n xs) (b : Nat) (u : Value) (hu1 : u.oneCell' = true) (hb : Row w b e [u]) (hx : a.eval x = .slice (some ⟨b, 0, none⟩) 1 1) (hn : n ≤ 100000) (hbase : base ≤ w.heap.size)
    (h : ∀ v' w' xs', w'.ownsRow base e 1 v' (n + 1) xs' → Below base w w' → wpList Try.prog ops Q rest (a.put o.dst v') w') : wpList Try.prog ops Q (o :: rest) a w := by
  obtain ⟨i, hi, hz0, hz1, hz2⟩ := info_parts hinfo
  obtain ⟨v', w', hr, ho', hg, _⟩ := run_append_own (P := Try.prog) (w := w) base t o.type e i (.slice none 0 0) 1 24 hu hi hz0 hz1 hz2 rfl (by decide) v n xs hown
    ⟨b, 0, none⟩ 1 1 [u] (by simp) (fun j y hy => by rw [add_none, Nat.zero_add]; exact hb.at j y hy) (by intro y hy; rw [List.mem_singleton.1 hy]; exact hu1) (by unfold maxLen; omega) (by omega) hbase
  refine wpList_value hgd v' w' ?_ (h v' w' _ ho' ((Below.refl base w).grown hg hbase fun k hk => (hown.lt k hk).1))
  simp only [execOp, ho, resolve, invoke, builtin, Sem.run_bind, Sem.run_pure, Result.andThen_ok, List.map_toArray, List.map_cons, List.map_nil, hs, hx, hr]
def HasIn (w W : World) (B g C : Nat) (va vb : Value) (sl : List Value) (k : Nat) : Prop := ∃ hv xs, Row W g 56 (refCells va vb hv) ∧ W.ownsRow C 57 1 hv k xs ∧ Row W B 24 sl ∧ Below B w W ∧ C ≤ W.heap.size
def SecsIn (wk W : World) (l : Value) (j : Nat) : Prop := ∃ ys, W.ownsRow wk.heap.size 40 1 l j ys ∧ Below wk.heap.size wk W
theorem wpList_indexInts (x i : Operand) (hgd : Region.wanted o (yielded ops a.tmps) = true) (ho : o.op = .indexAddr 22 x i) (v : Value) (l : List Int) (hx : a.eval x = v) (hin : IntsIn w v l) (k : Nat) (hk : k < l.length) (I : Int) (hi : a.eval i = .int .i64 I) (hI : I = (k : Int))
    (h : ∀ b j, w.cell? ⟨b, j, none⟩ = some (.int .i64 (l.getD k 0)) → wpList Try.prog ops Q rest (a.put o.dst (.pointer (some ⟨b, j, none⟩))) w) : wpList Try.prog ops Q (o :: rest) a w := by
  subst hI
  obtain ⟨b, off, cap, rfl, hc⟩ := hin.cell k hk
  have s3 : (Try.prog.info? 3).map (·.size) = some 1 := by kernel_rfl
  obtain ⟨i5, hi5, hsz⟩ := Option.map_eq_some_iff.1 s3
  refine BigFrame.wpList_want hgd fun K hK => ?_
  have hr : (Instr.indexAt 22 (.slice (some ⟨b, off, none⟩) l.length cap) (.int .i64 (k : Nat))).run Try.prog w = .ok (.pointer (some ⟨b, off + k, none⟩)) w := by
    simp [Instr.indexAt, asIntOf, run_underlying Try.underlying22, hk, sizeOf, typeInfo, hi5, hsz, add_none]
  unfold Oper.wp
  rw [show (execOp a.eval o).run Try.prog w = .ok (.value (.pointer (some ⟨b, off + k, none⟩))) w by simp only [execOp, ho, hx, hi, hr, Sem.run_bind, Sem.run_pure, Result.andThen_ok]]
  exact hK _ _ (h b (off + k) hc)
theorem own_later {w w' : World} {base e size n : Nat} {v : Value} {xs : List Value} (h : w.ownsRow base e size v n xs) (hb : Below w.heap.size w w') : w'.ownsRow base e size v n xs :=
  own_kept h fun q hq => hb.block q (h.lt q hq).2
theorem own_isSlice {w : World} {base e size n : Nat} {v : Value} {xs : List Value} (h : w.ownsRow base e size v n xs) : ∃ p n c, v = .slice p n c := by
  rcases h.2 with ⟨rfl, _⟩ | ⟨g, cap, cur, rfl, _⟩
  · exact ⟨_, _, _, rfl⟩
  · exact ⟨_, _, _, rfl⟩
end

set_option maxHeartbeats 4000000 in
set_option maxRecDepth 100000 in
theorem refNew_any (w : World) (vd vt : Value) (ds ts : List Int) (hd : IntsIn w vd ds) (ht : IntsIn w vt ts) (hl1 : ds.length ≤ 17592186043904) (hl2 : ts.length ≤ 17592186043904) :
    Calls Try.prog 10 #[.agg #[vd, vt]] w fun e w' => ∃ v, e = .returned (.tuple #[v, .int .i64 (if shapeOk ds ts then 0 else 30)]) ∧ Below w.heap.size w w' := by
  obtain ⟨B, hB⟩ : ∃ B, B = w.heap.size := ⟨_, rfl⟩
  have HB : Hid (B = w.heap.size) := hB
  obtain ⟨pd, cd, hvd, hdl⟩ := hd.shape
  obtain ⟨pt, ct, hvt, htl⟩ := ht.shape
  subst hvd hvt
  obtain ⟨nd, hnd⟩ : ∃ nd, nd = ds.length := ⟨_, rfl⟩
  obtain ⟨nt, hnt⟩ : ∃ nt, nt = ts.length := ⟨_, rfl⟩
  have HND : Hid (nd = ds.length) := hnd
  have HNT : Hid (nt = ts.length) := hnt
  have HD : Hid (IntsIn w (.slice pd nd cd) ds) := by rw [hnd]; exact hd
  have HT : Hid (IntsIn w (.slice pt nt ct) ts) := by rw [hnt]; exact ht
  rw [← hnd, ← hnt, ← hB]
  rw [← hnd] at hl1
  rw [← hnt] at hl2
  clear hd ht hB hnd hnt hdl htl
  obtain ⟨er, her⟩ : ∃ er : Int, (if shapeOk ds ts then (0 : Int) else 30) = er := ⟨_, rfl⟩
  have HER : Hid ((if shapeOk ds ts then (0 : Int) else 30) = er) := her
  rw [her]
  clear her
  go_enter Try.func10, Try.ntmps10
  go_upto_region 0 with fail
  refine wp_region_lit ?_
  refine wpList_box (.tmp 0) rfl rfl [.slice pd nd cd, .slice pt nt ct] rfl ?_
  intro w1 r1 s1 b1
  refine wpList_assign (.const (.pointer none)) rfl rfl (.pointer none) rfl ?_
  refine wpList_assign (.const (.int .i64 0)) rfl rfl (.int .i64 0) rfl ?_
  refine wpList_nil ?_
  simp only [Act.put, List.setIfInBounds_toArray, List.set_cons_succ, List.set_cons_zero]
  rw [← HB.out] at r1 s1 b1 ⊢
  have k0 := r1.at 0 _ rfl
  have k1 := r1.at 1 _ rfl
  have HB1 : Hid (Below B w w1 ∧ w1.heap.size = B + 1) := ⟨b1, s1⟩
  have HR1 : Hid (Row w1 B 24 [.slice pd nd cd, .slice pt nt ct]) := r1
  have HD1 : Hid (IntsIn w1 (.slice pd nd cd) ds) := HD.out.later (by rw [← HB.out]; exact b1)
  have HT1 : Hid (IntsIn w1 (.slice pt nt ct) ts) := HT.out.later (by rw [← HB.out]; exact b1)
  clear r1 s1 b1
  by_cases h1 : nd + nt = 0
  · have t1 : ((nd : Int) + (nt : Int) == 0) = true := by simp; omega
    have t1' : decide ((nd : Int) + (nt : Int) = 0) = true := by simp; omega
    have e30 : er = 30 := by
      rw [← HER.out]
      have : shapeOk ds ts = false := by
        unfold shapeOk
        rw [← HND.out, ← HNT.out, decide_eq_false (by omega)]
        rfl
      rw [this]
      rfl
    subst e30
    go_wp2
    go_ret2
    exact ⟨_, rfl, HB1.out.1⟩
  have t1 : ((nd : Int) + (nt : Int) == 0) = false := by simp; omega
  have t1' : decide ((nd : Int) + (nt : Int) = 0) = false := by simp; omega
  by_cases h2 : 12 < nd + nt
  · have t2 : decide (12 < (nd : Int) + (nt : Int)) = true := by simp; omega
    have e30 : er = 30 := by
      rw [← HER.out]
      have : shapeOk ds ts = false := by
        unfold shapeOk
        rw [← HND.out, ← HNT.out, decide_eq_true (by omega : 1 ≤ nd + nt), decide_eq_false (by omega : ¬ nd + nt ≤ 12)]
        rfl
      rw [this]
      rfl
    subst e30
    go_wp2
    go_ret2
    exact ⟨_, rfl, HB1.out.1⟩
  have t2 : decide (12 < (nd : Int) + (nt : Int)) = false := by simp; omega
  go_upto_region 4 with fail
  clear k0 k1
  go_cut [5] from 23 to 33 (fun s W => ∃ g va vb, s = ptr g ∧ RefAt W g va vb (.slice none 0 0) ds ts ∧ w1.heap.size ≤ g ∧ Below w1.heap.size w1 W)
  case first =>
    refine wp_region_held (S := fun W => Below w1.heap.size w1 W) (by kernel_rfl) ?_
    show wpAnyH _ _ _ _ _ 12 (Array.replicate 12 false) _ _
    obtain ⟨W0, hW0⟩ : ∃ W0 : World, W0 = { w1 with drawn := w1.drawn + 1 } := ⟨_, rfl⟩
    rw [← hW0]
    have hS : Below w1.heap.size w1 W0 := by rw [hW0]; exact ⟨rfl, rfl, rfl, Nat.le_refl _, fun _ _ => rfl⟩
    clear hW0
    refine takeH (i := 1) (some 24) rfl rfl (by kernel_rfl) (by kernel_rfl) (by kernel_rfl) (fun _ _ _ h => h) (yRunH rfl (.pointer (some ⟨B, 0, none⟩)) (fun W' _ => run_fieldOp' f24_0 (.tmp 1) rfl B 0 rfl)) hS ?_
    simp only [Act.put, List.setIfInBounds_toArray, List.set_cons_succ, List.set_cons_zero]
    refine takeH (i := 2) (some 25) rfl rfl (by kernel_rfl) (by kernel_rfl) (by kernel_rfl) (fun _ _ _ h => h) (yRunH rfl (.slice pd nd cd) (fun W' hW => run_load1 one22 (.tmp 24) rfl B 0 rfl _ ((HR1.out.later hW HR1.out.lt).at 0 _ rfl))) hS ?_
    simp only [Act.put, List.setIfInBounds_toArray, List.set_cons_succ, List.set_cons_zero]
    refine takeH (i := 5) (some 28) rfl rfl (by kernel_rfl) (by kernel_rfl) (by kernel_rfl) (fun _ _ _ h => h) (yRunH rfl (.pointer (some ⟨B, 1, none⟩)) (fun W' _ => run_fieldOp' f24_1 (.tmp 1) rfl B 0 rfl)) hS ?_
    simp only [Act.put, List.setIfInBounds_toArray, List.set_cons_succ, List.set_cons_zero]
    refine takeH (i := 6) (some 29) rfl rfl (by kernel_rfl) (by kernel_rfl) (by kernel_rfl) (fun _ _ _ h => h) (yRunH rfl (.slice pt nt ct) (fun W' hW => run_load1 one22 (.tmp 28) rfl B 1 rfl _ ((HR1.out.later hW HR1.out.lt).at 1 _ rfl))) hS ?_
    simp only [Act.put, List.setIfInBounds_toArray, List.set_cons_succ, List.set_cons_zero]
    refine wpAnyH_all (rs := [0, 4]) (by kernel_rfl) (by decide) ?_
    intro i hi
    have hi' : i = 0 ∨ i = 4 := by simpa using hi
    clear hi
    rcases hi' with rfl | rfl
    · refine opValue (some 23) rfl rfl rfl _ _ (run_int0Op rfl) ?_
      obtain ⟨W1, g1, hW1, hg1⟩ : ∃ W1 g1, W1 = W0.alloc (.cells #[] 3) ∧ g1 = W0.heap.size := ⟨_, _, rfl, rfl⟩
      rw [← hW1, ← hg1]
      have b1 : Below W0.heap.size W0 W1 := by rw [hW1]; exact (Below.refl _ _).alloc (Nat.le_refl _) _
      have r1 : Row W1 g1 3 [] := by rw [hW1, hg1]; exact Row.new _ _ _
      have h1 : Below w1.heap.size w1 W1 := hS.trans (b1.mono hS.size)
      refine ⟨h1, ?_⟩
      clear hW1 hg1
      simp only [Act.put, List.setIfInBounds_toArray, List.set_cons_succ, List.set_cons_zero]
      refine wpAnyH_all (rs := [3, 4]) (by kernel_rfl) (by decide) ?_
      intro i hi
      have hi' : i = 3 ∨ i = 4 := by simpa using hi
      clear hi
      rcases hi' with rfl | rfl
      · obtain ⟨v2, W2, ra2, Iv2, b2, Lv2⟩ := app_ints 22 g1 r1 (.slice pd nd cd) ds (HD1.out.later h1) (by have := HND.out; omega)
        refine opValue (some 26) rfl rfl rfl v2 W2 (run_appOp (.tmp 23) (.tmp 25) rfl _ _ _ rfl rfl ra2) ?_
        have h2 : Below w1.heap.size w1 W2 := h1.trans (b2.mono h1.size)
        refine ⟨h2, ?_⟩
        obtain ⟨Cv2, Hv2⟩ := Iv2.isSlice
        clear ra2
        simp only [Act.put, List.setIfInBounds_toArray, List.set_cons_succ, List.set_cons_zero]
        refine oneH (i := 4) (by kernel_rfl) ?_
        refine opValue (some 27) rfl rfl rfl _ _ (run_int0Op rfl) ?_
        obtain ⟨W3, g3, hW3, hg3⟩ : ∃ W3 g3, W3 = W2.alloc (.cells #[] 3) ∧ g3 = W2.heap.size := ⟨_, _, rfl, rfl⟩
        rw [← hW3, ← hg3]
        have b3 : Below W2.heap.size W2 W3 := by rw [hW3]; exact (Below.refl _ _).alloc (Nat.le_refl _) _
        have r3 : Row W3 g3 3 [] := by rw [hW3, hg3]; exact Row.new _ _ _
        have h3 : Below w1.heap.size w1 W3 := h2.trans (b3.mono h2.size)
        refine ⟨h3, ?_⟩
        clear hW3 hg3
        simp only [Act.put, List.setIfInBounds_toArray, List.set_cons_succ, List.set_cons_zero]
        have Iv2' := Iv2.later b3
        clear Iv2
        have Iv2 := Iv2'
        clear Iv2'
        have Lv2' : ∀ q, v2.ownBlock = some q → q < W3.heap.size := fun q hq => Nat.lt_of_lt_of_le (Lv2 q hq) b3.size
        clear Lv2
        have Lv2 := Lv2'
        clear Lv2'
        refine oneH (i := 7) (by kernel_rfl) ?_
        obtain ⟨v4, W4, ra4, Iv4, b4, Lv4⟩ := app_ints 22 g3 r3 (.slice pt nt ct) ts (HT1.out.later h3) (by have := HNT.out; omega)
        refine opValue (some 30) rfl rfl rfl v4 W4 (run_appOp (.tmp 27) (.tmp 29) rfl _ _ _ rfl rfl ra4) ?_
        have h4 : Below w1.heap.size w1 W4 := h3.trans (b4.mono h3.size)
        refine ⟨h4, ?_⟩
        obtain ⟨Cv4, Hv4⟩ := Iv4.isSlice
        clear ra4
        simp only [Act.put, List.setIfInBounds_toArray, List.set_cons_succ, List.set_cons_zero]
        have Iv2' := Iv2.later b4
        clear Iv2
        have Iv2 := Iv2'
        clear Iv2'
        have Lv2' : ∀ q, v2.ownBlock = some q → q < W4.heap.size := fun q hq => Nat.lt_of_lt_of_le (Lv2 q hq) b4.size
        clear Lv2
        have Lv2 := Lv2'
        clear Lv2'
        refine takeH (i := 8) (some 31) rfl rfl (by kernel_rfl) (by kernel_rfl) (by kernel_rfl) (fun _ _ _ h => h) (yRunH rfl (.agg #[v2, v4]) (fun W' _ => run_build24Op (.tmp 26) (.tmp 30) rfl _ _ Cv2 Cv4 rfl rfl)) h4 ?_
        simp only [Act.put, List.setIfInBounds_toArray, List.set_cons_succ, List.set_cons_zero]
        refine takeH (i := 9) (some 32) rfl rfl (by kernel_rfl) (by kernel_rfl) (by kernel_rfl) (fun _ _ _ h => h) (yRunH rfl (.agg (refCells v2 v4 (.slice none 0 0)).toArray) (fun W' _ => run_build56Op (.tmp 31) rfl _ _ Hv2 Hv4 rfl)) h4 ?_
        simp only [Act.put, List.setIfInBounds_toArray, List.set_cons_succ, List.set_cons_zero]
        refine oneH (i := 10) (by kernel_rfl) ?_
        refine opValue (some 33) rfl rfl rfl _ _ (run_boxOp (.tmp 32) rfl (refCells v2 v4 (.slice none 0 0)) rfl) ?_
        obtain ⟨Wz, hWz⟩ : ∃ Wz, Wz = W4.alloc (.cells (refCells v2 v4 (.slice none 0 0)).toArray 56) := ⟨_, rfl⟩
        rw [← hWz]
        have bz : Below W4.heap.size W4 Wz := by rw [hWz]; exact (Below.refl _ _).alloc (Nat.le_refl _) _
        have rz : Row Wz W4.heap.size 56 (refCells v2 v4 (.slice none 0 0)) := by rw [hWz]; exact Row.new _ _ _
        have hz : Below w1.heap.size w1 Wz := h4.trans (bz.mono h4.size)
        refine ⟨hz, ?_⟩
        simp only [Act.put, List.setIfInBounds_toArray, List.set_cons_succ, List.set_cons_zero]
        refine takeH (i := 11) (some 5) rfl rfl (by kernel_rfl) (by kernel_rfl) (by kernel_rfl) (fun _ _ _ h => h) (yRunH rfl (ptr W4.heap.size) (fun W' _ => run_assignOp (.tmp 33) rfl _ rfl)) hz ?_
        simp only [Act.put, List.setIfInBounds_toArray, List.set_cons_succ, List.set_cons_zero]
        refine wpAnyH_done (by kernel_rfl) ?_ _
        have RS : Hid (∃ g va vb, ptr W4.heap.size = ptr g ∧ RefAt Wz g va vb (.slice none 0 0) ds ts ∧ w1.heap.size ≤ g ∧ Below w1.heap.size w1 Wz) := ⟨_, v2, v4, rfl, ⟨rz, Iv2.later bz, Iv4.later bz, Lv2, Lv4⟩, h4.size, hz⟩
        clear rz hz bz hWz
        go_wp2
        go_meet
        case rel => exact RS.out
      · refine opValue (some 27) rfl rfl rfl _ _ (run_int0Op rfl) ?_
        obtain ⟨W5, g5, hW5, hg5⟩ : ∃ W5 g5, W5 = W1.alloc (.cells #[] 3) ∧ g5 = W1.heap.size := ⟨_, _, rfl, rfl⟩
        rw [← hW5, ← hg5]
        have b5 : Below W1.heap.size W1 W5 := by rw [hW5]; exact (Below.refl _ _).alloc (Nat.le_refl _) _
        have r5 : Row W5 g5 3 [] := by rw [hW5, hg5]; exact Row.new _ _ _
        have h5 : Below w1.heap.size w1 W5 := h1.trans (b5.mono h1.size)
        refine ⟨h5, ?_⟩
        clear hW5 hg5
        simp only [Act.put, List.setIfInBounds_toArray, List.set_cons_succ, List.set_cons_zero]
        have r1' : Row W5 g1 3 [] := r1.later b5 r1.lt
        clear r1
        have r1 := r1'
        clear r1'
        refine oneH (i := 3) (by kernel_rfl) ?_
        obtain ⟨v6, W6, ra6, Iv6, b6, Lv6⟩ := app_ints 22 g1 r1 (.slice pd nd cd) ds (HD1.out.later h5) (by have := HND.out; omega)
        refine opValue (some 26) rfl rfl rfl v6 W6 (run_appOp (.tmp 23) (.tmp 25) rfl _ _ _ rfl rfl ra6) ?_
        have h6 : Below w1.heap.size w1 W6 := h5.trans (b6.mono h5.size)
        refine ⟨h6, ?_⟩
        obtain ⟨Cv6, Hv6⟩ := Iv6.isSlice
        clear ra6
        simp only [Act.put, List.setIfInBounds_toArray, List.set_cons_succ, List.set_cons_zero]
        have r5' : Row W6 g5 3 [] := r5.later b6 r5.lt
        clear r5
        have r5 := r5'
        clear r5'
        refine oneH (i := 7) (by kernel_rfl) ?_
        obtain ⟨v7, W7, ra7, Iv7, b7, Lv7⟩ := app_ints 22 g5 r5 (.slice pt nt ct) ts (HT1.out.later h6) (by have := HNT.out; omega)
        refine opValue (some 30) rfl rfl rfl v7 W7 (run_appOp (.tmp 27) (.tmp 29) rfl _ _ _ rfl rfl ra7) ?_
        have h7 : Below w1.heap.size w1 W7 := h6.trans (b7.mono h6.size)
        refine ⟨h7, ?_⟩
        obtain ⟨Cv7, Hv7⟩ := Iv7.isSlice
        clear ra7
        simp only [Act.put, List.setIfInBounds_toArray, List.set_cons_succ, List.set_cons_zero]
        have Iv6' := Iv6.later b7
        clear Iv6
        have Iv6 := Iv6'
        clear Iv6'
        have Lv6' : ∀ q, v6.ownBlock = some q → q < W7.heap.size := fun q hq => Nat.lt_of_lt_of_le (Lv6 q hq) b7.size
        clear Lv6
        have Lv6 := Lv6'
        clear Lv6'
        refine takeH (i := 8) (some 31) rfl rfl (by kernel_rfl) (by kernel_rfl) (by kernel_rfl) (fun _ _ _ h => h) (yRunH rfl (.agg #[v6, v7]) (fun W' _ => run_build24Op (.tmp 26) (.tmp 30) rfl _ _ Cv6 Cv7 rfl rfl)) h7 ?_
        simp only [Act.put, List.setIfInBounds_toArray, List.set_cons_succ, List.set_cons_zero]
        refine takeH (i := 9) (some 32) rfl rfl (by kernel_rfl) (by kernel_rfl) (by kernel_rfl) (fun _ _ _ h => h) (yRunH rfl (.agg (refCells v6 v7 (.slice none 0 0)).toArray) (fun W' _ => run_build56Op (.tmp 31) rfl _ _ Hv6 Hv7 rfl)) h7 ?_
        simp only [Act.put, List.setIfInBounds_toArray, List.set_cons_succ, List.set_cons_zero]
        refine oneH (i := 10) (by kernel_rfl) ?_
        refine opValue (some 33) rfl rfl rfl _ _ (run_boxOp (.tmp 32) rfl (refCells v6 v7 (.slice none 0 0)) rfl) ?_
        obtain ⟨Wz, hWz⟩ : ∃ Wz, Wz = W7.alloc (.cells (refCells v6 v7 (.slice none 0 0)).toArray 56) := ⟨_, rfl⟩
        rw [← hWz]
        have bz : Below W7.heap.size W7 Wz := by rw [hWz]; exact (Below.refl _ _).alloc (Nat.le_refl _) _
        have rz : Row Wz W7.heap.size 56 (refCells v6 v7 (.slice none 0 0)) := by rw [hWz]; exact Row.new _ _ _
        have hz : Below w1.heap.size w1 Wz := h7.trans (bz.mono h7.size)
        refine ⟨hz, ?_⟩
        simp only [Act.put, List.setIfInBounds_toArray, List.set_cons_succ, List.set_cons_zero]
        refine takeH (i := 11) (some 5) rfl rfl (by kernel_rfl) (by kernel_rfl) (by kernel_rfl) (fun _ _ _ h => h) (yRunH rfl (ptr W7.heap.size) (fun W' _ => run_assignOp (.tmp 33) rfl _ rfl)) hz ?_
        simp only [Act.put, List.setIfInBounds_toArray, List.set_cons_succ, List.set_cons_zero]
        refine wpAnyH_done (by kernel_rfl) ?_ _
        have RS : Hid (∃ g va vb, ptr W7.heap.size = ptr g ∧ RefAt Wz g va vb (.slice none 0 0) ds ts ∧ w1.heap.size ≤ g ∧ Below w1.heap.size w1 Wz) := ⟨_, v6, v7, rfl, ⟨rz, Iv6.later bz, Iv7.later bz, Lv6, Lv7⟩, h7.size, hz⟩
        clear rz hz bz hWz
        go_wp2
        go_meet
        case rel => exact RS.out
    · refine opValue (some 27) rfl rfl rfl _ _ (run_int0Op rfl) ?_
      obtain ⟨W8, g8, hW8, hg8⟩ : ∃ W8 g8, W8 = W0.alloc (.cells #[] 3) ∧ g8 = W0.heap.size := ⟨_, _, rfl, rfl⟩
      rw [← hW8, ← hg8]
      have b8 : Below W0.heap.size W0 W8 := by rw [hW8]; exact (Below.refl _ _).alloc (Nat.le_refl _) _
      have r8 : Row W8 g8 3 [] := by rw [hW8, hg8]; exact Row.new _ _ _
      have h8 : Below w1.heap.size w1 W8 := hS.trans (b8.mono hS.size)
      refine ⟨h8, ?_⟩
      clear hW8 hg8
      simp only [Act.put, List.setIfInBounds_toArray, List.set_cons_succ, List.set_cons_zero]
      refine oneH (i := 0) (by kernel_rfl) ?_
      refine opValue (some 23) rfl rfl rfl _ _ (run_int0Op rfl) ?_
      obtain ⟨W9, g9, hW9, hg9⟩ : ∃ W9 g9, W9 = W8.alloc (.cells #[] 3) ∧ g9 = W8.heap.size := ⟨_, _, rfl, rfl⟩
      rw [← hW9, ← hg9]
      have b9 : Below W8.heap.size W8 W9 := by rw [hW9]; exact (Below.refl _ _).alloc (Nat.le_refl _) _
      have r9 : Row W9 g9 3 [] := by rw [hW9, hg9]; exact Row.new _ _ _
      have h9 : Below w1.heap.size w1 W9 := h8.trans (b9.mono h8.size)
      refine ⟨h9, ?_⟩
      clear hW9 hg9
      simp only [Act.put, List.setIfInBounds_toArray, List.set_cons_succ, List.set_cons_zero]
      have r8' : Row W9 g8 3 [] := r8.later b9 r8.lt
      clear r8
      have r8 := r8'
      clear r8'
      refine oneH (i := 3) (by kernel_rfl) ?_
      obtain ⟨v10, W10, ra10, Iv10, b10, Lv10⟩ := app_ints 22 g9 r9 (.slice pd nd cd) ds (HD1.out.later h9) (by have := HND.out; omega)
      refine opValue (some 26) rfl rfl rfl v10 W10 (run_appOp (.tmp 23) (.tmp 25) rfl _ _ _ rfl rfl ra10) ?_
      have h10 : Below w1.heap.size w1 W10 := h9.trans (b10.mono h9.size)
      refine ⟨h10, ?_⟩
      obtain ⟨Cv10, Hv10⟩ := Iv10.isSlice
      clear ra10
      simp only [Act.put, List.setIfInBounds_toArray, List.set_cons_succ, List.set_cons_zero]
      have r8' : Row W10 g8 3 [] := r8.later b10 r8.lt
      clear r8
      have r8 := r8'
      clear r8'
      refine oneH (i := 7) (by kernel_rfl) ?_
      obtain ⟨v11, W11, ra11, Iv11, b11, Lv11⟩ := app_ints 22 g8 r8 (.slice pt nt ct) ts (HT1.out.later h10) (by have := HNT.out; omega)
      refine opValue (some 30) rfl rfl rfl v11 W11 (run_appOp (.tmp 27) (.tmp 29) rfl _ _ _ rfl rfl ra11) ?_
      have h11 : Below w1.heap.size w1 W11 := h10.trans (b11.mono h10.size)
      refine ⟨h11, ?_⟩
      obtain ⟨Cv11, Hv11⟩ := Iv11.isSlice
      clear ra11
      simp only [Act.put, List.setIfInBounds_toArray, List.set_cons_succ, List.set_cons_zero]
      have Iv10' := Iv10.later b11
      clear Iv10
      have Iv10 := Iv10'
      clear Iv10'
      have Lv10' : ∀ q, v10.ownBlock = some q → q < W11.heap.size := fun q hq => Nat.lt_of_lt_of_le (Lv10 q hq) b11.size
      clear Lv10
      have Lv10 := Lv10'
      clear Lv10'
      refine takeH (i := 8) (some 31) rfl rfl (by kernel_rfl) (by kernel_rfl) (by kernel_rfl) (fun _ _ _ h => h) (yRunH rfl (.agg #[v10, v11]) (fun W' _ => run_build24Op (.tmp 26) (.tmp 30) rfl _ _ Cv10 Cv11 rfl rfl)) h11 ?_
      simp only [Act.put, List.setIfInBounds_toArray, List.set_cons_succ, List.set_cons_zero]
      refine takeH (i := 9) (some 32) rfl rfl (by kernel_rfl) (by kernel_rfl) (by kernel_rfl) (fun _ _ _ h => h) (yRunH rfl (.agg (refCells v10 v11 (.slice none 0 0)).toArray) (fun W' _ => run_build56Op (.tmp 31) rfl _ _ Hv10 Hv11 rfl)) h11 ?_
      simp only [Act.put, List.setIfInBounds_toArray, List.set_cons_succ, List.set_cons_zero]
      refine oneH (i := 10) (by kernel_rfl) ?_
      refine opValue (some 33) rfl rfl rfl _ _ (run_boxOp (.tmp 32) rfl (refCells v10 v11 (.slice none 0 0)) rfl) ?_
      obtain ⟨Wz, hWz⟩ : ∃ Wz, Wz = W11.alloc (.cells (refCells v10 v11 (.slice none 0 0)).toArray 56) := ⟨_, rfl⟩
      rw [← hWz]
      have bz : Below W11.heap.size W11 Wz := by rw [hWz]; exact (Below.refl _ _).alloc (Nat.le_refl _) _
      have rz : Row Wz W11.heap.size 56 (refCells v10 v11 (.slice none 0 0)) := by rw [hWz]; exact Row.new _ _ _
      have hz : Below w1.heap.size w1 Wz := h11.trans (bz.mono h11.size)
      refine ⟨hz, ?_⟩
      simp only [Act.put, List.setIfInBounds_toArray, List.set_cons_succ, List.set_cons_zero]
      refine takeH (i := 11) (some 5) rfl rfl (by kernel_rfl) (by kernel_rfl) (by kernel_rfl) (fun _ _ _ h => h) (yRunH rfl (ptr W11.heap.size) (fun W' _ => run_assignOp (.tmp 33) rfl _ rfl)) hz ?_
      simp only [Act.put, List.setIfInBounds_toArray, List.set_cons_succ, List.set_cons_zero]
      refine wpAnyH_done (by kernel_rfl) ?_ _
      have RS : Hid (∃ g va vb, ptr W11.heap.size = ptr g ∧ RefAt Wz g va vb (.slice none 0 0) ds ts ∧ w1.heap.size ≤ g ∧ Below w1.heap.size w1 Wz) := ⟨_, v10, v11, rfl, ⟨rz, Iv10.later bz, Iv11.later bz, Lv10, Lv11⟩, h11.size, hz⟩
      clear rz hz bz hWz
      go_wp2
      go_meet
      case rel => exact RS.out
  case rest =>
    obtain ⟨g, va, vb, rfl, hra, hwg, hbc⟩ := hcut
    obtain ⟨N, hN⟩ : ∃ N, N = nd + nt := ⟨_, rfl⟩
    have hN' : (nd : Int) + (nt : Int) = (N : Int) := by omega
    have hN12 : N ≤ 12 := by omega
    have HNN : Hid (N = nd + nt) := hN
    have HRA : Hid (RefAt wc g va vb (.slice none 0 0) ds ts) := hra
    have HBW : Hid (Below B w wc) := HB1.out.1.trans (hbc.mono (by have := HB1.out.2; omega))
    have HNpos : Hid (1 ≤ ds.length + ts.length) := by show _ ≤ _; have := HND.out; have := HNT.out; omega
    have HBC : Hid (Below w1.heap.size w1 wc) := hbc
    have HWG : Hid (w1.heap.size ≤ g) := hwg
    have HMo : Hid (∀ W : World, RefAt W g va vb (.slice none 0 0) ds ts → ∀ k, k < N → Calls Try.prog 39 #[ptr g, .int .i64 (k : Nat)] W fun e w' => e = .returned (.int .i64 ((ds ++ ts).getD k 0)) ∧ ∃ n, w' = W.drewN n) := by
      intro W hW k hk
      by_cases hkd : k < ds.length
      · have := most_disk W g va vb _ ds hW.row hW.disks k hkd
        rw [show (ds ++ ts).getD k 0 = ds.getD k 0 by simp [List.getElem?_append_left hkd]]
        exact this.mono fun e w' h => ⟨h.1, 0, h.2.symm⟩
      · have hkt : k - ds.length < ts.length := by have := HND.out; have := HNT.out; omega
        have := most_tape W g va vb _ ds ts hW.row hW.disks hW.tapes (k - ds.length) hkt
        rw [show ds.length + (k - ds.length) = k by omega] at this
        rw [show (ds ++ ts).getD k 0 = ts.getD (k - ds.length) 0 by simp [List.getElem?_append_right (Nat.le_of_not_lt hkd)]]
        exact this
    rw [hN']
    clear hra hbc hwg hN hN' h1 h2 t1 t1' t2 hl1 hl2
    go_wp2
    go_loopw [6] (fun i W => ∃ k : Nat, k ≤ N ∧ i = .int .i64 k ∧ (∀ j, j < k → 1 ≤ (ds ++ ts).getD j 0 ∧ (ds ++ ts).getD j 0 ≤ 4096) ∧ ∃ n, W = wc.drewN n) (fun i _ => N - (intOf i).toNat)
    case atStart => exact ⟨0, Nat.zero_le _, rfl, fun j hj => (by omega), 0, rfl⟩
    case round =>
      obtain ⟨k, hk, rfl, hgood, m, hW⟩ := hrel
      have HGD : Hid (∀ j, j < k → 1 ≤ (ds ++ ts).getD j 0 ∧ (ds ++ ts).getD j 0 ≤ 4096) := hgood
      have HWW : Hid (wr = wc.drewN m) := hW
      have HRW : Hid (RefAt wr g va vb (.slice none 0 0) ds ts) := by
        show RefAt _ _ _ _ _ _ _
        rw [hW]
        exact ⟨HRA.out.row, HRA.out.disks, HRA.out.tapes, HRA.out.lta, HRA.out.ltb⟩
      clear hgood hW
      by_cases hlt : k < N
      · obtain ⟨x, hx⟩ : ∃ x, (ds ++ ts).getD k 0 = x := ⟨_, rfl⟩
        have HX : Hid ((ds ++ ts).getD k 0 = x) := hx
        have HC1 : Hid (Calls Try.prog 39 #[ptr g, .int .i64 (k : Nat)] wr fun e w' => e = .returned (.int .i64 x) ∧ ∃ n, w' = wr.drewN n) := by
          show Calls _ _ _ _ _
          rw [← hx]
          exact HMo.out wr HRW.out k hlt
        have HC2 : Hid (∀ n, Calls Try.prog 39 #[ptr g, .int .i64 (k : Nat)] (wr.drewN n) fun e w' => e = .returned (.int .i64 x) ∧ ∃ n', w' = (wr.drewN n).drewN n') := by
          intro n
          rw [← hx]
          exact HMo.out (wr.drewN n) ⟨HRW.out.row, HRW.out.disks, HRW.out.tapes, HRW.out.lta, HRW.out.ltb⟩ k hlt
        have HBad : Hid (¬ (1 ≤ x ∧ x ≤ 4096) → er = 30) := by
          intro hb
          rw [← HER.out]
          have : shapeOk ds ts = false := by
            apply Classical.byContradiction
            intro hne
            have hok : shapeOk ds ts = true := by simpa using hne
            unfold shapeOk at hok
            simp only [Bool.and_eq_true, decide_eq_true_eq] at hok
            apply hb
            rw [← hx]
            by_cases hkd : k < ds.length
            · have := sizesOk_at hok.2.2.1 k hkd
              rw [show (ds ++ ts).getD k 0 = ds.getD k 0 by simp [List.getElem?_append_left hkd]]
              exact this
            · have hkt : k - ds.length < ts.length := by have := HND.out; have := HNT.out; have := HNN.out; omega
              have := sizesOk_at hok.2.2.2 _ hkt
              rw [show (ds ++ ts).getD k 0 = ts.getD (k - ds.length) 0 by simp [List.getElem?_append_right (Nat.le_of_not_lt hkd)]]
              exact this
          rw [this]
          rfl
        clear hx
        by_cases hx1 : x < 1
        · have e30 : er = 30 := HBad.out (by omega)
          subst e30
          have t1 : decide (x < 1) = true := decide_eq_true hx1
          go_wp2_with (go_at_call 39; refine HC1.out.mono ?_; rintro e w' ⟨rfl, n, rfl⟩)
          go_ret2
          exact ⟨_, rfl, by rw [HWW.out]; exact Below.drewN (Below.drewN HBW.out _) _⟩
        · have t1 : decide (x < 1) = false := decide_eq_false hx1
          by_cases hx2 : 4096 < x
          · have e30 : er = 30 := HBad.out (by omega)
            subst e30
            have t2 : decide (4096 < x) = true := decide_eq_true hx2
            go_wp2_with (first | (go_at_call 39; refine HC1.out.mono ?_; rintro e w' ⟨rfl, n, rfl⟩) | (go_at_call 39; refine (HC2.out n).mono ?_; rintro e w' ⟨rfl, n2, rfl⟩))
            go_ret2
            exact ⟨_, rfl, by rw [HWW.out]; exact Below.drewN (Below.drewN HBW.out _) _⟩
          · have t2 : decide (4096 < x) = false := decide_eq_false hx2
            go_wp2_with (first | (go_at_call 39; refine HC1.out.mono ?_; rintro e w' ⟨rfl, n, rfl⟩) | (go_at_call 39; refine (HC2.out n).mono ?_; rintro e w' ⟨rfl, n2, rfl⟩))
            refine ⟨⟨k + 1, by omega, by go_num, fun j hj => ?_, m + (n + n2), by rw [HWW.out, World.drewN_drewN]⟩, ?_⟩
            · by_cases hjk : j = k
              · subst hjk
                rw [HX.out]
                omega
              · exact HGD.out j (by omega)
            · simp [intOf]; omega
      · obtain rfl : N = k := by omega
        have e0 : er = 0 := by
          rw [← HER.out]
          have : shapeOk ds ts = true := by
            unfold shapeOk
            have h1 := HND.out
            have h2 := HNT.out
            have h3 := HNN.out
            have hs1 : sizesOk ds = true := List.all_eq_true.2 fun x hx => by
              obtain ⟨j, hj, rfl⟩ := List.getElem_of_mem hx
              have := HGD.out j (by omega)
              rw [show (ds ++ ts).getD j 0 = ds[j] by simp [List.getElem?_append_left hj, hj]] at this
              simp [this.1, this.2]
            have hs2 : sizesOk ts = true := List.all_eq_true.2 fun x hx => by
              obtain ⟨j, hj, rfl⟩ := List.getElem_of_mem hx
              have := HGD.out (ds.length + j) (by omega)
              rw [show (ds ++ ts).getD (ds.length + j) 0 = ts[j] by simp [hj]] at this
              simp [this.1, this.2]
            rw [hs1, hs2, decide_eq_true (by have := HNpos.out; omega : 1 ≤ ds.length + ts.length), decide_eq_true (by omega : ds.length + ts.length ≤ 12)]
            rfl
          rw [this]
          rfl
        subst e0
        obtain ⟨wd, rfl⟩ : ∃ wd, wd = wr := ⟨_, rfl⟩
        have HBD : Hid (Below B w wd) := by show Below _ _ _; rw [HWW.out]; exact Below.drewN HBW.out _
        have HRB : Hid (Row wd B 24 [.slice pd nd cd, .slice pt nt ct]) := by
          show Row _ _ _ _
          rw [HWW.out]
          exact Row.drewN (HR1.out.later HBC.out (by have := HB1.out.2; omega)) _
        have HGC : Hid (B < g ∧ g < wd.heap.size) := ⟨by have := HB1.out.2; have := HWG.out; omega, HRW.out.row.lt⟩
        have HGD' : Hid (∀ j, j < nd → 1 ≤ ds.getD j 0 ∧ ds.getD j 0 ≤ 4096) := fun j hj => by
          have h1 := HND.out
          have := HGD.out j (by have := HNN.out; omega)
          rw [show (ds ++ ts).getD j 0 = ds.getD j 0 by simp [List.getElem?_append_left (show j < ds.length by omega)]] at this
          exact this
        clear HGD HWW HMo hlt hk HER
        go_wp2
        go_loopw [7] (fun i W => ∃ k : Nat, k ≤ N ∧ i = .int .i64 k ∧ HasIn w W B g wd.heap.size va vb [.slice pd nd cd, .slice pt nt ct] k) (fun i _ => N - (intOf i).toNat)
        case atStart => exact ⟨0, Nat.zero_le _, rfl, _, [], HRW.out.row, World.ownsRow_nil _ _ _ _, HRB.out, HBD.out, Nat.le_refl _⟩
        case round =>
          obtain ⟨k, hk, rfl, hv, xs, hrow, hown, hrb, hbw, hsz⟩ := hrel
          obtain ⟨wk, rfl⟩ : ∃ wk, wk = wr := ⟨_, rfl⟩
          have HK : Hid (Row wk g 56 (refCells va vb hv) ∧ wk.ownsRow wd.heap.size 57 1 hv k xs ∧ Row wk B 24 [.slice pd nd cd, .slice pt nt ct] ∧ Below B w wk ∧ wd.heap.size ≤ wk.heap.size) := ⟨hrow, hown, hrb, hbw, hsz⟩
          clear hrow hown hrb hbw hsz
          by_cases hlt : k < N
          · go_wp2
            go_loopw [8, 9] (fun l i W => ∃ j : Nat, j ≤ 4096 ∧ i = .int .i64 j ∧ SecsIn wk W l j) (fun _ i _ => 4096 - (intOf i).toNat)
            case atStart => exact ⟨0, Nat.zero_le _, rfl, [], World.ownsRow_nil _ _ _ _, Below.refl _ _⟩
            case round =>
              obtain ⟨j, hj, rfl, ys, hl, hbl⟩ := hrel
              have HL : Hid (wr.ownsRow wk.heap.size 40 1 u8 j ys) := hl
              have HBL : Hid (Below wk.heap.size wk wr) := hbl
              have kB := (HK.out.2.2.1.later hbl HK.out.2.2.1.lt).at 0 _ rfl
              clear hl hbl
              by_cases hkd : k < nd
              · obtain ⟨hx1, hx2⟩ := HGD'.out k hkd
                obtain ⟨x, hx⟩ : ∃ x, ds.getD k 0 = x := ⟨_, rfl⟩
                have HX : Hid (ds.getD k 0 = x) := hx
                rw [hx] at hx1 hx2
                have HI : Hid (IntsIn wr (.slice pd nd cd) ds ∧ k < ds.length) := ⟨HD.out.later (HK.out.2.2.2.1.trans (HBL.out.mono (by have := HGC.out; have := HK.out.2.2.2.2; omega)) |>.mono (by rw [← HB.out]; exact Nat.le_refl _)), by rw [← HND.out]; exact hkd⟩
                clear hx
                by_cases hjx : (j : Int) < x
                · have t3 : decide ((j : Int) < x) = true := decide_eq_true hjx
                  go_wp2_with (first
                    | (refine wpList_indexInts (.tmp 62) (.tmp 63) rfl rfl (.slice pd nd cd) ds rfl HI.out.1 k HI.out.2 _ rfl rfl ?_; intro bq jq kC; rw [HX.out] at kC)
                    | (refine wpList_make64 (.const (.int .i64 64)) (.const (.int .i64 64)) rfl rfl rfl rfl ?_; intro w3 r3 s3 b3; have B3 : Hid (Below wr.heap.size wr w3) := b3; clear r3 s3 b3)
                    | (refine wpList_lit57 (.tmp 71) rfl rfl _ ⟨_, _, _, rfl⟩ rfl ?_; intro w4 r4 b4; have R4 : Hid (Row w4 w3.heap.size 40 [.slice (some ⟨wr.heap.size, 0, none⟩) 64 64] ∧ Below wr.heap.size wr w4) := ⟨r4, B3.out.trans (b4.mono B3.out.size)⟩; clear r4 b4)
                    | (refine wpList_appendOne Try.underlying57 info40 (.tmp 70) (.tmp 72) rfl rfl wk.heap.size u8 j ys rfl (own_later HL.out R4.out.2) w3.heap.size _ rfl R4.out.1 rfl (by omega) (Nat.le_trans HBL.out.size R4.out.2.size) ?_; intro v5 w5 ys5 o5 b5; have O5 : Hid (w5.ownsRow wk.heap.size 40 1 v5 (j + 1) ys5) := o5; have B5 : Hid (Below wk.heap.size wk w5) := (HBL.out.trans (R4.out.2.mono HBL.out.size)).trans b5; clear o5 b5))
                  refine ⟨⟨j + 1, by omega, by go_num, ys5, O5.out, B5.out⟩, ?_⟩
                  simp [intOf]; omega
                · have t3 : decide ((j : Int) < x) = false := decide_eq_false hjx
                  have kH := (HK.out.1.later HBL.out (by have := HGC.out; have := HK.out.2.2.2.2; omega)).at 2 _ rfl
                  have HUS : Hid (∃ p n c, u8 = .slice p n c) := own_isSlice HL.out
                  go_wp2_with (first
                    | (refine wpList_indexInts (.tmp 62) (.tmp 63) rfl rfl (.slice pd nd cd) ds rfl HI.out.1 k HI.out.2 _ rfl rfl ?_; intro bq jq kC; rw [HX.out] at kC)
                    | (refine wpList_lit53 (.tmp 79) rfl rfl u8 HUS.out rfl ?_; intro w5 r5 b5; have R5 : Hid (Row w5 wr.heap.size 57 [u8] ∧ Below wr.heap.size wr w5) := ⟨r5, b5⟩; clear r5 b5)
                    | (refine wpList_appendOne Try.underlying53 info57 (.tmp 78) (.tmp 80) rfl rfl wd.heap.size hv k xs rfl (own_later HK.out.2.1 (HBL.out.trans (R5.out.2.mono HBL.out.size))) wr.heap.size u8 (slice_of_own HL.out).2 R5.out.1 rfl (by omega) (Nat.le_trans HK.out.2.2.2.2 (Nat.le_trans HBL.out.size R5.out.2.size)) ?_; intro v6 w6 xs6 o6 b6; have O6 : Hid (w6.ownsRow wd.heap.size 57 1 v6 (k + 1) xs6) := o6; have B6 : Hid (Below wd.heap.size wk w6) := ((HBL.out.trans (R5.out.2.mono HBL.out.size)).mono HK.out.2.2.2.2).trans b6; clear o6 b6)
                    | (refine wpList_store1 size53 (.tmp 83) (.tmp 81) rfl rfl rfl g 2 56 rfl v6 (refCells va vb hv) rfl (slice_of_own O6.out).1 (slice_of_own O6.out).2 (HK.out.1.later B6.out HGC.out.2) (by simp [refCells]) ?_))
                  have RW6 := HK.out.1.later B6.out HGC.out.2
                  refine ⟨⟨k + 1, by omega, by go_num, v6, xs6, RW6.setRow _, ?_, (HK.out.2.2.1.later B6.out (show B < wd.heap.size by have := HGC.out; omega)).setRow_other (show B ≠ g by have := HGC.out; omega) _, ?_, ?_⟩, ?_⟩
                  · exact own_kept O6.out fun q hq => Go.setRow_other _ _ _ _ (by have := (O6.out.lt q hq).1; have := HGC.out; omega)
                  · exact below_setRow (HK.out.2.2.2.1.trans (B6.out.mono (by have := HGC.out; omega))) (by have := HGC.out; omega) _
                  · have := B6.out.size
                    have := HK.out.2.2.2.2
                    simp [World.setRow]
                    omega
                  · simp [intOf]; omega
              · have t3 : decide ((k : Int) < (nd : Int)) = false := by simp; omega
                have kH := (HK.out.1.later HBL.out (by have := HGC.out; have := HK.out.2.2.2.2; omega)).at 2 _ rfl
                have HUS : Hid (∃ p n c, u8 = .slice p n c) := own_isSlice HL.out
                go_wp2_with (first
                  | (refine wpList_lit53 (.tmp 79) rfl rfl u8 HUS.out rfl ?_; intro w5 r5 b5; have R5 : Hid (Row w5 wr.heap.size 57 [u8] ∧ Below wr.heap.size wr w5) := ⟨r5, b5⟩; clear r5 b5)
                  | (refine wpList_appendOne Try.underlying53 info57 (.tmp 78) (.tmp 80) rfl rfl wd.heap.size hv k xs rfl (own_later HK.out.2.1 (HBL.out.trans (R5.out.2.mono HBL.out.size))) wr.heap.size u8 (slice_of_own HL.out).2 R5.out.1 rfl (by omega) (Nat.le_trans HK.out.2.2.2.2 (Nat.le_trans HBL.out.size R5.out.2.size)) ?_; intro v6 w6 xs6 o6 b6; have O6 : Hid (w6.ownsRow wd.heap.size 57 1 v6 (k + 1) xs6) := o6; have B6 : Hid (Below wd.heap.size wk w6) := ((HBL.out.trans (R5.out.2.mono HBL.out.size)).mono HK.out.2.2.2.2).trans b6; clear o6 b6)
                  | (refine wpList_store1 size53 (.tmp 83) (.tmp 81) rfl rfl rfl g 2 56 rfl v6 (refCells va vb hv) rfl (slice_of_own O6.out).1 (slice_of_own O6.out).2 (HK.out.1.later B6.out HGC.out.2) (by simp [refCells]) ?_))
                have RW6 := HK.out.1.later B6.out HGC.out.2
                refine ⟨⟨k + 1, by omega, by go_num, v6, xs6, RW6.setRow _, ?_, (HK.out.2.2.1.later B6.out (show B < wd.heap.size by have := HGC.out; omega)).setRow_other (show B ≠ g by have := HGC.out; omega) _, ?_, ?_⟩, ?_⟩
                · exact own_kept O6.out fun q hq => Go.setRow_other _ _ _ _ (by have := (O6.out.lt q hq).1; have := HGC.out; omega)
                · exact below_setRow (HK.out.2.2.2.1.trans (B6.out.mono (by have := HGC.out; omega))) (by have := HGC.out; omega) _
                · have := B6.out.size
                  have := HK.out.2.2.2.2
                  simp [World.setRow]
                  omega
                · simp [intOf]; omega
          · obtain rfl : N = k := by omega
            go_wp2
            go_ret2
            exact ⟨_, rfl, HK.out.2.2.2.1⟩
end Go.Proofs.Ytgkmegcejekbcaa

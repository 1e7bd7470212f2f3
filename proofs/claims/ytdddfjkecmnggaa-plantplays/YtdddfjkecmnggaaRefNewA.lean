/- The document's own New: steps. -/
import Derived.Test.YtdddfjkecmnggaaNewBad
import Derived.Test.YtdddfjkecmnggaaShape
import Derived.Test.YtdddfjkecmnggaaRefNew0
import Derived.Deep.CutRange
namespace Go.Proofs.Ytdddfjkecmnggaa
open Go.RowKit Go.Maps

/-- a plant of the document's own, in memory -/
def refCells (va vb hv : Value) : List Value := [va, vb, hv, .slice none 0 0, .bool false, .bool false, .int .i64 0, .int .i64 0, .int .i64 0]
theorem IntsIn.kept {w w' : World} {v : Value} {l : List Int} (h : IntsIn w v l) (hb : ∀ b, v.ownBlock = some b → w'.heap[b]? = w.heap[b]?) : IntsIn w' v l := by
  obtain ⟨p, cap, rfl, h1, h2, h⟩ := h
  refine ⟨p, cap, rfl, h1, h2, ?_⟩
  rcases h with h | ⟨b, off, rfl, h⟩
  · exact Or.inl h
  · refine Or.inr ⟨b, off, rfl, fun j hj => ?_⟩
    rw [← h j hj]
    exact World.cell?_of_block (w := w) (hb b rfl)

/-- append of numbers to a row of nothing: nothing that was there turns -/
theorem app_ints2 {w : World} (ty : TypeId) (g : Nat) (hg : Row w g 3 []) (vx : Value) (xs : List Int) (hx : IntsIn w vx xs) (hsz : xs.length ≤ 17592186043904) :
    ∃ v' w', (Builtin.append_ #[22, 22] ty #[.slice (some ⟨g, 0, none⟩) 0 0, vx]).run Try.prog w = .ok v' w' ∧ IntsIn w' v' xs ∧ Below w.heap.size w w' ∧ (∀ q, v'.ownBlock = some q → g ≤ q ∧ q < w'.heap.size) := by
  obtain ⟨i, hi, hz0, hz1, hz2⟩ := info_parts info3
  obtain ⟨p, cap, rfl, h1, h2, h⟩ := hx
  by_cases h0 : xs = []
  · subst h0
    refine ⟨.slice (some ⟨g, 0, none⟩) 0 0, w, ?_, ⟨_, 0, rfl, Nat.le_refl _, by decide, Or.inl rfl⟩, Below.refl _ _, fun q hq => by injection hq with hq; rw [← hq]; exact ⟨Nat.le_refl _, hg.lt⟩⟩
    cases p with
    | none => simp [Builtin.append_, run_underlying Try.underlying22, sizeOf, typeInfo, hi, Builtin.lenOf, Builtin.firstCells, storeCells]
    | some ad => simp [Builtin.append_, run_underlying Try.underlying22, sizeOf, typeInfo, hi, Builtin.lenOf, Builtin.firstCells, loadCells, loadCellsFrom, storeCells]
  · rcases h with rfl | ⟨b, off, rfl, hc⟩
    · exact absurd rfl h0
    have hpos : 0 < xs.length := by cases xs <;> simp_all
    have hcl : (xs.map (Value.int .i64)).length = xs.length * i.size := by rw [hz1]; simp
    have hnews : ∀ j u, (xs.map (Value.int .i64))[j]? = some u → w.cell? ((⟨b, off, none⟩ : Addr).add j) = some u := by
      intro j u hu
      have hj : j < xs.length := by
        have := (List.getElem?_eq_some_iff.1 hu).1
        simpa using this
      rw [add_none, hc j hj, ← hu]
      simp [hj]
    have hr2 := run_append_grow (P := Try.prog) w 22 ty 3 i (.int .i64 0) Try.underlying22 hi hz0 ⟨g, 0, none⟩ 0 0 [] (by simp) (by intro j u hu; simp at hu) ⟨b, off, none⟩ xs.length cap (xs.map (Value.int .i64)) hcl hnews (by omega) (by omega) (growslice_fits (by omega) (by rw [hz2]; omega))
    have hown : w.ownsRow g 3 1 (.slice (some ⟨g, 0, none⟩) 0 0) 0 [] := ⟨by simp, Or.inr ⟨g, 0, #[], rfl, Nat.le_refl _, hg, Nat.le_refl _, by unfold maxLen; omega, rfl, rfl⟩⟩
    obtain ⟨v', w', hr, ho, _, _⟩ := run_append_own (P := Try.prog) (w := w) g 22 ty 3 i (.int .i64 0) 1 8 Try.underlying22 hi hz0 hz1 hz2 rfl (by decide) _ 0 [] hown
      ⟨b, off, none⟩ xs.length cap (xs.map (Value.int .i64)) (by simp) hnews (by intro u hu; obtain ⟨x, _, rfl⟩ := List.mem_map.1 hu; rfl) (by unfold maxLen; omega) (by omega) (Nat.le_of_lt hg.lt)
    rw [hr] at hr2
    injection hr2 with e1 e2
    refine ⟨v', w', hr, ?_, ?_, fun q hq => ho.lt q hq⟩
    · rcases ho.2 with ⟨rfl, hz⟩ | ⟨k, cap2, cur, rfl, _, hk, hcap, hmax, _, _⟩
      · omega
      · refine ⟨_, cap2, by rw [Nat.zero_add], by omega, by omega, Or.inr ⟨k, 0, rfl, fun j hj => ?_⟩⟩
        have h3 := ho.cells (g := k) rfl j (.int .i64 (xs.getD j 0)) (by simp [hj])
        rw [add_none] at h3
        exact h3
    · rw [e2]
      exact (show Below w.heap.size w w.drew from ⟨rfl, rfl, rfl, Nat.le_refl _, fun _ _ => rfl⟩).alloc (Nat.le_refl _) _
/-- a plant of the document's own that was just made -/
structure NewAt (W : World) (g : Nat) (va vb hv : Value) (ds ts : List Int) : Prop where
  row : Row W g 56 (refCells va vb hv)
  disks : IntsIn W va ds
  tapes : IntsIn W vb ts
  lta : ∀ q, va.ownBlock = some q → q < g
  ltb : ∀ q, vb.ownBlock = some q → q < g
theorem IntsIn.isSlice {w : World} {v : Value} {l : List Int} (h : IntsIn w v l) : v.cells = #[v] ∧ ∃ p n c, v = .slice p n c := by
  obtain ⟨p, cap, rfl, _⟩ := h
  exact ⟨rfl, p, _, cap, rfl⟩
section
variable {ops : Array Oper} {Q : Exit → Act → World → Prop} {a : Act} {w : World} {listed : Array Bool} {fuel : Nat} {S : World → Prop} {o : Oper}
theorem yRunH (hgd : o.guard = none) (v : Value) (hr : ∀ w, S w → (execOp a.eval o).run Try.prog w = .ok (.value v) w) : YieldsIf Try.prog ops S o v a :=
  Or.inl ⟨by simp [Region.wanted, hgd], hr⟩
theorem run_int0Op (ho : o.op = .buildSlice 22 0 #[]) : (execOp a.eval o).run Try.prog w = .ok (.value (.slice (some ⟨w.heap.size, 0, none⟩) 0 0)) (w.alloc (.cells #[] 3)) := by
  have hr : (Instr.buildSlice 22 0 #[]).run Try.prog w = .ok (.slice (some ⟨w.heap.size, 0, none⟩) 0 0) (w.alloc (.cells #[] 3)) := by kernel_rfl
  simp [execOp, ho, hr]
theorem run_appOp {w' : World} (sv x : Operand) (ho : o.op = .call { callee := .builtin .append, args := #[sv, x], argTypes := #[22, 22] }) (v vx v' : Value) (hs : a.eval sv = v) (hx : a.eval x = vx) (hr : (Builtin.append_ #[22, 22] o.type #[v, vx]).run Try.prog w = .ok v' w') : (execOp a.eval o).run Try.prog w = .ok (.value v') w' := by
  simp only [execOp, ho, resolve, invoke, builtin, Sem.run_bind, Sem.run_pure, Result.andThen_ok, List.map_toArray, List.map_cons, List.map_nil, hs, hx, hr]
theorem run_assignOp (x : Operand) (ho : o.op = .assign x) (v : Value) (hx : a.eval x = v) : (execOp a.eval o).run Try.prog w = .ok (.value v) w := by
  simp [execOp, ho, hx]
theorem run_build24Op (x y : Operand) (ho : o.op = .build 24 #[(0, x), (1, y)]) (u v : Value) (hu : u.cells = #[u]) (hv : v.cells = #[v]) (hx : a.eval x = u) (hy : a.eval y = v) : (execOp a.eval o).run Try.prog w = .ok (.value (.agg #[u, v])) w := by
  simp only [execOp, ho, List.map_toArray, List.map_cons, List.map_nil, hx, hy, run_build24 u v hu hv, Sem.run_bind, Sem.run_pure, Result.andThen_ok]
theorem run_build56Op (x : Operand) (ho : o.op = .build 56 #[(0, x)]) (u v : Value) (hu : ∃ p n c, u = .slice p n c) (hv : ∃ p n c, v = .slice p n c) (hx : a.eval x = .agg #[u, v]) : (execOp a.eval o).run Try.prog w = .ok (.value (.agg (refCells u v (.slice none 0 0)).toArray)) w := by
  obtain ⟨p, n, c, rfl⟩ := hu
  obtain ⟨p2, n2, c2, rfl⟩ := hv
  have hr : (Instr.build 56 #[(0, .agg #[.slice p n c, .slice p2 n2 c2])]).run Try.prog w = .ok (.agg (refCells (.slice p n c) (.slice p2 n2 c2) (.slice none 0 0)).toArray) w := by kernel_rfl
  simp only [execOp, ho, List.map_toArray, List.map_cons, List.map_nil, hx, hr, Sem.run_bind, Sem.run_pure, Result.andThen_ok]
theorem run_boxOp (x : Operand) (ho : o.op = .box 56 x) (cs : List Value) (hx : a.eval x = .agg cs.toArray) : (execOp a.eval o).run Try.prog w = .ok (.value (.pointer (some ⟨w.heap.size, 0, none⟩))) (w.alloc (.cells cs.toArray 56)) := by
  simp [execOp, ho, hx, Instr.box, newVar, newRow, Value.cells]
end
section
variable {w : World} {ops : Array Oper} {rest : List Oper} {o : Oper} {a : Act} {Q : Exit → Act → World → Prop}
theorem info40 : (Try.prog.info? 40).map (fun i => (i.zero, i.size, i.bytes)) = some (some (.slice none 0 0), 1, 24) := by kernel_rfl
theorem info57 : (Try.prog.info? 57).map (fun i => (i.zero, i.size, i.bytes)) = some (some (.slice none 0 0), 1, 24) := by kernel_rfl
theorem one53 : OneT 53 := fun w g o v h => by simp [loadVar, isAgg, run_underlying Try.underlying53, h]
theorem size53 : (Try.prog.info? 53).map (·.size) = some 1 := by kernel_rfl
theorem f56_1 : FieldAt 56 1 2 := fun w g off => by kernel_rfl
/-- a literal of one slice -/
theorem wpList_lit57 (x : Operand) (hgd : o.guard = none) (ho : o.op = .buildSlice 57 1 #[(0, x)]) (u : Value) (hu : ∃ p n c, u = .slice p n c) (hx : a.eval x = u)
    (h : ∀ w', Row w' w.heap.size 40 [u] → Below w.heap.size w w' → wpList Try.prog ops Q rest (a.put o.dst (.slice (some ⟨w.heap.size, 0, none⟩) 1 1)) w') : wpList Try.prog ops Q (o :: rest) a w := by
  obtain ⟨p, n, c, rfl⟩ := hu
  have hr : (Instr.buildSlice 57 1 #[(0, .slice p n c)]).run Try.prog w = .ok (.slice (some ⟨w.heap.size, 0, none⟩) 1 1) (w.alloc (.cells #[.slice p n c] 40)) := by kernel_rfl
  exact wpList_value hgd _ _ (by simp only [execOp, ho, List.map_toArray, List.map_cons, List.map_nil, hx, hr, Sem.run_bind, Sem.run_pure, Result.andThen_ok]) (h _ (Row.new w 40 [.slice p n c]) ((Below.refl _ _).alloc (Nat.le_refl _) _))
theorem wpList_lit53 (x : Operand) (hgd : o.guard = none) (ho : o.op = .buildSlice 53 1 #[(0, x)]) (u : Value) (hu : ∃ p n c, u = .slice p n c) (hx : a.eval x = u)
    (h : ∀ w', Row w' w.heap.size 57 [u] → Below w.heap.size w w' → wpList Try.prog ops Q rest (a.put o.dst (.slice (some ⟨w.heap.size, 0, none⟩) 1 1)) w') : wpList Try.prog ops Q (o :: rest) a w := by
  obtain ⟨p, n, c, rfl⟩ := hu
  have hr : (Instr.buildSlice 53 1 #[(0, .slice p n c)]).run Try.prog w = .ok (.slice (some ⟨w.heap.size, 0, none⟩) 1 1) (w.alloc (.cells #[.slice p n c] 57)) := by kernel_rfl
  exact wpList_value hgd _ _ (by simp only [execOp, ho, List.map_toArray, List.map_cons, List.map_nil, hx, hr, Sem.run_bind, Sem.run_pure, Result.andThen_ok]) (h _ (Row.new w 57 [.slice p n c]) ((Below.refl _ _).alloc (Nat.le_refl _) _))
/-- one more behind a row of the call's own -/
theorem wpList_appendOne {t e : TypeId} (hu : Try.prog.underlying t = some (.slice e)) (hinfo : (Try.prog.info? e).map (fun i => (i.zero, i.size, i.bytes)) = some (some (.slice none 0 0), 1, 24)) (sv x : Operand) (hgd : o.guard = none) (ho : o.op = .call { callee := .builtin .append, args := #[sv, x], argTypes := #[t, t] })
    (base : Nat) (v : Value) (n : Nat) (xs : List Value) (hs : a.eval sv = v) (hown : w.ownsRow base e 1 v n xs) (b : Nat) (u : Value) (hu1 : u.oneCell' = true) (hb : Row w b e [u]) (hx : a.eval x = .slice (some ⟨b, 0, none⟩) 1 1) (hn : n ≤ 100000) (hbase : base ≤ w.heap.size)
    (h : ∀ v' w' xs', w'.ownsRow base e 1 v' (n + 1) xs' → Below base w w' → wpList Try.prog ops Q rest (a.put o.dst v') w') : wpList Try.prog ops Q (o :: rest) a w := by
  obtain ⟨i, hi, hz0, hz1, hz2⟩ := info_parts hinfo
  obtain ⟨v', w', hr, ho', hg, _⟩ := run_append_own (P := Try.prog) (w := w) base t o.type e i (.slice none 0 0) 1 24 hu hi hz0 hz1 hz2 rfl (by decide) v n xs hown
    ⟨b, 0, none⟩ 1 1 [u] (by simp) (fun j y hy => by rw [add_none, Nat.zero_add]; exact hb.at j y hy) (by intro y hy; rw [List.mem_singleton.1 hy]; exact hu1) (by unfold maxLen; omega) (by omega) hbase
  refine wpList_value hgd v' w' ?_ (h v' w' _ ho' ((Below.refl base w).grown hg hbase fun k hk => (hown.lt k hk).1))
  simp only [execOp, ho, resolve, invoke, builtin, Sem.run_bind, Sem.run_pure, Result.andThen_ok, List.map_toArray, List.map_cons, List.map_nil, hs, hx, hr]
def HasIn (w W : World) (B g C : Nat) (va vb : Value) (sl : List Value) (k : Nat) : Prop := ∃ hv xs, Row W g 56 (refCells va vb hv) ∧ W.ownsRow C 57 1 hv k xs ∧ Row W B 24 sl ∧ Below B w W ∧ C ≤ W.heap.size
def SecsIn (wk W : World) (l : Value) (j : Nat) : Prop := ∃ ys, W.ownsRow wk.heap.size 40 1 l j ys ∧ Below wk.heap.size wk W
theorem wpList_indexInts (x i : Operand) (hgd : Region.wanted o (yielded ops a.tmps) = true) (ho : o.op = .indexAddr 22 x i) (v : Value) (l : List Int) (hx : a.eval x = v) (hin : IntsIn w v l) (k : Nat) (hk : k < l.length) (I : Int) (hi : a.eval i = .int .i64 I) (hI : I = (k : Int))
    (h : ∀ b j, w.cell? ⟨b, j, none⟩ = some (.int .i64 (l.getD k 0)) → wpList Try.prog ops Q rest (a.put o.dst (.pointer (some ⟨b, j, none⟩))) w) : wpList Try.prog ops Q (o :: rest) a w := by
  subst hI
  obtain ⟨b, off, cap, rfl, hc⟩ := hin.cell k hk
  have s3 : (Try.prog.info? 3).map (·.size) = some 1 := by kernel_rfl
  obtain ⟨i5, hi5, hsz⟩ := Option.map_eq_some_iff.1 s3
  refine BigFrame.wpList_want hgd fun K hK => ?_
  have hr : (Instr.indexAt 22 (.slice (some ⟨b, off, none⟩) l.length cap) (.int .i64 (k : Nat))).run Try.prog w = .ok (.pointer (some ⟨b, off + k, none⟩)) w := by
    simp [Instr.indexAt, asIntOf, run_underlying Try.underlying22, hk, sizeOf, typeInfo, hi5, hsz, add_none]
  unfold Oper.wp
  rw [show (execOp a.eval o).run Try.prog w = .ok (.value (.pointer (some ⟨b, off + k, none⟩))) w by simp only [execOp, ho, hx, hi, hr, Sem.run_bind, Sem.run_pure, Result.andThen_ok]]
  exact hK _ _ (h b (off + k) hc)
theorem own_later {w w' : World} {base e size n : Nat} {v : Value} {xs : List Value} (h : w.ownsRow base e size v n xs) (hb : Below w.heap.size w w') : w'.ownsRow base e size v n xs :=
  own_kept h fun q hq => hb.block q (h.lt q hq).2
theorem own_isSlice {w : World} {base e size n : Nat} {v : Value} {xs : List Value} (h : w.ownsRow base e size v n xs) : ∃ p n c, v = .slice p n c := by
  rcases h.2 with ⟨rfl, _⟩ | ⟨g, cap, cur, rfl, _⟩
  · exact ⟨_, _, _, rfl⟩
  · exact ⟨_, _, _, rfl⟩
end

end Go.Proofs.Ytdddfjkecmnggaa

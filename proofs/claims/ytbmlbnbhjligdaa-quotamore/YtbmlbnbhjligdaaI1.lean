/- Rows of numbers; shapes. -/
import Derived.Test.YtbmlbnbhjligdaaB
import Derived.Deep.RegionWith
import Derived.Deep.CutRange
namespace Go.Proofs.Ytbmlbnbhjligdaa
open Go.RowKit Go.MapKept

theorem o22 : OneT 22 := fun w g o v h => by simp [loadVar, isAgg, run_underlying Try.underlying22, h]
theorem s3 : (Try.prog.info? 3).map (·.size) = some 1 := by kernel_rfl
theorem s22 : (Try.prog.info? 22).map (·.size) = some 1 := by kernel_rfl
theorem info3 : (Try.prog.info? 3).map (fun i => (i.zero, i.size, i.bytes)) = some (some (.int .i64 0), 1, 8) := by kernel_rfl
theorem f24_0 : FieldAt 24 0 0 := fun w g off => by kernel_rfl
theorem f24_1 : FieldAt 24 1 1 := fun w g off => by kernel_rfl
theorem f35_0 : FieldAt 35 0 0 := fun w g off => by kernel_rfl
theorem f35_1 : FieldAt 35 1 1 := fun w g off => by kernel_rfl
theorem ag24 : AggT 24 2 := ⟨Or.inl ⟨_, Try.underlying24⟩, by kernel_rfl⟩
theorem ag35 : AggT 35 2 := ⟨Or.inl ⟨_, Try.underlying35⟩, by kernel_rfl⟩
theorem ag36 : AggT 36 8 := ⟨Or.inr ⟨_, _, Try.underlying36⟩, by kernel_rfl⟩
theorem zero24 : (Try.prog.info? 24).map (·.zero) = some (some (.agg [Value.slice none 0 0, .slice none 0 0].toArray)) := by kernel_rfl
theorem zero35 : (Try.prog.info? 35).map (·.zero) = some (some (.agg [Value.int .i64 0, .slice none 0 0].toArray)) := by kernel_rfl
theorem u22 : Try.prog.underlying 22 = some (.slice (Try.prog.elem 22)) := by kernel_rfl
/-- the number at n, 0 beyond -/
def nth (l : List Int) (n : Nat) : Int := l.getD n 0
theorem nth_at (l : List Int) (n : Nat) (h : n < l.length) : nth l n = l[n] := by simp [nth, h]
/-- a row of numbers, each of 64 bits -/
def IntsIn (w : World) (v : Value) (l : List Int) : Prop :=
  ∃ p cap, v = .slice p l.length cap ∧ l.length ≤ cap ∧ l.length < 4611686018427387904 ∧ (l = [] ∨ ∃ b off, p = some ⟨b, off, none⟩ ∧ ∀ j, j < l.length → w.cell? ⟨b, off + j, none⟩ = some (.int .i64 (nth l j))) ∧ ∀ z ∈ l, -9223372036854775808 ≤ z ∧ z ≤ 9223372036854775807
theorem IntsIn.later {w wx : World} {v : Value} {l : List Int} (h : IntsIn w v l) (hb : Below w.heap.size w wx) : IntsIn wx v l := by
  obtain ⟨p, cap, rfl, h1, h2, h, h3⟩ := h
  refine ⟨p, cap, rfl, h1, h2, ?_, h3⟩
  rcases h with h | ⟨b, off, rfl, h⟩
  · exact Or.inl h
  · exact Or.inr ⟨b, off, rfl, fun j hj => cell_later hb (h j hj)⟩
theorem IntsIn.kept {w w' : World} {v : Value} {l : List Int} (h : IntsIn w v l) (hb : ∀ b, v.ownBlock = some b → w'.heap[b]? = w.heap[b]?) : IntsIn w' v l := by
  obtain ⟨p, cap, rfl, h1, h2, h, h3⟩ := h
  refine ⟨p, cap, rfl, h1, h2, ?_, h3⟩
  rcases h with h | ⟨b, off, rfl, h⟩
  · exact Or.inl h
  · refine Or.inr ⟨b, off, rfl, fun j hj => ?_⟩
    rw [← h j hj]
    exact World.cell?_of_block (w := w) (hb b rfl)
theorem IntsIn.cell {w : World} {v : Value} {l : List Int} (h : IntsIn w v l) (n : Nat) (hn : n < l.length) : ∃ b off cap, v = .slice (some ⟨b, off, none⟩) l.length cap ∧ w.cell? ⟨b, off + n, none⟩ = some (.int .i64 (nth l n)) := by
  obtain ⟨p, cap, rfl, _, _, h, _⟩ := h
  rcases h with rfl | ⟨b, off, rfl, h⟩
  · simp at hn
  · exact ⟨b, off, cap, rfl, h n hn⟩
theorem IntsIn.bd {w : World} {v : Value} {l : List Int} (h : IntsIn w v l) (n : Nat) (hn : n < l.length) : -9223372036854775808 ≤ nth l n ∧ nth l n ≤ 9223372036854775807 := by
  obtain ⟨p, cap, _, _, _, _, h3⟩ := h
  have := h3 _ (List.getElem_mem hn)
  rwa [← nth_at l n hn] at this
theorem IntsIn.lt {w : World} {v : Value} {l : List Int} (h : IntsIn w v l) : l.length < 4611686018427387904 := by
  obtain ⟨p, cap, rfl, _, h2, _⟩ := h
  exact h2
theorem IntsIn.isSlice {w : World} {v : Value} {l : List Int} (h : IntsIn w v l) : v.cells = #[v] ∧ ∃ p n c, v = .slice p n c := by
  obtain ⟨p, cap, rfl, _⟩ := h
  exact ⟨rfl, p, _, cap, rfl⟩
theorem IntsIn.one {w : World} {v : Value} {l : List Int} (h : IntsIn w v l) : v.oneCell' = true := by
  obtain ⟨p, cap, rfl, _⟩ := h
  rfl
theorem IntsIn.nil (w : World) : IntsIn w (.slice none 0 0) [] := ⟨none, 0, rfl, Nat.le_refl _, by decide, Or.inl rfl, fun z hz => by cases hz⟩
section
variable {w : World} {ops : Array Oper} {rest : List Oper} {o : Oper} {a : Act} {Q : Exit → Act → World → Prop}
theorem run_lenI {w0 : World} (x : Operand) (ho : o.op = .call { callee := .builtin .len, args := #[x], argTypes := #[22] }) (v : Value) (l : List Int) (hx : a.eval x = v) (hin : IntsIn w0 v l) : (execOp a.eval o).run Try.prog w = .ok (.value (.int .i64 (l.length : Nat))) w := by
  obtain ⟨p, cap, rfl, _⟩ := hin
  have hr := run_len_slice w 22 o.type p l.length cap u22
  simp only [execOp, ho, resolve, invoke, builtin, Sem.run_bind, Sem.run_pure, Result.andThen_ok, List.map_toArray, List.map_cons, List.map_nil, hx, hr]
  rfl
theorem IntsIn.ix {w : World} {v : Value} {l : List Int} (h : IntsIn w v l) (k : Nat) (hk : k < l.length) : ∃ b j, (∀ w', (Instr.indexAt 22 v (.int .i64 (k : Nat))).run Try.prog w' = .ok (.pointer (some ⟨b, j, none⟩)) w') ∧ w.cell? ⟨b, j, none⟩ = some (.int .i64 (nth l k)) := by
  obtain ⟨b, off, cap, rfl, hc⟩ := h.cell k hk
  obtain ⟨i5, hi5, hsz⟩ := Option.map_eq_some_iff.1 s3
  exact ⟨b, off + k, fun w' => by simp [Instr.indexAt, asIntOf, run_underlying Try.underlying22, hk, sizeOf, typeInfo, hi5, hsz, add_none], hc⟩
/-- an element is read: its address, what lies there -/
theorem wl_ixI {w0 : World} (x i : Operand) (hgd : Region.wanted o (yielded ops a.tmps) = true) (ho : o.op = .indexAddr 22 x i) (v : Value) (l : List Int) (hx : a.eval x = v) (hin : IntsIn w0 v l) (k : Nat) (hk : k < l.length) (I : Int) (hi : a.eval i = .int .i64 I) (hI : I = (k : Int))
    (h : ∀ b j, w0.cell? ⟨b, j, none⟩ = some (.int .i64 (nth l k)) → wpList Try.prog ops Q rest (a.put o.dst (.pointer (some ⟨b, j, none⟩))) w) : wpList Try.prog ops Q (o :: rest) a w := by
  subst hI
  obtain ⟨b, j, hr, hc⟩ := hin.ix k hk
  exact wl hgd _ w (by simp only [execOp, ho, hx, hi, hr, Sem.run_bind, Sem.run_pure, Result.andThen_ok]) (h b j hc)
theorem wl_lenI {w0 : World} (x : Operand) (hgd : Region.wanted o (yielded ops a.tmps) = true) (ho : o.op = .call { callee := .builtin .len, args := #[x], argTypes := #[22] }) (v : Value) (l : List Int) (hx : a.eval x = v) (hin : IntsIn w0 v l)
    (h : wpList Try.prog ops Q rest (a.put o.dst (.int .i64 (l.length : Nat))) w) : wpList Try.prog ops Q (o :: rest) a w := wl hgd _ w (run_lenI x ho v l hx hin) h
theorem wl_box {t : Nat} (x : Operand) (hgd : o.guard = none) (ho : o.op = .box t x) (cs : List Value) (hx : a.eval x = .agg cs.toArray)
    (h : ∀ w', Row w' w.heap.size t cs → w'.heap.size = w.heap.size + 1 → Below w.heap.size w w' → wpList Try.prog ops Q rest (a.put o.dst (.pointer (some ⟨w.heap.size, 0, none⟩))) w') : wpList Try.prog ops Q (o :: rest) a w :=
  wl (by simp [Region.wanted, hgd]) _ _ (by simp [execOp, ho, hx, Instr.box, newVar, newRow, Value.cells]) (h (w.alloc (.cells cs.toArray t)) (Row.new w t cs) (by simp) ((Below.refl _ _).alloc (Nat.le_refl _) _))
/-- a shape or a Config as a parameter: its block -/
theorem wl_boxI {t : Nat} (x : Operand) (hgd : o.guard = none) (ho : o.op = .box t x) (z : Int) (hx : a.eval x = .agg #[.int .i64 z])
    (h : ∀ w', Row w' w.heap.size t [.int .i64 z] → w'.heap.size = w.heap.size + 1 → Below w.heap.size w w' → wpList Try.prog ops Q rest (a.put o.dst (.pointer (some ⟨w.heap.size, 0, none⟩))) w') : wpList Try.prog ops Q (o :: rest) a w :=
  wl_box x hgd ho [.int .i64 z] (by simpa using hx) h
end
end Go.Proofs.Ytbmlbnbhjligdaa

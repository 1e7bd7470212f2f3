/- append of one slice of bytes to another that the call itself has made: the new value holds both. -/
import Derived.Test.YtkhchfjijglfjaaDoorCalls
namespace Go.Proofs.YtkhchfjijglfjaaDoor
open Go.RowKit

/-- bytes as cells -/
def cellsOf (cs : List Nat) : List Value := cs.map fun c => Value.int .u8 (c : Nat)

theorem info5 : (Tryd.prog.info? 5).map (fun i => (i.zero, i.size, i.bytes)) = some (some (.int .u8 0), 1, 1) := by kernel_rfl

theorem getD_append (a b : List Nat) (ha : ∀ j : Nat, a.getD j 0 < 256) (hb : ∀ j : Nat, b.getD j 0 < 256) (j : Nat) : (a ++ b).getD j 0 < 256 := by
  by_cases h : j < a.length
  · have := ha j
    simpa [List.getElem?_append_left h] using this
  · have := hb (j - a.length)
    simpa [List.getElem?_append_right (Nat.le_of_not_lt h)] using this
theorem SliceIn.bytes {w : World} {v : Value} {cs : List Nat} (h : SliceIn w v cs) (j : Nat) : cs.getD j 0 < 256 := by
  obtain ⟨p, cap, rfl, hl, h⟩ := h
  rcases h with rfl | ⟨b, off, rfl, _, hb⟩
  · simp
  · exact hb j

/-- a slice that the call has made holds its bytes -/
theorem SliceIn.owned {w : World} {base : Nat} {v : Value} {cs : List Nat} (h : w.ownsRow base 5 1 v cs.length (cellsOf cs)) (hb : ∀ j : Nat, cs.getD j 0 < 256) : SliceIn w v cs := by
  rcases h.2 with ⟨rfl, h0⟩ | ⟨g, cap, cur, rfl, _, hg, hcap, hmax, hsz, htake⟩
  · obtain rfl : cs = [] := List.length_eq_zero_iff.1 h0
    exact sliceIn_nil w
  · unfold maxLen at hmax
    refine ⟨_, cap, rfl, by omega, Or.inr ⟨g, 0, rfl, fun j hj => ?_, hb⟩⟩
    have h1 : (cellsOf cs)[j]? = some (.int .u8 (cs.getD j 0 : Nat)) := by simp [cellsOf, hj]
    have h2 := h.cells (g := g) rfl j _ h1
    have hadd : (⟨g, 0, none⟩ : Addr).add j = ⟨g, 0 + j, none⟩ := by unfold Addr.add; split <;> simp_all
    rw [hadd] at h2
    exact h2

/-- nothing at all behind it -/
theorem append_nothing (w : World) (base : Nat) (v : Value) (cs : List Nat) (c : Nat) (ty : TypeId) (hown : w.ownsRow base 5 1 v cs.length (cellsOf cs)) :
    (Builtin.append_ #[22, 22] ty #[v, .slice none 0 c]).run Tryd.prog w = .ok v w := by
  obtain ⟨i, hi, hz0, hz1, hz2⟩ := info_parts info5
  have hu := run_underlying Tryd.underlying22
  rcases hown.2 with ⟨rfl, h0⟩ | ⟨g, cap, cur, rfl, _, hg, hcap, hmax, hsz, htake⟩
  · simp [Builtin.append_, hu, sizeOf, typeInfo, hi, Builtin.lenOf, Builtin.firstCells]
  · simp [Builtin.append_, hu, sizeOf, typeInfo, hi, Builtin.lenOf, Builtin.firstCells, hcap, storeCells]

/-- THE APPEND -/
theorem append_bytes (w : World) (base : Nat) (v x : Value) (cs ys : List Nat) (ty : TypeId) (hown : w.ownsRow base 5 1 v cs.length (cellsOf cs)) (hx : SliceIn w x ys)
    (hsz : cs.length + ys.length ≤ 140737488355328) (hbase : base ≤ w.heap.size) :
    ∃ v' w', (Builtin.append_ #[22, 22] ty #[v, x]).run Tryd.prog w = .ok v' w' ∧ w'.ownsRow base 5 1 v' (cs ++ ys).length (cellsOf (cs ++ ys)) ∧ Below base w w' := by
  obtain ⟨i, hi, hz0, hz1, hz2⟩ := info_parts info5
  obtain ⟨p, cap, rfl, hl, h⟩ := hx
  have hrow : ∀ k, v.ownBlock = some k → base ≤ k := fun k hk => (hown.lt k hk).1
  have hgo : ∀ a : Addr, (∀ j u, (cellsOf ys)[j]? = some u → w.cell? (a.add j) = some u) → p = some a →
      ∃ v' w', (Builtin.append_ #[22, 22] ty #[v, .slice p ys.length cap]).run Tryd.prog w = .ok v' w' ∧ w'.ownsRow base 5 1 v' (cs ++ ys).length (cellsOf (cs ++ ys)) ∧ Below base w w' := by
    rintro a hnews rfl
    obtain ⟨v', w', hr, ho, hg, _⟩ := run_append_own (P := Tryd.prog) (w := w) base 22 ty 5 i (.int .u8 0) 1 1 Tryd.underlying22 hi hz0 hz1 hz2 rfl (by decide) v cs.length (cellsOf cs) hown
      a ys.length cap (cellsOf ys) (by simp [cellsOf]) hnews (by intro u hu; obtain ⟨c, _, rfl⟩ := List.mem_map.1 hu; rfl) (by unfold maxLen; omega) (by omega) hbase
    refine ⟨v', w', hr, ?_, (Below.refl base w).grown hg hbase hrow⟩
    rw [List.length_append]
    have e : cellsOf (cs ++ ys) = cellsOf cs ++ cellsOf ys := by simp [cellsOf]
    rw [e]
    exact ho
  rcases h with rfl | ⟨b, off, rfl, hc, _⟩
  · cases p with
    | none =>
      refine ⟨v, w, append_nothing w base v cs cap ty hown, ?_, Below.refl _ _⟩
      rw [List.append_nil]
      exact hown
    | some a => exact hgo a (by intro j u hu; simp [cellsOf] at hu) rfl
  · refine hgo ⟨b, off, none⟩ (fun j u hu => ?_) rfl
    have hj : j < ys.length := by
      have := (List.getElem?_eq_some_iff.1 hu).1
      simpa [cellsOf] using this
    have hadd : (⟨b, off, none⟩ : Addr).add j = ⟨b, off + j, none⟩ := by unfold Addr.add; split <;> simp_all
    rw [hadd, hc j hj, ← hu]
    simp [cellsOf, hj]

theorem wp_append_bytes {w : World} {o : Oper} {a : Act} {K : Act → World → Prop} {Q : Exit → Act → World → Prop} (sv x : Operand)
    (ho : o.op = .call { callee := .builtin .append, args := #[sv, x], argTypes := #[22, 22] })
    (base : Nat) (v vx : Value) (cs ys : List Nat) (hs : a.eval sv = v) (hown : w.ownsRow base 5 1 v cs.length (cellsOf cs)) (hx : a.eval x = vx) (hin : SliceIn w vx ys)
    (hsz : cs.length + ys.length ≤ 140737488355328) (hbase : base ≤ w.heap.size)
    (h : ∀ v' w', w'.ownsRow base 5 1 v' (cs ++ ys).length (cellsOf (cs ++ ys)) → Below base w w' → K (a.put o.dst v') w') : o.wp Tryd.prog a w K Q := by
  obtain ⟨v', w', hr, h2, h3⟩ := append_bytes w base v vx cs ys o.type hown hin hsz hbase
  unfold Oper.wp execOp
  simp only [ho, resolve, invoke, builtin, Sem.run_bind, Sem.run_pure, Result.andThen_ok, List.map_toArray, List.map_cons, List.map_nil, hs, hx, hr]
  exact h v' w' h2 h3

theorem wpList_append_bytes {w : World} {ops : Array Oper} {rest : List Oper} {o : Oper} {a : Act} {Q : Exit → Act → World → Prop} (hgd : o.guard = none) (sv x : Operand)
    (ho : o.op = .call { callee := .builtin .append, args := #[sv, x], argTypes := #[22, 22] })
    (base : Nat) (v vx : Value) (cs ys : List Nat) (hs : a.eval sv = v) (hown : w.ownsRow base 5 1 v cs.length (cellsOf cs)) (hx : a.eval x = vx) (hin : SliceIn w vx ys)
    (hsz : cs.length + ys.length ≤ 140737488355328) (hbase : base ≤ w.heap.size)
    (h : ∀ v' w', w'.ownsRow base 5 1 v' (cs ++ ys).length (cellsOf (cs ++ ys)) → Below base w w' → wpList Tryd.prog ops Q rest (a.put o.dst v') w') : wpList Tryd.prog ops Q (o :: rest) a w :=
  wpList_plain hgd fun _ hK => wp_append_bytes sv x ho base v vx cs ys hs hown hx hin hsz hbase fun v' w' h2 h3 => hK _ _ (h v' w' h2 h3)
end Go.Proofs.YtkhchfjijglfjaaDoor

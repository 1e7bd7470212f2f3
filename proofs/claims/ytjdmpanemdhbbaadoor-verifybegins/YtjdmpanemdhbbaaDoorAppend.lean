/- append to a slice that the call itself has made: of words, of bytes. -/
import Derived.Test.YtjdmpanemdhbbaaDoorState
namespace Go.Proofs.YtjdmpanemdhbbaaDoor
open Go.RowKit

theorem info36 : (Tryd.prog.info? 65).map (fun i => (i.zero, i.size, i.bytes)) = some (some (.int .u32 0), 1, 4) := by kernel_rfl
theorem info5' : (Tryd.prog.info? 5).map (fun i => (i.zero, i.size, i.bytes)) = some (some (.int .u8 0), 1, 1) := by kernel_rfl

/-- words, bytes that the call has made -/
def WOwn (w : World) (base : Nat) (v : Value) (ws : List (BitVec 32)) : Prop := w.ownsRow base 65 1 v ws.length (wcells ws)
def BOwn (w : World) (base : Nat) (v : Value) (cs : List Nat) : Prop := w.ownsRow base 5 1 v cs.length (bcells cs)

section
variable {w : World} {ops : Array Oper} {rest : List Oper} {o : Oper} {a : Act} {Q : Exit → Act → World → Prop}
theorem wpList_append_words (sv x : Operand) (hgd : o.guard = none) (ho : o.op = .call { callee := .builtin .append, args := #[sv, x], argTypes := #[73, 73] })
    (base : Nat) (v : Value) (ws ys : List (BitVec 32)) (hs : a.eval sv = v) (hown : WOwn w base v ws) (b off c : Nat) (hx : a.eval x = .slice (some ⟨b, off, none⟩) ys.length c)
    (hc : ∀ j, j < ys.length → w.cell? ⟨b, off + j, none⟩ = some (.int .u32 (Sha.U (ys.getD j 0)))) (hsz : ws.length + ys.length ≤ 1000000) (hbase : base ≤ w.heap.size)
    (h : ∀ v' w', WOwn w' base v' (ws ++ ys) → Below base w w' → wpList Tryd.prog ops Q rest (a.put o.dst v') w') : wpList Tryd.prog ops Q (o :: rest) a w := by
  obtain ⟨i, hi, hz0, hz1, hz2⟩ := info_parts info36
  obtain ⟨v', w', hr, ho', hg, _⟩ := run_append_own (P := Tryd.prog) (w := w) base 73 o.type 65 i (.int .u32 0) 1 4 Tryd.underlying73 hi hz0 hz1 hz2 rfl (by decide) v ws.length (wcells ws) hown
    ⟨b, off, none⟩ ys.length c (wcells ys) (by simp [wcells_length]) (fun j u hu => by
      have hj : j < ys.length := by
        have := (List.getElem?_eq_some_iff.1 hu).1
        rwa [wcells_length] at this
      rw [add_none, hc j hj, ← hu, wcells_at ys j hj]) (wcells_one ys) (by unfold maxLen; omega) (by omega) hbase
  refine wpList_value hgd v' w' ?_ (h v' w' ?_ ((Below.refl base w).grown hg hbase fun k hk => (hown.lt k hk).1))
  · simp only [execOp, ho, resolve, invoke, builtin, Sem.run_bind, Sem.run_pure, Result.andThen_ok, List.map_toArray, List.map_cons, List.map_nil, hs, hx, hr]
  · unfold WOwn
    rw [wcells_append, List.length_append]
    exact ho'
/-- a slice of bytes behind one that the call has made -/
theorem wpList_append_bytes (sv x : Operand) (hgd : o.guard = none) (ho : o.op = .call { callee := .builtin .append, args := #[sv, x], argTypes := #[57, 57] })
    (base : Nat) (v vx : Value) (cs ys : List Nat) (hs : a.eval sv = v) (hown : BOwn w base v cs) (hx : a.eval x = vx) (hin : SliceIn w vx ys)
    (hsz : cs.length + ys.length ≤ 140737488355328) (hbase : base ≤ w.heap.size)
    (h : ∀ v' w', BOwn w' base v' (cs ++ ys) → Below base w w' → wpList Tryd.prog ops Q rest (a.put o.dst v') w') : wpList Tryd.prog ops Q (o :: rest) a w := by
  obtain ⟨i, hi, hz0, hz1, hz2⟩ := info_parts info5'
  obtain ⟨p, cap, rfl, hl, hin⟩ := hin
  have hgo : ∀ ad : Addr, (∀ j u, (bcells ys)[j]? = some u → w.cell? (ad.add j) = some u) → p = some ad → wpList Tryd.prog ops Q (o :: rest) a w := by
    rintro ad hnews rfl
    obtain ⟨v', w', hr, ho', hg, _⟩ := run_append_own (P := Tryd.prog) (w := w) base 57 o.type 5 i (.int .u8 0) 1 1 Tryd.underlying57 hi hz0 hz1 hz2 rfl (by decide) v cs.length (bcells cs) hown
      ad ys.length cap (bcells ys) (by simp [bcells_length]) hnews (bcells_one ys) (by unfold maxLen; omega) (by omega) hbase
    refine wpList_value hgd v' w' ?_ (h v' w' ?_ ((Below.refl base w).grown hg hbase fun k hk => (hown.lt k hk).1))
    · simp only [execOp, ho, resolve, invoke, builtin, Sem.run_bind, Sem.run_pure, Result.andThen_ok, List.map_toArray, List.map_cons, List.map_nil, hs, hx, hr]
    · unfold BOwn
      rw [bcells_append, List.length_append]
      exact ho'
  rcases hin with rfl | ⟨b, off, rfl, hc, _⟩
  · cases p with
    | none =>
      have hrun : (Builtin.append_ #[57, 57] o.type #[v, .slice none ([] : List Nat).length cap]).run Tryd.prog w = .ok v w := by
        rcases hown.2 with ⟨rfl, h0⟩ | ⟨g, cap', cur, rfl, _, hg, hcap, hmax, hsz, htake⟩
        · simp [Builtin.append_, run_underlying Tryd.underlying57, sizeOf, typeInfo, hi, Builtin.lenOf, Builtin.firstCells]
        · simp [Builtin.append_, run_underlying Tryd.underlying57, sizeOf, typeInfo, hi, Builtin.lenOf, Builtin.firstCells, hcap, storeCells]
      refine wpList_value hgd v w ?_ (h v w ?_ (Below.refl _ _))
      · simp only [execOp, ho, resolve, invoke, builtin, Sem.run_bind, Sem.run_pure, Result.andThen_ok, List.map_toArray, List.map_cons, List.map_nil, hs, hx, hrun]
      · rw [List.append_nil]
        exact hown
    | some ad => exact hgo ad (by intro j u hu; simp [bcells] at hu) rfl
  · refine hgo ⟨b, off, none⟩ (fun j u hu => ?_) rfl
    have hj : j < ys.length := by
      have := (List.getElem?_eq_some_iff.1 hu).1
      rwa [bcells_length] at this
    rw [add_none, hc j hj, ← hu, bcells_at ys j hj]
end

/-- such a slice holds its bytes -/
theorem BOwn.slice {w : World} {base : Nat} {v : Value} {cs : List Nat} (h : BOwn w base v cs) (hb : ∀ j : Nat, cs.getD j 0 < 256) : SliceIn w v cs := by
  rcases h.2 with ⟨rfl, h0⟩ | ⟨g, cap, cur, rfl, _, hg, hcap, hmax, hsz, htake⟩
  · obtain rfl : cs = [] := List.length_eq_zero_iff.1 h0
    exact ⟨none, 0, rfl, ⟨Nat.le_refl _, by decide⟩, Or.inl rfl⟩
  · unfold maxLen at hmax
    refine ⟨_, cap, rfl, ⟨hcap, by omega⟩, Or.inr ⟨g, 0, rfl, fun j hj => ?_, hb⟩⟩
    have h2 := h.cells (g := g) rfl j _ (bcells_at cs j hj)
    rw [add_none] at h2
    exact h2
theorem WOwn.shape {w : World} {base : Nat} {v : Value} {ws : List (BitVec 32)} (h : WOwn w base v ws) (hne : 0 < ws.length) : ∃ g cap, v = .slice (some ⟨g, 0, none⟩) ws.length cap ∧ base ≤ g ∧ g < w.heap.size ∧ ∀ j, j < ws.length → w.cell? ⟨g, j, none⟩ = some (.int .u32 (Sha.U (ws.getD j 0))) := by
  rcases h.2 with ⟨rfl, h0⟩ | ⟨g, cap, cur, rfl, _, hg, hcap, hmax, hsz, htake⟩
  · omega
  · have hlt := h.lt g rfl
    refine ⟨g, cap, rfl, hlt.1, hlt.2, fun j hj => ?_⟩
    have h2 := h.cells (g := g) rfl j _ (wcells_at ws j hj)
    rw [add_none, Nat.zero_add] at h2
    exact h2
theorem WOwn.later {w w' : World} {B base : Nat} {v : Value} {ws : List (BitVec 32)} (h : WOwn w base v ws) (hb : Below B w w') (hB : w.heap.size ≤ B) : WOwn w' base v ws := by
  refine World.ownsRow.kept h (row := none) ⟨hb.os, hb.tape, hb.output, hb.size, fun k hk _ => hb.block k (by omega)⟩ ?_
  cases hv : v.ownBlock with
  | none => exact Or.inl rfl
  | some k => exact Or.inr (by simp)
theorem WOwn.drewN {w : World} {base : Nat} {v : Value} {ws : List (BitVec 32)} (h : WOwn w base v ws) (n : Nat) : WOwn (w.drewN n) base v ws := h
theorem BOwn.later {w w' : World} {B base : Nat} {v : Value} {cs : List Nat} (h : BOwn w base v cs) (hb : Below B w w') (hB : w.heap.size ≤ B) : BOwn w' base v cs := by
  refine World.ownsRow.kept h (row := none) ⟨hb.os, hb.tape, hb.output, hb.size, fun k hk _ => hb.block k (by omega)⟩ ?_
  cases hv : v.ownBlock with
  | none => exact Or.inl rfl
  | some k => exact Or.inr (by simp)
theorem WOwn.new (w : World) (base : Nat) (hb : base ≤ w.heap.size) : WOwn (w.alloc (.cells #[] 65)) base (.slice (some ⟨w.heap.size, 0, none⟩) 0 0) [] := World.ownsRow_made w #[] 0 hb (Nat.zero_le _) rfl
theorem BOwn.new (w : World) (base : Nat) (hb : base ≤ w.heap.size) : BOwn (w.alloc (.cells #[] 5)) base (.slice (some ⟨w.heap.size, 0, none⟩) 0 0) [] := World.ownsRow_made w #[] 0 hb (Nat.zero_le _) rfl
end Go.Proofs.YtjdmpanemdhbbaaDoor

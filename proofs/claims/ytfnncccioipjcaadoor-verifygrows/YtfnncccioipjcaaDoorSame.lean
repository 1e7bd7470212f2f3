/- The walks of the statements' leaves and same. -/
import Derived.Test.YtfnncccioipjcaaDoorRoot
namespace Go.Proofs.YtfnncccioipjcaaDoor
open Go.RowKit

theorem elem22 : Tryd.prog.elem 39 = 5 := by kernel_rfl
theorem under22 : Tryd.prog.underlying 39 = some (.slice (Tryd.prog.elem 39)) := by rw [elem22]; exact Tryd.underlying39
section
variable {w w0 : World} {ops : Array Oper} {rest : List Oper} {o : Oper} {a : Act} {Q : Exit → Act → World → Prop}
theorem wl_blen (x : Operand) (hgd : Region.wanted o (yielded ops a.tmps) = true) (ho : o.op = .call { callee := .builtin .len, args := #[x], argTypes := #[39] }) (v : Value) (cs : List Nat) (hx : a.eval x = v) (hin : SliceIn w0 v cs)
    (h : wpList Tryd.prog ops Q rest (a.put o.dst (.int .i64 (cs.length : Nat))) w) : wpList Tryd.prog ops Q (o :: rest) a w := by
  obtain ⟨p, cap, rfl, hl, _⟩ := hin
  have hr : (Builtin.len_ #[39] o.type #[.slice p cs.length cap]).run Tryd.prog w = .ok (goInt cs.length) w := run_len_slice w _ _ _ _ _ under22
  refine wl hgd _ w ?_ h
  simp only [execOp, ho, resolve, invoke, builtin, Sem.run_bind, Sem.run_pure, Result.andThen_ok, List.map_toArray, List.map_cons, List.map_nil, hx, hr]
  rfl
theorem wl_bindex (x i : Operand) (hgd : Region.wanted o (yielded ops a.tmps) = true) (ho : o.op = .indexAddr 39 x i) (v : Value) (cs : List Nat) (hx : a.eval x = v) (hin : SliceIn w v cs) (k : Nat) (hi : a.eval i = .int .i64 (k : Nat)) (hk : k < cs.length)
    (h : ∀ b j, w.cell? ⟨b, j, none⟩ = some (.int .u8 (cs.getD k 0 : Nat)) → wpList Tryd.prog ops Q rest (a.put o.dst (.pointer (some ⟨b, j, none⟩))) w) : wpList Tryd.prog ops Q (o :: rest) a w := by
  obtain ⟨p, cap, rfl, hl, hin⟩ := hin
  rcases hin with rfl | ⟨b, off, rfl, hc, _⟩
  · simp at hk
  obtain ⟨i5, hi5, hsz⟩ := Option.map_eq_some_iff.1 info5
  have hr : (Instr.indexAt 39 (.slice (some ⟨b, off, none⟩) cs.length cap) (.int .i64 (k : Nat))).run Tryd.prog w = .ok (.pointer (some ⟨b, off + k, none⟩)) w := by
    simp [Instr.indexAt, asIntOf, run_underlying Tryd.underlying39, hk, sizeOf, typeInfo, hi5, hsz, add_none]
  refine wl hgd _ w ?_ (h b (off + k) (hc k hk))
  simp only [execOp, ho, hx, hi, hr, Sem.run_bind, Sem.run_pure, Result.andThen_ok]
end

/-- the leaves of numbers, the first k -/
def lv (l : List Nat) (k : Nat) : List (List Nat) := (List.range k).map fun i => Tree.leaf [l.getD i 0, i % 256]
theorem lv_length (l : List Nat) (k : Nat) : (lv l k).length = k := by simp [lv]
theorem lv_succ (l : List Nat) (k : Nat) : lv l (k + 1) = lv l k ++ [Tree.leaf [l.getD k 0, k % 256]] := by simp [lv, List.range_succ]
theorem lv_all (l : List Nat) (k : Nat) : AllH (lv l k) := by
  intro h hh
  obtain ⟨i, _, rfl⟩ := List.mem_map.1 hh
  exact leaf_isH _
def LvIn (w W : World) (x : Value) (cs : List Nat) (k : Nat) : Prop := HOwn W w.heap.size x (lv cs k) ∧ Below w.heap.size w W

/-! same -/
def SameTo (w W : World) (xs ys : List (List Nat)) (k : Nat) : Prop := xs.take k = ys.take k ∧ Below w.heap.size w W
theorem sameTo_next {xs ys : List (List Nat)} {k : Nat} (h : xs.take k = ys.take k) (hx : k < xs.length) (hy : k < ys.length) (he : xs.getD k [] = ys.getD k []) : xs.take (k + 1) = ys.take (k + 1) := by
  rw [List.take_succ_eq_append_getElem hx, List.take_succ_eq_append_getElem hy, h]
  simp [hx, hy] at he
  rw [he]
end Go.Proofs.YtfnncccioipjcaaDoor

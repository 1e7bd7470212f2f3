/- Blocks that are known whole, and the operations that read and write them whole: arrays and structs. -/
import Derived.Test.YtjdmpanemdhbbaaDoorRot
import Derived.Laws.CopyOwn
import Derived.Laws.Cells
namespace Go.Proofs.YtjdmpanemdhbbaaDoor
open Go.RowKit

/-- block g holds just these cells; none of them is frozen -/
def Row (w : World) (g : Nat) (t : TypeId) (cs : List Value) : Prop := w.heap[g]? = some (.cells cs.toArray t (0, 0))

theorem add_none (g o j : Nat) : (⟨g, o, none⟩ : Addr).add j = ⟨g, o + j, none⟩ := by unfold Addr.add; split <;> simp_all
theorem Row.lt {w : World} {g : Nat} {t : TypeId} {cs : List Value} (h : Row w g t cs) : g < w.heap.size := (Array.getElem?_eq_some_iff.1 h).1
theorem Row.cell {w : World} {g : Nat} {t : TypeId} {cs : List Value} (h : Row w g t cs) (i : Nat) : w.cell? ⟨g, i, none⟩ = cs[i]? := by
  unfold Row at h
  simp [World.cell?, h]
theorem Row.at {w : World} {g : Nat} {t : TypeId} {cs : List Value} (h : Row w g t cs) (i : Nat) (v : Value) (hv : cs[i]? = some v) : w.cell? ⟨g, i, none⟩ = some v := by
  rw [h.cell, hv]
theorem Row.frozen {w : World} {g : Nat} {t : TypeId} {cs : List Value} (h : Row w g t cs) (i : Nat) : w.frozen? ⟨g, i, none⟩ = false := by
  unfold Row at h
  simp [World.frozen?, h]
theorem Row.later {w w' : World} {B g : Nat} {t : TypeId} {cs : List Value} (h : Row w g t cs) (hb : Below B w w') (hg : g < B) : Row w' g t cs := by
  unfold Row
  rw [hb.block g hg]
  exact h
theorem Row.new (w : World) (t : TypeId) (cs : List Value) : Row (w.alloc (.cells cs.toArray t)) w.heap.size t cs := by
  show (w.heap.push _)[w.heap.size]? = _
  simp
theorem Row.new' (w : World) (t : TypeId) (cs : Array Value) : Row (w.alloc (.cells cs t)) w.heap.size t cs.toList := by
  show (w.heap.push _)[w.heap.size]? = _
  simp
theorem Row.alloc {w : World} {g : Nat} {t : TypeId} {cs : List Value} (h : Row w g t cs) (o : Obj) : Row (w.alloc o) g t cs := by
  unfold Row
  rw [Below.heap_alloc _ _ _ h.lt]
  exact h
theorem Row.setRow {w : World} {g : Nat} {t : TypeId} {cs : List Value} (h : Row w g t cs) (xs : List Value) : Row (w.setRow g xs.toArray) g t xs := setRow_heap w g _ _ t _ h
theorem Row.setRow_other {w : World} {g k : Nat} {t : TypeId} {cs : List Value} (h : Row w k t cs) (hk : k ≠ g) (xs : Array Value) : Row (w.setRow g xs) k t cs := by
  unfold Row
  rw [Go.setRow_other w g k xs hk]
  exact h
theorem Row.setCell {w : World} {g : Nat} {t : TypeId} {cs : List Value} (h : Row w g t cs) (i : Nat) (v : Value) : Row (w.setCell ⟨g, i, none⟩ v) g t (cs.set i v) := by
  rw [setCell_eq_setRow w g i _ t (0, 0) v h]
  have := setRow_heap w g _ (cs.toArray.setIfInBounds i v) t (0, 0) h
  unfold Row
  rw [this]
  simp
theorem Row.setCell_other {w : World} {g k : Nat} {t : TypeId} {cs : List Value} (h : Row w k t cs) (hk : k ≠ g) (i : Nat) (v : Value) : Row (w.setCell ⟨g, i, none⟩ v) k t cs := by
  unfold Row
  rw [Below.heap_setCell w _ v k hk]
  exact h
theorem Row.drewN {w : World} {g : Nat} {t : TypeId} {cs : List Value} (h : Row w g t cs) (n : Nat) : Row (w.drewN n) g t cs := h
theorem Below.drewN {B : Nat} {a w : World} (h : Below B a w) (n : Nat) : Below B a (w.drewN n) := ⟨h.os, h.tape, h.output, h.size, h.block⟩

/-- a type whose values are n cells side by side -/
def AggT (t n : Nat) : Prop := ((∃ fs, Tryd.prog.underlying t = some (.struct fs)) ∨ ∃ k e, Tryd.prog.underlying t = some (.array k e)) ∧ (Tryd.prog.info? t).map (·.size) = some n
theorem agg25 : AggT 23 32 := ⟨Or.inr ⟨_, _, Tryd.underlying23⟩, by kernel_rfl⟩
theorem agg37 : AggT 66 8 := ⟨Or.inr ⟨_, _, Tryd.underlying66⟩, by kernel_rfl⟩
theorem agg45 : AggT 79 64 := ⟨Or.inr ⟨_, _, Tryd.underlying79⟩, by kernel_rfl⟩
theorem agg41 : AggT 70 73 := ⟨Or.inl ⟨_, Tryd.underlying70⟩, by kernel_rfl⟩
theorem agg52 : AggT 85 72 := ⟨Or.inr ⟨_, _, Tryd.underlying85⟩, by kernel_rfl⟩

theorem run_loadVar {t n : Nat} (ht : AggT t n) (w : World) (g o : Nat) (cs : List Value) (hn : cs.length = n) (hc : ∀ j v, cs[j]? = some v → w.cell? ⟨g, o + j, none⟩ = some v) :
    (loadVar t ⟨g, o, none⟩).run Tryd.prog w = .ok (.agg cs.toArray) w := by
  obtain ⟨hu, hs⟩ := ht
  obtain ⟨i, hi, hsz⟩ := Option.map_eq_some_iff.1 hs
  have hl := run_loadCells_list (P := Tryd.prog) w ⟨g, o, none⟩ cs (fun j v hv => by rw [add_none]; exact hc j v hv)
  rw [hn] at hl
  rcases hu with ⟨fs, hu⟩ | ⟨k, e, hu⟩
  · simp [loadVar, isAgg, run_underlying hu, sizeOf, typeInfo, hi, hsz, hl]
  · simp [loadVar, isAgg, run_underlying hu, sizeOf, typeInfo, hi, hsz, hl]
theorem run_storeVar {t n : Nat} (ht : AggT t n) (w : World) (g o T : Nat) (cur cs : List Value) (hn : cs.length = n) (hr : Row w g T cur) (hfit : o + cs.length ≤ cur.length) (h1 : ∀ v ∈ cs, v.oneCell' = true) :
    (storeVar t ⟨g, o, none⟩ (.agg cs.toArray)).run Tryd.prog w = .ok () (w.setRow g (splice cur o cs).toArray) := by
  obtain ⟨hu, hs⟩ := ht
  obtain ⟨i, hi, hsz⟩ := Option.map_eq_some_iff.1 hs
  have hst := run_storeCells_at (P := Tryd.prog) g o T cs 0 cur.toArray w hr (by simpa using hfit) h1
  simp only [Nat.add_zero] at hst
  simp [storeVar, sizeOf, typeInfo, hi, hsz, Value.cells, hn, hst, splice]

section
variable {w : World} {ops : Array Oper} {rest : List Oper} {o : Oper} {a : Act} {Q : Exit → Act → World → Prop}
/-- an operation whose run is known -/
theorem wpList_value (hgd : o.guard = none) (v : Value) (w' : World) (hrun : (execOp a.eval o).run Tryd.prog w = .ok (.value v) w') (h : wpList Tryd.prog ops Q rest (a.put o.dst v) w') : wpList Tryd.prog ops Q (o :: rest) a w :=
  wpList_plain hgd fun K hK => by
    unfold Oper.wp
    rw [hrun]
    exact hK _ _ h
theorem wpList_skip' (hgd : o.guard = none) (w' : World) (hrun : (execOp a.eval o).run Tryd.prog w = .ok .skip w') (h : wpList Tryd.prog ops Q rest (a.put o.dst undef) w') : wpList Tryd.prog ops Q (o :: rest) a w :=
  wpList_plain hgd fun K hK => by
    unfold Oper.wp
    rw [hrun]
    exact hK _ _ h
theorem wpList_move (x : Operand) (hgd : o.guard = none) (ho : o.op = .move x) (v : Value) (hv : a.eval x = v) (h : wpList Tryd.prog ops Q rest (a.put o.dst v) w) : wpList Tryd.prog ops Q (o :: rest) a w :=
  wpList_value hgd v w (by simp [execOp, ho, hv]) h
theorem wpList_assign (x : Operand) (hgd : o.guard = none) (ho : o.op = .assign x) (v : Value) (hv : a.eval x = v) (h : wpList Tryd.prog ops Q rest (a.put o.dst v) w) : wpList Tryd.prog ops Q (o :: rest) a w :=
  wpList_value hgd v w (by simp [execOp, ho, hv]) h
/-- a whole array or struct is read -/
theorem wpList_load {t n : Nat} (ht : AggT t n) (x : Operand) (hgd : o.guard = none) (ho : o.op = .load t x) (g off : Nat) (hx : a.eval x = .pointer (some ⟨g, off, none⟩)) (cs : List Value) (hn : cs.length = n)
    (hc : ∀ j v, cs[j]? = some v → w.cell? ⟨g, off + j, none⟩ = some v) (h : wpList Tryd.prog ops Q rest (a.put o.dst (.agg cs.toArray)) w) : wpList Tryd.prog ops Q (o :: rest) a w :=
  wpList_value hgd _ w (by simp [execOp, ho, hx, Instr.loadAt, Instr.sureAddr, run_loadVar ht w g off cs hn hc]) h
/-- .. written -/
theorem wpList_store {t n : Nat} (ht : AggT t n) (x y : Operand) (hgd : o.guard = none) (ho : o.op = .store t x y) (g off T : Nat) (hx : a.eval x = .pointer (some ⟨g, off, none⟩)) (cs cur : List Value) (hy : a.eval y = .agg cs.toArray) (hn : cs.length = n)
    (hr : Row w g T cur) (hfit : off + cs.length ≤ cur.length) (h1 : ∀ v ∈ cs, v.oneCell' = true) (h : wpList Tryd.prog ops Q rest (a.put o.dst undef) (w.setRow g (splice cur off cs).toArray)) : wpList Tryd.prog ops Q (o :: rest) a w :=
  wpList_skip' hgd _ (by simp [execOp, ho, hx, hy, Instr.storeAt, Instr.sureAddr, run_storeVar ht w g off T cur cs hn hr hfit h1]) h
/-- .. made -/
theorem wpList_alloc {t : Nat} (zs : List Value) (hz : (Tryd.prog.info? t).map (·.zero) = some (some (.agg zs.toArray))) (hgd : o.guard = none) (ho : o.op = .alloc t)
    (h : wpList Tryd.prog ops Q rest (a.put o.dst (.pointer (some ⟨w.heap.size, 0, none⟩))) (w.alloc (.cells zs.toArray t))) : wpList Tryd.prog ops Q (o :: rest) a w := by
  obtain ⟨i, hi, hsz⟩ := Option.map_eq_some_iff.1 hz
  exact wpList_value hgd _ _ (by simp [execOp, ho, Instr.alloc, zeroValue, typeInfo, hi, hsz, newVar, newRow, Value.cells]) h
end

/-- what a function hands back out of its result's block -/
theorem results_cell {fn : Func} {p : Tmp} {t n : Nat} (ht : AggT t n) (h : fn.results = #[.cell p t]) (tmps : Array Value) (w : World) (g T : Nat) (hp : tmps.getD p undef = .pointer (some ⟨g, 0, none⟩)) (cs : List Value) (hn : cs.length = n) (hr : Row w g T cs) :
    (results fn tmps).run Tryd.prog w = .ok (.agg cs.toArray) w := by
  have hl := run_loadVar ht w g 0 cs hn (fun j v hv => by rw [Nat.zero_add]; exact hr.at j v hv)
  have hp' : tmps[p]?.getD undef = .pointer (some ⟨g, 0, none⟩) := by simpa using hp
  simp [results, h, hp', asAddr, hl]

def zerosU8 (n : Nat) : List Value := List.replicate n (.int .u8 0)
def zerosU32 (n : Nat) : List Value := List.replicate n (.int .u32 0)
theorem zero25 : (Tryd.prog.info? 23).map (·.zero) = some (some (.agg (zerosU8 32).toArray)) := by kernel_rfl
theorem zero37 : (Tryd.prog.info? 66).map (·.zero) = some (some (.agg (zerosU32 8).toArray)) := by kernel_rfl
theorem zero45 : (Tryd.prog.info? 79).map (·.zero) = some (some (.agg (zerosU32 64).toArray)) := by kernel_rfl
theorem zero52 : (Tryd.prog.info? 85).map (·.zero) = some (some (.agg (zerosU8 72).toArray)) := by kernel_rfl
def zeroState : List Value := zerosU32 8 ++ (zerosU8 64 ++ [.int .u64 0])
theorem zero41 : (Tryd.prog.info? 70).map (·.zero) = some (some (.agg zeroState.toArray)) := by kernel_rfl
end Go.Proofs.YtjdmpanemdhbbaaDoor

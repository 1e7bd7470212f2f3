/- Variables of one cell that a closure captures: the proof so far, and the closure itself; fields; a difference. -/
import Derived.Test.YtjdmpanemdhbbaaDoorUntil
import Derived.Test.YtjdmpanemdhbbaaDoorSame
namespace Go.Proofs.YtjdmpanemdhbbaaDoor
open Go.RowKit

def OneT (t : Nat) : Prop := ∀ (w : World) (g o : Nat) (v : Value), w.cell? ⟨g, o, none⟩ = some v → (loadVar t ⟨g, o, none⟩).run Tryd.prog w = .ok v w
theorem one3 : OneT 3 := fun w g o v h => by simp [loadVar, isAgg, run_underlying Tryd.underlying3, h]
theorem one24 : OneT 24 := fun w g o v h => by simp [loadVar, isAgg, run_underlying Tryd.underlying24, h]
theorem one48 : OneT 58 := fun w g o v h => by simp [loadVar, isAgg, run_underlying Tryd.underlying58, h]
theorem one50 : OneT 59 := fun w g o v h => by simp [loadVar, isAgg, run_underlying Tryd.underlying59, h]
def OneS (t : Nat) : Prop := (Tryd.prog.info? t).map (·.size) = some 1
theorem size3 : OneS 3 := by unfold OneS; kernel_rfl
theorem size24 : OneS 24 := by unfold OneS; kernel_rfl
theorem size48 : OneS 58 := by unfold OneS; kernel_rfl
theorem size50 : OneS 59 := by unfold OneS; kernel_rfl
/-- a value of one cell -/
def OneV (v : Value) : Prop := v.cells = #[v] ∧ v.oneCell' = true
theorem HOwn.one {w : World} {base : Nat} {v : Value} {hs : List (List Nat)} (h : HOwn w base v hs) : OneV v := by
  rcases h.2.2 with ⟨rfl, _⟩ | ⟨_, _, _, rfl, _⟩ <;> exact ⟨rfl, rfl⟩
def FieldAt (T i k : Nat) : Prop := ∀ (w : World) (g off : Nat), (Instr.fieldAt T (.pointer (some ⟨g, off, none⟩)) i).run Tryd.prog w = .ok (.pointer (some ⟨g, off + k, none⟩)) w
section
variable {w : World} {o : Oper} {a : Act}
theorem rx_load1 {t : Nat} (ht : OneT t) (x : Operand) (ho : o.op = .load t x) (g i : Nat) (hx : a.eval x = .pointer (some ⟨g, i, none⟩)) (v : Value) (hc : w.cell? ⟨g, i, none⟩ = some v) : (execOp a.eval o).run Tryd.prog w = .ok (.value v) w := by
  simp [execOp, ho, hx, Instr.loadAt, Instr.sureAddr, ht w g i v hc]
theorem rx_store1 {t : Nat} (hs : OneS t) (x y : Operand) (ho : o.op = .store t x y) (g i T : Nat) (cur : List Value) (hx : a.eval x = .pointer (some ⟨g, i, none⟩)) (v : Value) (hy : a.eval y = v) (hv : OneV v) (hr : Row w g T cur) (hi : i < cur.length) :
    (execOp a.eval o).run Tryd.prog w = .ok .skip (w.setRow g (splice cur i [v]).toArray) := by
  obtain ⟨ti, hti, hsz⟩ := Option.map_eq_some_iff.1 hs
  have hst := run_storeCells_at (P := Tryd.prog) g i T [v] 0 cur.toArray w hr (by simp; omega) (by intro u hu; rw [List.mem_singleton.1 hu]; exact hv.2)
  simp only [Nat.add_zero] at hst
  have hst' : (storeVar t ⟨g, i, none⟩ v).run Tryd.prog w = .ok () (w.setRow g (splice cur i [v]).toArray) := by
    simp [storeVar, sizeOf, typeInfo, hti, hsz, hv.1, hst, splice]
  simp [execOp, ho, hx, hy, Instr.storeAt, Instr.sureAddr, hst']
theorem rx_nil (x : Operand) (ho : o.op = .nilCheck x) (p : Addr) (hx : a.eval x = .pointer (some p)) : (execOp a.eval o).run Tryd.prog w = .ok (.value (.pointer (some p))) w := by
  simp [execOp, ho, hx]
theorem rx_minus (x y : Operand) (ho : o.op = .binOp .sub 3 x y 3) (m k : Nat) (hx : a.eval x = .int .i64 (m : Nat)) (hy : a.eval y = .int .i64 (k : Nat)) (h : k ≤ m) (hm : m ≤ 9223372036854775807) : (execOp a.eval o).run Tryd.prog w = .ok (.value (.int .i64 ((m - k : Nat) : Int))) w := by
  have e : IntKind.i64.wrap ((m : Int) - (k : Int)) = ((m - k : Nat) : Int) := by
    rw [IntKind.wrap_i64]
    omega
  simp only [execOp, ho, hx, hy]
  simp [go_sem, e]
end
/-- a row of one cell written -/
theorem Row.one {w : World} {g T : Nat} {u : Value} (h : Row w g T [u]) (v : Value) : Row (w.setRow g (splice [u] 0 [v]).toArray) g T [v] := by
  have := h.setRow [v]
  simpa [splice] using this
end Go.Proofs.YtjdmpanemdhbbaaDoor

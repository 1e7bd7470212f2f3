/- Bytes as strings, held against one another. -/
import Derived.Test.YtfnncccioipjcaaDoorCSplit
import Derived.Test.YtfnncccioipjcaaDoorDraw
namespace Go.Proofs.YtfnncccioipjcaaDoor
open Go.RowKit

/-- bytes as a string -/
def sv (cs : List Nat) : Value := .string (strOfNums (cs.map Int.ofNat))
theorem str_inj {xs ys : List Nat} (hx : ∀ c ∈ xs, c < 256) (hy : ∀ c ∈ ys, c < 256) : (strOfNums (xs.map Int.ofNat) = strOfNums (ys.map Int.ofNat)) ↔ xs = ys := by
  constructor
  · intro h
    have h1 := congrArg (fun s => s.data.toList) h
    simp only [strOfNums_data, List.map_map] at h1
    have key : ∀ zs : List Nat, (∀ c ∈ zs, c < 256) → (zs.map ((fun n : Int => UInt8.ofNat n.toNat) ∘ Int.ofNat)).map UInt8.toNat = zs := by
      intro zs hz
      rw [List.map_map]
      conv => rhs; rw [← List.map_id zs]
      apply List.map_congr_left
      intro c hc
      have := hz c hc
      simp [Function.comp]
      omega
    rw [← key xs hx, ← key ys hy, h1]
  · intro h
    rw [h]
theorem str_same {sx sy : ByteArray} {b : Bool} (h : decide (sx = sy) = b) : (sx.toList == sy.toList) = b := by
  rw [← h, Bool.eq_iff_iff, beq_iff_eq, decide_eq_true_iff, ByteArray.toList_eq, ByteArray.toList_eq]
  constructor
  · intro h
    obtain ⟨⟨l⟩⟩ := sx
    obtain ⟨⟨m⟩⟩ := sy
    have h' : l = m := h
    rw [h']
  · intro h
    rw [h]
section
variable {w : World} {ops : Array Oper} {rest : List Oper} {o : Oper} {a : Act} {Q : Exit → Act → World → Prop}
theorem rx_string (x : Operand) (ho : o.op = .convert 39 9 x) (v : Value) (cs : List Nat) (hx : a.eval x = v) (hin : SliceIn w v cs) : (execOp a.eval o).run Tryd.prog w = .ok (.value (sv cs)) w := by
  simp [execOp, ho, hx, run_bstring hin, sv]
theorem rx_seq (x y : Operand) (ho : o.op = .binOp .eql 9 x y 9) (xs ys : List Nat) (hx : a.eval x = sv xs) (hy : a.eval y = sv ys) (hbx : ∀ c ∈ xs, c < 256) (hby : ∀ c ∈ ys, c < 256) (b : Bool) (hb : decide (xs = ys) = b) : (execOp a.eval o).run Tryd.prog w = .ok (.value (.bool b)) w := by
  have e : decide (strOfNums (xs.map Int.ofNat) = strOfNums (ys.map Int.ofNat)) = b := by rw [← hb, Bool.eq_iff_iff, decide_eq_true_iff, decide_eq_true_iff]; exact str_inj hbx hby
  have e' := str_same e
  unfold sv at hx hy
  generalize strOfNums (xs.map Int.ofNat) = sx at *
  generalize strOfNums (ys.map Int.ofNat) = sy at *
  simp only [execOp, ho, hx, hy]
  simp [go_sem]
  exact e'
theorem rx_sne (x y : Operand) (ho : o.op = .binOp .neq 9 x y 9) (xs ys : List Nat) (hx : a.eval x = sv xs) (hy : a.eval y = sv ys) (hbx : ∀ c ∈ xs, c < 256) (hby : ∀ c ∈ ys, c < 256) (b : Bool) (hb : decide (xs = ys) = b) : (execOp a.eval o).run Tryd.prog w = .ok (.value (.bool (!b))) w := by
  have e : decide (strOfNums (xs.map Int.ofNat) = strOfNums (ys.map Int.ofNat)) = b := by rw [← hb, Bool.eq_iff_iff, decide_eq_true_iff, decide_eq_true_iff]; exact str_inj hbx hby
  have e' := str_same e
  unfold sv at hx hy
  generalize strOfNums (xs.map Int.ofNat) = sx at *
  generalize strOfNums (ys.map Int.ofNat) = sy at *
  simp only [execOp, ho, hx, hy]
  simp [go_sem]
  rw [e']
end
end Go.Proofs.YtfnncccioipjcaaDoor

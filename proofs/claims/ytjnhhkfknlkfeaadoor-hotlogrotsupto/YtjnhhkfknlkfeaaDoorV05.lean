/- The walk of Plant.Boot. -/
import Derived.Test.YtjnhhkfknlkfeaaDoorV04
import Derived.OrdersHeld
namespace Go.Proofs.YtjnhhkfknlkfeaaDoor
open Go.RowKit Go.Maps

/-- the cells of the tapes that are ended -/
def endCells (f : Nat → Bool) : List Value := (List.range 12).map fun i => .bool (f i)
section
variable {ops : Array Oper} {Q : Exit → Act → World → Prop} {S : World → Prop} {a : Act} {w : World} {listed : Array Bool} {fuel : Nat}
theorem takeH {i : Nat} (d : Option Tmp) {oi : Oper} {v : Value} (hi : ops[i]? = some oi) (hd : oi.dst = d)
    (hs : Region.noSelect ops = true) (hf : Region.free .any ops listed i = true) (hr : (Region.ready .any ops listed).contains i = true)
    (hQ : ∀ c a w, Q (.panic c) (a.put d v) w → Q (.panic c) a w) (hy : YieldsIf Tryd.prog ops S oi v a) (hS : S w)
    (h : wpAnyH Tryd.prog .any ops Q S fuel (listed.setIfInBounds i true) (a.put d v) w) : wpAnyH Tryd.prog .any ops Q S (fuel + 1) listed a w := by
  subst hd
  exact wpAnyH_take hi hs hf hr hQ hy hS h
theorem oneH {i : Nat} (hr : Region.ready .any ops listed = [i]) (h : wpOp Tryd.prog ops Q i (fun a' w' => S w' ∧ wpAnyH Tryd.prog .any ops Q S fuel (listed.setIfInBounds i true) a' w') a w) : wpAnyH Tryd.prog .any ops Q S (fuel + 1) listed a w :=
  wpAnyH_all (rs := [i]) hr (by simp) fun j hj => by obtain rfl := List.mem_singleton.1 hj; exact h
theorem run_not {o : Oper} (x : Operand) (ty : TypeId) (ho : o.op = .unOp .not ty x) (y : Bool) (hx : a.eval x = .bool y) : (execOp a.eval o).run Tryd.prog w = .ok (.value (.bool (!y))) w := by
  simp [execOp, ho, hx, Op.unary]
end
theorem f69_0 : FieldAt 69 0 0 := fun w g off => by kernel_rfl
theorem one67 : OneT 67 := fun w g o v h => by simp [loadVar, isAgg, run_underlying Tryd.underlying67, h]
theorem und67 : Tryd.prog.underlying 67 = some (.slice 79) := Tryd.underlying67
def BootIn (W : World) (c : Nat → Colour) (t g db cap : Nat) (gs : Nat → Nat) (m : Pl) (ks : List Int) (B n : Nat) : Prop :=
  PlantAt W c t g db cap gs (m.withFl (bootTo m ks n).1) ∧ Row W B 70 (endCells (bootTo m ks n).2)

/-- some devices have no writes any more -/
def Pl.less (m : Pl) (fl : Nat → List (List Nat)) (i : Nat) : Pl := { m with fl := fl, wts := m.wts.filter fun x => decide (i ≤ x.dev) }
end Go.Proofs.YtjnhhkfknlkfeaaDoor

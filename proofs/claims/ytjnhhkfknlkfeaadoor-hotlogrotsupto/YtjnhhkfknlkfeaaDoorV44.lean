/- Layer 14: with which places a disk is opened. -/
import Derived.Test.YtjnhhkfknlkfeaaDoorV43
namespace Go.Proofs.YtjnhhkfknlkfeaaDoor
open Go.RowKit Go.Maps


/-- what Fit and Append tell alike -/
def Fx (k d : Nat) (us : List (Nat × Nat)) (x : Pq) (fb : Bool) : Prop := (fb = true ∧ ∃ a : Nat, Fits k us a 3 ∧ x = ⟨(d : Nat), (a : Nat), 3, false⟩) ∨ (fb = false ∧ (∀ a, ¬ Room1 k us a 3) ∧ x = zP)
end Go.Proofs.YtjnhhkfknlkfeaaDoor

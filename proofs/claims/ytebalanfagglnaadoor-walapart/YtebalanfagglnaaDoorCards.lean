/-
  DERIVED. GIVEN WITH THE SEED: THE CARDS: each row of YtebalanfagglnaaDoorRows.lean that lists a variable, with what it lists TIED to the program's text (the seventh form; the later family's looks); each row that meets fmt, with fmt's text TOLD by the authors' own Lean function (tested against real Go, not proved from fmt's source: count such statements apart). THE CARD IS WHAT COUNTS. Prove the row's statement (the work); the ties are given (YtebalanfagglnaaDoorTie.lean); close each card by the builder's one call (the guide's Derived/Test/ToyasCard.lean, 'card_holds'). Laid BY PROGRAM, IN A SANDBOX (cutbox-door.mjs). By AI agents, Wed Nov 11 2026. No macro, syntax, notation, axiom, sorry.
-/
import Derived.Test.YtebalanfagglnaaDoorRows
import GoSem.ClaimSeven
namespace Go.Proofs.YtebalanfagglnaaDoor
namespace Rows

/-- THE TIED CARD OF 'munimentlaw08.WalApart'. -/
def walApartCard : Claim7 := { stood := { row := walApartRow, standIns := [], harness := (true, "14ae1b4f5e9548a236dda1f2fb1ea1880fe5835c0179052c44eacfd51deeed50"), looks := false }, kinds := [], alts := [], laidByText := true, laidKinds := [.data], laidTests := true, laidLooks := .later }
def WalApartCardSaid : Prop := Claim7.holds Tryd.pinned (.plain (OpenSpec.ofChange walApartSpec)) walApartCard

/-- THE TIED CARD OF 'munimentlaw08.WalAnew'. -/
def walAnewCard : Claim7 := { stood := { row := walAnewRow, standIns := [], harness := (true, "14ae1b4f5e9548a236dda1f2fb1ea1880fe5835c0179052c44eacfd51deeed50"), looks := false }, kinds := [], alts := [], laidByText := true, laidKinds := [.data], laidTests := true, laidLooks := .later }
def WalAnewCardSaid : Prop := Claim7.holds Tryd.pinned (.plain (OpenSpec.ofChange walAnewSpec)) walAnewCard

/-- THE SECOND FORM's CARD OF 'munimentlaw08.WalApart'. -/
def walApartUptoCard : Claim7 := { stood := { row := walApartUptoRow, standIns := [], harness := (true, "14ae1b4f5e9548a236dda1f2fb1ea1880fe5835c0179052c44eacfd51deeed50"), looks := false }, kinds := [], alts := [], laidByText := true, laidKinds := [.data], laidTests := true, laidLooks := .later }
def WalApartUptoCardSaid : Prop := Claim7.holds Tryd.pinned (.plain (OpenSpec.upto walApartSpec)) walApartUptoCard

/-- THE SECOND FORM's CARD OF 'munimentlaw08.WalAnew'. -/
def walAnewUptoCard : Claim7 := { stood := { row := walAnewUptoRow, standIns := [], harness := (true, "14ae1b4f5e9548a236dda1f2fb1ea1880fe5835c0179052c44eacfd51deeed50"), looks := false }, kinds := [], alts := [], laidByText := true, laidKinds := [.data], laidTests := true, laidLooks := .later }
def WalAnewUptoCardSaid : Prop := Claim7.holds Tryd.pinned (.plain (OpenSpec.upto walAnewSpec)) walAnewUptoCard
end Rows
end Go.Proofs.YtebalanfagglnaaDoor

/-
  DERIVED. GIVEN WITH THE SEED: THE CARDS: each row of YtfnncccioipjcaaDoorRows.lean that lists a variable, with what it lists TIED to the program's text (the seventh form; the later family's looks); each row that meets fmt, with fmt's text TOLD by the authors' own Lean function (tested against real Go, not proved from fmt's source: count such statements apart). THE CARD IS WHAT COUNTS. Prove the row's statement (the work); the ties are given (YtfnncccioipjcaaDoorTie.lean); close each card by the builder's one call (the guide's Derived/Test/ToyasCard.lean, 'card_holds'). Laid BY PROGRAM, IN A SANDBOX (cutbox-door.mjs). By AI agents, Wed Nov 11 2026. No macro, syntax, notation, axiom, sorry.
-/
import Derived.Test.YtfnncccioipjcaaDoorRows
import GoSem.ClaimSeven
namespace Go.Proofs.YtfnncccioipjcaaDoor
namespace Rows

/-- THE TIED CARD OF 'munimentlaw06.VerifyGrows'. -/
def verifyGrowsCard : Claim7 := { stood := { row := verifyGrowsRow, standIns := [], harness := (true, "5dfb95eeaebf22da4816113a651050f13d2ccada7c88f46de8e72c8d40643143"), looks := false }, kinds := [], alts := [], laidByText := true, laidKinds := [.data, .data], laidTests := true, laidLooks := .later }
def VerifyGrowsCardSaid : Prop := Claim7.holds Tryd.pinned (.plain (OpenSpec.ofChange verifyGrowsSpec)) verifyGrowsCard

/-- THE TIED CARD OF 'munimentlaw07.ChunkCuts'. -/
def chunkCutsCard : Claim7 := { stood := { row := chunkCutsRow, standIns := [], harness := (true, "5dfb95eeaebf22da4816113a651050f13d2ccada7c88f46de8e72c8d40643143"), looks := false }, kinds := [], alts := [], laidByText := true, laidKinds := [.data, .data], laidTests := true, laidLooks := .later }
def ChunkCutsCardSaid : Prop := Claim7.holds Tryd.pinned (.plain (OpenSpec.ofChange chunkCutsSpec)) chunkCutsCard

/-- THE TIED CARD OF 'munimentlaw07.ChunkChecks'. -/
def chunkChecksCard : Claim7 := { stood := { row := chunkChecksRow, standIns := [], harness := (true, "5dfb95eeaebf22da4816113a651050f13d2ccada7c88f46de8e72c8d40643143"), looks := false }, kinds := [], alts := [], laidByText := true, laidKinds := [.data, .data], laidTests := true, laidLooks := .later }
def ChunkChecksCardSaid : Prop := Claim7.holds Tryd.pinned (.plain (OpenSpec.ofChange chunkChecksSpec)) chunkChecksCard

/-- THE TIED CARD OF 'munimentlaw07.ChunkWhole'. -/
def chunkWholeCard : Claim7 := { stood := { row := chunkWholeRow, standIns := [], harness := (true, "5dfb95eeaebf22da4816113a651050f13d2ccada7c88f46de8e72c8d40643143"), looks := false }, kinds := [], alts := [], laidByText := true, laidKinds := [.data, .data], laidTests := true, laidLooks := .later }
def ChunkWholeCardSaid : Prop := Claim7.holds Tryd.pinned (.plain (OpenSpec.ofChange chunkWholeSpec)) chunkWholeCard

/-- THE TIED CARD OF 'munimentlaw07.ChunkBinds'. -/
def chunkBindsCard : Claim7 := { stood := { row := chunkBindsRow, standIns := [], harness := (true, "5dfb95eeaebf22da4816113a651050f13d2ccada7c88f46de8e72c8d40643143"), looks := false }, kinds := [], alts := [], laidByText := true, laidKinds := [.data, .data], laidTests := true, laidLooks := .later }
def ChunkBindsCardSaid : Prop := Claim7.holds Tryd.pinned (.plain (OpenSpec.ofChange chunkBindsSpec)) chunkBindsCard

/-- THE SECOND FORM's CARD OF 'munimentlaw06.VerifyGrows'. -/
def verifyGrowsUptoCard : Claim7 := { stood := { row := verifyGrowsUptoRow, standIns := [], harness := (true, "5dfb95eeaebf22da4816113a651050f13d2ccada7c88f46de8e72c8d40643143"), looks := false }, kinds := [], alts := [], laidByText := true, laidKinds := [.data, .data], laidTests := true, laidLooks := .later }
def VerifyGrowsUptoCardSaid : Prop := Claim7.holds Tryd.pinned (.plain (OpenSpec.upto verifyGrowsSpec)) verifyGrowsUptoCard

/-- THE SECOND FORM's CARD OF 'munimentlaw07.ChunkCuts'. -/
def chunkCutsUptoCard : Claim7 := { stood := { row := chunkCutsUptoRow, standIns := [], harness := (true, "5dfb95eeaebf22da4816113a651050f13d2ccada7c88f46de8e72c8d40643143"), looks := false }, kinds := [], alts := [], laidByText := true, laidKinds := [.data, .data], laidTests := true, laidLooks := .later }
def ChunkCutsUptoCardSaid : Prop := Claim7.holds Tryd.pinned (.plain (OpenSpec.upto chunkCutsSpec)) chunkCutsUptoCard

/-- THE SECOND FORM's CARD OF 'munimentlaw07.ChunkChecks'. -/
def chunkChecksUptoCard : Claim7 := { stood := { row := chunkChecksUptoRow, standIns := [], harness := (true, "5dfb95eeaebf22da4816113a651050f13d2ccada7c88f46de8e72c8d40643143"), looks := false }, kinds := [], alts := [], laidByText := true, laidKinds := [.data, .data], laidTests := true, laidLooks := .later }
def ChunkChecksUptoCardSaid : Prop := Claim7.holds Tryd.pinned (.plain (OpenSpec.upto chunkChecksSpec)) chunkChecksUptoCard

/-- THE SECOND FORM's CARD OF 'munimentlaw07.ChunkWhole'. -/
def chunkWholeUptoCard : Claim7 := { stood := { row := chunkWholeUptoRow, standIns := [], harness := (true, "5dfb95eeaebf22da4816113a651050f13d2ccada7c88f46de8e72c8d40643143"), looks := false }, kinds := [], alts := [], laidByText := true, laidKinds := [.data, .data], laidTests := true, laidLooks := .later }
def ChunkWholeUptoCardSaid : Prop := Claim7.holds Tryd.pinned (.plain (OpenSpec.upto chunkWholeSpec)) chunkWholeUptoCard

/-- THE SECOND FORM's CARD OF 'munimentlaw07.ChunkBinds'. -/
def chunkBindsUptoCard : Claim7 := { stood := { row := chunkBindsUptoRow, standIns := [], harness := (true, "5dfb95eeaebf22da4816113a651050f13d2ccada7c88f46de8e72c8d40643143"), looks := false }, kinds := [], alts := [], laidByText := true, laidKinds := [.data, .data], laidTests := true, laidLooks := .later }
def ChunkBindsUptoCardSaid : Prop := Claim7.holds Tryd.pinned (.plain (OpenSpec.upto chunkBindsSpec)) chunkBindsUptoCard
end Rows
end Go.Proofs.YtfnncccioipjcaaDoor

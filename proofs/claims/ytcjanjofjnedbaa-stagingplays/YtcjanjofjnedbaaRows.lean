/-
  No cell of these rows narrows 'for every input' (looked for: loops, veiled, ifaces, maps, wideKeys, modest, calm, conditions, laid).
  DERIVED. THE GIVEN ROWS OF THIS SEAT. 3 by the template 'for every input the law returns true; each argument reads behind the call as it read before'; 0 by the template 'total and deterministic' (their statements: YtcjanjofjnedbaaTotals.lean).
  GIVEN WITH THE SEED: the statements are not yours to turn. If you find one false, say at which input.
  Laid BY PROGRAM, IN A SANDBOX (cutbox-rows.mjs): the forced cells as the released guide's own fill.sh prints them over the translation 2d892498ca4c0d72… (all of the seat's roots in one cut). By AI agents, Wed Nov 11 2026. No macro, syntax, notation, axiom, sorry.
-/
import Derived.Test.YtcjanjofjnedbaaChecked
import GoSem.Claim
import GoSem.ClaimJoined
import GoSem.ClaimMapViews
import Derived.JoinedTies
import Derived.KernelRfl
namespace Go.Proofs.Ytcjanjofjnedbaa
/- THE CELL 'sum', in the pinned program and in every row, IS THE sha256 OF THE DUMP (.gsa) THAT YtcjanjofjnedbaaProg.lean LOADS. Nothing in Lean hashes anything: it is a label: what it is worth is what the hold of that sum in a sandbox is worth. -/
noncomputable def Try.pinned : Pinned := { name := "ytcjanjofjnedbaa", sum := "2d892498ca4c0d7252560ada70f2fcf73ee887e3799e115c2b2bc85a8d131c22", checked := Try.checked }
namespace Rows
def none {H : Type} : Left H := { results := [], args := [] }

/-- 'munimentlaw13.StagingPlays': WHATEVER THE INPUT: true; the input reads as it did. -/
def stagingPlaysSpec : ChangeSpec := { name := "stagingPlays", fn := fun _ => fun
  | [d] => { results := [.lit (.bool true)], args := [d] }
  | _ => none }
def stagingPlaysRow : OpenClaim := { program := "ytcjanjofjnedbaa", sum := "2d892498ca4c0d7252560ada70f2fcf73ee887e3799e115c2b2bc85a8d131c22", func := "muniment/munimentlaw13.StagingPlays", spec := "stagingPlays", apart := false }
def StagingPlaysSaid : Prop := stagingPlaysRow.holds Try.pinned (OpenSpec.ofChange stagingPlaysSpec)

/-- ITS FALSE NEIGHBOUR: 'it returns false'. Refute it at one input. -/
def stagingPlaysWrong : ChangeSpec := { name := "stagingPlays", fn := fun _ => fun
  | [d] => { results := [.lit (.bool false)], args := [d] }
  | _ => none }
def StagingPlaysWrongFalsely : Prop := stagingPlaysRow.holds Try.pinned (OpenSpec.ofChange stagingPlaysWrong)

/-- 'munimentlaw13.StagingApart': WHATEVER THE INPUT: true; the input reads as it did. -/
def stagingApartSpec : ChangeSpec := { name := "stagingApart", fn := fun _ => fun
  | [d1, d2] => { results := [.lit (.bool true)], args := [d1, d2] }
  | _ => none }
def stagingApartRow : OpenClaim := { program := "ytcjanjofjnedbaa", sum := "2d892498ca4c0d7252560ada70f2fcf73ee887e3799e115c2b2bc85a8d131c22", func := "muniment/munimentlaw13.StagingApart", spec := "stagingApart", apart := false }
def StagingApartSaid : Prop := stagingApartRow.holds Try.pinned (OpenSpec.ofChange stagingApartSpec)

/-- ITS FALSE NEIGHBOUR: 'it returns false'. Refute it at one input. -/
def stagingApartWrong : ChangeSpec := { name := "stagingApart", fn := fun _ => fun
  | [d1, d2] => { results := [.lit (.bool false)], args := [d1, d2] }
  | _ => none }
def StagingApartWrongFalsely : Prop := stagingApartRow.holds Try.pinned (OpenSpec.ofChange stagingApartWrong)

/-- 'munimentlaw13.StagingNumbers': WHATEVER THE INPUT: true; the input reads as it did. -/
def stagingNumbersSpec : ChangeSpec := { name := "stagingNumbers", fn := fun _ => fun
  | [d] => { results := [.lit (.bool true)], args := [d] }
  | _ => none }
def stagingNumbersRow : OpenClaim := { program := "ytcjanjofjnedbaa", sum := "2d892498ca4c0d7252560ada70f2fcf73ee887e3799e115c2b2bc85a8d131c22", func := "muniment/munimentlaw13.StagingNumbers", spec := "stagingNumbers", apart := false }
def StagingNumbersSaid : Prop := stagingNumbersRow.holds Try.pinned (OpenSpec.ofChange stagingNumbersSpec)

/-- ITS FALSE NEIGHBOUR: 'it returns false'. Refute it at one input. -/
def stagingNumbersWrong : ChangeSpec := { name := "stagingNumbers", fn := fun _ => fun
  | [d] => { results := [.lit (.bool false)], args := [d] }
  | _ => none }
def StagingNumbersWrongFalsely : Prop := stagingNumbersRow.holds Try.pinned (OpenSpec.ofChange stagingNumbersWrong)

/- THE SECOND FORM. 'bulk': how many values and letters a reading holds, each counted each time it is reached (what is shared counts as often as it is met; a slice's spare places count too). A statement '..UptoSaid' is the law's where the arguments, and the package variables that the reading takes, are together of bulk at most 1048576: NARROWER than '..Said'. Prove '..Said' where nothing that the law and all that it calls make is longer than what came in: it says more and counts as full. Else prove '..UptoSaid'. A law counts once. -/
mutual
def uptoBulk {H : Type} : DataW H → Nat
  | .lit (.string bytes) => bytes.length + 1
  | .lit _ => 1
  | .nil => 1
  | .ptr d => uptoBulk d + 1
  | .slice elems spare => uptoBulkAll elems + uptoBulkAll spare + 1
  | .agg parts => uptoBulkAll parts + 1
  | .iface _ d => uptoBulk d + 1
  | .map entries => uptoBulkEntries entries + 1
  | .held _ => 1
def uptoBulkAll {H : Type} : List (DataW H) → Nat
  | [] => 0
  | d :: r => uptoBulk d + uptoBulkAll r
def uptoBulkEntries {H : Type} : List (Lit × DataW H) → Nat
  | [] => 0
  | x :: r => uptoBulkEntry x + uptoBulkEntries r
def uptoBulkEntry {H : Type} : Lit × DataW H → Nat
  | (.string bytes, d) => bytes.length + uptoBulk d + 1
  | (_, d) => uptoBulk d + 1
 end
def uptoSmall : (H : Type) → List (DataW H) → Bool := fun _ ds => decide (uptoBulkAll ds ≤ 1048576)
def OpenSpec.upto (s : _root_.Go.ChangeSpec) : _root_.Go.OpenSpec := { _root_.Go.OpenSpec.ofChange s with cond := some uptoSmall }

/-- 'munimentlaw13.StagingPlays', WHERE WHAT IT READS IS OF BULK AT MOST 1048576: true; the input reads as it did. -/
def stagingPlaysUptoRow : OpenClaim := { program := "ytcjanjofjnedbaa", sum := "2d892498ca4c0d7252560ada70f2fcf73ee887e3799e115c2b2bc85a8d131c22", func := "muniment/munimentlaw13.StagingPlays", spec := "stagingPlays", apart := false, narrowed := true }
def StagingPlaysUptoSaid : Prop := stagingPlaysUptoRow.holds Try.pinned (OpenSpec.upto stagingPlaysSpec)

/-- 'munimentlaw13.StagingApart', WHERE WHAT IT READS IS OF BULK AT MOST 1048576: true; the input reads as it did. -/
def stagingApartUptoRow : OpenClaim := { program := "ytcjanjofjnedbaa", sum := "2d892498ca4c0d7252560ada70f2fcf73ee887e3799e115c2b2bc85a8d131c22", func := "muniment/munimentlaw13.StagingApart", spec := "stagingApart", apart := false, narrowed := true }
def StagingApartUptoSaid : Prop := stagingApartUptoRow.holds Try.pinned (OpenSpec.upto stagingApartSpec)

/-- 'munimentlaw13.StagingNumbers', WHERE WHAT IT READS IS OF BULK AT MOST 1048576: true; the input reads as it did. -/
def stagingNumbersUptoRow : OpenClaim := { program := "ytcjanjofjnedbaa", sum := "2d892498ca4c0d7252560ada70f2fcf73ee887e3799e115c2b2bc85a8d131c22", func := "muniment/munimentlaw13.StagingNumbers", spec := "stagingNumbers", apart := false, narrowed := true }
def StagingNumbersUptoSaid : Prop := stagingNumbersUptoRow.holds Try.pinned (OpenSpec.upto stagingNumbersSpec)

end Rows
end Go.Proofs.Ytcjanjofjnedbaa

/- Slices of bytes in memory: what a slice value holds, what the call owns; the laws of len, cutting, append, make, copy, index for such values. -/
import Derived.Test.YtkpnflgnhhfjoaaDoorZ11
import Derived.Test.YtkpnflgnhhfjoaaDoorZ12
import Derived.Laws.CopyOwn
import Derived.Laws.BytesArg
namespace Go.Proofs.YtkpnflgnhhfjoaaDoor.Fr
open Go.RowKit

/-- a slice value that holds just these bytes -/
def SliceIn (w : World) (v : Value) (cs : List Nat) : Prop :=
  ∃ p cap, v = .slice p cs.length cap ∧ (cs.length ≤ cap ∧ cs.length ≤ 9223372036854775807) ∧ (cs = [] ∨ ∃ b off, p = some ⟨b, off, none⟩ ∧ BytesIn w b off cs)
/-- bytes as cells -/
def bcells (cs : List Nat) : List Value := cs.map fun c => Value.int .u8 (c : Nat)
/-- bytes that the call has made, in a block from base on that is this slice's alone -/
def BOwn (w : World) (base : Nat) (v : Value) (cs : List Nat) : Prop := w.ownsRow base 5 1 v cs.length (bcells cs)

theorem TabIn.later {w wx : World} (hb : Below w.heap.size w wx) (h : TabIn w) : TabIn wx := fun r => cell_later hb (h r)
/-! cutting -/
/-- which cut it is -/
def SubOf (lo hi mx : Option Value) (n l h : Nat) : Prop :=
  ((lo = none ∧ l = 0) ∨ ∃ L : Int, lo = some (.int .i64 L) ∧ L = (l : Int)) ∧ ((hi = none ∧ mx = none ∧ h = n) ∨ ∃ H : Int, hi = some (.int .i64 H) ∧ H = (h : Int) ∧ (mx = none ∨ mx = some (.int .i64 H))) ∧ l ≤ h ∧ h ≤ n

section
variable {w : World} {ops : Array Oper} {rest : List Oper} {o : Oper} {a : Act} {Q : Exit → Act → World → Prop}
end
end Go.Proofs.YtkpnflgnhhfjoaaDoor.Fr

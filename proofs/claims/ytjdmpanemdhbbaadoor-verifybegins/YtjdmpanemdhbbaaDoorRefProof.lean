/- The document's proofs: proof, Inclusion, part, Consistency. -/
import Derived.Test.YtjdmpanemdhbbaaDoorVars
namespace Go.Proofs.YtjdmpanemdhbbaaDoor
open Go.RowKit

section
variable {w : World} {ops : Array Oper} {rest : List Oper} {o : Oper} {a : Act} {Q : Exit → Act → World → Prop}
theorem wl_lit1o (x : Operand) (hgd : Region.wanted o (yielded ops a.tmps) = true) (ho : o.op = .buildSlice 24 1 #[(0, x)]) (h' : List Nat) (hh : IsH h') (hx : a.eval x = hv h') (base : Nat) (hb : base ≤ w.heap.size)
    (h : ∀ v' w', HOwn w' base v' [h'] → Below w.heap.size w w' → wpList Tryd.prog ops Q rest (a.put o.dst v') w') : wpList Tryd.prog ops Q (o :: rest) a w :=
  wl hgd _ _ (rx_lit1 x ho h' hh hx) (h _ _ (hlit_own w base hb [h'] (AllH.one hh) (by simp)) (below_alloc w _))
end
theorem incl_short (hs : List (List Nat)) (m : Nat) (h : hs.length ≤ 1099511627776) : (Tree.incl hs m).length ≤ 40 := Tree.incl_length 40 hs m h
theorem part_short (hs : List (List Nat)) (m : Nat) (b : Bool) (h : hs.length ≤ 1099511627776) : (Tree.part hs m b).length ≤ 41 := Tree.part_length 40 hs m b h
end Go.Proofs.YtjdmpanemdhbbaaDoor

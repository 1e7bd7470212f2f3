/- The walk of Plant.allWaiting: all writes that wait, in their one order. -/
import Derived.Test.YtpkkkkomdblpoaaDoorP12


namespace Go.Proofs.YtpkkkkomdblpoaaDoor
open Go.RowKit Go.Maps Go.Sort Go.Lib
section
variable {w w':World} {c:Nat→Colour} {t g db cap:Nat} {gs:Nat→Nat} {m:Pl}
end
section
variable {w:World} {ops:Array Oper} {rest:List Oper} {o:Oper} {a:Act} {Q:Exit→Act→World→Prop}
end
theorem ownsRow_below {w w':World} {B e n k:Nat} {v:Value} {xs:List Value} (h:w.ownsRow B e n v k xs) (hb:RowKit.Below w.heap.size w w'):w'.ownsRow B e n v k xs:=by
 obtain ⟨hl,h⟩:=h
 refine ⟨hl,?_⟩
 rcases h with ⟨rfl,h⟩|⟨g,cap,cur,rfl,h0,hg,h⟩
 ·exact Or.inl ⟨rfl,h⟩
 ·exact Or.inr ⟨g,cap,cur,rfl,h0,(hb.block g (Array.getElem?_eq_some_iff.1 hg).1).trans hg,h⟩
end Go.Proofs.YtpkkkkomdblpoaaDoor



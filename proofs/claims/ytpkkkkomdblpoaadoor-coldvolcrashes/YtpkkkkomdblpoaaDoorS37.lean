/- Layer 15: the document's volume: Append. -/
import Derived.Test.YtpkkkkomdblpoaaDoorS36
namespace Go.Proofs.YtpkkkkomdblpoaaDoor
open Go.RowKit Go.Maps
open Cold
theorem sz4p:(Tryd.prog.info? 4).map (·.size)=some 1:=by kernel_rfl
section
variable {B t gv:Nat} {c:Nat→Colour} {W W':World} {v vL:Value} {l:List Td} {gy d most len:Nat} {sd:Bool}
theorem sbNew {bs:List Nat} (h:BOwn W B v bs) (h2:∀x∈bs,x<256) (h3:bs.length≤9223372036854775807) (hn:∀b,B≤b→b<W.heap.size→Out t gv c W b):Sb t gv c W v bs :=
 ⟨BOwn.slice h h2 h3,Or.inr fun b e=>by have k:=hn b (h.lt b e).1 (h.lt b e).2;exact ⟨k.1,k.2.1,k.2.2.1⟩⟩
end
end Go.Proofs.YtpkkkkomdblpoaaDoor





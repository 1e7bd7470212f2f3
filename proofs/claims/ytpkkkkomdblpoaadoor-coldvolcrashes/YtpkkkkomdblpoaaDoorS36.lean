/- Layer 15: the document's volume: Read. -/
import Derived.Test.YtpkkkkomdblpoaaDoorS35
namespace Go.Proofs.YtpkkkkomdblpoaaDoor
open Go.RowKit Go.Maps
open Cold
theorem run_bappU {w:World} (base:Nat) (v vx:Value) (cs ys:List Nat) (hown:BOwn w base v cs) (hin:yA2 w vx ys) (hsz:cs.length+ys.length≤140737488355328) (hbase:base≤w.heap.size) :
  ∃v' w',(∀ty,(Builtin.append_ #[38,38] ty #[v,vx]).run Tryd.prog w = .ok v' w')∧BOwn w' base v' (cs++ys)∧Below base w w':=by
 obtain ⟨v',w',hr,ho,hg⟩:=run_bappend base 0 v vx cs ys hown hin hsz hbase
 exact ⟨v',w',fun ty=>hr,ho,hown.belowG hg hbase⟩
end Go.Proofs.YtpkkkkomdblpoaaDoor

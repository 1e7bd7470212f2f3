/- Layer 15: the law of two tapes. -/
import Derived.Test.YtpkkkkomdblpoaaDoorP33
namespace Go.Proofs.YtpkkkkomdblpoaaDoor
open Go.RowKit Go.Maps
open Cold
theorem wide_osA (os:List Ob) (id bs:List Nat) (er:Int):wide (osA os id bs er)=wide os+(if er=0 then nb bs.length else 0):=by
 unfold osA
 by_cases q:er=0
 ·rw [if_pos q,if_pos q,wide_append];simp [wide]
 ·rw [if_neg q,if_neg q];rfl
end Go.Proofs.YtpkkkkomdblpoaaDoor

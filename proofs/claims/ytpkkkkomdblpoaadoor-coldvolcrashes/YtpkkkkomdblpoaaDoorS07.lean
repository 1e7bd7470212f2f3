/- The greatest power of two below a number: tree.split over math/bits.Len, and the document's half. -/
import Derived.Test.YtpkkkkomdblpoaaDoorChecked
import Derived.Lib.Strings
import Derived.Lib.Slices
import Derived.Lib.Small
import Derived.Lib.Walk
import Derived.Lib.BitFns
namespace Go.Proofs.YtpkkkkomdblpoaaDoor.Sh
theorem bitLen_log2:∀(n x:Nat),x<n→x≠0→x<2 ^ 64→Lib.bitLen x=Nat.log2 x+1:=by
 intro n
 induction n with
 | zero=>intro x h;omega
 | succ n ih =>
  intro x h h0 hx
  rw [Lib.bitLen_half x h0 hx]
  by_cases h1:x=1
  ·subst h1
   decide
  ·rw [ih (x / 2) (by omega) (by omega) (by omega)]
   conv=>rhs;rw [Nat.log2_def]
   rw [if_pos (by omega)]
   omega
set_option maxHeartbeats 4000000 in
set_option maxRecDepth 100000 in
theorem len64_any (x:Int) (w:World) (h0:0≤x) (h1:x≤18446744073709551615) :
  Calls Tryd.prog 113 #[.int .u64 x] w fun e w'=>e = .returned (.int .i64 (Lib.bitLen x.toNat))∧w'=w:=by
 go_enter Tryd.func113,Tryd.ntmps113
 go_wp2
 all_goals (go_ret;refine ⟨congrArg Ending.returned (congrArg (Value.int IntKind.i64) ?_),rfl⟩)
 all_goals first
  | (rw [Lib.len8_of (x / 4294967296 / 65536 / 256 % 256) (by omega) (by omega)];have e:(x / 4294967296 / 65536 / 256 % 256).toNat=x.toNat / 72057594037927936:=(by omega);have l:=Lib.bitLen_le8' (x / 4294967296 / 65536 / 256 % 256) (by omega) (by omega);have s:=Lib.bitLen_shift56 x.toNat (by omega) (by omega);rw [e] at l ⊢;omega)
  | (rw [Lib.len8_of (x / 4294967296 / 65536 % 256) (by omega) (by omega)];have e:(x / 4294967296 / 65536 % 256).toNat=x.toNat / 281474976710656:=(by omega);have l:=Lib.bitLen_le8' (x / 4294967296 / 65536 % 256) (by omega) (by omega);have s:=Lib.bitLen_shift48 x.toNat (by omega) (by omega);rw [e] at l ⊢;omega)
  | (rw [Lib.len8_of (x / 4294967296 / 256 % 256) (by omega) (by omega)];have e:(x / 4294967296 / 256 % 256).toNat=x.toNat / 1099511627776:=(by omega);have l:=Lib.bitLen_le8' (x / 4294967296 / 256 % 256) (by omega) (by omega);have s:=Lib.bitLen_shift40 x.toNat (by omega) (by omega);rw [e] at l ⊢;omega)
  | (rw [Lib.len8_of (x / 4294967296 % 256) (by omega) (by omega)];have e:(x / 4294967296 % 256).toNat=x.toNat / 4294967296:=(by omega);have l:=Lib.bitLen_le8' (x / 4294967296 % 256) (by omega) (by omega);have s:=Lib.bitLen_shift32 x.toNat (by omega) (by omega);rw [e] at l ⊢;omega)
  | (rw [Lib.len8_of (x / 65536 / 256 % 256) (by omega) (by omega)];have e:(x / 65536 / 256 % 256).toNat=x.toNat / 16777216:=(by omega);have l:=Lib.bitLen_le8' (x / 65536 / 256 % 256) (by omega) (by omega);have s:=Lib.bitLen_shift24 x.toNat (by omega) (by omega);rw [e] at l ⊢;omega)
  | (rw [Lib.len8_of (x / 65536 % 256) (by omega) (by omega)];have e:(x / 65536 % 256).toNat=x.toNat / 65536:=(by omega);have l:=Lib.bitLen_le8' (x / 65536 % 256) (by omega) (by omega);have s:=Lib.bitLen_shift16 x.toNat (by omega) (by omega);rw [e] at l ⊢;omega)
  | (rw [Lib.len8_of (x / 256 % 256) (by omega) (by omega)];have e:(x / 256 % 256).toNat=x.toNat / 256:=(by omega);have l:=Lib.bitLen_le8' (x / 256 % 256) (by omega) (by omega);have s:=Lib.bitLen_shift8 x.toNat (by omega) (by omega);rw [e] at l ⊢;omega)
  | (rw [Lib.len8_of (x % 256) (by omega) (by omega)];have e:(x % 256).toNat=x.toNat:=(by omega);have l:=Lib.bitLen_le8' (x % 256) (by omega) (by omega);rw [e] at l ⊢;omega)
set_option maxHeartbeats 400000 in
theorem len_any (x:Int) (w:World) (h0:0≤x) (h1:x≤18446744073709551615) :
  Calls Tryd.prog 91 #[.int .u64 x] w fun e w'=>e = .returned (.int .i64 (Lib.bitLen x.toNat))∧w'=w:=by
 go_enter Tryd.func91,Tryd.ntmps91
 go_wp2_with (go_at_call 113;refine (len64_any x _ h0 h1).mono ?_;rintro e w' ⟨rfl,rfl⟩)
 go_ret
 exact ⟨rfl,rfl⟩
end Go.Proofs.YtpkkkkomdblpoaaDoor.Sh

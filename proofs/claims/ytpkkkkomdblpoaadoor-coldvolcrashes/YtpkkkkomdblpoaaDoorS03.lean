/- Plain mathematics of SHA-256 (no program): schedule, rounds, pieces, padding; bytes that come in pieces. Plain mathematics of trees of hashes (no program): roots, proofs, and the roots of the full trees that leaves make when they come one by one. Bytes cut into chunks of 64, plainly: how many, each of them, all together. Words of 32 bits as the walk writes them. The turned word: bits.RotateLeft32, sha.rot and the document's rot, at each number of bits that is asked for. Blocks that are known whole, and the operations that read and write them whole: arrays and structs. A drawn region whose first n operations are quiet in a class of worlds and whose other operations wait for all of them and for one another: one walk in the order of the text serves every order. (The two laws of the library on the quiet walk and on the forced end, put together.) The document's constant(t) and word(b, at). -/
import Derived.Laws.BitsAllLaws
import Derived.Test.YtpkkkkomdblpoaaDoorRows
import Derived.WalkKit
import Derived.WalkSpells
import Derived.WalkLawsBesides
import Derived.BigQuiet
import Derived.Deep.QuietTactic
import Derived.Laws.CopyOwn
import Derived.Laws.Cells
import Derived.StillTail
import Derived.Lib.QuietBelow
namespace Go.Proofs.YtpkkkkomdblpoaaDoor.Sh
namespace Sha
def rot (x:BitVec 32) (n:Nat):BitVec 32:=x >>> n ||| x <<< (32 - n)
def sm0 (x:BitVec 32):BitVec 32:=rot x 7 ^^^ rot x 18 ^^^ x >>> 3
def sm1 (x:BitVec 32):BitVec 32:=rot x 17 ^^^ rot x 19 ^^^ x >>> 10
def bg0 (x:BitVec 32):BitVec 32:=rot x 2 ^^^ rot x 13 ^^^ rot x 22
def bg1 (x:BitVec 32):BitVec 32:=rot x 6 ^^^ rot x 11 ^^^ rot x 25
def ch (x y z:BitVec 32):BitVec 32:=(x &&& y) ^^^ (~~~ x &&& z)
def maj (x y z:BitVec 32):BitVec 32:=(x &&& y) ^^^ (x &&& z) ^^^ (y &&& z)
def kNat:List Nat:=[
 1116352408,1899447441,3049323471,3921009573,961987163,1508970993,2453635748,2870763221,
 3624381080,310598401,607225278,1426881987,1925078388,2162078206,2614888103,3248222580,
 3835390401,4022224774,264347078,604807628,770255983,1249150122,1555081692,1996064986,
 2554220882,2821834349,2952996808,3210313671,3336571891,3584528711,113926993,338241895,
 666307205,773529912,1294757372,1396182291,1695183700,1986661051,2177026350,2456956037,
 2730485921,2820302411,3259730800,3345764771,3516065817,3600352804,4094571909,275423344,
 430227734,506948616,659060556,883997877,958139571,1322822218,1537002063,1747873779,
 1955562222,2024104815,2227730452,2361852424,2428436474,2756734187,3204031479,3329325298]
def kAt (t:Nat):BitVec 32:=BitVec.ofNat 32 (kNat.getD t 0)
def word4 (a b c d:Nat):BitVec 32:=BitVec.ofNat 32 a <<< 24 ||| BitVec.ofNat 32 b <<< 16 ||| BitVec.ofNat 32 c <<< 8 ||| BitVec.ofNat 32 d
def wordAt (p:List Nat) (t:Nat):BitVec 32:=word4 (p.getD (4 * t) 0) (p.getD (4 * t+1) 0) (p.getD (4 * t+2) 0) (p.getD (4 * t+3) 0)
def nextW (p:List Nat) (ws:List (BitVec 32)) (t:Nat):BitVec 32 :=
 if t<16 then wordAt p t else sm1 (ws.getD (t - 2) 0)+ws.getD (t - 7) 0+sm0 (ws.getD (t - 15) 0)+ws.getD (t - 16) 0
def sched (p:List Nat):Nat→List (BitVec 32)
 | 0=>[]
 | t+1=>sched p t++[nextW p (sched p t) t]
theorem yE5 (p:List Nat) (t:Nat):(sched p t).length=t:=by
 induction t with
 | zero=>rfl
 | succ t ih=>simp [sched,ih]
theorem sched_low (p:List Nat) (t:Nat) (h:t<16):sched p (t+1)=sched p t++[wordAt p t]:=by
 simp [sched,nextW,h]
theorem sched_high (p:List Nat) (t:Nat) (h:16≤t):sched p (t+1)=sched p t++[sm1 ((sched p t).getD (t - 2) 0)+(sched p t).getD (t - 7) 0+sm0 ((sched p t).getD (t - 15) 0)+(sched p t).getD (t - 16) 0]:=by
 have:¬ t<16:=by omega
 simp [sched,nextW,this]
structure W8 where
 a:BitVec 32
 b:BitVec 32
 c:BitVec 32
 d:BitVec 32
 e:BitVec 32
 f:BitVec 32
 g:BitVec 32
 h:BitVec 32
def W8.list (v:W8):List (BitVec 32):=[v.a,v.b,v.c,v.d,v.e,v.f,v.g,v.h]
theorem W8.list_length (v:W8):v.list.length=8:=rfl
def t1 (v:W8) (k w:BitVec 32):BitVec 32:=v.h+bg1 v.e+ch v.e v.f v.g+k+w
def t2 (v:W8):BitVec 32:=bg0 v.a+maj v.a v.b v.c
def rnd (v:W8) (k w:BitVec 32):W8:=⟨t1 v k w+t2 v,v.a,v.b,v.c,v.d+t1 v k w,v.e,v.f,v.g⟩
def rnds (p:List Nat) (v:W8):Nat→W8
 | 0=>v
 | t+1=>rnd (rnds p v t) (kAt t) ((sched p 64).getD t 0)
def add8 (x y:W8):W8:=⟨x.a+y.a,x.b+y.b,x.c+y.c,x.d+y.d,x.e+y.e,x.f+y.f,x.g+y.g,x.h+y.h⟩
def comp (h:W8) (p:List Nat):W8:=add8 h (rnds p h 64)
def runB (bs:List Nat):Nat→W8→W8
 | 0,h=>h
 | k+1,h=>comp (runB bs k h) ((bs.drop (64 * k)).take 64)
def start:W8:=⟨1779033703#32,3144134277#32,1013904242#32,2773480762#32,1359893119#32,2600822924#32,528734635#32,1541459225#32⟩
def full (bs:List Nat):W8:=runB bs (bs.length / 64) start
theorem runB_append (bs cs:List Nat) (k:Nat) (hk:64 * k≤bs.length) (h:W8):runB (bs++cs) k h=runB bs k h:=by
 induction k with
 | zero=>rfl
 | succ k ih =>
  rw [runB,runB,ih (by omega)]
  congr 1
  rw [List.drop_append_of_le_length (by omega),List.take_append_of_le_length (by simp;omega)]
theorem full_same (m c:List Nat) (h:m.length % 64+c.length<64):full (m++c)=full m:=by
 unfold full
 have e:(m++c).length / 64=m.length / 64:=by simp;omega
 rw [e,runB_append _ _ _ (by omega)]
theorem full_next (m c:List Nat) (h:m.length % 64+c.length=64):full (m++c)=comp (full m) (m.drop (64 * (m.length / 64))++c):=by
 unfold full
 have e:(m++c).length / 64=m.length / 64+1:=by simp;omega
 rw [e,runB,runB_append _ _ _ (by omega)]
 congr 1
 rw [List.drop_append_of_le_length (by omega),List.take_of_length_le (by simp;omega)]
def lenBytes (n:Nat):List Nat:=(List.range 8).map fun i=>n / 2 ^ (8 * (7 - i)) % 256
def zeros (n:Nat):Nat:=(119 - n % 64) % 64
def pad (n:Nat):List Nat:=128 :: (List.replicate (zeros n) 0++lenBytes (8 * n))
theorem pad_length (n:Nat):(pad n).length=zeros n+9:=by simp [pad,lenBytes]
def wordBytes (x:BitVec 32):List Nat:=[x.toNat / 16777216 % 256,x.toNat / 65536 % 256,x.toNat / 256 % 256,x.toNat % 256]
def outBytes (v:W8):List Nat:=v.list.flatMap wordBytes
def sha (m:List Nat):List Nat:=outBytes (full (m++pad m.length))
end Sha
end Go.Proofs.YtpkkkkomdblpoaaDoor.Sh

namespace Go.Proofs.YtpkkkkomdblpoaaDoor.Sh
namespace Tree
def leaf (b:List Nat):List Nat:=Sha.sha (0 :: b)
def node (l r:List Nat):List Nat:=Sha.sha (1 :: (l++r))
def half (n:Nat):Nat:=2 ^ Nat.log2 (n - 1)
theorem half_pos (n:Nat):0<half n:=Nat.pow_pos (by decide)
theorem half_lt (n:Nat) (h:2≤n):half n<n:=by
 have:=Nat.log2_self_le (n:=n - 1) (by omega)
 unfold half
 omega
def root (l:List (List Nat)):List Nat :=
 if _h0:l.length=0 then Sha.sha [] else if _h1:l.length=1 then l.getD 0 [] else node (root (l.take (half l.length))) (root (l.drop (half l.length)))
termination_by l.length
decreasing_by
 ·have:=half_lt l.length (by omega)
  simp only [List.length_take]
  omega
 ·have:=half_pos l.length
  simp only [List.length_drop]
  omega
theorem root_none (l:List (List Nat)) (h:l.length=0):root l=Sha.sha []:=by rw [root];simp [h]
theorem root_one (l:List (List Nat)) (h:l.length=1):root l=l.getD 0 []:=by rw [root];simp [h]
theorem root_two (l:List (List Nat)) (h:2≤l.length):root l=node (root (l.take (half l.length))) (root (l.drop (half l.length))):=by
 rw [root,dif_neg (by omega),dif_neg (by omega)]
end Tree
end Go.Proofs.YtpkkkkomdblpoaaDoor.Sh

namespace Go.Proofs.YtpkkkkomdblpoaaDoor.Sh
namespace Cut
def count (n:Nat):Nat:=(n+63) / 64
theorem lt_count (n i:Nat):i<count n ↔ i * 64<n:=by unfold count;omega
def piece (b:List Nat) (i:Nat):List Nat:=(b.drop (i * 64)).take 64
theorem piece_length (b:List Nat) (i:Nat):(piece b i).length=min 64 (b.length - i * 64):=by simp [piece]
theorem piece_le (b:List Nat) (i:Nat):(piece b i).length≤64:=by rw [piece_length];omega
def lvTo (b:List Nat) (k:Nat):List (List Nat):=(List.range k).map fun i=>Tree.leaf (piece b i)
theorem lvTo_length (b:List Nat) (k:Nat):(lvTo b k).length=k:=by simp [lvTo]
theorem lvTo_succ (b:List Nat) (k:Nat):lvTo b (k+1)=lvTo b k++[Tree.leaf (piece b k)]:=by simp [lvTo,List.range_succ]
def leaves (b:List Nat):List (List Nat):=lvTo b (count b.length)
theorem leaves_length (b:List Nat):(leaves b).length=count b.length:=lvTo_length _ _
def root (b:List Nat):List Nat:=Tree.root (leaves b)
end Cut
end Go.Proofs.YtpkkkkomdblpoaaDoor.Sh

namespace Go.Proofs.YtpkkkkomdblpoaaDoor.Sh
namespace Sha
def U (a:BitVec 32):Int:=(a.toNat:Int)
theorem U_xor (a b:BitVec 32):bits .xor .u32 (U a) (U b)=U (a ^^^ b):=by
 unfold U
 rw [u32_xor_nat _ _ a.isLt b.isLt,BitVec.toNat_xor]
theorem U_and (a b:BitVec 32):bits .and .u32 (U a) (U b)=U (a &&& b):=by
 unfold U
 rw [u32_and_nat _ _ a.isLt b.isLt,BitVec.toNat_and]
theorem U_or (a b:BitVec 32):bits .or .u32 (U a) (U b)=U (a ||| b):=by
 unfold U
 rw [u32_or_nat _ _ a.isLt b.isLt,BitVec.toNat_or]
theorem U_not (a:BitVec 32):bits .xor .u32 IntKind.u32.max (U a)=U (~~~ a):=by
 have e:IntKind.u32.max=U (BitVec.allOnes 32):=by decide
 rw [e,U_xor,BitVec.allOnes_xor]
theorem U_add (a b:BitVec 32):(U a+U b) % (4294967296:Int)=U (a+b):=by
 unfold U
 rw [BitVec.toNat_add]
 omega
theorem U_shr (a:BitVec 32) (n:Nat):U a / (2:Int) ^ n=U (a >>> n):=by
 unfold U
 rw [BitVec.toNat_ushiftRight,Nat.shiftRight_eq_div_pow,Int.natCast_ediv,Int.natCast_pow]
 rfl
theorem U_shl (a:BitVec 32) (n:Nat):(U a * (2:Int) ^ n) % (4294967296:Int)=U (a <<< n):=by
 unfold U
 rw [BitVec.toNat_shiftLeft,Nat.shiftLeft_eq]
 have:((a.toNat * 2 ^ n:Nat):Int)=(a.toNat:Int) * 2 ^ n:=by rw [Int.natCast_mul,Int.natCast_pow];rfl
 rw [←this]
 omega
theorem U_byte (c:Nat):((c:Int) % (4294967296:Int))=U (BitVec.ofNat 32 c):=by unfold U;rw [BitVec.toNat_ofNat];omega
end Sha
end Go.Proofs.YtpkkkkomdblpoaaDoor.Sh

namespace Go.Proofs.YtpkkkkomdblpoaaDoor.Sh
open Go.RowKit
theorem Sha.U_rotl (x:BitVec 32) (n:Nat):bits .or .u32 (Sha.U x * (2:Int) ^ (32 - n) % (4294967296:Int)) (Sha.U x / (2:Int) ^ n)=Sha.U (Sha.rot x n):=by
 rw [Sha.U_shr,Sha.U_shl,Sha.U_or,BitVec.or_comm]
 rfl
theorem and31_2:bits .and .u64 (IntKind.u64.wrap (-2)) 31=30:=by decide +kernel
set_option maxHeartbeats 400000 in
theorem rotl_2 (x:BitVec 32) (w:World) :
  Calls Tryd.prog 123 #[.int .u32 (Sha.U x),.int .i64 (-2)] w fun e w'=>e = .returned (.int .u32 (Sha.U (Sha.rot x 2)))∧w'=w:=by
 have h31:=and31_2
 go_enter Tryd.func123,Tryd.ntmps123
 go_wp2
 go_ret
 exact ⟨congrArg (fun z=>Ending.returned (.int .u32 z)) (Sha.U_rotl x 2),rfl⟩
set_option maxHeartbeats 400000 in
theorem srot_2 (x:BitVec 32) (w:World) :
  Calls Tryd.prog 115 #[.int .u32 (Sha.U x),.int .i64 2] w fun e w'=>e = .returned (.int .u32 (Sha.U (Sha.rot x 2)))∧w'=w:=by
 go_enter Tryd.func115,Tryd.ntmps115
 go_wp2_with fail
 refine (rotl_2 x _).mono ?_
 rintro e w' ⟨rfl,rfl⟩
 go_wp2
 go_ret
 exact ⟨rfl,rfl⟩
theorem and31_6:bits .and .u64 (IntKind.u64.wrap (-6)) 31=26:=by decide +kernel
set_option maxHeartbeats 400000 in
theorem rotl_6 (x:BitVec 32) (w:World) :
  Calls Tryd.prog 123 #[.int .u32 (Sha.U x),.int .i64 (-6)] w fun e w'=>e = .returned (.int .u32 (Sha.U (Sha.rot x 6)))∧w'=w:=by
 have h31:=and31_6
 go_enter Tryd.func123,Tryd.ntmps123
 go_wp2
 go_ret
 exact ⟨congrArg (fun z=>Ending.returned (.int .u32 z)) (Sha.U_rotl x 6),rfl⟩
set_option maxHeartbeats 400000 in
theorem srot_6 (x:BitVec 32) (w:World) :
  Calls Tryd.prog 115 #[.int .u32 (Sha.U x),.int .i64 6] w fun e w'=>e = .returned (.int .u32 (Sha.U (Sha.rot x 6)))∧w'=w:=by
 go_enter Tryd.func115,Tryd.ntmps115
 go_wp2_with fail
 refine (rotl_6 x _).mono ?_
 rintro e w' ⟨rfl,rfl⟩
 go_wp2
 go_ret
 exact ⟨rfl,rfl⟩
theorem and31_7:bits .and .u64 (IntKind.u64.wrap (-7)) 31=25:=by decide +kernel
set_option maxHeartbeats 400000 in
theorem rotl_7 (x:BitVec 32) (w:World) :
  Calls Tryd.prog 123 #[.int .u32 (Sha.U x),.int .i64 (-7)] w fun e w'=>e = .returned (.int .u32 (Sha.U (Sha.rot x 7)))∧w'=w:=by
 have h31:=and31_7
 go_enter Tryd.func123,Tryd.ntmps123
 go_wp2
 go_ret
 exact ⟨congrArg (fun z=>Ending.returned (.int .u32 z)) (Sha.U_rotl x 7),rfl⟩
set_option maxHeartbeats 400000 in
theorem srot_7 (x:BitVec 32) (w:World) :
  Calls Tryd.prog 115 #[.int .u32 (Sha.U x),.int .i64 7] w fun e w'=>e = .returned (.int .u32 (Sha.U (Sha.rot x 7)))∧w'=w:=by
 go_enter Tryd.func115,Tryd.ntmps115
 go_wp2_with fail
 refine (rotl_7 x _).mono ?_
 rintro e w' ⟨rfl,rfl⟩
 go_wp2
 go_ret
 exact ⟨rfl,rfl⟩
theorem and31_11:bits .and .u64 (IntKind.u64.wrap (-11)) 31=21:=by decide +kernel
set_option maxHeartbeats 400000 in
theorem rotl_11 (x:BitVec 32) (w:World) :
  Calls Tryd.prog 123 #[.int .u32 (Sha.U x),.int .i64 (-11)] w fun e w'=>e = .returned (.int .u32 (Sha.U (Sha.rot x 11)))∧w'=w:=by
 have h31:=and31_11
 go_enter Tryd.func123,Tryd.ntmps123
 go_wp2
 go_ret
 exact ⟨congrArg (fun z=>Ending.returned (.int .u32 z)) (Sha.U_rotl x 11),rfl⟩
set_option maxHeartbeats 400000 in
theorem srot_11 (x:BitVec 32) (w:World) :
  Calls Tryd.prog 115 #[.int .u32 (Sha.U x),.int .i64 11] w fun e w'=>e = .returned (.int .u32 (Sha.U (Sha.rot x 11)))∧w'=w:=by
 go_enter Tryd.func115,Tryd.ntmps115
 go_wp2_with fail
 refine (rotl_11 x _).mono ?_
 rintro e w' ⟨rfl,rfl⟩
 go_wp2
 go_ret
 exact ⟨rfl,rfl⟩
theorem and31_13:bits .and .u64 (IntKind.u64.wrap (-13)) 31=19:=by decide +kernel
set_option maxHeartbeats 400000 in
theorem rotl_13 (x:BitVec 32) (w:World) :
  Calls Tryd.prog 123 #[.int .u32 (Sha.U x),.int .i64 (-13)] w fun e w'=>e = .returned (.int .u32 (Sha.U (Sha.rot x 13)))∧w'=w:=by
 have h31:=and31_13
 go_enter Tryd.func123,Tryd.ntmps123
 go_wp2
 go_ret
 exact ⟨congrArg (fun z=>Ending.returned (.int .u32 z)) (Sha.U_rotl x 13),rfl⟩
set_option maxHeartbeats 400000 in
theorem srot_13 (x:BitVec 32) (w:World) :
  Calls Tryd.prog 115 #[.int .u32 (Sha.U x),.int .i64 13] w fun e w'=>e = .returned (.int .u32 (Sha.U (Sha.rot x 13)))∧w'=w:=by
 go_enter Tryd.func115,Tryd.ntmps115
 go_wp2_with fail
 refine (rotl_13 x _).mono ?_
 rintro e w' ⟨rfl,rfl⟩
 go_wp2
 go_ret
 exact ⟨rfl,rfl⟩
theorem and31_17:bits .and .u64 (IntKind.u64.wrap (-17)) 31=15:=by decide +kernel
set_option maxHeartbeats 400000 in
theorem rotl_17 (x:BitVec 32) (w:World) :
  Calls Tryd.prog 123 #[.int .u32 (Sha.U x),.int .i64 (-17)] w fun e w'=>e = .returned (.int .u32 (Sha.U (Sha.rot x 17)))∧w'=w:=by
 have h31:=and31_17
 go_enter Tryd.func123,Tryd.ntmps123
 go_wp2
 go_ret
 exact ⟨congrArg (fun z=>Ending.returned (.int .u32 z)) (Sha.U_rotl x 17),rfl⟩
set_option maxHeartbeats 400000 in
theorem srot_17 (x:BitVec 32) (w:World) :
  Calls Tryd.prog 115 #[.int .u32 (Sha.U x),.int .i64 17] w fun e w'=>e = .returned (.int .u32 (Sha.U (Sha.rot x 17)))∧w'=w:=by
 go_enter Tryd.func115,Tryd.ntmps115
 go_wp2_with fail
 refine (rotl_17 x _).mono ?_
 rintro e w' ⟨rfl,rfl⟩
 go_wp2
 go_ret
 exact ⟨rfl,rfl⟩
theorem and31_18:bits .and .u64 (IntKind.u64.wrap (-18)) 31=14:=by decide +kernel
set_option maxHeartbeats 400000 in
theorem rotl_18 (x:BitVec 32) (w:World) :
  Calls Tryd.prog 123 #[.int .u32 (Sha.U x),.int .i64 (-18)] w fun e w'=>e = .returned (.int .u32 (Sha.U (Sha.rot x 18)))∧w'=w:=by
 have h31:=and31_18
 go_enter Tryd.func123,Tryd.ntmps123
 go_wp2
 go_ret
 exact ⟨congrArg (fun z=>Ending.returned (.int .u32 z)) (Sha.U_rotl x 18),rfl⟩
set_option maxHeartbeats 400000 in
theorem srot_18 (x:BitVec 32) (w:World) :
  Calls Tryd.prog 115 #[.int .u32 (Sha.U x),.int .i64 18] w fun e w'=>e = .returned (.int .u32 (Sha.U (Sha.rot x 18)))∧w'=w:=by
 go_enter Tryd.func115,Tryd.ntmps115
 go_wp2_with fail
 refine (rotl_18 x _).mono ?_
 rintro e w' ⟨rfl,rfl⟩
 go_wp2
 go_ret
 exact ⟨rfl,rfl⟩
theorem and31_19:bits .and .u64 (IntKind.u64.wrap (-19)) 31=13:=by decide +kernel
set_option maxHeartbeats 400000 in
theorem rotl_19 (x:BitVec 32) (w:World) :
  Calls Tryd.prog 123 #[.int .u32 (Sha.U x),.int .i64 (-19)] w fun e w'=>e = .returned (.int .u32 (Sha.U (Sha.rot x 19)))∧w'=w:=by
 have h31:=and31_19
 go_enter Tryd.func123,Tryd.ntmps123
 go_wp2
 go_ret
 exact ⟨congrArg (fun z=>Ending.returned (.int .u32 z)) (Sha.U_rotl x 19),rfl⟩
set_option maxHeartbeats 400000 in
theorem srot_19 (x:BitVec 32) (w:World) :
  Calls Tryd.prog 115 #[.int .u32 (Sha.U x),.int .i64 19] w fun e w'=>e = .returned (.int .u32 (Sha.U (Sha.rot x 19)))∧w'=w:=by
 go_enter Tryd.func115,Tryd.ntmps115
 go_wp2_with fail
 refine (rotl_19 x _).mono ?_
 rintro e w' ⟨rfl,rfl⟩
 go_wp2
 go_ret
 exact ⟨rfl,rfl⟩
theorem and31_22:bits .and .u64 (IntKind.u64.wrap (-22)) 31=10:=by decide +kernel
set_option maxHeartbeats 400000 in
theorem rotl_22 (x:BitVec 32) (w:World) :
  Calls Tryd.prog 123 #[.int .u32 (Sha.U x),.int .i64 (-22)] w fun e w'=>e = .returned (.int .u32 (Sha.U (Sha.rot x 22)))∧w'=w:=by
 have h31:=and31_22
 go_enter Tryd.func123,Tryd.ntmps123
 go_wp2
 go_ret
 exact ⟨congrArg (fun z=>Ending.returned (.int .u32 z)) (Sha.U_rotl x 22),rfl⟩
set_option maxHeartbeats 400000 in
theorem srot_22 (x:BitVec 32) (w:World) :
  Calls Tryd.prog 115 #[.int .u32 (Sha.U x),.int .i64 22] w fun e w'=>e = .returned (.int .u32 (Sha.U (Sha.rot x 22)))∧w'=w:=by
 go_enter Tryd.func115,Tryd.ntmps115
 go_wp2_with fail
 refine (rotl_22 x _).mono ?_
 rintro e w' ⟨rfl,rfl⟩
 go_wp2
 go_ret
 exact ⟨rfl,rfl⟩
theorem and31_25:bits .and .u64 (IntKind.u64.wrap (-25)) 31=7:=by decide +kernel
set_option maxHeartbeats 400000 in
theorem rotl_25 (x:BitVec 32) (w:World) :
  Calls Tryd.prog 123 #[.int .u32 (Sha.U x),.int .i64 (-25)] w fun e w'=>e = .returned (.int .u32 (Sha.U (Sha.rot x 25)))∧w'=w:=by
 have h31:=and31_25
 go_enter Tryd.func123,Tryd.ntmps123
 go_wp2
 go_ret
 exact ⟨congrArg (fun z=>Ending.returned (.int .u32 z)) (Sha.U_rotl x 25),rfl⟩
set_option maxHeartbeats 400000 in
theorem srot_25 (x:BitVec 32) (w:World) :
  Calls Tryd.prog 115 #[.int .u32 (Sha.U x),.int .i64 25] w fun e w'=>e = .returned (.int .u32 (Sha.U (Sha.rot x 25)))∧w'=w:=by
 go_enter Tryd.func115,Tryd.ntmps115
 go_wp2_with fail
 refine (rotl_25 x _).mono ?_
 rintro e w' ⟨rfl,rfl⟩
 go_wp2
 go_ret
 exact ⟨rfl,rfl⟩
end Go.Proofs.YtpkkkkomdblpoaaDoor.Sh

namespace Go.Proofs.YtpkkkkomdblpoaaDoor.Sh
open Go.RowKit
def Row (w:World) (g:Nat) (t:TypeId) (cs:List Value):Prop:=w.heap[g]? = some (.cells cs.toArray t (0,0))
theorem yB7 (g o j:Nat):(⟨g,o,none⟩:Addr).add j=⟨g,o+j,none⟩:=by unfold Addr.add;split <;> simp_all
theorem Row.lt {w:World} {g:Nat} {t:TypeId} {cs:List Value} (h:Row w g t cs):g<w.heap.size:=(Array.getElem?_eq_some_iff.1 h).1
theorem Row.cell {w:World} {g:Nat} {t:TypeId} {cs:List Value} (h:Row w g t cs) (i:Nat):w.cell? ⟨g,i,none⟩=cs[i]?:=by
 unfold Row at h
 simp [World.cell?,h]
theorem Row.at {w:World} {g:Nat} {t:TypeId} {cs:List Value} (h:Row w g t cs) (i:Nat) (v:Value) (hv:cs[i]? = some v):w.cell? ⟨g,i,none⟩=some v:=by
 rw [h.cell,hv]
theorem Row.frozen {w:World} {g:Nat} {t:TypeId} {cs:List Value} (h:Row w g t cs) (i:Nat):w.frozen? ⟨g,i,none⟩=false:=by
 unfold Row at h
 simp [World.frozen?,h]
theorem Row.later {w w':World} {B g:Nat} {t:TypeId} {cs:List Value} (h:Row w g t cs) (hb:Below B w w') (hg:g<B):Row w' g t cs:=by
 unfold Row
 rw [hb.block g hg]
 exact h
theorem Row.new (w:World) (t:TypeId) (cs:List Value):Row (w.alloc (.cells cs.toArray t)) w.heap.size t cs:=by
 show (w.heap.push _)[w.heap.size]? = _
 simp
theorem Row.new' (w:World) (t:TypeId) (cs:Array Value):Row (w.alloc (.cells cs t)) w.heap.size t cs.toList:=by
 show (w.heap.push _)[w.heap.size]? = _
 simp
theorem Row.alloc {w:World} {g:Nat} {t:TypeId} {cs:List Value} (h:Row w g t cs) (o:Obj):Row (w.alloc o) g t cs:=by
 unfold Row
 rw [Below.heap_alloc _ _ _ h.lt]
 exact h
theorem Row.setRow {w:World} {g:Nat} {t:TypeId} {cs:List Value} (h:Row w g t cs) (xs:List Value):Row (w.setRow g xs.toArray) g t xs:=setRow_heap w g _ _ t _ h
theorem Row.setRow_other {w:World} {g k:Nat} {t:TypeId} {cs:List Value} (h:Row w k t cs) (hk:k≠g) (xs:Array Value):Row (w.setRow g xs) k t cs:=by
 unfold Row
 rw [Go.setRow_other w g k xs hk]
 exact h
theorem Row.setCell {w:World} {g:Nat} {t:TypeId} {cs:List Value} (h:Row w g t cs) (i:Nat) (v:Value):Row (w.setCell ⟨g,i,none⟩ v) g t (cs.set i v):=by
 rw [setCell_eq_setRow w g i _ t (0,0) v h]
 have:=setRow_heap w g _ (cs.toArray.setIfInBounds i v) t (0,0) h
 unfold Row
 rw [this]
 simp
theorem Row.setCell_other {w:World} {g k:Nat} {t:TypeId} {cs:List Value} (h:Row w k t cs) (hk:k≠g) (i:Nat) (v:Value):Row (w.setCell ⟨g,i,none⟩ v) k t cs:=by
 unfold Row
 rw [Below.heap_setCell w _ v k hk]
 exact h
theorem Row.drewN {w:World} {g:Nat} {t:TypeId} {cs:List Value} (h:Row w g t cs) (n:Nat):Row (w.drewN n) g t cs:=h
theorem Below.drewN {B:Nat} {a w:World} (h:Below B a w) (n:Nat):Below B a (w.drewN n):=⟨h.os,h.tape,h.output,h.size,h.block⟩
def AggT (t n:Nat):Prop:=((∃fs,Tryd.prog.underlying t=some (.struct fs))∨∃k e,Tryd.prog.underlying t=some (.array k e))∧(Tryd.prog.info? t).map (·.size)=some n
theorem agg25:AggT 52 32:=⟨Or.inr ⟨_,_,Tryd.underlying52⟩,by kernel_rfl⟩
theorem agg37:AggT 171 8:=⟨Or.inr ⟨_,_,Tryd.underlying171⟩,by kernel_rfl⟩
theorem agg45:AggT 175 64:=⟨Or.inr ⟨_,_,Tryd.underlying175⟩,by kernel_rfl⟩
theorem agg41:AggT 173 73:=⟨Or.inl ⟨_,Tryd.underlying173⟩,by kernel_rfl⟩
theorem yF9 {t n:Nat} (ht:AggT t n) (w:World) (g o:Nat) (cs:List Value) (hn:cs.length=n) (hc:∀j v,cs[j]? = some v→w.cell? ⟨g,o+j,none⟩=some v) :
  (loadVar t ⟨g,o,none⟩).run Tryd.prog w = .ok (.agg cs.toArray) w:=by
 obtain ⟨hu,hs⟩:=ht
 obtain ⟨i,hi,hsz⟩:=Option.map_eq_some_iff.1 hs
 have hl:=run_loadCells_list (P:=Tryd.prog) w ⟨g,o,none⟩ cs (fun j v hv=>by rw [yB7];exact hc j v hv)
 rw [hn] at hl
 rcases hu with ⟨fs,hu⟩|⟨k,e,hu⟩
 ·simp [loadVar,isAgg,run_underlying hu,sizeOf,typeInfo,hi,hsz,hl]
 ·simp [loadVar,isAgg,run_underlying hu,sizeOf,typeInfo,hi,hsz,hl]
theorem yG1 {t n:Nat} (ht:AggT t n) (w:World) (g o T:Nat) (cur cs:List Value) (hn:cs.length=n) (hr:Row w g T cur) (hfit:o+cs.length≤cur.length) (h1:∀v∈cs,v.oneCell'=true) :
  (storeVar t ⟨g,o,none⟩ (.agg cs.toArray)).run Tryd.prog w = .ok () (w.setRow g (splice cur o cs).toArray):=by
 obtain ⟨hu,hs⟩:=ht
 obtain ⟨i,hi,hsz⟩:=Option.map_eq_some_iff.1 hs
 have hst:=run_storeCells_at (P:=Tryd.prog) g o T cs 0 cur.toArray w hr (by simpa using hfit) h1
 simp only [Nat.add_zero] at hst
 simp [storeVar,sizeOf,typeInfo,hi,hsz,Value.cells,hn,hst,splice]
section
variable {w:World} {ops:Array Oper} {rest:List Oper} {o:Oper} {a:Act} {Q:Exit→Act→World→Prop}
theorem yB1 (hgd:o.guard=none) (v:Value) (w':World) (hrun:(execOp a.eval o).run Tryd.prog w = .ok (.value v) w') (h:wpList Tryd.prog ops Q rest (a.put o.dst v) w'):wpList Tryd.prog ops Q (o :: rest) a w :=
 wpList_plain hgd fun K hK=>by
  unfold Oper.wp
  rw [hrun]
  exact hK _ _ h
theorem wpList_skip' (hgd:o.guard=none) (w':World) (hrun:(execOp a.eval o).run Tryd.prog w = .ok .skip w') (h:wpList Tryd.prog ops Q rest (a.put o.dst undef) w'):wpList Tryd.prog ops Q (o :: rest) a w :=
 wpList_plain hgd fun K hK=>by
  unfold Oper.wp
  rw [hrun]
  exact hK _ _ h
theorem yC7 (x:Operand) (hgd:o.guard=none) (ho:o.op = .move x) (v:Value) (hv:a.eval x=v) (h:wpList Tryd.prog ops Q rest (a.put o.dst v) w):wpList Tryd.prog ops Q (o :: rest) a w :=
 yB1 hgd v w (by simp [execOp,ho,hv]) h
theorem yE3 (x:Operand) (hgd:o.guard=none) (ho:o.op = .assign x) (v:Value) (hv:a.eval x=v) (h:wpList Tryd.prog ops Q rest (a.put o.dst v) w):wpList Tryd.prog ops Q (o :: rest) a w :=
 yB1 hgd v w (by simp [execOp,ho,hv]) h
theorem yF1 {t n:Nat} (ht:AggT t n) (x:Operand) (hgd:o.guard=none) (ho:o.op = .load t x) (g off:Nat) (hx:a.eval x = .pointer (some ⟨g,off,none⟩)) (cs:List Value) (hn:cs.length=n)
  (hc:∀j v,cs[j]? = some v→w.cell? ⟨g,off+j,none⟩=some v) (h:wpList Tryd.prog ops Q rest (a.put o.dst (.agg cs.toArray)) w):wpList Tryd.prog ops Q (o :: rest) a w :=
 yB1 hgd _ w (by simp [execOp,ho,hx,Instr.loadAt,Instr.sureAddr,yF9 ht w g off cs hn hc]) h
theorem wpList_store {t n:Nat} (ht:AggT t n) (x y:Operand) (hgd:o.guard=none) (ho:o.op = .store t x y) (g off T:Nat) (hx:a.eval x = .pointer (some ⟨g,off,none⟩)) (cs cur:List Value) (hy:a.eval y = .agg cs.toArray) (hn:cs.length=n)
  (hr:Row w g T cur) (hfit:off+cs.length≤cur.length) (h1:∀v∈cs,v.oneCell'=true) (h:wpList Tryd.prog ops Q rest (a.put o.dst undef) (w.setRow g (splice cur off cs).toArray)):wpList Tryd.prog ops Q (o :: rest) a w :=
 wpList_skip' hgd _ (by simp [execOp,ho,hx,hy,Instr.storeAt,Instr.sureAddr,yG1 ht w g off T cur cs hn hr hfit h1]) h
theorem wpList_alloc {t:Nat} (zs:List Value) (hz:(Tryd.prog.info? t).map (·.zero)=some (some (.agg zs.toArray))) (hgd:o.guard=none) (ho:o.op = .alloc t)
  (h:wpList Tryd.prog ops Q rest (a.put o.dst (.pointer (some ⟨w.heap.size,0,none⟩))) (w.alloc (.cells zs.toArray t))):wpList Tryd.prog ops Q (o :: rest) a w:=by
 obtain ⟨i,hi,hsz⟩:=Option.map_eq_some_iff.1 hz
 exact yB1 hgd _ _ (by simp [execOp,ho,Instr.alloc,zeroValue,typeInfo,hi,hsz,newVar,newRow,Value.cells]) h
end
theorem yG3 {fn:Func} {p:Tmp} {t n:Nat} (ht:AggT t n) (h:fn.results=#[.cell p t]) (tmps:Array Value) (w:World) (g T:Nat) (hp:tmps.getD p undef = .pointer (some ⟨g,0,none⟩)) (cs:List Value) (hn:cs.length=n) (hr:Row w g T cs) :
  (results fn tmps).run Tryd.prog w = .ok (.agg cs.toArray) w:=by
 have hl:=yF9 ht w g 0 cs hn (fun j v hv=>by rw [Nat.zero_add];exact hr.at j v hv)
 have hp':tmps[p]?.getD undef = .pointer (some ⟨g,0,none⟩):=by simpa using hp
 simp [results,h,hp',asAddr,hl]
def yB4 (n:Nat):List Value:=List.replicate n (.int .u8 0)
def yE0 (n:Nat):List Value:=List.replicate n (.int .u32 0)
theorem zero25:(Tryd.prog.info? 52).map (·.zero)=some (some (.agg (yB4 32).toArray)):=by kernel_rfl
theorem zero37:(Tryd.prog.info? 171).map (·.zero)=some (some (.agg (yE0 8).toArray)):=by kernel_rfl
theorem zero45:(Tryd.prog.info? 175).map (·.zero)=some (some (.agg (yE0 64).toArray)):=by kernel_rfl
theorem zero52:(Tryd.prog.info? 193).map (·.zero)=some (some (.agg (yB4 72).toArray)):=by kernel_rfl
def zeroState:List Value:=yE0 8++(yB4 64++[.int .u64 0])
theorem zero41:(Tryd.prog.info? 173).map (·.zero)=some (some (.agg zeroState.toArray)):=by kernel_rfl
end Go.Proofs.YtpkkkkomdblpoaaDoor.Sh

namespace Go.Proofs.YtpkkkkomdblpoaaDoor.Sh
open Go
section
variable {P:Program} {ops:Array Oper} {md:Region.Mode} {C:World→Prop}
def headAny (P:Program) (md:Region.Mode) (ops:Array Oper) (C:World→Prop) (n:Nat) (L:Array Bool→Act→Prop):Nat→Array Bool→Act→Prop
 | 0,listed,a=>L listed a
 | f+1,listed,a=>Region.ready md ops listed≠[]∧∀i∈Region.ready md ops listed,i<n∧qOp P ops C i (headAny P md ops C n L f (listed.setIfInBounds i true)) a
theorem headAny_wp {n g:Nat} {L:Array Bool→Act→Prop} {Q:Exit→Act→World→Prop} (hL:∀listed a w,C w→L listed a→wpAny P md ops Q g listed a w) :
  ∀(f:Nat) (listed:Array Bool) (a:Act) (w:World),C w→headAny P md ops C n L f listed a→wpAny P md ops Q (f+g) listed a w:=by
 intro f
 induction f with
 | zero =>
  intro listed a w hw h
  rw [Nat.zero_add]
  exact hL _ _ _ hw h
 | succ f ih =>
  intro listed a w hw h
  have e:f+1+g=f+g+1:=by omega
  rw [e]
  exact ⟨fun h0=>absurd h0 h.1,fun i hi=>wpOp_of_qOp hw (fun a' w' hw' h'=>ih _ a' w' hw' h') (h.2 i hi).2⟩
theorem headAny_take {n i:Nat} {oi:Oper} {v:Value} {L:Array Bool→Act→Prop} (hi:ops[i]? = some oi) (hsel:∀(j:Nat) (o:Oper) cs b,ops[j]? = some o→o.op≠.select cs b)
  (hs:Region.sinkB md ops n=true) (hc:Region.chainB md ops n=true) (hn:n<ops.size) (hin:i<n)
  (hdone:∀listed a,L listed a→∀j∈Region.ready md ops listed,n≤j) (f:Nat) :
  ∀(listed:Array Bool) (a:Act),HeadInv md ops n listed →
   (∀j oj,ops[j]? = some oj→j≠i→listed.getD j true=false→(∀e∈oj.after,Region.binds md e=true→e.on≠i)→oi.apart ops oj=true) →
   i∈Region.ready md ops listed→YieldsIn P ops C oi v a →
   headAny P md ops C n L f (listed.setIfInBounds i true) (a.put oi.dst v)→headAny P md ops C n L (f+1) listed a:=by
 have small:∀(listed:Array Bool),HeadInv md ops n listed→i∈Region.ready md ops listed→∀j∈Region.ready md ops listed,j<n:=by
  intro listed inv hr j hj
  apply Nat.lt_of_not_le
  intro hle
  exact tail_waits hs hc hn inv _ i rfl hin (mem_ready.1 hr).1 j hle hj
 induction f with
 | zero =>
  intro listed a inv _ hr hy H
  refine ⟨List.ne_nil_of_mem hr,fun j hj=>⟨small listed inv hr j hj,?_⟩⟩
  by_cases hji:j=i
  ·subst hji
   exact hy.qOp hi H
  ·have h1:=hdone _ _ H j (ready_mono hj hji)
   have h2:=small listed inv hr j hj
   omega
 | succ f ih =>
  intro listed a inv hfree hr hy H
  refine ⟨List.ne_nil_of_mem hr,fun j hj=>⟨small listed inv hr j hj,?_⟩⟩
  by_cases hji:j=i
  ·subst hji
   exact hy.qOp hi H
  ·obtain ⟨hjun,oj,hoj,hall⟩:=mem_ready.1 hj
   have hnot:∀e∈oj.after,Region.binds md e=true→e.on≠i:=by
    intro e he hb heq
    have h1:=hall e he hb
    rw [heq,getD_both (mem_ready.1 hr).1] at h1
    exact Bool.false_ne_true h1
   have step:=qOp_put hoj (hfree j oj hoj hji hjun hnot) (fun cs b=>hsel i oi cs b hi) (fun cs b=>hsel j oj cs b hoj) hy (H.2 j (ready_mono hj hji)).2
   refine qOp_mono (fun a' h3 => ?_) step
   refine ih (listed.setIfInBounds j true) a' (inv.set hj (small listed inv hr j hj)) ?_ (ready_mono hr (Ne.symm hji)) h3.1 ?_
   ·intro k ok hk hki hun hno
    refine hfree k ok hk hki ?_ hno
    by_cases hjk:j=k
    ·rw [←hjk];exact hjun
    ·rwa [getD_set_ne true hjk] at hun
   ·rw [Array.setIfInBounds_comm _ _ hji]
    exact h3.2
theorem headAny_text {n g:Nat} {R:Act→Prop} (hsel:Region.noSelect ops=true) (hs:Region.sinkB md ops n=true) (hc:Region.chainB md ops n=true) (hn:n<ops.size) (l:List Oper) :
  ∀(k:Nat) (listed:Array Bool) (a:Act),(∀j,j<l.length→l[j]? = ops[k+j]?)→k+l.length=n→HeadInv md ops n listed →
  Region.lexHead md ops g l.length k listed=true→wpQuiet P ops C R l a →
  headAny P md ops C n (fun listed' a'=>Region.seqB md ops g n listed'=true∧R a') l.length listed a:=by
 induction l with
 | nil =>
  intro k listed a _ hk _ hB h
  have e:k=n:=by simpa using hk
  subst e
  exact ⟨hB,h⟩
 | cons o l ih =>
  intro k listed a hl hk inv hB h
  have h0:ops[k]? = some o:=by simpa using (hl 0 (by simp)).symm
  simp only [List.length_cons] at hk
  simp only [List.length_cons,Region.lexHead,Bool.and_eq_true] at hB
  have hr:k∈Region.ready md ops listed:=by simpa using hB.1.1
  have hq:qOp P ops C k (wpQuiet P ops C R l) a:=by unfold qOp;simp only [h0];exact h
  obtain ⟨v,hy,hK⟩:=yieldsIn_of_qOp h0 hq
  refine headAny_take h0 (Region.noSelect_spec hsel) hs hc hn (by omega) (fun listed' a' hL=>seqB_ready hL.1) l.length listed a inv (Region.free_spec h0 hB.1.2) hr hy ?_
  refine ih (k+1) _ _ (fun j hj => ?_) (by omega) (inv.set hr (by omega)) hB.2 hK
  have:=hl (j+1) (by simp;omega)
  simpa [Nat.add_assoc,Nat.add_comm 1 j] using this
theorem wp_region_head {id:Nat} {Q:Exit→Act→World→Prop} {a:Act} {w:World} {l:List Oper} (n:Nat) (hm:P.follows .mixedOrders=true) (hB:Region.lexTailB .any l.toArray n=true)
  (hC:C { w with drawn:=w.drawn+1 })
  (h:wpQuiet P l.toArray C (fun a' => ∀w',C w'→wpList P l.toArray Q (l.drop n) a' w') (l.take n) a):(Code.region id l.toArray true).wp P Q a w:=by
 simp only [Region.lexTailB,Bool.and_eq_true,decide_eq_true_eq] at hB
 obtain ⟨⟨⟨⟨hsel,hn⟩,hs⟩,hc⟩,hlex⟩:=hB
 have hn':n<l.length:=by simpa using hn
 have htl:(l.take n).length=n:=by simp;omega
 have hdl:(l.drop n).length=l.toArray.size - n:=by simp
 have inv0:HeadInv .any l.toArray n (Array.replicate l.toArray.size false) :=
  ⟨by simp,fun j oj _ hl=>(by rw [getD_replicate_false] at hl;cases hl),fun t _ ht=>getD_in (by simpa using ht) (getD_replicate_false _ _)⟩
 have H:=headAny_text (md:=.any) (g:=l.toArray.size - n) hsel hs hc hn (l.take n) 0 _ a (fun j hj=>by
  have hj':j<n:=by rw [htl] at hj;exact hj
  simp [hj']) (by simpa using htl) inv0 (by rw [htl];exact hlex) h
 refine wp_region_any hm ?_
 have:=headAny_wp (Q:=Q) (g:=l.toArray.size - n) (fun listed a' w' hw' hL=>by
  have:=wpAny_of_seq (md:=.any) (Q':=Q) (l.drop n) n listed a' w' (fun j=>by simp [List.getElem?_drop]) (by rw [hdl];exact hL.1) (hL.2 w' hw')
  rwa [hdl] at this) _ _ _ _ hC H
 rw [htl,show n+(l.toArray.size - n)=l.toArray.size by omega] at this
 exact this
theorem yD4 {id:Nat} {Q:Exit→Act→World→Prop} {a:Act} {w:World} {l:List Oper} (n:Nat) (hm:P.follows .mixedOrders=true) (hB:Region.lexTailB .any l.toArray n=true)
  (h:wpQuiet P l.toArray (fun w' => ∃n,w'=w.drewN n) (fun a' => ∀w',(∃n,w'=w.drewN n)→wpList P l.toArray Q (l.drop n) a' w') (l.take n) a):(Code.region id l.toArray true).wp P Q a w :=
 wp_region_head (C:=fun w' => ∃n,w'=w.drewN n) n hm hB ⟨1,rfl⟩ h
theorem wp_region_head_below {id:Nat} {Q:Exit→Act→World→Prop} {a:Act} {w:World} {l:List Oper} (n:Nat) (hm:P.follows .mixedOrders=true) (hB:Region.lexTailB .any l.toArray n=true)
  (h:wpQuiet P l.toArray (fun w' => ∃p:Regrown,w'=Go.Sort.grow (redrawn w p.d) p.os) (fun a' => ∀w',(∃p:Regrown,w'=Go.Sort.grow (redrawn w p.d) p.os)→wpList P l.toArray Q (l.drop n) a' w') (l.take n) a):(Code.region id l.toArray true).wp P Q a w :=
 wp_region_head (C:=fun w' => ∃p:Regrown,w'=Go.Sort.grow (redrawn w p.d) p.os) n hm hB ⟨⟨w.drawn+1,#[]⟩,by rw [Go.Sort.grow_empty];rfl⟩ h
end
end Go.Proofs.YtpkkkkomdblpoaaDoor.Sh

namespace Go.Proofs.YtpkkkkomdblpoaaDoor.Sh
open Go.RowKit
theorem word_U (c0 c1 c2 c3:Nat):bits BinOp.or IntKind.u32 (bits BinOp.or IntKind.u32 (bits BinOp.or IntKind.u32 ((c0:Int) % 4294967296 * 16777216 % 4294967296) ((c1:Int) % 4294967296 * 65536 % 4294967296)) ((c2:Int) % 4294967296 * 256 % 4294967296)) ((c3:Int) % 4294967296)=Sha.U (Sha.word4 c0 c1 c2 c3):=by
 have e24:=fun x:BitVec 32=>Sha.U_shl x 24
 have e16:=fun x:BitVec 32=>Sha.U_shl x 16
 have e8:=fun x:BitVec 32=>Sha.U_shl x 8
 rw [Sha.U_byte c0,Sha.U_byte c1,Sha.U_byte c2,Sha.U_byte c3]
 rw [show (16777216:Int)=2 ^ 24 from by decide,show (65536:Int)=2 ^ 16 from by decide,show (256:Int)=2 ^ 8 from by decide,e24,e16,e8,Sha.U_or,Sha.U_or,Sha.U_or]
 rfl
end Go.Proofs.YtpkkkkomdblpoaaDoor.Sh

/- Bytes read as a number; a copy; sizes; two rows held against one another; bytes spoilt. A copy of bytes; two rows held against one another; bytes spoilt; the walks. Frames written, the program's and the document's; numbers written. Regions that draw their order, taken by hand: what is pure comes first, then the calls, which wait for one another. Numbers read: the program's and the document's. What bytes begin with: the program's Unpack. -/
import Derived.Test.YtpkkkkomdblpoaaDoorS01
import Derived.OrdersHeld
namespace Go.Proofs.YtpkkkkomdblpoaaDoor.Fr
open Go.RowKit
theorem u64_step (n c:Nat) (hn:n<72057594037927936) (hc:c<256):bits BinOp.or IntKind.u64 (IntKind.u64.wrap ((n:Int) * 256)) (IntKind.u64.wrap (c:Int))=((n * 256+c:Nat):Int):=by
 have e1:IntKind.u64.wrap ((n:Int) * 256)=((n * 256:Nat):Int):=by rw [IntKind.wrap_u64];omega
 have e2:IntKind.u64.wrap (c:Int)=(c:Int):=by rw [IntKind.wrap_u64];omega
 rw [e1,e2,u64_or_nat _ _ (by omega) (by omega)]
 have:=Nat.two_pow_add_eq_or_of_lt (i:=8) (b:=c) (by omega) n
 rw [show (2:Nat) ^ 8=256 from rfl] at this
 rw [Nat.mul_comm n,this]
theorem val_take_lt (cs:List Nat) (hb:∀j:Nat,cs.getD j 0<256) (k:Nat) (hk:k≤7):Frame.val (cs.take k)<72057594037927936:=by
 have h1:=Frame.val_lt (cs.take k) fun c hc=>Frame.mem_lt hb c (List.mem_of_mem_take hc)
 have h2:(cs.take k).length≤7:=by simp;omega
 have h3:256 ^ (cs.take k).length≤256 ^ 7:=Nat.pow_le_pow_right (by decide) h2
 omega
theorem val_take_succ (cs:List Nat) (k:Nat) (h:k<cs.length):Frame.val (cs.take (k+1))=Frame.val (cs.take k) * 256+cs[k]:=by
 rw [List.take_succ_eq_append_getElem h,Frame.val_snoc]
set_option maxHeartbeats 400000 in
theorem value_some (b off cap:Nat) (cs:List Nat) (w:World) (hl:cs.length≤8) (h:BytesIn w b off cs) :
  Calls Tryd.prog 94 #[.slice (some ⟨b,off,none⟩) cs.length cap] w fun e w'=>e = .returned (.int .u64 (Frame.val cs:Nat))∧w'=w:=by
 obtain ⟨hc,hb⟩:=h
 go_enter Tryd.func94,Tryd.ntmps94
 go_wp2
 go_loop [3,5,8] (fun n c i => ∃k:Nat,k≤cs.length∧i = .int .i64 k∧n = .int .u64 (Frame.val (cs.take k):Nat)) (fun _ _ i=>cs.length - (intOf i).toNat)
 case atStart=>exact ⟨0,Nat.zero_le _,rfl,rfl⟩
 case round =>
  obtain ⟨k,hk,rfl,rfl⟩:=hrel
  by_cases hlt:k<cs.length
  ·have hck:=hc k hlt
   have HS:Hid (bits BinOp.or IntKind.u64 (IntKind.u64.wrap ((Frame.val (cs.take k):Nat) * 256)) (IntKind.u64.wrap (cs[k]:Nat))=((Frame.val (cs.take (k+1)):Nat):Int)):=by
    have h1:=u64_step (Frame.val (cs.take k)) cs[k] (val_take_lt cs hb k (by omega)) (Frame.mem_lt hb _ (List.getElem_mem hlt))
    rw [←val_take_succ cs k hlt] at h1
    exact h1
   clear hc hb
   go_wp2
   refine ⟨⟨k+1,by omega,by go_num,by rw [HS.out]⟩,?_⟩
   simp [intOf];omega
  ·go_wp2
   go_ret
   exact ⟨by rw [show k=cs.length by omega,List.take_length];rfl,rfl⟩
set_option maxHeartbeats 400000 in
theorem value_none (p:Option Addr) (cap:Nat) (w:World) :
  Calls Tryd.prog 94 #[.slice p 0 cap] w fun e w'=>e = .returned (.int .u64 0)∧w'=w:=by
 go_enter Tryd.func94,Tryd.ntmps94
 go_wp2
 go_loop [3,5,8] (fun n c i=>i = .int .i64 0∧n = .int .u64 0) (fun _ _ i=>0)
 case atStart=>exact ⟨rfl,rfl⟩
 case round =>
  obtain ⟨rfl,rfl⟩:=hrel
  go_wp2
  go_ret
  exact ⟨rfl,rfl⟩
theorem value_any (v:Value) (cs:List Nat) (w:World) (h:yA2 w v cs) (hl:cs.length≤8) :
  Calls Tryd.prog 94 #[v] w fun e w'=>e = .returned (.int .u64 (Frame.val cs:Nat))∧w=w':=by
 obtain ⟨p,cap,rfl,hl',h⟩:=h
 rcases h with rfl|⟨b,off,rfl,h⟩
 ·exact (value_none p cap w).mono fun e w' h=>⟨h.1,h.2.symm⟩
 ·exact (value_some b off cap cs w hl h).mono fun e w' h=>⟨h.1,h.2.symm⟩
theorem sizeHolds_yes (s:Int) (w:World) (h1:1≤s) (h2:s≤8):Calls Tryd.prog 96 #[.int .i64 s] w fun e w'=>e = .returned (.bool true)∧w=w':=by
 go_enter Tryd.func96,Tryd.ntmps96
 go_wp2
 go_ret
 exact ⟨rfl,rfl⟩
section
variable {w:World} {ops:Array Oper} {rest:List Oper} {o:Oper} {a:Act} {Q:Exit→Act→World→Prop}
theorem wpList_makeN (l c:Operand) (hgd:o.guard=none) (ho:o.op = .makeSlice 38 l c) (base n:Nat) (L C:Int) (hl:a.eval l = .int .i64 L) (hc:a.eval c = .int .i64 C) (hL:L=(n:Int)) (hC:C=(n:Int)) (hn:n≤281474976710656) (hb:base≤w.heap.size)
  (h:∀v' w',BOwn w' base v' (List.replicate n 0)→Below w.heap.size w w'→wpList Tryd.prog ops Q rest (a.put o.dst v') w'):wpList Tryd.prog ops Q (o :: rest) a w:=by
 obtain ⟨i,hi,hz0,hz1,hz2⟩:=info_parts info5
 refine wpList_make_full w hgd l c 38 ho base 5 i (.int .u8 0) 1 Tryd.underlying38 hi hz0 hz1 .i64 .i64 L C n hl hc hL hC (by rw [hz2];omega) (by unfold maxLen;omega) hb ?_
 intro w' hown hg
 refine h _ w' ?_ ((Below.refl w.heap.size w).grown hg (Nat.le_refl _) fun k hk=>by cases hk)
 unfold BOwn
 have e:yA0 (List.replicate n 0)=(madeCells (Value.int IntKind.u8 0).cells (n * 1)).toList:=by
  apply List.ext_getElem
  ·rw [yA1]
   simp [madeCells,Value.cells]
  ·intro j h1 h2
   simp [yA0,madeCells,Value.cells,Nat.mod_one]
 rw [e,List.length_replicate]
 exact hown
theorem wpList_copyFull (d s:Operand) (hgd:o.guard=none) (ho:o.op = .call { callee:=.builtin .copy,args:=#[d,s],argTypes:=#[38,38] })
  (base:Nat) (v vx:Value) (zs cs:List Nat) (hd:a.eval d=v) (hown:BOwn w base v zs) (hs:a.eval s=vx) (hin:yA2 w vx cs) (hlen:zs.length=cs.length)
  (h:∀w' r,BOwn w' base v cs→w.grownBy w' v.ownBlock→wpList Tryd.prog ops Q rest (a.put o.dst r) w'):wpList Tryd.prog ops Q (o :: rest) a w:=by
 obtain ⟨p,cap,rfl,hl,hin⟩:=hin
 by_cases h0:cs=[]
 ·subst h0
  obtain rfl:zs=[]:=List.length_eq_zero_iff.1 hlen
  have hg0:w.grownBy w v.ownBlock:=World.grownBy.refl w _
  rcases hown.2 with ⟨rfl,_⟩|⟨g,cap',cur,rfl,_⟩
  ·exact wpList_copy_nothing hgd d s 38 38 ho 5 Tryd.underlying38 size5 none p 0 0 _ cap hd hs rfl (h w _ hown hg0)
  ·exact wpList_copy_nothing hgd d s 38 38 ho 5 Tryd.underlying38 size5 _ p _ _ _ cap hd hs rfl (h w _ hown hg0)
 ·rcases hin with rfl|⟨b,off,rfl,hc,_⟩
  ·exact absurd rfl h0
  have hpos:0<cs.length:=by cases cs <;> simp_all
  rcases hown.2 with ⟨rfl,hz⟩|⟨g,cap',cur,rfl,hbg,hg,hcap,hmax,hsz,htake⟩
  ·omega
  refine wpList_copy_own hgd d s 38 38 ho 5 Tryd.underlying38 size5 g 0 zs.length cap' ⟨b,off,none⟩ cs.length cap hd hs cur 5 hg (yA0 cs) (by rw [yA1,hlen];exact (Nat.min_self _).symm) (fun j u hu => ?_) (by rw [yA1];omega) (yB0 cs) ?_
  ·have hj:j<cs.length:=by
    have:=(List.getElem?_eq_some_iff.1 hu).1
    rwa [yA1] at this
   rw [yB7,hc j hj,←hu,yC3 cs j hj]
  ·refine h _ _ ⟨by rw [yA1];omega,Or.inr ⟨g,cap',_,by rw [hlen],hbg,setRow_heap w g _ _ 5 (0,0) hg,by omega,hmax,?_,?_⟩⟩ ⟨rfl,rfl,rfl,by simp,fun k _ hk=>setRow_other w g k _ (fun e=>hk (by rw [e];rfl))⟩
   ·simp [yA1]
    omega
   ·simp [yA1]
end
section
variable {w:World} {ops:Array Oper} {rest:List Oper} {o:Oper} {a:Act} {Q:Exit→Act→World→Prop}
end
end Go.Proofs.YtpkkkkomdblpoaaDoor.Fr

namespace Go.Proofs.YtpkkkkomdblpoaaDoor.Fr
open Go.RowKit
set_option maxHeartbeats 400000 in
theorem told_any (v:Value) (cs:List Nat) (w:World) (h:yA2 w v cs) (hsz:cs.length≤281474976710656) :
  Calls Tryd.prog 95 #[v] w fun e w' => ∃v',e = .returned v'∧BOwn w' w.heap.size v' cs∧Below w.heap.size w w':=by
 go_enter Tryd.func95,Tryd.ntmps95
 go_wp2_with (first
  | (refine yF7 (.tmp 4) rfl rfl v cs rfl h ?_)
  | (refine wpList_makeN (.tmp 5) (.tmp 5) rfl rfl w.heap.size cs.length _ _ rfl rfl rfl rfl hsz (Nat.le_refl _) ?_;intro v1 w1 o1 b1;have O1:Hid (BOwn w1 w.heap.size v1 (List.replicate cs.length 0)):=o1;have B1:Hid (Below w.heap.size w w1):=b1;clear o1 b1)
  | (refine wpList_copyFull (.tmp 7) (.tmp 8) rfl rfl w.heap.size v1 v (List.replicate cs.length 0) cs rfl O1.out rfl (h.later B1.out) (by simp) ?_;intro w2 r o2 g2;have O2:Hid (BOwn w2 w.heap.size v1 cs):=o2;have B2:Hid (Below w.heap.size w w2):=B1.out.trans (O1.out.below g2 B1.out.size);clear o2 g2))
 go_ret
 exact ⟨_,rfl,O2.out,B2.out⟩
theorem str_inj {xs ys:List Nat} (hx:∀c∈xs,c<256) (hy:∀c∈ys,c<256):(strOfNums (xs.map Int.ofNat)=strOfNums (ys.map Int.ofNat)) ↔ xs=ys:=by
 constructor
 ·intro h
  have h1:=congrArg (fun s=>s.data.toList) h
  simp only [strOfNums_data,List.map_map] at h1
  have key:∀zs:List Nat,(∀c∈zs,c<256)→(zs.map ((fun n:Int=>UInt8.ofNat n.toNat) ∘ Int.ofNat)).map UInt8.toNat=zs:=by
   intro zs hz
   rw [List.map_map]
   conv=>rhs;rw [←List.map_id zs]
   apply List.map_congr_left
   intro c hc
   have:=hz c hc
   simp [Function.comp]
   omega
  rw [←key xs hx,←key ys hy,h1]
 ·intro h
  rw [h]
end Go.Proofs.YtpkkkkomdblpoaaDoor.Fr

namespace Go.Proofs.YtpkkkkomdblpoaaDoor.Fr
open Go.RowKit
theorem yE1 {a b c:World} (h:Below a.heap.size a b) (k:Below b.heap.size b c):Below a.heap.size a c:=h.trans (k.mono h.size)
set_option maxHeartbeats 400000 in
theorem pack_any (kind:Nat) (hk:kind<256) (v:Value) (cs:List Nat) (w:World) (h:yA2 w v cs) (ht:TabIn w) (hsz:cs.length+9≤140737488355328) :
  Calls Tryd.prog 69 #[.int .u8 (kind:Nat),v] w fun e w' => ∃v',e = .returned v'∧BOwn w' w.heap.size v' (Frame.pack kind cs)∧Below w.heap.size w w':=by
 go_enter Tryd.func69,Tryd.ntmps69
 go_wp2_with (first
  | (refine yF7 (.tmp 6) rfl rfl v cs rfl h ?_)
  | (refine wpList_make0 (.const (.int .i64 0)) (.tmp 9) rfl rfl w.heap.size (cs.length+9) _ rfl rfl (by omega) (by omega) (Nat.le_refl _) ?_;intro v1 w1 o1 b1;have O1:Hid (BOwn w1 w.heap.size v1 []):=o1;have B1:Hid (Below w.heap.size w w1):=b1;clear o1 b1)
  | (refine yF7 (.tmp 12) rfl rfl v cs rfl h ?_)
  | (go_at_call 87;refine (lay_any v1 [] cs.length 4 w.heap.size w1 O1.out B1.out.size (by decide) (by simp)).mono ?_;rintro e w2 ⟨v2,rfl,o2,b2⟩;have O2:Hid (BOwn w2 w.heap.size v2 ([]++Frame.be 4 cs.length)):=o2;have B2:Hid (Below w.heap.size w w2):=B1.out.trans b2;clear o2 b2 O1 B1)
  | (refine wpList_lit1 (.tmp 17) rfl rfl kind hk _ rfl rfl ?_;intro v3 w3 s3 b3;have S3:Hid (yA2 w3 v3 [kind]):=s3;have B3:Hid (Below w2.heap.size w2 w3):=b3;clear s3 b3)
  | (refine wpList_append (.tmp 16) (.tmp 18) rfl rfl w.heap.size v2 v3 ([]++Frame.be 4 cs.length) [kind] rfl (O2.out.later B3.out (Nat.le_refl _)) rfl S3.out (by simp [Frame.yE9]) (yE1 B2.out B3.out).size ?_;intro v4 w4 o4 b4;have O4:Hid (BOwn w4 w.heap.size v4 (([]++Frame.be 4 cs.length)++[kind])):=o4;have B4:Hid (Below w.heap.size w w4):=(yE1 B2.out B3.out).trans b4;clear o4 b4 B3 O2 B2 S3)
  | (refine wpList_append (.tmp 20) (.tmp 21) rfl rfl w.heap.size v4 v (([]++Frame.be 4 cs.length)++[kind]) cs rfl O4.out rfl (h.later B4.out) (by simp [Frame.yE9];omega) B4.out.size ?_;intro v5 w5 o5 b5;have O5:Hid (BOwn w5 w.heap.size v5 (Frame.body kind cs)):=(by have e:([]++Frame.be 4 cs.length)++[kind]++cs=Frame.body kind cs:=(by simp [Frame.body]);rw [←e];exact o5);have B5:Hid (Below w.heap.size w w5):=B4.out.trans b5;clear o5 b5 O4 B4)
  | (go_at_call 88;refine (sum_any v5 (Frame.body kind cs) w5 (O5.out.slice (Frame.body_lt kind cs hk h.mem)) (ht.later B5.out)).mono ?_;rintro e w6 ⟨rfl,rfl⟩;have HC:Hid (Frame.pack kind cs=Frame.body kind cs++Frame.be 4 (Frame.crc (Frame.body kind cs))):=rfl;have hcl:=Frame.crc_lt (Frame.body kind cs);generalize Frame.crc (Frame.body kind cs)=sm at HC hcl ⊢)
  | (go_at_call 87;refine (lay_any v5 (Frame.body kind cs) sm 4 w.heap.size w5 O5.out B5.out.size (by decide) (by rw [Frame.body_length];omega)).mono ?_;rintro e w7 ⟨v7,rfl,o7,b7⟩;have O7:Hid (BOwn w7 w.heap.size v7 (Frame.pack kind cs)):=(by rw [HC.out];exact o7);have B7:Hid (Below w.heap.size w w7):=B5.out.trans b7;clear o7 b7 O5 B5))
 go_ret
 exact ⟨_,rfl,O7.out,B7.out⟩
set_option maxHeartbeats 400000 in
theorem number_yes (v:Value) (cs:List Nat) (n size:Nat) (w:World) (h:yA2 w v cs) (h1:1≤size) (h8:size≤8) (hsz:cs.length+size≤140737488355328) :
  Calls Tryd.prog 93 #[v,.int .u64 (n:Nat),.int .i64 (size:Nat)] w fun e w' => ∃v',e = .returned v'∧BOwn w' w.heap.size v' (cs++Frame.be size n)∧Below w.heap.size w w':=by
 go_enter Tryd.func93,Tryd.ntmps93
 go_wp2_with (first
  | (go_at_call 96;refine (sizeHolds_yes _ _ (by omega) (by omega)).mono ?_;rintro e w' ⟨rfl,rfl⟩)
  | (refine yF7 (.tmp 12) rfl rfl v cs rfl h ?_)
  | (refine wpList_make0 (.const (.int .i64 0)) (.tmp 15) rfl rfl w.heap.size (cs.length+size) _ rfl rfl (by omega) (by omega) (Nat.le_refl _) ?_;intro v1 w1 o1 b1;have O1:Hid (BOwn w1 w.heap.size v1 []):=o1;have B1:Hid (Below w.heap.size w w1):=b1;clear o1 b1)
  | (refine wpList_append (.tmp 16) (.tmp 17) rfl rfl w.heap.size v1 v [] cs rfl O1.out rfl (h.later B1.out) (by simp;omega) B1.out.size ?_;intro v2 w2 o2 b2;have O2:Hid (BOwn w2 w.heap.size v2 cs):=o2;have B2:Hid (Below w.heap.size w w2):=B1.out.trans b2;clear o2 b2 O1 B1)
  | (go_at_call 87;refine (lay_any v2 cs n size w.heap.size w2 O2.out B2.out.size h8 hsz).mono ?_;rintro e w3 ⟨v3,rfl,o3,b3⟩;have O3:Hid (BOwn w3 w.heap.size v3 (cs++Frame.be size n)):=o3;have B3:Hid (Below w.heap.size w w3):=B2.out.trans b3;clear o3 b3 O2 B2))
 go_ret
 exact ⟨_,rfl,O3.out,B3.out⟩
end Go.Proofs.YtpkkkkomdblpoaaDoor.Fr

namespace Go.Proofs.YtpkkkkomdblpoaaDoor.Fr
open Go.RowKit
section
variable {ops:Array Oper} {Q:Exit→Act→World→Prop} {a:Act} {w:World} {listed:Array Bool} {fuel:Nat} {S:World→Prop} {o:Oper}
theorem takeH {i:Nat} (d:Option Tmp) {oi:Oper} {v:Value} (hi:ops[i]? = some oi) (hd:oi.dst=d)
  (hs:Region.noSelect ops=true) (hf:Region.free .any ops listed i=true) (hr:(Region.ready .any ops listed).contains i=true)
  (hQ:∀c a w,Q (.panic c) (a.put d v) w→Q (.panic c) a w) (hy:YieldsIf Tryd.prog ops S oi v a) (hS:S w)
  (h:wpAnyH Tryd.prog .any ops Q S fuel (listed.setIfInBounds i true) (a.put d v) w):wpAnyH Tryd.prog .any ops Q S (fuel+1) listed a w:=by
 subst hd
 exact wpAnyH_take hi hs hf hr hQ hy hS h
theorem tH (i:Nat) (s:Nat) {oi:Oper} {v:Value} (hi:ops[i]? = some oi) (hd:oi.dst=some s)
    (hy:YieldsIf Tryd.prog ops S oi v a) (hS:S w)
    (h:wpAnyH Tryd.prog .any ops Q S fuel (listed.setIfInBounds i true) (a.put (some s) v) w)
    (hk:(Region.noSelect ops && Region.free .any ops listed i && (Region.ready .any ops listed).contains i)=true:=by kernel_rfl)
    (hQ:∀c a w,Q (.panic c) (a.put (some s) v) w→Q (.panic c) a w:=by exact fun _ _ _ h=>h):wpAnyH Tryd.prog .any ops Q S (fuel+1) listed a w:=by
  simp only [Bool.and_eq_true] at hk
  exact takeH (some s) hi hd hk.1.1 hk.1.2 hk.2 hQ hy hS h
theorem oneH {i:Nat} (hr:Region.ready .any ops listed=[i]) (h:wpOp Tryd.prog ops Q i (fun a' w'=>S w'∧wpAnyH Tryd.prog .any ops Q S fuel (listed.setIfInBounds i true) a' w') a w):wpAnyH Tryd.prog .any ops Q S (fuel+1) listed a w :=
 wpAnyH_all (rs:=[i]) hr (by simp) fun j hj=>by obtain rfl:=List.mem_singleton.1 hj;exact h
theorem yG9 {i:Nat} (d:Option Tmp) {K:Act→World→Prop} (hi:ops[i]? = some o) (hd:o.dst=d) (hgd:o.guard=none) (f:Nat) (args:Array Value) (hrun:(execOp a.eval o).run Tryd.prog w = .ok (.enter f args) w) (h:Calls Tryd.prog f args w fun e w' => ∃v,e = .returned v∧K (a.put d v) w'):wpOp Tryd.prog ops Q i K a w:=by
 subst hd
 unfold wpOp
 have hw:Region.wanted o (yielded ops a.tmps)=true:=by simp [Region.wanted,hgd]
 simp only [hi,hw,if_true,Oper.wp,hrun,Oper.upon]
 refine .inl (Calls.mono h fun e w' he => ?_)
 obtain ⟨v,rfl,hK⟩:=he
 exact hK
theorem yRun (hgd:o.guard=none) (v:Value) (hr:∀w,S w→(execOp a.eval o).run Tryd.prog w = .ok (.value v) w):YieldsIf Tryd.prog ops S o v a :=
 Or.inl ⟨by simp [Region.wanted,hgd],hr⟩
theorem yMove (hgd:o.guard=none) (x:Operand) (ho:o.op = .move x) (v:Value) (hv:a.eval x=v):YieldsIf Tryd.prog ops S o v a :=
 yRun hgd v fun w _=>by simp [execOp,ho,hv]
theorem yAssign (hgd:o.guard=none) (x:Operand) (ho:o.op = .assign x) (v:Value) (hv:a.eval x=v):YieldsIf Tryd.prog ops S o v a :=
 yRun hgd v fun w _=>by simp [execOp,ho,hv]
theorem ySub (hgd:o.guard=none) (x:Operand) (lo hi mx:Option Operand) (ho:o.op = .slice 38 x lo hi mx) (v v':Value) (hx:a.eval x=v) (hr:∀w',(Instr.slice 38 v (lo.map a.eval) (hi.map a.eval) (mx.map a.eval)).run Tryd.prog w' = .ok v' w'):YieldsIf Tryd.prog ops S o v' a :=
 yRun hgd v' fun w _=>by
  have hu':Tryd.prog.underlying 38=some (.slice (Tryd.prog.elem 38)):=by rw [elem22];exact Tryd.underlying38
  simp [execOp,ho,hx,run_sliceAt_slice _ _ _ _ _ _ hu',hr]
theorem yIndex (hgd:o.guard=none) (x i:Operand) (ho:o.op = .indexAddr 38 x i) (v:Value) (hx:a.eval x=v) (I:Value) (hi:a.eval i=I) (p:Value) (hr:∀w',(Instr.indexAt 38 v I).run Tryd.prog w' = .ok p w'):YieldsIf Tryd.prog ops S o p a :=
 yRun hgd p fun w _=>by simp only [execOp,ho,hx,hi,hr,Sem.run_bind,Sem.run_pure,Result.andThen_ok]
theorem yLoad (hgd:o.guard=none) (x:Operand) (ho:o.op = .load 5 x) (b j:Nat) (hx:a.eval x = .pointer (some ⟨b,j,none⟩)) (c:Nat) (hc:∀w,S w→w.cell? ⟨b,j,none⟩=some (.int .u8 (c:Nat))):YieldsIf Tryd.prog ops S o (.int .u8 (c:Nat)) a :=
 yRun hgd _ fun w hS=>by
  have:=hc w hS
  have hr:(Instr.loadAt 5 (.pointer (some ⟨b,j,none⟩))).run Tryd.prog w = .ok (.int .u8 (c:Nat)) w:=by simp [Instr.loadAt,Instr.sureAddr,go_sem,this]
  simp only [execOp,ho,hx,hr,Sem.run_bind,Sem.run_pure,Result.andThen_ok]
theorem run_index {v:Value} {cs:List Nat} (hin:yA2 w v cs) (k:Nat) (hk:k<cs.length):∃b j,(∀w',(Instr.indexAt 38 v (.int .i64 (k:Nat))).run Tryd.prog w' = .ok (.pointer (some ⟨b,j,none⟩)) w')∧w.cell? ⟨b,j,none⟩=some (.int .u8 (cs.getD k 0:Nat)):=by
 obtain ⟨p,cap,rfl,hl,hin⟩:=hin
 rcases hin with rfl|⟨b,off,rfl,hc,_⟩
 ·simp at hk
 obtain ⟨i5,hi5,hsz⟩:=Option.map_eq_some_iff.1 size5
 exact ⟨b,off+k,fun w'=>by simp [Instr.indexAt,asIntOf,run_underlying Tryd.underlying38,hk,sizeOf,typeInfo,hi5,hsz,yB7],hc k hk⟩
theorem yConv (hgd:o.guard=none) (x:Operand) (ho:o.op = .convert 161 153 x) (s:Nat) (hs:s<4294967296) (hx:a.eval x = .int .u32 (s:Nat)):YieldsIf Tryd.prog ops S o (.int .u64 (s:Nat)) a :=
 yRun hgd _ fun w _=>by
  have hr:(convert 161 153 (.int .u32 (s:Nat))).run Tryd.prog w = .ok (.int .u64 (s:Nat)) w:=by
   have e:IntKind.u64.wrap (s:Int)=(s:Int):=by rw [IntKind.wrap_u64];omega
   simp [go_sem,e]
  simp only [execOp,ho,hx,hr,Sem.run_bind,Sem.run_pure,Result.andThen_ok]
theorem yNeq (hgd:o.guard=none) (x y:Operand) (ho:o.op = .binOp .neq 153 x y 153) (s t:Nat) (hx:a.eval x = .int .u64 (s:Nat)) (hy:a.eval y = .int .u64 (t:Nat)):YieldsIf Tryd.prog ops S o (.bool ((s:Int) != (t:Int))) a :=
 yRun hgd _ fun w _=>by
  simp only [execOp,ho,hx,hy]
  simp [go_sem]
def yB9 (f:Nat):Prop := ∀args w,(callFunc f args).run Tryd.prog w = .ok (.enter f args) w
theorem enters {f:Nat} {fn:Func} (hf:Tryd.prog.funcs[f]? = some fn) (hn:(fn.name == "runtime.NumGoroutine")=false) (hb:fn.body.isNone=false):yB9 f:=by
 intro args w
 have h1:fn.name ≠ "runtime.NumGoroutine":=by simpa using hn
 have hb':fn.body≠none:=by intro hn;rw [hn] at hb;cases hb
 simp [callFunc,hf,h1,hb',mark]
theorem en21:yB9 88:=enters Tryd.func88 (by kernel_rfl) (by kernel_rfl)
theorem en23:yB9 94:=enters Tryd.func94 (by kernel_rfl) (by kernel_rfl)
theorem en24:yB9 95:=enters Tryd.func95 (by kernel_rfl) (by kernel_rfl)
theorem yC2 {f:Nat} (ef:yB9 f) (xs:List Operand) (ts:Array TypeId) (ho:o.op = .call { callee:=.value (.func f),args:=xs.toArray,argTypes:=ts }) (vs:List Value) (hv:xs.map a.eval=vs):(execOp a.eval o).run Tryd.prog w = .ok (.enter f vs.toArray) w:=by
 subst hv
 have hen:=ef (xs.map a.eval).toArray w
 simp [execOp,ho,resolve,BigFrame.eval_func,Deferred.ofValue,invoke,hen]
end
theorem results_tmp4 {fn:Func} {t u v x:Tmp} (h:fn.results=#[.tmp t,.tmp u,.tmp v,.tmp x]) (tmps:Array Value) (P:Program) (w:World) :
  (results fn tmps).run P w = .ok (.tuple #[tmps.getD t undef,tmps.getD u undef,tmps.getD v undef,tmps.getD x undef]) w:=by
 simp [results,h]
theorem yD9 (w:World) (n:Nat):Below w.heap.size w { w with drawn:=n }:=⟨rfl,rfl,rfl,Nat.le_refl _,fun _ _=>rfl⟩
theorem take_all_drop (cs:List Nat) (l:Nat):(cs.take cs.length).drop l=cs.drop l:=by rw [List.take_length]
end Go.Proofs.YtpkkkkomdblpoaaDoor.Fr

namespace Go.Proofs.YtpkkkkomdblpoaaDoor.Fr
open Go.RowKit
theorem sub_h {w:World} {v:Value} {cs:List Nat} (h:yA2 w v cs) (n:Nat) (hn:n≤cs.length):∃v',(∀w',(Instr.slice 38 v none (some (.int .i64 (n:Nat))) (some (.int .i64 (n:Nat)))).run Tryd.prog w' = .ok v' w')∧yA2 w v' (cs.take n):=by
 obtain ⟨v',hr,hs⟩:=run_sub h (lo:=none) (hi:=some (.int .i64 (n:Nat))) (mx:=some (.int .i64 (n:Nat))) (l:=0) (h:=n) ⟨Or.inl ⟨rfl,rfl⟩,Or.inr ⟨_,rfl,rfl,Or.inr rfl⟩,Nat.zero_le _,hn⟩
 exact ⟨v',hr,hs⟩
theorem sub_l {w:World} {v:Value} {cs:List Nat} (h:yA2 w v cs) (n:Nat) (hn:n≤cs.length):∃v',(∀w',(Instr.slice 38 v (some (.int .i64 (n:Nat))) none none).run Tryd.prog w' = .ok v' w')∧yA2 w v' (cs.drop n):=by
 obtain ⟨v',hr,hs⟩:=run_sub h (lo:=some (.int .i64 (n:Nat))) (hi:=none) (mx:=none) (l:=n) (h:=cs.length) ⟨Or.inr ⟨_,rfl,rfl⟩,Or.inl ⟨rfl,rfl,rfl⟩,hn,Nat.le_refl _⟩
 exact ⟨v',hr,by rw [take_all_drop] at hs;exact hs⟩
theorem sub_lh {w:World} {v:Value} {cs:List Nat} (h:yA2 w v cs) (l n:Nat) (hl:l≤n) (hn:n≤cs.length):∃v',(∀w',(Instr.slice 38 v (some (.int .i64 (l:Nat))) (some (.int .i64 (n:Nat))) (some (.int .i64 (n:Nat)))).run Tryd.prog w' = .ok v' w')∧yA2 w v' ((cs.take n).drop l) :=
 run_sub h ⟨Or.inr ⟨_,rfl,rfl⟩,Or.inr ⟨_,rfl,rfl,Or.inr rfl⟩,hl,hn⟩
def TakeS (w:World) (va vb:Value) (xs ys:List Nat) (W:World):Prop:=yA2 W va xs∧yA2 W vb ys∧Below w.heap.size w W
set_option maxHeartbeats 400000 in
theorem take_yes (v:Value) (cs:List Nat) (size:Nat) (w:World) (h:yA2 w v cs) (h1:1≤size) (h8:size≤8) (hl:size≤cs.length) (hsz:cs.length≤281474976710656) :
  Calls Tryd.prog 79 #[v,.int .i64 (size:Nat)] w fun e w' => ∃v',e = .returned (.tuple #[.int .u64 (Frame.val (cs.take size):Nat),v',.int .i64 0])∧BOwn w' w.heap.size v' (cs.drop size)∧Below w.heap.size w w':=by
 obtain ⟨va,ra,sa⟩:=sub_h h size hl
 obtain ⟨vb,rb,sb⟩:=sub_l h size hl
 have HA:Hid (∀w',(Instr.slice 38 v none (some (.int .i64 (size:Nat))) (some (.int .i64 (size:Nat)))).run Tryd.prog w' = .ok va w'):=ra
 have HBr:Hid (∀w',(Instr.slice 38 v (some (.int .i64 (size:Nat))) none none).run Tryd.prog w' = .ok vb w'):=rb
 have HSa:Hid (yA2 w va (cs.take size)):=sa
 have HSb:Hid (yA2 w vb (cs.drop size)):=sb
 clear ra rb sa sb
 go_enter Tryd.func79,Tryd.ntmps79
 go_wp2_with (first
  | (go_at_call 96;refine (sizeHolds_yes _ _ (by omega) (by omega)).mono ?_;rintro e w' ⟨rfl,rfl⟩)
  | (refine yF7 (.tmp 12) rfl rfl v cs rfl h ?_))
 refine wp_region_held (S:=TakeS w va vb (cs.take size) (cs.drop size)) (by kernel_rfl) ?_
 show wpAnyH _ _ _ _ _ 12 (Array.replicate 12 false) _ _
 have hS:TakeS w va vb (cs.take size) (cs.drop size) { w with drawn:=w.drawn+1 }:=⟨HSa.out.later (yD9 w _),HSb.out.later (yD9 w _),yD9 w _⟩
 refine tH 0 16 rfl rfl (yMove rfl (.tmp 0) rfl v rfl) hS ?_
 refine tH 1 17 rfl rfl (yMove rfl (.tmp 1) rfl (.int .i64 (size:Nat)) rfl) hS ?_
 refine tH 2 18 rfl rfl (yMove rfl (.tmp 1) rfl (.int .i64 (size:Nat)) rfl) hS ?_
 simp only [Act.put,aS,aC,aZ]
 refine tH 3 19 rfl rfl (ySub rfl (.tmp 16) none (some (.tmp 17)) (some (.tmp 18)) rfl v va rfl HA.out) hS ?_
 refine tH 5 21 rfl rfl (yMove rfl (.tmp 0) rfl v rfl) hS ?_
 refine tH 6 22 rfl rfl (yMove rfl (.tmp 1) rfl (.int .i64 (size:Nat)) rfl) hS ?_
 simp only [Act.put,aS,aC,aZ]
 refine tH 7 23 rfl rfl (ySub rfl (.tmp 21) (some (.tmp 22)) none none rfl v vb rfl HBr.out) hS ?_
 simp only [Act.put,aS,aC,aZ]
 refine oneH (i:=4) (by kernel_rfl) ?_
 refine yG9 (some 20) rfl rfl rfl 94 _ (yC2 en23 [.tmp 19] _ rfl [va] rfl) ?_
 refine (value_any va (cs.take size) _ hS.1 (by simp;omega)).mono ?_
 rintro e w1 ⟨rfl,hw1⟩
 rw [←hw1]
 refine ⟨_,rfl,hS,?_⟩
 clear hw1
 simp only [Act.put,aS,aC,aZ]
 refine oneH (i:=8) (by kernel_rfl) ?_
 refine yG9 (some 24) rfl rfl rfl 95 _ (yC2 en24 [.tmp 23] _ rfl [vb] rfl) ?_
 refine (told_any vb (cs.drop size) _ hS.2.1 (by simp;omega)).mono ?_
 rintro e w2 ⟨v2,rfl,o2,b2⟩
 have hS2:TakeS w va vb (cs.take size) (cs.drop size) w2:=⟨hS.1.later b2,hS.2.1.later b2,yE1 hS.2.2 b2⟩
 have O2:Hid (BOwn w2 w.heap.size v2 (cs.drop size)):=o2.weaken hS.2.2.size
 refine ⟨_,rfl,hS2,?_⟩
 clear hS o2 b2
 simp only [Act.put,aS,aC,aZ]
 refine tH 9 4 rfl rfl (yAssign rfl (.tmp 20) rfl (.int .u64 (Frame.val (cs.take size):Nat)) rfl) hS2 ?_
 refine tH 10 5 rfl rfl (yAssign rfl (.tmp 24) rfl v2 rfl) hS2 ?_
 refine tH 11 6 rfl rfl (yAssign rfl (.const (.int .i64 0)) rfl (.int .i64 0) rfl) hS2 ?_
 simp only [Act.put,aS,aC,aZ]
 refine wpAnyH_done (by kernel_rfl) ?_ _
 have B2:Hid (Below w.heap.size w w2):=hS2.2.2
 clear hS2
 go_wp2
 go_ret3
 exact ⟨v2,rfl,O2.out,B2.out⟩
set_option maxHeartbeats 400000 in
theorem take_short (v:Value) (cs:List Nat) (size:Nat) (w:World) (h:yA2 w v cs) (h1:1≤size) (h8:size≤8) (hl:cs.length<size) :
  Calls Tryd.prog 79 #[v,.int .i64 (size:Nat)] w fun e w'=>e = .returned (.tuple #[.int .u64 0,.slice none 0 0,.int .i64 40])∧w=w':=by
 go_enter Tryd.func79,Tryd.ntmps79
 go_wp2_with (first
  | (go_at_call 96;refine (sizeHolds_yes _ _ (by omega) (by omega)).mono ?_;rintro e w' ⟨rfl,rfl⟩)
  | (refine yF7 (.tmp 12) rfl rfl v cs rfl h ?_))
 go_ret3
 exact ⟨rfl,rfl⟩
end Go.Proofs.YtpkkkkomdblpoaaDoor.Fr

namespace Go.Proofs.YtpkkkkomdblpoaaDoor.Fr
open Go.RowKit
set_option maxHeartbeats 400000 in
theorem unpack_short (v:Value) (cs:List Nat) (w:World) (h:yA2 w v cs) (hl:cs.length<9) :
  Calls Tryd.prog 78 #[v] w fun e w'=>e = .returned (.tuple #[.int .u8 0,.slice none 0 0,.slice none 0 0,.int .i64 40])∧w=w':=by
 go_enter Tryd.func78,Tryd.ntmps78
 go_wp2_with (refine yF7 (.tmp 9) rfl rfl v cs rfl h ?_)
 refine bodyPost_ret (results_tmp4 rfl _ _ _) rfl ?_
 exact ⟨rfl,rfl⟩
set_option maxHeartbeats 400000 in
theorem unpack_far (v:Value) (cs:List Nat) (n:Nat) (w:World) (h:yA2 w v cs) (hl:9≤cs.length) (hn:Hid (Frame.lenOf cs=n)) (hf:cs.length<n+9) (hsz:cs.length≤281474976710656) :
  Calls Tryd.prog 78 #[v] w fun e w'=>e = .returned (.tuple #[.int .u8 0,.slice none 0 0,.slice none 0 0,.int .i64 40])∧w=w':=by
 go_enter Tryd.func78,Tryd.ntmps78
 go_wp2_with (first
  | (refine yF7 (.tmp 9) rfl rfl v cs rfl h ?_)
  | (refine wpList_sub (.tmp 12) none (some (.const (.int .i64 4))) (some (.const (.int .i64 4))) rfl rfl v cs rfl h 0 4 ⟨Or.inl ⟨rfl,rfl⟩,Or.inr ⟨_,rfl,rfl,Or.inr rfl⟩,by decide,by omega⟩ ?_;intro v1 s1)
  | (go_at_call 94;refine (value_any v1 (cs.take 4) w s1 (by simp;omega)).mono ?_;rintro e w' ⟨rfl,rfl⟩;rw [show Frame.val (cs.take 4)=n from hn.out])
  | (refine yF7 (.tmp 16) rfl rfl v cs rfl h ?_))
 refine bodyPost_ret (results_tmp4 rfl _ _ _) rfl ?_
 exact ⟨rfl,rfl⟩
set_option maxHeartbeats 1000000 in
theorem unpack_wrong (v:Value) (cs:List Nat) (n:Nat) (w:World) (h:yA2 w v cs) (ht:TabIn w) (hl:9≤cs.length) (hn:Hid (Frame.lenOf cs=n)) (hb:n<4294967296) (hf:n+9≤cs.length) (hsz:cs.length≤281474976710656) (s t:Nat) (hs:Hid (Frame.val ((cs.take (5+n+4)).drop (5+n))=s)) (hv:Hid (Frame.crc (cs.take (5+n))=t)) (hst:t<4294967296) (hne:s≠t) :
  Calls Tryd.prog 78 #[v] w fun e w'=>e = .returned (.tuple #[.int .u8 0,.slice none 0 0,.slice none 0 0,.int .i64 40])∧Below w.heap.size w w':=by
 obtain ⟨va,ra,sa⟩:=sub_lh h (5+n) (5+n+4) (by omega) (by omega)
 obtain ⟨vb,rb,sb⟩:=sub_h h (5+n) (by omega)
 rw [show ((5+n+4:Nat):Int)=5+(n:Int)+4 by omega,show ((5+n:Nat):Int)=5+(n:Int) by omega] at ra
 rw [show ((5+n:Nat):Int)=5+(n:Int) by omega] at rb
 have HA:Hid (∀w',(Instr.slice 38 v (some (.int .i64 (5+(n:Int)))) (some (.int .i64 (5+(n:Int)+4))) (some (.int .i64 (5+(n:Int)+4)))).run Tryd.prog w' = .ok va w'):=ra
 have HBr:Hid (∀w',(Instr.slice 38 v none (some (.int .i64 (5+(n:Int)))) (some (.int .i64 (5+(n:Int))))).run Tryd.prog w' = .ok vb w'):=rb
 have HSa:Hid (yA2 w va ((cs.take (5+n+4)).drop (5+n))):=sa
 have HSb:Hid (yA2 w vb (cs.take (5+n))):=sb
 clear ra rb sa sb
 go_enter Tryd.func78,Tryd.ntmps78
 go_wp2_with (first
  | (refine yF7 (.tmp 9) rfl rfl v cs rfl h ?_)
  | (refine wpList_sub (.tmp 12) none (some (.const (.int .i64 4))) (some (.const (.int .i64 4))) rfl rfl v cs rfl h 0 4 ⟨Or.inl ⟨rfl,rfl⟩,Or.inr ⟨_,rfl,rfl,Or.inr rfl⟩,by decide,by omega⟩ ?_;intro v1 s1)
  | (go_at_call 94;refine (value_any v1 (cs.take 4) w s1 (by simp;omega)).mono ?_;rintro e w' ⟨rfl,rfl⟩;rw [show Frame.val (cs.take 4)=n from hn.out])
  | (refine yF7 (.tmp 16) rfl rfl v cs rfl h ?_))
 refine wp_region_held (S:=TakeS w va vb ((cs.take (5+n+4)).drop (5+n)) (cs.take (5+n))) (by kernel_rfl) ?_
 show wpAnyH _ _ _ _ _ 13 (Array.replicate 13 false) _ _
 have hS:TakeS w va vb ((cs.take (5+n+4)).drop (5+n)) (cs.take (5+n)) { w with drawn:=w.drawn+1 }:=⟨HSa.out.later (yD9 w _),HSb.out.later (yD9 w _),yD9 w _⟩
 refine tH 0 27 rfl rfl (yMove rfl (.tmp 0) rfl v rfl) hS ?_
 refine tH 1 28 rfl rfl (yMove rfl (.tmp 7) rfl (.int .i64 (5+(n:Int))) rfl) hS ?_
 refine tH 2 29 rfl rfl (yMove rfl (.tmp 8) rfl (.int .i64 (5+(n:Int)+4)) rfl) hS ?_
 simp only [Act.put,aS,aC,aZ]
 refine tH 3 30 rfl rfl (yMove rfl (.tmp 8) rfl (.int .i64 (5+(n:Int)+4)) rfl) hS ?_
 refine tH 4 31 rfl rfl (ySub rfl (.tmp 27) (some (.tmp 28)) (some (.tmp 29)) (some (.tmp 30)) rfl v va rfl HA.out) hS ?_
 refine tH 6 33 rfl rfl (yMove rfl (.tmp 0) rfl v rfl) hS ?_
 simp only [Act.put,aS,aC,aZ]
 refine tH 7 34 rfl rfl (yMove rfl (.tmp 7) rfl (.int .i64 (5+(n:Int))) rfl) hS ?_
 refine tH 8 35 rfl rfl (yMove rfl (.tmp 7) rfl (.int .i64 (5+(n:Int))) rfl) hS ?_
 refine tH 9 36 rfl rfl (ySub rfl (.tmp 33) none (some (.tmp 34)) (some (.tmp 35)) rfl v vb rfl HBr.out) hS ?_
 simp only [Act.put,aS,aC,aZ]
 refine oneH (i:=5) (by kernel_rfl) ?_
 refine yG9 (some 32) rfl rfl rfl 94 _ (yC2 en23 [.tmp 31] _ rfl [va] rfl) ?_
 refine (value_any va ((cs.take (5+n+4)).drop (5+n)) _ hS.1 (by simp;omega)).mono ?_
 rintro e w1 ⟨rfl,hw1⟩
 rw [←hw1,hs.out]
 refine ⟨_,rfl,hS,?_⟩
 clear hw1
 simp only [Act.put,aS,aC,aZ]
 refine oneH (i:=10) (by kernel_rfl) ?_
 refine yG9 (some 37) rfl rfl rfl 88 _ (yC2 en21 [.tmp 36] _ rfl [vb] rfl) ?_
 refine (sum_any vb (cs.take (5+n)) _ hS.2.1 (ht.later (yD9 w _))).mono ?_
 rintro e w1 ⟨rfl,hw1⟩
 rw [←hw1,hv.out]
 refine ⟨_,rfl,hS,?_⟩
 clear hw1
 simp only [Act.put,aS,aC,aZ]
 refine tH 11 38 rfl rfl (yConv rfl (.tmp 37) rfl t hst rfl) hS ?_
 refine tH 12 39 rfl rfl (yNeq rfl (.tmp 32) (.tmp 38) rfl s t rfl rfl) hS ?_
 simp only [Act.put,aS,aC,aZ]
 refine wpAnyH_done (by kernel_rfl) ?_ _
 clear hS
 have hd:((s:Int) != (t:Int))=true:=by simpa using fun e=>hne (by omega)
 clear hne
 rw [hd]
 have HB:Hid (Below w.heap.size w { w with drawn:=w.drawn+1 }):=yD9 w _
 go_wp2
 refine bodyPost_ret (results_tmp4 rfl _ _ _) rfl ?_
 exact ⟨rfl,HB.out⟩
def UnS (w:World) (b j c:Nat) (va vb:Value) (xs ys:List Nat) (W:World):Prop:=W.cell? ⟨b,j,none⟩=some (.int .u8 (c:Nat))∧TakeS w va vb xs ys W
set_option maxHeartbeats 1000000 in
theorem unpack_right (v:Value) (cs:List Nat) (n:Nat) (w:World) (h:yA2 w v cs) (ht:TabIn w) (hl:9≤cs.length) (hn:Hid (Frame.lenOf cs=n)) (hb:n<4294967296) (hf:n+9≤cs.length) (hsz:cs.length≤281474976710656) (s t:Nat) (hs:Hid (Frame.val ((cs.take (5+n+4)).drop (5+n))=s)) (hv:Hid (Frame.crc (cs.take (5+n))=t)) (hst:t<4294967296) (heq:s=t) (c:Nat) (hc:Hid (cs.getD 4 0=c)) :
  Calls Tryd.prog 78 #[v] w fun e w' => ∃vp vr,e = .returned (.tuple #[.int .u8 (c:Nat),vp,vr,.int .i64 0])∧BOwn w' w.heap.size vp ((cs.take (5+n)).drop 5)∧BOwn w' w.heap.size vr (cs.drop (5+n+4))∧(vr.ownBlock=none∨vr.ownBlock≠vp.ownBlock)∧Below w.heap.size w w':=by
 obtain ⟨va,ra,sa⟩:=sub_lh h (5+n) (5+n+4) (by omega) (by omega)
 obtain ⟨vb,rb,sb⟩:=sub_h h (5+n) (by omega)
 rw [show ((5+n+4:Nat):Int)=5+(n:Int)+4 by omega,show ((5+n:Nat):Int)=5+(n:Int) by omega] at ra
 rw [show ((5+n:Nat):Int)=5+(n:Int) by omega] at rb
 have HA:Hid (∀w',(Instr.slice 38 v (some (.int .i64 (5+(n:Int)))) (some (.int .i64 (5+(n:Int)+4))) (some (.int .i64 (5+(n:Int)+4)))).run Tryd.prog w' = .ok va w'):=ra
 have HBr:Hid (∀w',(Instr.slice 38 v none (some (.int .i64 (5+(n:Int)))) (some (.int .i64 (5+(n:Int))))).run Tryd.prog w' = .ok vb w'):=rb
 have HSa:Hid (yA2 w va ((cs.take (5+n+4)).drop (5+n))):=sa
 have HSb:Hid (yA2 w vb (cs.take (5+n))):=sb
 clear ra rb sa sb
 go_enter Tryd.func78,Tryd.ntmps78
 go_wp2_with (first
  | (refine yF7 (.tmp 9) rfl rfl v cs rfl h ?_)
  | (refine wpList_sub (.tmp 12) none (some (.const (.int .i64 4))) (some (.const (.int .i64 4))) rfl rfl v cs rfl h 0 4 ⟨Or.inl ⟨rfl,rfl⟩,Or.inr ⟨_,rfl,rfl,Or.inr rfl⟩,by decide,by omega⟩ ?_;intro v1 s1)
  | (go_at_call 94;refine (value_any v1 (cs.take 4) w s1 (by simp;omega)).mono ?_;rintro e w' ⟨rfl,rfl⟩;rw [show Frame.val (cs.take 4)=n from hn.out])
  | (refine yF7 (.tmp 16) rfl rfl v cs rfl h ?_))
 refine wp_region_held (S:=TakeS w va vb ((cs.take (5+n+4)).drop (5+n)) (cs.take (5+n))) (by kernel_rfl) ?_
 show wpAnyH _ _ _ _ _ 13 (Array.replicate 13 false) _ _
 have hS:TakeS w va vb ((cs.take (5+n+4)).drop (5+n)) (cs.take (5+n)) { w with drawn:=w.drawn+1 }:=⟨HSa.out.later (yD9 w _),HSb.out.later (yD9 w _),yD9 w _⟩
 refine tH 0 27 rfl rfl (yMove rfl (.tmp 0) rfl v rfl) hS ?_
 refine tH 1 28 rfl rfl (yMove rfl (.tmp 7) rfl (.int .i64 (5+(n:Int))) rfl) hS ?_
 refine tH 2 29 rfl rfl (yMove rfl (.tmp 8) rfl (.int .i64 (5+(n:Int)+4)) rfl) hS ?_
 simp only [Act.put,aS,aC,aZ]
 refine tH 3 30 rfl rfl (yMove rfl (.tmp 8) rfl (.int .i64 (5+(n:Int)+4)) rfl) hS ?_
 refine tH 4 31 rfl rfl (ySub rfl (.tmp 27) (some (.tmp 28)) (some (.tmp 29)) (some (.tmp 30)) rfl v va rfl HA.out) hS ?_
 refine tH 6 33 rfl rfl (yMove rfl (.tmp 0) rfl v rfl) hS ?_
 simp only [Act.put,aS,aC,aZ]
 refine tH 7 34 rfl rfl (yMove rfl (.tmp 7) rfl (.int .i64 (5+(n:Int))) rfl) hS ?_
 refine tH 8 35 rfl rfl (yMove rfl (.tmp 7) rfl (.int .i64 (5+(n:Int))) rfl) hS ?_
 refine tH 9 36 rfl rfl (ySub rfl (.tmp 33) none (some (.tmp 34)) (some (.tmp 35)) rfl v vb rfl HBr.out) hS ?_
 simp only [Act.put,aS,aC,aZ]
 refine oneH (i:=5) (by kernel_rfl) ?_
 refine yG9 (some 32) rfl rfl rfl 94 _ (yC2 en23 [.tmp 31] _ rfl [va] rfl) ?_
 refine (value_any va ((cs.take (5+n+4)).drop (5+n)) _ hS.1 (by simp;omega)).mono ?_
 rintro e w1 ⟨rfl,hw1⟩
 rw [←hw1,hs.out]
 refine ⟨_,rfl,hS,?_⟩
 clear hw1
 simp only [Act.put,aS,aC,aZ]
 refine oneH (i:=10) (by kernel_rfl) ?_
 refine yG9 (some 37) rfl rfl rfl 88 _ (yC2 en21 [.tmp 36] _ rfl [vb] rfl) ?_
 refine (sum_any vb (cs.take (5+n)) _ hS.2.1 (ht.later (yD9 w _))).mono ?_
 rintro e w1 ⟨rfl,hw1⟩
 rw [←hw1,hv.out]
 refine ⟨_,rfl,hS,?_⟩
 clear hw1
 simp only [Act.put,aS,aC,aZ]
 refine tH 11 38 rfl rfl (yConv rfl (.tmp 37) rfl t hst rfl) hS ?_
 refine tH 12 39 rfl rfl (yNeq rfl (.tmp 32) (.tmp 38) rfl s t rfl rfl) hS ?_
 simp only [Act.put,aS,aC,aZ]
 refine wpAnyH_done (by kernel_rfl) ?_ _
 clear hS
 have hd:((s:Int) != (t:Int))=false:=by simp [heq]
 clear heq
 rw [hd]
 generalize hw0:({ w with drawn:=w.drawn+1 }:World)=w0
 have HB0:Hid (Below w.heap.size w w0):=hw0▸yD9 w _
 have h0:=h.later HB0.out
 clear HA HBr HSa HSb hw0
 go_wp2
 obtain ⟨vc,rc,sc⟩:=sub_lh h0 5 (5+n) (by omega) (by omega)
 obtain ⟨vd,rd,sd⟩:=sub_l h0 (5+n+4) (by omega)
 rw [show ((5+n:Nat):Int)=5+(n:Int) by omega,show ((5:Nat):Int)=5 from rfl] at rc
 rw [show ((5+n+4:Nat):Int)=5+(n:Int)+4 by omega] at rd
 obtain ⟨b,j,ri,ci⟩:=run_index h0 4 (by omega)
 rw [show ((4:Nat):Int)=4 from rfl] at ri
 have hlt:b<w0.heap.size:=block_lt_of_cell ci
 rw [hc.out] at ci
 refine wp_region_held (S:=UnS w0 b j c vc vd ((cs.take (5+n)).drop 5) (cs.drop (5+n+4))) (by kernel_rfl) ?_
 show wpAnyH _ _ _ _ _ 16 (Array.replicate 16 false) _ _
 have hS:UnS w0 b j c vc vd ((cs.take (5+n)).drop 5) (cs.drop (5+n+4)) { w0 with drawn:=w0.drawn+1 }:=⟨ci,sc.later (yD9 w0 _),sd.later (yD9 w0 _),yD9 w0 _⟩
 refine tH 0 40 rfl rfl (yMove rfl (.tmp 0) rfl v rfl) hS ?_
 refine tH 1 41 rfl rfl (yIndex rfl (.tmp 40) (.const (.int .i64 4)) rfl v rfl (.int .i64 4) rfl (.pointer (some ⟨b,j,none⟩)) ri) hS ?_
 refine tH 2 42 rfl rfl (yLoad rfl (.tmp 41) rfl b j rfl c (fun W hW=>hW.1)) hS ?_
 simp only [Act.put,aS,aC,aZ]
 refine tH 3 43 rfl rfl (yMove rfl (.tmp 0) rfl v rfl) hS ?_
 refine tH 4 44 rfl rfl (yMove rfl (.tmp 7) rfl (.int .i64 (5+(n:Int))) rfl) hS ?_
 refine tH 5 45 rfl rfl (yMove rfl (.tmp 7) rfl (.int .i64 (5+(n:Int))) rfl) hS ?_
 simp only [Act.put,aS,aC,aZ]
 refine tH 6 46 rfl rfl (ySub rfl (.tmp 43) (some (.const (.int .i64 5))) (some (.tmp 44)) (some (.tmp 45)) rfl v vc rfl rc) hS ?_
 refine tH 8 48 rfl rfl (yMove rfl (.tmp 0) rfl v rfl) hS ?_
 refine tH 9 49 rfl rfl (yMove rfl (.tmp 8) rfl (.int .i64 (5+(n:Int)+4)) rfl) hS ?_
 simp only [Act.put,aS,aC,aZ]
 refine tH 10 50 rfl rfl (ySub rfl (.tmp 48) (some (.tmp 49)) none none rfl v vd rfl rd) hS ?_
 simp only [Act.put,aS,aC,aZ]
 refine oneH (i:=7) (by kernel_rfl) ?_
 refine yG9 (some 47) rfl rfl rfl 95 _ (yC2 en24 [.tmp 46] _ rfl [vc] rfl) ?_
 refine (told_any vc ((cs.take (5+n)).drop 5) _ hS.2.1 (by simp;omega)).mono ?_
 rintro e w2 ⟨v2,rfl,o2,b2⟩
 have hS2:UnS w0 b j c vc vd ((cs.take (5+n)).drop 5) (cs.drop (5+n+4)) w2:=⟨by rw [b2.cell (p:=⟨b,j,none⟩) hlt];exact hS.1,hS.2.1.later b2,hS.2.2.1.later b2,yE1 hS.2.2.2 b2⟩
 have O2:Hid (BOwn w2 w0.heap.size v2 ((cs.take (5+n)).drop 5)):=o2.weaken hS.2.2.2.size
 refine ⟨_,rfl,hS2,?_⟩
 clear hS o2 b2
 simp only [Act.put,aS,aC,aZ]
 refine oneH (i:=11) (by kernel_rfl) ?_
 refine yG9 (some 51) rfl rfl rfl 95 _ (yC2 en24 [.tmp 50] _ rfl [vd] rfl) ?_
 refine (told_any vd (cs.drop (5+n+4)) _ hS2.2.2.1 (by simp;omega)).mono ?_
 rintro e w3 ⟨v3,rfl,o3,b3⟩
 have hS3:UnS w0 b j c vc vd ((cs.take (5+n)).drop 5) (cs.drop (5+n+4)) w3:=⟨by rw [b3.cell (p:=⟨b,j,none⟩) (Nat.lt_of_lt_of_le hlt hS2.2.2.2.size)];exact hS2.1,hS2.2.1.later b3,hS2.2.2.1.later b3,yE1 hS2.2.2.2 b3⟩
 have O3:Hid (BOwn w3 w0.heap.size v3 (cs.drop (5+n+4))):=o3.weaken hS2.2.2.2.size
 have O23:Hid (BOwn w3 w0.heap.size v2 ((cs.take (5+n)).drop 5)):=O2.out.later b3 (Nat.le_refl _)
 have AP:Hid (v3.ownBlock=none∨v3.ownBlock≠v2.ownBlock):=O2.out.apart' o3 (Nat.le_refl _)
 refine ⟨_,rfl,hS3,?_⟩
 clear hS2 o3 b3 O2
 simp only [Act.put,aS,aC,aZ]
 refine tH 12 2 rfl rfl (yAssign rfl (.tmp 42) rfl (.int .u8 (c:Nat)) rfl) hS3 ?_
 refine tH 13 3 rfl rfl (yAssign rfl (.tmp 47) rfl v2 rfl) hS3 ?_
 refine tH 14 4 rfl rfl (yAssign rfl (.tmp 51) rfl v3 rfl) hS3 ?_
 simp only [Act.put,aS,aC,aZ]
 refine tH 15 5 rfl rfl (yAssign rfl (.const (.int .i64 0)) rfl (.int .i64 0) rfl) hS3 ?_
 simp only [Act.put,aS,aC,aZ]
 refine wpAnyH_done (by kernel_rfl) ?_ _
 have B3:Hid (Below w.heap.size w w3):=yE1 HB0.out hS3.2.2.2
 clear hS3 rc rd ri sc sd ci hlt
 go_wp2
 refine bodyPost_ret (results_tmp4 rfl _ _ _) rfl ?_
 exact ⟨v2,v3,rfl,O23.out.weaken HB0.out.size,O3.out.weaken HB0.out.size,AP.out,B3.out⟩
theorem unpack_any (v:Value) (cs:List Nat) (w:World) (h:yA2 w v cs) (ht:TabIn w) (hsz:cs.length≤281474976710656) :
  Calls Tryd.prog 78 #[v] w fun e w' => ∃vp vr,e = .returned (.tuple #[.int .u8 (Frame.kindOf cs:Nat),vp,vr,.int .i64 (Frame.errOf cs:Nat)])∧BOwn w' w.heap.size vp (Frame.payOf cs)∧BOwn w' w.heap.size vr (Frame.restOf cs)∧(vr.ownBlock=none∨vr.ownBlock≠vp.ownBlock)∧Below w.heap.size w w':=by
 have bad:Frame.okB cs=false→∀(e:Ending) (w':World),e = .returned (.tuple #[.int .u8 0,.slice none 0 0,.slice none 0 0,.int .i64 40])→Below w.heap.size w w'→∃vp vr,e = .returned (.tuple #[.int .u8 (Frame.kindOf cs:Nat),vp,vr,.int .i64 (Frame.errOf cs:Nat)])∧BOwn w' w.heap.size vp (Frame.payOf cs)∧BOwn w' w.heap.size vr (Frame.restOf cs)∧(vr.ownBlock=none∨vr.ownBlock≠vp.ownBlock)∧Below w.heap.size w w':=by
  rintro ho e w' rfl hb
  unfold Frame.kindOf Frame.errOf Frame.payOf Frame.restOf
  rw [ho]
  exact ⟨_,_,rfl,BOwn.nil _ _,BOwn.nil _ _,Or.inl rfl,hb⟩
 by_cases h9:9≤cs.length
 ·by_cases hf:Frame.lenOf cs+9≤cs.length
  ·by_cases hs:Frame.val ((cs.take (5+Frame.lenOf cs+4)).drop (5+Frame.lenOf cs))=Frame.crc (cs.take (5+Frame.lenOf cs))
   ·have ho:Frame.okB cs=true:=decide_eq_true ⟨h9,by omega,hs⟩
    refine (unpack_right v cs (Frame.lenOf cs) w h ht h9 rfl (Frame.lenOf_lt cs h.mem) hf hsz _ _ rfl rfl (Frame.crc_lt _) hs (cs.getD 4 0) rfl).mono ?_
    rintro e w' ⟨vp,vr,rfl,h1,h2,h3,h4⟩
    unfold Frame.kindOf Frame.errOf Frame.payOf Frame.restOf
    rw [ho]
    exact ⟨vp,vr,rfl,h1,h2,h3,h4⟩
   ·have ho:Frame.okB cs=false:=decide_eq_false fun h=>hs h.2.2
    exact (unpack_wrong v cs (Frame.lenOf cs) w h ht h9 rfl (Frame.lenOf_lt cs h.mem) hf hsz _ _ rfl rfl (Frame.crc_lt _) hs).mono fun e w' h=>bad ho e w' h.1 h.2
  ·have ho:Frame.okB cs=false:=decide_eq_false fun h=>hf (by omega)
   exact (unpack_far v cs (Frame.lenOf cs) w h h9 rfl (by omega) hsz).mono fun e w' h=>bad ho e w' h.1 (h.2▸Below.refl _ _)
 ·have ho:Frame.okB cs=false:=decide_eq_false fun h=>h9 h.1
  exact (unpack_short v cs w h (by omega)).mono fun e w' h=>bad ho e w' h.1 (h.2▸Below.refl _ _)
end Go.Proofs.YtpkkkkomdblpoaaDoor.Fr

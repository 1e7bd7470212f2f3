/- The walk of (*State).Sum. Rows of hashes in memory: what a slice of hashes holds, what the call owns; a hash in a block of its own; the laws of len, cutting, index, literals, append, array slices, comparison. The walks of sha.New and of sha.Sum. -/
import Derived.Test.YtpkkkkomdblpoaaDoorS04
import Derived.Great.BuildSlice
import Derived.OrdersHeld
namespace Go.Proofs.YtpkkkkomdblpoaaDoor.Sh
open Go.RowKit
section
variable {w:World} {ops:Array Oper} {rest:List Oper} {o:Oper} {a:Act} {Q:Exit→Act→World→Prop}
theorem yE8 (x:Operand) (hgd:o.guard=none) (ho:o.op = .nilCheck x) (p:Addr) (hx:a.eval x = .pointer (some p))
  (h:wpList Tryd.prog ops Q rest (a.put o.dst (.pointer (some p))) w):wpList Tryd.prog ops Q (o :: rest) a w :=
 yB1 hgd _ w (by simp [execOp,ho,hx]) h
end
theorem yB5 {α:Type} (zs cs:List α) (h:cs.length=zs.length):splice zs 0 cs=cs:=by
 unfold splice
 rw [List.take_zero,List.nil_append,Nat.zero_add,h,List.drop_length,List.append_nil]
theorem yI7:zeroState.length=73:=by simp [zeroState,yE0,yB4]
def outTo (v:Sha.W8) (k:Nat):List Nat:=(v.list.take k).flatMap Sha.wordBytes
theorem outTo_next (v:Sha.W8) (k:Nat) (hk:k<8):outTo v (k+1)=outTo v k++Sha.wordBytes (v.list.getD k 0):=by
 unfold outTo
 have h:k<v.list.length:=hk
 rw [List.take_succ_eq_append_getElem h,List.flatMap_append]
 simp [h]
theorem outTo_length (v:Sha.W8) (k:Nat) (hk:k≤8):(outTo v k).length=4 * k:=by
 induction k with
 | zero=>simp [outTo]
 | succ k ih =>
  rw [outTo_next v k hk,List.length_append,ih (by omega)]
  simp [Sha.wordBytes]
  omega
theorem outTo_all (v:Sha.W8):outTo v 8=Sha.outBytes v:=by
 unfold outTo Sha.outBytes
 rw [List.take_of_length_le (Nat.le_of_eq v.list_length)]
theorem sha_length (m:List Nat):(Sha.sha m).length=32:=by
 unfold Sha.sha
 rw [←outTo_all,outTo_length _ _ (Nat.le_refl _)]
def OutIn (w W:World) (g2 g4:Nat) (v:Sha.W8) (k:Nat):Prop:=Row W g4 52 (fillB (outTo v k) (32 - 4 * k))∧Row W g2 52 (yB4 32)∧Below w.heap.size w W
theorem out_U24 (x:BitVec 32):Sha.U x / 16777216 % 256=((x.toNat / 16777216 % 256:Nat):Int):=by unfold Sha.U;omega
theorem out_U16 (x:BitVec 32):Sha.U x / 65536 % 256=((x.toNat / 65536 % 256:Nat):Int):=by unfold Sha.U;omega
theorem out_U8 (x:BitVec 32):Sha.U x / 256 % 256=((x.toNat / 256 % 256:Nat):Int):=by unfold Sha.U;omega
theorem out_U0 (x:BitVec 32):Sha.U x % 256=((x.toNat % 256:Nat):Int):=by unfold Sha.U;omega
theorem OutIn.step {w W:World} {g2 g4:Nat} {v:Sha.W8} {k:Nat} (h:OutIn w W g2 g4 v k) (hk:k<8) (h24:g2≠g4) (hg4:w.heap.size≤g4) (x:BitVec 32) (hx:x=v.list.getD k 0) :
  OutIn w ((((W.setCell ⟨g4,4 * k,none⟩ (.int .u8 (Sha.U x / 16777216 % 256))).setCell ⟨g4,4 * k+1,none⟩ (.int .u8 (Sha.U x / 65536 % 256))).setCell ⟨g4,4 * k+2,none⟩ (.int .u8 (Sha.U x / 256 % 256))).setCell ⟨g4,4 * k+3,none⟩ (.int .u8 (Sha.U x % 256))) g2 g4 v (k+1):=by
 refine ⟨?_,(((h.2.1.setCell_other h24 _ _).setCell_other h24 _ _).setCell_other h24 _ _).setCell_other h24 _ _,(((h.2.2.setCell hg4 _).setCell hg4 _).setCell hg4 _).setCell hg4 _⟩
 rw [out_U24,out_U16,out_U8,out_U0,outTo_next v k hk,←hx]
 have hl:=outTo_length v k (by omega)
 have h1:=h.1
 generalize outTo v k=B at *
 rw [show 32 - 4 * k=(32 - 4 * (k+1))+1+1+1+1 by omega] at h1
 have e1:=h1.setCell (4 * k) (.int .u8 ((x.toNat / 16777216 % 256:Nat):Int))
 rw [←hl,fillB_set] at e1
 have e2:=e1.setCell ((4 * k)+1) (.int .u8 ((x.toNat / 65536 % 256:Nat):Int))
 rw [show 4 * k+1=(B++[x.toNat / 16777216 % 256]).length by simp [hl],fillB_set] at e2
 have e3:=e2.setCell ((4 * k)+2) (.int .u8 ((x.toNat / 256 % 256:Nat):Int))
 rw [show 4 * k+2=(B++[x.toNat / 16777216 % 256]++[x.toNat / 65536 % 256]).length by simp [hl],fillB_set] at e3
 have e4:=e3.setCell ((4 * k)+3) (.int .u8 ((x.toNat % 256:Nat):Int))
 rw [show 4 * k+3=(B++[x.toNat / 16777216 % 256]++[x.toNat / 65536 % 256]++[x.toNat / 256 % 256]).length by simp [hl],fillB_set] at e4
 simp only [List.length_append,List.length_cons,List.length_nil,hl,List.append_assoc,List.cons_append,List.nil_append,Nat.zero_add] at e4
 exact e4
set_option maxHeartbeats 1000000 in
set_option maxRecDepth 100000 in
theorem stateSum_any (g:Nat) (m:List Nat) (w:World) (hs:StIn w g m) (ht:TabIn w) (hg:1<g) (hlen:m.length<1152921504606846976) :
  Calls Tryd.prog 83 #[.pointer (some ⟨g,0,none⟩)] w fun e w'=>e = .returned (.agg (yA0 (Sha.sha m)).toArray)∧Below w.heap.size w w':=by
 have hglt:=hs.lt
 go_enter Tryd.func83,Tryd.ntmps83
 go_upto_region 0 with fail
 refine wp_region_lit ?_
 refine yD3 (yB4 32) zero25 rfl rfl ?_
 intro w1 r1 s1 b1
 refine wpList_nil ?_
 go_upto_region 1 with fail
 refine wp_region_lit ?_
 refine yC7 (.tmp 0) rfl rfl _ rfl ?_
 refine yE8 (.tmp 7) rfl rfl _ rfl ?_
 obtain ⟨buf,hr,hb64,hbl,hbt⟩:=hs.later b1 hs.lt
 have hl73:(yD6 (Sha.full m) buf m.length).length=73:=by rw [stCells_length,hb64]
 refine yF1 agg41 (.tmp 8) rfl rfl _ _ rfl (yD6 (Sha.full m) buf m.length) hl73 (fun j u hu=>by rw [Nat.zero_add];exact hr.at j u hu) ?_
 refine yD3 zeroState zero41 rfl rfl ?_
 intro w2 r2 s2 b2
 refine yE2 agg41 (.tmp 3) (.tmp 9) rfl rfl rfl w1.heap.size 0 173 rfl (yD6 (Sha.full m) buf m.length) zeroState rfl hl73 r2 (by rw [hl73,yI7];decide) (stCells_one _ _ _) ?_
 refine wpList_nil ?_
 rw [yB5 _ _ (by rw [hl73,yI7])]
 have hs3:StIn (w2.setRow w1.heap.size (yD6 (Sha.full m) buf m.length).toArray) w1.heap.size m:=⟨buf,r2.setRow _,hb64,hbl,hbt⟩
 have b3:Below w.heap.size w (w2.setRow w1.heap.size (yD6 (Sha.full m) buf m.length).toArray):=below_setRow (b1.trans (b2.mono (by omega))) (by omega) _
 have r3:Row (w2.setRow w1.heap.size (yD6 (Sha.full m) buf m.length).toArray) w.heap.size 52 (yB4 32):=(r1.later b2 (by omega)).setRow_other (by omega) _
 obtain ⟨g3,hg3⟩:∃g3,g3=w1.heap.size:=⟨_,rfl⟩
 obtain ⟨g2,hg2⟩:∃g2,g2=w.heap.size:=⟨_,rfl⟩
 rw [←hg3] at hs3 b3 r3 ⊢
 rw [←hg2] at r3 ⊢
 have h23:g2<g3:=by omega
 have HG2:Hid (g2=w.heap.size):=hg2
 have hlt3:=hs3.lt
 generalize w2.setRow g3 (yD6 (Sha.full m) buf m.length).toArray=w3 at *
 clear r1 r2 b1 b2 s1 s2 hr hl73 hbt hbl hb64 hg3 hg2 hs
 go_wp2_with fail
 refine (writeEnd_any g3 m _ hs3 (ht.later b3) (by have:=HG2.out;omega) hlen).mono ?_
 rintro e w4 ⟨rfl,hs4,ho4⟩
 have b4:Below w.heap.size w w4:=b3.trans (ho4.below (by have:=HG2.out;omega) b3.size)
 have r4:Row w4 g2 52 (yB4 32):=ho4.row (by omega) r3
 clear hs3 b3 r3 ho4 hlt3
 go_upto_region 3 with fail
 refine wp_region_lit ?_
 refine yD3 (yB4 32) zero25 rfl rfl ?_
 intro w5 r5 s5 b5
 refine wpList_nil ?_
 have hs5:=hs4.later b5 hs4.lt
 have b6:Below w.heap.size w w5:=b4.trans (b5.mono (b4.size))
 have r6:=r4.later b5 r4.lt
 have hlt4:=r4.lt
 have hlt5:=b4.size
 have hlt6:=hs4.lt
 obtain ⟨g4,hg4⟩:∃g4,g4=w4.heap.size:=⟨_,rfl⟩
 rw [←hg4] at r5 hlt4 hlt5 hlt6 ⊢
 clear hs4 b4 r4 b5 s5 hg4
 obtain ⟨V,hV⟩:∃V,V=Sha.full (m++Sha.pad m.length):=⟨_,rfl⟩
 obtain ⟨buf5,hr5,_⟩:=hs5
 rw [←hV] at hr5
 have k0:=hr5.at 0 (.int .u32 (Sha.U V.a)) (yD8 _ _ _ 0 (by decide))
 have k1:=hr5.at 1 (.int .u32 (Sha.U V.b)) (yD8 _ _ _ 1 (by decide))
 have k2:=hr5.at 2 (.int .u32 (Sha.U V.c)) (yD8 _ _ _ 2 (by decide))
 have k3:=hr5.at 3 (.int .u32 (Sha.U V.d)) (yD8 _ _ _ 3 (by decide))
 have k4:=hr5.at 4 (.int .u32 (Sha.U V.e)) (yD8 _ _ _ 4 (by decide))
 have k5:=hr5.at 5 (.int .u32 (Sha.U V.f)) (yD8 _ _ _ 5 (by decide))
 have k6:=hr5.at 6 (.int .u32 (Sha.U V.g)) (yD8 _ _ _ 6 (by decide))
 have k7:=hr5.at 7 (.int .u32 (Sha.U V.h)) (yD8 _ _ _ 7 (by decide))
 have HV:Hid (V=Sha.full (m++Sha.pad m.length)):=hV
 have HO:Hid (OutIn w w5 g2 g4 V 0):=⟨r5,r6,b6⟩
 have HB:Hid (w.heap.size≤g4):=hlt5
 clear hr5 hV r5 r6 b6 hlt5
 go_wp2
 go_loopw [13] (fun i W => ∃k:Nat,k≤8∧i = .int .i64 k∧OutIn w W g2 g4 V k) (fun i _=>8 - (intOf i).toNat)
 case atStart=>exact ⟨0,Nat.zero_le _,rfl,HO.out⟩
 case round =>
  clear HO k0 k1 k2 k3 k4 k5 k6 k7
  obtain ⟨k,hk,rfl,ho⟩:=hrel
  by_cases hlt:k<8
  ·have HO:Hid (OutIn w wr g2 g4 V k):=ho
   have l4:=ho.1
   have hll:(fillB (outTo V k) (32 - 4 * k)).length=32:=by rw [fillB_length,outTo_length _ _ hk];omega
   obtain ⟨q0,e0⟩:∃q,wr.cell? ⟨g4,4 * k,none⟩=some q:=⟨_,l4.at _ _ (List.getElem?_eq_getElem (by omega))⟩
   obtain ⟨q1,e1⟩:∃q,wr.cell? ⟨g4,4 * k+1,none⟩=some q:=⟨_,l4.at _ _ (List.getElem?_eq_getElem (by omega))⟩
   obtain ⟨q2,e2⟩:∃q,wr.cell? ⟨g4,4 * k+2,none⟩=some q:=⟨_,l4.at _ _ (List.getElem?_eq_getElem (by omega))⟩
   obtain ⟨q3,e3⟩:∃q,wr.cell? ⟨g4,4 * k+3,none⟩=some q:=⟨_,l4.at _ _ (List.getElem?_eq_getElem (by omega))⟩
   have f0:=l4.frozen (4 * k)
   have f1:=l4.frozen (4 * k+1)
   have f2:=l4.frozen (4 * k+2)
   have f3:=l4.frozen (4 * k+3)
   clear ho l4 hll
   go_upto_region 6 with fail
   refine wp_region_lit ?_
   refine yC7 (.tmp 13) rfl rfl _ rfl ?_
   refine wpList_index8 (.tmp 12) (.tmp 13) rfl rfl (yC0 V.list) rfl k hlt rfl _ (yJ8 V.list k hlt) ?_
   obtain ⟨x,hx⟩:∃x,x=V.list.getD k 0:=⟨_,rfl⟩
   rw [←hx]
   have HX:Hid (x=V.list.getD k 0):=hx
   clear hx
   go_wp2
   exact ⟨⟨k+1,by omega,by go_num,HO.out.step hlt (by omega) HB.out x HX.out⟩,by simp [intOf];omega⟩
  ·obtain rfl:k=8:=by omega
   have r2:=ho.2.1
   have r4:Row wr g4 52 (yA0 (Sha.sha m)):=by
    have h:=ho.1
    rw [outTo_all,HV.out] at h
    have h':Row wr g4 52 (yA0 (Sha.outBytes (Sha.full (m++Sha.pad m.length)))):=by simpa [fillB,yB4] using h
    exact h'
   have bl:=ho.2.2
   clear ho
   have hl32:(yA0 (Sha.sha m)).length=32:=by rw [yA1,sha_length]
   go_upto_region 9 with fail
   refine wp_region_lit ?_
   refine yF1 agg25 (.tmp 4) rfl rfl _ _ rfl (yA0 (Sha.sha m)) hl32 (fun j u hu=>by rw [Nat.zero_add];exact r4.at j u hu) ?_
   refine yE2 agg25 (.tmp 2) (.tmp 44) rfl rfl rfl g2 0 52 rfl (yA0 (Sha.sha m)) (yB4 32) rfl hl32 r2 (by rw [hl32];simp [yB4]) (yB0 _) ?_
   refine wpList_nil ?_
   rw [yB5 _ _ (by rw [hl32];simp [yB4])]
   have hr:=r2.setRow (yA0 (Sha.sha m))
   have hbl:=below_setRow bl (show w.heap.size≤g2 by have:=HG2.out;omega) (yA0 (Sha.sha m)).toArray
   clear r2 bl r4
   go_wp2
   exact bodyPost_ret (yG3 agg25 Tryd.results83 _ _ g2 52 rfl _ hl32 hr) rfl ⟨rfl,hbl⟩
end Go.Proofs.YtpkkkkomdblpoaaDoor.Sh

namespace Go.Proofs.YtpkkkkomdblpoaaDoor.Sh
open Go.RowKit
def IsH (h:List Nat):Prop:=h.length=32∧∀c∈h,c<256
def AllH (hs:List (List Nat)):Prop := ∀h∈hs,IsH h
def hv (h:List Nat):Value:=.agg (yA0 h).toArray
theorem wordBytes_lt (x:BitVec 32):∀c∈Sha.wordBytes x,c<256:=by
 intro c hc
 simp only [Sha.wordBytes,List.mem_cons,List.not_mem_nil,or_false] at hc
 omega
theorem sha_isH (m:List Nat):IsH (Sha.sha m):=by
 refine ⟨sha_length m,fun c hc => ?_⟩
 unfold Sha.sha Sha.outBytes at hc
 obtain ⟨x,_,hx⟩:=List.mem_flatMap.1 hc
 exact wordBytes_lt x c hx
theorem leaf_isH (b:List Nat):IsH (Tree.leaf b):=sha_isH _
theorem node_isH (l r:List Nat):IsH (Tree.node l r):=sha_isH _
theorem AllH.take {hs:List (List Nat)} (h:AllH hs) (k:Nat):AllH (hs.take k):=fun x hx=>h x (List.mem_of_mem_take hx)
theorem AllH.drop {hs:List (List Nat)} (h:AllH hs) (k:Nat):AllH (hs.drop k):=fun x hx=>h x (List.mem_of_mem_drop hx)
theorem AllH.at {hs:List (List Nat)} (h:AllH hs) (i:Nat) (hi:i<hs.length):IsH (hs.getD i []):=by
 rw [List.getD_eq_getElem?_getD,List.getElem?_eq_getElem hi]
 exact h _ (List.getElem_mem hi)
theorem root_isH:∀(n:Nat) (hs:List (List Nat)),hs.length=n→AllH hs→IsH (Tree.root hs):=by
 intro n hs hn ha
 rcases Nat.lt_or_ge hs.length 2 with h|h
 ·rcases Nat.lt_or_ge hs.length 1 with h0|h0
  ·rw [Tree.root_none hs (by omega)]
   exact sha_isH _
  ·rw [Tree.root_one hs (by omega)]
   exact ha.at 0 (by omega)
 ·rw [Tree.root_two hs h]
  exact node_isH _ _
theorem AllH.root {hs:List (List Nat)} (h:AllH hs):IsH (Tree.root hs):=root_isH _ hs rfl h
theorem flat_length (hs:List (List Nat)) (h:AllH hs):hs.flatten.length=hs.length * 32:=by
 induction hs with
 | nil=>rfl
 | cons x xs ih =>
  rw [List.flatten_cons,List.length_append,ih (fun y hy=>h y (List.mem_cons_of_mem _ hy)),(h x (List.mem_cons_self ..)).1,List.length_cons,Nat.add_mul]
  omega
theorem flat_take (hs:List (List Nat)) (h:AllH hs) (k:Nat):(hs.take k).flatten=hs.flatten.take (k * 32):=by
 induction hs generalizing k with
 | nil=>simp
 | cons x xs ih =>
  cases k with
  | zero=>simp
  | succ k =>
   have hx:=(h x (List.mem_cons_self ..)).1
   rw [List.take_succ_cons,List.flatten_cons,List.flatten_cons,ih (fun y hy=>h y (List.mem_cons_of_mem _ hy)),List.take_append,List.take_of_length_le (l:=x) (i:=(k+1) * 32) (by omega),show (k+1) * 32 - x.length=k * 32 by omega]
theorem flat_drop (hs:List (List Nat)) (h:AllH hs) (k:Nat):(hs.drop k).flatten=hs.flatten.drop (k * 32):=by
 induction hs generalizing k with
 | nil=>simp
 | cons x xs ih =>
  cases k with
  | zero=>simp
  | succ k =>
   have hx:=(h x (List.mem_cons_self ..)).1
   rw [List.drop_succ_cons,List.flatten_cons,ih (fun y hy=>h y (List.mem_cons_of_mem _ hy)),List.drop_append,List.drop_of_length_le (l:=x) (i:=(k+1) * 32) (by omega),List.nil_append,show (k+1) * 32 - x.length=k * 32 by omega]
theorem flat_at (hs:List (List Nat)) (h:AllH hs) (i j:Nat) (hi:i<hs.length) (hj:j<32):hs.flatten.getD (i * 32+j) 0=(hs.getD i []).getD j 0:=by
 induction hs generalizing i with
 | nil=>simp at hi
 | cons x xs ih =>
  have hx:=(h x (List.mem_cons_self ..)).1
  rw [List.flatten_cons]
  cases i with
  | zero=>simp [List.getElem?_append_left,hx,hj]
  | succ i =>
   have:=ih (fun y hy=>h y (List.mem_cons_of_mem _ hy)) i (by simpa using hi)
   rw [List.getD_eq_getElem?_getD,List.getElem?_append_right (by omega),hx,show (i+1) * 32+j - 32=i * 32+j by omega,←List.getD_eq_getElem?_getD,this]
   simp
theorem flat_lt (hs:List (List Nat)) (h:AllH hs) (j:Nat):hs.flatten.getD j 0<256:=by
 by_cases hj:j<hs.flatten.length
 ·have hm:=List.getElem_mem hj
  obtain ⟨l,hl,hx⟩:=List.mem_flatten.1 hm
  rw [List.getD_eq_getElem?_getD,List.getElem?_eq_getElem hj]
  exact (h l hl).2 _ hx
 ·rw [List.getD_eq_getElem?_getD,List.getElem?_eq_none (by omega)]
  decide
def HIn (w:World) (v:Value) (hs:List (List Nat)):Prop :=
 AllH hs∧∃p cap,v = .slice p hs.length cap∧(hs.length≤cap∧hs.length≤9223372036854775807)∧(hs=[]∨∃b off,p=some ⟨b,off,none⟩∧BytesIn w b off hs.flatten)
def HOwn (w:World) (base:Nat) (v:Value) (hs:List (List Nat)):Prop:=AllH hs∧w.ownsRow base 52 32 v hs.length (yA0 hs.flatten)
def HIs (w:World) (g:Nat) (h:List Nat):Prop:=IsH h∧Row w g 52 (yA0 h)
theorem HIn.all {w:World} {v:Value} {hs:List (List Nat)} (h:HIn w v hs):AllH hs:=h.1
theorem HIn.later {w wx:World} {v:Value} {hs:List (List Nat)} (hb:Below w.heap.size w wx) (h:HIn w v hs):HIn wx v hs:=by
 obtain ⟨ha,p,cap,rfl,hl,h⟩:=h
 refine ⟨ha,p,cap,rfl,hl,?_⟩
 rcases h with h|⟨b,off,rfl,h⟩
 ·exact Or.inl h
 ·exact Or.inr ⟨b,off,rfl,h.later hb⟩
theorem HOwn.hin {w:World} {base:Nat} {v:Value} {hs:List (List Nat)} (h:HOwn w base v hs):HIn w v hs:=by
 obtain ⟨ha,h⟩:=h
 refine ⟨ha,?_⟩
 rcases h.2 with ⟨rfl,h0⟩|⟨g,cap,cur,rfl,_,hg,hcap,hmax,hsz,htake⟩
 ·obtain rfl:hs=[]:=List.length_eq_zero_iff.1 h0
  exact ⟨none,0,rfl,⟨Nat.le_refl _,by decide⟩,Or.inl rfl⟩
 ·unfold maxLen at hmax
  refine ⟨_,cap,rfl,⟨hcap,by omega⟩,Or.inr ⟨g,0,rfl,fun j hj => ?_,flat_lt hs ha⟩⟩
  have h2:=h.cells (g:=g) rfl j _ (yC3 hs.flatten j hj)
  rw [yB7] at h2
  exact h2
theorem HIs.lt {w:World} {g:Nat} {h:List Nat} (k:HIs w g h):g<w.heap.size:=k.2.lt
theorem HIs.later {w w':World} {B g:Nat} {h:List Nat} (k:HIs w g h) (hb:Below B w w') (hg:g<B):HIs w' g h:=⟨k.1,k.2.later hb hg⟩
theorem HIs.next {w w':World} {g:Nat} {h:List Nat} (k:HIs w g h) (hb:Below w.heap.size w w'):HIs w' g h:=k.later hb k.lt
theorem HIs.len {w:World} {g:Nat} {h:List Nat} (k:HIs w g h):(yA0 h).length=32:=by rw [yA1];exact k.1.1
theorem HIs.other {w w':World} {g k:Nat} {h:List Nat} (hh:HIs w k h) (ho:Only g w w') (hk:k≠g):HIs w' k h:=⟨hh.1,ho.row hk hh.2⟩
def noH:List Nat:=List.replicate 32 0
theorem noH_isH:IsH noH:=⟨by simp [noH],fun c hc=>by have:=(List.mem_replicate.1 hc).2;omega⟩
theorem noH_cells:yB4 32=yA0 noH:=by simp [yB4,yA0,noH]
theorem yE1 {a b c:World} (h:Below a.heap.size a b) (k:Below b.heap.size b c):Below a.heap.size a c:=h.trans (k.mono h.size)
theorem size27:(Tryd.prog.info? 52).map (·.size)=some 32:=by kernel_rfl
theorem info27:(Tryd.prog.info? 52).map (fun i=>(i.zero,i.size,i.bytes))=some (some (.agg (yB4 32).toArray),32,32):=by kernel_rfl
theorem elem24:Tryd.prog.elem 107=52:=by kernel_rfl
theorem under24:Tryd.prog.underlying 107=some (.slice (Tryd.prog.elem 107)):=by rw [elem24];exact Tryd.underlying107
theorem run_size27 (w:World):(sizeOf 52).run Tryd.prog w = .ok 32 w:=by
 obtain ⟨i,hi,hsz⟩:=Option.map_eq_some_iff.1 size27
 simp [sizeOf,typeInfo,hi,hsz]
theorem hsub_in {w:World} {hs:List (List Nat)} (ha:AllH hs) {p:Option Addr} {cap:Nat} (hl:hs.length≤cap∧hs.length≤9223372036854775807) (hin:hs=[]∨∃b off,p=some ⟨b,off,none⟩∧BytesIn w b off hs.flatten)
  (l h m:Nat) (h1:l≤h) (h2:h≤hs.length) (h3:h≤m):HIn w (sliced p l h m 32) ((hs.take h).drop l):=by
 have hlen:((hs.take h).drop l).length=h - l:=by simp;omega
 refine ⟨(ha.take h).drop l,?_⟩
 unfold sliced
 by_cases hz:h=l
 ·have e:(hs.take h).drop l=[]:=List.length_eq_zero_iff.1 (by omega)
  rw [e]
  refine ⟨if m=l then p else p.map (·.add (l * 32)),m - l,?_,⟨by simp,by simp⟩,Or.inl rfl⟩
  rw [show h - l=([]:List (List Nat)).length by simp;omega]
 ·rcases hin with rfl|⟨b,off,rfl,hc,hb⟩
  ·simp at h2
   omega
  ·refine ⟨_,m - l,by rw [hlen],⟨by omega,by omega⟩,Or.inr ⟨b,off+l * 32,?_,fun j hj => ?_,flat_lt _ ((ha.take h).drop l)⟩⟩
   ·rw [if_neg (by omega),Option.map_some,yB7]
   ·have hfl:=flat_length _ ((ha.take h).drop l)
    rw [hlen] at hfl
    rw [hfl] at hj
    have h7:(h - l) * 32=h * 32 - l * 32:=by omega
    have e:((hs.take h).drop l).flatten.getD j 0=hs.flatten.getD (l * 32+j) 0:=by
     rw [flat_drop _ (ha.take h),flat_take _ ha]
     simp [show l * 32+j<h * 32 by omega]
    rw [e,Nat.add_assoc]
    refine hc (l * 32+j) ?_
    rw [flat_length hs ha]
    have:h * 32≤hs.length * 32:=Nat.mul_le_mul_right 32 h2
    omega
theorem run_hto {w:World} {v:Value} {hs:List (List Nat)} (hin:HIn w v hs) (k:Nat) (hk:k≤hs.length) :
  ∃v',(∀w',(Instr.slice 107 v none (some (.int .i64 (k:Nat))) none).run Tryd.prog w' = .ok v' w')∧HIn w v' (hs.take k):=by
 obtain ⟨ha,p,cap,rfl,hl,hin⟩:=hin
 refine ⟨sliced p 0 k cap 32,fun w' => ?_,hsub_in ha hl hin 0 k cap (Nat.zero_le _) hk (by omega)⟩
 rw [run_slice_h _ _ _ _ _ under24 _ _ (by omega) (by omega),elem24,run_size27];rfl
theorem run_hfrom {w:World} {v:Value} {hs:List (List Nat)} (hin:HIn w v hs) (k:Nat) (hk:k≤hs.length) :
  ∃v',(∀w',(Instr.slice 107 v (some (.int .i64 (k:Nat))) none none).run Tryd.prog w' = .ok v' w')∧HIn w v' (hs.drop k):=by
 obtain ⟨ha,p,cap,rfl,hl,hin⟩:=hin
 refine ⟨sliced p k hs.length cap 32,fun w' => ?_,?_⟩
 ·rw [run_slice_l _ _ _ _ _ under24 _ _ (by omega) (by omega),elem24,run_size27];rfl
 ·have:=hsub_in ha hl hin k hs.length cap hk (Nat.le_refl _) hl.1
  rwa [List.take_length] at this
def HAt (w:World) (p:Value) (h:List Nat):Prop:=IsH h∧∃b o,p = .pointer (some ⟨b,o,none⟩)∧∀j,j<32→w.cell? ⟨b,o+j,none⟩=some (.int .u8 (h.getD j 0:Nat))
theorem run_hindex {w:World} {v:Value} {hs:List (List Nat)} (hin:HIn w v hs) (k:Nat) (hk:k<hs.length) :
  ∃p,(∀w',(Instr.indexAt 107 v (.int .i64 (k:Nat))).run Tryd.prog w' = .ok p w')∧HAt w p (hs.getD k []):=by
 obtain ⟨ha,p,cap,rfl,hl,hin⟩:=hin
 rcases hin with rfl|⟨b,off,rfl,hc,_⟩
 ·simp at hk
 obtain ⟨i27,hi27,hsz⟩:=Option.map_eq_some_iff.1 size27
 refine ⟨.pointer (some ⟨b,off+k * 32,none⟩),fun w'=>by simp [Instr.indexAt,asIntOf,run_underlying Tryd.underlying107,hk,sizeOf,typeInfo,hi27,hsz,yB7],ha.at k hk,b,_,rfl,fun j hj => ?_⟩
 have:=flat_length hs ha
 have h2:(k+1) * 32≤hs.length * 32:=Nat.mul_le_mul_right 32 hk
 rw [Nat.add_assoc,hc (k * 32+j) (by omega),flat_at hs ha k j hk hj]
theorem run_hload {w:World} {p:Value} {h:List Nat} (k:HAt w p h):(Instr.loadAt 52 p).run Tryd.prog w = .ok (hv h) w:=by
 obtain ⟨hh,b,o,rfl,hc⟩:=k
 have hr:=yF9 agg25 w b o (yA0 h) (by rw [yA1];exact hh.1) (fun j v hv=>by
  have hj:j<h.length:=by
   have:=(List.getElem?_eq_some_iff.1 hv).1
   rwa [yA1] at this
  rw [hc j (by rw [←hh.1];exact hj),←hv,yC3 h j hj])
 simp [Instr.loadAt,Instr.sureAddr,hr,hv]
theorem yB2 (w:World) (o:Obj):Below w.heap.size w (w.alloc o):=(Below.refl _ _).alloc (Nat.le_refl _) _
end Go.Proofs.YtpkkkkomdblpoaaDoor.Sh

namespace Go.Proofs.YtpkkkkomdblpoaaDoor.Sh
open Go.RowKit
def yJ3 (w:World):Prop := ∀i:Nat,i<8→w.cell? ⟨0,i,none⟩=some (.int .u32 (Sha.U (Sha.start.list.getD i 0)))
theorem yJ3.later {w wx:World} (hb:Below w.heap.size w wx) (h:yJ3 w):yJ3 wx:=fun t ht=>cell_later hb (h t ht)
def yK3:List Value:=yD6 Sha.start (List.replicate 64 0) 0
theorem full_nil:Sha.full []=Sha.start:=rfl
theorem stIn_new {w:World} {g:Nat} (h:Row w g 173 yK3):StIn w g []:=by
 refine ⟨List.replicate 64 0,?_,by simp,?_,rfl⟩
 ·rw [full_nil]
  exact h
 ·intro c hc
  have:=(List.mem_replicate.1 hc).2
  omega
section
variable {w:World} {ops:Array Oper} {rest:List Oper} {o:Oper} {a:Act} {Q:Exit→Act→World→Prop}
theorem run_build:(Instr.build 173 #[(0,.agg (yC0 Sha.start.list).toArray)]).run Tryd.prog w = .ok (.agg yK3.toArray) w:=by
 kernel_rfl
theorem wpList_build (x:Operand) (hgd:o.guard=none) (ho:o.op = .build 173 #[(0,x)]) (hx:a.eval x = .agg (yC0 Sha.start.list).toArray)
  (h:wpList Tryd.prog ops Q rest (a.put o.dst (.agg yK3.toArray)) w):wpList Tryd.prog ops Q (o :: rest) a w :=
 yB1 hgd _ w (by simp [execOp,ho,hx,run_build]) h
end
theorem newCells_length:yK3.length=73:=by unfold yK3;rw [stCells_length];simp
theorem start_at {w:World} (h:yJ3 w):∀j v,(yC0 Sha.start.list)[j]? = some v→w.cell? ⟨0,0+j,none⟩=some v:=by
 intro j v hv
 have hj:j<8:=by
  have:=(List.getElem?_eq_some_iff.1 hv).1
  rwa [len8] at this
 rw [Nat.zero_add,h j hj,←hv,yJ8 Sha.start.list j hj]
theorem TabIn.lt {w:World} (h:TabIn w):1<w.heap.size:=block_lt_of_cell (h 0 (by decide))
set_option maxHeartbeats 1000000 in
theorem new_any (w:World) (hst:yJ3 w) :
  Calls Tryd.prog 81 #[] w fun e w'=>e = .returned (.pointer (some ⟨w.heap.size,0,none⟩))∧StIn w' w.heap.size []∧Below w.heap.size w w':=by
 go_enter Tryd.func81,Tryd.ntmps81
 go_upto_region 1 with fail
 refine wp_region_lit ?_
 refine yF1 agg37 (.global 0) rfl rfl 0 0 rfl (yC0 Sha.start.list) (len8 _) (start_at hst) ?_
 refine wpList_build (.tmp 1) rfl rfl rfl ?_
 refine yI2 (.tmp 2) rfl rfl yK3 rfl ?_
 intro w1 r1 s1 b1
 refine yE3 (.tmp 3) rfl rfl _ rfl ?_
 refine wpList_nil ?_
 have hs1:=stIn_new r1
 clear r1 s1
 go_wp2
 go_ret
 exact ⟨rfl,hs1,b1⟩
set_option maxHeartbeats 1000000 in
set_option maxRecDepth 100000 in
theorem sum_any (v:Value) (cs:List Nat) (w:World) (hv:yA2 w v cs) (ht:TabIn w) (hst:yJ3 w) (hlen:cs.length<1152921504606846976) :
  Calls Tryd.prog 84 #[v] w fun e w'=>e = .returned (.agg (yA0 (Sha.sha cs)).toArray)∧Below w.heap.size w w':=by
 have h1lt:=ht.lt
 go_enter Tryd.func84,Tryd.ntmps84
 go_upto_region 0 with fail
 refine wp_region_lit ?_
 refine yD3 (yB4 32) zero25 rfl rfl ?_
 intro w1 r1 s1 b1
 refine wpList_nil ?_
 go_upto_region 1 with fail
 refine wp_region_lit ?_
 refine yF1 agg37 (.global 0) rfl rfl 0 0 rfl (yC0 Sha.start.list) (len8 _) (start_at (hst.later b1)) ?_
 refine wpList_build (.tmp 4) rfl rfl rfl ?_
 refine yD3 zeroState zero41 rfl rfl ?_
 intro w2 r2 s2 b2
 refine yE2 agg41 (.tmp 3) (.tmp 5) rfl rfl rfl w1.heap.size 0 173 rfl yK3 zeroState rfl newCells_length r2 (by rw [newCells_length,yI7];decide) (stCells_one _ _ _) ?_
 refine wpList_nil ?_
 rw [yB5 _ _ (by rw [newCells_length,yI7])]
 have hs3:StIn (w2.setRow w1.heap.size yK3.toArray) w1.heap.size []:=stIn_new (r2.setRow _)
 have b3:Below w.heap.size w (w2.setRow w1.heap.size yK3.toArray):=below_setRow (b1.trans (b2.mono (by omega))) (by omega) _
 have r3:Row (w2.setRow w1.heap.size yK3.toArray) w.heap.size 52 (yB4 32):=(r1.later b2 (by omega)).setRow_other (by omega) _
 obtain ⟨g3,hg3⟩:∃g3,g3=w1.heap.size:=⟨_,rfl⟩
 obtain ⟨g2,hg2⟩:∃g2,g2=w.heap.size:=⟨_,rfl⟩
 rw [←hg3] at hs3 b3 r3 ⊢
 rw [←hg2] at r3 ⊢
 have h23:g2<g3:=by omega
 have HG2:Hid (g2=w.heap.size):=hg2
 generalize w2.setRow g3 yK3.toArray=w3 at *
 clear r1 r2 b1 b2 s1 s2 hg3 hg2
 go_wp2_with fail
 refine (write_any g3 v [] cs _ hs3 (hv.off (by have:=HG2.out;omega) b3) (ht.later b3) (by have:=HG2.out;omega) (by simp;omega)).mono ?_
 rintro e w4 ⟨rfl,hs4,ho4⟩
 have b4:Below w.heap.size w w4:=b3.trans (ho4.below (by have:=HG2.out;omega) b3.size)
 have r4:Row w4 g2 52 (yB4 32):=ho4.row (by omega) r3
 rw [List.nil_append] at hs4
 clear hs3 b3 r3 ho4
 go_upto_region 3 with fail
 refine wp_region_lit ?_
 have hcall:=stateSum_any g3 cs w4 hs4 (ht.later b4) (by have:=HG2.out;omega) hlen
 go_wp2_with (go_at_call 83;refine hcall.mono ?_)
 rintro e w5 ⟨rfl,b5⟩
 have b6:Below w.heap.size w w5:=b4.trans (b5.mono b4.size)
 have r5:=r4.later b5 r4.lt
 clear hcall hs4 r4 b4 b5
 have hl32:(yA0 (Sha.sha cs)).length=32:=by rw [yA1,sha_length]
 simp only []
 go_step
 refine yE2 agg25 (.tmp 2) (.tmp 8) rfl rfl rfl g2 0 52 rfl (yA0 (Sha.sha cs)) (yB4 32) rfl hl32 r5 (by rw [hl32];simp [yB4]) (yB0 _) ?_
 refine wpList_nil ?_
 rw [yB5 _ _ (by rw [hl32];simp [yB4])]
 have hr:=r5.setRow (yA0 (Sha.sha cs))
 have hbl:=below_setRow b6 (show w.heap.size≤g2 by have:=HG2.out;omega) (yA0 (Sha.sha cs)).toArray
 clear r5 b6
 go_wp2
 exact bodyPost_ret (yG3 agg25 Tryd.results84 _ _ g2 52 rfl _ hl32 hr) rfl ⟨rfl,hbl⟩
end Go.Proofs.YtpkkkkomdblpoaaDoor.Sh



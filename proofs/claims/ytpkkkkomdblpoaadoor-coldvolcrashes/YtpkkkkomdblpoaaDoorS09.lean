/- The walks of tree.Root and of the document's Root. The walks of the statements' leaves and same. Bytes and rows: cutting, appending, making, copying, strings; rows that are known whole. chunk's count, size and numbers. chunk's piece and told. chunk's leaves, Root and Proof. -/
import Derived.Test.YtpkkkkomdblpoaaDoorS08
import Derived.Laws.MakeOwn
namespace Go.Proofs.YtpkkkkomdblpoaaDoor.Sh
open Go.RowKit
section
variable {w w0:World} {ops:Array Oper} {rest:List Oper} {o:Oper} {a:Act} {Q:Exit→Act→World→Prop}
theorem wl_lenN (x:Operand) (hgd:Region.wanted o (yielded ops a.tmps)=true) (ho:o.op = .call { callee:=.builtin .len,args:=#[x],argTypes:=#[107] }) (v:Value) (hs:List (List Nat)) (hx:a.eval x=v) (hin:HIn w0 v hs) (N:Nat) (hN:hs.length=N)
  (h:wpList Tryd.prog ops Q rest (a.put o.dst (.int .i64 (N:Nat))) w):wpList Tryd.prog ops Q (o :: rest) a w:=wl hgd _ _ (rx_len x ho v hs hx hin) (by rw [hN];exact h)
end
set_option maxHeartbeats 1000000 in
set_option maxRecDepth 100000 in
theorem root_none (v:Value) (hs:List (List Nat)) (w:World) (hn:hs.length=0) (h:HIn w v hs) (ht:TabIn w) (hst:yJ3 w) :
  Calls Tryd.prog 68 #[v] w fun e w'=>e = .returned (hv (Tree.root hs))∧Below w.heap.size w w':=by
 have HN:Hid (hs.length=0):=hn
 have HR:Hid (Tree.root hs=Sha.sha []):=Tree.root_none hs hn
 clear hn
 obtain ⟨g0,hg0⟩:∃g0,g0=w.heap.size:=⟨_,rfl⟩
 have G0:Hid (g0=w.heap.size):=hg0
 go_enter Tryd.func68,Tryd.ntmps68
 go_upto_region 0 with fail
 refine wp_region_lit ?_
 refine wl_alloc rfl rfl ?_
 rw [←hg0]
 intro w1 r1 s1 b1
 refine wpList_nil ?_
 have R1:Hid (HIs w1 g0 noH∧Below w.heap.size w w1):=⟨r1,hg0▸b1⟩
 clear r1 s1 b1 hg0
 have sliceNil':yA2 w1 (.slice none 0 0) []:=⟨none,0,rfl,⟨Nat.le_refl _,by decide⟩,Or.inl rfl⟩
 go_wp2_with (first
  | (refine wl_lenN (.tmp 4) rfl rfl v hs rfl h 0 HN.out ?_)
  | (go_at_call 84;refine (sum_any _ [] w1 sliceNil' (ht.later R1.out.2) (hst.later R1.out.2) (by decide)).mono ?_;rintro e w2 ⟨rfl,b2⟩;rw [show (Value.agg (yA0 (Sha.sha [])).toArray)=hv (Sha.sha []) from rfl];have R2:Hid (HIs w2 g0 noH∧Below w.heap.size w w2):=⟨R1.out.1.next b2,yE1 R1.out.2 b2⟩;clear b2)
  | (refine wl_store (.tmp 2) (.tmp 8) rfl rfl rfl g0 rfl noH (Sha.sha []) (sha_isH _) rfl R2.out.1 ?_;intro w7 r7 o7 s7;have R7:Hid (HIs w7 g0 (Sha.sha [])∧Below w.heap.size w w7):=⟨r7,R2.out.2.trans (o7.below (Nat.le_of_eq G0.out.symm) R2.out.2.size)⟩;clear r7 o7 s7))
 exact bodyPost_ret (results_H Tryd.results68 _ _ g0 rfl _ R7.out.1) rfl ⟨by rw [HR.out],R7.out.2⟩
set_option maxHeartbeats 1000000 in
set_option maxRecDepth 100000 in
theorem root_one (v:Value) (hs:List (List Nat)) (w:World) (hn:hs.length=1) (h:HIn w v hs) :
  Calls Tryd.prog 68 #[v] w fun e w'=>e = .returned (hv (Tree.root hs))∧Below w.heap.size w w':=by
 have HN:Hid (hs.length=1):=hn
 have HR:Hid (Tree.root hs=hs.getD 0 []):=Tree.root_one hs hn
 have HX:Hid (IsH (hs.getD 0 [])):=h.all.at 0 (by omega)
 generalize hx:hs.getD 0 []=x at HR HX
 have HXE:Hid (hs.getD 0 []=x):=hx
 clear hn hx
 obtain ⟨g0,hg0⟩:∃g0,g0=w.heap.size:=⟨_,rfl⟩
 have G0:Hid (g0=w.heap.size):=hg0
 go_enter Tryd.func68,Tryd.ntmps68
 go_upto_region 0 with fail
 refine wp_region_lit ?_
 refine wl_alloc rfl rfl ?_
 rw [←hg0]
 intro w1 r1 s1 b1
 refine wpList_nil ?_
 have R1:Hid (HIs w1 g0 noH∧Below w.heap.size w w1):=⟨r1,hg0▸b1⟩
 clear r1 s1 b1 hg0
 go_wp2_with (first
  | (refine wl_lenN (.tmp 4) rfl rfl v hs rfl h 1 HN.out ?_)
  | (refine wl_index (.tmp 11) (.const (.int .i64 0)) rfl rfl v hs rfl (h.later R1.out.2) _ 0 rfl rfl (by have:=HN.out;omega) ?_;intro p hp;rw [HXE.out] at hp)
  | (refine wl_load (.tmp 12) rfl rfl p rfl x hp ?_)
  | (refine wl_store (.tmp 2) (.tmp 13) rfl rfl rfl g0 rfl noH (x) (HX.out) rfl R1.out.1 ?_;intro w7 r7 o7 s7;have R7:Hid (HIs w7 g0 (x)∧Below w.heap.size w w7):=⟨r7,R1.out.2.trans (o7.below (Nat.le_of_eq G0.out.symm) R1.out.2.size)⟩;clear r7 o7 s7))
 exact bodyPost_ret (results_H Tryd.results68 _ _ g0 rfl _ R7.out.1) rfl ⟨by rw [HR.out],R7.out.2⟩
def rootS (w:World) (g0:Nat) (va vb:Value) (xs ys:List (List Nat)) (W:World):Prop:=HIn W va xs∧HIn W vb ys∧TabIn W∧yJ3 W∧(∃z,HIs W g0 z)∧Below w.heap.size w W
set_option maxHeartbeats 1000000 in
set_option maxRecDepth 100000 in
theorem root_any:∀(n:Nat) (v:Value) (hs:List (List Nat)) (w:World),hs.length=n→n≤4611686018427387904→HIn w v hs→TabIn w→yJ3 w →
  Calls Tryd.prog 68 #[v] w fun e w'=>e = .returned (hv (Tree.root hs))∧Below w.heap.size w w':=by
 intro n
 induction n using Nat.strongRecOn with
 | _ n ih =>
 intro v hs w hn hmax h ht hst
 by_cases h0:n=0
 ·exact root_none v hs w (by omega) h ht hst
 by_cases h1:n=1
 ·exact root_one v hs w (by omega) h
 have h2:2≤n:=by omega
 have HN:Hid (hs.length=n):=hn
 have hk:=Tree.half_lt n h2
 have hkp:=Tree.half_pos n
 have HR:Hid (Tree.root hs=Tree.node (Tree.root (hs.take (Tree.half n))) (Tree.root (hs.drop (Tree.half n)))):=by
  have:=Tree.root_two hs (by omega)
  rwa [hn] at this
 have HK:Hid (∀W,Calls Tryd.prog 85 #[.int .i64 (n:Nat)] W fun e w'=>e = .returned (.int .i64 (Tree.half n:Nat))∧W=w'):=fun W=>split_any n W h2 hmax
 generalize Tree.half n=k at hk hkp HR HK
 obtain ⟨va,ra,sa⟩:=run_hto h k (by omega)
 obtain ⟨vb,rb,sb⟩:=run_hfrom h k (by omega)
 have HA:Hid (∀w',(Instr.slice 107 v none (some (.int .i64 (k:Nat))) none).run Tryd.prog w' = .ok va w'):=ra
 have HBr:Hid (∀w',(Instr.slice 107 v (some (.int .i64 (k:Nat))) none none).run Tryd.prog w' = .ok vb w'):=rb
 have HSa:Hid (HIn w va (hs.take k)):=sa
 have HSb:Hid (HIn w vb (hs.drop k)):=sb
 have hne0:((n:Int) == 0)=false:=by simpa using h0
 have hne1:((n:Int) == 1)=false:=by simp;omega
 have hne0':¬ ((n:Int)=0):=by omega
 have hne1':¬ ((n:Int)=1):=by omega
 have LA:Hid ((hs.take k).length=k):=by show _=_;rw [List.length_take];omega
 have LB:Hid ((hs.drop k).length=n - k):=by show _=_;rw [List.length_drop];omega
 clear ra rb sa sb hn
 obtain ⟨g0,hg0⟩:∃g0,g0=w.heap.size:=⟨_,rfl⟩
 have G0:Hid (g0=w.heap.size):=hg0
 go_enter Tryd.func68,Tryd.ntmps68
 go_upto_region 0 with fail
 refine wp_region_lit ?_
 refine wl_alloc rfl rfl ?_
 rw [←hg0]
 intro w1 r1 s1 b1
 refine wpList_nil ?_
 have R1:Hid (HIs w1 g0 noH∧Below w.heap.size w w1):=⟨r1,hg0▸b1⟩
 clear r1 s1 b1 hg0
 go_wp2_with (first
  | (refine wl_lenN (.tmp 4) rfl rfl v hs rfl h n HN.out ?_)
  | (refine wl_lenN (.tmp 14) rfl rfl v hs rfl h n HN.out ?_)
  | (go_at_call 85;refine (HK.out _).mono ?_;rintro e w' ⟨rfl,rfl⟩))
 refine wp_region_held (S:=rootS w g0 va vb (hs.take k) (hs.drop k)) (by kernel_rfl) ?_
 show wpAnyH _ _ _ _ _ 10 (Array.replicate 10 false) _ _
 have b1:Below w.heap.size w { w1 with drawn:=w1.drawn+1 }:=yE1 R1.out.2 (yD9 w1 _)
 have hS:rootS w g0 va vb (hs.take k) (hs.drop k) { w1 with drawn:=w1.drawn+1 }:=⟨HSa.out.later b1,HSb.out.later b1,ht.later b1,hst.later b1,⟨noH,R1.out.1⟩,b1⟩
 clear b1
 refine takeH (i:=0) (some 17) rfl rfl (by kernel_rfl) (by kernel_rfl) (by kernel_rfl) (fun _ _ _ h=>h) (yMove rfl (.tmp 0) rfl (v) rfl) hS ?_
 simp only [Act.put,List.setIfInBounds_toArray,List.set_cons_succ,List.set_cons_zero]
 refine takeH (i:=1) (some 18) rfl rfl (by kernel_rfl) (by kernel_rfl) (by kernel_rfl) (fun _ _ _ h=>h) (yMove rfl (.tmp 3) rfl (.int .i64 (k:Nat)) rfl) hS ?_
 simp only [Act.put,List.setIfInBounds_toArray,List.set_cons_succ,List.set_cons_zero]
 refine takeH (i:=2) (some 19) rfl rfl (by kernel_rfl) (by kernel_rfl) (by kernel_rfl) (fun _ _ _ h=>h) (ySub rfl (.tmp 17) none (some (.tmp 18)) rfl v va rfl HA.out) hS ?_
 simp only [Act.put,List.setIfInBounds_toArray,List.set_cons_succ,List.set_cons_zero]
 refine takeH (i:=4) (some 21) rfl rfl (by kernel_rfl) (by kernel_rfl) (by kernel_rfl) (fun _ _ _ h=>h) (yMove rfl (.tmp 0) rfl (v) rfl) hS ?_
 simp only [Act.put,List.setIfInBounds_toArray,List.set_cons_succ,List.set_cons_zero]
 refine takeH (i:=5) (some 22) rfl rfl (by kernel_rfl) (by kernel_rfl) (by kernel_rfl) (fun _ _ _ h=>h) (yMove rfl (.tmp 3) rfl (.int .i64 (k:Nat)) rfl) hS ?_
 simp only [Act.put,List.setIfInBounds_toArray,List.set_cons_succ,List.set_cons_zero]
 refine takeH (i:=6) (some 23) rfl rfl (by kernel_rfl) (by kernel_rfl) (by kernel_rfl) (fun _ _ _ h=>h) (ySub rfl (.tmp 21) (some (.tmp 22)) none rfl v vb rfl HBr.out) hS ?_
 simp only [Act.put,List.setIfInBounds_toArray,List.set_cons_succ,List.set_cons_zero]
 refine oneH (i:=3) (by kernel_rfl) ?_
 refine yG9 (some 20) rfl rfl rfl 68 _ (yC2 en12 [.tmp 19] _ rfl [va] rfl) ?_
 refine (ih k (by omega) va (hs.take k) _ LA.out (by omega) hS.1 hS.2.2.1 hS.2.2.2.1).mono ?_
 rintro e w2 ⟨rfl,b2⟩
 have hS2:rootS w g0 va vb (hs.take k) (hs.drop k) w2:=⟨hS.1.later b2,hS.2.1.later b2,hS.2.2.1.later b2,hS.2.2.2.1.later b2,(hS.2.2.2.2.1.elim fun z hz=>⟨z,hz.next b2⟩),hS.2.2.2.2.2.trans (b2.mono hS.2.2.2.2.2.size)⟩
 refine ⟨_,rfl,hS2,?_⟩
 clear hS b2
 simp only [Act.put,List.setIfInBounds_toArray,List.set_cons_succ,List.set_cons_zero]
 refine oneH (i:=7) (by kernel_rfl) ?_
 refine yG9 (some 24) rfl rfl rfl 68 _ (yC2 en12 [.tmp 23] _ rfl [vb] rfl) ?_
 refine (ih (n - k) (by omega) vb (hs.drop k) _ LB.out (by omega) hS2.2.1 hS2.2.2.1 hS2.2.2.2.1).mono ?_
 rintro e w3 ⟨rfl,b3⟩
 have hS3:rootS w g0 va vb (hs.take k) (hs.drop k) w3:=⟨hS2.1.later b3,hS2.2.1.later b3,hS2.2.2.1.later b3,hS2.2.2.2.1.later b3,(hS2.2.2.2.2.1.elim fun z hz=>⟨z,hz.next b3⟩),hS2.2.2.2.2.2.trans (b3.mono hS2.2.2.2.2.2.size)⟩
 refine ⟨_,rfl,hS3,?_⟩
 clear hS2 b3
 simp only [Act.put,List.setIfInBounds_toArray,List.set_cons_succ,List.set_cons_zero]
 refine oneH (i:=8) (by kernel_rfl) ?_
 refine yG9 (some 25) rfl rfl rfl 86 _ (yC2 en14 [.tmp 20,.tmp 24] _ rfl [hv (Tree.root (hs.take k)),hv (Tree.root (hs.drop k))] rfl) ?_
 refine (node_any _ _ (AllH.root (h.all.take k)) (AllH.root (h.all.drop k)) w3 hS3.2.2.1 hS3.2.2.2.1).mono ?_
 rintro e w4 ⟨rfl,b4⟩
 have hS4:rootS w g0 va vb (hs.take k) (hs.drop k) w4:=⟨hS3.1.later b4,hS3.2.1.later b4,hS3.2.2.1.later b4,hS3.2.2.2.1.later b4,(hS3.2.2.2.2.1.elim fun z hz=>⟨z,hz.next b4⟩),hS3.2.2.2.2.2.trans (b4.mono hS3.2.2.2.2.2.size)⟩
 refine ⟨_,rfl,hS4,?_⟩
 clear hS3 b4
 simp only [Act.put,List.setIfInBounds_toArray,List.set_cons_succ,List.set_cons_zero]
 rw [←HR.out]
 refine oneH (i:=9) (by kernel_rfl) ?_
 obtain ⟨z,hz⟩:=hS4.2.2.2.2.1
 refine opSkip rfl rfl rfl _ (rx_store (.tmp 2) (.tmp 25) rfl g0 rfl z (Tree.root hs) h.all.root rfl hz) ?_
 have R5:Hid (HIs (w4.setRow g0 (yA0 (Tree.root hs)).toArray) g0 (Tree.root hs)∧Below w.heap.size w (w4.setRow g0 (yA0 (Tree.root hs)).toArray)):=⟨his_store h.all.root hz,below_setRow hS4.2.2.2.2.2 (Nat.le_of_eq G0.out.symm) _⟩
 refine ⟨⟨HSa.out.later R5.out.2,HSb.out.later R5.out.2,ht.later R5.out.2,hst.later R5.out.2,⟨_,R5.out.1⟩,R5.out.2⟩,?_⟩
 generalize w4.setRow g0 (yA0 (Tree.root hs)).toArray=w5 at R5 ⊢
 clear hS4 hz
 refine wpAnyH_done (by kernel_rfl) ?_ _
 go_wp2_with fail
 exact bodyPost_ret (results_H Tryd.results68 _ _ g0 rfl _ R5.out.1) rfl ⟨rfl,R5.out.2⟩
end Go.Proofs.YtpkkkkomdblpoaaDoor.Sh

namespace Go.Proofs.YtpkkkkomdblpoaaDoor.Sh
open Go.RowKit
theorem elem22:Tryd.prog.elem 38=5:=by kernel_rfl
theorem under22:Tryd.prog.underlying 38=some (.slice (Tryd.prog.elem 38)):=by rw [elem22];exact Tryd.underlying38
section
variable {w w0:World} {ops:Array Oper} {rest:List Oper} {o:Oper} {a:Act} {Q:Exit→Act→World→Prop}
theorem wl_blen (x:Operand) (hgd:Region.wanted o (yielded ops a.tmps)=true) (ho:o.op = .call { callee:=.builtin .len,args:=#[x],argTypes:=#[38] }) (v:Value) (cs:List Nat) (hx:a.eval x=v) (hin:yA2 w0 v cs)
  (h:wpList Tryd.prog ops Q rest (a.put o.dst (.int .i64 (cs.length:Nat))) w):wpList Tryd.prog ops Q (o :: rest) a w:=by
 obtain ⟨p,cap,rfl,hl,_⟩:=hin
 have hr:(Builtin.len_ #[38] o.type #[.slice p cs.length cap]).run Tryd.prog w = .ok (goInt cs.length) w:=run_len_slice w _ _ _ _ _ under22
 refine wl hgd _ w ?_ h
 simp only [execOp,ho,resolve,invoke,builtin,Sem.run_bind,Sem.run_pure,Result.andThen_ok,List.map_toArray,List.map_cons,List.map_nil,hx,hr]
 rfl
end
end Go.Proofs.YtpkkkkomdblpoaaDoor.Sh



namespace Go.Proofs.YtpkkkkomdblpoaaDoor.Sh
open Go.RowKit
theorem mem_lt' {cs:List Nat} (h:∀j:Nat,cs.getD j 0<256):∀c∈cs,c<256:=by
 intro c hc
 obtain ⟨j,hj,rfl⟩:=List.getElem_of_mem hc
 simpa [hj] using h j
theorem yA2.len_max {w:World} {v:Value} {cs:List Nat} (h:yA2 w v cs):cs.length≤9223372036854775807:=by
 obtain ⟨p,cap,rfl,hl,_⟩:=h
 exact hl.2
theorem size5:(Tryd.prog.info? 5).map (·.size)=some 1:=by kernel_rfl
theorem sub_in {w:World} {cs:List Nat} {p:Option Addr} {cap:Nat} (hl:cs.length≤cap∧cs.length≤9223372036854775807) (hin:cs=[]∨∃b off,p=some ⟨b,off,none⟩∧BytesIn w b off cs)
  (l h m:Nat) (h1:l≤h) (h2:h≤cs.length) (h3:h≤m):yA2 w (sliced p l h m 1) ((cs.take h).drop l):=by
 have hlen:((cs.take h).drop l).length=h - l:=by simp;omega
 unfold sliced
 by_cases hz:h=l
 ·have e:(cs.take h).drop l=[]:=List.length_eq_zero_iff.1 (by omega)
  rw [e]
  refine ⟨if m=l then p else p.map (·.add (l * 1)),m - l,?_,⟨by simp,by simp⟩,Or.inl rfl⟩
  rw [show h - l=([]:List Nat).length by simp;omega]
 ·rcases hin with rfl|⟨b,off,rfl,hc,hb⟩
  ·simp at h2
   omega
  ·refine ⟨_,m - l,by rw [hlen],⟨by omega,by omega⟩,Or.inr ⟨b,off+l,?_,fun j hj => ?_,fun j => ?_⟩⟩
   ·rw [if_neg (by omega),Option.map_some,Nat.mul_one,yB7]
   ·rw [hlen] at hj
    have e:((cs.take h).drop l).getD j 0=cs.getD (l+j) 0:=by simp [show l+j<h by omega]
    rw [e,Nat.add_assoc]
    exact hc (l+j) (by omega)
   ·refine lt256 _ (fun c hc' => ?_) j
    exact mem_lt' hb c (List.mem_of_mem_take (List.mem_of_mem_drop hc'))
def SubOf (lo hi mx:Option Value) (n l h:Nat):Prop :=
 ((lo=none∧l=0)∨∃L:Int,lo=some (.int .i64 L)∧L=(l:Int))∧((hi=none∧mx=none∧h=n)∨∃H:Int,hi=some (.int .i64 H)∧H=(h:Int)∧(mx=none∨mx=some (.int .i64 H)))∧l≤h∧h≤n
theorem run_bsub {w:World} {v:Value} {cs:List Nat} (hin:yA2 w v cs) {lo hi mx:Option Value} {l h:Nat} (hs:SubOf lo hi mx cs.length l h) :
  ∃v',(∀w',(Instr.slice 38 v lo hi mx).run Tryd.prog w' = .ok v' w')∧yA2 w v' ((cs.take h).drop l):=by
 obtain ⟨p,cap,rfl,hl,hin⟩:=hin
 obtain ⟨hlo,hhi,h1,h2⟩:=hs
 obtain ⟨i,hi5,hsz⟩:=Option.map_eq_some_iff.1 size5
 have hsize:∀w':World,(sizeOf 5).run Tryd.prog w' = .ok 1 w':=fun w'=>by simp [sizeOf,typeInfo,hi5,hsz]
 have key:∀m:Nat,h≤m→((∀w',(Instr.slice 38 (.slice p cs.length cap) lo hi mx).run Tryd.prog w' = .ok (sliced p l h m 1) w')→∃v',(∀w',(Instr.slice 38 (.slice p cs.length cap) lo hi mx).run Tryd.prog w' = .ok v' w')∧yA2 w v' ((cs.take h).drop l)) :=
  fun m hm hr=>⟨_,hr,sub_in hl hin l h m h1 h2 hm⟩
 have hu':=under22
 rcases hlo with ⟨rfl,rfl⟩|⟨L,rfl,rfl⟩
 ·rcases hhi with ⟨rfl,rfl,rfl⟩|⟨H,rfl,rfl,rfl|rfl⟩
  ·exact key cap hl.1 fun w'=>by rw [run_slice_all _ _ _ _ _ hu',elem22,hsize];rfl
  ·exact key cap (by omega) fun w'=>by rw [run_slice_h _ _ _ _ _ hu' _ _ (by omega) (by omega),elem22,hsize];rfl
  ·exact key h (Nat.le_refl _) fun w'=>by rw [run_slice_hm _ _ _ _ _ hu' _ _ _ _ (by omega) (by omega) (by omega),elem22,hsize];rfl
 ·rcases hhi with ⟨rfl,rfl,rfl⟩|⟨H,rfl,rfl,rfl|rfl⟩
  ·exact key cap hl.1 fun w'=>by rw [run_slice_l _ _ _ _ _ hu' _ _ (by omega) (by omega),elem22,hsize];rfl
  ·exact key cap (by omega) fun w'=>by rw [run_slice_lh _ _ _ _ _ hu' _ _ _ _ (by omega) (by omega) (by omega),elem22,hsize];rfl
  ·exact key h (Nat.le_refl _) fun w'=>by rw [run_slice_lhm _ _ _ _ _ hu' _ _ _ _ _ _ (by omega) (by omega) (by omega) (by omega),elem22,hsize];rfl
def whole (g n:Nat):Value:=.slice (some ⟨g,0,none⟩) n n
section
variable {w w0:World} {ops:Array Oper} {rest:List Oper} {o:Oper} {a:Act} {Q:Exit→Act→World→Prop}
theorem wl_blenN (x:Operand) (hgd:Region.wanted o (yielded ops a.tmps)=true) (ho:o.op = .call { callee:=.builtin .len,args:=#[x],argTypes:=#[38] }) (v:Value) (cs:List Nat) (hx:a.eval x=v) (hin:yA2 w0 v cs) (N:Nat) (hN:cs.length=N)
  (h:wpList Tryd.prog ops Q rest (a.put o.dst (.int .i64 (N:Nat))) w):wpList Tryd.prog ops Q (o :: rest) a w:=wl_blen x hgd ho v cs hx hin (by rw [hN];exact h)
theorem wl_bsub (x:Operand) (lo hi mx:Option Operand) (hgd:Region.wanted o (yielded ops a.tmps)=true) (ho:o.op = .slice 38 x lo hi mx) (v:Value) (cs:List Nat) (hx:a.eval x=v) (hin:yA2 w v cs) (l h':Nat)
  (hs:SubOf (lo.map a.eval) (hi.map a.eval) (mx.map a.eval) cs.length l h')
  (h:∀v',yA2 w v' ((cs.take h').drop l)→wpList Tryd.prog ops Q rest (a.put o.dst v') w):wpList Tryd.prog ops Q (o :: rest) a w:=by
 obtain ⟨v',hr,hv'⟩:=run_bsub hin hs
 refine wl hgd v' w ?_ (h v' hv')
 simp [execOp,ho,hx,run_sliceAt_slice _ _ _ _ _ _ under22,hr]
theorem wl_make (l c:Operand) (t e:TypeId) (z:Value) (sz bts:Nat) (hgd:Region.wanted o (yielded ops a.tmps)=true) (ho:o.op = .makeSlice t l c) (hu:Tryd.prog.underlying t=some (.slice e)) (hinfo:(Tryd.prog.info? e).map (fun i=>(i.zero,i.size,i.bytes))=some (some z,sz,bts))
  (n:Nat) (hl:a.eval l = .int .i64 (n:Nat)) (hc:a.eval c = .int .i64 (n:Nat)) (hb:bts * n≤281474976710656) (hn:n≤9223372036854775807)
  (h:∀w',Row w' w.heap.size e (madeCells z.cells (n * sz)).toList→w'.heap.size=w.heap.size+1→Below w.heap.size w w'→wpList Tryd.prog ops Q rest (a.put o.dst (whole w.heap.size n)) w'):wpList Tryd.prog ops Q (o :: rest) a w:=by
 obtain ⟨i,hi,hz0,hz1,hz2⟩:=info_parts hinfo
 have hr:=run_make (P:=Tryd.prog) (w:=w) t e i z hu hi hz0 .i64 .i64 (n:Nat) (n:Nat) (by omega) (Int.le_refl _) (by rw [hz2];omega) (by omega)
 rw [Int.toNat_natCast,hz1] at hr
 exact wl hgd _ _ (by simp only [execOp,ho,hl,hc,hr,Sem.run_bind,Sem.run_pure,Result.andThen_ok];rfl) (h _ (Row.new' w e _) (by show (w.heap.push _).size=_;simp) (yB2 w _))
end
theorem made29 (n:Nat):(madeCells (Value.agg (yB4 32).toArray).cells (n * 32)).toList=yA0 (List.replicate n noH).flatten:=by
 have e:(List.replicate n noH).flatten=List.replicate (n * 32) 0:=by
  unfold noH
  rw [List.flatten_replicate_replicate]
 rw [e]
 have e2:∀k:Nat,k<32→(yB4 32).getD k default = .int .u8 0:=by
  intro k hk
  unfold yB4
  rw [List.getD_eq_getElem?_getD,List.getElem?_replicate,if_pos hk]
  rfl
 show (madeCells (yB4 32).toArray (n * 32)).toList=_
 have e3:(yB4 32).length=32:=List.length_replicate ..
 generalize yB4 32=z at e2 e3
 apply List.ext_getElem
 ·rw [yA1]
  simp [madeCells]
 ·intro j h1 h2
  have:=e2 (j % 32) (Nat.mod_lt _ (by decide))
  simp [yA0,madeCells,e3]
  simpa using this
end Go.Proofs.YtpkkkkomdblpoaaDoor.Sh
namespace Go.Proofs.YtpkkkkomdblpoaaDoor.Sh
open Go.RowKit
theorem count_any (L:Int) (hl : -9223372036854775808≤L) (hm:L≤9223372036854775807) (W:World):Calls Tryd.prog 121 #[.int .i64 L] W fun e w'=>e = .returned (.int .i64 (Cut.count L.toNat:Nat))∧W=w':=by
 by_cases h:L<1
 ·have HC:Hid (Cut.count L.toNat=0):=by
   show _=_
   rw [show L.toNat=0 by omega]
   rfl
  go_enter Tryd.func121,Tryd.ntmps121
  go_wp2
  go_ret
  exact ⟨by rw [HC.out];rfl,rfl⟩
 ·have HC:Hid ((Cut.count L.toNat:Int)=(L - 1) / 64+1):=by
   show _=_
   unfold Cut.count
   omega
  go_enter Tryd.func121,Tryd.ntmps121
  go_wp2
  go_ret
  exact ⟨by rw [HC.out];rfl,rfl⟩
theorem size_any (i L:Int) (h0:0≤i) (h1:i * 64<L) (hm:L≤9223372036854775807) (W:World):Calls Tryd.prog 125 #[.int .i64 i,.int .i64 L] W fun e w'=>e = .returned (.int .i64 (min 64 (L - i * 64)))∧W=w':=by
 go_enter Tryd.func125,Tryd.ntmps125
 go_wp2
 go_ret
 exact ⟨rfl,rfl⟩
end Go.Proofs.YtpkkkkomdblpoaaDoor.Sh
namespace Go.Proofs.YtpkkkkomdblpoaaDoor.Sh
open Go.RowKit
theorem piece_eq (cs:List Nat) (i t:Nat) (ht:t=i * 64+min 64 (cs.length - i * 64)):(cs.take t).drop (i * 64)=Cut.piece cs i:=by
 unfold Cut.piece
 rw [List.drop_take,ht,Nat.add_sub_cancel_left]
 rcases Nat.le_total 64 (cs.length - i * 64) with h|h
 ·rw [Nat.min_eq_left h]
 ·rw [Nat.min_eq_right h,List.take_of_length_le (by rw [List.length_drop];exact Nat.le_refl _),List.take_of_length_le (by rw [List.length_drop];exact h)]
set_option maxHeartbeats 1000000 in
theorem piece_any' (v:Value) (cs:List Nat) (w:World) (h:yA2 w v cs) (i:Nat) (hi:i<Cut.count cs.length) :
  Calls Tryd.prog 122 #[v,.int .i64 (i:Nat)] w fun e w'=>(∃v',e = .returned v'∧yA2 w v' (Cut.piece cs i))∧w=w':=by
 have h1:=(Cut.lt_count cs.length i).1 hi
 have hmx:=h.len_max
 obtain ⟨N,hN⟩:∃N,cs.length=N:=⟨_,rfl⟩
 have HN:Hid (cs.length=N):=hN
 rw [hN] at h1 hmx
 obtain ⟨K,hK⟩:∃K:Int,K=min 64 ((N:Int) - (i:Int) * 64):=⟨_,rfl⟩
 have HE:Hid ((cs.take (i * 64+K.toNat)).drop (i * 64)=Cut.piece cs i):=piece_eq cs i _ (by omega)
 have HS:Hid (Calls Tryd.prog 125 #[.int .i64 (i:Nat),.int .i64 (N:Nat)] w fun e w'=>e = .returned (.int .i64 K)∧w=w'):=by
  have:=size_any (i:Nat) (N:Nat) (by omega) (by omega) (by omega) w
  rw [←hK] at this
  exact this
 have k0:0≤K:=by omega
 have k1:(i:Int) * 64+K≤(N:Int):=by omega
 have k2:(i:Int) * 64<(N:Int):=by omega
 clear hN hK hi
 go_enter Tryd.func122,Tryd.ntmps122
 go_wp2_with (first
  | (refine wl_blenN (.tmp 11) rfl rfl v cs rfl h N HN.out ?_)
  | (go_at_call 125;refine HS.out.mono ?_;rintro e w' ⟨rfl,rfl⟩)
  | (refine wl_bsub (.tmp 15) (some (.tmp 16)) (some (.tmp 17)) (some (.tmp 18)) rfl rfl v cs rfl h (i * 64) (i * 64+K.toNat) ⟨Or.inr ⟨_,rfl,by omega⟩,Or.inr ⟨_,rfl,by omega,Or.inr rfl⟩,by omega,by rw [HN.out];omega⟩ ?_;intro v4 s4;rw [HE.out] at s4))
 go_ret
 exact ⟨⟨_,rfl,s4⟩,rfl⟩
end Go.Proofs.YtpkkkkomdblpoaaDoor.Sh

namespace Go.Proofs.YtpkkkkomdblpoaaDoor.Sh
open Go.RowKit
def HLine (w:World) (g:Nat) (hs:List (List Nat)):Prop:=AllH hs∧Row w g 52 (yA0 hs.flatten)
theorem HLine.hin {w:World} {g n:Nat} {hs:List (List Nat)} (h:HLine w g hs) (hn:hs.length=n) (hm:n≤9223372036854775807):HIn w (whole g n) hs:=by
 subst hn
 refine ⟨h.1,some ⟨g,0,none⟩,hs.length,rfl,⟨Nat.le_refl _,hm⟩,Or.inr ⟨g,0,rfl,fun j hj => ?_,flat_lt hs h.1⟩⟩
 rw [Nat.zero_add]
 exact h.2.at j _ (yC3 hs.flatten j hj)
theorem yH0 (cs:List Nat) (k:Nat):yA0 (cs.take k)=(yA0 cs).take k:=by simp [yA0]
theorem bcells_drop (cs:List Nat) (k:Nat):yA0 (cs.drop k)=(yA0 cs).drop k:=by simp [yA0]
theorem flat_set (hs:List (List Nat)) (ha:AllH hs) (k:Nat) (hk:k<hs.length) (h:List Nat) (hh:IsH h):splice (yA0 hs.flatten) (k * 32) (yA0 h)=yA0 (hs.set k h).flatten:=by
 rw [List.set_eq_take_append_cons_drop,if_pos hk,List.flatten_append,List.flatten_cons,yD0,yD0,flat_take hs ha,flat_drop hs ha,yH0,bcells_drop]
 unfold splice
 rw [yA1,hh.1,show (k+1) * 32=k * 32+32 by omega]
theorem allH_set {hs:List (List Nat)} (ha:AllH hs) (k:Nat) {h:List Nat} (hh:IsH h):AllH (hs.set k h):=fun x hx=>(List.mem_or_eq_of_mem_set hx).elim (ha x) (fun e=>e▸hh)
section
variable {w:World} {ops:Array Oper} {rest:List Oper} {o:Oper} {a:Act} {Q:Exit→Act→World→Prop}
theorem wl_hslot (x i:Operand) (hgd:Region.wanted o (yielded ops a.tmps)=true) (ho:o.op = .indexAddr 107 x i) (g n k:Nat) (hx:a.eval x=whole g n) (hi:a.eval i = .int .i64 (k:Nat)) (hk:k<n)
  (h:wpList Tryd.prog ops Q rest (a.put o.dst (.pointer (some ⟨g,k * 32,none⟩))) w):wpList Tryd.prog ops Q (o :: rest) a w:=by
 obtain ⟨i27,hi27,hsz⟩:=Option.map_eq_some_iff.1 size27
 have hr:(Instr.indexAt 107 (whole g n) (.int .i64 (k:Nat))).run Tryd.prog w = .ok (.pointer (some ⟨g,k * 32,none⟩)) w:=by
  simp [whole,Instr.indexAt,asIntOf,run_underlying Tryd.underlying107,hk,sizeOf,typeInfo,hi27,hsz,yB7]
 refine wl hgd _ w ?_ h
 simp only [execOp,ho,hx,hi,hr,Sem.run_bind,Sem.run_pure,Result.andThen_ok]
theorem wl_hput (x y:Operand) (hgd:Region.wanted o (yielded ops a.tmps)=true) (hdst:o.dst=none) (ho:o.op = .store 52 x y) (g k:Nat) (hs:List (List Nat)) (h':List Nat) (hx:a.eval x = .pointer (some ⟨g,k * 32,none⟩)) (hy:a.eval y=hv h') (hh:IsH h') (hr:HLine w g hs) (hk:k<hs.length)
  (h:∀w',HLine w' g (hs.set k h')→Only g w w'→w'.heap.size=w.heap.size→wpList Tryd.prog ops Q rest a w'):wpList Tryd.prog ops Q (o :: rest) a w:=by
 have hl:(yA0 h').length=32:=by rw [yA1];exact hh.1
 have hfl:(yA0 hs.flatten).length=hs.length * 32:=by rw [yA1,flat_length hs hr.1]
 have hst:=yG1 agg25 w g (k * 32) 52 (yA0 hs.flatten) (yA0 h') hl hr.2 (by rw [hl,hfl];omega) (yB0 _)
 rw [flat_set hs hr.1 k hk h' hh] at hst
 refine wlSkip hgd hdst _ (by simp [execOp,ho,hx,hy,hv,Instr.storeAt,Instr.sureAddr,hst]) (h _ ⟨allH_set hr.1 k hh,hr.2.setRow _⟩ ((Only.refl g w).setRow _) (by simp [World.setRow]))
end
def lvRow (b:List Nat) (n k:Nat):List (List Nat):=Cut.lvTo b k++List.replicate (n - k) noH
theorem lvRow_length (b:List Nat) (n k:Nat) (h:k≤n):(lvRow b n k).length=n:=by simp [lvRow,Cut.lvTo_length];omega
theorem lvRow_next (b:List Nat) (n k:Nat) (h:k<n):(lvRow b n k).set k (Tree.leaf (Cut.piece b k))=lvRow b n (k+1):=by
 unfold lvRow
 rw [List.set_append_right _ _ (by rw [Cut.lvTo_length];exact Nat.le_refl _),Cut.lvTo_length,Nat.sub_self,Cut.lvTo_succ,show n - k=(n - (k+1))+1 by omega,List.replicate_succ,List.set_cons_zero,List.append_assoc]
 rfl
theorem lvRow_all (b:List Nat) (n:Nat):lvRow b n n=Cut.lvTo b n:=by simp [lvRow]
theorem lvRow_zero (b:List Nat) (n:Nat):lvRow b n 0=List.replicate n noH:=by simp [lvRow,Cut.lvTo]
def LvTo (w W:World) (B:Nat) (b:List Nat) (n k:Nat):Prop:=HLine W B (lvRow b n k)∧Below B w W
theorem leaves_allH (b:List Nat):AllH (Cut.leaves b):=fun h hh=>by
 obtain ⟨i,_,rfl⟩:=List.mem_map.1 hh
 exact leaf_isH _
set_option maxHeartbeats 2000000 in
set_option maxRecDepth 100000 in
theorem cleaves_any (v:Value) (cs:List Nat) (w:World) (h:yA2 w v cs) (ht:TabIn w) (hst:yJ3 w) (hlen:cs.length≤140737488355328) :
  Calls Tryd.prog 114 #[v] w fun e w'=>e = .returned (whole w.heap.size (Cut.count cs.length))∧HLine w' w.heap.size (Cut.leaves cs)∧Below w.heap.size w w':=by
 obtain ⟨N,hN⟩:∃N,cs.length=N:=⟨_,rfl⟩
 have HN:Hid (cs.length=N):=hN
 obtain ⟨n,hn⟩:∃n,Cut.count cs.length=n:=⟨_,rfl⟩
 have Hn:Hid (Cut.count cs.length=n):=hn
 have HL:Hid (Cut.leaves cs=lvRow cs n n):=by show _=_;unfold Cut.leaves;rw [hn,lvRow_all]
 have HC:Hid (Calls Tryd.prog 121 #[.int .i64 (N:Nat)] w fun e w'=>e = .returned (.int .i64 (n:Nat))∧w=w'):=by
  have:=count_any (N:Nat) (by omega) (by omega) w
  rw [Int.toNat_natCast,←hN,hn] at this
  rw [←hN]
  exact this
 have hcm:n * 64<140737488355328+64:=by rw [←hn];unfold Cut.count;omega
 obtain ⟨B,hB⟩:∃B,B=w.heap.size:=⟨_,rfl⟩
 have HB:Hid (B=w.heap.size):=hB
 have HLT:Hid (∀W,Below B w W→yA2 W v cs∧TabIn W∧yJ3 W):=fun W hb=>⟨h.later (hB▸hb),ht.later (hB▸hb),hst.later (hB▸hb)⟩
 rw [hn]
 clear hN hn hlen
 go_enter Tryd.func114,Tryd.ntmps114
 go_wp2_with (first
  | (refine wl_blenN (.tmp 5) rfl rfl v cs rfl h N HN.out ?_)
  | (go_at_call 121;refine HC.out.mono ?_;rintro e w' ⟨rfl,rfl⟩)
  | (refine wl_make (.tmp 7) (.tmp 7) 107 52 (.agg (yB4 32).toArray) 32 32 rfl rfl Tryd.underlying107 info27 n rfl rfl (by omega) (by omega) ?_;rw [←hB];intro w1 r1 s1 b1;rw [made29] at r1;have R1:Hid (LvTo w w1 B cs n 0):=⟨⟨by rw [lvRow_zero];exact fun x hx=>(List.mem_replicate.1 hx).2▸noH_isH,by rw [lvRow_zero];exact r1⟩,b1⟩;clear r1 s1 b1 hB)
  | (refine wl_lenN (.tmp 9) rfl rfl _ (lvRow cs n 0) rfl (R1.out.1.hin (lvRow_length cs n 0 (Nat.zero_le _)) (by omega)) n (lvRow_length cs n 0 (Nat.zero_le _)) ?_))
 go_loopw [4,11] (fun _ i W => ∃k:Nat,k≤n∧i = .int .i64 (k:Nat)∧LvTo w W B cs n k) (fun _ i _=>n - (intOf i).toNat)
 case atStart=>exact ⟨0,Nat.zero_le _,rfl,R1.out⟩
 case round =>
  clear R1
  obtain ⟨k,hk,rfl,hlv⟩:=hrel
  have HV:Hid (LvTo w wr B cs n k):=hlv
  clear hlv
  by_cases hlt:k<n
  ·have hlt':(k:Int)<(n:Int):=by omega
   have HP:Hid (k<Cut.count cs.length):=by rw [Hn.out];exact hlt
   have HX:Hid ((Cut.piece cs k).length<1152921504606846000):=by have:=Cut.piece_le cs k;show _<_;omega
   have HE:=lvRow_next cs n k hlt
   have HE':Hid ((lvRow cs n k).set k (Tree.leaf (Cut.piece cs k))=lvRow cs n (k+1)):=HE
   clear HE
   generalize hc:Cut.piece cs k=c at HX HE'
   have HCE:Hid (Cut.piece cs k=c):=hc
   clear hc
   go_wp2_with (first
    | (go_at_call 122;refine (piece_any' v cs wr (HLT.out wr HV.out.2).1 k HP.out).mono ?_;rintro e w' ⟨⟨v2,rfl,s2⟩,rfl⟩;rw [HCE.out] at s2;have S2:Hid (yA2 wr v2 c):=s2;clear s2)
    | (go_at_call 67;refine (leaf_any v2 c wr S2.out (HLT.out wr HV.out.2).2.1 (HLT.out wr HV.out.2).2.2 HX.out).mono ?_;rintro e w3 ⟨rfl,b3⟩;have R3:Hid (HLine w3 B (lvRow cs n k)∧Below B w w3):=⟨⟨HV.out.1.1,HV.out.1.2.later b3 HV.out.1.2.lt⟩,HV.out.2.trans (b3.mono (by have:=HV.out.1.2.lt;omega))⟩;clear b3)
    | (refine wl_hslot (.tmp 14) (.tmp 15) rfl rfl B n k rfl rfl hlt ?_)
    | (refine wl_hput (.tmp 20) (.tmp 19) rfl rfl rfl B k (lvRow cs n k) (Tree.leaf c) rfl rfl (leaf_isH _) R3.out.1 (by rw [lvRow_length cs n k (by omega)];exact hlt) ?_;intro w4 r4 o4 s4;rw [HE'.out] at r4;have R4:Hid (LvTo w w4 B cs n (k+1)):=⟨r4,R3.out.2.trans (o4.below (Nat.le_refl _) (by have:=R3.out.1.2.lt;omega))⟩;clear r4 o4 s4))
   exact ⟨⟨k+1,by omega,by go_num,R4.out⟩,by simp [intOf];omega⟩
  ·have hlt':¬ (k:Int)<(n:Int):=by omega
   have HE:Hid (k=n):=by show _=_;omega
   go_wp2_with fail
   go_ret
   exact ⟨by rw [HB.out];rfl,by rw [HL.out,←HE.out,←HB.out];rw [←HE.out] at HV;exact HV.out.1,by rw [←HB.out];exact HV.out.2⟩
set_option maxHeartbeats 1000000 in
set_option maxRecDepth 100000 in
theorem croot_any (v:Value) (cs:List Nat) (w:World) (h:yA2 w v cs) (ht:TabIn w) (hst:yJ3 w) (hlen:cs.length≤140737488355328) :
  Calls Tryd.prog 92 #[v] w fun e w'=>e = .returned (hv (Cut.root cs))∧Below w.heap.size w w':=by
 have HLN:Hid ((Cut.leaves cs).length=Cut.count cs.length):=Cut.leaves_length cs
 have hcm:Cut.count cs.length * 64<140737488355328+64:=by unfold Cut.count;omega
 have HRH:Hid (IsH (Cut.root cs)):=(leaves_allH cs).root
 have HRE:Hid (Cut.root cs=Tree.root (Cut.leaves cs)):=rfl
 generalize hn:Cut.count cs.length=n at hcm HLN
 have Hn:Hid (Cut.count cs.length=n):=hn
 clear hn
 obtain ⟨g0,hg0⟩:∃g0,g0=w.heap.size:=⟨_,rfl⟩
 have G0:Hid (g0=w.heap.size):=hg0
 generalize Cut.root cs=r at HRH HRE ⊢
 go_enter Tryd.func92,Tryd.ntmps92
 go_upto_region 0 with fail
 refine wp_region_lit ?_
 refine wl_alloc rfl rfl ?_
 rw [←hg0]
 intro w1 r1 s1 b1
 refine wpList_nil ?_
 have R1:Hid (HIs w1 g0 noH∧Below w.heap.size w w1):=⟨r1,hg0▸b1⟩
 clear r1 s1 b1 hg0
 go_wp2_with (first
  | (go_at_call 114;refine (cleaves_any v cs w1 (h.later R1.out.2) (ht.later R1.out.2) (hst.later R1.out.2) hlen).mono ?_;rintro e w2 ⟨rfl,l2,b2⟩;rw [Hn.out];have R2:Hid (HIs w2 g0 noH∧Below w.heap.size w w2∧HIn w2 (whole w1.heap.size n) (Cut.leaves cs)):=⟨R1.out.1.next b2,yE1 R1.out.2 b2,l2.hin HLN.out (by omega)⟩;clear l2 b2)
  | (go_at_call 68;refine (root_any n _ (Cut.leaves cs) w2 HLN.out (by omega) R2.out.2.2 (ht.later R2.out.2.1) (hst.later R2.out.2.1)).mono ?_;rintro e w3 ⟨rfl,b3⟩;rw [←HRE.out];have R3:Hid (HIs w3 g0 noH∧Below w.heap.size w w3):=⟨R2.out.1.next b3,yE1 R2.out.2.1 b3⟩;clear b3)
  | (refine wl_store (.tmp 2) (.tmp 5) rfl rfl rfl g0 rfl noH r HRH.out rfl R3.out.1 ?_;intro w7 r7 o7 s7;have R7:Hid (HIs w7 g0 r∧Below w.heap.size w w7):=⟨r7,R3.out.2.trans (o7.below (Nat.le_of_eq G0.out.symm) R3.out.2.size)⟩;clear r7 o7 s7))
 exact bodyPost_ret (results_H Tryd.results92 _ _ g0 rfl _ R7.out.1) rfl ⟨rfl,R7.out.2⟩
end Go.Proofs.YtpkkkkomdblpoaaDoor.Sh

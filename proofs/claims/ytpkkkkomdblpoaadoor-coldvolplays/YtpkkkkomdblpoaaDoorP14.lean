/- The walk of Plant.Boot. The walks of sizesHold, newDevice, and of the small calls Fuse and Tick. The walk of plant.New. -/
import Derived.Test.YtpkkkkomdblpoaaDoorP13
import Derived.OrdersHeld
namespace Go.Proofs.YtpkkkkomdblpoaaDoor
open Go.RowKit Go.Maps
section
variable {ops:Array Oper} {Q:Exit→Act→World→Prop} {S:World→Prop} {a:Act} {w:World} {listed:Array Bool} {fuel:Nat}
theorem takeH {i:Nat} (d:Option Tmp) {oi:Oper} {v:Value} (hi:ops[i]? = some oi) (hd:oi.dst=d)
  (hs:Region.noSelect ops=true) (hf:Region.free .any ops listed i=true) (hr:(Region.ready .any ops listed).contains i=true)
  (hQ:∀c a w,Q (.panic c) (a.put d v) w→Q (.panic c) a w) (hy:YieldsIf Tryd.prog ops S oi v a) (hS:S w)
  (h:wpAnyH Tryd.prog .any ops Q S fuel (listed.setIfInBounds i true) (a.put d v) w):wpAnyH Tryd.prog .any ops Q S (fuel+1) listed a w:=by
 subst hd
 exact wpAnyH_take hi hs hf hr hQ hy hS h
theorem tH (i:Nat) (s:Nat) {oi:Oper} {v:Value} (hi:ops[i]? = some oi) (hd:oi.dst=some s)
    (hy:YieldsIf Tryd.prog ops S oi v a) (hS:S w)
    (h:wpAnyH Tryd.prog .any ops Q S fuel (listed.setIfInBounds i true) (a.put (some s) v) w)
    (hk:(Region.noSelect ops && Region.free .any ops listed i && (Region.ready .any ops listed).contains i)=true:=by kernel_rfl)
    (hQ:∀c a w,Q (.panic c) (a.put (some s) v) w→Q (.panic c) a w:=by exact fun _ _ _ h=>h):wpAnyH Tryd.prog .any ops Q S (fuel+1) listed a w:=by
  simp only [Bool.and_eq_true] at hk
  exact takeH (some s) hi hd hk.1.1 hk.1.2 hk.2 hQ hy hS h
theorem oneH {i:Nat} (hr:Region.ready .any ops listed=[i]) (h:wpOp Tryd.prog ops Q i (fun a' w'=>S w'∧wpAnyH Tryd.prog .any ops Q S fuel (listed.setIfInBounds i true) a' w') a w):wpAnyH Tryd.prog .any ops Q S (fuel+1) listed a w :=
 wpAnyH_all (rs:=[i]) hr (by simp) fun j hj=>by obtain rfl:=List.mem_singleton.1 hj;exact h
theorem yG1 {o:Oper} (x:Operand) (ty:TypeId) (ho:o.op = .unOp .not ty x) (y:Bool) (hx:a.eval x = .bool y):(execOp a.eval o).run Tryd.prog w = .ok (.value (.bool (!y))) w:=by
 simp [execOp,ho,hx,Op.unary]
end
theorem f69_0:yD3 81 0 0:=fun w g off=>by kernel_rfl
theorem one67:OneT 79:=fun w g o v h=>by simp [loadVar,isAgg,run_underlying Tryd.underlying79,h]
theorem und67:Tryd.prog.underlying 79=some (.slice 82):=Tryd.underlying79
end Go.Proofs.YtpkkkkomdblpoaaDoor

namespace Go.Proofs.YtpkkkkomdblpoaaDoor
open Go.RowKit Go.Maps
def IntsIn (w:World) (v:Value) (l:List Int):Prop :=
 ∃p cap,v = .slice p l.length cap∧l.length≤cap∧l.length<4611686018427387904∧(l=[]∨∃b off,p=some ⟨b,off,none⟩∧∀j,j<l.length→w.cell? ⟨b,off+j,none⟩=some (.int .i64 (l.getD j 0)))
theorem IntsIn.later {w wx:World} {v:Value} {l:List Int} (h:IntsIn w v l) (hb:Below w.heap.size w wx):IntsIn wx v l:=by
 obtain ⟨p,cap,rfl,h1,h2,h⟩:=h
 refine ⟨p,cap,rfl,h1,h2,?_⟩
 rcases h with h|⟨b,off,rfl,h⟩
 ·exact Or.inl h
 ·exact Or.inr ⟨b,off,rfl,fun j hj=>cell_later hb (h j hj)⟩
def yG7 (l:List Int):Bool:=l.all fun x=>decide (1≤x) && decide (x≤4096)
set_option maxHeartbeats 400000 in
theorem sizes_any (w:World) (v:Value) (l:List Int) (hv:IntsIn w v l):Calls Tryd.prog 34 #[v] w fun e w'=>e = .returned (.bool (yG7 l))∧w'=w:=by
 obtain ⟨p,cap,rfl,hc,hl,h⟩:=hv
 obtain ⟨L,hL⟩:∃L,L=l.length:=⟨_,rfl⟩
 obtain ⟨y,hy⟩:∃y,y=yG7 l:=⟨_,rfl⟩
 rw [←hL] at hc hl ⊢
 rw [←hy]
 have HL:Hid (L=l.length):=hL
 have HY:Hid (y=yG7 l):=hy
 have HH:Hid (l=[]∨∃b off,p=some ⟨b,off,none⟩∧∀j,j<l.length→w.cell? ⟨b,off+j,none⟩=some (.int .i64 (l.getD j 0))):=h
 clear h hL hy
 go_enter Tryd.func34,Tryd.ntmps34
 go_wp2
 go_loopw [7] (fun ix W => ∃n:Nat,n≤L∧ix = .int .i64 n∧yG7 (l.take n)=true∧W=w) (fun ix _=>L - (intOf ix).toNat)
 case atStart=>exact ⟨0,Nat.zero_le _,rfl,rfl,rfl⟩
 case round =>
  obtain ⟨n,hn,rfl,hok,rfl⟩:=hrel
  by_cases hlt:n<L
  ·obtain ⟨b,off,hp,hcell⟩:∃b off,p=some ⟨b,off,none⟩∧∀j,j<l.length→wr.cell? ⟨b,off+j,none⟩=some (.int .i64 (l.getD j 0)):=by
    rcases HH.out with h0|h0
    ·have:=HL.out
     rw [h0] at this
     simp at this
     omega
    ·exact h0
   subst hp
   obtain ⟨x,hx⟩:∃x,x=l.getD n 0:=⟨_,rfl⟩
   have cn:wr.cell? ⟨b,off+n,none⟩=some (.int .i64 x):=by rw [hx];exact hcell n (by rw [←HL.out];exact hlt)
   have ht0:yG7 (l.take (n+1))=(decide (1≤x) && decide (x≤4096)):=by
    have hn':n<l.length:=by rw [←HL.out];exact hlt
    rw [List.take_succ_eq_append_getElem hn']
    unfold yG7 at hok ⊢
    rw [List.all_append,hok]
    have e:l[n]=x:=by rw [hx];simp [hn']
    simp [e]
   have HT:Hid (yG7 (l.take (n+1))=(decide (1≤x) && decide (x≤4096))):=ht0
   clear hcell hx hok ht0
   by_cases h1:x<1
   ·have t1:decide (x<1)=true:=by simpa using h1
    have hy:y=false:=by
     rw [HY.out]
     have:=HT.out
     rw [show decide (1≤x)=false by simp;omega,Bool.false_and] at this
     unfold yG7 at this ⊢
     rw [List.all_eq_false] at this ⊢
     obtain ⟨z,hz,hzz⟩:=this
     exact ⟨z,List.mem_of_mem_take hz,hzz⟩
    subst hy
    go_wp2
    go_ret
    exact ⟨rfl,rfl⟩
   ·have t1:decide (x<1)=false:=by simpa using h1
    by_cases h2:4096<x
    ·have t2:decide (4096<x)=true:=by simpa using h2
     have hy:y=false:=by
      rw [HY.out]
      have:=HT.out
      rw [show decide (x≤4096)=false by simp;omega,Bool.and_false] at this
      unfold yG7 at this ⊢
      rw [List.all_eq_false] at this ⊢
      obtain ⟨z,hz,hzz⟩:=this
      exact ⟨z,List.mem_of_mem_take hz,hzz⟩
     subst hy
     go_wp2
     go_ret
     exact ⟨rfl,rfl⟩
    ·have t2:decide (4096<x)=false:=by simpa using h2
     have ht2:yG7 (l.take (n+1))=true:=by
      rw [HT.out]
      simp only [Bool.and_eq_true,decide_eq_true_eq]
      omega
     have HT2:Hid (yG7 (l.take (n+1))=true):=ht2
     clear ht2
     go_wp2
     exact ⟨⟨n+1,by omega,by go_num,HT2.out,by first|trivial|rfl⟩,by simp [intOf];omega⟩
  ·have e:n=L:=by omega
   have hy:y=true:=by
    rw [HY.out,←hok,e,HL.out,List.take_length]
   subst hy
   subst e
   go_wp2
   go_ret
   exact ⟨rfl,rfl⟩
def fresh (tape:Bool) (size:Nat):List (List Nat):=if tape then [] else List.replicate size zeros
theorem run_build76 (w:World) (b:Bool) (n:Int) (x y:Nat):(Instr.build 125 #[(0,.bool b),(1,.int .i64 n),(2,.map (some x)),(4,.map (some y))]).run Tryd.prog w = .ok (.agg #[.bool b,.int .i64 n,.map (some x),.slice none 0 0,.map (some y)]) w:=by kernel_rfl
set_option maxHeartbeats 400000 in
set_option maxRecDepth 100000 in
theorem newDev_any (w:World) (c:Nat→Colour) (k:Colour) (size:Nat) (tape:Bool) :
  Calls Tryd.prog 35 #[.int .i64 (size:Int),.bool tape] w fun e w' => ∃g,e = .returned (ptr g)∧w.heap.size≤g∧DevIn w' (paint c w.heap.size k) k g tape size (fresh tape size) []∧Below w.heap.size w w':=by
 have hmm := @run_makeMap Tryd.prog
 obtain ⟨B,hB⟩:∃B,B=w.heap.size:=⟨_,rfl⟩
 obtain ⟨w1,hw1⟩:∃w1,w1=w.alloc (.map #[] 0):=⟨_,rfl⟩
 obtain ⟨w2,hw2⟩:∃w2,w2=w1.alloc (.map #[] 0):=⟨_,rfl⟩
 have hm1:(Instr.makeMap 121 none).run Tryd.prog w = .ok (.map (some B)) w1:=by rw [hw1,hB];exact run_makeMap 121 w
 have hs1:w1.heap.size=B+1:=by rw [hw1,hB];simp
 have hm2:(Instr.makeMap 123 none).run Tryd.prog w1 = .ok (.map (some (B+1))) w2:=by rw [hw2,←hs1];exact run_makeMap 123 w1
 have hs2:w2.heap.size=B+2:=by rw [hw2];simp [hs1]
 have a1:MapAt secs w1 B 0 (fun _=>none):=by rw [hw1,hB];exact MapAt.made secs w
 have a2:MapAt ints w2 (B+1) 0 (fun _=>none):=by rw [hw2,←hs1];exact MapAt.made ints w1
 have a12:MapAt secs w2 B 0 (fun _=>none):=by rw [hw2];exact a1.alloc _
 have b2:Below B w w2:=by rw [hw2,hw1];exact ((Below.refl B w).alloc (by omega) _).alloc (by rw [hB];simp) _
 rw [←hB]
 clear hmm hB hw1 hw2
 go_enter Tryd.func35,Tryd.ntmps35
 go_upto_region 1 with fail
 refine wp_region_lit ?_
 refine yC7 (.tmp 1) rfl rfl (.bool tape) rfl ?_
 refine yC7 (.tmp 0) rfl rfl (.int .i64 (size:Int)) rfl ?_
 simp only [Act.put,aS,aC,aZ]
 refine wpList_makeMap rfl rfl _ _ hm1 ?_
 refine wpList_makeMap rfl rfl _ _ hm2 ?_
 simp only [Act.put,aS,aC,aZ]
 refine yB1 rfl (.agg #[.bool tape,.int .i64 (size:Int),.map (some B),.slice none 0 0,.map (some (B+1))]) w2 (by simp [execOp,run_build76,Act.eval]) ?_
 simp only [Act.put,aS,aC,aZ]
 refine yJ0 (.tmp 9) rfl rfl [.bool tape,.int .i64 (size:Int),.map (some B),.slice none 0 0,.map (some (B+1))] rfl ?_
 intro w3 r3 s3 b3
 refine yD8 (.tmp 10) rfl rfl (ptr w2.heap.size) rfl ?_
 refine wpList_nil ?_
 simp only [Act.put,aS,aC,aZ]
 rw [hs2] at r3 s3 b3 ⊢
 have HE:Hid (DevIn w3 (paint c B k) k (B+2) tape size (fresh tape size) []):=by
  have e1:w3.heap[B]? = w2.heap[B]?:=b3.block B (by omega)
  have e2:w3.heap[B+1]? = w2.heap[B+1]?:=b3.block (B+1) (by omega)
  refine ⟨B,B+1,_,r3,paint_new _ _ _ _ (by omega),paint_new _ _ _ _ (by omega),paint_new _ _ _ _ (by omega),by omega,⟨_,_,a12.kept e1,fun p hp => ?_,fun ht => ?_⟩,⟨⟨rfl,Or.inl ⟨rfl,rfl⟩⟩,fun b hb=>by cases hb⟩,⟨0,a2.kept e2⟩⟩
  ·unfold fresh at hp ⊢
   split at hp
   ·simp at hp
   ·rename_i ht
    rw [if_neg ht]
    simp at hp
    simp [hp]
  ·subst ht
   exact ⟨rfl,fun p=>by simp [fresh]⟩
 have HBB:Hid (Below B w w3):=b2.trans (b3.mono (by omega))
 clear r3 s3 b3 a1 a2 a12 b2 hm1 hm2
 go_wp2
 go_ret
 exact ⟨B+2,rfl,by omega,HE.out,HBB.out⟩
end Go.Proofs.YtpkkkkomdblpoaaDoor

namespace Go.Proofs.YtpkkkkomdblpoaaDoor
open Go.RowKit Go.Maps
def newPl (ds ts:List Int):Pl :=
 let sh:=ds.map (fun n=>(false,n.toNat))++ts.map (fun n=>(true,n.toNat))
 { sh:=sh,fl:=fun i=>fresh (sh.getD i (false,0)).1 (sh.getD i (false,0)).2,wts:=[],on:=true,fuse := -1,steps:=0,clock:=0 }
def yL1 (ds ts:List Int):Bool:=decide (1≤ds.length+ts.length) && (decide (ds.length+ts.length≤12) && (yG7 ds && yG7 ts))
theorem newPl_n (ds ts:List Int):(newPl ds ts).n=ds.length+ts.length:=by simp [newPl,Pl.n]
theorem newPl_disk (ds ts:List Int) (i:Nat) (h:i<ds.length):(newPl ds ts).tape i=false∧(newPl ds ts).size i=(ds.getD i 0).toNat:=by
 unfold Pl.tape Pl.size newPl
 simp [List.getElem?_append_left,h]
theorem newPl_tape (ds ts:List Int) (i:Nat) (h:i<ts.length):(newPl ds ts).tape (ds.length+i)=true∧(newPl ds ts).size (ds.length+i)=(ts.getD i 0).toNat:=by
 unfold Pl.tape Pl.size newPl
 simp [h]
def NewIn (W:World) (c:Nat→Colour) (t gp B:Nat) (m:Pl) (k:Nat):Prop :=
 ∃(v:Value) (gl:List Nat),Row W gp 81 [v,.bool true,.int .i64 (-1),.int .i64 0,.int .i64 0]∧c gp=(t,0)∧gl.length=k∧W.ownsRow B 82 1 v k (gl.map ptr)∧(∀b,v.ownBlock=some b→c b=(t,0)) ∧
  ∀i,i<k→DevIn W c (t,i+1) (gl.getD i 0) (m.tape i) (m.size i) (fresh (m.tape i) (m.size i)) []
theorem info70:(Tryd.prog.info? 82).map (fun i=>(i.zero,i.size,i.bytes))=some (some (.pointer none),1,8):=by kernel_rfl
theorem size67:(Tryd.prog.info? 79).map (·.size)=some 1:=by kernel_rfl
theorem run_onePtr (w:World) (g:Nat):(Instr.buildSlice 79 1 #[(0,ptr g)]).run Tryd.prog w = .ok (.slice (some ⟨w.heap.size,0,none⟩) 1 1) (w.alloc (.cells #[ptr g] 82)):=by kernel_rfl
theorem en38:yB9 35:=Go.Proofs.enters_of Tryd.func35 (by kernel_rfl) rfl
theorem new_step {W W5 W7:World} {c:Nat→Colour} {t gp B k gd:Nat} {m:Pl} {v v7:Value} {gl:List Nat} (hr:Row W gp 81 [v,.bool true,.int .i64 (-1),.int .i64 0,.int .i64 0]) (hcg:c gp=(t,0)) (hgl:gl.length=k) (ho:W.ownsRow B 82 1 v k (gl.map ptr)) (hob:∀b,v.ownBlock=some b→c b=(t,0))
  (hdv:∀i,i<k→DevIn W c (t,i+1) (gl.getD i 0) (m.tape i) (m.size i) (fresh (m.tape i) (m.size i)) [])
  (hd:DevIn W5 (paint c W.heap.size (t,k+1)) (t,k+1) gd (m.tape k) (m.size k) (fresh (m.tape k) (m.size k)) []) (hb5:Below W.heap.size W W5)
  (ho7:W7.ownsRow B 82 1 v7 (k+1) (gl.map ptr++[ptr gd])) (hg7:(W5.alloc (.cells #[ptr gd] 82)).grownBy W7 v.ownBlock) (hloc:v7.ownBlock=v.ownBlock∨v7.ownBlock=some (W5.alloc (.cells #[ptr gd] 82)).heap.size) :
  NewIn (W7.setRow gp ([v7,.bool true,.int .i64 (-1),.int .i64 0,.int .i64 0]:List Value).toArray) (paint (paint c W.heap.size (t,k+1)) W5.heap.size (t,0)) t gp B m (k+1) ∧
  (∀b,b<W.heap.size→paint (paint c W.heap.size (t,k+1)) W5.heap.size (t,0) b=c b)∧Row W7 gp 81 [v,.bool true,.int .i64 (-1),.int .i64 0,.int .i64 0] ∧
  ∀b T cs,T≠82→b≠gp→Row W b T cs→Row (W7.setRow gp ([v7,.bool true,.int .i64 (-1),.int .i64 0,.int .i64 0]:List Value).toArray) b T cs:=by
 obtain ⟨c2,hc2⟩:∃c2,c2=paint (paint c W.heap.size (t,k+1)) W5.heap.size (t,0):=⟨_,rfl⟩
 have hsz:=hb5.size
 have hold:∀b,b<W.heap.size→c2 b=c b:=fun b hb=>by rw [hc2,yJ5 _ _ _ _ (by omega),yJ5 _ _ _ _ hb]
 have hmid:∀b,b<W5.heap.size→c2 b=paint c W.heap.size (t,k+1) b:=fun b hb=>by rw [hc2,yJ5 _ _ _ _ hb]
 have hnew:∀b,W5.heap.size≤b→c2 b=(t,0):=fun b hb=>by rw [hc2,paint_new _ _ _ _ hb]
 have hgp:=hr.lt
 have hne:∀b,v.ownBlock=some b→b≠gp:=fun b hb=>by
  obtain ⟨_,h⟩:=ho
  rcases h with ⟨rfl,_⟩|⟨g',cp,cur,rfl,_,hg,_⟩
  ·cases hb
  ·cases hb
   rintro rfl
   rw [show W.heap[g']? = _ from hr] at hg
   cases hg
 have k7:∀b,b<W5.heap.size→v.ownBlock≠some b→W7.heap[b]? = W5.heap[b]?:=fun b hb hn=>by
  rw [hg7.block b (by simp;omega) (fun e=>hn e.symm)]
  exact Below.heap_alloc _ _ _ hb
 have hr7:Row W7 gp 81 [v,.bool true,.int .i64 (-1),.int .i64 0,.int .i64 0]:=by
  show W7.heap[gp]? = _
  rw [k7 gp (by omega) (fun e=>hne gp e rfl),hb5.block gp hgp]
  exact hr
 rw [←hc2]
 refine ⟨⟨v7,gl++[gd],hr7.setRow _,(hold gp hgp).trans hcg,by simp [hgl],?_,?_,?_⟩,hold,hr7,fun b T cs hT hb hrb => ?_⟩
 ·have e:(gl++[gd]).map ptr=gl.map ptr++[ptr gd]:=by simp
  rw [e]
  obtain ⟨hl,h⟩:=ho7
  refine ⟨hl,?_⟩
  rcases h with h|⟨g',cp,cur,rfl,h0,hg,h⟩
  ·exact Or.inl h
  ·refine Or.inr ⟨g',cp,cur,rfl,h0,?_,h⟩
   rw [Go.setRow_other W7 gp g' _ ?_]
   ·exact hg
   ·rintro rfl
    rw [show W7.heap[g']? = _ from hr7] at hg
    cases hg
 ·intro b hb
  rcases hloc with hl|hl
  ·have hvb:v.ownBlock=some b:=hl▸hb
   have hlt:b<W.heap.size:=(ho.lt b hvb).2
   rw [hold b hlt]
   exact hob b hvb
  ·rw [hl] at hb
   cases hb
   exact hnew _ (by simp)
 ·intro i hi
  by_cases hik:i<k
  ·have e:(gl++[gd]).getD i 0=gl.getD i 0:=by simp [List.getElem?_append_left (show i<gl.length by omega)]
   rw [e]
   refine (hdv i hik).kept fun b hb hk=>⟨?_,(hold b hb).trans hk⟩
   have h1:b≠gp:=by rintro rfl;rw [hcg] at hk;simp at hk
   have h2:v.ownBlock≠some b:=fun e=>by
    have:=hob b e
    rw [this] at hk
    simp at hk
   rw [Go.setRow_other W7 gp b _ h1,k7 b (by omega) h2,hb5.block b hb]
  ·have e0:i=k:=by omega
   subst e0
   have e:(gl++[gd]).getD i 0=gd:=by rw [←hgl];simp
   rw [e]
   refine hd.kept fun b hb hk=>⟨?_,by rw [hmid b hb];exact hk⟩
   have h1:b≠gp:=by
    rintro rfl
    rw [yJ5 _ _ _ _ hgp,hcg] at hk
    simp at hk
   have h2:v.ownBlock≠some b:=fun e=>by
    have hlt:b<W.heap.size:=(ho.lt b e).2
    rw [yJ5 _ _ _ _ hlt,hob b e] at hk
    simp at hk
   rw [Go.setRow_other W7 gp b _ h1,k7 b hb h2]
 ·show (W7.setRow gp _).heap[b]? = _
  rw [Go.setRow_other W7 gp b _ hb,k7 b (by have:=hrb.lt;omega) ?_,hb5.block b hrb.lt]
  ·exact hrb
  ·intro e
   obtain ⟨_,h⟩:=ho
   rcases h with ⟨rfl,_⟩|⟨g',cp,cur,rfl,_,hg,_⟩
   ·cases e
   ·cases e
    rw [show W.heap[g']? = _ from hrb] at hg
    simp at hg
    exact hT hg.2
theorem new_done {W:World} {c:Nat→Colour} {t gp B:Nat} {ds ts:List Int} (h:NewIn W c t gp B (newPl ds ts) (ds.length+ts.length)) (hpos:1≤ds.length+ts.length):∃db cap gs,PlantAt W c t gp db cap gs (newPl ds ts):=by
 obtain ⟨v,gl,hr,hcg,hgl,ho,hob,hdv⟩:=h
 obtain ⟨hl,ho⟩:=ho
 rcases ho with ⟨_,h0⟩|⟨db,cap,cur,rfl,_,hg,hc1,_,_,hcur⟩
 ·omega
 ·have hn:=newPl_n ds ts
  refine ⟨db,cap,fun i=>gl.getD i 0,⟨?_,hcg,hob db rfl,?_,(Array.getElem?_eq_some_iff.1 hg).1,by rw [hn];exact hc1,fun i hi => ?_,fun i hi => ?_⟩⟩
  ·unfold plCells
   rw [hn]
   exact hr
  ·rintro rfl
   rw [show W.heap[db]? = _ from hr] at hg
   simp at hg
  ·rw [hn] at hi
   have:(gl.map ptr)[i]? = some (ptr (gl.getD i 0)):=by simp [show i<gl.length by omega]
   rw [←hcur,List.getElem?_take] at this
   split at this
   ·simp [World.cell?,hg]
    simpa using this
   ·cases this
  ·have e1:(newPl ds ts).fl i=fresh ((newPl ds ts).tape i) ((newPl ds ts).size i):=rfl
   have e2:(newPl ds ts).wt i=[]:=rfl
   rw [e1,e2]
   exact hdv i (by rw [←hn];exact hi)
end Go.Proofs.YtpkkkkomdblpoaaDoor

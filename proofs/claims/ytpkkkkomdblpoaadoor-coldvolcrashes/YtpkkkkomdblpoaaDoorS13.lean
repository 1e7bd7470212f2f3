/- slices.SortFunc at writes with their devices: they come in the order of their steps. The walk of Plant.allWaiting: all writes that wait, in their one order. The walk of Plant.Boot. -/
import Derived.Test.YtpkkkkomdblpoaaDoorS12
namespace Go.Proofs.YtpkkkkomdblpoaaDoor
open Go.RowKit Go.Maps Go.Sort Go.Lib
def dCells (x:Wr):List Value:=.int .i64 (x.dev:Nat) :: yC5 x
def yH7 (l:List Wr):List Value:=l.flatMap dCells
theorem yF2 (x:Wr) (h:x.b.length=64):(dCells x).length=67:=by simp [dCells,yD2 x h]
theorem dCells_one (x:Wr):∀v∈dCells x,v.oneCell'=true:=by
 intro v hv
 rcases List.mem_cons.1 hv with rfl|hv
 ·rfl
 ·exact wrCells_one x v hv
theorem dcells_snoc (l:List Wr) (x:Wr):yH7 (l++[x])=yH7 l++dCells x:=by simp [yH7]
theorem dcells_length (l:List Wr) (h:∀x∈l,x.b.length=64):(yH7 l).length=l.length * 67:=by
 induction l with
 | nil=>rfl
 | cons x l ih =>
  have:=ih (fun y hy=>h y (by simp [hy]))
  simp only [yH7,List.flatMap_cons,List.length_append,List.length_cons] at *
  rw [this,yF2 x (h x (by simp))]
  omega
theorem dcells_at (l:List Wr) (h:∀x∈l,x.b.length=64) (j i:Nat) (x:Wr) (hj:l[j]? = some x) (hi:i<67):(yH7 l)[j * 67+i]? = (dCells x)[i]?:=by
 induction l generalizing j with
 | nil=>simp at hj
 | cons y l ih =>
  have hy:=yF2 y (h y (by simp))
  unfold yH7 at *
  rw [List.flatMap_cons]
  cases j with
  | zero =>
   simp at hj
   subst hj
   rw [List.getElem?_append_left (by omega)]
   simp
  | succ j =>
   rw [List.getElem?_append_right (by omega),hy,show (j+1) * 67+i - 67=j * 67+i by omega]
   exact ih (fun z hz=>h z (by simp [hz])) j (by simpa using hj)
def WOk (x:Wr):Prop:=x.step<4611686018427387904∧x.b.length=64
abbrev WS:={ x:Wr // WOk x }
instance:Inhabited WS:=⟨⟨⟨0,0,0,List.replicate 64 0⟩,by decide,by simp⟩⟩
def encW (x:WS):List Value:=dCells x.1
def cfW (x y:WS):Int:=(x.1.step:Int) - (y.1.step:Int)
theorem ltW (x y:WS):ltOf cfW x y=decide (x.1.step<y.1.step):=by
 unfold ltOf cfW
 congr 1
 simp only [eq_iff_iff]
 omega
theorem swoW:SWO (ltOf cfW) where
 irrefl x:=by rw [ltW];simp
 trans x y z h1 h2:=by rw [ltW] at *;simp at *;omega
 ntrans x y z h1 h2:=by rw [ltW] at *;simp at *;omega
section
variable {w:World} {ops:Array Oper} {rest:List Oper} {o:Oper} {a:Act} {Q:Exit→Act→World→Prop}
theorem wpList_boxE {t:Nat} (x:Operand) (hgd:o.guard=none) (ho:o.op = .box t x) (cs:List Value) (hx:a.eval x = .agg cs.toArray)
  (h:wpList Tryd.prog ops Q rest (a.put o.dst (.pointer (some ⟨w.heap.size,0,none⟩))) (w.alloc (.cells cs.toArray t))):wpList Tryd.prog ops Q (o :: rest) a w :=
 yB1 hgd _ _ (by simp [execOp,ho,hx,Instr.box,newVar,newRow,Value.cells]) h
end
set_option maxHeartbeats 400000 in
set_option maxRecDepth 100000 in
theorem closure_any (x y:WS) (W:World):Calls Tryd.prog 75 #[.agg (encW x).toArray,.agg (encW y).toArray] W fun e w'=>e = .returned (.int .i64 (cfW x y))∧∃q os',w'=grow (W.drewN q) os':=by
 obtain ⟨r,hr⟩:∃r,r=cfW x y:=⟨_,rfl⟩
 obtain ⟨sx,hsx⟩:∃sx,sx=x.1.step:=⟨_,rfl⟩
 obtain ⟨sy,hsy⟩:∃sy,sy=y.1.step:=⟨_,rfl⟩
 have hx:sx<4611686018427387904:=by rw [hsx];exact x.2.1
 have hy:sy<4611686018427387904:=by rw [hsy];exact y.2.1
 rw [←hr]
 have HRR:Hid (r=(sx:Int) - (sy:Int)):=by rw [hr,hsx,hsy];exact rfl
 go_enter Tryd.func75,Tryd.ntmps75
 go_upto_region 0 with fail
 refine wp_region_lit ?_
 refine wpList_boxE (.tmp 0) rfl rfl (encW x) rfl ?_
 refine wpList_boxE (.tmp 1) rfl rfl (encW y) rfl ?_
 refine yE3 (.const (.int .i64 0)) rfl rfl _ rfl ?_
 refine wpList_nil ?_
 simp only [Act.put,aS,aC,aZ]
 obtain ⟨w1,hw1⟩:∃w1,w1=W.alloc (.cells (encW x).toArray 118):=⟨_,rfl⟩
 rw [←hw1]
 obtain ⟨w2,hw2⟩:∃w2,w2=w1.alloc (.cells (encW y).toArray 118):=⟨_,rfl⟩
 rw [←hw2]
 have r1:Row w1 W.heap.size 118 (encW x):=by rw [hw1];exact Row.new W 118 _
 have r12:Row w2 W.heap.size 118 (encW x):=by rw [hw2];exact r1.alloc _
 have r2:Row w2 w1.heap.size 118 (encW y):=by rw [hw2];exact Row.new w1 118 _
 have cx:w2.cell? ⟨W.heap.size,1,none⟩=some (.int .i64 (sx:Nat)):=by rw [hsx];exact r12.at 1 _ rfl
 have cy:w2.cell? ⟨w1.heap.size,1,none⟩=some (.int .i64 (sy:Nat)):=by rw [hsy];exact r2.at 1 _ rfl
 have HG:Hid (w2=grow (W.drewN 0) #[.cells (encW x).toArray 118,.cells (encW y).toArray 118]):=by
  rw [hw2,hw1,alloc_eq_grow,alloc_eq_grow,grow_grow]
  exact rfl
 generalize W.heap.size=g1 at *
 generalize w1.heap.size=g2 at *
 clear r1 r12 r2 hw2 hw1 hsx hsy hr
 go_wp2
 go_ret
 refine ⟨?_,0,_,HG.out⟩
 rw [HRR.out]
 rfl
theorem cmpLaysW (blk off size:Nat) (w:World):CmpLays Tryd.prog 75 #[] encW 67 cfW blk off size w:=fun _ _ _ _ x y=>closure_any x y _
theorem en62:yB9 75:=Go.Proofs.enters_of Tryd.func75 (by kernel_rfl) rfl
theorem sorted_ch {α:Type} [Inhabited α] (enc:α→List Value) (k:Nat) (w:World) (g off n:Nat) (d:Array α) (os:Array Obj):Ch (· = g) w (sortWorldK enc k w g off n d os):=by
 unfold sortWorldK putRowK putRow mapBlock
 refine ⟨rfl,rfl,rfl,by simp [grow,Sort.ahead],fun b hb hne => ?_⟩
 rw [heap_grow_old _ _ (by simpa [Sort.ahead] using hb)]
 simp [Sort.ahead,Array.getElem?_modify,Ne.symm hne]
theorem sorted_unique:∀(l l':List Wr),l.Perm l'→l.Pairwise (fun x y=>x.step<y.step)→l'.Pairwise (fun x y=>x.step≤y.step)→l'=l
 | [],l',hp,_,_=>by simpa using hp.symm
 | x :: l,l',hp,h1,h2=>by
  cases l' with
  | nil=>simp at hp
  | cons y l' =>
   obtain ⟨hx,k1⟩:=List.pairwise_cons.1 h1
   obtain ⟨hy,k2⟩:=List.pairwise_cons.1 h2
   have hxm:x∈y :: l':=hp.subset (by simp)
   have hym:y∈x :: l:=hp.symm.subset (by simp)
   have e:y=x:=by
    rcases List.mem_cons.1 hym with e|hm
    ·exact e
    ·rcases List.mem_cons.1 hxm with e|hm'
     ·exact e.symm
     ·have:=hx y hm
      have:=hy x hm'
      omega
   subst e
   rw [sorted_unique l l' hp.cons_inv k1 k2]
theorem toWS (l:List Wr) (h:∀x∈l,WOk x):∃d:List WS,d.map (·.1)=l :=
 ⟨l.attach.map fun x=>⟨x.1,h x.1 x.2⟩,by simp⟩
theorem sort_any (l srt:List Wr) (hl:∀x∈l,WOk x) (hp:srt.Perm l) (ho:srt.Pairwise fun x y=>x.step<y.step) (hlen:l.length<4611686018427387904) (w:World) (b cap:Nat) (hb:b<w.heap.size) (hcell:∀j u,(yH7 l)[j]? = some u→w.cell? ⟨b,0+j,none⟩=some u∧w.frozen? ⟨b,0+j,none⟩=false) :
  Calls Tryd.prog 74 #[.slice (some ⟨b,0,none⟩) l.length cap,.func (.func 75) #[] #[]] w fun e w'=>e = .returned noResult∧(∀j u,(yH7 srt)[j]? = some u→w'.cell? ⟨b,j,none⟩=some u)∧Ch (· = b) w w':=by
 obtain ⟨d,hd⟩:=toWS l hl
 have hdl:d.toArray.size=l.length:=by rw [←hd];simp
 have hflat:∀(e:List WS) (j:Nat),j<e.length * 67→(flatK encW 67 e.toArray)[j]! = (yH7 (e.map (·.1)))[j]!:=by
  intro e j hj
  rw [get_flatK encW 67 e.toArray j (by simpa using hj)]
  have hq:j / 67<e.length:=by omega
  have hx:(e.map (·.1))[j / 67]? = some e[j / 67].1:=by simp [hq]
  have:=dcells_at (e.map (·.1)) (fun x hx=>by obtain ⟨y,_,rfl⟩:=List.mem_map.1 hx;exact y.2.2) (j / 67) (j % 67) _ hx (by omega)
  rw [show j / 67 * 67+j % 67=j by omega] at this
  have e1:e.toArray[j / 67]! = e[j / 67]:=by simp [hq]
  rw [e1]
  unfold encW
  rw [List.getElem!_eq_getElem?_getD,List.getElem!_eq_getElem?_getD,this]
 have hH:HoldsK encW 67 w b 0 d.toArray:=by
  intro j hj
  have hj':j<d.length * 67:=by simpa using hj
  have hlt:j<(yH7 l).length:=by
   rw [dcells_length l (fun x hx=>(hl x hx).2),←hd]
   simpa using hj'
  have hc:=hcell j _ (List.getElem?_eq_getElem hlt)
  refine ⟨?_,hc.2⟩
  rw [hc.1,hflat d j hj',hd]
  simp [hlt]
 have hcon:=AnyQ.slices_SortFunc Tryd.laySort 67 Tryd.isAgg118 Tryd.sizeOf118 encW (fun x=>yF2 x.1 x.2.2) (fun x v hv=>dCells_one x.1 v hv) cfW swoW 75 #[] b 0 cap d.toArray w en62 (cmpLaysW b 0 _ w) hH hb (by omega)
 change Calls Tryd.prog 74 _ _ _ at hcon
 rw [hdl] at hcon
 refine hcon.mono ?_
 rintro e w' ⟨rfl,d',n,os,hperm,hsort,rfl⟩
 obtain ⟨hsz,_,hpm⟩:=hperm
 have hpm':d'.toList.Perm d:=by
  have e1:d'.extract 0 l.length=d':=by rw [←hdl,←hsz];simp
  have e2:d.toArray.extract 0 l.length=d.toArray:=by rw [←hdl];simp
  rw [e1,e2] at hpm
  simpa using hpm
 have hsrt:(d'.toList.map (·.1)).Pairwise (fun x y:Wr=>x.step≤y.step):=by
  rw [List.pairwise_map,List.pairwise_iff_getElem]
  intro i j hi hj hij
  have hj':j<d'.size:=by simpa using hj
  have:=hsort i j (Nat.zero_le _) hij (by rw [←hdl,←hsz];exact hj')
  rw [ltW] at this
  simp only [decide_eq_false_iff_not] at this
  have e1:d'[i]! = d'.toList[i]:=by simp [show i<d'.size by omega]
  have e2:d'[j]! = d'.toList[j]:=by simp [hj']
  rw [e1,e2] at this
  omega
 have heq:d'.toList.map (·.1)=srt:=by
  refine sorted_unique srt _ ?_ ho hsrt
  refine hp.trans ?_
  rw [←hd]
  exact (hpm'.map _).symm
 refine ⟨rfl,fun j u hu => ?_,sorted_ch encW 67 w b 0 n d' os⟩
 have hHH:=holdsK_sortWorldK_c encW 67 w b 0 d.toArray d' n os hH hb (by rw [hsz])
 have hj:j<d'.toList.length * 67:=by
  have:=(List.getElem?_eq_some_iff.1 hu).1
  rw [←heq,dcells_length _ (fun x hx=>by obtain ⟨y,_,rfl⟩:=List.mem_map.1 hx;exact y.2.2)] at this
  simpa using this
 have:=(hHH j (by simpa using hj)).1
 rw [Nat.zero_add] at this
 rw [this]
 have h2:=hflat d'.toList j hj
 rw [show d'.toList.toArray=d' from rfl] at h2
 rw [show (id (flatK encW 67 d')[j]!)=(flatK encW 67 d')[j]! from rfl,h2,heq]
 obtain ⟨hlt,rfl⟩:=List.getElem?_eq_some_iff.1 hu
 simp [hlt]
end Go.Proofs.YtpkkkkomdblpoaaDoor

namespace Go.Proofs.YtpkkkkomdblpoaaDoor
open Go.RowKit Go.Maps Go.Sort Go.Lib
def Pl.upto (m:Pl) (i:Nat):List Wr:=(List.range i).flatMap m.wt
theorem Pl.upto_succ (m:Pl) (i:Nat):m.upto (i+1)=m.upto i++m.wt i:=by simp [Pl.upto,List.range_succ]
theorem upto_perm (l:List Wr):∀n,((List.range n).flatMap fun i=>l.filter fun x=>x.dev == i).Perm (l.filter fun x=>decide (x.dev<n))
 | 0=>by simp
 | n+1=>by
  rw [List.range_succ,List.flatMap_append]
  simp only [List.flatMap_cons,List.flatMap_nil,List.append_nil]
  have h:=List.filter_append_perm (fun x:Wr=>decide (x.dev<n)) (l.filter fun x=>decide (x.dev<n+1))
  rw [List.filter_filter,List.filter_filter] at h
  have e1:(l.filter fun x=>decide (x.dev<n) && decide (x.dev<n+1))=l.filter fun x=>decide (x.dev<n):=by
   apply List.filter_congr
   intro x _
   by_cases hx:x.dev<n
   ·simp [hx,show x.dev<n+1 by omega]
   ·simp [hx]
  have e2:(l.filter fun x => !decide (x.dev<n) && decide (x.dev<n+1))=l.filter fun x=>x.dev == n:=by
   apply List.filter_congr
   intro x _
   by_cases hx:x.dev=n
   ·simp [hx]
   ·by_cases h2:x.dev<n
    ·simp [hx,h2]
    ·simp [hx,h2,show ¬ x.dev<n+1 by omega]
  rw [e1,e2] at h
  exact (List.Perm.append_right _ (upto_perm l n)).trans h
theorem Pl.upto_all {m:Pl} (h:m.WF):m.wts.Perm (m.upto m.n):=by
 have:=upto_perm m.wts m.n
 rw [List.filter_eq_self.2 (fun x hx=>by simp only [decide_eq_true_eq];exact (h.wdev x hx).1)] at this
 exact this.symm
theorem Pl.upto_mem {m:Pl} {i:Nat} {x:Wr} (h:x∈m.upto i):x∈m.wts:=by
 unfold Pl.upto at h
 obtain ⟨j,_,hx⟩:=List.mem_flatMap.1 h
 exact (Pl.wt_mem hx).1
theorem Pl.upto_len {m:Pl} (h:m.WF) (i j:Nat) (hi:i<m.n):(m.upto i++(m.wt i).take j).length≤m.wts.length:=by
 have h1:(m.upto (i+1)).length≤m.wts.length:=by
  have:∀k,k≤m.n→(m.upto k).length≤(m.upto m.n).length:=by
   intro k hk
   obtain ⟨d,hd⟩:=Nat.exists_eq_add_of_le hk
   rw [hd]
   clear hd hk
   induction d with
   | zero=>exact Nat.le_refl _
   | succ d ih =>
    have e:m.upto (k+(d+1))=m.upto (k+d)++m.wt (k+d):=m.upto_succ (k+d)
    rw [e,List.length_append]
    omega
  rw [(Pl.upto_all h).length_eq]
  exact this _ (by omega)
 rw [m.upto_succ,List.length_append] at h1
 simp
 omega
section
variable {w w':World} {c:Nat→Colour} {t g db cap:Nat} {gs:Nat→Nat} {m:Pl}
theorem PlantAt.below (h:PlantAt w c t g db cap gs m) (hb:Below w.heap.size w w'):PlantAt w' c t g db cap gs m:=by
 refine ⟨h.row.later hb h.row.lt,h.cg,h.cd,h.ne,Nat.lt_of_lt_of_le h.lt hb.size,h.cap,fun i hi => ?_,fun i hi=>(h.dev i hi).kept fun b hlt hk=>⟨hb.block b hlt,hk⟩⟩
 rw [←h.cell i hi]
 exact World.cell?_of_block (hb.block db h.lt)
end
section
variable {w:World} {ops:Array Oper} {rest:List Oper} {o:Oper} {a:Act} {Q:Exit→Act→World→Prop}
theorem wpList_build93 (x y:Operand) (hgd:o.guard=none) (ho:o.op = .build 118 #[(0,x),(1,y)]) (d:Int) (cs:List Value) (hc:cs.length=66) (hx:a.eval x = .int .i64 d) (hy:a.eval y = .agg cs.toArray)
  (h:wpList Tryd.prog ops Q rest (a.put o.dst (.agg (Value.int .i64 d :: cs).toArray)) w):wpList Tryd.prog ops Q (o :: rest) a w :=
 yB1 hgd _ w (by simp [execOp,ho,hx,hy,run_build93 w d cs hc]) h
end
theorem ownsRow_below {w w':World} {B e n k:Nat} {v:Value} {xs:List Value} (h:w.ownsRow B e n v k xs) (hb:RowKit.Below w.heap.size w w'):w'.ownsRow B e n v k xs:=by
 obtain ⟨hl,h⟩:=h
 refine ⟨hl,?_⟩
 rcases h with ⟨rfl,h⟩|⟨g,cap,cur,rfl,h0,hg,h⟩
 ·exact Or.inl ⟨rfl,h⟩
 ·exact Or.inr ⟨g,cap,cur,rfl,h0,(hb.block g (Array.getElem?_eq_some_iff.1 hg).1).trans hg,h⟩
def AllIn (W:World) (B:Nat) (v:Value) (l:List Wr):Prop :=
 ∃p cap,v = .slice p l.length cap∧(l=[]∨∃b,p=some ⟨b,0,none⟩∧B≤b∧∀j u,(yH7 l)[j]? = some u→W.cell? ⟨b,j,none⟩=some u)
set_option maxHeartbeats 600000 in
set_option maxRecDepth 100000 in
theorem all_any {w:World} {c:Nat→Colour} {t g db cap:Nat} {gs:Nat→Nat} {m:Pl} (h:PlantAt w c t g db cap gs m) (hwf:m.WF) (hst:m.steps<35184372088832) :
  Calls Tryd.prog 51 #[ptr g] w fun e w' => ∃v,e = .returned v∧AllIn w' w.heap.size v m.wts∧Below w.heap.size w w':=by
 have c0:=h.c0
 have HP:Hid (PlantAt w c t g db cap gs m):=h
 obtain ⟨B,hB⟩:∃B,B=w.heap.size:=⟨_,rfl⟩
 have HB:Hid (B=w.heap.size):=hB
 obtain ⟨n,hn⟩:∃n,n=m.n:=⟨_,rfl⟩
 rw [←hn] at c0
 have HN:Hid (n=m.n):=hn
 have hn12:n≤12:=by rw [hn];exact hwf.few
 rw [←hB]
 clear h hB hn
 go_enter Tryd.func51,Tryd.ntmps51
 go_wp2
 go_loopw [13,3] (fun ix v W => ∃i:Nat,i≤n∧ix = .int .i64 i∧W.ownsRow B 118 67 v (m.upto i).length (yH7 (m.upto i))∧Below B w W) (fun ix _ _=>n - (intOf ix).toNat)
 case atStart=>exact ⟨0,Nat.zero_le _,rfl,⟨rfl,Or.inl ⟨rfl,rfl⟩⟩,Below.refl _ _⟩
 case round =>
  obtain ⟨i,hi,rfl,ho,hbl⟩:=hrel
  clear c0
  by_cases hlt:i<n
  ·have hi':i<m.n:=by rw [←HN.out];exact hlt
   have HO:Hid (wr.ownsRow B 118 67 u3 (m.upto i).length (yH7 (m.upto i))):=ho
   have HBL:Hid (Below B w wr):=hbl
   have hP:PlantAt wr c t g db cap gs m:=HP.out.below (by rw [←HB.out];exact hbl)
   have ci:=hP.cell i hi'
   obtain ⟨bm,bl,v,hdev⟩:=HP.out.dev i hi'
   obtain ⟨pv,cv,hv⟩:=WtIn.shape hdev.2.2.2.2.2.2.1
   subst hv
   obtain ⟨L,hL⟩:∃L,L=(m.wt i).length:=⟨_,rfl⟩
   rw [←hL] at hdev
   have HL:Hid (L=(m.wt i).length):=hL
   have c3:=(hdev.1.later (by rw [←HB.out];exact hbl) hdev.1.lt).at 3 _ rfl
   have HD:Hid (WtIn w c (t,i+1) (.slice pv L cv) (m.wt i)):=hdev.2.2.2.2.2.2.1
   have hL40:L<1099511627776:=by
    have:=m.wt_len i
    have:=hwf.few_wts
    rw [hL]
    omega
   clear hP hdev hL ho hbl
   go_wp2
   go_loopw [23,3] (fun jx v W => ∃j:Nat,j≤L∧jx = .int .i64 j∧W.ownsRow B 118 67 v (m.upto i++(m.wt i).take j).length (yH7 (m.upto i++(m.wt i).take j))∧Below B w W) (fun jx _ _=>L - (intOf jx).toNat)
   case atStart =>
    refine ⟨0,Nat.zero_le _,rfl,?_,HBL.out⟩
    rw [List.take_zero,List.append_nil]
    exact HO.out
   case round =>
    obtain ⟨j,hj,rfl,ho,hbl⟩:=hrel
    clear HO
    by_cases hjl:j<L
    ·obtain ⟨x,hx⟩:∃x,(m.wt i)[j]? = some x:=⟨_,List.getElem?_eq_getElem (by rw [←HL.out];exact hjl)⟩
     have hmem:=Pl.wt_mem (List.mem_of_getElem? hx)
     have hxs:Sec x.b:=hwf.wsec x hmem.1
     have hxl:x.b.length=64:=hxs.1
     obtain ⟨l,hl⟩:∃l,l=m.upto i++(m.wt i).take j:=⟨_,rfl⟩
     have HT:Hid (m.upto i++(m.wt i).take (j+1)=l++[x]):=by
      rw [take_next _ j x hx,←List.append_assoc,←hl]
      exact rfl
     rw [←hl] at ho
     have hll:l.length<1099511627776:=by
      have:=Pl.upto_len hwf i j hi'
      have:=hwf.few_wts
      rw [hl]
      omega
     obtain ⟨b,cv',hv,_,hcl⟩:=HD.out.cells (fun y hy=>(hwf.wsec y (Pl.wt_mem hy).1).1) (by intro e;rw [e] at hx;simp at hx)
     injection hv with hv1 hv2 hv3
     subst hv1
     have hcx:∀k u,(yC5 x)[k]? = some u→wr.cell? ⟨b,0+j * 66+k,none⟩=some u:=fun k u hu=>by
      rw [Nat.zero_add]
      exact cell_later (by rw [←HB.out];exact hbl) (hcl j x hx k u hu)
     have HO:Hid (wr.ownsRow B 118 67 u3 l.length (yH7 l)):=ho
     have HBL2:Hid (RowKit.Below B w wr):=hbl
     have hxd:x.dev=i:=hmem.2
     have HXD:Hid (x.dev=i):=hxd
     clear ho hbl hcl hx hv2 hv3 hl hmem hxd c3 ci
     go_upto_region 7 with fail
     refine wp_region_lit ?_
     refine yI8 und73 size87 (.tmp 21) (.tmp 23) rfl rfl b 0 L cv j rfl rfl hjl ?_
     simp only [Act.put,aS,aC,aZ]
     refine yF1 agg87 (.tmp 25) rfl rfl b (0+j * 66) rfl (yC5 x) (yD2 x hxl) hcx ?_
     simp only [Act.put,aS,aC,aZ]
     refine yH5 agg87 _ zero87 rfl rfl rfl rfl rfl (.tmp 26) rfl (yC5 x) (yD2 x hxl) rfl (wrCells_one x) (fun _=>rfl) (fun _=>rfl) ?_
     intro w2 r2 s2 b2
     refine wpList_nil ?_
     simp only [Act.put,aS,aC,aZ]
     obtain ⟨q,hq⟩:∃q,q=wr.heap.size:=⟨_,rfl⟩
     rw [←hq] at r2 ⊢
     have HBw:Hid (B≤wr.heap.size):=by
      have:=HBL2.out.size
      rw [HB.out]
      exact this
     have HO2:Hid (w2.ownsRow B 118 67 u3 l.length (yH7 l)):=ownsRow_below HO.out b2
     have HB2:Hid (RowKit.Below B w w2∧B≤w2.heap.size):=⟨HBL2.out.trans (b2.mono HBw.out),by have:=HBw.out;omega⟩
     clear b2 s2 hcx HO HBL2
     go_upto_region 8 with fail
     refine wp_region_lit ?_
     refine yC7 (.tmp 3) rfl rfl u3 rfl ?_
     refine yC7 (.tmp 4) rfl rfl (.int .i64 (i:Int)) rfl ?_
     simp only [Act.put,aS,aC,aZ]
     refine yF1 agg87 (.tmp 7) rfl rfl q 0 rfl (yC5 x) (yD2 x hxl) (fun k u hu=>by rw [Nat.zero_add];exact r2.at k u hu) ?_
     simp only [Act.put,aS,aC,aZ]
     refine wpList_build93 (.tmp 28) (.tmp 29) rfl rfl (i:Int) (yC5 x) (yD2 x hxl) rfl rfl ?_
     simp only [Act.put,aS,aC,aZ]
     have hdc:Value.int .i64 (i:Int) :: yC5 x=dCells x:=by unfold dCells;rw [HXD.out]
     rw [hdc]
     refine wpList_one und90 info93 (by decide) (by decide) (.tmp 30) rfl rfl (dCells x) (yF2 x hxl) rfl ?_
     intro w4 r4 s4 b4
     simp only [Act.put,aS,aC,aZ]
     obtain ⟨i0,hi0,hz0,hz1,hz2⟩:=info_parts info93
     refine wpList_append_own_at _ rfl (.tmp 27) (.tmp 31) 111 rfl B 118 i0 _ 67 88 und90 hi0 hz0 hz1 hz2 rfl (by decide) u3 l.length (yH7 l) rfl (ownsRow_below HO2.out b4) ⟨w2.heap.size,0,none⟩ 1 1 (dCells x) rfl (by rw [yF2 x hxl]) ?cells (dCells_one x) (by unfold maxLen;omega) (by omega) (by have:=HB2.out.2;omega) ?_
     case cells =>
      intro k u hu
      rw [yB7,Nat.zero_add]
      exact r4.at k u hu
     intro v5 w5 o5 g5 n5 l5
     refine yE3 (.tmp 32) rfl rfl v5 rfl ?_
     refine wpList_nil ?_
     simp only [Act.put,aS,aC,aZ]
     have HO5:Hid (w5.ownsRow B 118 67 v5 (m.upto i++(m.wt i).take (j+1)).length (yH7 (m.upto i++(m.wt i).take (j+1)))):=by
      rw [HT.out,dcells_snoc,List.length_append]
      exact o5
     have HB5:Hid (RowKit.Below B w w5):=by
      refine (HB2.out.1.trans (b4.mono HB2.out.2)).trans ((RowKit.Below.refl B w4).grown g5 (by have:=HB2.out.2;omega) fun k hk => ?_)
      exact (HO2.out.lt k hk).1
     clear o5 g5 n5 l5 b4 s4 r4 r2
     go_wp2
     exact ⟨⟨j+1,by omega,by go_num,HO5.out,HB5.out⟩,by simp [intOf];omega⟩
    ·have e:j=L:=by omega
     subst e
     have HO:Hid (wr.ownsRow B 118 67 u3 (m.upto (i+1)).length (yH7 (m.upto (i+1)))):=by
      rw [m.upto_succ]
      have:=ho
      rw [HL.out,List.take_length] at this
      exact this
     have HBL2:Hid (RowKit.Below B w wr):=hbl
     clear ho hbl c3 ci
     go_wp2
     exact ⟨⟨i+1,by omega,by go_num,HO.out,HBL2.out⟩,by simp [intOf];omega⟩
  ·have e:i=n:=by omega
   subst e
   have hperm:=Pl.upto_all hwf
   rw [←HN.out] at hperm
   obtain ⟨l,hl⟩:∃l,l=m.upto i:=⟨_,rfl⟩
   rw [←hl] at ho hperm
   have hlw:l.length<1099511627776:=by
    have:=hwf.few_wts
    rw [←hperm.length_eq]
    omega
   have hok:∀x∈l,WOk x:=fun x hx=>by
    have hm:x∈m.wts:=by rw [hl] at hx;exact Pl.upto_mem hx
    have:=(hwf.wdev x hm).2.2
    exact ⟨by omega,(hwf.wsec x hm).1⟩
   have HLE:Hid (l.length=m.wts.length):=hperm.length_eq.symm
   have HBw:Hid (B≤wr.heap.size):=by
    have:=hbl.size
    rw [HB.out]
    exact this
   by_cases hnil:l=[]
   ·have hw0:m.wts=[]:=by
     have:=HLE.out
     rw [hnil] at this
     exact List.length_eq_zero_iff.1 this.symm
    have hv:∃p cp,u3 = .slice p 0 cp:=by
     obtain ⟨_,h⟩:=ho
     rcases h with ⟨rfl,_⟩|⟨g',cp,cur,rfl,_⟩
     ·exact ⟨none,0,rfl⟩
     ·rw [hnil]
      exact ⟨_,cp,rfl⟩
    obtain ⟨p,cp,rfl⟩:=hv
    have HBL:Hid (RowKit.Below B w wr):=hbl
    have HS:Hid (Calls Tryd.prog 74 #[.slice p 0 cp,.func (.func 75) #[] #[]] wr fun e w'=>e = .returned (.tuple #[])∧w'=wr):=AnyF.slices_SortFunc_none Tryd.laySort p cp _ wr
    have HW0:Hid (m.wts=[]):=hw0
    clear ho hbl hw0 hperm hok hl hnil
    go_wp2_with (go_at_call 74;refine HS.out.mono ?_;rintro e w4 ⟨rfl,hw4⟩)
    subst hw4
    go_ret
    refine ⟨_,rfl,⟨p,cp,?_,Or.inl HW0.out⟩,HBL.out⟩
    rw [HW0.out]
    rfl
   ·obtain ⟨b,cp,hv,hBb,hcell⟩:∃b cp,u3 = .slice (some ⟨b,0,none⟩) l.length cp∧B≤b∧∀j u,(yH7 l)[j]? = some u→wr.cell? ⟨b,0+j,none⟩=some u∧wr.frozen? ⟨b,0+j,none⟩=false:=by
     obtain ⟨_,h⟩:=ho
     rcases h with ⟨_,h0⟩|⟨g',cp,cur,rfl,hBg,hg,_,_,_,hcur⟩
     ·exact absurd (List.length_eq_zero_iff.1 h0) hnil
     ·refine ⟨g',cp,rfl,hBg,fun j u hu => ?_⟩
      rw [←hcur,List.getElem?_take] at hu
      split at hu
      ·refine ⟨?_,by simp [World.frozen?,hg]⟩
       simp [World.cell?,hg]
       simpa using hu
      ·cases hu
    subst hv
    have hblt:b<wr.heap.size:=by
     cases l with
     | nil=>exact absurd rfl hnil
     | cons x l=>exact block_lt_of_cell (hcell 0 (.int .i64 (x.dev:Nat)) rfl).1
    have HBL:Hid (RowKit.Below B w wr):=hbl
    have HS:Hid (Calls Tryd.prog 74 #[.slice (some ⟨b,0,none⟩) l.length cp,.func (.func 75) #[] #[]] wr fun e w'=>e = .returned noResult∧(∀j u,(yH7 m.wts)[j]? = some u→w'.cell? ⟨b,j,none⟩=some u)∧Ch (· = b) wr w'):=sort_any l m.wts hok hperm hwf.order (by omega) wr b cp hblt hcell
    clear ho hbl hperm hok hl hnil hcell
    obtain ⟨L,hL⟩:∃L,L=l.length:=⟨_,rfl⟩
    rw [←hL] at HS HLE ⊢
    clear hL
    go_wp2_with (go_at_call 74;refine HS.out.mono ?_;rintro e w4 ⟨rfl,hc4,ch4⟩)
    go_ret
    refine ⟨.slice (some ⟨b,0,none⟩) L cp,rfl,⟨some ⟨b,0,none⟩,cp,by rw [HLE.out],Or.inr ⟨b,rfl,hBb,hc4⟩⟩,HBL.out.trans (ch4.below HBw.out fun k hk e => ?_)⟩
    omega
end Go.Proofs.YtpkkkkomdblpoaaDoor

namespace Go.Proofs.YtpkkkkomdblpoaaDoor
open Go.RowKit Go.Maps
def bootK (keep:List Int) (i:Nat):Int:=if keep.length=0 then 0 else keep.getD (i % keep.length) 0
def yK6 (m:Pl) (keep:List Int) (st:(Nat→List (List Nat))×(Nat→Bool)) (i:Nat) (x:Wr):(Nat→List (List Nat))×(Nat→Bool) :=
 if st.2 x.dev=true then st
 else (upd st.1 x.dev (settled (m.tape x.dev) (st.1 x.dev) x.place x.b (bootK keep i)),fun d=>if d=x.dev then !yK5 (m.tape x.dev) (bootK keep i) else st.2 d)
def yC4 (m:Pl) (keep:List Int):Nat→(Nat→List (List Nat))×(Nat→Bool)
 | 0=>(m.fl,fun _=>false)
 | n+1=>match m.wts[n]? with
  | some x=>yK6 m keep (yC4 m keep n) n x
  | none=>yC4 m keep n
def Pl.boot (m:Pl) (keep:List Int):Pl:={ m with fl:=(yC4 m keep m.wts.length).1,wts:=[],on:=true,fuse := -1 }
theorem bootTo_succ (m:Pl) (keep:List Int) (n:Nat) (x:Wr) (h:m.wts[n]? = some x):yC4 m keep (n+1)=yK6 m keep (yC4 m keep n) n x:=by
 rw [yC4,h]
def Pl.withFl (m:Pl) (fl:Nat→List (List Nat)):Pl:={ m with fl:=fl }
def KeepIn (w:World) (c:Nat→Colour) (t:Nat) (v:Value) (ks:List Int):Prop :=
 ∃p cap,v = .slice p ks.length cap∧ks.length≤cap∧ks.length<4611686018427387904∧(ks=[]∨∃b off,p=some ⟨b,off,none⟩∧(c b).1≠t∧b<w.heap.size∧∀j,j<ks.length→w.cell? ⟨b,off+j,none⟩=some (.int .i64 (ks.getD j 0)))
theorem boot_place {m:Pl} (h:m.WF) (keep:List Int):∀n,n≤m.wts.length→∀i,i<m.n →
  (∀s∈(yC4 m keep n).1 i,Sec s)∧(m.tape i=false→((yC4 m keep n).1 i).length=m.size i) ∧
  (m.tape i=true→(yC4 m keep n).2 i=false→((yC4 m keep n).1 i).length=(m.fl i).length+((m.wts.take n).filter fun x=>x.dev == i).length) ∧
  (m.tape i=true→((yC4 m keep n).1 i).length≤(m.fl i).length+((m.wts.take n).filter fun x=>x.dev == i).length)
 | 0,_,i,hi=>by
  refine ⟨h.secs i,fun ht=>h.disk i hi ht,fun _ _=>by simp [yC4],fun _=>by simp [yC4]⟩
 | n+1,hn,i,hi=>by
  obtain ⟨x,hx⟩:∃x,m.wts[n]? = some x:=⟨_,List.getElem?_eq_getElem (by omega)⟩
  obtain ⟨h1,h2,h3,h4⟩:=boot_place h keep n (by omega) i hi
  rw [bootTo_succ m keep n x hx,take_next _ n x hx,List.filter_append]
  have hxs:Sec x.b:=h.wsec x (List.mem_of_getElem? hx)
  unfold yK6
  by_cases he:(yC4 m keep n).2 x.dev=true
  ·rw [if_pos he]
   refine ⟨h1,h2,fun ht hee => ?_,fun ht => ?_⟩
   ·have hne:x.dev≠i:=fun e=>by rw [e,hee] at he;cases he
    have:=h3 ht hee
    simp [hne,this]
   ·have:=h4 ht
    simp
    omega
  ·rw [if_neg he]
   by_cases hd:i=x.dev
   ·subst hd
    have hu:upd (yC4 m keep n).1 x.dev (settled (m.tape x.dev) ((yC4 m keep n).1 x.dev) x.place x.b (bootK keep n)) x.dev=settled (m.tape x.dev) ((yC4 m keep n).1 x.dev) x.place x.b (bootK keep n):=by simp [upd]
    simp only [hu]
    have hlay:∀b,Sec b→∀s∈lay (m.tape x.dev) ((yC4 m keep n).1 x.dev) x.place b,Sec s:=fun b hb s hs=>by
     unfold lay at hs
     split at hs
     ·rcases List.mem_append.1 hs with hs|hs
      ·exact h1 s hs
      ·rw [List.mem_singleton.1 hs]
       exact hb
     ·rcases List.mem_or_eq_of_mem_set hs with hs|hs
      ·exact h1 s hs
      ·rw [hs]
       exact hb
    refine ⟨fun s hs => ?_,fun ht => ?_,fun ht hee => ?_,fun ht => ?_⟩
    ·unfold settled at hs
     split at hs
     ·exact hlay _ hxs s hs
     ·split at hs
      ·exact hlay _ (torn_sec hxs) s hs
      ·exact h1 s hs
    ·unfold settled
     rw [ht]
     simp only [Bool.false_eq_true,false_and,if_false]
     split
     ·rw [yJ6]
      simpa using h2 ht
     ·exact h2 ht
    ·have hee':yK5 (m.tape x.dev) (bootK keep n)=true:=by simpa using hee
     have hodd:bootK keep n % 2=1:=by
      unfold yK5 at hee'
      rw [ht] at hee'
      simpa using hee'
     unfold settled
     rw [if_pos hodd,yJ6,ht,h3 ht (by simpa using he)]
     simp
     omega
    ·have h4':=h4 ht
     have hle:(settled (m.tape x.dev) ((yC4 m keep n).1 x.dev) x.place x.b (bootK keep n)).length≤((yC4 m keep n).1 x.dev).length+1:=by
      unfold settled
      rw [ht]
      split
      ·rw [yJ6];simp
      ·split
       ·rw [yJ6];simp
       ·omega
     simp
     omega
   ·have hu:upd (yC4 m keep n).1 x.dev (settled (m.tape x.dev) ((yC4 m keep n).1 x.dev) x.place x.b (bootK keep n)) i=(yC4 m keep n).1 i:=by simp [upd,hd]
    simp only [hu,if_neg hd]
    have hf:(List.filter (fun x=>x.dev == i) [x]).length=0:=by simp [Ne.symm hd]
    refine ⟨h1,h2,fun ht hee => ?_,fun ht => ?_⟩
    ·rw [h3 ht hee,List.length_append,hf]
     omega
    ·rw [List.length_append,hf]
     exact h4 ht
end Go.Proofs.YtpkkkkomdblpoaaDoor

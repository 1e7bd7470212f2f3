/- The walk of Plant.Boot. The walks of sizesHold, newDevice, and of the small calls Fuse and Tick. The walk of plant.New. -/
import Derived.Test.YtpkkkkomdblpoaaDoorS13
import Derived.OrdersHeld
namespace Go.Proofs.YtpkkkkomdblpoaaDoor
open Go.RowKit Go.Maps
theorem filter_at (l:List Wr) (p:Wr→Bool) (n:Nat) (x:Wr) (h:l[n]? = some x) (hp:p x=true):(l.filter p)[((l.take n).filter p).length]? = some x:=by
 obtain ⟨hn,rfl⟩:=List.getElem?_eq_some_iff.1 h
 have e:l=l.take n++(l[n] :: l.drop (n+1)):=by simp
 have e2:l.filter p=(l.take n).filter p++(l[n] :: (l.drop (n+1)).filter p):=by
  conv=>lhs;rw [e]
  rw [List.filter_append,List.filter_cons_of_pos hp]
 rw [e2,List.getElem?_append_right (Nat.le_refl _)]
 simp
theorem boot_ok {m:Pl} (h:m.WF) (keep:List Int) (n:Nat) (x:Wr) (hx:m.wts[n]? = some x) (he:(yC4 m keep n).2 x.dev=false):PlaceOk (m.tape x.dev) ((yC4 m keep n).1 x.dev) x.place:=by
 have hn:=(List.getElem?_eq_some_iff.1 hx).1
 have hd:=h.wdev x (List.mem_of_getElem? hx)
 obtain ⟨h1,h2,h3,h4⟩:=boot_place h keep n (by omega) x.dev hd.1
 unfold PlaceOk
 by_cases ht:m.tape x.dev=true
 ·rw [if_pos ht,h3 ht he]
  exact (h.tapes x.dev hd.1 ht).2 _ x (filter_at m.wts _ n x hx (by simp))
 ·rw [if_neg ht,h2 (by simpa using ht)]
  exact hd.2.1
theorem PlantAt.recolour {w:World} {c c':Nat→Colour} {t g db cap:Nat} {gs:Nat→Nat} {m:Pl} (h:PlantAt w c t g db cap gs m) (hc:∀b,b<w.heap.size→c' b=c b):PlantAt w c' t g db cap gs m :=
 ⟨h.row,(hc g h.row.lt).trans h.cg,(hc db h.lt).trans h.cd,h.ne,h.lt,h.cap,h.cell,fun i hi=>(h.dev i hi).kept fun b hb hk=>⟨rfl,(hc b hb).trans hk⟩⟩
def yG5 (f:Nat→Bool):List Value:=(List.range 12).map fun i=>.bool (f i)
theorem endCells_at (f:Nat→Bool) (i:Nat) (h:i<12):(yG5 f)[i]? = some (.bool (f i)):=by simp [yG5,h]
theorem endCells_set (f:Nat→Bool) (i:Nat) (v:Bool):(yG5 f).set i (.bool v)=yG5 fun d=>if d=i then v else f d:=by
 apply List.ext_getElem?
 intro j
 by_cases hj:j<12
 ·by_cases e:j=i
  ·subst e
   rw [List.getElem?_set_self (by simpa [yG5] using hj),endCells_at _ j hj,if_pos rfl]
  ·rw [List.getElem?_set_ne (Ne.symm e),endCells_at _ j hj,endCells_at _ j hj,if_neg e]
 ·rw [List.getElem?_eq_none (by simp [yG5];omega),List.getElem?_eq_none (by simp [yG5];omega)]
theorem zeroEnd:List.replicate 12 (Value.bool false)=yG5 fun _=>false:=by rfl
theorem en52:yB9 51:=Go.Proofs.enters_of Tryd.func51 (by kernel_rfl) rfl
theorem en53:yB9 52:=Go.Proofs.enters_of Tryd.func52 (by kernel_rfl) rfl
section
variable {ops:Array Oper} {Q:Exit→Act→World→Prop} {S:World→Prop} {a:Act} {w:World} {listed:Array Bool} {fuel:Nat}
theorem takeH {i:Nat} (d:Option Tmp) {oi:Oper} {v:Value} (hi:ops[i]? = some oi) (hd:oi.dst=d)
  (hs:Region.noSelect ops=true) (hf:Region.free .any ops listed i=true) (hr:(Region.ready .any ops listed).contains i=true)
  (hQ:∀c a w,Q (.panic c) (a.put d v) w→Q (.panic c) a w) (hy:YieldsIf Tryd.prog ops S oi v a) (hS:S w)
  (h:wpAnyH Tryd.prog .any ops Q S fuel (listed.setIfInBounds i true) (a.put d v) w):wpAnyH Tryd.prog .any ops Q S (fuel+1) listed a w:=by
 subst hd
 exact wpAnyH_take hi hs hf hr hQ hy hS h
theorem tH (i:Nat) (s:Nat) {oi:Oper} {v:Value} (hi:ops[i]? = some oi) (hd:oi.dst=some s)
    (hy:YieldsIf Tryd.prog ops S oi v a) (hS:S w)
    (h:wpAnyH Tryd.prog .any ops Q S fuel (listed.setIfInBounds i true) (a.put (some s) v) w)
    (hk:(Region.noSelect ops && Region.free .any ops listed i && (Region.ready .any ops listed).contains i)=true:=by kernel_rfl)
    (hQ:∀c a w,Q (.panic c) (a.put (some s) v) w→Q (.panic c) a w:=by exact fun _ _ _ h=>h):wpAnyH Tryd.prog .any ops Q S (fuel+1) listed a w:=by
  simp only [Bool.and_eq_true] at hk
  exact takeH (some s) hi hd hk.1.1 hk.1.2 hk.2 hQ hy hS h
theorem yLoad1H {o:Oper} {t:Nat} (ht:OneT t) (hgd:o.guard=none) (x:Operand) (ho:o.op = .load t x) (g off:Nat) (hx:a.eval x = .pointer (some ⟨g,off,none⟩)) (v:Value) (hc:∀w,S w→w.cell? ⟨g,off,none⟩=some v):YieldsIf Tryd.prog ops S o v a :=
 Or.inl ⟨by simp [Region.wanted,hgd],fun w hS=>yA7 ht x ho g off hx v (hc w hS)⟩
theorem yLoadAH {o:Oper} {t n:Nat} (ht:AggT t n) (hgd:o.guard=none) (x:Operand) (ho:o.op = .load t x) (g off:Nat) (hx:a.eval x = .pointer (some ⟨g,off,none⟩)) (cs:List Value) (hn:cs.length=n) (hc:∀w,S w→∀j v,cs[j]? = some v→w.cell? ⟨g,off+j,none⟩=some v):YieldsIf Tryd.prog ops S o (.agg cs.toArray) a :=
 Or.inl ⟨by simp [Region.wanted,hgd],fun w hS=>yA9 ht x ho g off hx cs hn (hc w hS)⟩
theorem yIndex {o:Oper} {t e n:Nat} (ht:Tryd.prog.underlying t=some (.slice e)) (hs:(Tryd.prog.info? e).map (·.size)=some n) (hgd:o.guard=none) (x ix:Operand) (ho:o.op = .indexAddr t x ix) (b off len cap j:Nat) (hx:a.eval x = .slice (some ⟨b,off,none⟩) len cap)
  (hix:a.eval ix = .int .i64 (j:Nat)) (hj:j<len):Yields Tryd.prog ops o (.pointer (some ⟨b,off+j * n,none⟩)) a:=by
 obtain ⟨i,hi,hsz⟩:=Option.map_eq_some_iff.1 hs
 exact Or.inl ⟨by simp [Region.wanted,hgd],fun w=>by simp [execOp,ho,hx,hix,Instr.indexAt,asIntOf,run_underlying ht,sizeOf,typeInfo,hi,hsz,hj,yB7]⟩
theorem oneH {i:Nat} (hr:Region.ready .any ops listed=[i]) (h:wpOp Tryd.prog ops Q i (fun a' w'=>S w'∧wpAnyH Tryd.prog .any ops Q S fuel (listed.setIfInBounds i true) a' w') a w):wpAnyH Tryd.prog .any ops Q S (fuel+1) listed a w :=
 wpAnyH_all (rs:=[i]) hr (by simp) fun j hj=>by obtain rfl:=List.mem_singleton.1 hj;exact h
theorem opSkip {i:Nat} {o:Oper} {K:Act→World→Prop} (hi:ops[i]? = some o) (hd:o.dst=none) (hgd:o.guard=none) (w':World) (hrun:(execOp a.eval o).run Tryd.prog w = .ok .skip w') (h:K a w'):wpOp Tryd.prog ops Q i K a w:=by
 unfold wpOp
 have hw:Region.wanted o (yielded ops a.tmps)=true:=by simp [Region.wanted,hgd]
 simp only [hi,hw,if_true,Oper.wp,hrun,Oper.upon]
 refine .inl ?_
 rw [hd]
 exact h
theorem yH3 {o:Oper} (x:Operand) (ty:TypeId) (ho:o.op = .unOp .not ty x) (y:Bool) (hx:a.eval x = .bool y):(execOp a.eval o).run Tryd.prog w = .ok (.value (.bool (!y))) w:=by
 simp [execOp,ho,hx,Op.unary]
theorem run_index89 {o:Oper} (x ix:Operand) (ho:o.op = .indexAddr 110 x ix) (b j:Nat) (hx:a.eval x = .pointer (some ⟨b,0,none⟩)) (hix:a.eval ix = .int .i64 (j:Nat)) (hj:j<12):(execOp a.eval o).run Tryd.prog w = .ok (.value (.pointer (some ⟨b,j,none⟩))) w:=by
 have hs:(Tryd.prog.info? 4).map (·.size)=some 1:=by kernel_rfl
 obtain ⟨i,hi,hsz⟩:=Option.map_eq_some_iff.1 hs
 simp [execOp,ho,hx,hix,Instr.indexAt,asIntOf,run_underlying Tryd.underlying110,Instr.sureAddr,sizeOf,typeInfo,hi,hsz,hj,yB7]
theorem run_storeOp1 {o:Oper} {t:Nat} (ht:(Tryd.prog.info? t).map (·.size)=some 1) (x y:Operand) (ho:o.op = .store t x y) (g off T:Nat) (hx:a.eval x = .pointer (some ⟨g,off,none⟩)) (v:Value) (cur:List Value) (hy:a.eval y=v) (hv:v.cells=#[v]) (h1:v.oneCell'=true)
  (hr:Row w g T cur) (hfit:off<cur.length):(execOp a.eval o).run Tryd.prog w = .ok .skip (w.setRow g (cur.set off v).toArray):=by
 simp [execOp,ho,hx,hy,Instr.storeAt,Instr.sureAddr,run_store1 ht w g off T cur v hv h1 hr hfit]
end
theorem f93_0:yD7 118 0 0:=fun w g off=>by kernel_rfl
theorem f69_0:yD7 81 0 0:=fun w g off=>by kernel_rfl
theorem one67:OneT 79:=fun w g o v h=>by simp [loadVar,isAgg,run_underlying Tryd.underlying79,h]
theorem und67:Tryd.prog.underlying 79=some (.slice 82):=Tryd.underlying79
theorem size70:(Tryd.prog.info? 82).map (·.size)=some 1:=by kernel_rfl
theorem size4:(Tryd.prog.info? 4).map (·.size)=some 1:=by kernel_rfl
def BootIn (W:World) (c:Nat→Colour) (t g db cap:Nat) (gs:Nat→Nat) (m:Pl) (ks:List Int) (B n:Nat):Prop :=
 PlantAt W c t g db cap gs (m.withFl (yC4 m ks n).1)∧Row W B 110 (yG5 (yC4 m ks n).2)
theorem PlantAt.ch {w w':World} {c:Nat→Colour} {t g db cap:Nat} {gs:Nat→Nat} {m:Pl} {S:Nat→Prop} (h:PlantAt w c t g db cap gs m) (hc:Ch S w w') (hS:∀b,b<w.heap.size→S b→(c b).1≠t):PlantAt w' c t g db cap gs m:=by
 have hb:∀b,b<w.heap.size→(c b).1=t→w'.heap[b]? = w.heap[b]?:=fun b hlt ht=>hc.block b hlt (fun hs=>hS b hlt hs ht)
 refine ⟨?_,h.cg,h.cd,h.ne,Nat.lt_of_lt_of_le h.lt hc.size,h.cap,fun i hi => ?_,fun i hi=>(h.dev i hi).kept fun b hlt hk=>⟨hb b hlt (by rw [hk]),hk⟩⟩
 ·show w'.heap[g]? = _
  rw [hb g h.row.lt (by rw [h.cg])]
  exact h.row
 ·rw [←h.cell i hi]
  exact World.cell?_of_block (hb db h.lt (by rw [h.cd]))
theorem boot_settle {W W':World} {c:Nat→Colour} {t g db cap:Nat} {gs:Nat→Nat} {m:Pl} {ks:List Int} {B n:Nat} {x:Wr} (h:BootIn W c t g db cap gs m ks B n) (hx:m.wts[n]? = some x) (he:(yC4 m ks n).2 x.dev=false) (hcB:c B=(t+1,0))
  (hd:DevIn W' c (t,x.dev+1) (gs x.dev) (m.tape x.dev) (m.size x.dev) (settled (m.tape x.dev) ((yC4 m ks n).1 x.dev) x.place x.b (bootK ks n)) (m.wt x.dev)) (hc:Ch (fun b=>c b=(t,x.dev+1)) W W') :
  PlantAt W' c t g db cap gs (m.withFl (yC4 m ks (n+1)).1)∧Row W' B 110 (yG5 (yC4 m ks n).2):=by
 have e:yC4 m ks (n+1)=(upd (yC4 m ks n).1 x.dev (settled (m.tape x.dev) ((yC4 m ks n).1 x.dev) x.place x.b (bootK ks n)),fun d=>if d=x.dev then !yK5 (m.tape x.dev) (bootK ks n) else (yC4 m ks n).2 d):=by
  rw [bootTo_succ m ks n x hx]
  unfold yK6
  rw [if_neg (by simp [he])]
 refine ⟨?_,hc.row (by rw [hcB];simp) h.2⟩
 rw [e]
 refine h.1.device _ x.dev rfl (fun j hj=>⟨?_,rfl⟩) ⟨rfl,rfl,rfl,rfl⟩ hc (fun _ _=>rfl) (fun _ => ?_)
 ·show upd _ _ _ j=_
  simp [upd,hj,Pl.withFl]
 ·have e2:(m.withFl (upd (yC4 m ks n).1 x.dev (settled (m.tape x.dev) ((yC4 m ks n).1 x.dev) x.place x.b (bootK ks n)))).fl x.dev=settled (m.tape x.dev) ((yC4 m ks n).1 x.dev) x.place x.b (bootK ks n):=by
   simp [Pl.withFl,upd]
  rw [e2]
  exact hd
theorem boot_said {W:World} {c:Nat→Colour} {t g db cap:Nat} {gs:Nat→Nat} {m:Pl} {ks:List Int} {B n:Nat} {x:Wr} (h:PlantAt W c t g db cap gs (m.withFl (yC4 m ks (n+1)).1)) (hr:Row W B 110 (yG5 (yC4 m ks n).2)) (hx:m.wts[n]? = some x) (he:(yC4 m ks n).2 x.dev=false) (hcB:c B=(t+1,0)) :
  BootIn (W.setRow B ((yG5 (yC4 m ks n).2).set x.dev (.bool (!yK5 (m.tape x.dev) (bootK ks n)))).toArray) c t g db cap gs m ks B (n+1):=by
 refine ⟨h.ch (S:=(· = B)) ((Ch.refl (· = B) W).setRow (g:=B) (Or.inl rfl) _) (fun b _ e=>by rw [e,hcB];simp),?_⟩
 have e:(yC4 m ks (n+1)).2=fun d=>if d=x.dev then !yK5 (m.tape x.dev) (bootK ks n) else (yC4 m ks n).2 d:=by
  rw [bootTo_succ m ks n x hx]
  unfold yK6
  rw [if_neg (by simp [he])]
 rw [e,←endCells_set]
 exact hr.setRow _
def Pl.less (m:Pl) (fl:Nat→List (List Nat)) (i:Nat):Pl:={ m with fl:=fl,wts:=m.wts.filter fun x=>decide (i≤x.dev) }
theorem Pl.less_wt (m:Pl) (fl:Nat→List (List Nat)) (i j:Nat):(m.less fl i).wt j=if j<i then [] else m.wt j:=by
 unfold Pl.less Pl.wt
 simp only [List.filter_filter]
 by_cases h:j<i
 ·rw [if_pos h,List.filter_eq_nil_iff]
  intro x _
  by_cases hx:x.dev=j
  ·simp [hx];omega
  ·simp [hx]
 ·rw [if_neg h]
  apply List.filter_congr
  intro x _
  by_cases hx:x.dev=j
  ·simp [hx];omega
  ·simp [hx]
theorem Pl.less_none {m:Pl} (h:m.WF) (fl:Nat→List (List Nat)):(m.less fl m.n).wts=[]:=by
 unfold Pl.less
 rw [List.filter_eq_nil_iff]
 intro x hx
 have:=(h.wdev x hx).1
 simp only [decide_eq_true_eq]
 show ¬ m.sh.length≤x.dev
 omega
theorem less_zero (m:Pl) (fl:Nat→List (List Nat)):m.less fl 0=m.withFl fl:=by
 unfold Pl.less Pl.withFl
 simp
set_option maxHeartbeats 600000 in
set_option maxRecDepth 100000 in
theorem boot_any {w:World} {c:Nat→Colour} {t g db cap:Nat} {gs:Nat→Nat} {m:Pl} (h:PlantAt w c t g db cap gs m) (hwf:m.WF) (hst:m.steps<35184372088832) (kv:Value) (ks:List Int) (hk:KeepIn w c t kv ks) :
  Calls Tryd.prog 28 #[ptr g,kv] w fun e w'=>e = .returned noResult∧Post w c t g db cap gs (m.boot ks) w':=by
 obtain ⟨B,hB⟩:∃B,B=w.heap.size:=⟨_,rfl⟩
 have HB:Hid (B=w.heap.size):=hB
 obtain ⟨c1,hc1⟩:∃c1,c1=paint c B (t+1,0):=⟨_,rfl⟩
 have HC1:Hid (∀b,b<B→c1 b=c b):=fun b hb=>by rw [hc1];exact yH9 c B _ b hb
 have HC2:Hid (∀b,B≤b→c1 b=(t+1,0)):=fun b hb=>by rw [hc1];exact paint_new c B _ b hb
 have HP0:Hid (PlantAt w c t g db cap gs m):=h
 obtain ⟨nd,hnd⟩:∃nd,nd=m.n:=⟨_,rfl⟩
 have HND:Hid (nd=m.n):=hnd
 clear hnd
 have HP:Hid (PlantAt w c1 t g db cap gs m):=h.recolour fun b hb=>HC1.out b (by omega)
 obtain ⟨kp,kcap,rfl,hkc,hkl,hks⟩:=hk
 obtain ⟨kl,hkle⟩:∃kl,kl=ks.length:=⟨_,rfl⟩
 rw [←hkle] at hkl hkc ⊢
 have HKL:Hid (kl=ks.length):=hkle
 have HKS:Hid (ks=[]∨∃b off,kp=some ⟨b,off,none⟩∧(c b).1≠t∧b<w.heap.size∧∀j,j<ks.length→w.cell? ⟨b,off+j,none⟩=some (.int .i64 (ks.getD j 0))):=hks
 clear h hc1 hB hkle hks
 go_enter Tryd.func28,Tryd.ntmps28
 go_upto_region 0 with fail
 refine wp_region_lit ?_
 refine yD3 _ zero89 rfl rfl ?_
 intro w1 r1 s1 b1
 refine wpList_nil ?_
 simp only [Act.put,aS,aC,aZ]
 rw [←HB.out] at r1 s1 b1 ⊢
 rw [zeroEnd] at r1
 have HP1:Hid (PlantAt w1 c1 t g db cap gs m):=HP.out.below (by rw [←HB.out];exact b1)
 have HB1:Hid (Below B w w1):=b1
 have HS1:Hid (w1.heap.size=B+1):=s1
 clear b1 s1
 go_upto_region 1 with fail
 refine wp_region_lit ?_
 refine yC7 (.tmp 0) rfl rfl (ptr g) rfl ?_
 simp only [Act.put,aS,aC,aZ]
 refine wpList_callF en52 [.tmp 10] _ rfl rfl [ptr g] rfl ?_
 refine (all_any HP1.out hwf hst).mono ?_
 rintro e w2 ⟨av,rfl,⟨ap,acap,rfl,hall⟩,b2⟩
 refine ⟨_,rfl,?_⟩
 simp only [Act.put,aS,aC,aZ]
 obtain ⟨L,hL⟩:∃L,L=m.wts.length:=⟨_,rfl⟩
 rw [←hL]
 have HL:Hid (L=m.wts.length):=hL
 have hL40:L<1099511627776:=by have:=hwf.few_wts;omega
 have HA:Hid (m.wts=[]∨∃b,ap=some ⟨b,0,none⟩∧w1.heap.size≤b∧∀j u,(yH7 m.wts)[j]? = some u→w2.cell? ⟨b,j,none⟩=some u):=hall
 have HB2:Hid (Below w1.heap.size w1 w2):=b2
 have HI2:Hid (BootIn w2 c1 t g db cap gs m ks B 0∧Ch (fun b=>(c1 b).1=t∨b=B) w2 w2):=⟨⟨HP1.out.below b2,r1.later b2 (by have:=HS1.out;omega)⟩,Ch.refl _ _⟩
 clear hL hall b2 r1
 go_wp2
 go_loopw [13] (fun ix W => ∃n:Nat,n≤L∧ix = .int .i64 n∧BootIn W c1 t g db cap gs m ks B n∧Ch (fun b=>(c1 b).1=t∨b=B) w2 W) (fun ix _=>L - (intOf ix).toNat)
 case atStart=>exact ⟨0,Nat.zero_le _,rfl,HI2.out⟩
 case round =>
  obtain ⟨n,hn,rfl,hin,hch⟩:=hrel
  clear HI2
  by_cases hlt:n<L
  ·obtain ⟨x,hx⟩:∃x,m.wts[n]? = some x:=⟨_,List.getElem?_eq_getElem (by rw [←HL.out];exact hlt)⟩
   have hmem:=List.mem_of_getElem? hx
   have hxs:Sec x.b:=hwf.wsec x hmem
   have hxl:x.b.length=64:=hxs.1
   have hxd:=hwf.wdev x hmem
   have hp4:x.place<4096:=by have:=hwf.sizes x.dev hxd.1;omega
   have hd12:x.dev<12:=by have:=hwf.few;omega
   obtain ⟨ba,hap,hbal,hac⟩:∃b,ap=some ⟨b,0,none⟩∧w1.heap.size≤b∧∀j u,(yH7 m.wts)[j]? = some u→w2.cell? ⟨b,j,none⟩=some u:=by
    rcases HA.out with h0|h0
    ·rw [h0] at hx
     simp at hx
    ·exact h0
   subst hap
   have hcx:∀k u,(dCells x)[k]? = some u→wr.cell? ⟨ba,0+n * 67+k,none⟩=some u:=fun k u hu=>by
    rw [Nat.zero_add]
    have hk:k<67:=by
     have:=(List.getElem?_eq_some_iff.1 hu).1
     rwa [yF2 x hxl] at this
    have h1:=hac (n * 67+k) u (by rw [dcells_at m.wts (fun y hy=>(hwf.wsec y hy).1) n k x hx hk];exact hu)
    refine hch.cell ?_ h1
    have e:=HC2.out ba (by have:=HS1.out;omega)
    rw [e]
    have:=HS1.out
    simp
    omega
   have HX:Hid (m.wts[n]? = some x):=hx
   have HIN:Hid (BootIn wr c1 t g db cap gs m ks B n):=hin
   have HCH:Hid (Ch (fun b=>(c1 b).1=t∨b=B) w2 wr):=hch
   clear hin hch hx hac hmem
   go_upto_region 3 with fail
   refine wp_region_lit ?_
   refine yC7 (.tmp 13) rfl rfl (.int .i64 (n:Int)) rfl ?_
   refine yI8 und90 size93 (.tmp 11) (.tmp 13) rfl rfl ba 0 L acap n rfl rfl hlt ?_
   simp only [Act.put,aS,aC,aZ]
   refine yF1 agg93 (.tmp 16) rfl rfl ba (0+n * 67) rfl (dCells x) (yF2 x hxl) hcx ?_
   simp only [Act.put,aS,aC,aZ]
   refine yD3 _ zero93 rfl rfl ?_
   intro w3 r3 s3 b3
   simp only [Act.put,aS,aC,aZ]
   refine yE3 (.tmp 15) rfl rfl (.int .i64 (n:Int)) rfl ?_
   simp only [Act.put,aS,aC,aZ]
   refine yE2 agg93 (.tmp 6) (.tmp 17) rfl rfl rfl wr.heap.size 0 118 rfl (dCells x) _ rfl (yF2 x hxl) r3 (by rw [yF2 x hxl];simp [yB4]) (dCells_one x) ?_
   refine wpList_nil ?_
   rw [yB5 _ _ (by rw [yF2 x hxl];simp [yB4])]
   obtain ⟨q,hq⟩:∃q,q=wr.heap.size:=⟨_,rfl⟩
   obtain ⟨w4,hw4⟩:∃w4,w4=w3.setRow wr.heap.size (dCells x).toArray:=⟨_,rfl⟩
   rw [←hw4,←hq]
   have r4:Row w4 q 118 (dCells x):=by rw [hw4,hq];exact r3.setRow _
   have b4:Below wr.heap.size wr w4:=by
    rw [hw4]
    exact b3.trans ⟨rfl,rfl,rfl,by simp [World.setRow],fun k hk=>Go.setRow_other w3 _ k _ (by omega)⟩
   have s4:w4.heap.size=q+1:=by rw [hw4,hq];simpa [World.setRow] using s3
   have HIN4:Hid (BootIn w4 c1 t g db cap gs m ks B n):=⟨HIN.out.1.below b4,HIN.out.2.later b4 HIN.out.2.lt⟩
   have HCH4:Hid (Ch (fun b=>(c1 b).1=t∨b=B) w2 w4):=HCH.out.trans (Ch.of_below b4)
   have HQ:Hid (q=wr.heap.size∧w4.heap.size=q+1∧B<q):=⟨hq,s4,by rw [hq];exact HIN.out.2.lt⟩
   obtain ⟨dv,hdv⟩:∃dv,dv=x.dev:=⟨_,rfl⟩
   have HDV:Hid (dv=x.dev):=hdv
   rw [←hdv] at hd12
   have q0:w4.cell? ⟨q,0,none⟩=some (.int .i64 (dv:Nat)):=by rw [hdv];exact r4.at 0 _ rfl
   have hcw:∀j u,(yC5 x)[j]? = some u→w4.cell? ⟨q,0+1+j,none⟩=some u:=fun j u hu=>by
    rw [show 0+1+j=j+1 by omega]
    exact r4.at (j+1) u hu
   clear hw4 r4 b4 s4 r3 s3 b3 hq hdv hcx HIN HCH
   by_cases hen:(yC4 m ks n).2 x.dev=true
   ·have eB:w4.cell? ⟨B,dv,none⟩=some (.bool true):=by
     rw [←hen,←HDV.out]
     exact HIN4.out.2.at dv _ (endCells_at _ dv hd12)
    have HN1:Hid (BootIn w4 c1 t g db cap gs m ks B (n+1)):=by
     have e:yC4 m ks (n+1)=yC4 m ks n:=by rw [bootTo_succ m ks n x HX.out];unfold yK6;rw [if_pos hen]
     unfold BootIn
     rw [e]
     exact HIN4.out
    clear hcw
    go_wp2
    exact ⟨⟨n+1,by omega,by go_num,HN1.out,HCH4.out⟩,by simp [intOf];omega⟩
   ·have hen':(yC4 m ks n).2 x.dev=false:=by simpa using hen
    have eB:w4.cell? ⟨B,dv,none⟩=some (.bool false):=by
     rw [←hen',←HDV.out]
     exact HIN4.out.2.at dv _ (endCells_at _ dv hd12)
    have hdn:dv<nd:=by rw [HDV.out,HND.out];exact hxd.1
    by_cases hk0:ks=[]
    ·have hkz:kl=0:=by rw [HKL.out,hk0];rfl
     have HKK:Hid ((0:Int)=bootK ks n):=by rw [hk0];exact rfl
     subst hkz
     clear hk0
     go_upto_region 8 with fail
     have HSE:Hid (Calls Tryd.prog 52 #[ptr (gs dv),.agg (yC5 x).toArray,.int .i64 0] (w4.drewN 1) fun e w'=>e = .returned (.bool (yK5 (m.tape x.dev) (bootK ks n)))∧DevIn w' c1 (t,x.dev+1) (gs x.dev) (m.tape x.dev) (m.size x.dev) (settled (m.tape x.dev) ((yC4 m ks n).1 x.dev) x.place x.b (bootK ks n)) (m.wt x.dev)∧Ch (fun b=>c1 b=(t,x.dev+1)) (w4.drewN 1) w'):=by
      rw [HDV.out,HKK.out]
      exact settle_any ((HIN4.out.1.dev x.dev hxd.1).drewN 1) x hxs hp4 (boot_ok hwf ks n x HX.out hen') _
     have HS4:Hid ((w4.drewN 1).cell? ⟨q,0,none⟩=some (.int .i64 (dv:Nat))∧(w4.drewN 1).cell? ⟨g,0,none⟩=some (.slice (some ⟨db,0,none⟩) nd cap)∧(w4.drewN 1).cell? ⟨db,dv,none⟩=some (ptr (gs dv))∧∀j u,(yC5 x)[j]? = some u→(w4.drewN 1).cell? ⟨q,0+1+j,none⟩=some u):=by
      refine ⟨q0,?_,?_,hcw⟩
      ·rw [HND.out];exact HIN4.out.1.c0
      ·rw [HDV.out];exact HIN4.out.1.cell x.dev hxd.1
     obtain ⟨y,hy⟩:∃y,y=yK5 (m.tape x.dev) (bootK ks n):=⟨_,rfl⟩
     have HY:Hid (y=yK5 (m.tape x.dev) (bootK ks n)):=hy
     rw [←hy] at HSE
     have hcB:c1 B=(t+1,0):=HC2.out B (Nat.le_refl _)
     have hcq:c1 q=(t+1,0):=HC2.out q (by have:=HQ.out;omega)
     clear hy hcw q0
     refine wp_region_any (by kernel_rfl) (wpAny_of_held (S:=fun W=>W.cell? ⟨q,0,none⟩=some (.int .i64 (dv:Nat))∧W.cell? ⟨g,0,none⟩=some (.slice (some ⟨db,0,none⟩) nd cap)∧W.cell? ⟨db,dv,none⟩=some (ptr (gs dv))∧∀j u,(yC5 x)[j]? = some u→W.cell? ⟨q,0+1+j,none⟩=some u) _ _ _ _ ?_)
     show wpAnyH _ _ _ _ _ 17 (Array.replicate 17 false) _ (w4.drewN 1)
     refine tH 0 32 rfl rfl (yField f93_0 rfl (.tmp 6) rfl q 0 rfl).yieldsIf HS4.out ?_
     refine tH 1 33 rfl rfl (yLoad1H one3 rfl (.tmp 32) rfl q 0 rfl _ (fun W hW=>hW.1)) HS4.out ?_
     refine tH 2 34 rfl rfl (yMove rfl (.tmp 0) rfl (ptr g) rfl).yieldsIf HS4.out ?_
     simp only [Act.put,aS,aC,aZ]
     refine tH 3 35 rfl rfl (yNil rfl (.tmp 34) rfl _ rfl).yieldsIf HS4.out ?_
     refine tH 4 36 rfl rfl (yField f69_0 rfl (.tmp 35) rfl g 0 rfl).yieldsIf HS4.out ?_
     refine tH 5 37 rfl rfl (yLoad1H one67 rfl (.tmp 36) rfl g 0 rfl _ (fun W hW=>hW.2.1)) HS4.out ?_
     simp only [Act.put,aS,aC,aZ]
     refine tH 6 38 rfl rfl (yField f93_0 rfl (.tmp 6) rfl q 0 rfl).yieldsIf HS4.out ?_
     refine tH 7 39 rfl rfl (yLoad1H one3 rfl (.tmp 38) rfl q 0 rfl _ (fun W hW=>hW.1)) HS4.out ?_
     refine tH 8 40 rfl rfl (yIndex und67 size70 rfl (.tmp 37) (.tmp 39) rfl db 0 nd cap dv rfl rfl hdn).yieldsIf HS4.out ?_
     simp only [Act.put,aS,aC,aZ]
     refine tH 9 41 rfl rfl (yLoad1H one70 rfl (.tmp 40) rfl db (0+dv * 1) rfl (ptr (gs dv)) (fun W hW=>by rw [show 0+dv * 1=dv by omega];exact hW.2.2.1)) HS4.out ?_
     refine tH 10 42 rfl rfl (yField f93_1 rfl (.tmp 6) rfl q 0 rfl).yieldsIf HS4.out ?_
     refine tH 11 43 rfl rfl (yLoadAH agg87 rfl (.tmp 42) rfl q (0+1) rfl (yC5 x) (yD2 x hxl) (fun W hW=>hW.2.2.2)) HS4.out ?_
     simp only [Act.put,aS,aC,aZ]
     refine tH 12 44 rfl rfl (yMove rfl (.tmp 7) rfl (.int .i64 0) rfl).yieldsIf HS4.out ?_
     simp only [Act.put,aS,aC,aZ]
     refine oneH (i:=13) (by kernel_rfl) ?_
     refine yG9 (some 45) rfl rfl rfl 52 _ (yC2 en53 [.tmp 41,.tmp 43,.tmp 44] _ rfl [ptr (gs dv),.agg (yC5 x).toArray,.int .i64 0] rfl) ?_
     refine (HSE.out).mono ?_
     rintro e w5 ⟨rfl,hd5,hc5⟩
     refine ⟨_,rfl,?_⟩
     obtain ⟨hP5,hR5⟩:=boot_settle (W:=w4.drewN 1) ⟨HIN4.out.1.drewN 1,HIN4.out.2⟩ HX.out hen' hcB hd5 hc5
     have hqn:¬ c1 q=(t,x.dev+1):=by rw [hcq];simp
     have hS5:w5.cell? ⟨q,0,none⟩=some (.int .i64 (dv:Nat))∧w5.cell? ⟨g,0,none⟩=some (.slice (some ⟨db,0,none⟩) nd cap)∧w5.cell? ⟨db,dv,none⟩=some (ptr (gs dv))∧∀j u,(yC5 x)[j]? = some u→w5.cell? ⟨q,0+1+j,none⟩=some u:=by
      refine ⟨hc5.cell hqn HS4.out.1,?_,?_,fun j u hu=>hc5.cell hqn (HS4.out.2.2.2 j u hu)⟩
      ·rw [HND.out];exact hP5.c0
      ·rw [HDV.out];exact hP5.cell x.dev hxd.1
     refine ⟨hS5,?_⟩
     simp only [Act.put,aS,aC,aZ]
     refine oneH (i:=14) (by kernel_rfl) ?_
     refine yG0 (some 46) rfl rfl rfl _ _ (yH3 (.tmp 45) 4 rfl y rfl) ⟨hS5,?_⟩
     simp only [Act.put,aS,aC,aZ]
     refine oneH (i:=15) (by kernel_rfl) ?_
     refine yG0 (some 47) rfl rfl rfl _ _ (run_index89 (.tmp 4) (.tmp 33) rfl B dv rfl rfl hd12) ⟨hS5,?_⟩
     simp only [Act.put,aS,aC,aZ]
     refine oneH (i:=16) (by kernel_rfl) ?_
     have hB6:=boot_said hP5 hR5 HX.out hen' hcB
     have hrun6:=fun (aa:Act) (oo:Oper) (ho:oo.op = .store 4 (.tmp 47) (.tmp 46)) (hx:aa.eval (.tmp 47) = .pointer (some ⟨B,dv,none⟩)) (hy:aa.eval (.tmp 46) = .bool (!y))=>run_storeOp1 (a:=aa) (o:=oo) size4 (.tmp 47) (.tmp 46) ho B dv 110 hx (.bool (!y)) _ hy rfl rfl hR5 (by simpa [yG5] using hd12)
     rw [←HY.out,←HDV.out] at hB6
     obtain ⟨w6,hw6⟩:∃w6,w6=w5.setRow B ((yG5 (yC4 m ks n).2).set dv (.bool (!y))).toArray:=⟨_,rfl⟩
     rw [←hw6] at hB6
     simp only [←hw6] at hrun6
     refine opSkip rfl rfl rfl w6 (hrun6 _ _ rfl rfl rfl) ⟨?_,?_⟩
     ·have hk6:∀b,b≠B→w6.heap[b]? = w5.heap[b]?:=fun b hb=>by rw [hw6];exact Go.setRow_other w5 B b _ hb
      have hqB:q≠B:=by have:=HQ.out.2.2;omega
      refine ⟨?_,?_,?_,fun j u hu => ?_⟩
      ·rw [←hS5.1];exact World.cell?_of_block (hk6 q hqB)
      ·rw [HND.out];exact hB6.1.c0
      ·rw [HDV.out];exact hB6.1.cell x.dev hxd.1
      ·rw [←hS5.2.2.2 j u hu];exact World.cell?_of_block (hk6 q hqB)
     ·refine wpAnyH_done (by kernel_rfl) ?_ _
      have HN1:Hid (BootIn w6 c1 t g db cap gs m ks B (n+1)):=hB6
      have HCH6:Hid (Ch (fun b=>(c1 b).1=t∨b=B) w2 w6):=by
       have h5:Ch (fun b=>(c1 b).1=t∨b=B) w2 w5:=(HCH4.out.drewN 1).trans' hc5 (fun b _ e=>by rw [e];exact Or.inl rfl)
       rw [hw6]
       exact h5.setRow (Or.inl (Or.inr rfl)) _
      clear hB6 hrun6 hP5 hR5 hS5 hc5 hd5 hw6
      go_wp2
      exact ⟨⟨n+1,by omega,by go_num,HN1.out,HCH6.out⟩,by simp [intOf];omega⟩
    ·obtain ⟨bk,off,hkp,hkc1,hkb,hkcell⟩:∃b off,kp=some ⟨b,off,none⟩∧(c b).1≠t∧b<w.heap.size∧∀j,j<ks.length→w.cell? ⟨b,off+j,none⟩=some (.int .i64 (ks.getD j 0)):=by
      rcases HKS.out with h0|h0
      ·exact absurd h0 hk0
      ·exact h0
     subst hkp
     have hklp:0<kl:=by
      rw [HKL.out]
      exact List.length_pos_iff.2 hk0
     obtain ⟨r,hr⟩:∃r,r=n % kl:=⟨_,rfl⟩
     have hrk:r<kl:=by rw [hr];exact Nat.mod_lt _ hklp
     obtain ⟨kk,hkk⟩:∃kk,kk=bootK ks n:=⟨_,rfl⟩
     have HKK:Hid (kk=bootK ks n):=hkk
     have ck:w4.cell? ⟨bk,off+r,none⟩=some (.int .i64 kk):=by
      have h1:=hkcell r (by rw [←HKL.out];exact hrk)
      have e:ks.getD r 0=kk:=by
       rw [hkk]
       unfold bootK
       rw [if_neg (by have:=HKL.out;omega),←HKL.out,hr]
      rw [e] at h1
      have h2:w2.cell? ⟨bk,off+r,none⟩=some (.int .i64 kk):=cell_later HB2.out (cell_later (by rw [←HB.out];exact HB1.out) h1)
      refine HCH4.out.cell ?_ h2
      rw [HC1.out bk (by rw [HB.out];exact hkb)]
      have:=HB.out
      intro h
      rcases h with h|h
      ·exact hkc1 h
      ·omega
     have hmod:(n:Int) % (kl:Int)=(r:Int):=by rw [hr];simp
     have hpos:decide (0<kl)=true:=by simpa using hklp
     have hne0:¬ (kl:Int)=0:=by omega
     clear hk0 hkcell hkk hkb hr
     go_upto_region 8 with fail
     have HSE:Hid (Calls Tryd.prog 52 #[ptr (gs dv),.agg (yC5 x).toArray,.int .i64 kk] (w4.drewN 1) fun e w'=>e = .returned (.bool (yK5 (m.tape x.dev) (bootK ks n)))∧DevIn w' c1 (t,x.dev+1) (gs x.dev) (m.tape x.dev) (m.size x.dev) (settled (m.tape x.dev) ((yC4 m ks n).1 x.dev) x.place x.b (bootK ks n)) (m.wt x.dev)∧Ch (fun b=>c1 b=(t,x.dev+1)) (w4.drewN 1) w'):=by
      rw [HDV.out,HKK.out]
      exact settle_any ((HIN4.out.1.dev x.dev hxd.1).drewN 1) x hxs hp4 (boot_ok hwf ks n x HX.out hen') _
     have HS4:Hid ((w4.drewN 1).cell? ⟨q,0,none⟩=some (.int .i64 (dv:Nat))∧(w4.drewN 1).cell? ⟨g,0,none⟩=some (.slice (some ⟨db,0,none⟩) nd cap)∧(w4.drewN 1).cell? ⟨db,dv,none⟩=some (ptr (gs dv))∧∀j u,(yC5 x)[j]? = some u→(w4.drewN 1).cell? ⟨q,0+1+j,none⟩=some u):=by
      refine ⟨q0,?_,?_,hcw⟩
      ·rw [HND.out];exact HIN4.out.1.c0
      ·rw [HDV.out];exact HIN4.out.1.cell x.dev hxd.1
     obtain ⟨y,hy⟩:∃y,y=yK5 (m.tape x.dev) (bootK ks n):=⟨_,rfl⟩
     have HY:Hid (y=yK5 (m.tape x.dev) (bootK ks n)):=hy
     rw [←hy] at HSE
     have hcB:c1 B=(t+1,0):=HC2.out B (Nat.le_refl _)
     have hcq:c1 q=(t+1,0):=HC2.out q (by have:=HQ.out;omega)
     clear hy hcw q0
     refine wp_region_any (by kernel_rfl) (wpAny_of_held (S:=fun W=>W.cell? ⟨q,0,none⟩=some (.int .i64 (dv:Nat))∧W.cell? ⟨g,0,none⟩=some (.slice (some ⟨db,0,none⟩) nd cap)∧W.cell? ⟨db,dv,none⟩=some (ptr (gs dv))∧∀j u,(yC5 x)[j]? = some u→W.cell? ⟨q,0+1+j,none⟩=some u) _ _ _ _ ?_)
     show wpAnyH _ _ _ _ _ 17 (Array.replicate 17 false) _ (w4.drewN 1)
     refine tH 0 32 rfl rfl (yField f93_0 rfl (.tmp 6) rfl q 0 rfl).yieldsIf HS4.out ?_
     refine tH 1 33 rfl rfl (yLoad1H one3 rfl (.tmp 32) rfl q 0 rfl _ (fun W hW=>hW.1)) HS4.out ?_
     refine tH 2 34 rfl rfl (yMove rfl (.tmp 0) rfl (ptr g) rfl).yieldsIf HS4.out ?_
     simp only [Act.put,aS,aC,aZ]
     refine tH 3 35 rfl rfl (yNil rfl (.tmp 34) rfl _ rfl).yieldsIf HS4.out ?_
     refine tH 4 36 rfl rfl (yField f69_0 rfl (.tmp 35) rfl g 0 rfl).yieldsIf HS4.out ?_
     refine tH 5 37 rfl rfl (yLoad1H one67 rfl (.tmp 36) rfl g 0 rfl _ (fun W hW=>hW.2.1)) HS4.out ?_
     simp only [Act.put,aS,aC,aZ]
     refine tH 6 38 rfl rfl (yField f93_0 rfl (.tmp 6) rfl q 0 rfl).yieldsIf HS4.out ?_
     refine tH 7 39 rfl rfl (yLoad1H one3 rfl (.tmp 38) rfl q 0 rfl _ (fun W hW=>hW.1)) HS4.out ?_
     refine tH 8 40 rfl rfl (yIndex und67 size70 rfl (.tmp 37) (.tmp 39) rfl db 0 nd cap dv rfl rfl hdn).yieldsIf HS4.out ?_
     simp only [Act.put,aS,aC,aZ]
     refine tH 9 41 rfl rfl (yLoad1H one70 rfl (.tmp 40) rfl db (0+dv * 1) rfl (ptr (gs dv)) (fun W hW=>by rw [show 0+dv * 1=dv by omega];exact hW.2.2.1)) HS4.out ?_
     refine tH 10 42 rfl rfl (yField f93_1 rfl (.tmp 6) rfl q 0 rfl).yieldsIf HS4.out ?_
     refine tH 11 43 rfl rfl (yLoadAH agg87 rfl (.tmp 42) rfl q (0+1) rfl (yC5 x) (yD2 x hxl) (fun W hW=>hW.2.2.2)) HS4.out ?_
     simp only [Act.put,aS,aC,aZ]
     refine tH 12 44 rfl rfl (yMove rfl (.tmp 7) rfl (.int .i64 kk) rfl).yieldsIf HS4.out ?_
     simp only [Act.put,aS,aC,aZ]
     refine oneH (i:=13) (by kernel_rfl) ?_
     refine yG9 (some 45) rfl rfl rfl 52 _ (yC2 en53 [.tmp 41,.tmp 43,.tmp 44] _ rfl [ptr (gs dv),.agg (yC5 x).toArray,.int .i64 kk] rfl) ?_
     refine (HSE.out).mono ?_
     rintro e w5 ⟨rfl,hd5,hc5⟩
     refine ⟨_,rfl,?_⟩
     obtain ⟨hP5,hR5⟩:=boot_settle (W:=w4.drewN 1) ⟨HIN4.out.1.drewN 1,HIN4.out.2⟩ HX.out hen' hcB hd5 hc5
     have hqn:¬ c1 q=(t,x.dev+1):=by rw [hcq];simp
     have hS5:w5.cell? ⟨q,0,none⟩=some (.int .i64 (dv:Nat))∧w5.cell? ⟨g,0,none⟩=some (.slice (some ⟨db,0,none⟩) nd cap)∧w5.cell? ⟨db,dv,none⟩=some (ptr (gs dv))∧∀j u,(yC5 x)[j]? = some u→w5.cell? ⟨q,0+1+j,none⟩=some u:=by
      refine ⟨hc5.cell hqn HS4.out.1,?_,?_,fun j u hu=>hc5.cell hqn (HS4.out.2.2.2 j u hu)⟩
      ·rw [HND.out];exact hP5.c0
      ·rw [HDV.out];exact hP5.cell x.dev hxd.1
     refine ⟨hS5,?_⟩
     simp only [Act.put,aS,aC,aZ]
     refine oneH (i:=14) (by kernel_rfl) ?_
     refine yG0 (some 46) rfl rfl rfl _ _ (yH3 (.tmp 45) 4 rfl y rfl) ⟨hS5,?_⟩
     simp only [Act.put,aS,aC,aZ]
     refine oneH (i:=15) (by kernel_rfl) ?_
     refine yG0 (some 47) rfl rfl rfl _ _ (run_index89 (.tmp 4) (.tmp 33) rfl B dv rfl rfl hd12) ⟨hS5,?_⟩
     simp only [Act.put,aS,aC,aZ]
     refine oneH (i:=16) (by kernel_rfl) ?_
     have hB6:=boot_said hP5 hR5 HX.out hen' hcB
     have hrun6:=fun (aa:Act) (oo:Oper) (ho:oo.op = .store 4 (.tmp 47) (.tmp 46)) (hx:aa.eval (.tmp 47) = .pointer (some ⟨B,dv,none⟩)) (hy:aa.eval (.tmp 46) = .bool (!y))=>run_storeOp1 (a:=aa) (o:=oo) size4 (.tmp 47) (.tmp 46) ho B dv 110 hx (.bool (!y)) _ hy rfl rfl hR5 (by simpa [yG5] using hd12)
     rw [←HY.out,←HDV.out] at hB6
     obtain ⟨w6,hw6⟩:∃w6,w6=w5.setRow B ((yG5 (yC4 m ks n).2).set dv (.bool (!y))).toArray:=⟨_,rfl⟩
     rw [←hw6] at hB6
     simp only [←hw6] at hrun6
     refine opSkip rfl rfl rfl w6 (hrun6 _ _ rfl rfl rfl) ⟨?_,?_⟩
     ·have hk6:∀b,b≠B→w6.heap[b]? = w5.heap[b]?:=fun b hb=>by rw [hw6];exact Go.setRow_other w5 B b _ hb
      have hqB:q≠B:=by have:=HQ.out.2.2;omega
      refine ⟨?_,?_,?_,fun j u hu => ?_⟩
      ·rw [←hS5.1];exact World.cell?_of_block (hk6 q hqB)
      ·rw [HND.out];exact hB6.1.c0
      ·rw [HDV.out];exact hB6.1.cell x.dev hxd.1
      ·rw [←hS5.2.2.2 j u hu];exact World.cell?_of_block (hk6 q hqB)
     ·refine wpAnyH_done (by kernel_rfl) ?_ _
      have HN1:Hid (BootIn w6 c1 t g db cap gs m ks B (n+1)):=hB6
      have HCH6:Hid (Ch (fun b=>(c1 b).1=t∨b=B) w2 w6):=by
       have h5:Ch (fun b=>(c1 b).1=t∨b=B) w2 w5:=(HCH4.out.drewN 1).trans' hc5 (fun b _ e=>by rw [e];exact Or.inl rfl)
       rw [hw6]
       exact h5.setRow (Or.inl (Or.inr rfl)) _
      clear hB6 hrun6 hP5 hR5 hS5 hc5 hd5 hw6
      go_wp2
      exact ⟨⟨n+1,by omega,by go_num,HN1.out,HCH6.out⟩,by simp [intOf];omega⟩
  ·have e:n=L:=by omega
   subst e
   obtain ⟨F,hF⟩:∃F,F=(yC4 m ks m.wts.length).1:=⟨_,rfl⟩
   have HF:Hid (F=(yC4 m ks m.wts.length).1):=hF
   have HPL:Hid (PlantAt wr c1 t g db cap gs (m.less F 0)):=by
    rw [less_zero,hF,←HL.out]
    exact hin.1
   have HCW:Hid (Ch (fun b=>(c b).1=t) w wr):=by
    have h12:Ch (fun b=>(c b).1=t) w w2:=(Ch.of_below (by rw [←HB.out];exact HB1.out)).trans (Ch.of_below HB2.out)
    refine h12.trans' hch fun b hb hh => ?_
    have hbB:b<B:=by rw [HB.out];exact hb
    rw [HC1.out b hbB] at hh
    rcases hh with hh|hh
    ·exact hh
    ·omega
   have HCC:Hid (∀b,b<w.heap.size→c1 b=c b):=fun b hb=>HC1.out b (by rw [HB.out];exact hb)
   have cg0:wr.cell? ⟨g,0,none⟩=some (.slice (some ⟨db,0,none⟩) nd cap):=by rw [HND.out];exact HPL.out.c0
   have hnd12:nd≤12:=by rw [HND.out];exact hwf.few
   clear hin hch hF
   go_wp2
   go_loopw [54] (fun ix W => ∃i:Nat,i≤nd∧ix = .int .i64 i∧∃c',(∀b,b<w.heap.size→c' b=c b)∧PlantAt W c' t g db cap gs (m.less F i)∧Ch (fun b=>(c b).1=t) w W) (fun ix _=>nd - (intOf ix).toNat)
   case atStart=>exact ⟨0,Nat.zero_le _,rfl,c1,HCC.out,HPL.out,HCW.out⟩
   case round =>
    obtain ⟨i,hi,rfl,c',hcc,hpl,hcw⟩:=hrel
    clear cg0
    by_cases hil:i<nd
    ·have hi':i<(m.less F i).n:=by
      show i<m.n
      rw [←HND.out]
      exact hil
     have HPI:Hid (PlantAt wr c' t g db cap gs (m.less F i)):=hpl
     have HCI:Hid ((∀b,b<w.heap.size→c' b=c b)∧Ch (fun b=>(c b).1=t) w wr):=⟨hcc,hcw⟩
     have ci:=hpl.cell i hi'
     clear hpl hcc hcw
     go_wp2_with (go_at_call 53;refine (noMore_any (HPI.out.dev i hi')).mono ?_;rintro e w5 ⟨rfl,c5,hcc5,hd5,hc5⟩)
     have HP5:Hid (PlantAt w5 c5 t g db cap gs (m.less F (i+1))):=by
      refine HPI.out.device (m.less F (i+1)) i rfl (fun j hj=>⟨rfl,?_⟩) ⟨rfl,rfl,rfl,rfl⟩ hc5 hcc5 (fun _ => ?_)
      ·rw [Pl.less_wt,Pl.less_wt]
       by_cases h1:j<i
       ·rw [if_pos h1,if_pos (by omega)]
       ·rw [if_neg h1,if_neg (by omega)]
      ·rw [Pl.less_wt,if_pos (by omega)]
       exact hd5
     have HC5:Hid ((∀b,b<w.heap.size→c5 b=c b)∧Ch (fun b=>(c b).1=t) w w5):=by
      have hsz:=HCI.out.2.size
      refine ⟨fun b hb=>(hcc5 b (by omega)).trans (HCI.out.1 b hb),HCI.out.2.trans' hc5 fun b hb e => ?_⟩
      rw [←HCI.out.1 b hb,e]
     clear hcc5 hd5 hc5
     go_wp2
     exact ⟨⟨i+1,by omega,by go_num,c5,HC5.out.1,HP5.out,HC5.out.2⟩,by simp [intOf];omega⟩
    ·have e:i=nd:=by omega
     subst e
     have HPI:Hid (PlantAt wr c' t g db cap gs (m.less F m.n)):=by rw [←HND.out];exact hpl
     have c1':=HPI.out.c1
     have c2':=HPI.out.c2
     have fz:∀i,wr.frozen? ⟨g,i,none⟩=false:=fun i=>HPI.out.row.frozen i
     clear hpl
     go_wp2
     go_end0
     refine ⟨rfl,c',hcc,?_,?_⟩
     ·have hch1:Ch (· = g) wr (wr.setCell ⟨g,1,none⟩ (.bool true)):=(Ch.refl (· = g) wr).setCell (g:=g) (Or.inl rfl) 1 _
      have hch2:=hch1.setCell (g:=g) (Or.inl rfl) 2 (.int .i64 (-1))
      refine HPI.out.head (m.boot ks) rfl ?_ ?_ hch2 ?_
      ·show (yC4 m ks m.wts.length).1=F
       rw [HF.out]
      ·show []=(m.less F m.n).wts
       rw [Pl.less_none hwf]
      ·have:=(HPI.out.row.setCell 1 (.bool true)).setCell 2 (.int .i64 (-1))
       simpa [yJ1,Pl.boot,Pl.less,Pl.n] using this
     ·exact (hcw.setCell (Or.inl (by rw [HP0.out.cg])) 1 _).setCell (Or.inl (by rw [HP0.out.cg])) 2 _
end Go.Proofs.YtpkkkkomdblpoaaDoor

namespace Go.Proofs.YtpkkkkomdblpoaaDoor
open Go.RowKit Go.Maps
def IntsIn (w:World) (v:Value) (l:List Int):Prop :=
 ∃p cap,v = .slice p l.length cap∧l.length≤cap∧l.length<4611686018427387904∧(l=[]∨∃b off,p=some ⟨b,off,none⟩∧∀j,j<l.length→w.cell? ⟨b,off+j,none⟩=some (.int .i64 (l.getD j 0)))
theorem IntsIn.later {w wx:World} {v:Value} {l:List Int} (h:IntsIn w v l) (hb:Below w.heap.size w wx):IntsIn wx v l:=by
 obtain ⟨p,cap,rfl,h1,h2,h⟩:=h
 refine ⟨p,cap,rfl,h1,h2,?_⟩
 rcases h with h|⟨b,off,rfl,h⟩
 ·exact Or.inl h
 ·exact Or.inr ⟨b,off,rfl,fun j hj=>cell_later hb (h j hj)⟩
def yI5 (l:List Int):Bool:=l.all fun x=>decide (1≤x) && decide (x≤4096)
set_option maxHeartbeats 400000 in
theorem sizes_any (w:World) (v:Value) (l:List Int) (hv:IntsIn w v l):Calls Tryd.prog 34 #[v] w fun e w'=>e = .returned (.bool (yI5 l))∧w'=w:=by
 obtain ⟨p,cap,rfl,hc,hl,h⟩:=hv
 obtain ⟨L,hL⟩:∃L,L=l.length:=⟨_,rfl⟩
 obtain ⟨y,hy⟩:∃y,y=yI5 l:=⟨_,rfl⟩
 rw [←hL] at hc hl ⊢
 rw [←hy]
 have HL:Hid (L=l.length):=hL
 have HY:Hid (y=yI5 l):=hy
 have HH:Hid (l=[]∨∃b off,p=some ⟨b,off,none⟩∧∀j,j<l.length→w.cell? ⟨b,off+j,none⟩=some (.int .i64 (l.getD j 0))):=h
 clear h hL hy
 go_enter Tryd.func34,Tryd.ntmps34
 go_wp2
 go_loopw [7] (fun ix W => ∃n:Nat,n≤L∧ix = .int .i64 n∧yI5 (l.take n)=true∧W=w) (fun ix _=>L - (intOf ix).toNat)
 case atStart=>exact ⟨0,Nat.zero_le _,rfl,rfl,rfl⟩
 case round =>
  obtain ⟨n,hn,rfl,hok,rfl⟩:=hrel
  by_cases hlt:n<L
  ·obtain ⟨b,off,hp,hcell⟩:∃b off,p=some ⟨b,off,none⟩∧∀j,j<l.length→wr.cell? ⟨b,off+j,none⟩=some (.int .i64 (l.getD j 0)):=by
    rcases HH.out with h0|h0
    ·have:=HL.out
     rw [h0] at this
     simp at this
     omega
    ·exact h0
   subst hp
   obtain ⟨x,hx⟩:∃x,x=l.getD n 0:=⟨_,rfl⟩
   have cn:wr.cell? ⟨b,off+n,none⟩=some (.int .i64 x):=by rw [hx];exact hcell n (by rw [←HL.out];exact hlt)
   have ht0:yI5 (l.take (n+1))=(decide (1≤x) && decide (x≤4096)):=by
    have hn':n<l.length:=by rw [←HL.out];exact hlt
    rw [List.take_succ_eq_append_getElem hn']
    unfold yI5 at hok ⊢
    rw [List.all_append,hok]
    have e:l[n]=x:=by rw [hx];simp [hn']
    simp [e]
   have HT:Hid (yI5 (l.take (n+1))=(decide (1≤x) && decide (x≤4096))):=ht0
   clear hcell hx hok ht0
   by_cases h1:x<1
   ·have t1:decide (x<1)=true:=by simpa using h1
    have hy:y=false:=by
     rw [HY.out]
     have:=HT.out
     rw [show decide (1≤x)=false by simp;omega,Bool.false_and] at this
     unfold yI5 at this ⊢
     rw [List.all_eq_false] at this ⊢
     obtain ⟨z,hz,hzz⟩:=this
     exact ⟨z,List.mem_of_mem_take hz,hzz⟩
    subst hy
    go_wp2
    go_ret
    exact ⟨rfl,rfl⟩
   ·have t1:decide (x<1)=false:=by simpa using h1
    by_cases h2:4096<x
    ·have t2:decide (4096<x)=true:=by simpa using h2
     have hy:y=false:=by
      rw [HY.out]
      have:=HT.out
      rw [show decide (x≤4096)=false by simp;omega,Bool.and_false] at this
      unfold yI5 at this ⊢
      rw [List.all_eq_false] at this ⊢
      obtain ⟨z,hz,hzz⟩:=this
      exact ⟨z,List.mem_of_mem_take hz,hzz⟩
     subst hy
     go_wp2
     go_ret
     exact ⟨rfl,rfl⟩
    ·have t2:decide (4096<x)=false:=by simpa using h2
     have ht2:yI5 (l.take (n+1))=true:=by
      rw [HT.out]
      simp only [Bool.and_eq_true,decide_eq_true_eq]
      omega
     have HT2:Hid (yI5 (l.take (n+1))=true):=ht2
     clear ht2
     go_wp2
     exact ⟨⟨n+1,by omega,by go_num,HT2.out,by first|trivial|rfl⟩,by simp [intOf];omega⟩
  ·have e:n=L:=by omega
   have hy:y=true:=by
    rw [HY.out,←hok,e,HL.out,List.take_length]
   subst hy
   subst e
   go_wp2
   go_ret
   exact ⟨rfl,rfl⟩
def fresh (tape:Bool) (size:Nat):List (List Nat):=if tape then [] else List.replicate size zeros
theorem run_build76 (w:World) (b:Bool) (n:Int) (x y:Nat):(Instr.build 125 #[(0,.bool b),(1,.int .i64 n),(2,.map (some x)),(4,.map (some y))]).run Tryd.prog w = .ok (.agg #[.bool b,.int .i64 n,.map (some x),.slice none 0 0,.map (some y)]) w:=by kernel_rfl
set_option maxHeartbeats 400000 in
set_option maxRecDepth 100000 in
theorem newDev_any (w:World) (c:Nat→Colour) (k:Colour) (size:Nat) (tape:Bool) :
  Calls Tryd.prog 35 #[.int .i64 (size:Int),.bool tape] w fun e w' => ∃g,e = .returned (ptr g)∧w.heap.size≤g∧DevIn w' (paint c w.heap.size k) k g tape size (fresh tape size) []∧Below w.heap.size w w':=by
 have hmm := @run_makeMap Tryd.prog
 obtain ⟨B,hB⟩:∃B,B=w.heap.size:=⟨_,rfl⟩
 obtain ⟨w1,hw1⟩:∃w1,w1=w.alloc (.map #[] 0):=⟨_,rfl⟩
 obtain ⟨w2,hw2⟩:∃w2,w2=w1.alloc (.map #[] 0):=⟨_,rfl⟩
 have hm1:(Instr.makeMap 121 none).run Tryd.prog w = .ok (.map (some B)) w1:=by rw [hw1,hB];exact run_makeMap 121 w
 have hs1:w1.heap.size=B+1:=by rw [hw1,hB];simp
 have hm2:(Instr.makeMap 123 none).run Tryd.prog w1 = .ok (.map (some (B+1))) w2:=by rw [hw2,←hs1];exact run_makeMap 123 w1
 have hs2:w2.heap.size=B+2:=by rw [hw2];simp [hs1]
 have a1:MapAt secs w1 B 0 (fun _=>none):=by rw [hw1,hB];exact MapAt.made secs w
 have a2:MapAt ints w2 (B+1) 0 (fun _=>none):=by rw [hw2,←hs1];exact MapAt.made ints w1
 have a12:MapAt secs w2 B 0 (fun _=>none):=by rw [hw2];exact a1.alloc _
 have b2:Below B w w2:=by rw [hw2,hw1];exact ((Below.refl B w).alloc (by omega) _).alloc (by rw [hB];simp) _
 rw [←hB]
 clear hmm hB hw1 hw2
 go_enter Tryd.func35,Tryd.ntmps35
 go_upto_region 1 with fail
 refine wp_region_lit ?_
 refine yC7 (.tmp 1) rfl rfl (.bool tape) rfl ?_
 refine yC7 (.tmp 0) rfl rfl (.int .i64 (size:Int)) rfl ?_
 simp only [Act.put,aS,aC,aZ]
 refine wpList_makeMap rfl rfl _ _ hm1 ?_
 refine wpList_makeMap rfl rfl _ _ hm2 ?_
 simp only [Act.put,aS,aC,aZ]
 refine yB1 rfl (.agg #[.bool tape,.int .i64 (size:Int),.map (some B),.slice none 0 0,.map (some (B+1))]) w2 (by simp [execOp,run_build76,Act.eval]) ?_
 simp only [Act.put,aS,aC,aZ]
 refine yI2 (.tmp 9) rfl rfl [.bool tape,.int .i64 (size:Int),.map (some B),.slice none 0 0,.map (some (B+1))] rfl ?_
 intro w3 r3 s3 b3
 refine yE3 (.tmp 10) rfl rfl (ptr w2.heap.size) rfl ?_
 refine wpList_nil ?_
 simp only [Act.put,aS,aC,aZ]
 rw [hs2] at r3 s3 b3 ⊢
 have HE:Hid (DevIn w3 (paint c B k) k (B+2) tape size (fresh tape size) []):=by
  have e1:w3.heap[B]? = w2.heap[B]?:=b3.block B (by omega)
  have e2:w3.heap[B+1]? = w2.heap[B+1]?:=b3.block (B+1) (by omega)
  refine ⟨B,B+1,_,r3,paint_new _ _ _ _ (by omega),paint_new _ _ _ _ (by omega),paint_new _ _ _ _ (by omega),by omega,⟨_,_,a12.kept e1,fun p hp => ?_,fun ht => ?_⟩,⟨⟨rfl,Or.inl ⟨rfl,rfl⟩⟩,fun b hb=>by cases hb⟩,⟨0,a2.kept e2⟩⟩
  ·unfold fresh at hp ⊢
   split at hp
   ·simp at hp
   ·rename_i ht
    rw [if_neg ht]
    simp at hp
    simp [hp]
  ·subst ht
   exact ⟨rfl,fun p=>by simp [fresh]⟩
 have HBB:Hid (Below B w w3):=b2.trans (b3.mono (by omega))
 clear r3 s3 b3 a1 a2 a12 b2 hm1 hm2
 go_wp2
 go_ret
 exact ⟨B+2,rfl,by omega,HE.out,HBB.out⟩
def Pl.fuseTo (m:Pl) (n:Int):Pl:=if m.on then { m with fuse:=n } else m
theorem fuse_any {w:World} {c:Nat→Colour} {t g db cap:Nat} {gs:Nat→Nat} {m:Pl} (h:PlantAt w c t g db cap gs m) (n:Int) :
  Calls Tryd.prog 27 #[ptr g,.int .i64 n] w fun e w'=>e = .returned noResult∧PlantAt w' c t g db cap gs (m.fuseTo n)∧Ch (· = g) w w':=by
 have c1:=h.c1
 have c2:=h.c2
 have fz:∀i,w.frozen? ⟨g,i,none⟩=false:=fun i=>h.row.frozen i
 have HP:Hid (PlantAt w c t g db cap gs m):=h
 clear h
 cases hon:m.on with
 | false =>
  rw [hon] at c1
  go_enter Tryd.func27,Tryd.ntmps27
  go_wp2
  go_end0
  refine ⟨rfl,?_,Ch.refl _ _⟩
  unfold Pl.fuseTo
  rw [hon]
  exact HP.out
 | true =>
  rw [hon] at c1
  go_enter Tryd.func27,Tryd.ntmps27
  go_wp2
  go_end0
  have hch:Ch (· = g) w (w.setCell ⟨g,2,none⟩ (.int .i64 n)):=(Ch.refl (· = g) w).setCell (g:=g) (Or.inl rfl) 2 _
  have e:m.fuseTo n = { m with fuse:=n }:=by unfold Pl.fuseTo;rw [hon];rfl
  refine ⟨rfl,?_,hch⟩
  rw [e]
  refine HP.out.head _ rfl rfl rfl hch ?_
  have:=HP.out.row.setCell 2 (.int .i64 n)
  simpa [yJ1,Pl.n] using this
end Go.Proofs.YtpkkkkomdblpoaaDoor

namespace Go.Proofs.YtpkkkkomdblpoaaDoor
open Go.RowKit Go.Maps
def newPl (ds ts:List Int):Pl :=
 let sh:=ds.map (fun n=>(false,n.toNat))++ts.map (fun n=>(true,n.toNat))
 { sh:=sh,fl:=fun i=>fresh (sh.getD i (false,0)).1 (sh.getD i (false,0)).2,wts:=[],on:=true,fuse := -1,steps:=0,clock:=0 }
def shapeOk (ds ts:List Int):Bool:=decide (1≤ds.length+ts.length) && (decide (ds.length+ts.length≤12) && (yI5 ds && yI5 ts))
theorem newPl_n (ds ts:List Int):(newPl ds ts).n=ds.length+ts.length:=by simp [newPl,Pl.n]
theorem newPl_disk (ds ts:List Int) (i:Nat) (h:i<ds.length):(newPl ds ts).tape i=false∧(newPl ds ts).size i=(ds.getD i 0).toNat:=by
 unfold Pl.tape Pl.size newPl
 simp [List.getElem?_append_left,h]
theorem newPl_tape (ds ts:List Int) (i:Nat) (h:i<ts.length):(newPl ds ts).tape (ds.length+i)=true∧(newPl ds ts).size (ds.length+i)=(ts.getD i 0).toNat:=by
 unfold Pl.tape Pl.size newPl
 simp [h]
def NewIn (W:World) (c:Nat→Colour) (t gp B:Nat) (m:Pl) (k:Nat):Prop :=
 ∃(v:Value) (gl:List Nat),Row W gp 81 [v,.bool true,.int .i64 (-1),.int .i64 0,.int .i64 0]∧c gp=(t,0)∧gl.length=k∧W.ownsRow B 82 1 v k (gl.map ptr)∧(∀b,v.ownBlock=some b→c b=(t,0)) ∧
  ∀i,i<k→DevIn W c (t,i+1) (gl.getD i 0) (m.tape i) (m.size i) (fresh (m.tape i) (m.size i)) []
theorem info70:(Tryd.prog.info? 82).map (fun i=>(i.zero,i.size,i.bytes))=some (some (.pointer none),1,8):=by kernel_rfl
theorem size67:(Tryd.prog.info? 79).map (·.size)=some 1:=by kernel_rfl
theorem run_onePtr (w:World) (g:Nat):(Instr.buildSlice 79 1 #[(0,ptr g)]).run Tryd.prog w = .ok (.slice (some ⟨w.heap.size,0,none⟩) 1 1) (w.alloc (.cells #[ptr g] 82)):=by kernel_rfl
theorem en38:yB9 35:=Go.Proofs.enters_of Tryd.func35 (by kernel_rfl) rfl
theorem new_step {W W5 W7:World} {c:Nat→Colour} {t gp B k gd:Nat} {m:Pl} {v v7:Value} {gl:List Nat} (hr:Row W gp 81 [v,.bool true,.int .i64 (-1),.int .i64 0,.int .i64 0]) (hcg:c gp=(t,0)) (hgl:gl.length=k) (ho:W.ownsRow B 82 1 v k (gl.map ptr)) (hob:∀b,v.ownBlock=some b→c b=(t,0))
  (hdv:∀i,i<k→DevIn W c (t,i+1) (gl.getD i 0) (m.tape i) (m.size i) (fresh (m.tape i) (m.size i)) [])
  (hd:DevIn W5 (paint c W.heap.size (t,k+1)) (t,k+1) gd (m.tape k) (m.size k) (fresh (m.tape k) (m.size k)) []) (hb5:Below W.heap.size W W5)
  (ho7:W7.ownsRow B 82 1 v7 (k+1) (gl.map ptr++[ptr gd])) (hg7:(W5.alloc (.cells #[ptr gd] 82)).grownBy W7 v.ownBlock) (hloc:v7.ownBlock=v.ownBlock∨v7.ownBlock=some (W5.alloc (.cells #[ptr gd] 82)).heap.size) :
  NewIn (W7.setRow gp ([v7,.bool true,.int .i64 (-1),.int .i64 0,.int .i64 0]:List Value).toArray) (paint (paint c W.heap.size (t,k+1)) W5.heap.size (t,0)) t gp B m (k+1) ∧
  (∀b,b<W.heap.size→paint (paint c W.heap.size (t,k+1)) W5.heap.size (t,0) b=c b)∧Row W7 gp 81 [v,.bool true,.int .i64 (-1),.int .i64 0,.int .i64 0] ∧
  ∀b T cs,T≠82→b≠gp→Row W b T cs→Row (W7.setRow gp ([v7,.bool true,.int .i64 (-1),.int .i64 0,.int .i64 0]:List Value).toArray) b T cs:=by
 obtain ⟨c2,hc2⟩:∃c2,c2=paint (paint c W.heap.size (t,k+1)) W5.heap.size (t,0):=⟨_,rfl⟩
 have hsz:=hb5.size
 have hold:∀b,b<W.heap.size→c2 b=c b:=fun b hb=>by rw [hc2,yH9 _ _ _ _ (by omega),yH9 _ _ _ _ hb]
 have hmid:∀b,b<W5.heap.size→c2 b=paint c W.heap.size (t,k+1) b:=fun b hb=>by rw [hc2,yH9 _ _ _ _ hb]
 have hnew:∀b,W5.heap.size≤b→c2 b=(t,0):=fun b hb=>by rw [hc2,paint_new _ _ _ _ hb]
 have hgp:=hr.lt
 have hne:∀b,v.ownBlock=some b→b≠gp:=fun b hb=>by
  obtain ⟨_,h⟩:=ho
  rcases h with ⟨rfl,_⟩|⟨g',cp,cur,rfl,_,hg,_⟩
  ·cases hb
  ·cases hb
   rintro rfl
   rw [show W.heap[g']? = _ from hr] at hg
   cases hg
 have k7:∀b,b<W5.heap.size→v.ownBlock≠some b→W7.heap[b]? = W5.heap[b]?:=fun b hb hn=>by
  rw [hg7.block b (by simp;omega) (fun e=>hn e.symm)]
  exact Below.heap_alloc _ _ _ hb
 have hr7:Row W7 gp 81 [v,.bool true,.int .i64 (-1),.int .i64 0,.int .i64 0]:=by
  show W7.heap[gp]? = _
  rw [k7 gp (by omega) (fun e=>hne gp e rfl),hb5.block gp hgp]
  exact hr
 rw [←hc2]
 refine ⟨⟨v7,gl++[gd],hr7.setRow _,(hold gp hgp).trans hcg,by simp [hgl],?_,?_,?_⟩,hold,hr7,fun b T cs hT hb hrb => ?_⟩
 ·have e:(gl++[gd]).map ptr=gl.map ptr++[ptr gd]:=by simp
  rw [e]
  obtain ⟨hl,h⟩:=ho7
  refine ⟨hl,?_⟩
  rcases h with h|⟨g',cp,cur,rfl,h0,hg,h⟩
  ·exact Or.inl h
  ·refine Or.inr ⟨g',cp,cur,rfl,h0,?_,h⟩
   rw [Go.setRow_other W7 gp g' _ ?_]
   ·exact hg
   ·rintro rfl
    rw [show W7.heap[g']? = _ from hr7] at hg
    cases hg
 ·intro b hb
  rcases hloc with hl|hl
  ·have hvb:v.ownBlock=some b:=hl▸hb
   have hlt:b<W.heap.size:=(ho.lt b hvb).2
   rw [hold b hlt]
   exact hob b hvb
  ·rw [hl] at hb
   cases hb
   exact hnew _ (by simp)
 ·intro i hi
  by_cases hik:i<k
  ·have e:(gl++[gd]).getD i 0=gl.getD i 0:=by simp [List.getElem?_append_left (show i<gl.length by omega)]
   rw [e]
   refine (hdv i hik).kept fun b hb hk=>⟨?_,(hold b hb).trans hk⟩
   have h1:b≠gp:=by rintro rfl;rw [hcg] at hk;simp at hk
   have h2:v.ownBlock≠some b:=fun e=>by
    have:=hob b e
    rw [this] at hk
    simp at hk
   rw [Go.setRow_other W7 gp b _ h1,k7 b (by omega) h2,hb5.block b hb]
  ·have e0:i=k:=by omega
   subst e0
   have e:(gl++[gd]).getD i 0=gd:=by rw [←hgl];simp
   rw [e]
   refine hd.kept fun b hb hk=>⟨?_,by rw [hmid b hb];exact hk⟩
   have h1:b≠gp:=by
    rintro rfl
    rw [yH9 _ _ _ _ hgp,hcg] at hk
    simp at hk
   have h2:v.ownBlock≠some b:=fun e=>by
    have hlt:b<W.heap.size:=(ho.lt b e).2
    rw [yH9 _ _ _ _ hlt,hob b e] at hk
    simp at hk
   rw [Go.setRow_other W7 gp b _ h1,k7 b hb h2]
 ·show (W7.setRow gp _).heap[b]? = _
  rw [Go.setRow_other W7 gp b _ hb,k7 b (by have:=hrb.lt;omega) ?_,hb5.block b hrb.lt]
  ·exact hrb
  ·intro e
   obtain ⟨_,h⟩:=ho
   rcases h with ⟨rfl,_⟩|⟨g',cp,cur,rfl,_,hg,_⟩
   ·cases e
   ·cases e
    rw [show W.heap[g']? = _ from hrb] at hg
    simp at hg
    exact hT hg.2
theorem new_done {W:World} {c:Nat→Colour} {t gp B:Nat} {ds ts:List Int} (h:NewIn W c t gp B (newPl ds ts) (ds.length+ts.length)) (hpos:1≤ds.length+ts.length):∃db cap gs,PlantAt W c t gp db cap gs (newPl ds ts):=by
 obtain ⟨v,gl,hr,hcg,hgl,ho,hob,hdv⟩:=h
 obtain ⟨hl,ho⟩:=ho
 rcases ho with ⟨_,h0⟩|⟨db,cap,cur,rfl,_,hg,hc1,_,_,hcur⟩
 ·omega
 ·have hn:=newPl_n ds ts
  refine ⟨db,cap,fun i=>gl.getD i 0,⟨?_,hcg,hob db rfl,?_,(Array.getElem?_eq_some_iff.1 hg).1,by rw [hn];exact hc1,fun i hi => ?_,fun i hi => ?_⟩⟩
  ·unfold yJ1
   rw [hn]
   exact hr
  ·rintro rfl
   rw [show W.heap[db]? = _ from hr] at hg
   simp at hg
  ·rw [hn] at hi
   have:(gl.map ptr)[i]? = some (ptr (gl.getD i 0)):=by simp [show i<gl.length by omega]
   rw [←hcur,List.getElem?_take] at this
   split at this
   ·simp [World.cell?,hg]
    simpa using this
   ·cases this
  ·have e1:(newPl ds ts).fl i=fresh ((newPl ds ts).tape i) ((newPl ds ts).size i):=rfl
   have e2:(newPl ds ts).wt i=[]:=rfl
   rw [e1,e2]
   exact hdv i (by rw [←hn];exact hi)
end Go.Proofs.YtpkkkkomdblpoaaDoor

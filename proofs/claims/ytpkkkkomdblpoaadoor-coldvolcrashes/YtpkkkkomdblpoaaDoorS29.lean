/- Layer 15: objects one behind the other. Layer 15: the objects of a tape. Layer 15: the root of objects. -/
import Derived.Test.YtpkkkkomdblpoaaDoorS28
namespace Go.Proofs.YtpkkkkomdblpoaaDoor
open Go.RowKit Go.Maps
open Cold
abbrev Ob:=List Nat×List Nat
def Chn (d:Nat) (ct:List (List Nat)):Nat→List Ob→Nat→Prop
 | a,[],b=>a=b
 | a,o :: r,b=>ObjAt d a ct o.1 o.2∧Chn d ct (a+nb o.2.length) r b
def wide:List Ob→Nat
 | []=>0
 | o :: r=>nb o.2.length+wide r
theorem wide_append (l r:List Ob):wide (l++r)=wide l+wide r:=by
 induction l with
 | nil=>simp [wide]
 | cons x l ih=>simp only [List.cons_append,wide,ih];omega
theorem wide_len (l:List Ob):2 * l.length≤wide l:=by
 induction l with
 | nil=>simp [wide]
 | cons x l ih =>
  have:=nb_pos x.2.length
  simp only [List.length_cons,wide]
  omega
theorem Chn.snoc {d:Nat} {ct:List (List Nat)} {a b:Nat} {os:List Ob} {id bs:List Nat} (h:Chn d ct a os b) (k:ObjAt d b ct id bs):Chn d ct a (os++[(id,bs)]) (b+nb bs.length):=by
 induction os generalizing a with
 | nil =>
  have e:a=b:=h
  subst e
  exact ⟨k,rfl⟩
 | cons o r ih=>exact ⟨h.1,ih h.2⟩
theorem Chn.le {d:Nat} {ct:List (List Nat)} {a b:Nat} {os:List Ob} (h:Chn d ct a os b) (ha:a≤ct.length):b≤ct.length:=by
 induction os generalizing a with
 | nil=>have e:a=b:=h;omega
 | cons o r ih=>exact ih h.2 h.1.1
def offO (os:List Ob) (k:Nat):Nat:=wide (os.take k)
theorem offO_snoc (os:List Ob) (o:Ob) (k:Nat) (h:k≤os.length):offO (os++[o]) k=offO os k:=by
 unfold offO
 rw [List.take_append_of_le_length h]
theorem offO_end (os:List Ob):offO os os.length=wide os:=by
 unfold offO
 rw [List.take_length]
theorem ObjAt.one {d a:Nat} {ct:List (List Nat)} {id bs id' bs':List Nat} (h:ObjAt d a ct id bs) (k:ObjAt d a ct id' bs'):id=id'∧bs=bs':=by
 have e:=Option.some.inj (h.lab.1.symm.trans k.lab.1)
 have e2:bs.length=bs'.length:=congrArg Prod.snd e
 have k2:=k.2
 rw [←e2] at k2
 exact h.2.one k2
theorem Chn.one {d:Nat} {ct:List (List Nat)} {a b b':Nat} {os os':List Ob} (h:Chn d ct a os b) (k:Chn d ct a os' b') (hb:NoAt d b ct) (hb':NoAt d b' ct):os=os':=by
 induction os generalizing a os' with
 | nil =>
  have e:a=b:=h
  subst e
  cases os' with
  | nil=>rfl
  | cons o r=>exact absurd k.1 (hb _ _)
 | cons o r ih =>
  cases os' with
  | nil =>
   have e:a=b':=k
   subst e
   exact absurd h.1 (hb' _ _)
  | cons o' r' =>
   obtain ⟨e1,e2⟩:=h.1.one k.1
   have e:o=o':=Prod.ext e1 e2
   subst e
   rw [ih h.2 k.2]
theorem slice_nil {W W':World} {v:Value} (h:yA2 W v []):yA2 W' v []:=by
 obtain ⟨p,cap,rfl,hl,_⟩:=h
 exact ⟨p,cap,rfl,hl,Or.inl rfl⟩
theorem yA2.nilV (W:World):yA2 W (.slice none 0 0) []:=⟨none,0,rfl,⟨Nat.le_refl _,by decide⟩,Or.inl rfl⟩
theorem slice_blk {W:World} {v:Value} {bs:List Nat} (h:yA2 W v bs) (hne:bs≠[]) (b:Nat) (hb:v.ownBlock=some b):b<W.heap.size:=by
 obtain ⟨p,cap,rfl,hl,h|⟨g,off,rfl,h1,h2⟩⟩:=h
 ·exact absurd h hne
 ·have e:g=b:=Option.some.inj hb
  subst e
  exact block_lt_of_cell (h1 0 (by cases bs <;> simp_all))
def ObB (W:World) (base:Nat) (v vb:Value) (bs:List Nat):Prop:=yA2 W vb bs∧(bs=[]∨∀b,vb.ownBlock=some b→base≤b∧v.ownBlock≠some b)
theorem ObB.keep {W W':World} {base:Nat} {v vb:Value} {bs:List Nat} (h:ObB W base v vb bs) (hk:∀b,base≤b→v.ownBlock≠some b→b<W.heap.size→W'.heap[b]? = W.heap[b]?):ObB W' base v vb bs:=by
 refine ⟨?_,h.2⟩
 rcases h.2 with rfl|h2
 ·exact slice_nil h.1
 ·exact sliceK h.1 fun b e hb=>hk b (h2 b e).1 (h2 b e).2 hb
theorem ObB.move {W:World} {base:Nat} {v v' vb:Value} {bs:List Nat} (h:ObB W base v vb bs) (hv:v'.ownBlock=v.ownBlock∨∃n,v'.ownBlock=some n∧W.heap.size≤n):ObB W base v' vb bs:=by
 refine ⟨h.1,?_⟩
 rcases h.2 with rfl|h2
 ·exact Or.inl rfl
 ·rcases Classical.em (bs=[]) with q|q
  ·exact Or.inl q
  ·refine Or.inr fun b e=>⟨(h2 b e).1,?_⟩
   have hb:=slice_blk h.1 q b e
   rcases hv with e2|⟨n,e2,hn⟩
   ·rw [e2];exact (h2 b e).2
   ·rw [e2];intro e3;have:=Option.some.inj e3;omega
def ObsIn (W:World) (base d:Nat) (v:Value) (os:List Ob):Prop :=
 ∃L,COwn 91 6 W base v L∧L.length=os.length∧∀k,k<os.length→∃vb,L.getD k []=obC (d:Nat) (offO os k:Nat) (nb (os.getD k ([],[])).2.length:Nat) false (os.getD k ([],[])).1 vb∧ObB W base v vb (os.getD k ([],[])).2
theorem ObsIn.nil (W:World) (base d:Nat):ObsIn W base d (.slice none 0 0) []:=⟨[],COwn.nil 91 6 W base,rfl,fun _ hk=>absurd hk (Nat.not_lt_zero _)⟩
theorem ObsIn.keep {W W':World} {base d:Nat} {v:Value} {os:List Ob} (h:ObsIn W base d v os) {S:Nat→Prop} (hc:Ch S W W') (hS:∀b,base≤b→b<W.heap.size→¬ S b):ObsIn W' base d v os:=by
 obtain ⟨L,h1,h2,h3⟩:=h
 refine ⟨L,h1.keep (S:=fun b=>b<W.heap.size∧S b) (hc.mono fun i hi h=>⟨hi,h⟩) (fun b hb q=>hS b (h1.2.lt b hb).1 q.1 q.2),h2,fun k hk => ?_⟩
 obtain ⟨vb,e,s⟩:=h3 k hk
 exact ⟨vb,e,s.keep fun b h1 _ hb=>hc.block b hb (hS b h1 hb)⟩
theorem ObsIn.later {W W':World} {base d:Nat} {v:Value} {os:List Ob} (h:ObsIn W base d v os) (hb:Below W.heap.size W W'):ObsIn W' base d v os:=h.keep (Ch.of_below (S:=fun _=>False) hb) fun _ _ _ q=>q
theorem obC_one6 (d a n:Int) (id:List Nat) {W:World} {vb:Value} {bs:List Nat} (h:yA2 W vb bs):(obC d a n false id vb).length=6∧∀u∈obC d a n false id vb,u.oneCell'=true:=by
 obtain ⟨p,cp,e,_⟩:=h
 subst e
 exact ⟨rfl,yH4 _ _ _ _ _ _ rfl⟩
theorem yG6 {α:Type} (l r:List α) (k:Nat) (z:α) (h:k<l.length):(l++r).getD k z=l.getD k z:=by
 rw [List.getD_eq_getElem?_getD,List.getElem?_append_left h,←List.getD_eq_getElem?_getD]
theorem yH1 {α:Type} (l:List α) (x z:α) (k:Nat) (h:k=l.length):(l++[x]).getD k z=x:=by
 subst h
 rw [List.getD_eq_getElem?_getD,List.getElem?_append_right (Nat.le_refl _)]
 simp
theorem ObsIn.snoc {w:World} {base d:Nat} {v:Value} {os:List Ob} (h:ObsIn w base d v os) (id bs:List Nat) (vb:Value) (g:Nat) (hs:ObB w base v vb bs) (hg:∀j u,(obC (d:Nat) (wide os:Nat) (nb bs.length:Nat) false id vb)[j]? = some u→w.cell? ⟨g,j,none⟩=some u) (hsz:os.length≤1000000) (hbase:base≤w.heap.size) :
  ∃v' w',(∀ty,(Builtin.append_ #[102,102] ty #[v,.slice (some ⟨g,0,none⟩) 1 1]).run Tryd.prog w = .ok v' w')∧ObsIn w' base d v' (os++[(id,bs)])∧w.grownBy w' v.ownBlock∧Below base w w':=by
 obtain ⟨L,h1,h2,h3⟩:=h
 obtain ⟨v',w',hr,ho,hgr,hv⟩:=run_appC el102 base v L _ h1 (obC_one6 _ _ _ _ hs.1) g hg (by rw [h2];exact hsz) hbase
 have hv':v'.ownBlock=v.ownBlock∨∃n,v'.ownBlock=some n∧w.heap.size≤n:=hv.imp (fun h=>h) fun e=>⟨_,e,Nat.le_refl _⟩
 have key:∀{u:Value} {cs:List Nat},ObB w base v u cs→ObB w' base v' u cs:=fun hs=>by
  have h9:=hs.move hv'
  refine ⟨?_,h9.2⟩
  exact (hs.keep (W':=w') fun b _ hn hb=>hgr.block b hb (Ne.symm hn)).1
 refine ⟨v',w',hr,⟨_,ho,by simp [h2],fun k hk => ?_⟩,hgr,h1.belowG hgr hbase⟩
 rcases Nat.lt_or_ge k os.length with q|q
 ·obtain ⟨ub,e,s⟩:=h3 k q
  refine ⟨ub,?_,?_⟩
  ·rw [offO_snoc os _ k (Nat.le_of_lt q),yG6 _ _ _ _ (by rw [h2];exact q),e,yG6 _ _ _ _ q]
  ·rw [yG6 _ _ _ _ q]
   exact key s
 ·have e0:k=os.length:=by simp at hk;omega
  refine ⟨vb,?_,?_⟩
  ·rw [yH1 os (id,bs) _ k e0,yH1 _ _ _ k (by rw [h2];exact e0),e0,offO_snoc os _ _ (Nat.le_refl _),offO_end]
  ·rw [yH1 os (id,bs) _ k e0]
   exact key hs
end Go.Proofs.YtpkkkkomdblpoaaDoor

namespace Go.Proofs.YtpkkkkomdblpoaaDoor
open Go.RowKit Go.Maps
open Cold
theorem objectAt_all {w:World} {c:Nat→Colour} {t gp:Nat} {m:Pl} (h:Live w c t gp m) (hst:m.steps<35184372088831) (d:Nat) (hd:d<m.n) (htp:m.tape d=true) (sz:Int) (a:Nat) (ha:a≤65536) (he:Env w):Calls Tryd.prog 66 #[.agg (tpC gp (d:Nat) sz).toArray,.int .i64 (a:Nat)] w fun e w'=>Below w.heap.size w w'∧((∃id bs vb,e = .returned (.tuple #[.agg (obC (d:Nat) (a:Nat) (nb bs.length:Nat) false id vb).toArray,.int .i64 0])∧m.on=true∧ObjAt d a (ctn m d) id bs∧yA2 w' vb bs∧∀b,vb.ownBlock=some b→w.heap.size≤b)∨(e = .returned (.tuple #[.agg (obC 0 0 0 false [] (.slice none 0 0)).toArray,.int .i64 4])∧NoAt d a (ctn m d)∧(m.on=true∨(ctn m d).length≤a))∨(e = .returned (.tuple #[.agg (obC 0 0 0 false [] (.slice none 0 0)).toArray,.int .i64 2])∧m.on=false∧a<(ctn m d).length)):=by
 cases hon:m.on with
 | true =>
  refine (objectAt_any h hst hon d hd htp sz a ha he).mono ?_
  rintro e w' ⟨hb,⟨id,bs,vb,h1,h2,h3,h4⟩|⟨h1,h2⟩⟩
  ·exact ⟨hb,Or.inl ⟨id,bs,vb,h1,rfl,h2,h3,h4⟩⟩
  ·exact ⟨hb,Or.inr (Or.inl ⟨h1,h2,Or.inl rfl⟩)⟩
 | false =>
  refine (objectAt_off h hst hon d hd htp sz a ha he).mono ?_
  rintro e w' ⟨hb,h1⟩
  by_cases q:a<(ctn m d).length
  ·rw [if_pos q] at h1
   exact ⟨hb,Or.inr (Or.inr ⟨h1,rfl,q⟩)⟩
  ·rw [if_neg q] at h1
   exact ⟨hb,Or.inr (Or.inl ⟨h1,noAt_len (by omega),Or.inr (by omega)⟩)⟩
set_option maxHeartbeats 4000000 in
set_option maxRecDepth 100000 in
theorem objects_any {w:World} {c:Nat→Colour} {t gp gv d:Nat} {sz:Int} {m:Pl} {rt:List Nat} {sl:Bool} (h:VolW w c t gp gv d sz m rt sl) (hst:m.steps<35184372088831):Calls Tryd.prog 46 #[ptr gv] w fun e w' => ∃v er,e = .returned (.tuple #[v,.int .i64 er])∧Below w.heap.size w w'∧((er=0∧∃os,ObsIn w' w.heap.size d v os∧Chn d (ctn m d) 0 os (wide os)∧NoAt d (wide os) (ctn m d)∧(m.on=true∨(ctn m d).length=0))∨(er=2∧v = .slice none 0 0∧m.on=false∧0<(ctn m d).length)):=by
 obtain ⟨ct,hct⟩:∃x,x=ctn m d:=⟨_,rfl⟩
 have HM:Hid (VolW w c t gp gv d sz m rt sl∧m.steps<35184372088831∧ct=ctn m d):=⟨h,hst,hct⟩
 have hcl:ct.length≤4096:=by rw [hct];exact h.bound.1
 rw [←hct]
 clear h hst hct
 obtain ⟨PQ,HPQ⟩:=exPQ fun (e:Ending) (w':World) => ∃v er,e = .returned (.tuple #[v,.int .i64 er])∧Below w.heap.size w w'∧((er=0∧∃os,ObsIn w' w.heap.size d v os∧Chn d ct 0 os (wide os)∧NoAt d (wide os) ct∧(m.on=true∨ct.length=0))∨(er=2∧v = .slice none 0 0∧m.on=false∧0<ct.length))
 rw [←HPQ.out]
 go_enter Tryd.func46,Tryd.ntmps46
 go_upto_region 0 with fail
 refine wp_region_lit ?_
 refine wa (.const (.slice none 0 0)) (.slice none 0 0) ?_
 refine wa (.const (.int .i64 0)) (.int .i64 0) ?_
 simp only [Act.put,aS,aC,aZ]
 refine wpList_nil ?_
 go_upto_region 1 with fail
 refine wp_region_lit ?_
 refine wa (.const (.slice none 0 0)) (.slice none 0 0) ?_
 simp only [Act.put,aS,aC,aZ]
 refine wpList_nil ?_
 go_upto_region 2 with fail
 refine wp_region_lit ?_
 refine wa (.const (.int .i64 0)) (.int .i64 0) ?_
 simp only [Act.put,aS,aC,aZ]
 refine wpList_nil ?_
 go_wp2_with fail
 go_loopw [4,5,6,7,17] (fun v va _ _ _ W => ∃os:List Ob,va = .int .i64 (wide os:Nat)∧wide os≤ct.length∧Hid (ObsIn W w.heap.size d v os∧Chn d ct 0 os (wide os)∧Below w.heap.size w W∧(os=[]∨m.on=true))) (fun _ va _ _ _ _=>ct.length - (intOf va).toNat)
 case atStart=>exact ⟨[],rfl,Nat.zero_le _,ObsIn.nil _ _ _,rfl,Below.refl _ _,Or.inl rfl⟩
 case round =>
  obtain ⟨os,rfl,hle,HI⟩:=hrel
  obtain ⟨a,hao⟩:∃a,a=wide os:=⟨_,rfl⟩
  have HA:Hid (a=wide os):=hao
  rw [←hao] at hle ⊢
  clear hao
  have HL:Hid (Loc wr wr []):=Loc.nil (Below.refl _ _)
  go_upto_region 3 with fail
  refine wp_region_lit ?_
  refine wm 0 (ptr gv) ?_
  refine wl rfl _ _ (yF8 (.tmp 9) rfl ⟨gv,0,none⟩ rfl) ?_
  refine wl rfl _ _ (yA3 f88_0 (.tmp 10) rfl gv (0) rfl) ?_
  simp only [Act.put,aS,aC,aZ]
  refine wl rfl _ _ (yA9 ag86 (.tmp 11) rfl gv (0+0) rfl ((tpC gp (d:Nat) sz)) rfl (fun j v hj=>by rw [show 0+0+j=j by omega];exact (HM.out.1.row.later HI.out.2.2.1 HM.out.1.row.lt).at j v (vC_tape _ _ _ _ _ j v hj))) ?_
  refine wm 5 (.int .i64 (a:Nat)) ?_
  simp only [Act.put,aS,aC,aZ]
  refine yA5 eN66 [.tmp 12,.tmp 13] _ rfl rfl [(.agg (tpC gp (d:Nat) sz).toArray),(.int .i64 (a:Nat))] rfl ?_
  refine (objectAt_all (HM.out.1.below HI.out.2.2.1).live HM.out.2.1 d HM.out.1.dev HM.out.1.tape sz a (by omega) (HM.out.1.below HI.out.2.2.1).env).mono ?_
  rintro e y1 ⟨hb_,hc_⟩
  obtain ⟨ob,er,rfl,hol_,hr_⟩:∃(ob:List Value) (er:Int),e = .returned (.tuple #[.agg ob.toArray,.int .i64 er])∧(ob.length=6∧∀u∈ob,u.oneCell'=true)∧((er=0∧m.on=true∧∃id bs vb,ob=obC (d:Nat) (a:Nat) (nb bs.length:Nat) false id vb∧ObjAt d a ct id bs∧yA2 y1 vb bs∧∀b,vb.ownBlock=some b→wr.heap.size≤b)∨(er=4∧NoAt d a ct∧(m.on=true∨ct.length≤a))∨(er=2∧m.on=false∧a<ct.length)):=(by
   rw [HM.out.2.2]
   rcases hc_ with ⟨id,bs,vb,e9,h0,h1,h2,h3⟩|⟨e9,h1,h2⟩|⟨e9,h1,h2⟩
   ·exact ⟨_,_,e9,obC_one6 _ _ _ _ h2,Or.inl ⟨rfl,h0,id,bs,vb,rfl,h1,h2,h3⟩⟩
   ·exact ⟨_,_,e9,obC_one6 _ _ _ _ (yA2.nilV y1),Or.inr (Or.inl ⟨rfl,h1,h2⟩)⟩
   ·exact ⟨_,_,e9,obC_one6 _ _ _ _ (yA2.nilV y1),Or.inr (Or.inr ⟨rfl,h1,h2⟩)⟩)
  refine ⟨_,rfl,?_⟩
  have HB1:Hid (Below wr.heap.size wr y1):=hb_
  have HOL:Hid (ob.length=6∧∀u∈ob,u.oneCell'=true):=hol_
  have HR:Hid ((er=0∧m.on=true∧∃id bs vb,ob=obC (d:Nat) (a:Nat) (nb bs.length:Nat) false id vb∧ObjAt d a ct id bs∧yA2 y1 vb bs∧∀b,vb.ownBlock=some b→wr.heap.size≤b)∨(er=4∧NoAt d a ct∧(m.on=true∨ct.length≤a))∨(er=2∧m.on=false∧a<ct.length)):=hr_
  have H1:Hid (Loc y1 y1 []):=Loc.nil (Below.refl _ _)
  clear hb_ hc_ hol_ hr_
  simp only [Act.put,aS,aC,aZ]
  refine wm 14 (.tuple #[(.agg ob.toArray),(.int .i64 er)]) ?_
  refine wl rfl _ _ (yA8 (.tmp 8) 0 rfl #[(.agg ob.toArray),(.int .i64 er)] rfl (.agg ob.toArray) rfl) ?_
  refine wl rfl _ _ (yA8 (.tmp 8) 1 rfl #[(.agg ob.toArray),(.int .i64 er)] rfl (.int .i64 er) rfl) ?_
  simp only [Act.put,aS,aC,aZ]
  refine wl rfl _ _ (yB6 ((obC 0 0 0 false [] (.slice none 0 0))) zero91 rfl) ?_
  have k_:=H1.out.box 91 ((obC 0 0 0 false [] (.slice none 0 0)))
  obtain ⟨y2,hW_⟩:∃W,W=y1.alloc (.cells ((obC 0 0 0 false [] (.slice none 0 0))).toArray 91):=⟨_,rfl⟩
  obtain ⟨q3,hq_⟩:∃q,q=y1.heap.size:=⟨_,rfl⟩
  rw [←hW_,←hq_] at k_
  rw [←hW_,←hq_]
  clear hq_
  have Ry2:Hid (Loc y1 y2 [(q3,91,(obC 0 0 0 false [] (.slice none 0 0)))]):=k_
  clear k_ hW_ H1
  simp only [Act.put,aS,aC,aZ]
  refine wlS rfl rfl _ (yB3 ag91 (.tmp 6) (.tmp 15) rfl Ry2.out 0 rfl (0) rfl (ob) rfl HOL.out.1 (by rw [HOL.out.1];decide) HOL.out.2).1 ?_
  have k_:=Ry2.out.lay 0 rfl (0) (ob)
  rw [yB5 _ _ (by rw [HOL.out.1];rfl)] at k_ ⊢
  obtain ⟨y3,hW_⟩:∃W,W=y2.setRow q3 (ob).toArray:=⟨_,rfl⟩
  rw [←hW_] at k_ ⊢
  have Ry3:Hid (Loc y1 y3 [(q3,91,ob)]):=k_
  clear k_ hW_ Ry2
  refine wa (.tmp 16) (.int .i64 er) ?_
  simp only [Act.put,aS,aC,aZ]
  refine wpList_nil ?_
  have HB3:Hid (Below wr.heap.size wr y3):=HB1.out.trans (Ry3.out.below.mono HB1.out.size)
  rcases HR.out with ⟨rfl,hon,id,bs,vb,rfl,hoa,hsl,hfr⟩|⟨rfl,hno,hon⟩|⟨rfl,hof,hla⟩
  ·have HOA:Hid (m.on=true∧ObjAt d a ct id bs∧ObB y3 w.heap.size u4 vb bs∧ObsIn y3 w.heap.size d u4 os):=(by
    obtain ⟨L,hL,_⟩:=HI.out.1
    refine ⟨hon,hoa,⟨hsl.later Ry3.out.below,Or.inr fun b hb=>⟨Nat.le_trans HI.out.2.2.1.size (hfr b hb),fun e9 => ?_⟩⟩,HI.out.1.later HB3.out⟩
    have:=(hL.2.lt b e9).2
    have:=hfr b hb
    omega)
   have HQ:Hid (∀b,u4.ownBlock=some b→b≠q3):=(by
    obtain ⟨L,hL,_⟩:=HI.out.1
    intro b hb e9
    have h1:=(hL.2.lt b hb).2
    have h2:=Ry3.out.ge 0 rfl
    have h3:=HB1.out.size
    omega)
   clear hon hoa hsl hfr
   go_upto_region 4 with fail
   refine wp_region_lit ?_
   refine wm 7 (.int .i64 0) ?_
   simp only [Act.put,aS,aC,aZ]
   refine wpList_nil ?_
   go_upto_region 6 with fail
   refine wp_region_lit ?_
   refine wl rfl _ _ (yC6 (.tmp 17) (.const (.int .i64 0)) rfl (0) (0) rfl rfl true rfl) ?_
   refine wa (.tmp 20) (.bool true) ?_
   simp only [Act.put,aS,aC,aZ]
   refine wpList_nil ?_
   go_upto_region 7 with fail
   refine wp_region_lit ?_
   refine wm 4 u4 ?_
   refine wl rfl _ _ (yA9 ag91 (.tmp 6) rfl q3 (0) rfl ((obC (d:Nat) (a:Nat) (nb bs.length:Nat) false id vb)) rfl (yF0 Ry3.out 0 rfl)) ?_
   refine wl rfl _ _ (run_litC el102 (obC (d:Nat) (a:Nat) (nb bs.length:Nat) false id vb) rfl (.tmp 22) rfl rfl) ?_
   have HB4_:=yB2 y3 (.cells (obC (d:Nat) (a:Nat) (nb bs.length:Nat) false id vb).toArray 91)
   have r4_:=Row.new y3 91 (obC (d:Nat) (a:Nat) (nb bs.length:Nat) false id vb)
   obtain ⟨y4,hW_⟩:∃U_:World,U_=y3.alloc (.cells (obC (d:Nat) (a:Nat) (nb bs.length:Nat) false id vb).toArray 91):=⟨_,rfl⟩
   obtain ⟨q4,hq_⟩:∃q,q=y3.heap.size:=⟨_,rfl⟩
   rw [←hW_] at HB4_
   rw [←hW_,←hq_] at r4_
   rw [←hW_,←hq_]
   have H4:Hid (Below y3.heap.size y3 y4∧Row y4 q4 91 (obC (d:Nat) (a:Nat) (nb bs.length:Nat) false id vb)):=⟨HB4_,r4_⟩
   clear HB4_ r4_ hW_ hq_
   simp only [Act.put,aS,aC,aZ]
   obtain ⟨vn,y5,hr_,ho_,hgr_,hb_⟩:=(HOA.out.2.2.2.later H4.out.1).snoc id bs vb q4 ⟨HOA.out.2.2.1.1.later H4.out.1,HOA.out.2.2.1.2⟩ (by rw [←HA.out];exact H4.out.2.at) (by have:=wide_len os;have:=HA.out;omega) (Nat.le_trans HI.out.2.2.1.size (Nat.le_trans HB3.out.size H4.out.1.size))
   refine wl rfl vn _ (yK0 (.tmp 21) (.tmp 23) rfl _ _ _ rfl rfl hr_) ?_
   have H5:Hid (ObsIn y5 w.heap.size d vn (os++[(id,bs)])∧Below w.heap.size w y5∧Row y5 q3 91 (obC (d:Nat) (a:Nat) (nb bs.length:Nat) false id vb)):=⟨ho_,HI.out.2.2.1.trans ((HB3.out.mono HI.out.2.2.1.size).trans ((H4.out.1.mono (Nat.le_trans HI.out.2.2.1.size HB3.out.size)).trans hb_)),((Ry3.out.at 0 rfl).later H4.out.1 (Ry3.out.at 0 rfl).lt).grown hgr_ (fun e9=>HQ.out q3 e9 rfl)⟩
   clear hr_ ho_ hgr_ hb_
   simp only [Act.put,aS,aC,aZ]
   refine wa (.tmp 24) vn ?_
   simp only [Act.put,aS,aC,aZ]
   refine wpList_nil ?_
   have hle2:a+nb bs.length≤ct.length:=HOA.out.2.1.1
   have hp2:=nb_pos bs.length
   go_upto_region 8 with fail
   refine wp_region_lit ?_
   refine wm 5 (.int .i64 (a:Nat)) ?_
   refine wl rfl _ _ (yA3 f91_0 (.tmp 6) rfl q3 (0) rfl) ?_
   refine wl rfl _ _ (yA3 f40_2 (.tmp 26) rfl q3 (0+0) rfl) ?_
   simp only [Act.put,aS,aC,aZ]
   refine wl rfl _ _ (yA7 o3 (.tmp 27) rfl q3 (0+0+2) rfl (.int .i64 (nb bs.length:Nat)) (H5.out.2.2.at (0+0+2) _ rfl)) ?_
   refine wl rfl (.int .i64 ((a+nb bs.length:Nat):Int)) _ (yC8 (.tmp 25) (.tmp 28) rfl (a:Nat) (nb bs.length:Nat) _ rfl rfl (by omega) (by omega) (by omega)) ?_
   refine wa (.tmp 29) (.int .i64 ((a+nb bs.length:Nat):Int)) ?_
   simp only [Act.put,aS,aC,aZ]
   refine wpList_nil ?_
   have hws:wide (os++[(id,bs)])=a+nb bs.length:=(by rw [wide_append,←HA.out];simp [wide])
   go_wp2_with fail
   exact ⟨⟨os++[(id,bs)],by rw [hws],by rw [hws];omega,H5.out.1,(by rw [hws];rw [HA.out];exact HI.out.2.1.snoc (by rw [←HA.out];exact HOA.out.2.1)),H5.out.2.1,Or.inr HOA.out.1⟩,by simp [intOf];omega⟩
  ·have HNO:Hid (NoAt d a ct∧(m.on=true∨ct.length=0)):=⟨hno,(by rcases hon with h|h;exact Or.inl h;rcases HI.out.2.2.2 with q|q;right;have h9:=HA.out;rw [q] at h9;have:a=0:=h9;omega;exact Or.inl q)⟩
   clear hno hon
   go_upto_region 4 with fail
   refine wp_region_lit ?_
   refine wm 7 (.int .i64 4) ?_
   simp only [Act.put,aS,aC,aZ]
   refine wpList_nil ?_
   go_upto_region 6 with fail
   refine wp_region_lit ?_
   refine wl rfl _ _ (yC6 (.tmp 17) (.const (.int .i64 0)) rfl (4) (0) rfl rfl false rfl) ?_
   refine wa (.tmp 20) (.bool false) ?_
   simp only [Act.put,aS,aC,aZ]
   refine wpList_nil ?_
   go_upto_region 9 with fail
   refine wp_region_lit ?_
   refine wl rfl _ _ (yC6 (.tmp 17) (.const (.int .i64 4)) rfl (4) (4) rfl rfl true rfl) ?_
   refine wa (.tmp 31) (.bool true) ?_
   simp only [Act.put,aS,aC,aZ]
   refine wpList_nil ?_
   go_upto_region 10 with fail
   refine wp_region_lit ?_
   refine wm 4 u4 ?_
   refine wa (.tmp 32) u4 ?_
   refine wa (.const (.int .i64 0)) (.int .i64 0) ?_
   simp only [Act.put,aS,aC,aZ]
   refine wpList_nil ?_
   go_wp2_with fail
   rw [HPQ.out]
   exact ⟨u4,0,rfl,HI.out.2.2.1.trans (HB3.out.mono HI.out.2.2.1.size),Or.inl ⟨rfl,os,HI.out.1.later HB3.out,HI.out.2.1,by rw [←HA.out];exact HNO.out.1,HNO.out.2⟩⟩
  ·go_upto_region 4 with fail
   refine wp_region_lit ?_
   refine wm 7 (.int .i64 2) ?_
   simp only [Act.put,aS,aC,aZ]
   refine wpList_nil ?_
   go_upto_region 6 with fail
   refine wp_region_lit ?_
   refine wl rfl _ _ (yC6 (.tmp 17) (.const (.int .i64 0)) rfl (2) (0) rfl rfl false rfl) ?_
   refine wa (.tmp 20) (.bool false) ?_
   simp only [Act.put,aS,aC,aZ]
   refine wpList_nil ?_
   go_upto_region 9 with fail
   refine wp_region_lit ?_
   refine wl rfl _ _ (yC6 (.tmp 17) (.const (.int .i64 4)) rfl (2) (4) rfl rfl false rfl) ?_
   refine wa (.tmp 31) (.bool false) ?_
   simp only [Act.put,aS,aC,aZ]
   refine wpList_nil ?_
   go_upto_region 5 with fail
   refine wp_region_lit ?_
   refine wm 7 (.int .i64 2) ?_
   refine wa (.const (.slice none 0 0)) (.slice none 0 0) ?_
   refine wa (.tmp 18) (.int .i64 2) ?_
   simp only [Act.put,aS,aC,aZ]
   refine wpList_nil ?_
   go_wp2_with fail
   rw [HPQ.out]
   exact ⟨.slice none 0 0,2,rfl,HI.out.2.2.1.trans (HB3.out.mono HI.out.2.2.1.size),Or.inr ⟨rfl,rfl,hof,by omega⟩⟩
end Go.Proofs.YtpkkkkomdblpoaaDoor

namespace Go.Proofs.YtpkkkkomdblpoaaDoor
open Go.RowKit Go.Maps
open Cold
def leafO (o:Ob):List Nat:=Sh.Tree.leaf (o.1++o.2)
def rootO (os:List Ob):List Nat:=Sh.Tree.root (os.map leafO)
theorem leafO_is (o:Ob):(leafO o).length=32∧∀c∈leafO o,c<256:=Sh.leaf_isH _
theorem leafO_all (os:List Ob):Sh.AllH (os.map leafO):=fun h hh=>by
 obtain ⟨o,_,rfl⟩:=List.mem_map.1 hh
 exact leafO_is o
theorem rootO_is (os:List Ob):(rootO os).length=32∧∀c∈rootO os,c<256:=(leafO_all os).root
def yI0 (os:List Ob) (k:Nat):List (List Nat):=(os.take k).map leafO++List.replicate (os.length - k) (Zs 32)
theorem hashTo_0 (os:List Ob):yI0 os 0=List.replicate os.length (Zs 32):=by simp [yI0]
theorem hashTo_end (os:List Ob):yI0 os os.length=os.map leafO:=by simp [yI0]
theorem hashTo_length (os:List Ob) (k:Nat) (h:k≤os.length):(yI0 os k).length=os.length:=by simp [yI0];omega
theorem hashTo_all (os:List Ob) (k:Nat):AllN 32 (yI0 os k):=fun b hb=>by
 rcases List.mem_append.1 hb with hb|hb
 ·obtain ⟨o,_,rfl⟩:=List.mem_map.1 hb
  exact leafO_is o
 ·exact allZ 32 _ b hb
theorem hashTo_set (os:List Ob) (k:Nat) (h:k<os.length):(yI0 os k).set k (leafO (os.getD k ([],[])))=yI0 os (k+1):=by
 have e:os.getD k ([],[])=os[k]:=by simp [h]
 rw [e]
 unfold yI0
 rw [List.set_append_right _ _ (by simp;omega)]
 have e2:k - ((os.take k).map leafO).length=0:=by simp;omega
 rw [e2,show os.length - k=(os.length - (k+1))+1 by omega,List.replicate_succ,List.set_cons_zero,List.take_succ_eq_append_getElem h,List.map_append,List.append_assoc]
 rfl
theorem hashTo_put (os:List Ob) (k:Nat) (h:k<os.length):splice (yA0 (yI0 os k).flatten) (k * 32) (yA0 (leafO (os.getD k ([],[]))))=yA0 (yI0 os (k+1)).flatten:=by
 rw [flatN_set (hashTo_all os k) k (by rw [hashTo_length os k (Nat.le_of_lt h)];exact h) _ (leafO_is _).1,hashTo_set os k h]
theorem hashTo_put2 (os:List Ob) (k:Nat) (ob:Ob) (e:ob=os.getD k ([],[])) (h:k<os.length):splice (yA0 (yI0 os k).flatten) (k * 32) (yA0 (leafO ob))=yA0 (yI0 os (k+1)).flatten:=by
 rw [e]
 exact hashTo_put os k h
def OkL (os:List Ob):Prop := ∀k,k<os.length→nameB (os.getD k ([],[])).1=true∧(os.getD k ([],[])).2.length≤512
theorem Chn.okL {d:Nat} {ct:List (List Nat)} {a b:Nat} {os:List Ob} (h:Chn d ct a os b):OkL os:=by
 induction os generalizing a with
 | nil=>intro k hk;exact absurd hk (Nat.not_lt_zero _)
 | cons o r ih =>
  intro k hk
  cases k with
  | zero=>exact ⟨h.1.2.name,h.1.2.len⟩
  | succ k=>exact ih h.2 k (by simpa using hk)
theorem hin_line {W:World} {g:Nat} {L:List (List Nat)} (h:ALine 52 32 W g L) (hl:L.length≤1000000):Sh.HIn W (whole g L.length) L :=
 Sh.HOwn.hin (base:=0) ⟨h.1,(h.own (Nat.zero_le _) hl).2⟩
theorem run_wix {S E n:Nat} (he:ElT S E n) {w:World} {a:Act} {o:Oper} (x y:Operand) (ho:o.op = .indexAddr S x y) (g N k:Nat) (hk:k<N) (hx:a.eval x=whole g N) (hy:a.eval y = .int .i64 (k:Nat)):(execOp a.eval o).run Tryd.prog w = .ok (.value (.pointer (some ⟨g,k * n,none⟩))) w:=by
 obtain ⟨i,hi,hz0,hz1,hz2⟩:=info_parts he.info
 have h1:(Instr.indexAt S (whole g N) (.int .i64 (k:Nat))).run Tryd.prog w = .ok (.pointer (some ⟨g,k * n,none⟩)) w:=by simp [whole,Instr.indexAt,asIntOf,run_underlying he.sl,hk,sizeOf,typeInfo,hi,hz1,yB7]
 simp [execOp,ho,hx,hy,h1]
theorem make_hashes (w:World) (k:Nat) (hk:k≤1000000):∃w',(∀(a:Act) (o:Oper) (l c:Operand),o.op = .makeSlice 107 l c→a.eval l = .int .i64 (k:Nat)→a.eval c = .int .i64 (k:Nat)→(execOp a.eval o).run Tryd.prog w = .ok (.value (whole w.heap.size k)) w')∧ALine 52 32 w' w.heap.size (List.replicate k (Zs 32))∧Below w.heap.size w w':=by
 obtain ⟨i,hi,hz0,hz1,hz2⟩:=info_parts el107.info
 have hr:=run_make (P:=Tryd.prog) (w:=w) 107 52 i _ el107.sl hi hz0 .i64 .i64 (k:Nat) (k:Nat) (by omega) (Int.le_refl _) (by rw [hz2];omega) (by omega)
 rw [Int.toNat_natCast,hz1] at hr
 refine ⟨_,fun a o l c ho hl hc=>by simp only [execOp,ho,hl,hc,hr,Sem.run_bind,Sem.run_pure,Result.andThen_ok];rfl,⟨allZ 32 k,?_⟩,yB2 w _⟩
 rw [←madeN 32 k (by decide)]
 exact Row.new' w 52 _
set_option maxHeartbeats 4000000 in
set_option maxRecDepth 100000 in
theorem rootOf_any {w:World} {base d:Nat} {v:Value} {os:List Ob} (h:ObsIn w base d v os) (hok:OkL os) (hsz:os.length≤1000000) (he:Env w):Calls Tryd.prog 47 #[v] w fun e w'=>e = .returned (av (rootO os))∧Below w.heap.size w w':=by
 obtain ⟨L,hL,hLl,hLk⟩:=h
 have HM:Hid (COwn 91 6 w base v L∧L.length=os.length∧(∀k,k<os.length→∃vb,L.getD k []=obC (d:Nat) (offO os k:Nat) (nb (os.getD k ([],[])).2.length:Nat) false (os.getD k ([],[])).1 vb∧ObB w base v vb (os.getD k ([],[])).2)∧OkL os∧Env w):=⟨hL,hLl,hLk,hok,he⟩
 have H0:Hid (Loc w w []):=Loc.nil (Below.refl _ _)
 obtain ⟨n,hn⟩:∃n,n=os.length:=⟨_,rfl⟩
 have HN:Hid (n=os.length):=hn
 rw [←hn] at hsz
 clear hL hLl hLk hok he hn
 obtain ⟨PQ,HPQ⟩:=exPQ fun (e:Ending) (w':World)=>e = .returned (av (rootO os))∧Below w.heap.size w w'
 rw [←HPQ.out]
 go_enter Tryd.func47,Tryd.ntmps47
 go_upto_region 0 with fail
 refine wp_region_lit ?_
 refine wl rfl _ _ (yB6 (yA0 (Zs 32)) zero52 rfl) ?_
 have k_:=H0.out.box 52 (yA0 (Zs 32))
 obtain ⟨w1,hW_⟩:∃W,W=w.alloc (.cells (yA0 (Zs 32)).toArray 52):=⟨_,rfl⟩
 obtain ⟨q2,hq_⟩:∃q,q=w.heap.size:=⟨_,rfl⟩
 rw [←hW_,←hq_] at k_
 rw [←hW_,←hq_]
 clear hq_
 have Rw1:Hid (Loc w w1 [(q2,52,yA0 (Zs 32))]):=k_
 clear k_ hW_ H0
 simp only [Act.put,aS,aC,aZ]
 refine wpList_nil ?_
 go_upto_region 1 with fail
 refine wp_region_lit ?_
 refine wm 0 v ?_
 refine wl rfl (.int .i64 (n:Nat)) _ ((by rw [HN.out,←HM.out.2.1];exact run_lenC el102 HM.out.1 (.tmp 6) rfl rfl)) ?_
 simp only [Act.put,aS,aC,aZ]
 obtain ⟨w2,hr_,ha_,hb_⟩:=make_hashes w1 n hsz
 refine wl rfl (whole w1.heap.size n) w2 (hr_ _ _ (.tmp 7) (.tmp 7) rfl rfl rfl) ?_
 obtain ⟨gl,hgl_⟩:∃g,g=w1.heap.size:=⟨_,rfl⟩
 rw [←hgl_] at ha_
 rw [←hgl_]
 have H2:Hid (Loc w w2 [(q2,52,yA0 (Zs 32)),(gl,52,yA0 (yI0 os 0).flatten)]):=(by
  have r_:=ha_.2
  rw [HN.out,←hashTo_0] at r_
  exact Rw1.out.add r_ (Nat.le_of_eq hgl_.symm) hb_)
 clear hr_ ha_ hb_ hgl_ Rw1
 simp only [Act.put,aS,aC,aZ]
 refine wa (.tmp 8) (whole gl n) ?_
 simp only [Act.put,aS,aC,aZ]
 refine wpList_nil ?_
 go_upto_region 2 with fail
 refine wp_region_lit ?_
 refine wm 0 v ?_
 refine wl rfl (.int .i64 (n:Nat)) _ ((by rw [HN.out,←HM.out.2.1];exact run_lenC el102 HM.out.1 (.tmp 9) rfl rfl)) ?_
 refine wl rfl _ _ (yA4 (.const (.int .i64 0)) rfl (.int .i64 0) rfl) ?_
 simp only [Act.put,aS,aC,aZ]
 refine wpList_nil ?_
 go_wp2_with fail
 go_loopw [4,5,11] (fun _ _ vk W => ∃k:Nat,vk = .int .i64 (k:Nat)∧k≤n∧Hid (Loc w W [(q2,52,yA0 (Zs 32)),(gl,52,yA0 (yI0 os k).flatten)])) (fun _ _ vk _=>n - (intOf vk).toNat)
 case atStart=>exact ⟨0,rfl,Nat.zero_le _,H2.out⟩
 case round =>
  obtain ⟨k,rfl,hk,HI⟩:=hrel
  by_cases hlt:k<n
  ·go_upto_region 3 with fail
   refine wp_region_lit ?_
   refine wl rfl _ _ (yB8 (.tmp 11) (.tmp 10) rfl (k:Nat) (n:Nat) rfl rfl true (decide_eq_true (by omega))) ?_
   simp only [Act.put,aS,aC,aZ]
   refine wpList_nil ?_
   obtain ⟨ob,hob⟩:∃o,o=os.getD k ([],[]):=⟨_,rfl⟩
   obtain ⟨vb,hLk_,hob_⟩:=HM.out.2.2.1 k (by rw [←HN.out];exact hlt)
   obtain ⟨g,_,_,hx_,hc_⟩:=HM.out.1.ix el102 k (by rw [HM.out.2.1,←HN.out];exact hlt)
   rw [hLk_,←hob] at hc_
   rw [←hob] at hob_
   have hok_:=HM.out.2.2.2.1 k (by rw [←HN.out];exact hlt)
   rw [←hob] at hok_
   have HX:Hid ((∀w',(Instr.indexAt 102 v (.int .i64 (k:Nat))).run Tryd.prog w' = .ok (.pointer (some ⟨g,k * 6,none⟩)) w')∧(∀W':World,COwn 91 6 W' base v L→∀j u,(obC (d:Nat) (offO os k:Nat) (nb ob.2.length:Nat) false ob.1 vb)[j]? = some u→W'.cell? ⟨g,k * 6+j,none⟩=some u)∧yA2 w vb ob.2∧nameB ob.1=true∧ob.2.length≤512∧ob=os.getD k ([],[])∧k<os.length):=⟨hx_,hc_,hob_.1,hok_.1,hok_.2,hob,by rw [←HN.out];exact hlt⟩
   clear hx_ hc_ hob_ hob hok_ hLk_
   have HOC:Hid ((obC (d:Nat) (offO os k:Nat) (nb ob.2.length:Nat) false ob.1 vb).length=6∧∀u∈(obC (d:Nat) (offO os k:Nat) (nb ob.2.length:Nat) false ob.1 vb),u.oneCell'=true):=obC_one6 _ _ _ _ HX.out.2.2.1
   go_upto_region 4 with fail
   refine wp_region_lit ?_
   refine wm 11 (.int .i64 (k:Nat)) ?_
   refine wl rfl _ _ (yD5 (.tmp 9) (.tmp 11) rfl _ _ _ rfl rfl HX.out.1) ?_
   refine wl rfl _ _ (yA9 ag91 (.tmp 14) rfl g (k * 6) rfl ((obC (d:Nat) (offO os k:Nat) (nb ob.2.length:Nat) false ob.1 vb)) HOC.out.1 (HX.out.2.1 _ (HM.out.1.later HI.out.below))) ?_
   simp only [Act.put,aS,aC,aZ]
   refine wl rfl _ _ (yB6 ((obC 0 0 0 false [] (.slice none 0 0))) zero91 rfl) ?_
   have k_:=HI.out.box 91 ((obC 0 0 0 false [] (.slice none 0 0)))
   obtain ⟨y1,hW_⟩:∃W,W=wr.alloc (.cells ((obC 0 0 0 false [] (.slice none 0 0))).toArray 91):=⟨_,rfl⟩
   obtain ⟨q5,hq_⟩:∃q,q=wr.heap.size:=⟨_,rfl⟩
   rw [←hW_,←hq_] at k_
   rw [←hW_,←hq_]
   clear hq_
   have Ry1:Hid (Loc w y1 [(q2,52,yA0 (Zs 32)),(gl,52,yA0 (yI0 os k).flatten),(q5,91,(obC 0 0 0 false [] (.slice none 0 0)))]):=k_
   clear k_ hW_ HI
   simp only [Act.put,aS,aC,aZ]
   refine wa (.tmp 13) (.int .i64 (k:Nat)) ?_
   simp only [Act.put,aS,aC,aZ]
   refine wlS rfl rfl _ (yB3 ag91 (.tmp 5) (.tmp 15) rfl Ry1.out 2 rfl (0) rfl ((obC (d:Nat) (offO os k:Nat) (nb ob.2.length:Nat) false ob.1 vb)) rfl HOC.out.1 (by rw [HOC.out.1];decide) HOC.out.2).1 ?_
   have k_:=Ry1.out.lay 2 rfl (0) ((obC (d:Nat) (offO os k:Nat) (nb ob.2.length:Nat) false ob.1 vb))
   rw [yB5 _ _ (by rw [HOC.out.1];rfl)] at k_ ⊢
   obtain ⟨y2,hW_⟩:∃W,W=y1.setRow q5 ((obC (d:Nat) (offO os k:Nat) (nb ob.2.length:Nat) false ob.1 vb)).toArray:=⟨_,rfl⟩
   rw [←hW_] at k_ ⊢
   have Ry2:Hid (Loc w y2 [(q2,52,yA0 (Zs 32)),(gl,52,yA0 (yI0 os k).flatten),(q5,91,(obC (d:Nat) (offO os k:Nat) (nb ob.2.length:Nat) false ob.1 vb))]):=k_
   clear k_ hW_ Ry1
   refine wpList_nil ?_
   go_upto_region 5 with fail
   refine wp_region_lit ?_
   refine wm 3 (whole gl n) ?_
   refine wm 4 (.int .i64 (k:Nat)) ?_
   refine wl rfl _ _ (yA3 f91_1 (.tmp 5) rfl q5 (0) rfl) ?_
   simp only [Act.put,aS,aC,aZ]
   refine wl rfl _ _ (yA7 o9 (.tmp 18) rfl q5 (0+4) rfl (str ob.1) ((Ry2.out.at 2 rfl).at (0+4) _ rfl)) ?_
   simp only [Act.put,aS,aC,aZ]
   obtain ⟨vs,y3,hr_,ho_,hb_⟩:=run_strBs y2 ob.1 (nameB_lt HX.out.2.2.2.1) (by have:=(nameB_len HX.out.2.2.2.1).2;omega)
   refine wl rfl vs y3 (hr_ _ _ (.tmp 19) rfl rfl) ?_
   have H3:Hid (Loc w y3 [(q2,52,yA0 (Zs 32)),(gl,52,yA0 (yI0 os k).flatten),(q5,91,(obC (d:Nat) (offO os k:Nat) (nb ob.2.length:Nat) false ob.1 vb))]∧Fz y3 y2.heap.size vs ob.1∧Below y2.heap.size y2 y3):=⟨Ry2.out.later hb_,ho_,hb_⟩
   clear hr_ ho_ hb_
   simp only [Act.put,aS,aC,aZ]
   refine wl rfl _ _ (yA3 f91_2 (.tmp 5) rfl q5 (0) rfl) ?_
   refine wl rfl _ _ (yA7 o38 (.tmp 21) rfl q5 (0+5) rfl vb ((H3.out.1.at 2 rfl).at (0+5) _ rfl)) ?_
   simp only [Act.put,aS,aC,aZ]
   obtain ⟨vj,y4,hr_,ho_,hb_⟩:=H3.out.2.1.app (HX.out.2.2.1.later H3.out.1.below) (by have:=HX.out.2.2.2.2.1;omega) H3.out.2.2.size
   refine wl rfl vj y4 (yK0 (.tmp 20) (.tmp 22) rfl _ _ _ rfl rfl hr_) ?_
   have H4:Hid (Loc w y4 [(q2,52,yA0 (Zs 32)),(gl,52,yA0 (yI0 os k).flatten),(q5,91,(obC (d:Nat) (offO os k:Nat) (nb ob.2.length:Nat) false ob.1 vb))]∧yA2 y4 vj (ob.1++ob.2)):=⟨Ry2.out.later (H3.out.2.2.trans hb_),ho_⟩
   clear hr_ ho_ hb_
   simp only [Act.put,aS,aC,aZ]
   refine yA5 eN67 [.tmp 23] _ rfl rfl [vj] rfl ?_
   refine (Sh.leaf_any vj (ob.1++ob.2) y4 (sliceS H4.out.2) (HM.out.2.2.2.2.later H4.out.1.below).2.1 (HM.out.2.2.2.2.later H4.out.1.below).2.2 (by rw [List.length_append];have:=(nameB_len HX.out.2.2.2.1).2;have:=HX.out.2.2.2.2.1;omega)).mono ?_
   rintro e y5 ⟨rfl,hb_⟩
   refine ⟨_,rfl,?_⟩
   have H5:Hid (Loc w y5 [(q2,52,yA0 (Zs 32)),(gl,52,yA0 (yI0 os k).flatten),(q5,91,(obC (d:Nat) (offO os k:Nat) (nb ob.2.length:Nat) false ob.1 vb))]):=H4.out.1.later hb_
   clear hb_
   simp only [Act.put,aS,aC,aZ]
   refine wl rfl _ _ (run_wix el107 (.tmp 16) (.tmp 17) rfl gl n k hlt rfl rfl) ?_
   simp only [Act.put,aS,aC,aZ]
   refine wlS rfl rfl _ (yB3 ag52 (.tmp 25) (.tmp 24) rfl H5.out 1 rfl (k * 32) rfl (yA0 (leafO ob)) rfl (by rw [yA1];exact (leafO_is _).1) (by rw [yA1,yA1,(leafO_is _).1,flatN (hashTo_all os k),hashTo_length os k (by have:=HX.out.2.2.2.2.2.2;omega)];have:=HX.out.2.2.2.2.2.2;omega) (yB0 _)).1 ?_
   have k_:=H5.out.lay 1 rfl (k * 32) (yA0 (leafO ob))
   rw [hashTo_put2 os k ob HX.out.2.2.2.2.2.1 HX.out.2.2.2.2.2.2] at k_ ⊢
   obtain ⟨y6,hW_⟩:∃W,W=y5.setRow gl (yA0 (yI0 os (k+1)).flatten).toArray:=⟨_,rfl⟩
   rw [←hW_] at k_ ⊢
   have Ry6:Hid (Loc w y6 [(q2,52,yA0 (Zs 32)),(gl,52,yA0 (yI0 os (k+1)).flatten),(q5,91,(obC (d:Nat) (offO os k:Nat) (nb ob.2.length:Nat) false ob.1 vb))]):=k_
   clear k_ hW_ H5
   refine wpList_nil ?_
   go_upto_region 6 with fail
   refine wp_region_lit ?_
   refine wl rfl (.int .i64 ((k+1:Nat):Int)) _ (yC8 (.tmp 11) (.const (.int .i64 1)) rfl (k:Nat) 1 _ rfl rfl (by omega) (by omega) (by omega)) ?_
   refine wm 26 (.int .i64 ((k+1:Nat):Int)) ?_
   simp only [Act.put,aS,aC,aZ]
   refine wpList_nil ?_
   go_wp2_with fail
   exact ⟨⟨k+1,rfl,by omega,Ry6.out.take 2⟩,by simp [intOf];omega⟩
  ·go_upto_region 3 with fail
   refine wp_region_lit ?_
   refine wl rfl _ _ (yB8 (.tmp 11) (.tmp 10) rfl (k:Nat) (n:Nat) rfl rfl false (decide_eq_false (by omega))) ?_
   simp only [Act.put,aS,aC,aZ]
   refine wpList_nil ?_
   have e0:k=n:=(by omega)
   subst e0
   have HE:Hid (Loc w wr [(q2,52,yA0 (Zs 32)),(gl,52,yA0 (os.map leafO).flatten)]):=(by
    have h9:=HI.out
    rw [HN.out,hashTo_end] at h9
    exact h9)
   clear HI
   go_upto_region 7 with fail
   refine wp_region_lit ?_
   refine wm 3 (whole gl k) ?_
   simp only [Act.put,aS,aC,aZ]
   refine yA5 eN68 [.tmp 27] _ rfl rfl [(whole gl k)] rfl ?_
   refine (Sh.root_any k (whole gl k) (os.map leafO) wr (by rw [List.length_map];exact HN.out.symm) (by omega) (by have h9:=hin_line (L:=os.map leafO) ⟨leafO_all os,HE.out.at 1 rfl⟩ (by rw [List.length_map,←HN.out];exact hsz);rw [List.length_map,←HN.out] at h9;exact h9) (HM.out.2.2.2.2.later HE.out.below).2.1 (HM.out.2.2.2.2.later HE.out.below).2.2).mono ?_
   rintro e y1 ⟨rfl,hb_⟩
   refine ⟨_,rfl,?_⟩
   have H1:Hid (Loc w y1 [(q2,52,yA0 (Zs 32)),(gl,52,yA0 (os.map leafO).flatten)]):=HE.out.later hb_
   clear hb_
   simp only [Act.put,aS,aC,aZ]
   refine wlS rfl rfl _ (yB3 ag52 (.tmp 2) (.tmp 28) rfl H1.out 0 rfl (0) rfl (yA0 (rootO os)) rfl (by rw [yA1];exact (rootO_is _).1) (by rw [yA1,bz,(rootO_is _).1];decide) (yB0 _)).1 ?_
   have k_:=H1.out.lay 0 rfl (0) (yA0 (rootO os))
   rw [yF4 (n:=32) _ (rootO_is _).1] at k_ ⊢
   obtain ⟨y9,hW_⟩:∃W,W=y1.setRow q2 (yA0 (rootO os)).toArray:=⟨_,rfl⟩
   rw [←hW_] at k_ ⊢
   have Ry9:Hid (Loc w y9 [(q2,52,yA0 (rootO os)),(gl,52,yA0 (os.map leafO).flatten)]):=k_
   clear k_ hW_ H1
   refine wpList_nil ?_
   go_wp2_with fail
   rw [HPQ.out]
   exact bodyPost_ret (yK1 ag52 Tryd.results47 _ _ q2 52 rfl _ (by rw [yA1];exact (rootO_is _).1) (Ry9.out.at 0 rfl)) rfl ⟨rfl,Ry9.out.below⟩
end Go.Proofs.YtpkkkkomdblpoaaDoor

/- Layer 15: the document's volume: Append. Layer 15: the document's volume: its root. -/
import Derived.Test.YtpkkkkomdblpoaaDoorP36
namespace Go.Proofs.YtpkkkkomdblpoaaDoor
open Go.RowKit Go.Maps
open Cold
theorem sz35:(Tryd.prog.info? 35).map (·.size)=some 1:=by kernel_rfl
theorem sz3p:(Tryd.prog.info? 3).map (·.size)=some 1:=by kernel_rfl
theorem sz4p:(Tryd.prog.info? 4).map (·.size)=some 1:=by kernel_rfl
section
variable {B t gv:Nat} {c:Nat→Colour} {W W':World} {v vL:Value} {l:List Td} {gy d most len:Nat} {sd:Bool}
theorem TdIn.cell (h:TdIn B t gv c W v l):(v.cells=#[v]∧v.oneCell'=true)∧∃p n k,v = .slice p n k:=by
 obtain ⟨_,L,h1,_⟩:=h
 rcases h1.2.2 with ⟨rfl,_⟩|⟨g,cap,cur,rfl,_⟩
 ·exact ⟨⟨rfl,rfl⟩,_,_,_,rfl⟩
 ·exact ⟨⟨rfl,rfl⟩,_,_,_,rfl⟩
theorem TdIn.no (h:TdIn B t gv c W v l) {cs:List Value} (hr:Row W gy 37 cs):∀b,v.ownBlock=some b→b≠gy:=by
 obtain ⟨_,L,h1,_⟩:=h
 rcases h1.2.2 with ⟨rfl,_⟩|⟨g,cap,cur,rfl,_,hg,_⟩
 ·intro b e;cases e
 ·intro b e e2
  have e3:g=b:=Option.some.inj e
  unfold Row at hr
  rw [←e2,←e3,hg] at hr
  injection hr with h9
  injection h9 with _ h9
  exact absurd h9 (by decide)
theorem bytes_no {cs:List Nat} (hs:yA3 W v cs) (hr:Row W gy 37 (rvC d most len vL sd)) (hv:∃p n k,vL = .slice p n k):cs=[]∨∀b,v.ownBlock=some b→b≠gy:=by
 by_cases q:cs=[]
 ·exact Or.inl q
 refine Or.inr fun b e e2 => ?_
 obtain ⟨p,cap,rfl,_,h⟩:=hs
 rcases h with h|⟨b2,off,rfl,h⟩
 ·exact q h
 have e3:b2=b:=Option.some.inj e
 have h1:=h.1 0 (by cases cs <;> simp_all)
 rw [e3,e2] at h1
 obtain ⟨p2,n2,k2,rfl⟩:=hv
 unfold Row at hr
 unfold World.cell? at h1
 simp only [hr] at h1
 obtain ⟨i,hi⟩:∃i,i=off+0:=⟨_,rfl⟩
 rw [←hi] at h1
 unfold rvC at h1
 rcases i with _|_|_|_|_|i <;> simp at h1
theorem TdIn.one {S:Nat→Prop} (h:TdIn B t gv c W v l) (hc:Ch S W W') (hv:∀b,v.ownBlock=some b→¬ S b) (hb:∀vb cs,yA3 W vb cs→cs=[]∨∀b,vb.ownBlock=some b→¬ S b):TdIn B t gv c W' v l:=by
 obtain ⟨h0,L,h1,h2,h3⟩:=h
 refine ⟨fun b e => ?_,L,h1.keep hc hv,h2,fun k hk => ?_⟩
 ·have k:=h0 b e
  exact ⟨Nat.lt_of_lt_of_le k.1 hc.size,k.2⟩
 ·obtain ⟨vb,e,k1,k2⟩:=h3 k hk
  exact ⟨vb,e,k1.own hc (hb vb _ k1.1),k2⟩
theorem TdIn.own37 (h:TdIn B t gv c W v l) (hr:Row W gy 37 (rvC d most len vL sd)) (hv:∃p n k,vL = .slice p n k) (hc:Ch (· = gy) W W'):TdIn B t gv c W' v l :=
 h.one hc (fun b e e2=>h.no hr b e e2) fun _ _ hs=>bytes_no hs hr hv
theorem TdIn.no40 (h:TdIn B t gv c W v l) {cs:List Value} {q:Nat} (hr:Row W q 40 cs):∀b,v.ownBlock=some b→b≠q:=by
 obtain ⟨_,L,h1,_⟩:=h
 rcases h1.2.2 with ⟨rfl,_⟩|⟨g,cap,cur,rfl,_,hg,_⟩
 ·intro b e;cases e
 ·intro b e e2
  have e3:g=b:=Option.some.inj e
  unfold Row at hr
  rw [←e2,←e3,hg] at hr
  injection hr with h9
  injection h9 with _ h9
  exact absurd h9 (by decide)
theorem bytes_no40 {cs:List Nat} {q:Nat} {d' a' n':Int} {bd:Bool} (hs:yA3 W v cs) (hr:Row W q 40 (plC d' a' n' bd)):cs=[]∨∀b,v.ownBlock=some b→b≠q:=by
 by_cases q9:cs=[]
 ·exact Or.inl q9
 refine Or.inr fun b e e2 => ?_
 obtain ⟨p,cap,rfl,_,h⟩:=hs
 rcases h with h|⟨b2,off,rfl,h⟩
 ·exact q9 h
 have e3:b2=b:=Option.some.inj e
 have h1:=h.1 0 (by cases cs <;> simp_all)
 rw [e3,e2] at h1
 unfold Row at hr
 unfold World.cell? at h1
 simp only [hr] at h1
 obtain ⟨i,hi⟩:∃i,i=off+0:=⟨_,rfl⟩
 rw [←hi] at h1
 unfold plC at h1
 rcases i with _|_|_|_|i <;> simp at h1
theorem sbNew {bs:List Nat} (h:BOwn W B v bs) (h2:∀x∈bs,x<256) (h3:bs.length≤9223372036854775807) (hn:∀b,B≤b→b<W.heap.size→Out t gv c W b):Sb t gv c W v bs :=
 ⟨BOwn.slice h h2 h3,Or.inr fun b e=>by have k:=hn b (h.lt b e).1 (h.lt b e).2;exact ⟨k.1,k.2.1,k.2.2.1⟩⟩
end
def AppT (w w':World) (B t gv:Nat) (c:Nat→Colour) (gy d most len:Nat) (vL:Value) (sd:Bool) (l:List Td) (id bs:List Nat) (e:Ending):Prop :=
 ∃er,er=mayT most len sd id bs∧((er≠0∧e = .returned (.tuple #[.agg (plC 0 0 0 false).toArray,.int .i64 er])∧Below w.heap.size w w') ∨
 (er=0∧∃vL',e = .returned (.tuple #[.agg (plC (d:Nat) (len:Nat) (nb bs.length:Nat) false).toArray,.int .i64 er])∧Ch (fun b=>b=gy∨vL.ownBlock=some b) w w'∧Row w' gy 37 (rvC d most (len+nb bs.length) vL' sd)∧TdIn B t gv c w' vL' (l++[⟨id,bs,d,len,nb bs.length,false⟩])))
theorem mayT_0 {most len:Nat} {sd:Bool} {id bs:List Nat} (h:mayT most len sd id bs=0):nameB id=true∧bs.length≤512∧sd=false∧nbP bs.length=nb bs.length∧len+nb bs.length+2≤most:=by
 unfold mayT at h
 split at h
 ·cases h
 ·rename_i h1
  split at h
  ·cases h
  ·rename_i h2
   have e:nbP bs.length=nb bs.length:=by unfold nbP;rw [if_pos (by omega)]
   have hp:=nb_pos bs.length
   split at h
   ·cases h
   ·rename_i h3
    split at h
    ·cases h
    ·rename_i h4
     have h5:sd=false:=by cases sd with|false=>rfl|true=>exact absurd rfl h3
     subst h5
     refine ⟨by cases hn:nameB id with|true=>rfl|false=>exact absurd hn h1,by omega,rfl,e,?_⟩
     rw [e] at h4
     unfold roomT at h4
     rw [if_neg (by decide)] at h4
     omega
set_option maxHeartbeats 4000000 in
set_option maxRecDepth 100000 in
theorem rappend_any {w:World} {B t gv:Nat} {c:Nat→Colour} (gy d most len:Nat) (vL:Value) (sd:Bool) (l:List Td) (id bs:List Nat) (vb:Value) (hr:Row w gy 37 (rvC d most len vL sd)) (hT:TdIn B t gv c w vL l) (hle:len≤most) (hm:most≤4096) (hid:∀c∈id,c<256) (hb:yA3 w vb bs) (hl:l.length≤4096) (hB:B≤w.heap.size) (hnew:∀W' b,w.heap.size≤b→b<W'.heap.size→Out t gv c W' b):Calls Tryd.prog 13 #[ptr gy,str id,vb] w fun e w'=>AppT w w' B t gv c gy d most len vL sd l id bs e:=by
 obtain ⟨er,her⟩:∃z,z=mayT most len sd id bs:=⟨_,rfl⟩
 have HM:Hid (Row w gy 37 (rvC d most len vL sd)∧TdIn B t gv c w vL l∧len≤most∧most≤4096∧(∀c∈id,c<256)∧yA3 w vb bs∧l.length≤4096∧B≤w.heap.size∧(∀W' b,w.heap.size≤b→b<W'.heap.size→Out t gv c W' b)∧er=mayT most len sd id bs):=⟨hr,hT,hle,hm,hid,hb,hl,hB,hnew,her⟩
 have H0:Hid (Loc w w []):=Loc.nil (Below.refl _ _)
 clear hr hT hle hm hid hb hl hB hnew her
 obtain ⟨PQ,HPQ⟩:=exPQ fun (e:Ending) (w':World)=>AppT w w' B t gv c gy d most len vL sd l id bs e
 rw [←HPQ.out]
 go_enter Tryd.func13,Tryd.ntmps13
 go_upto_region 0 with fail
 refine wp_region_lit ?_
 refine wl rfl _ _ (yB3 ((plC 0 0 0 false)) zero40 rfl) ?_
 have k_:=H0.out.box 40 ((plC 0 0 0 false))
 obtain ⟨w1,hW_⟩:∃W,W=w.alloc (.cells ((plC 0 0 0 false)).toArray 40):=⟨_,rfl⟩
 obtain ⟨q6,hq_⟩:∃q,q=w.heap.size:=⟨_,rfl⟩
 rw [←hW_,←hq_] at k_
 rw [←hW_,←hq_]
 clear hq_
 have Rw1:Hid (Loc w w1 [(q6,40,(plC 0 0 0 false))]):=k_
 clear k_ hW_ H0
 simp only [Act.put,aS,aC,aZ]
 refine wa (.const (.int .i64 0)) (.int .i64 0) ?_
 simp only [Act.put,aS,aC,aZ]
 refine wpList_nil ?_
 go_upto_region 1 with fail
 refine wp_region_lit ?_
 refine wm 0 (ptr gy) ?_
 refine wm 1 (str id) ?_
 refine wm 2 vb ?_
 simp only [Act.put,aS,aC,aZ]
 refine yA5 eN41 [.tmp 10,.tmp 11,.tmp 12] _ rfl rfl [(ptr gy),(str id),vb] rfl ?_
 refine (rmay_any gy d most len vL sd id bs vb w1 (HM.out.1.later Rw1.out.below HM.out.1.lt) HM.out.2.2.1 HM.out.2.2.2.1 HM.out.2.2.2.2.1 (HM.out.2.2.2.2.2.1.later Rw1.out.below)).mono ?_
 rintro e w2 ⟨rfl,n2,hX⟩
 refine ⟨_,rfl,?_⟩
 have hb_:Below w1.heap.size w1 w2:=(by rw [hX];exact Below.drewN (Below.refl _ _) n2)
 have H2:Hid (Loc w w2 [(q6,40,(plC 0 0 0 false))]):=Rw1.out.later hb_
 clear hb_ hX Rw1
 rw [←HM.out.2.2.2.2.2.2.2.2.2]
 simp only [Act.put,aS,aC,aZ]
 refine wa (.tmp 13) (.int .i64 er) ?_
 simp only [Act.put,aS,aC,aZ]
 refine wpList_nil ?_
 by_cases hz:er=0
 ·go_upto_region 2 with fail
  refine wp_region_lit ?_
  refine wm 8 (.int .i64 er) ?_
  refine wl rfl _ _ (yC5 (.tmp 14) (.const (.int .i64 0)) rfl er 0 rfl rfl false (by rw [decide_eq_true hz];rfl)) ?_
  simp only [Act.put,aS,aC,aZ]
  refine wpList_nil ?_
  have h0_:=mayT_0 (HM.out.2.2.2.2.2.2.2.2.2.symm.trans hz)
  have H00:Hid (nameB id=true∧bs.length≤512∧sd=false∧nbP bs.length=nb bs.length∧len+nb bs.length+2≤most):=h0_
  have hb14:bs.length≤9223372036854775000:=(by have:=h0_.2.1;omega)
  have hnb14:nbP bs.length=nb bs.length:=h0_.2.2.2.1
  clear h0_
  go_upto_region 4 with fail
  refine wp_region_held (S:=fun X=>Row X gy 37 (rvC d most len vL sd)) (by kernel_rfl) ?_
  show wpAnyH _ _ _ _ _ 14 (Array.replicate 14 false) _ _
  obtain ⟨X,hX⟩:∃X:World,X = { w2 with drawn:=w2.drawn+1 }:=⟨_,rfl⟩
  rw [←hX]
  have HB_:Below w.heap.size w X:=(by rw [hX];exact H2.out.below.trans ⟨rfl,rfl,rfl,Nat.le_refl _,fun _ _=>rfl⟩)
  have HS_:Row X gy 37 (rvC d most len vL sd):=HM.out.1.later HB_ HM.out.1.lt
  have HQ6_:Row X q6 40 (plC 0 0 0 false):=(by rw [hX];exact (H2.out.at 0 rfl).later ⟨rfl,rfl,rfl,Nat.le_refl _,fun _ _=>rfl⟩ (H2.out.at 0 rfl).lt)
  have HG6_:w.heap.size≤q6:=H2.out.ge 0 rfl
  apply share2 (P:=fun W q=>Hid (Row W gy 37 (rvC d most len vL sd)∧Row W q 40 (plC (d:Nat) (len:Nat) (nb bs.length:Nat) false)∧Row W q6 40 (plC 0 0 0 false)∧Below w.heap.size w W∧w.heap.size≤q∧q≠q6∧w.heap.size≤q6))
  intro hG
  have hX:True:=trivial
  clear hX
  refine tH 0 18 rfl rfl (gRun rfl _ fun _ h=>yA6 (.tmp 0) rfl (ptr gy) rfl) HS_ ?_
  refine tH 1 19 rfl rfl (gRun rfl _ fun _ h=>yC1 (.tmp 18) rfl ⟨gy,0,none⟩ rfl) HS_ ?_
  refine tH 2 20 rfl rfl (gRun rfl _ fun _ h=>yA2 f37_0 (.tmp 19) rfl gy (0) rfl) HS_ ?_
  refine tH 3 21 rfl rfl (gRun rfl _ fun _ h=>yA4 o3 (.tmp 20) rfl gy (0+0) rfl (.int .i64 (d:Nat)) (h.at (0+0) _ rfl)) HS_ ?_
  refine tH 4 22 rfl rfl (gRun rfl _ fun _ h=>yA6 (.tmp 0) rfl (ptr gy) rfl) HS_ ?_
  refine tH 5 23 rfl rfl (gRun rfl _ fun _ h=>yC1 (.tmp 22) rfl ⟨gy,0,none⟩ rfl) HS_ ?_
  simp only [Act.put,aS,aC,aZ]
  refine tH 6 24 rfl rfl (gRun rfl _ fun _ h=>yA2 f37_2 (.tmp 23) rfl gy (0) rfl) HS_ ?_
  refine tH 7 25 rfl rfl (gRun rfl _ fun _ h=>yA4 o3 (.tmp 24) rfl gy (0+2) rfl (.int .i64 (len:Nat)) (h.at (0+2) _ rfl)) HS_ ?_
  refine tH 8 26 rfl rfl (gRun rfl _ fun _ h=>yA6 (.tmp 2) rfl vb rfl) HS_ ?_
  refine tH 9 27 rfl rfl (gRun rfl _ fun _ h=>yF3 HM.out.2.2.2.2.2.1 (.tmp 26) rfl rfl) HS_ ?_
  simp only [Act.put,aS,aC,aZ]
  refine twoH (i:=10) (j:=12) (by kernel_rfl) ?_ ?_
  ·refine yE0 (some 28) rfl rfl rfl 15 _ (yC0 eN15 [.tmp 27] _ rfl [(.int .i64 (bs.length:Nat))] rfl) ?_
   refine (rblocks_any bs.length hb14 X).mono ?_
   rintro e X ⟨rfl,rfl⟩
   refine ⟨_,rfl,?_⟩
   rw [hnb14]
   refine ⟨HS_,?_⟩
   simp only [Act.put,aS,aC,aZ]
   refine tH 11 29 rfl rfl (gRun rfl _ fun _ h=>yK2 (.tmp 21) (.tmp 25) (.tmp 28) rfl _ _ _ rfl rfl rfl) HS_ ?_
   simp only [Act.put,aS,aC,aZ]
   refine oneH (i:=12) (by kernel_rfl) ?_
   refine yF4 (some 9) rfl rfl rfl (ptr X.heap.size) _ (yB3 (plC 0 0 0 false) zero40 rfl) ?_
   have hb_:=yB0 X (.cells (plC 0 0 0 false).toArray 40)
   have HQ_:=Row.new X 40 (plC 0 0 0 false)
   obtain ⟨X1,hW_⟩:∃U_:World,U_=X.alloc (.cells (plC 0 0 0 false).toArray 40):=⟨_,rfl⟩
   obtain ⟨q9,hq_⟩:∃q,q=X.heap.size:=⟨_,rfl⟩
   rw [←hW_] at hb_
   rw [←hW_,←hq_] at HQ_
   rw [←hW_,←hq_]
   have HG_:w.heap.size≤q9∧q9≠q6:=⟨by rw [hq_];exact HB_.size,fun e=>by have:=HQ6_.lt;omega⟩
   replace HS_:Row X1 gy 37 (rvC d most len vL sd):=HS_.later hb_ HS_.lt
   replace HQ6_:=HQ6_.later hb_ HQ6_.lt
   replace HB_:=HB_.trans (hb_.mono HB_.size)
   clear hb_ hW_ hq_
   refine ⟨HS_,?_⟩
   simp only [Act.put,aS,aC,aZ]
   refine oneH (i:=13) (by kernel_rfl) ?_
   refine opSkipZ rfl rfl rfl _ (yD0 ag40 (.tmp 9) (.tmp 29) rfl q9 40 rfl (plC (d:Nat) (len:Nat) (nb bs.length:Nat) false) _ rfl rfl HQ_ rfl (yF7 _ _ _ _)) ?_
   have r_:=HQ_.setRow (plC (d:Nat) (len:Nat) (nb bs.length:Nat) false)
   have c_:=(Ch.setRow (S:=(· = q9)) (Ch.refl _ X1) (Or.inl rfl) (plC (d:Nat) (len:Nat) (nb bs.length:Nat) false).toArray)
   obtain ⟨X2,hW_⟩:∃U_:World,U_=X1.setRow q9 (plC (d:Nat) (len:Nat) (nb bs.length:Nat) false).toArray:=⟨_,rfl⟩
   rw [←hW_] at r_ c_ ⊢
   replace HS_:Row X2 gy 37 (rvC d most len vL sd):=c_.row (fun e=>by have:=HG_.1;have:=HM.out.1.lt;omega) HS_
   replace HQ6_:=c_.row (fun e=>HG_.2 e.symm) HQ6_
   replace HB_:=HB_.trans (c_.below HB_.size fun b hb e=>by have:=HG_.1;omega)
   clear c_ hW_
   refine ⟨HS_,?_⟩
   refine wpAnyH_done (by kernel_rfl) ?_ _
   exact hG X2 q9 ⟨HS_,r_,HQ6_,HB_,HG_.1,HG_.2,HG6_⟩
  ·refine yF4 (some 9) rfl rfl rfl (ptr X.heap.size) _ (yB3 (plC 0 0 0 false) zero40 rfl) ?_
   have hb_:=yB0 X (.cells (plC 0 0 0 false).toArray 40)
   have HQ_:=Row.new X 40 (plC 0 0 0 false)
   obtain ⟨X1,hW_⟩:∃U_:World,U_=X.alloc (.cells (plC 0 0 0 false).toArray 40):=⟨_,rfl⟩
   obtain ⟨q9,hq_⟩:∃q,q=X.heap.size:=⟨_,rfl⟩
   rw [←hW_] at hb_
   rw [←hW_,←hq_] at HQ_
   rw [←hW_,←hq_]
   have HG_:w.heap.size≤q9∧q9≠q6:=⟨by rw [hq_];exact HB_.size,fun e=>by have:=HQ6_.lt;omega⟩
   replace HS_:Row X1 gy 37 (rvC d most len vL sd):=HS_.later hb_ HS_.lt
   replace HQ6_:=HQ6_.later hb_ HQ6_.lt
   replace HB_:=HB_.trans (hb_.mono HB_.size)
   clear hb_ hW_ hq_
   refine ⟨HS_,?_⟩
   simp only [Act.put,aS,aC,aZ]
   refine oneH (i:=10) (by kernel_rfl) ?_
   refine yE0 (some 28) rfl rfl rfl 15 _ (yC0 eN15 [.tmp 27] _ rfl [(.int .i64 (bs.length:Nat))] rfl) ?_
   refine (rblocks_any bs.length hb14 X1).mono ?_
   rintro e X1 ⟨rfl,rfl⟩
   refine ⟨_,rfl,?_⟩
   rw [hnb14]
   refine ⟨HS_,?_⟩
   simp only [Act.put,aS,aC,aZ]
   refine tH 11 29 rfl rfl (gRun rfl _ fun _ h=>yK2 (.tmp 21) (.tmp 25) (.tmp 28) rfl _ _ _ rfl rfl rfl) HS_ ?_
   simp only [Act.put,aS,aC,aZ]
   refine oneH (i:=13) (by kernel_rfl) ?_
   refine opSkipZ rfl rfl rfl _ (yD0 ag40 (.tmp 9) (.tmp 29) rfl q9 40 rfl (plC (d:Nat) (len:Nat) (nb bs.length:Nat) false) _ rfl rfl HQ_ rfl (yF7 _ _ _ _)) ?_
   have r_:=HQ_.setRow (plC (d:Nat) (len:Nat) (nb bs.length:Nat) false)
   have c_:=(Ch.setRow (S:=(· = q9)) (Ch.refl _ X1) (Or.inl rfl) (plC (d:Nat) (len:Nat) (nb bs.length:Nat) false).toArray)
   obtain ⟨X2,hW_⟩:∃U_:World,U_=X1.setRow q9 (plC (d:Nat) (len:Nat) (nb bs.length:Nat) false).toArray:=⟨_,rfl⟩
   rw [←hW_] at r_ c_ ⊢
   replace HS_:Row X2 gy 37 (rvC d most len vL sd):=c_.row (fun e=>by have:=HG_.1;have:=HM.out.1.lt;omega) HS_
   replace HQ6_:=c_.row (fun e=>HG_.2 e.symm) HQ6_
   replace HB_:=HB_.trans (c_.below HB_.size fun b hb e=>by have:=HG_.1;omega)
   clear c_ hW_
   refine ⟨HS_,?_⟩
   refine wpAnyH_done (by kernel_rfl) ?_ _
   exact hG X2 q9 ⟨HS_,r_,HQ6_,HB_,HG_.1,HG_.2,HG6_⟩
  intro w5 q9 H5
  clear H2
  go_upto_region 5 with fail
  refine yG4 (S:=fun X=>Row X gy 37 (rvC d most len vL sd)∧Row X q9 40 (plC (d:Nat) (len:Nat) (nb bs.length:Nat) false)) 15 (by kernel_rfl) ?_
  show yK8 _ _ _ _ _ _ 16 (Array.replicate 16 false) _ _
  obtain ⟨Z,hX⟩:∃Z:World,Z = { w5 with drawn:=w5.drawn+1 }:=⟨_,rfl⟩
  rw [←hX]
  have HB_:Below w.heap.size w Z:=(by rw [hX];exact H5.out.2.2.2.1.trans ⟨rfl,rfl,rfl,Nat.le_refl _,fun _ _=>rfl⟩)
  have HS_:Row Z gy 37 (rvC d most len vL sd)∧Row Z q9 40 (plC (d:Nat) (len:Nat) (nb bs.length:Nat) false):=(by rw [hX];exact ⟨H5.out.1.later ⟨rfl,rfl,rfl,Nat.le_refl _,fun _ _=>rfl⟩ H5.out.1.lt,H5.out.2.1.later ⟨rfl,rfl,rfl,Nat.le_refl _,fun _ _=>rfl⟩ H5.out.2.1.lt⟩)
  have HQ6_:Row Z q6 40 (plC 0 0 0 false):=(by rw [hX];exact H5.out.2.2.1.later ⟨rfl,rfl,rfl,Nat.le_refl _,fun _ _=>rfl⟩ H5.out.2.2.1.lt)
  clear hX
  refine tV 0 [15] 30 rfl rfl (gRun rfl _ fun _ h=>yA6 (.tmp 0) rfl (ptr gy) rfl) HS_ ?_
  refine tV 1 [15] 31 rfl rfl (gRun rfl _ fun _ h=>yA6 (.tmp 0) rfl (ptr gy) rfl) HS_ ?_
  refine tV 2 [15] 32 rfl rfl (gRun rfl _ fun _ h=>yC1 (.tmp 31) rfl ⟨gy,0,none⟩ rfl) HS_ ?_
  refine tV 3 [15] 33 rfl rfl (gRun rfl _ fun _ h=>yA2 f37_3 (.tmp 32) rfl gy (0) rfl) HS_ ?_
  refine tV 4 [15] 34 rfl rfl (gRun rfl _ fun _ h=>yA4 o35 (.tmp 33) rfl gy (0+3) rfl vL (h.1.at (0+3) _ rfl)) HS_ ?_
  refine tV 5 [15] 35 rfl rfl (gRun rfl _ fun _ h=>yA6 (.tmp 1) rfl (str id) rfl) HS_ ?_
  simp only [Act.put,aS,aC,aZ]
  refine tV 7 [15] 37 rfl rfl (gRun rfl _ fun _ h=>yA6 (.tmp 2) rfl vb rfl) HS_ ?_
  refine tV 9 [15] 39 rfl rfl (gRun rfl _ fun _ h=>yA9 ag40 (.tmp 9) rfl q9 (0) rfl ((plC (d:Nat) (len:Nat) (nb bs.length:Nat) false)) rfl (yE7 h.2)) HS_ ?_
  simp only [Act.put,aS,aC,aZ]
  refine oneU (i:=6) (by kernel_rfl) ?_
  refine yF4 (some 36) rfl rfl rfl (.slice (some ⟨Z.heap.size,0,none⟩) 0 0) _ (run_lit38 rfl) ?_
  have hb_:=yB0 Z (.cells #[] 5)
  have ho_:=BOwn.new Z Z.heap.size (Nat.le_refl _)
  have hz_:w.heap.size≤Z.heap.size∧gy<Z.heap.size∧q9<Z.heap.size∧q6<Z.heap.size:=⟨HB_.size,HS_.1.lt,HS_.2.lt,HQ6_.lt⟩
  obtain ⟨zs,hzs_⟩:∃z,z=Z.heap.size:=⟨_,rfl⟩
  obtain ⟨Z1,hW_⟩:∃U_:World,U_=Z.alloc (.cells #[] 5):=⟨_,rfl⟩
  obtain ⟨vz,hv_⟩:∃v:Value,v = .slice (some ⟨Z.heap.size,0,none⟩) 0 0:=⟨_,rfl⟩
  rw [←hW_] at hb_ ho_ ⊢
  rw [←hv_] at ho_ ⊢
  have hzz_:zs≤Z1.heap.size:=(by rw [hzs_];exact hb_.size)
  rw [←hzs_] at hb_ ho_ hz_
  clear hW_ hv_ hzs_
  have HZ:Hid (w.heap.size≤zs∧gy<zs∧q9<zs∧q6<zs):=hz_
  clear hz_
  replace HS_:Row Z1 gy 37 (rvC d most len vL sd)∧Row Z1 q9 40 (plC (d:Nat) (len:Nat) (nb bs.length:Nat) false):=⟨HS_.1.later hb_ HZ.out.2.1,HS_.2.later hb_ HZ.out.2.2.1⟩
  replace HQ6_:=HQ6_.later hb_ HZ.out.2.2.2
  replace HB_:=HB_.trans (hb_.mono HZ.out.1)
  clear hb_
  refine ⟨fun _=>HS_,?_⟩
  simp only [Act.put,aS,aC,aZ]
  have hvb_:=HM.out.2.2.2.2.2.1.later HB_
  obtain ⟨v9,Z2,hr_,ho2_,hb_⟩:=run_bappU zs vz vb [] bs ho_ hvb_ (by have:=H00.out.2.1;simp only [List.length_nil];omega) hzz_
  refine oneU (i:=8) (by kernel_rfl) ?_
  refine yF4 (some 38) rfl rfl rfl v9 Z2 (yH8 (.tmp 36) (.tmp 37) rfl _ _ _ rfl rfl hr_) ?_
  rw [List.nil_append] at ho2_
  have HZ2:Hid (BOwn Z2 zs v9 bs∧yA3 Z2 v9 bs):=⟨ho2_,BOwn.slice ho2_ (yA3.lt256 hvb_) (by have:=H00.out.2.1;omega)⟩
  replace HS_:Row Z2 gy 37 (rvC d most len vL sd)∧Row Z2 q9 40 (plC (d:Nat) (len:Nat) (nb bs.length:Nat) false):=⟨HS_.1.later hb_ HZ.out.2.1,HS_.2.later hb_ HZ.out.2.2.1⟩
  replace HQ6_:=HQ6_.later hb_ HZ.out.2.2.2
  replace HB_:=HB_.trans (hb_.mono HZ.out.1)
  skip
  clear hb_ ho_ ho2_ hr_ hvb_ hzz_
  refine ⟨fun _=>HS_,?_⟩
  simp only [Act.put,aS,aC,aZ]
  refine tV 10 [15] 40 rfl rfl (gRun rfl _ fun _ h=>run_build48 (.tmp 35) (.tmp 38) (.tmp 39) rfl (⟨id,bs,d,len,nb bs.length,false⟩:Td) rfl v9 HZ2.out.2 rfl rfl rfl) HS_ ?_
  simp only [Act.put,aS,aC,aZ]
  refine oneU (i:=11) (by kernel_rfl) ?_
  refine yF4 (some 41) rfl rfl rfl (.slice (some ⟨Z2.heap.size,0,none⟩) 1 1) _ (run_litC el35 (tdC (⟨id,bs,d,len,nb bs.length,false⟩:Td) v9) (tdC_is (⟨id,bs,d,len,nb bs.length,false⟩:Td) HZ2.out.2).1 (.tmp 40) rfl rfl) ?_
  have hb_:=yB0 Z2 (.cells (tdC (⟨id,bs,d,len,nb bs.length,false⟩:Td) v9).toArray 48)
  have hg_:=Row.new Z2 48 (tdC (⟨id,bs,d,len,nb bs.length,false⟩:Td) v9)
  obtain ⟨g3,hq_⟩:∃q,q=Z2.heap.size:=⟨_,rfl⟩
  obtain ⟨Z3,hW_⟩:∃U_:World,U_=Z2.alloc (.cells (tdC (⟨id,bs,d,len,nb bs.length,false⟩:Td) v9).toArray 48):=⟨_,rfl⟩
  rw [←hW_] at hb_
  rw [←hW_,←hq_] at hg_
  rw [←hW_,←hq_]
  have HZ3:Hid (Row Z3 g3 48 (tdC (⟨id,bs,d,len,nb bs.length,false⟩:Td) v9)∧BOwn Z3 zs v9 bs∧yA3 Z3 v9 bs):=⟨hg_,yI7 HZ2.out.1 hb_,HZ2.out.2.later hb_⟩
  replace HS_:Row Z3 gy 37 (rvC d most len vL sd)∧Row Z3 q9 40 (plC (d:Nat) (len:Nat) (nb bs.length:Nat) false):=⟨HS_.1.later hb_ HS_.1.lt,HS_.2.later hb_ HS_.2.lt⟩
  replace HQ6_:=HQ6_.later hb_ HQ6_.lt
  replace HB_:=HB_.trans (hb_.mono HB_.size)
  clear hb_ hg_ hq_ hW_ HZ2
  refine ⟨fun _=>HS_,?_⟩
  simp only [Act.put,aS,aC,aZ]
  have ht_:=HM.out.2.1.sq (Sq.bel c HB_)
  have hsb_:Sb t gv c Z3 v9 bs:=sbNew HZ3.out.2.1 (yA3.lt256 HZ3.out.2.2) (by have:=H00.out.2.1;omega) (fun b h1 h2=>HM.out.2.2.2.2.2.2.2.2.1 Z3 b (Nat.le_trans HZ.out.1 h1) h2)
  obtain ⟨v4,Z4,hr_,ho_,hc_,_⟩:=ht_.snoc (⟨id,bs,d,len,nb bs.length,false⟩:Td) v9 g3 hsb_ (Or.inr fun b e e2=>by have:=(HM.out.2.1.1 b e2).1;have:=(HZ3.out.2.1.lt b e).1;have:=HZ.out.1;omega) (fun j u hu=>HZ3.out.1.at j u hu) (by have:=HM.out.2.2.2.2.2.2.1;omega) (Nat.le_trans HM.out.2.2.2.2.2.2.2.1 HB_.size) (fun W9 h9=>HM.out.2.2.2.2.2.2.2.2.1 W9 _ HB_.size h9)
  refine oneU (i:=12) (by kernel_rfl) ?_
  refine yF4 (some 42) rfl rfl rfl v4 Z4 (yH8 (.tmp 34) (.tmp 41) rfl _ _ _ rfl rfl hr_) ?_
  have hno_:∀q,w.heap.size≤q→¬ vL.ownBlock=some q:=fun q hq e=>by have:=(HM.out.2.1.1 q e).1;omega
  replace HS_:Row Z4 gy 37 (rvC d most len vL sd)∧Row Z4 q9 40 (plC (d:Nat) (len:Nat) (nb bs.length:Nat) false):=⟨hc_.row (fun e=>ht_.no HS_.1 gy e rfl) HS_.1,hc_.row (hno_ q9 H5.out.2.2.2.2.1) HS_.2⟩
  replace HQ6_:=hc_.row (hno_ q6 H5.out.2.2.2.2.2.2) HQ6_
  have HC4:Ch (fun b=>b=gy∨vL.ownBlock=some b) w Z4:=(Ch.of_below HB_).trans' hc_ (fun b _ e=>Or.inr e)
  have HT4:Hid (TdIn B t gv c Z4 v4 (l++[(⟨id,bs,d,len,nb bs.length,false⟩:Td)])):=ho_
  clear ht_ hsb_ hr_ ho_ hc_ hno_ HB_ HZ3
  refine ⟨fun _=>HS_,?_⟩
  simp only [Act.put,aS,aC,aZ]
  refine tV 13 [14,15] 43 rfl rfl (gRun rfl _ fun _ h=>yC1 (.tmp 30) rfl ⟨gy,0,none⟩ rfl) HS_ ?_
  refine tV 14 [15] 44 rfl rfl (gRun rfl _ fun _ h=>yA2 f37_3 (.tmp 43) rfl gy (0) rfl) HS_ ?_
  simp only [Act.put,aS,aC,aZ]
  refine oneU (i:=15) (by kernel_rfl) ?_
  refine opSkipZ rfl rfl rfl _ (yH1 (t:=35) sz35 (.tmp 44) (.tmp 42) rfl gy (0+3) 37 (rvC d most len vL sd) rfl v4 rfl HT4.out.cell.1 HS_.1 (show 3<5 by decide)) ?_
  have r_:=yJ4 (i:=0+3) HS_.1 v4
  have c_:=(Ch.refl (· = gy) Z4).setCell (g:=gy) (Or.inl rfl) (0+3) v4
  obtain ⟨Z5,hW_⟩:∃U_:World,U_=Z4.setCell ⟨gy,0+3,none⟩ v4:=⟨_,rfl⟩
  rw [←hW_] at r_ c_ ⊢
  have r2_:Row Z5 gy 37 (rvC d most len v4 sd):=r_
  have H6:Hid (Row Z5 gy 37 (rvC d most len v4 sd)∧Row Z5 q9 40 (plC (d:Nat) (len:Nat) (nb bs.length:Nat) false)∧Row Z5 q6 40 (plC 0 0 0 false)∧Ch (fun b=>b=gy∨vL.ownBlock=some b) w Z5∧TdIn B t gv c Z5 v4 (l++[(⟨id,bs,d,len,nb bs.length,false⟩:Td)])):=⟨r2_,c_.row (fun e=>by have:=H5.out.2.2.2.2.1;have:=HM.out.1.lt;omega) HS_.2,c_.row (fun e=>by have:=H5.out.2.2.2.2.2.2;have:=HM.out.1.lt;omega) HQ6_,HC4.trans' c_ (fun b _ e=>Or.inl e),HT4.out.own37 HS_.1 HM.out.2.1.cell.2 c_⟩
  clear r_ r2_ c_ hW_ HC4 HT4 HQ6_ HS_
  refine ⟨fun h=>absurd (show true=false from h) (by decide),?_⟩
  refine yK1 (by kernel_rfl) ?_ _
  go_upto_region 6 with fail
  refine yG4 (S:=fun X=>Row X gy 37 (rvC d most len v4 sd)∧Row X q9 40 (plC (d:Nat) (len:Nat) (nb bs.length:Nat) false)) 10 (by kernel_rfl) ?_
  show yK8 _ _ _ _ _ _ 11 (Array.replicate 11 false) _ _
  obtain ⟨Y,hX⟩:∃Y:World,Y = { Z5 with drawn:=Z5.drawn+1 }:=⟨_,rfl⟩
  rw [←hX]
  have hb_:Below Z5.heap.size Z5 Y:=(by rw [hX];exact ⟨rfl,rfl,rfl,Nat.le_refl _,fun _ _=>rfl⟩)
  have HS_:Row Y gy 37 (rvC d most len v4 sd)∧Row Y q9 40 (plC (d:Nat) (len:Nat) (nb bs.length:Nat) false):=⟨H6.out.1.later hb_ H6.out.1.lt,H6.out.2.1.later hb_ H6.out.2.1.lt⟩
  have HQ6_:Row Y q6 40 (plC 0 0 0 false):=H6.out.2.2.1.later hb_ H6.out.2.2.1.lt
  have HC6:Ch (fun b=>b=gy∨vL.ownBlock=some b) w Y:=H6.out.2.2.2.1.trans' (Ch.of_below (S:=fun _=>False) hb_) (fun _ _ e=>e.elim)
  have HT6:Hid (TdIn B t gv c Y v4 (l++[(⟨id,bs,d,len,nb bs.length,false⟩:Td)])):=H6.out.2.2.2.2.sq (Sq.bel c hb_)
  clear hb_
  clear hX
  refine tV 0 [10] 45 rfl rfl (gRun rfl _ fun _ h=>yA6 (.tmp 0) rfl (ptr gy) rfl) HS_ ?_
  refine tV 1 [10] 46 rfl rfl (gRun rfl _ fun _ h=>yA6 (.tmp 0) rfl (ptr gy) rfl) HS_ ?_
  refine tV 2 [10] 47 rfl rfl (gRun rfl _ fun _ h=>yC1 (.tmp 46) rfl ⟨gy,0,none⟩ rfl) HS_ ?_
  refine tV 3 [10] 48 rfl rfl (gRun rfl _ fun _ h=>yA2 f37_2 (.tmp 47) rfl gy (0) rfl) HS_ ?_
  refine tV 4 [10] 49 rfl rfl (gRun rfl _ fun _ h=>yA4 o3 (.tmp 48) rfl gy (0+2) rfl (.int .i64 (len:Nat)) (h.1.at (0+2) _ rfl)) HS_ ?_
  refine tV 5 [10] 50 rfl rfl (gRun rfl _ fun _ h=>yA2 f40_2 (.tmp 9) rfl q9 (0) rfl) HS_ ?_
  simp only [Act.put,aS,aC,aZ]
  refine tV 6 [10] 51 rfl rfl (gRun rfl _ fun _ h=>yA4 o3 (.tmp 50) rfl q9 (0+2) rfl (.int .i64 (nb bs.length:Nat)) (h.2.at (0+2) _ rfl)) HS_ ?_
  refine tV 7 [10] 52 rfl rfl (gRun rfl (.int .i64 ((len+nb bs.length:Nat):Int)) fun _ h=>yD6 (.tmp 49) (.tmp 51) rfl (len:Nat) (nb bs.length:Nat) _ rfl rfl (by omega) (by omega) (by have:=H00.out.2.2.2.2;have:=HM.out.2.2.2.1;omega)) HS_ ?_
  refine tV 8 [9,10] 53 rfl rfl (gRun rfl _ fun _ h=>yC1 (.tmp 45) rfl ⟨gy,0,none⟩ rfl) HS_ ?_
  refine tV 9 [10] 54 rfl rfl (gRun rfl _ fun _ h=>yA2 f37_2 (.tmp 53) rfl gy (0) rfl) HS_ ?_
  simp only [Act.put,aS,aC,aZ]
  refine oneU (i:=10) (by kernel_rfl) ?_
  refine opSkipZ rfl rfl rfl _ (yH1 (t:=3) sz3p (.tmp 54) (.tmp 52) rfl gy (0+2) 37 (rvC d most len v4 sd) rfl (.int .i64 ((len+nb bs.length:Nat):Int)) rfl ⟨rfl,rfl⟩ HS_.1 (show 2<5 by decide)) ?_
  have r_:=yJ4 (i:=0+2) HS_.1 (.int .i64 ((len+nb bs.length:Nat):Int))
  have c_:=(Ch.refl (· = gy) Y).setCell (g:=gy) (Or.inl rfl) (0+2) (.int .i64 ((len+nb bs.length:Nat):Int))
  obtain ⟨Y2,hW_⟩:∃U_:World,U_=Y.setCell ⟨gy,0+2,none⟩ (.int .i64 ((len+nb bs.length:Nat):Int)):=⟨_,rfl⟩
  rw [←hW_] at r_ c_ ⊢
  have r2_:Row Y2 gy 37 (rvC d most (len+nb bs.length) v4 sd):=r_
  have H7:Hid (Row Y2 gy 37 (rvC d most (len+nb bs.length) v4 sd)∧Row Y2 q9 40 (plC (d:Nat) (len:Nat) (nb bs.length:Nat) false)∧Row Y2 q6 40 (plC 0 0 0 false)∧Ch (fun b=>b=gy∨vL.ownBlock=some b) w Y2∧TdIn B t gv c Y2 v4 (l++[(⟨id,bs,d,len,nb bs.length,false⟩:Td)])):=⟨r2_,c_.row (fun e=>by have:=H5.out.2.2.2.2.1;have:=HM.out.1.lt;omega) HS_.2,c_.row (fun e=>by have:=H5.out.2.2.2.2.2.2;have:=HM.out.1.lt;omega) HQ6_,HC6.trans' c_ (fun b _ e=>Or.inl e),HT6.out.own37 HS_.1 HT6.out.cell.2 c_⟩
  clear r_ r2_ c_ hW_ HC6 HT6 HQ6_ HS_ H6
  refine ⟨fun h=>absurd (show true=false from h) (by decide),?_⟩
  refine yK1 (by kernel_rfl) ?_ _
  go_upto_region 7 with fail
  refine wp_region_lit ?_
  refine wl rfl _ _ (yA9 ag40 (.tmp 9) rfl q9 (0) rfl ((plC (d:Nat) (len:Nat) (nb bs.length:Nat) false)) rfl (yE7 H7.out.2.1)) ?_
  simp only [Act.put,aS,aC,aZ]
  refine wlS rfl rfl _ (yD0 ag40 (.tmp 6) (.tmp 55) rfl q6 40 rfl (plC (d:Nat) (len:Nat) (nb bs.length:Nat) false) _ rfl rfl H7.out.2.2.1 rfl (yF7 _ _ _ _)) ?_
  have r_:=H7.out.2.2.1.setRow (plC (d:Nat) (len:Nat) (nb bs.length:Nat) false)
  have c_:=(Ch.setRow (S:=(· = q6)) (Ch.refl _ Y2) (Or.inl rfl) (plC (d:Nat) (len:Nat) (nb bs.length:Nat) false).toArray)
  have c2_:=H7.out.2.2.2.1.setRow (g:=q6) (Or.inr H5.out.2.2.2.2.2.2) (plC (d:Nat) (len:Nat) (nb bs.length:Nat) false).toArray
  obtain ⟨Y3,hW_⟩:∃U_:World,U_=Y2.setRow q6 (plC (d:Nat) (len:Nat) (nb bs.length:Nat) false).toArray:=⟨_,rfl⟩
  rw [←hW_] at r_ c_ c2_ ⊢
  have H8:Hid (Row Y3 q6 40 (plC (d:Nat) (len:Nat) (nb bs.length:Nat) false)∧Ch (fun b=>b=gy∨vL.ownBlock=some b) w Y3∧Row Y3 gy 37 (rvC d most (len+nb bs.length) v4 sd)∧TdIn B t gv c Y3 v4 (l++[(⟨id,bs,d,len,nb bs.length,false⟩:Td)])):=⟨r_,c2_,c_.row (fun e=>by have:=H5.out.2.2.2.2.2.2;have:=HM.out.1.lt;omega) H7.out.1,H7.out.2.2.2.2.one c_ (fun b e e2=>H7.out.2.2.2.2.no40 H7.out.2.2.1 b e e2) (fun _ _ hs=>bytes_no40 hs H7.out.2.2.1)⟩
  clear r_ c_ c2_ hW_ H7
  refine wa (.const (.int .i64 0)) (.int .i64 0) ?_
  simp only [Act.put,aS,aC,aZ]
  refine wpList_nil ?_
  go_wp2_with fail
  exact bodyPost_ret (yC6 ag40 Tryd.results13 _ _ q6 40 rfl (plC (d:Nat) (len:Nat) (nb bs.length:Nat) false) rfl H8.out.1 (.int .i64 0) rfl) rfl (by rw [HPQ.out];exact ⟨er,HM.out.2.2.2.2.2.2.2.2.2,Or.inr ⟨hz,v4,by rw [hz],H8.out.2.1,H8.out.2.2.1,H8.out.2.2.2⟩⟩)
 ·go_upto_region 2 with fail
  refine wp_region_lit ?_
  refine wm 8 (.int .i64 er) ?_
  refine wl rfl _ _ (yC5 (.tmp 14) (.const (.int .i64 0)) rfl er 0 rfl rfl true (by rw [decide_eq_false hz];rfl)) ?_
  simp only [Act.put,aS,aC,aZ]
  refine wpList_nil ?_
  go_upto_region 3 with fail
  refine wp_region_lit ?_
  refine wl rfl _ _ (yK5 rfl) ?_
  refine wm 8 (.int .i64 er) ?_
  simp only [Act.put,aS,aC,aZ]
  refine wlS rfl rfl _ (yB6 ag40 (.tmp 6) (.tmp 16) rfl H2.out 0 rfl (0) rfl ((plC 0 0 0 false)) rfl rfl (by decide) (yF7 _ _ _ _)).1 ?_
  have k_:=H2.out.lay 0 rfl (0) ((plC 0 0 0 false))
  rw [yB7 (plC 0 0 0 false) (plC 0 0 0 false) rfl] at k_ ⊢
  obtain ⟨w9,hW_⟩:∃W,W=w2.setRow q6 ((plC 0 0 0 false)).toArray:=⟨_,rfl⟩
  rw [←hW_] at k_ ⊢
  have Rw9:Hid (Loc w w9 [(q6,40,(plC 0 0 0 false))]):=k_
  clear k_ hW_ H2
  refine wa (.tmp 17) (.int .i64 er) ?_
  simp only [Act.put,aS,aC,aZ]
  refine wpList_nil ?_
  go_wp2_with fail
  exact bodyPost_ret (yC6 ag40 Tryd.results13 _ _ q6 40 rfl (plC 0 0 0 false) rfl (Rw9.out.at 0 rfl) (.int .i64 er) rfl) rfl (by rw [HPQ.out];exact ⟨er,HM.out.2.2.2.2.2.2.2.2.2,Or.inl ⟨hz,rfl,Rw9.out.below⟩⟩)
end Go.Proofs.YtpkkkkomdblpoaaDoor

namespace Go.Proofs.YtpkkkkomdblpoaaDoor
open Go.RowKit Go.Maps
open Cold
def leafT (t:Td):List Nat:=Sh.Tree.leaf (t.id++t.bs)
def rootT (l:List Td):List Nat:=Sh.Tree.root (l.map leafT)
theorem leafT_is (t:Td):(leafT t).length=32∧∀c∈leafT t,c<256:=Sh.leaf_isH _
theorem leafT_all (l:List Td):Sh.AllH (l.map leafT):=fun h hh=>by
 obtain ⟨o,_,rfl⟩:=List.mem_map.1 hh
 exact leafT_is o
theorem rootT_is (l:List Td):(rootT l).length=32∧∀c∈rootT l,c<256:=(leafT_all l).root
theorem rootT_of (d:Nat) (os:List Ob):rootT (tdsOf d os)=rootO os:=by
 unfold rootT rootO
 congr 1
 apply List.ext_getElem
 ·simp [tdsOf]
 ·intro k h1 h2
  have hk:k<os.length:=by simpa [tdsOf] using h1
  simp [tdsOf,tdAt,leafT,leafO,hk]
theorem leafs_succ (l:List Td) (k:Nat) (h:k<l.length):(l.take (k+1)).map leafT=(l.take k).map leafT++[leafT (l.getD k default)]:=by
 rw [List.take_succ_eq_append_getElem h,List.map_append]
 simp [h]
set_option maxHeartbeats 4000000 in
set_option maxRecDepth 100000 in
theorem rroot_any {w:World} {B t gv:Nat} {c:Nat→Colour} (gy d most len:Nat) (vL:Value) (sd:Bool) (l:List Td) (hr:Row w gy 37 (rvC d most len vL sd)) (hT:TdIn B t gv c w vL l) (hsz:l.length≤1000000) (hok:∀k,k<l.length→nameB (l.getD k default).id=true∧(l.getD k default).bs.length≤512):Calls Tryd.prog 25 #[ptr gy] w fun e w'=>e = .returned (av (rootT l))∧Below w.heap.size w w':=by
 obtain ⟨n,hn⟩:∃n,n=l.length:=⟨_,rfl⟩
 obtain ⟨_,M,hM1,hM2,hM3⟩:=hT
 have HM:Hid (Row w gy 37 (rvC d most len vL sd)∧COwn 48 7 w B vL M∧M.length=n∧n=l.length∧(∀k,k<n→∃vb,M.getD k []=tdC (l.getD k default) vb∧yA3 w vb (l.getD k default).bs)∧(∀k,k<n→nameB (l.getD k default).id=true∧(l.getD k default).bs.length≤512)):=⟨hr,hM1,by rw [hM2,hn],hn,fun k hk=>(by obtain ⟨vb,e,h,_⟩:=hM3 k (by rw [←hn];exact hk);exact ⟨vb,e,h.1⟩),fun k hk=>hok k (by rw [←hn];exact hk)⟩
 rw [←hn] at hsz
 clear hr hM1 hM2 hM3 hok hn
 have H0:Hid (Loc w w []):=Loc.nil (Below.refl _ _)
 obtain ⟨PQ,HPQ⟩:=exPQ fun (e:Ending) (w':World)=>e = .returned (av (rootT l))∧Below w.heap.size w w'
 rw [←HPQ.out]
 go_enter Tryd.func25,Tryd.ntmps25
 go_upto_region 0 with fail
 refine wp_region_lit ?_
 refine wl rfl _ _ (yB3 ((yA0 (Zs 32))) zero52 rfl) ?_
 have k_:=H0.out.box 52 ((yA0 (Zs 32)))
 obtain ⟨w1,hW_⟩:∃W,W=w.alloc (.cells ((yA0 (Zs 32))).toArray 52):=⟨_,rfl⟩
 obtain ⟨q2,hq_⟩:∃q,q=w.heap.size:=⟨_,rfl⟩
 rw [←hW_,←hq_] at k_
 rw [←hW_,←hq_]
 clear hq_
 have Rw1:Hid (Loc w w1 [(q2,52,(yA0 (Zs 32)))]):=k_
 clear k_ hW_ H0
 simp only [Act.put,aS,aC,aZ]
 refine wpList_nil ?_
 go_upto_region 1 with fail
 refine wp_region_lit ?_
 refine wa (.const (.slice none 0 0)) (.slice none 0 0) ?_
 simp only [Act.put,aS,aC,aZ]
 refine wpList_nil ?_
 go_upto_region 2 with fail
 refine wp_region_lit ?_
 refine wa (.const (.int .i64 0)) (.int .i64 0) ?_
 simp only [Act.put,aS,aC,aZ]
 refine wpList_nil ?_
 have HGE:Hid (w.heap.size≤q2):=Rw1.out.ge 0 rfl
 have HW:Hid (Below w.heap.size w w1∧Row w1 q2 52 (yA0 (Zs 32))):=⟨Rw1.out.below,Rw1.out.at 0 rfl⟩
 clear Rw1
 go_wp2_with fail
 go_loopw [3,4,5] (fun v3 vk _ W => ∃k:Nat,vk = .int .i64 (k:Nat)∧k≤n∧Hid (Below w1.heap.size w1 W∧AOwn 52 32 W w1.heap.size v3 ((l.take k).map leafT))) (fun _ vk _ _=>n - (intOf vk).toNat)
 case atStart=>exact ⟨0,rfl,Nat.zero_le _,Below.refl _ _,AOwn.nil _ _ _ _⟩
 case round =>
  obtain ⟨k,rfl,hk,HI⟩:=hrel
  obtain ⟨W0,hW0⟩:∃X,X=wr:=⟨_,rfl⟩
  subst hW0
  have HBW:Hid (Below w.heap.size w W0):=HW.out.1.trans (HI.out.1.mono HW.out.1.size)
  by_cases hlt:k<n
  ·go_upto_region 3 with fail
   refine wp_region_lit ?_
   refine wm 4 (.int .i64 (k:Nat)) ?_
   refine wm 0 (ptr gy) ?_
   refine wl rfl _ _ (yC1 (.tmp 7) rfl ⟨gy,0,none⟩ rfl) ?_
   refine wl rfl _ _ (yA2 f37_3 (.tmp 8) rfl gy (0) rfl) ?_
   refine wl rfl _ _ (yA4 o35 (.tmp 9) rfl gy (0+3) rfl vL ((HM.out.1.later HBW.out HM.out.1.lt).at (0+3) _ rfl)) ?_
   refine wl rfl (.int .i64 (n:Nat)) _ ((by rw [←HM.out.2.2.1];exact yJ1 el35 HM.out.2.1 (.tmp 10) rfl rfl)) ?_
   simp only [Act.put,aS,aC,aZ]
   refine wl rfl _ _ (yB5 (.tmp 6) (.tmp 11) rfl (k:Nat) (n:Nat) rfl rfl true (decide_eq_true (by omega))) ?_
   simp only [Act.put,aS,aC,aZ]
   refine wpList_nil ?_
   obtain ⟨vb,hMk,hsl⟩:=HM.out.2.2.2.2.1 k hlt
   obtain ⟨g2,_,_,hx2_,hc2_⟩:=HM.out.2.1.ix el35 k (by rw [HM.out.2.2.1];exact hlt)
   rw [hMk] at hc2_
   have hok:=HM.out.2.2.2.2.2 k hlt
   obtain ⟨td,htd⟩:∃x,x=l.getD k default:=⟨_,rfl⟩
   rw [←htd] at hc2_ hsl hok
   have HX:Hid ((∀w',(Instr.indexAt 35 vL (.int .i64 (k:Nat))).run Tryd.prog w' = .ok (.pointer (some ⟨g2,k * 7,none⟩)) w')∧(∀W':World,Below w.heap.size w W'→∀j u,(tdC td vb)[j]? = some u→W'.cell? ⟨g2,k * 7+j,none⟩=some u)∧yA3 w vb td.bs∧(nameB td.id=true∧td.bs.length≤512)∧td=l.getD k default):=⟨hx2_,fun W' hb=>hc2_ W' ⟨HM.out.2.1.1,yI7 HM.out.2.1.2 hb⟩,hsl,hok,htd⟩
   clear hx2_ hc2_ hsl hok hMk htd
   go_upto_region 5 with fail
   refine wp_region_held (S:=fun X=>Below w.heap.size w X) (by kernel_rfl) ?_
   show wpAnyH _ _ _ _ _ 19 (Array.replicate 19 false) _ _
   obtain ⟨X,hX⟩:∃X:World,X = { W0 with drawn:=W0.drawn+1 }:=⟨_,rfl⟩
   rw [←hX]
   have HS_:Below w.heap.size w X:=(by rw [hX];exact HBW.out.trans ⟨rfl,rfl,rfl,Nat.le_refl _,fun _ _=>rfl⟩)
   have HB0:Hid (Below w.heap.size w X):=HS_
   have HK:Hid (Below w1.heap.size w1 X∧AOwn 52 32 X w1.heap.size u3 ((l.take k).map leafT)):=(by rw [hX];exact ⟨HI.out.1.trans ⟨rfl,rfl,rfl,Nat.le_refl _,fun _ _=>rfl⟩,HI.out.2.later ⟨rfl,rfl,rfl,Nat.le_refl _,fun _ _=>rfl⟩⟩)
   clear hX
   refine tH 0 15 rfl rfl (gRun rfl _ fun _ h=>yA6 (.tmp 0) rfl (ptr gy) rfl) HS_ ?_
   refine tH 1 16 rfl rfl (gRun rfl _ fun _ h=>yC1 (.tmp 15) rfl ⟨gy,0,none⟩ rfl) HS_ ?_
   refine tH 2 17 rfl rfl (gRun rfl _ fun _ h=>yA2 f37_3 (.tmp 16) rfl gy (0) rfl) HS_ ?_
   refine tH 3 18 rfl rfl (gRun rfl _ fun _ h=>yA4 o35 (.tmp 17) rfl gy (0+3) rfl vL ((HM.out.1.later h HM.out.1.lt).at (0+3) _ rfl)) HS_ ?_
   refine tH 4 19 rfl rfl (gRun rfl _ fun _ h=>yA6 (.tmp 4) rfl (.int .i64 (k:Nat)) rfl) HS_ ?_
   refine tH 5 20 rfl rfl (gRun rfl _ fun _ h=>yE9 (.tmp 18) (.tmp 19) rfl _ _ _ rfl rfl HX.out.1) HS_ ?_
   simp only [Act.put,aS,aC,aZ]
   refine tH 6 21 rfl rfl (gRun rfl _ fun _ h=>yA2 f48_0 (.tmp 20) rfl g2 (k * 7) rfl) HS_ ?_
   refine tH 7 22 rfl rfl (gRun rfl _ fun _ h=>yA4 o9 (.tmp 21) rfl g2 (k * 7+0) rfl (str td.id) (HX.out.2.1 _ h 0 _ rfl)) HS_ ?_
   refine tH 9 24 rfl rfl (gRun rfl _ fun _ h=>yA6 (.tmp 0) rfl (ptr gy) rfl) HS_ ?_
   refine tH 10 25 rfl rfl (gRun rfl _ fun _ h=>yC1 (.tmp 24) rfl ⟨gy,0,none⟩ rfl) HS_ ?_
   refine tH 11 26 rfl rfl (gRun rfl _ fun _ h=>yA2 f37_3 (.tmp 25) rfl gy (0) rfl) HS_ ?_
   refine tH 12 27 rfl rfl (gRun rfl _ fun _ h=>yA4 o35 (.tmp 26) rfl gy (0+3) rfl vL ((HM.out.1.later h HM.out.1.lt).at (0+3) _ rfl)) HS_ ?_
   simp only [Act.put,aS,aC,aZ]
   refine tH 13 28 rfl rfl (gRun rfl _ fun _ h=>yA6 (.tmp 4) rfl (.int .i64 (k:Nat)) rfl) HS_ ?_
   refine tH 14 29 rfl rfl (gRun rfl _ fun _ h=>yE9 (.tmp 27) (.tmp 28) rfl _ _ _ rfl rfl HX.out.1) HS_ ?_
   refine tH 15 30 rfl rfl (gRun rfl _ fun _ h=>yA2 f48_1 (.tmp 29) rfl g2 (k * 7) rfl) HS_ ?_
   refine tH 16 31 rfl rfl (gRun rfl _ fun _ h=>yA4 o38 (.tmp 30) rfl g2 (k * 7+1) rfl vb (HX.out.2.1 _ h 1 _ rfl)) HS_ ?_
   simp only [Act.put,aS,aC,aZ]
   refine oneH (i:=8) (by kernel_rfl) ?_
   obtain ⟨vs,X1,hr_,ho_,hb_⟩:=run_strBs X td.id (nameB_lt HX.out.2.2.2.1.1) (by have:=(nameB_len HX.out.2.2.2.1.1).2;omega)
   refine yF4 (some 23) rfl rfl rfl vs X1 (hr_ _ _ (.tmp 22) rfl rfl) ?_
   have HX1:Hid (Fz X1 X.heap.size vs td.id∧Below X.heap.size X X1):=⟨ho_,hb_⟩
   replace HS_:=HS_.trans (hb_.mono HS_.size)
   clear hb_ ho_ hr_
   refine ⟨HS_,?_⟩
   simp only [Act.put,aS,aC,aZ]
   obtain ⟨vj,X2,hr_,ho2_,hb_⟩:=HX1.out.1.app (HX.out.2.2.1.later HS_) (by have:=HX.out.2.2.2.1.2;omega) HX1.out.2.size
   refine oneH (i:=17) (by kernel_rfl) ?_
   refine yF4 (some 32) rfl rfl rfl vj X2 (yH8 (.tmp 23) (.tmp 31) rfl _ _ _ rfl rfl hr_) ?_
   have hbx_:Below X.heap.size X X2:=HX1.out.2.trans hb_
   have HA:Hid ((Below w1.heap.size w1 X2∧AOwn 52 32 X2 w1.heap.size u3 ((l.take k).map leafT))∧yA3 X2 vj (td.id++td.bs)∧Below w.heap.size w X2):=⟨⟨HK.out.1.trans (hbx_.mono HK.out.1.size),HK.out.2.later hbx_⟩,ho2_,HB0.out.trans (hbx_.mono HB0.out.size)⟩
   replace HS_:=HA.out.2.2
   clear hr_ ho2_ hb_ hbx_
   refine ⟨HS_,?_⟩
   simp only [Act.put,aS,aC,aZ]
   refine tH 18 5 rfl rfl (gRun rfl _ fun _ h=>yG0 (.tmp 32) rfl vj rfl) HS_ ?_
   simp only [Act.put,aS,aC,aZ]
   refine wpAnyH_done (by kernel_rfl) ?_ _
   go_upto_region 6 with fail
   refine wp_region_lit ?_
   refine wm 3 u3 ?_
   refine wm 5 vj ?_
   simp only [Act.put,aS,aC,aZ]
   refine yA5 eN49 [.tmp 34] _ rfl rfl [vj] rfl ?_
   refine (Sh.refLeaf_any vj (td.id++td.bs) X2 (sliceS HA.out.2.1) (by rw [List.length_append];have:=(nameB_len HX.out.2.2.2.1.1).2;have:=HX.out.2.2.2.1.2;omega)).mono ?_
   rintro e X3 ⟨rfl,hb_⟩
   refine ⟨_,rfl,?_⟩
   have H3:Hid (Below w1.heap.size w1 X3∧AOwn 52 32 X3 w1.heap.size u3 ((l.take k).map leafT)):=⟨HA.out.1.1.trans (hb_.mono HA.out.1.1.size),HA.out.1.2.later hb_⟩
   clear hb_
   simp only [Act.put,aS,aC,aZ]
   refine wl rfl _ _ (run_litOp el107 (.tmp 35) rfl (leafT td) (leafT_is td).1 rfl) ?_
   have hb_:=yB0 X3 (.cells (yA0 (leafT td)).toArray 52)
   have r_:=Row.new X3 52 (yA0 (leafT td))
   obtain ⟨X4,hW_⟩:∃U_:World,U_=X3.alloc (.cells (yA0 (leafT td)).toArray 52):=⟨_,rfl⟩
   obtain ⟨q4,hq_⟩:∃q,q=X3.heap.size:=⟨_,rfl⟩
   rw [←hW_] at hb_
   rw [←hW_,←hq_] at r_
   rw [←hW_,←hq_]
   have H4:Hid ((Below w1.heap.size w1 X4∧AOwn 52 32 X4 w1.heap.size u3 ((l.take k).map leafT))∧Row X4 q4 52 (yA0 (leafT td))):=⟨⟨H3.out.1.trans (hb_.mono H3.out.1.size),H3.out.2.later hb_⟩,r_⟩
   clear hb_ r_ hW_ hq_ H3
   simp only [Act.put,aS,aC,aZ]
   obtain ⟨v9,X5,hr_,ho_,hg_,_⟩:=run_app1 el107 w1.heap.size u3 ((l.take k).map leafT) (leafT td) H4.out.1.2 (leafT_is td) q4 (fun j u hu=>H4.out.2.at j u hu) (by rw [List.length_map,List.length_take];omega) H4.out.1.1.size
   refine wl rfl v9 X5 (yH8 (.tmp 33) (.tmp 36) rfl _ _ _ rfl rfl hr_) ?_
   have H5:Hid (Below w1.heap.size w1 X5∧AOwn 52 32 X5 w1.heap.size v9 ((l.take (k+1)).map leafT)):=⟨H4.out.1.1.trans (H4.out.1.2.belowG hg_ H4.out.1.1.size),by rw [leafs_succ l k (by rw [←HM.out.2.2.2.1];exact hlt),←HX.out.2.2.2.2];exact ho_⟩
   clear hr_ ho_ hg_ H4
   simp only [Act.put,aS,aC,aZ]
   refine wa (.tmp 37) v9 ?_
   simp only [Act.put,aS,aC,aZ]
   refine wpList_nil ?_
   go_upto_region 4 with fail
   refine wp_region_lit ?_
   refine wm 4 (.int .i64 (k:Nat)) ?_
   refine wl rfl (.int .i64 ((k+1:Nat):Int)) _ (yD6 (.tmp 13) (.const (.int .i64 1)) rfl (k:Nat) 1 _ rfl rfl (by omega) (by omega) (by omega)) ?_
   refine wa (.tmp 14) (.int .i64 ((k+1:Nat):Int)) ?_
   simp only [Act.put,aS,aC,aZ]
   refine wpList_nil ?_
   go_wp2_with fail
   exact ⟨⟨k+1,rfl,by omega,H5.out⟩,by simp [intOf];omega⟩
  ·go_upto_region 3 with fail
   refine wp_region_lit ?_
   refine wm 4 (.int .i64 (k:Nat)) ?_
   refine wm 0 (ptr gy) ?_
   refine wl rfl _ _ (yC1 (.tmp 7) rfl ⟨gy,0,none⟩ rfl) ?_
   refine wl rfl _ _ (yA2 f37_3 (.tmp 8) rfl gy (0) rfl) ?_
   refine wl rfl _ _ (yA4 o35 (.tmp 9) rfl gy (0+3) rfl vL ((HM.out.1.later HBW.out HM.out.1.lt).at (0+3) _ rfl)) ?_
   refine wl rfl (.int .i64 (n:Nat)) _ ((by rw [←HM.out.2.2.1];exact yJ1 el35 HM.out.2.1 (.tmp 10) rfl rfl)) ?_
   simp only [Act.put,aS,aC,aZ]
   refine wl rfl _ _ (yB5 (.tmp 6) (.tmp 11) rfl (k:Nat) (n:Nat) rfl rfl false (decide_eq_false (by omega))) ?_
   simp only [Act.put,aS,aC,aZ]
   refine wpList_nil ?_
   have hkn:k=n:=by omega
   have HE:Hid (Below w1.heap.size w1 W0∧AOwn 52 32 W0 w1.heap.size u3 (l.map leafT)):=(by
    have h9:=HI.out
    rw [hkn,HM.out.2.2.2.1,List.take_length] at h9
    exact h9)
   go_upto_region 7 with fail
   refine wp_region_lit ?_
   refine wm 3 u3 ?_
   simp only [Act.put,aS,aC,aZ]
   refine yA5 eN50 [.tmp 38] _ rfl rfl [u3] rfl ?_
   refine (Sh.refRoot_any n u3 (l.map leafT) W0 (by rw [List.length_map];exact HM.out.2.2.2.1.symm) (by omega) (Sh.HOwn.hin (base:=w1.heap.size) ⟨leafT_all l,HE.out.2.2⟩)).mono ?_
   rintro e Y1 ⟨rfl,hb_⟩
   refine ⟨_,rfl,?_⟩
   have HY:Hid (Below w1.heap.size w1 Y1∧Row Y1 q2 52 (yA0 (Zs 32))):=⟨HE.out.1.trans (hb_.mono HE.out.1.size),HW.out.2.later (HE.out.1.trans (hb_.mono HE.out.1.size)) HW.out.2.lt⟩
   clear hb_ HE
   simp only [Act.put,aS,aC,aZ]
   refine wlS rfl rfl _ (yD0 ag52 (.tmp 2) (.tmp 39) rfl q2 52 rfl (yA0 (rootT l)) _ rfl (by rw [yA1];exact (rootT_is l).1) HY.out.2 (by rw [yA1,bz];exact (rootT_is l).1) (yB2 _)) ?_
   have r_:=HY.out.2.setRow (yA0 (rootT l))
   have hc_:=(Ch.of_below (S:=fun b=>b=q2) (HW.out.1.trans (HY.out.1.mono HW.out.1.size))).setRow (g:=q2) (Or.inl rfl) (yA0 (rootT l)).toArray
   obtain ⟨Y2,hW_⟩:∃U_:World,U_=Y1.setRow q2 (yA0 (rootT l)).toArray:=⟨_,rfl⟩
   rw [←hW_] at r_ hc_ ⊢
   have HF:Hid (Row Y2 q2 52 (yA0 (rootT l))∧Below w.heap.size w Y2):=⟨r_,hc_.below (Nat.le_refl _) fun b hb e=>by have:=HGE.out;omega⟩
   clear r_ hc_ hW_ HY
   refine wpList_nil ?_
   go_wp2_with fail
   rw [HPQ.out]
   exact bodyPost_ret (yJ3 ag52 Tryd.results25 _ _ q2 52 rfl _ (by rw [yA1];exact (rootT_is l).1) HF.out.1) rfl ⟨rfl,HF.out.2⟩
end Go.Proofs.YtpkkkkomdblpoaaDoor



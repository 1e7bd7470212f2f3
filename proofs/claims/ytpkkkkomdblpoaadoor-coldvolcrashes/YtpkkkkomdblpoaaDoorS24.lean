/- Layer 15: blocks written. Layer 15: the object that stands at a block. -/
import Derived.Test.YtpkkkkomdblpoaaDoorS23
namespace Go.Proofs.YtpkkkkomdblpoaaDoor
open Go.RowKit Go.Maps
open Cold
theorem drop_getD {F:List (List Nat)} {i:Nat} (h:i<F.length):F.drop i=F.getD i [] :: F.drop (i+1):=by
 rw [List.drop_eq_getElem_cons h,List.getD_eq_getElem?_getD,List.getElem?_eq_getElem h]
 rfl
theorem lays_yes {m:Pl} {d:Int} {L:List (List Nat)} {k:Nat} (h:k<L.length) (hz:(m.append d (L.getD k [])).2.1=0):m.lays d (L.drop k)=(m.append d (L.getD k [])).2.2.lays d (L.drop (k+1)):=by
 rw [drop_getD h,Pl.lays,if_pos hz]
theorem lays_no {m:Pl} {d:Int} {L:List (List Nat)} {k:Nat} (h:k<L.length) (hz:¬ (m.append d (L.getD k [])).2.1=0):m.lays d (L.drop k)=((m.append d (L.getD k [])).2.1,(m.append d (L.getD k [])).2.2):=by
 rw [drop_getD h,Pl.lays,if_neg hz]
structure WrB (W:World) (c:Nat→Colour) (m:Pl) (t gp q B0:Nat) (TP:List Value) (v:Value) (L:List (List Nat)):Prop where
 row:Row W q 86 TP
 col:(c q).1≠t
 live:Live W c t gp m
 own:AOwn 133 64 W B0 v L
 vcol:∀b,v.ownBlock=some b→(c b).1≠t
theorem WrB.below {W W':World} {c:Nat→Colour} {m:Pl} {t gp q B0:Nat} {TP:List Value} {v:Value} {L:List (List Nat)} (h:WrB W c m t gp q B0 TP v L) (hb:Below W.heap.size W W'):WrB W' c m t gp q B0 TP v L :=
 ⟨h.row.later hb h.row.lt,h.col,h.live.below hb,h.own.later hb,h.vcol⟩
theorem WrB.spT {W W':World} {c c':Nat→Colour} {m m':Pl} {t gp q B0:Nat} {TP:List Value} {v:Value} {L:List (List Nat)} (h:WrB W c m t gp q B0 TP v L) (s:SpT t W W' c c') (l:Live W' c' t gp m'):WrB W' c' m' t gp q B0 TP v L :=
 ⟨(s.row h.row h.col).1,(s.row h.row h.col).2,l,h.own.keep s.ch fun b e=>h.vcol b e,fun b e=>by rw [s.cc b (h.own.2.lt b e).2];exact h.vcol b e⟩
set_option maxHeartbeats 4000000 in
set_option maxRecDepth 100000 in
theorem twrite_any {w:World} {c:Nat→Colour} {t gp:Nat} {m:Pl} (h:Live w c t gp m) (d:Nat) (sz:Int) {B0:Nat} {v:Value} {L:List (List Nat)} (ho:AOwn 133 64 w B0 v L) (hv:∀b,v.ownBlock=some b→(c b).1≠t) (hL:L.length≤1000) (hst:m.steps+L.length<35184372088831):Calls Tryd.prog 39 #[.agg (tpC gp (d:Nat) sz).toArray,v] w fun e w' => ∃c',e = .returned (.int .i64 (m.lays (d:Nat) L).1)∧SpT t w w' c c'∧Live w' c' t gp (m.lays (d:Nat) L).2:=by
 have HM:Hid (Live w c t gp m∧AOwn 133 64 w B0 v L∧(∀b,v.ownBlock=some b→(c b).1≠t)∧m.steps+L.length<35184372088831):=⟨h,ho,hv,hst⟩
 clear h ho hv hst
 obtain ⟨PQ,HPQ⟩:=exPQ fun (e:Ending) (w':World) => ∃c',e = .returned (.int .i64 (m.lays (d:Nat) L).1)∧SpT t w w' c c'∧Live w' c' t gp (m.lays (d:Nat) L).2
 rw [←HPQ.out]
 go_enter Tryd.func39,Tryd.ntmps39
 go_upto_region 0 with fail
 refine wp_region_lit ?_
 refine wl rfl _ _ (yG2 (.tmp 0) rfl (tpC gp (d:Nat) sz) rfl) ?_
 have hb_:=yB2 w (.cells (tpC gp (d:Nat) sz).toArray 86)
 have r_:=Row.new w 86 (tpC gp (d:Nat) sz)
 obtain ⟨w1,hW_⟩:∃U_:World,U_=w.alloc (.cells (tpC gp (d:Nat) sz).toArray 86):=⟨_,rfl⟩
 obtain ⟨q,hq_⟩:∃q,q=w.heap.size:=⟨_,rfl⟩
 rw [←hW_] at hb_
 rw [←hW_,←hq_] at r_
 rw [←hW_,←hq_]
 have HA:Hid (WrB w1 c m t gp q B0 (tpC gp (d:Nat) sz) v L∧Below w.heap.size w w1):=⟨⟨r_,by rw [hq_];exact HM.out.1.2.2 _ (Nat.le_refl _),HM.out.1.below hb_,HM.out.2.1.later hb_,HM.out.2.2.1⟩,hb_⟩
 clear r_ hb_ hW_ hq_
 simp only [Act.put,aS,aC,aZ]
 refine wa (.const (.int .i64 0)) (.int .i64 0) ?_
 simp only [Act.put,aS,aC,aZ]
 refine wpList_nil ?_
 go_upto_region 1 with fail
 refine wp_region_lit ?_
 refine wm 1 v ?_
 refine wl rfl _ _ (run_lenA el93 HA.out.1.own (.tmp 9) rfl rfl) ?_
 refine wl rfl _ _ (yA4 (.const (.int .i64 0)) rfl (.int .i64 0) rfl) ?_
 simp only [Act.put,aS,aC,aZ]
 refine wpList_nil ?_
 go_wp2_with fail
 go_loopw [6,7,8,11] (fun _ _ _ vk W => ∃k:Nat,vk = .int .i64 (k:Nat)∧k≤L.length∧Hid (∃mi ci,WrB W ci mi t gp q B0 (tpC gp (d:Nat) sz) v L∧SpT t w W c ci∧m.lays (d:Nat) L=mi.lays (d:Nat) (L.drop k)∧mi.steps≤m.steps+k)) (fun _ _ _ vk _=>L.length - (intOf vk).toNat)
 case atStart=>exact ⟨0,rfl,Nat.zero_le _,⟨m,c,HA.out.1,SpT.bel c HA.out.2,by rw [List.drop_zero],Nat.le_refl _⟩⟩
 case round =>
  obtain ⟨k,rfl,hk,HI0⟩:=hrel
  obtain ⟨mi,ci,hI⟩:=HI0.out
  have HI:Hid (WrB wr ci mi t gp q B0 (tpC gp (d:Nat) sz) v L∧SpT t w wr c ci∧m.lays (d:Nat) L=mi.lays (d:Nat) (L.drop k)∧mi.steps≤m.steps+k):=hI
  clear hI HI0
  by_cases hlt:k<L.length
  ·go_upto_region 2 with fail
   refine wp_region_lit ?_
   refine wl rfl _ _ (yB8 (.tmp 11) (.tmp 10) rfl (k:Nat) (L.length:Nat) rfl rfl true (decide_eq_true (by omega))) ?_
   simp only [Act.put,aS,aC,aZ]
   refine wpList_nil ?_
   obtain ⟨g1,_,_,hx_,hc_⟩:=HI.out.1.own.ix el93 k hlt
   obtain ⟨bl,hbl⟩:∃x,x=L.getD k []:=⟨_,rfl⟩
   rw [←hbl] at hc_
   have HX:Hid ((∀w',(Instr.indexAt 93 v (.int .i64 (k:Nat))).run Tryd.prog w' = .ok (.pointer (some ⟨g1,k * 64,none⟩)) w')∧(∀j u,(yA0 bl)[j]? = some u→wr.cell? ⟨g1,k * 64+j,none⟩=some u)∧bl=L.getD k []∧bl.length=64∧(∀c∈bl,c<256)):=⟨hx_,hc_ wr HI.out.1.own,hbl,by rw [hbl];exact (HI.out.1.own.1.at k hlt).1,by rw [hbl];exact (HI.out.1.own.1.at k hlt).2⟩
   clear hx_ hc_ hbl
   obtain ⟨er,her⟩:∃er,er=(mi.append (d:Nat) bl).2.1:=⟨_,rfl⟩
   obtain ⟨pz,hpz⟩:∃z:Int,z=((mi.append (d:Nat) bl).1:Int):=⟨_,rfl⟩
   obtain ⟨m2,hm2⟩:∃m2,m2=(mi.append (d:Nat) bl).2.2:=⟨_,rfl⟩
   have HW:Hid (er=(mi.append (d:Nat) bl).2.1∧pz=((mi.append (d:Nat) bl).1:Int)∧m2=(mi.append (d:Nat) bl).2.2):=⟨her,hpz,hm2⟩
   have HST:Hid (mi.steps<35184372088831):=(by have:=HM.out.2.2.2;have:=HI.out.2.2.2;show _<_;omega)
   clear her hpz hm2
   go_upto_region 3 with fail
   refine wp_region_lit ?_
   refine wl rfl _ _ (yD5 (.tmp 9) (.tmp 11) rfl _ _ _ rfl rfl HX.out.1) ?_
   refine wl rfl _ _ (yA9 ag133 (.tmp 13) rfl g1 (k * 64) rfl (yA0 bl) (by rw [yA1];exact HX.out.2.2.2.1) HX.out.2.1) ?_
   refine wl rfl _ _ (yB6 (yA0 (Zs 64)) zero133 rfl) ?_
   have r_:=Row.new wr 133 (yA0 (Zs 64))
   have hb_:=yB2 wr (.cells (yA0 (Zs 64)).toArray 133)
   obtain ⟨y1,hW_⟩:∃W,W=wr.alloc (.cells (yA0 (Zs 64)).toArray 133):=⟨_,rfl⟩
   obtain ⟨q6,hq_⟩:∃q,q=wr.heap.size:=⟨_,rfl⟩
   rw [←hW_,←hq_] at r_
   rw [←hW_] at hb_
   rw [←hW_,←hq_]
   have Q1:Hid (Row y1 q6 133 (yA0 (Zs 64))∧Below wr.heap.size wr y1∧q6=wr.heap.size):=⟨r_,hb_,hq_⟩
   clear r_ hW_ hq_ hb_
   simp only [Act.put,aS,aC,aZ]
   refine wlS rfl rfl _ (yE6 ag133 (.tmp 6) (.tmp 14) rfl q6 133 rfl (yA0 bl) _ rfl (by rw [yA1];exact HX.out.2.2.2.1) Q1.out.1 (by rw [yA1,bz];exact HX.out.2.2.2.1) (yB0 _)) ?_
   have hb_:=(Ch.setRow (S:=(· = q6)) (Ch.refl _ y1) (Or.inl rfl) (yA0 bl).toArray)
   have r_:=Q1.out.1.setRow (yA0 bl)
   obtain ⟨y2,hW_⟩:∃U_:World,U_=y1.setRow q6 (yA0 bl).toArray:=⟨_,rfl⟩
   rw [←hW_] at hb_ r_ ⊢
   have Q2:Hid (Row y2 q6 133 (yA0 bl)∧Below wr.heap.size wr y2∧q6=wr.heap.size):=⟨r_,Q1.out.2.1.trans (hb_.below Q1.out.2.1.size fun b hb e=>by have:=Q1.out.2.2;omega),Q1.out.2.2⟩
   clear hb_ r_ hW_ Q1
   refine wpList_nil ?_
   go_upto_region 4 with fail
   refine wp_region_held (S:=fun X=>Row X q6 133 (yA0 bl)∧Row X q 86 (tpC gp (d:Nat) sz)) (by kernel_rfl) ?_
   show wpAnyH _ _ _ _ _ 15 (Array.replicate 15 false) _ _
   obtain ⟨X,hX⟩:∃X:World,X = { y2 with drawn:=y2.drawn+1 }:=⟨_,rfl⟩
   rw [←hX]
   have HBX:Hid (Below wr.heap.size wr X):=(by rw [hX];exact Q2.out.2.1.trans ⟨rfl,rfl,rfl,Nat.le_refl _,fun _ _=>rfl⟩)
   have HS_:Row X q6 133 (yA0 bl)∧Row X q 86 (tpC gp (d:Nat) sz):=(by rw [hX];exact ⟨Q2.out.1.later ⟨rfl,rfl,rfl,Nat.le_refl _,fun _ _=>rfl⟩ Q2.out.1.lt,(HI.out.1.row.later Q2.out.2.1 HI.out.1.row.lt).later ⟨rfl,rfl,rfl,Nat.le_refl _,fun _ _=>rfl⟩ (HI.out.1.row.later Q2.out.2.1 HI.out.1.row.lt).lt⟩)
   clear hX
   refine tH 0 16 rfl rfl (gRun rfl _ fun _ h=>yA3 f86_0 (.tmp 2) rfl q (0) rfl) HS_ ?_
   refine tH 1 17 rfl rfl (gRun rfl _ fun _ h=>yA7 o24 (.tmp 16) rfl q (0+0) rfl (ptr gp) (h.2.at 0 _ rfl)) HS_ ?_
   refine tH 2 18 rfl rfl (gRun rfl _ fun _ h=>yA3 f86_1 (.tmp 2) rfl q (0) rfl) HS_ ?_
   simp only [Act.put,aS,aC,aZ]
   refine tH 3 19 rfl rfl (gRun rfl _ fun _ h=>yA7 o3 (.tmp 18) rfl q (0+1) rfl (.int .i64 (d:Nat)) (h.2.at 1 _ rfl)) HS_ ?_
   refine tH 4 20 rfl rfl (gRun rfl _ fun _ h=>yA3 f133_0 (.tmp 6) rfl q6 (0) rfl) HS_ ?_
   refine tH 5 21 rfl rfl (gRun rfl _ fun _ h=>run_slA arr129 (.tmp 20) none none rfl q6 (0+0) 0 56 rfl ⟨Or.inl ⟨rfl,rfl⟩,Or.inl ⟨rfl,rfl⟩,by omega,by omega,by omega⟩) HS_ ?_
   simp only [Act.put,aS,aC,aZ]
   refine tH 6 22 rfl rfl (gRun rfl _ fun _ h=>yA3 f133_1 (.tmp 6) rfl q6 (0) rfl) HS_ ?_
   refine tH 7 23 rfl rfl (gRun rfl _ fun _ h=>run_slA arr131 (.tmp 22) none none rfl q6 (0+56) 0 8 rfl ⟨Or.inl ⟨rfl,rfl⟩,Or.inl ⟨rfl,rfl⟩,by omega,by omega,by omega⟩) HS_ ?_
   simp only [Act.put,aS,aC,aZ]
   refine oneH (i:=8) (by kernel_rfl) ?_
   have hin_:yA2 X (.slice (some ⟨q6,0+56+0,none⟩) 8 8) (bl.drop 56):=⟨_,8,(by rw [List.length_drop,HX.out.2.2.2.1]),(by rw [List.length_drop,HX.out.2.2.2.1];decide),Or.inr ⟨q6,0+56+0,rfl,fun j hj=>HS_.1.at _ _ (by rw [←yC3 (bl.drop 56) j hj,bcells_drop,List.getElem?_drop]),lt256 _ (fun c hc=>HX.out.2.2.2.2 c (List.mem_of_mem_drop hc))⟩⟩
   have h56_:(bl.take 56).length=56:=(by rw [List.length_take,HX.out.2.2.2.1];rfl)
   have h8_:(bl.drop 56).length=8:=(by rw [List.length_drop,HX.out.2.2.2.1])
   obtain ⟨v9,Y1,hr_,hi_,hb_,_⟩:=run_appCut (W:=X) (g:=q6) (off:=0+0+0) (xs:=bl.take 56) (ys:=bl.drop 56) (fun j u hu=>HS_.1.at _ _ (by rw [yH0,List.getElem?_take] at hu;split at hu;rw [show 0+0+0+j=j by omega];exact hu;cases hu)) (fun c hc=>HX.out.2.2.2.2 c (List.mem_of_mem_take hc)) hin_ (fun e=>by rw [e] at h8_;cases h8_) (by omega)
   rw [h56_] at hr_
   rw [List.take_append_drop] at hi_
   refine yG8 (some 24) rfl rfl rfl v9 Y1 (yK0 (.tmp 21) (.tmp 23) rfl _ _ _ rfl rfl hr_) ?_
   have HAP:Hid (yA2 Y1 v9 bl∧WrB Y1 ci mi t gp q B0 (tpC gp (d:Nat) sz) v L∧Below wr.heap.size wr Y1):=⟨hi_,HI.out.1.below (HBX.out.trans (hb_.mono HBX.out.size)),HBX.out.trans (hb_.mono HBX.out.size)⟩
   replace HS_:Row Y1 q6 133 (yA0 bl)∧Row Y1 q 86 (tpC gp (d:Nat) sz):=⟨HS_.1.later hb_ HS_.1.lt,HS_.2.later hb_ HS_.2.lt⟩
   clear hr_ hi_ hb_ hin_ h56_ h8_
   refine ⟨HS_,?_⟩
   simp only [Act.put,aS,aC,aZ]
   refine oneH (i:=9) (by kernel_rfl) ?_
   refine yF6 (some 25) rfl rfl rfl 29 _ (yC2 eN29 [.tmp 17,.tmp 19,.tmp 24] _ rfl [(ptr gp),(.int .i64 (d:Nat)),v9] rfl) ?_
   refine (HAP.out.2.1.live.append HST.out (d:Nat) v9 bl HAP.out.1).mono ?_
   rintro e W2 ⟨he_,hn_⟩
   rw [←HW.out.1,←HW.out.2.1] at he_
   rw [←HW.out.2.2] at hn_
   subst he_
   obtain ⟨c2,s2_,l2_⟩:=hn_.spT
   have HJ:Hid (WrB W2 c2 m2 t gp q B0 (tpC gp (d:Nat) sz) v L∧SpT t wr W2 ci c2):=⟨HAP.out.2.1.spT s2_ l2_,(SpT.bel ci HAP.out.2.2).trans s2_⟩
   replace HS_:Row W2 q6 133 (yA0 bl)∧Row W2 q 86 (tpC gp (d:Nat) sz):=⟨(s2_.row HS_.1 (HI.out.1.live.2.2 q6 (by have:=Q2.out.2.2;omega))).1,HJ.out.1.row⟩
   clear s2_ l2_ hn_
   refine ⟨_,rfl,?_⟩
   refine ⟨HS_,?_⟩
   simp only [Act.put,aS,aC,aZ]
   refine tH 10 15 rfl rfl (gRun rfl _ fun _ h=>yA4 (.tmp 25) rfl (.tuple #[(.int .i64 pz),(.int .i64 er)]) rfl) HS_ ?_
   refine tH 11 26 rfl rfl (gRun rfl _ fun _ h=>yA8 (.tmp 15) 0 rfl #[(.int .i64 pz),(.int .i64 er)] rfl (.int .i64 pz) rfl) HS_ ?_
   refine tH 12 27 rfl rfl (gRun rfl _ fun _ h=>yA8 (.tmp 15) 1 rfl #[(.int .i64 pz),(.int .i64 er)] rfl (.int .i64 er) rfl) HS_ ?_
   simp only [Act.put,aS,aC,aZ]
   refine tH 13 7 rfl rfl (gRun rfl _ fun _ h=>yE7 (.tmp 26) rfl (.int .i64 pz) rfl) HS_ ?_
   refine tH 14 8 rfl rfl (gRun rfl _ fun _ h=>yE7 (.tmp 27) rfl (.int .i64 er) rfl) HS_ ?_
   simp only [Act.put,aS,aC,aZ]
   refine wpAnyH_done (by kernel_rfl) ?_ _
   by_cases hz:er=0
   ·go_upto_region 5 with fail
    refine wp_region_lit ?_
    refine wm 8 (.int .i64 er) ?_
    refine wl rfl _ _ (yD1 (.tmp 28) (.const (.int .i64 0)) rfl er 0 rfl rfl false (by rw [decide_eq_true hz];rfl)) ?_
    simp only [Act.put,aS,aC,aZ]
    refine wpList_nil ?_
    go_upto_region 7 with fail
    refine wp_region_lit ?_
    refine wl rfl (.int .i64 ((k+1:Nat):Int)) _ (yC8 (.tmp 11) (.const (.int .i64 1)) rfl (k:Nat) 1 _ rfl rfl (by omega) (by omega) (by omega)) ?_
    refine wm 31 (.int .i64 ((k+1:Nat):Int)) ?_
    simp only [Act.put,aS,aC,aZ]
    refine wpList_nil ?_
    have HZ:Hid (er=0):=hz
    clear hz
    go_wp2_with fail
    refine ⟨⟨k+1,rfl,by omega,⟨m2,c2,HJ.out.1,HI.out.2.1.trans HJ.out.2,?_,?_⟩⟩,by simp [intOf];omega⟩
    ·rw [HI.out.2.2.1,lays_yes hlt (by rw [←HX.out.2.2.1,←HW.out.1];exact HZ.out),←HX.out.2.2.1,←HW.out.2.2]
    ·have:=(append_steps mi (d:Nat) bl).1
     rw [←HW.out.2.2] at this
     have:=HI.out.2.2.2
     omega
   ·go_upto_region 5 with fail
    refine wp_region_lit ?_
    refine wm 8 (.int .i64 er) ?_
    refine wl rfl _ _ (yD1 (.tmp 28) (.const (.int .i64 0)) rfl er 0 rfl rfl true (by rw [decide_eq_false hz];rfl)) ?_
    simp only [Act.put,aS,aC,aZ]
    refine wpList_nil ?_
    have HZ:Hid (¬ er=0):=hz
    clear hz
    go_upto_region 6 with fail
    refine wp_region_lit ?_
    refine wm 8 (.int .i64 er) ?_
    refine wa (.tmp 30) (.int .i64 er) ?_
    simp only [Act.put,aS,aC,aZ]
    refine wpList_nil ?_
    go_wp2_with fail
    rw [HPQ.out]
    refine ⟨c2,?_,HI.out.2.1.trans HJ.out.2,?_⟩
    ·rw [HI.out.2.2.1,lays_no hlt (by rw [←HX.out.2.2.1,←HW.out.1];exact HZ.out),←HX.out.2.2.1,←HW.out.1]
     rfl
    ·rw [HI.out.2.2.1,lays_no hlt (by rw [←HX.out.2.2.1,←HW.out.1];exact HZ.out),←HX.out.2.2.1,←HW.out.2.2]
     exact HJ.out.1.live
  ·go_upto_region 2 with fail
   refine wp_region_lit ?_
   refine wl rfl _ _ (yB8 (.tmp 11) (.tmp 10) rfl (k:Nat) (L.length:Nat) rfl rfl false (decide_eq_false (by omega))) ?_
   simp only [Act.put,aS,aC,aZ]
   refine wpList_nil ?_
   go_upto_region 8 with fail
   refine wp_region_lit ?_
   refine wa (.const (.int .i64 0)) (.int .i64 0) ?_
   simp only [Act.put,aS,aC,aZ]
   refine wpList_nil ?_
   go_wp2_with fail
   rw [HPQ.out]
   have ei:L.drop k=[]:=List.drop_of_length_le (by omega)
   refine ⟨ci,?_,HI.out.2.1,?_⟩
   ·rw [HI.out.2.2.1,ei]
    rfl
   ·rw [HI.out.2.2.1,ei]
    exact HI.out.1.live
end Go.Proofs.YtpkkkkomdblpoaaDoor

namespace Go.Proofs.YtpkkkkomdblpoaaDoor
open Go.RowKit Go.Maps
open Cold
def ObjAt (d a:Nat) (ct:List (List Nat)) (id bs:List Nat):Prop:=a+nb bs.length≤ct.length∧IsObj d a ((ct.drop a).take (nb bs.length)) id bs
def NoAt (d a:Nat) (ct:List (List Nat)):Prop := ∀id bs,¬ ObjAt d a ct id bs
theorem ObjAt.lab {d a:Nat} {ct:List (List Nat)} {id bs:List Nat} (h:ObjAt d a ct id bs):labP ((ct.getD a []).take 56)=some (id,bs.length)∧a<ct.length:=by
 have h1:=h.2.lab
 have hp:=nb_pos bs.length
 rw [cutD ct a _ 0 (by omega)] at h1
 exact ⟨h1,by have:=h.1;omega⟩
theorem noAt_len {d a:Nat} {ct:List (List Nat)} (h:ct.length<a+1):NoAt d a ct:=fun id bs k=>by have:=k.lab.2;omega
theorem noAt_lab {d a:Nat} {ct:List (List Nat)} (h:labP ((ct.getD a []).take 56)=none):NoAt d a ct:=fun id bs k=>by rw [k.lab.1] at h;cases h
theorem noAt_far {d a n:Nat} {ct:List (List Nat)} {id:List Nat} (h:labP ((ct.getD a []).take 56)=some (id,n)) (hn:ct.length<a+nbP n):NoAt d a ct:=fun id' bs k=>by
 have e:=Option.some.inj (h.symm.trans k.lab.1)
 have e2:n=bs.length:=congrArg Prod.snd e
 have:=k.1
 rw [e2] at hn
 unfold nbP at hn
 rw [if_pos k.2.len] at hn
 omega
theorem noAt_obj {d a n:Nat} {ct:List (List Nat)} {id:List Nat} (h:labP ((ct.getD a []).take 56)=some (id,n)) (hn:NoObj d a ((ct.drop a).take (nbP n))):NoAt d a ct:=fun id' bs k=>by
 have e:=Option.some.inj (h.symm.trans k.lab.1)
 have e2:n=bs.length:=congrArg Prod.snd e
 refine hn ⟨id',bs,?_⟩
 rw [e2]
 unfold nbP
 rw [if_pos k.2.len]
 exact k.2
theorem objAt_of {d a n:Nat} {ct:List (List Nat)} {id bs:List Nat} (hl:a+n≤ct.length) (h:IsObj d a ((ct.drop a).take n) id bs):n=nb bs.length∧ObjAt d a ct id bs:=by
 have e:((ct.drop a).take n).length=n:=by simp;omega
 have e2:=h.num
 rw [e] at e2
 subst e2
 exact ⟨rfl,hl,h⟩
theorem twoH {ops:Array Oper} {Q:Exit→Act→World→Prop} {S:World→Prop} {fuel:Nat} {listed:Array Bool} {a:Act} {w:World} {i j:Nat} (hr:Region.ready .any ops listed=[i,j]) (h1:wpOp Tryd.prog ops Q i (fun a' w'=>S w'∧wpAnyH Tryd.prog .any ops Q S fuel (listed.setIfInBounds i true) a' w') a w) (h2:wpOp Tryd.prog ops Q j (fun a' w'=>S w'∧wpAnyH Tryd.prog .any ops Q S fuel (listed.setIfInBounds j true) a' w') a w):wpAnyH Tryd.prog .any ops Q S (fuel+1) listed a w :=
 wpAnyH_all hr (by simp) fun k hk=>by
  rcases List.mem_cons.1 hk with rfl|hk
  ·exact h1
  ·obtain rfl:=List.mem_singleton.1 hk
   exact h2
theorem share {G T:Prop} (k:G→T) (h:G):T:=k h
theorem nbP_le (n:Nat):nbP n≤12:=by
 unfold nbP
 split
 ·rename_i h;exact nb_le h
 ·omega
theorem tread_nat {w:World} {c:Nat→Colour} {t gp:Nat} {m:Pl} (h:Live w c t gp m) (hst:m.steps<35184372088831) (hon:m.on=true) (d:Nat) (hd:d<m.n) (htp:m.tape d=true) (sz:Int) (a N:Nat) (ha:a≤1000000) (hN:N≤1000000):Calls Tryd.prog 42 #[.agg (tpC gp (d:Nat) sz).toArray,.int .i64 (a:Nat),.int .i64 (N:Nat)] w fun e w' => ∃vr er,e = .returned (.tuple #[vr,.int .i64 er])∧Below w.heap.size w w'∧((er=4∧vr = .slice none 0 0∧(ctn m d).length<a+N)∨(er=0∧a+N≤(ctn m d).length∧AOwn 133 64 w' w.heap.size vr (((ctn m d).drop a).take N))):=by
 refine (tread_any h hst d hd htp sz (a:Nat) (N:Nat) ⟨by omega,by omega⟩ ⟨by omega,by omega⟩).mono ?_
 rintro e w' ⟨hb,⟨hc,rfl⟩|⟨a',N',e1,e2,hle,v,rfl,ho,_⟩|⟨a',N',e1,e2,hle,hp,hof,rfl⟩⟩
 ·exact ⟨_,_,rfl,hb,Or.inl ⟨rfl,rfl,by omega⟩⟩
 ·obtain rfl:a=a':=by omega
  obtain rfl:N=N':=by omega
  exact ⟨_,_,rfl,hb,Or.inr ⟨rfl,hle,ho⟩⟩
 ·rw [hon] at hof
  cases hof
set_option maxHeartbeats 4000000 in
set_option maxRecDepth 100000 in
theorem objectAt_any {w:World} {c:Nat→Colour} {t gp:Nat} {m:Pl} (h:Live w c t gp m) (hst:m.steps<35184372088831) (hon:m.on=true) (d:Nat) (hd:d<m.n) (htp:m.tape d=true) (sz:Int) (a:Nat) (ha:a≤65536) (he:Env w):Calls Tryd.prog 66 #[.agg (tpC gp (d:Nat) sz).toArray,.int .i64 (a:Nat)] w fun e w'=>Below w.heap.size w w'∧((∃id bs vb,e = .returned (.tuple #[.agg (obC (d:Nat) (a:Nat) (nb bs.length:Nat) false id vb).toArray,.int .i64 0])∧ObjAt d a (ctn m d) id bs∧yA2 w' vb bs∧∀b,vb.ownBlock=some b→w.heap.size≤b)∨(e = .returned (.tuple #[.agg (obC 0 0 0 false [] (.slice none 0 0)).toArray,.int .i64 4])∧NoAt d a (ctn m d))):=by
 obtain ⟨ct,hct⟩:∃x,x=ctn m d:=⟨_,rfl⟩
 have HM:Hid (Live w c t gp m∧m.steps<35184372088831∧m.on=true∧d<m.n∧m.tape d=true∧Env w∧ct=ctn m d∧AllN 64 ct∧ct.length≤4096):=⟨h,hst,hon,hd,htp,he,hct,hct▸ctn_all h.2.1 d,by rw [hct];exact (ctn_le h.2.1 hd htp).1⟩
 have H0:Hid (Loc w w []):=Loc.nil (Below.refl _ _)
 rw [←hct]
 clear h hst hon hd htp hct he
 obtain ⟨PQ,HPQ⟩:=exPQ fun (e:Ending) (w':World)=>Below w.heap.size w w'∧((∃id bs vb,e = .returned (.tuple #[.agg (obC (d:Nat) (a:Nat) (nb bs.length:Nat) false id vb).toArray,.int .i64 0])∧ObjAt d a ct id bs∧yA2 w' vb bs∧∀b,vb.ownBlock=some b→w.heap.size≤b)∨(e = .returned (.tuple #[.agg (obC 0 0 0 false [] (.slice none 0 0)).toArray,.int .i64 4])∧NoAt d a ct))
 rw [←HPQ.out]
 go_enter Tryd.func66,Tryd.ntmps66
 go_upto_region 0 with fail
 refine wp_region_lit ?_
 refine wl rfl _ _ (yG2 (.tmp 0) rfl ((tpC gp (d:Nat) sz)) rfl) ?_
 have k_:=H0.out.box 86 ((tpC gp (d:Nat) sz))
 obtain ⟨w1,hW_⟩:∃W,W=w.alloc (.cells ((tpC gp (d:Nat) sz)).toArray 86):=⟨_,rfl⟩
 obtain ⟨q1,hq_⟩:∃q,q=w.heap.size:=⟨_,rfl⟩
 rw [←hW_,←hq_] at k_
 rw [←hW_,←hq_]
 clear hq_
 have Rw1:Hid (Loc w w1 [(q1,86,(tpC gp (d:Nat) sz))]):=k_
 clear k_ hW_ H0
 simp only [Act.put,aS,aC,aZ]
 refine wl rfl _ _ (yB6 ((obC 0 0 0 false [] (.slice none 0 0))) zero91 rfl) ?_
 have k_:=Rw1.out.box 91 ((obC 0 0 0 false [] (.slice none 0 0)))
 obtain ⟨w2,hW_⟩:∃W,W=w1.alloc (.cells ((obC 0 0 0 false [] (.slice none 0 0))).toArray 91):=⟨_,rfl⟩
 obtain ⟨q2,hq_⟩:∃q,q=w1.heap.size:=⟨_,rfl⟩
 rw [←hW_,←hq_] at k_
 rw [←hW_,←hq_]
 clear hq_
 have Rw2:Hid (Loc w w2 [(q1,86,(tpC gp (d:Nat) sz)),(q2,91,(obC 0 0 0 false [] (.slice none 0 0)))]):=k_
 clear k_ hW_ Rw1
 simp only [Act.put,aS,aC,aZ]
 refine wa (.const (.int .i64 0)) (.int .i64 0) ?_
 simp only [Act.put,aS,aC,aZ]
 refine wpList_nil ?_
 go_upto_region 1 with fail
 refine wp_region_lit ?_
 refine wl rfl _ _ (yA9 ag86 (.tmp 2) rfl q1 (0) rfl ((tpC gp (d:Nat) sz)) rfl (yF0 Rw2.out 0 rfl)) ?_
 refine wm 1 (.int .i64 (a:Nat)) ?_
 simp only [Act.put,aS,aC,aZ]
 refine yA5 eN42 [.tmp 15,.tmp 16,.const (.int .i64 1)] _ rfl rfl [(.agg ((tpC gp (d:Nat) sz)).toArray),(.int .i64 (a:Nat)),(.int .i64 1)] rfl ?_
 refine (tread_nat (HM.out.1.below Rw2.out.below) HM.out.2.1 HM.out.2.2.1 d HM.out.2.2.2.1 HM.out.2.2.2.2.1 sz a 1 (by omega) (by omega)).mono ?_
 rintro e w3 ⟨v1,e1,rfl,hb_,hc_⟩
 refine ⟨_,rfl,?_⟩
 rw [←HM.out.2.2.2.2.2.2.1] at hc_
 have H3:Hid (Loc w w3 [(q1,86,(tpC gp (d:Nat) sz)),(q2,91,(obC 0 0 0 false [] (.slice none 0 0)))]):=Rw2.out.later hb_
 have H3R:Hid ((e1=4∧v1 = .slice none 0 0∧ct.length<a+1)∨(e1=0∧a+1≤ct.length∧AOwn 133 64 w3 w2.heap.size v1 ((ct.drop a).take 1))):=hc_
 clear hb_ hc_
 simp only [Act.put,aS,aC,aZ]
 refine wm 17 (.tuple #[v1,(.int .i64 e1)]) ?_
 refine wl rfl _ _ (yA8 (.tmp 14) 0 rfl #[v1,(.int .i64 e1)] rfl v1 rfl) ?_
 refine wl rfl _ _ (yA8 (.tmp 14) 1 rfl #[v1,(.int .i64 e1)] rfl (.int .i64 e1) rfl) ?_
 simp only [Act.put,aS,aC,aZ]
 refine wa (.tmp 18) v1 ?_
 refine wa (.tmp 19) (.int .i64 e1) ?_
 simp only [Act.put,aS,aC,aZ]
 refine wpList_nil ?_
 rcases H3R.out with ⟨rfl,rfl,hfar⟩|⟨rfl,hle1,ho1⟩
 ·go_upto_region 2 with fail
  refine wp_region_lit ?_
  refine wm 7 (.int .i64 4) ?_
  refine wl rfl _ _ (yD1 (.tmp 20) (.const (.int .i64 0)) rfl (4) (0) rfl rfl true rfl) ?_
  simp only [Act.put,aS,aC,aZ]
  refine wpList_nil ?_
  go_upto_region 3 with fail
  refine wp_region_lit ?_
  refine wl rfl _ _ (yJ9 rfl) ?_
  refine wm 7 (.int .i64 4) ?_
  simp only [Act.put,aS,aC,aZ]
  refine wlS rfl rfl _ (yB3 ag91 (.tmp 4) (.tmp 22) rfl H3.out 1 rfl (0) rfl (obC 0 0 0 false [] (.slice none 0 0)) rfl rfl (by decide) (yH4 _ _ _ _ _ _ rfl)).1 ?_
  have k_:=H3.out.lay 1 rfl (0) (obC 0 0 0 false [] (.slice none 0 0))
  rw [yB5 _ _ rfl] at k_ ⊢
  obtain ⟨w4,hW_⟩:∃U_:World,U_=w3.setRow q2 (obC 0 0 0 false [] (.slice none 0 0)).toArray:=⟨_,rfl⟩
  rw [←hW_] at k_ ⊢
  have HZ_:Hid (Row w4 q2 91 (obC 0 0 0 false [] (.slice none 0 0))∧Below w.heap.size w w4):=⟨k_.at 1 rfl,k_.below⟩
  clear k_ hW_
  refine wa (.tmp 23) (.int .i64 4) ?_
  simp only [Act.put,aS,aC,aZ]
  refine wpList_nil ?_
  go_wp2_with fail
  exact bodyPost_ret (yC9 ag91 Tryd.results66 _ _ q2 91 rfl (obC 0 0 0 false [] (.slice none 0 0)) rfl HZ_.out.1 (.int .i64 4) rfl) rfl (by rw [HPQ.out];exact ⟨HZ_.out.2,Or.inr ⟨rfl,noAt_len hfar⟩⟩)
 ·have HO1:Hid (a+1≤ct.length∧AOwn 133 64 w3 w2.heap.size v1 ((ct.drop a).take 1)):=⟨hle1,ho1⟩
  clear hle1 ho1 H3R
  go_upto_region 2 with fail
  refine wp_region_lit ?_
  refine wm 7 (.int .i64 0) ?_
  refine wl rfl _ _ (yD1 (.tmp 20) (.const (.int .i64 0)) rfl (0) (0) rfl rfl false rfl) ?_
  simp only [Act.put,aS,aC,aZ]
  refine wpList_nil ?_
  obtain ⟨g,_,_,hx0_,hc0_⟩:=HO1.out.2.ix el93 0 (by have:=HO1.out.1;simp;omega)
  obtain ⟨b0,hb0⟩:∃x,x=ct.getD a []:=⟨_,rfl⟩
  rw [cutD ct a 1 0 (by decide),Nat.add_zero,←hb0] at hc0_
  have HX0:Hid ((∀w',(Instr.indexAt 93 v1 (.int .i64 ((0:Nat):Int))).run Tryd.prog w' = .ok (.pointer (some ⟨g,0 * 64,none⟩)) w')∧(∀j u,(yA0 (b0.take 56))[j]? = some u→w3.cell? ⟨g,0 * 64+0+j,none⟩=some u)∧b0=ct.getD a []∧(b0.take 56).length=56∧∀c∈b0.take 56,c<256):=⟨hx0_,fun j u hu=>(by have:=hc0_ w3 HO1.out.2 j u (by rw [yH0] at hu;rw [List.getElem?_take] at hu;split at hu;exact hu;cases hu);simpa using this),hb0,(by have h9:=(HM.out.2.2.2.2.2.2.2.1.at a (by have:=HO1.out.1;omega)).1;rw [hb0,List.length_take,h9];rfl),fun c hc=>(HM.out.2.2.2.2.2.2.2.1.at a (by have:=HO1.out.1;omega)).2 c (by rw [←hb0];exact List.mem_of_mem_take hc)⟩
  clear hx0_ hc0_ hb0
  go_upto_region 4 with fail
  refine wp_region_lit ?_
  refine wm 6 v1 ?_
  refine wl rfl _ _ (yD5 (.tmp 25) (.const (.int .i64 0)) rfl _ _ _ rfl rfl HX0.out.1) ?_
  refine wl rfl _ _ (yA3 f133_0 (.tmp 26) rfl g (0 * 64) rfl) ?_
  simp only [Act.put,aS,aC,aZ]
  refine wl rfl _ _ (yA9 ag129 (.tmp 27) rfl g (0 * 64+0) rfl (yA0 (b0.take 56)) (by rw [yA1];exact HX0.out.2.2.2.1) HX0.out.2.1) ?_
  simp only [Act.put,aS,aC,aZ]
  refine yA5 eN64 [.tmp 28] _ rfl rfl [(av (b0.take 56))] rfl ?_
  refine (label_any (b0.take 56) HX0.out.2.2.2.1 HX0.out.2.2.2.2 w3 (HM.out.2.2.2.2.2.1.later H3.out.below).1).mono ?_
  rintro e w4 ⟨vs,vn,ok,rfl,hb_,hlab_⟩
  refine ⟨_,rfl,?_⟩
  have H4:Hid (Loc w w4 [(q1,86,(tpC gp (d:Nat) sz)),(q2,91,(obC 0 0 0 false [] (.slice none 0 0)))]):=H3.out.later hb_
  have HLB:Hid ((ok=true∧∃id len,labP (b0.take 56)=some (id,len)∧vs=str id∧vn = .int .i64 (len:Nat)∧len<65536)∨(ok=false∧labP (b0.take 56)=none∧(∃id,vs=str id)∧∃z:Nat,vn = .int .i64 (z:Nat)∧z<65536)):=hlab_
  clear hb_ hlab_
  simp only [Act.put,aS,aC,aZ]
  refine wm 29 (.tuple #[vs,vn,(.bool ok)]) ?_
  refine wl rfl _ _ (yA8 (.tmp 24) 0 rfl #[vs,vn,(.bool ok)] rfl vs rfl) ?_
  refine wl rfl _ _ (yA8 (.tmp 24) 1 rfl #[vs,vn,(.bool ok)] rfl vn rfl) ?_
  simp only [Act.put,aS,aC,aZ]
  refine wl rfl _ _ (yA8 (.tmp 24) 2 rfl #[vs,vn,(.bool ok)] rfl (.bool ok) rfl) ?_
  refine wa (.tmp 30) vs ?_
  refine wa (.tmp 31) vn ?_
  simp only [Act.put,aS,aC,aZ]
  refine wa (.tmp 32) (.bool ok) ?_
  simp only [Act.put,aS,aC,aZ]
  refine wpList_nil ?_
  cases ok with
  | false =>
   have HL9:Hid (labP (b0.take 56)=none):=(by rcases HLB.out with ⟨h,_⟩|⟨_,h,_⟩;cases h;exact h)
   go_upto_region 5 with fail
   refine wp_region_lit ?_
   refine wm 10 (.bool false) ?_
   refine wl rfl _ _ (yH3 (.tmp 33) 4 rfl false rfl) ?_
   simp only [Act.put,aS,aC,aZ]
   refine wpList_nil ?_
   go_upto_region 6 with fail
   refine wp_region_lit ?_
   refine wl rfl _ _ (yJ9 rfl) ?_
   simp only [Act.put,aS,aC,aZ]
   refine wlS rfl rfl _ (yB3 ag91 (.tmp 4) (.tmp 35) rfl H4.out 1 rfl (0) rfl (obC 0 0 0 false [] (.slice none 0 0)) rfl rfl (by decide) (yH4 _ _ _ _ _ _ rfl)).1 ?_
   have k_:=H4.out.lay 1 rfl (0) (obC 0 0 0 false [] (.slice none 0 0))
   rw [yB5 _ _ rfl] at k_ ⊢
   obtain ⟨w5,hW_⟩:∃U_:World,U_=w4.setRow q2 (obC 0 0 0 false [] (.slice none 0 0)).toArray:=⟨_,rfl⟩
   rw [←hW_] at k_ ⊢
   have HZ_:Hid (Row w5 q2 91 (obC 0 0 0 false [] (.slice none 0 0))∧Below w.heap.size w w5):=⟨k_.at 1 rfl,k_.below⟩
   clear k_ hW_
   refine wa (.const (.int .i64 4)) (.int .i64 4) ?_
   simp only [Act.put,aS,aC,aZ]
   refine wpList_nil ?_
   go_wp2_with fail
   exact bodyPost_ret (yC9 ag91 Tryd.results66 _ _ q2 91 rfl (obC 0 0 0 false [] (.slice none 0 0)) rfl HZ_.out.1 (.int .i64 4) rfl) rfl (by rw [HPQ.out];exact ⟨HZ_.out.2,Or.inr ⟨rfl,noAt_lab (by rw [←HX0.out.2.2.1];exact HL9.out)⟩⟩)
  | true =>
   obtain ⟨id,len,hlab,hvs,hvn,hlen⟩:∃id len,labP (b0.take 56)=some (id,len)∧vs=str id∧vn = .int .i64 (len:Nat)∧len<65536:=(by rcases HLB.out with ⟨_,h⟩|⟨h,_⟩;exact h;cases h)
   have HL9:Hid (labP ((ct.getD a []).take 56)=some (id,len)):=(by rw [←HX0.out.2.2.1];exact hlab)
   clear hlab HLB
   subst hvs hvn
   obtain ⟨nbl,hnbl⟩:∃n,n=nbP len:=⟨_,rfl⟩
   have hn12:nbl≤12:=hnbl▸nbP_le len
   have HNB:Hid (nbl=nbP len):=hnbl
   clear hnbl
   go_upto_region 5 with fail
   refine wp_region_lit ?_
   refine wm 10 (.bool true) ?_
   refine wl rfl _ _ (yH3 (.tmp 33) 4 rfl true rfl) ?_
   simp only [Act.put,aS,aC,aZ]
   refine wpList_nil ?_
   go_upto_region 7 with fail
   refine wp_region_held (S:=fun X=>Loc w X [(q1,86,(tpC gp (d:Nat) sz)),(q2,91,(obC 0 0 0 false [] (.slice none 0 0)))]) (by kernel_rfl) ?_
   show wpAnyH _ _ _ _ _ 8 (Array.replicate 8 false) _ _
   obtain ⟨X,hX⟩:∃X:World,X = { w4 with drawn:=w4.drawn+1 }:=⟨_,rfl⟩
   rw [←hX]
   have HS_:Loc w X [(q1,86,(tpC gp (d:Nat) sz)),(q2,91,(obC 0 0 0 false [] (.slice none 0 0)))]:=(by rw [hX];exact H4.out.drew)
   obtain ⟨q3,hq_⟩:∃q,q=X.heap.size:=⟨_,rfl⟩
   have k_:=HS_.box 40 (plC 0 0 0 false)
   obtain ⟨Y2,hY_⟩:∃U_:World,U_=X.alloc (.cells (plC 0 0 0 false).toArray 40):=⟨_,rfl⟩
   rw [←hY_,←hq_] at k_
   have HK3:Loc w Y2 [(q1,86,(tpC gp (d:Nat) sz)),(q2,91,(obC 0 0 0 false [] (.slice none 0 0))),(q3,40,(plC 0 0 0 false))]:=k_
   have HK2:Loc w Y2 [(q1,86,(tpC gp (d:Nat) sz)),(q2,91,(obC 0 0 0 false [] (.slice none 0 0)))]:=k_.take 2
   clear k_
   have k_:=HK3.lay 2 rfl (0) (plC (d:Nat) (a:Nat) (nbl:Nat) false)
   rw [yB5 (plC 0 0 0 false) (plC (d:Nat) (a:Nat) (nbl:Nat) false) rfl] at k_
   obtain ⟨w5,hw5_⟩:∃U_:World,U_=Y2.setRow q3 (plC (d:Nat) (a:Nat) (nbl:Nat) false).toArray:=⟨_,rfl⟩
   rw [←hw5_] at k_
   have H5:Hid (Loc w w5 [(q1,86,(tpC gp (d:Nat) sz)),(q2,91,(obC 0 0 0 false [] (.slice none 0 0))),(q3,40,(plC (d:Nat) (a:Nat) (nbl:Nat) false))]):=k_
   clear k_ hX
   have hl9:len≤9223372036854775807:=(by omega)
   apply share
   intro hG
   have hX:True:=trivial
   clear hX
   refine tH 0 36 rfl rfl (gRun rfl _ fun _ h=>yA3 f86_1 (.tmp 2) rfl q1 (0) rfl) HS_ ?_
   refine tH 1 37 rfl rfl (gRun rfl _ fun _ h=>yA7 o3 (.tmp 36) rfl q1 (0+1) rfl (.int .i64 (d:Nat)) ((h.at 0 rfl).at (0+1) _ rfl)) HS_ ?_
   refine tH 2 38 rfl rfl (gRun rfl _ fun _ h=>yA4 (.tmp 1) rfl (.int .i64 (a:Nat)) rfl) HS_ ?_
   simp only [Act.put,aS,aC,aZ]
   refine tH 3 39 rfl rfl (gRun rfl _ fun _ h=>yA4 (.tmp 9) rfl (.int .i64 (len:Nat)) rfl) HS_ ?_
   simp only [Act.put,aS,aC,aZ]
   refine twoH (i:=4) (j:=6) (by kernel_rfl) ?_ ?_
   ·refine yF6 (some 40) rfl rfl rfl 14 _ (yC2 eN14 [.tmp 39] _ rfl [(.int .i64 (len:Nat))] rfl) ?_
    refine (yI4 len hl9 X).mono ?_
    rintro e w_ ⟨rfl,he_⟩
    refine ⟨_,rfl,?_⟩
    rw [←he_,←HNB.out]
    clear he_
    refine ⟨HS_,?_⟩
    simp only [Act.put,aS,aC,aZ]
    refine tH 5 41 rfl rfl (gRun rfl _ fun _ h=>run_build40 (.tmp 37) (.tmp 38) (.tmp 40) rfl _ _ _ rfl rfl rfl) HS_ ?_
    simp only [Act.put,aS,aC,aZ]
    refine oneH (i:=6) (by kernel_rfl) ?_
    refine yG8 (some 11) rfl rfl rfl (ptr X.heap.size) _ (yB6 (plC 0 0 0 false) zero40 rfl) ?_
    rw [←hq_,←hY_]
    refine ⟨HK2,?_⟩
    simp only [Act.put,aS,aC,aZ]
    refine oneH (i:=7) (by kernel_rfl) ?_
    refine opSkipZ rfl rfl rfl _ (yB3 ag40 (.tmp 11) (.tmp 41) rfl HK3 2 rfl (0) rfl (plC (d:Nat) (a:Nat) (nbl:Nat) false) rfl rfl (by show 0+4≤4;decide) (yJ2 _ _ _ _)).1 ?_
    rw [yB5 (plC 0 0 0 false) (plC (d:Nat) (a:Nat) (nbl:Nat) false) rfl,←hw5_]
    refine ⟨H5.out.take 2,?_⟩
    refine wpAnyH_done (by kernel_rfl) ?_ _
    exact hG
   ·refine yG8 (some 11) rfl rfl rfl (ptr X.heap.size) _ (yB6 (plC 0 0 0 false) zero40 rfl) ?_
    rw [←hq_,←hY_]
    refine ⟨HK2,?_⟩
    simp only [Act.put,aS,aC,aZ]
    refine oneH (i:=4) (by kernel_rfl) ?_
    refine yF6 (some 40) rfl rfl rfl 14 _ (yC2 eN14 [.tmp 39] _ rfl [(.int .i64 (len:Nat))] rfl) ?_
    refine (yI4 len hl9 Y2).mono ?_
    rintro e w_ ⟨rfl,he_⟩
    refine ⟨_,rfl,?_⟩
    rw [←he_,←HNB.out]
    clear he_
    refine ⟨HK2,?_⟩
    simp only [Act.put,aS,aC,aZ]
    refine tH 5 41 rfl rfl (gRun rfl _ fun _ h=>run_build40 (.tmp 37) (.tmp 38) (.tmp 40) rfl _ _ _ rfl rfl rfl) HK2 ?_
    simp only [Act.put,aS,aC,aZ]
    refine oneH (i:=7) (by kernel_rfl) ?_
    refine opSkipZ rfl rfl rfl _ (yB3 ag40 (.tmp 11) (.tmp 41) rfl HK3 2 rfl (0) rfl (plC (d:Nat) (a:Nat) (nbl:Nat) false) rfl rfl (by show 0+4≤4;decide) (yJ2 _ _ _ _)).1 ?_
    rw [yB5 (plC 0 0 0 false) (plC (d:Nat) (a:Nat) (nbl:Nat) false) rfl,←hw5_]
    refine ⟨H5.out.take 2,?_⟩
    refine wpAnyH_done (by kernel_rfl) ?_ _
    exact hG
   clear HK3 HK2 HS_ hw5_ hY_ hq_
   go_upto_region 8 with fail
   refine wp_region_lit ?_
   refine wl rfl _ _ (yA9 ag86 (.tmp 2) rfl q1 (0) rfl ((tpC gp (d:Nat) sz)) rfl (yF0 H5.out 0 rfl)) ?_
   refine wm 1 (.int .i64 (a:Nat)) ?_
   refine wl rfl _ _ (yA3 f40_2 (.tmp 11) rfl q3 (0) rfl) ?_
   simp only [Act.put,aS,aC,aZ]
   refine wl rfl _ _ (yA7 o3 (.tmp 45) rfl q3 (0+2) rfl (.int .i64 (nbl:Nat)) ((H5.out.at 2 rfl).at (0+2) _ rfl)) ?_
   simp only [Act.put,aS,aC,aZ]
   refine yA5 eN42 [.tmp 43,.tmp 44,.tmp 46] _ rfl rfl [(.agg ((tpC gp (d:Nat) sz)).toArray),(.int .i64 (a:Nat)),(.int .i64 (nbl:Nat))] rfl ?_
   refine (tread_nat (HM.out.1.below H5.out.below) HM.out.2.1 HM.out.2.2.1 d HM.out.2.2.2.1 HM.out.2.2.2.2.1 sz a nbl (by omega) (by omega)).mono ?_
   rintro e w6 ⟨v2,e2,rfl,hb_,hc_⟩
   refine ⟨_,rfl,?_⟩
   rw [←HM.out.2.2.2.2.2.2.1] at hc_
   have H6:Hid (Loc w w6 [(q1,86,(tpC gp (d:Nat) sz)),(q2,91,(obC 0 0 0 false [] (.slice none 0 0))),(q3,40,(plC (d:Nat) (a:Nat) (nbl:Nat) false))]):=H5.out.later hb_
   have H6R:Hid ((e2=4∧v2 = .slice none 0 0∧ct.length<a+nbl)∨(e2=0∧a+nbl≤ct.length∧AOwn 133 64 w6 w5.heap.size v2 ((ct.drop a).take nbl))):=hc_
   clear hb_ hc_
   simp only [Act.put,aS,aC,aZ]
   refine wm 47 (.tuple #[v2,(.int .i64 e2)]) ?_
   refine wl rfl _ _ (yA8 (.tmp 42) 0 rfl #[v2,(.int .i64 e2)] rfl v2 rfl) ?_
   refine wl rfl _ _ (yA8 (.tmp 42) 1 rfl #[v2,(.int .i64 e2)] rfl (.int .i64 e2) rfl) ?_
   simp only [Act.put,aS,aC,aZ]
   refine wa (.tmp 48) v2 ?_
   refine wa (.tmp 49) (.int .i64 e2) ?_
   simp only [Act.put,aS,aC,aZ]
   refine wpList_nil ?_
   rcases H6R.out with ⟨rfl,rfl,hfar⟩|⟨rfl,hle2,ho2⟩
   ·go_upto_region 9 with fail
    refine wp_region_lit ?_
    refine wm 7 (.int .i64 4) ?_
    refine wl rfl _ _ (yD1 (.tmp 50) (.const (.int .i64 0)) rfl (4) (0) rfl rfl true rfl) ?_
    simp only [Act.put,aS,aC,aZ]
    refine wpList_nil ?_
    go_upto_region 10 with fail
    refine wp_region_lit ?_
    refine wl rfl _ _ (yJ9 rfl) ?_
    refine wm 7 (.int .i64 4) ?_
    simp only [Act.put,aS,aC,aZ]
    refine wlS rfl rfl _ (yB3 ag91 (.tmp 4) (.tmp 52) rfl H6.out 1 rfl (0) rfl (obC 0 0 0 false [] (.slice none 0 0)) rfl rfl (by decide) (yH4 _ _ _ _ _ _ rfl)).1 ?_
    have k_:=H6.out.lay 1 rfl (0) (obC 0 0 0 false [] (.slice none 0 0))
    rw [yB5 _ _ rfl] at k_ ⊢
    obtain ⟨w7,hW_⟩:∃U_:World,U_=w6.setRow q2 (obC 0 0 0 false [] (.slice none 0 0)).toArray:=⟨_,rfl⟩
    rw [←hW_] at k_ ⊢
    have HZ_:Hid (Row w7 q2 91 (obC 0 0 0 false [] (.slice none 0 0))∧Below w.heap.size w w7):=⟨k_.at 1 rfl,k_.below⟩
    clear k_ hW_
    refine wa (.tmp 53) (.int .i64 4) ?_
    simp only [Act.put,aS,aC,aZ]
    refine wpList_nil ?_
    go_wp2_with fail
    exact bodyPost_ret (yC9 ag91 Tryd.results66 _ _ q2 91 rfl (obC 0 0 0 false [] (.slice none 0 0)) rfl HZ_.out.1 (.int .i64 4) rfl) rfl (by rw [HPQ.out];exact ⟨HZ_.out.2,Or.inr ⟨rfl,noAt_far HL9.out (by rw [←HNB.out];exact hfar)⟩⟩)
   ·have HO2:Hid (a+nbl≤ct.length∧AOwn 133 64 w6 w5.heap.size v2 ((ct.drop a).take nbl)):=⟨hle2,ho2⟩
    clear hle2 ho2 H6R
    go_upto_region 9 with fail
    refine wp_region_lit ?_
    refine wm 7 (.int .i64 0) ?_
    refine wl rfl _ _ (yD1 (.tmp 50) (.const (.int .i64 0)) rfl (0) (0) rfl rfl false rfl) ?_
    simp only [Act.put,aS,aC,aZ]
    refine wpList_nil ?_
    go_upto_region 11 with fail
    refine wp_region_lit ?_
    refine wl rfl _ _ (yA9 ag40 (.tmp 11) rfl q3 (0) rfl ((plC (d:Nat) (a:Nat) (nbl:Nat) false)) rfl (yF0 H6.out 2 rfl)) ?_
    refine wm 12 v2 ?_
    simp only [Act.put,aS,aC,aZ]
    refine yA5 eN43 [.tmp 55,.tmp 56] _ rfl rfl [(.agg (plC (d:Nat) (a:Nat) (nbl:Nat) false).toArray),v2] rfl ?_
    refine (objectOf_any d a (nbl:Nat) false v2 ((ct.drop a).take nbl) _ w6 HO2.out.2 (by simp;omega) (HM.out.2.2.2.2.2.1.later H6.out.below)).mono ?_
    rintro e w7 ⟨hobj_,hb_⟩
    obtain ⟨d9,a9,l9,id9,vb,ok2,rfl,hvb_,hcon_⟩:∃(d9 a9 l9:Int) (id9:List Nat) (vb:Value) (ok2:Bool),e = .returned (.tuple #[.agg (obC d9 a9 l9 false id9 vb).toArray,.bool ok2])∧vb.oneCell'=true∧((ok2=true∧(d9=(d:Nat)∧a9=(a:Nat)∧l9=(nbl:Nat))∧∃bs,IsObj d a ((ct.drop a).take nbl) id9 bs∧yA2 w7 vb bs∧∀b,vb.ownBlock=some b→w6.heap.size≤b)∨(ok2=false∧NoObj d a ((ct.drop a).take nbl))):=(by
     rcases hobj_ with ⟨i9,bs,v9,e9,h1,h2,h3⟩|⟨e9,h1⟩
     ·exact ⟨_,_,_,_,_,_,e9,(by obtain ⟨p,cc,rfl,_⟩:=h2;rfl),Or.inl ⟨rfl,⟨rfl,rfl,rfl⟩,bs,h1,h2,h3⟩⟩
     ·exact ⟨_,_,_,_,_,_,e9,rfl,Or.inr ⟨rfl,h1⟩⟩)
    refine ⟨_,rfl,?_⟩
    have H7:Hid (Loc w w7 [(q1,86,(tpC gp (d:Nat) sz)),(q2,91,(obC 0 0 0 false [] (.slice none 0 0))),(q3,40,(plC (d:Nat) (a:Nat) (nbl:Nat) false))]∧w6.heap.size≤w7.heap.size∧q2<w6.heap.size):=⟨H6.out.later hb_,hb_.size,(H6.out.at 1 rfl).lt⟩
    have HC7:Hid (vb.oneCell'=true∧((ok2=true∧(d9=(d:Nat)∧a9=(a:Nat)∧l9=(nbl:Nat))∧∃bs,IsObj d a ((ct.drop a).take nbl) id9 bs∧yA2 w7 vb bs∧∀b,vb.ownBlock=some b→w6.heap.size≤b)∨(ok2=false∧NoObj d a ((ct.drop a).take nbl)))):=⟨hvb_,hcon_⟩
    clear hb_ hobj_ hvb_ hcon_
    simp only [Act.put,aS,aC,aZ]
    refine wm 57 (.tuple #[(.agg (obC d9 a9 l9 false id9 vb).toArray),(.bool ok2)]) ?_
    refine wl rfl _ _ (yA8 (.tmp 54) 0 rfl #[(.agg (obC d9 a9 l9 false id9 vb).toArray),(.bool ok2)] rfl (.agg (obC d9 a9 l9 false id9 vb).toArray) rfl) ?_
    refine wl rfl _ _ (yA8 (.tmp 54) 1 rfl #[(.agg (obC d9 a9 l9 false id9 vb).toArray),(.bool ok2)] rfl (.bool ok2) rfl) ?_
    simp only [Act.put,aS,aC,aZ]
    refine wl rfl _ _ (yB6 (obC 0 0 0 false [] (.slice none 0 0)) zero91 rfl) ?_
    have k_:=H7.out.1.box 91 (obC 0 0 0 false [] (.slice none 0 0))
    have hb_:=yB2 w7 (.cells (obC 0 0 0 false [] (.slice none 0 0)).toArray 91)
    obtain ⟨w8,hW_⟩:∃U_:World,U_=w7.alloc (.cells (obC 0 0 0 false [] (.slice none 0 0)).toArray 91):=⟨_,rfl⟩
    obtain ⟨q4,hq_⟩:∃q,q=w7.heap.size:=⟨_,rfl⟩
    rw [←hW_,←hq_] at k_
    rw [←hW_] at hb_
    rw [←hW_,←hq_]
    have H8:Hid (Loc w w8 [(q1,86,(tpC gp (d:Nat) sz)),(q2,91,(obC 0 0 0 false [] (.slice none 0 0))),(q3,40,(plC (d:Nat) (a:Nat) (nbl:Nat) false)),(q4,91,(obC 0 0 0 false [] (.slice none 0 0)))]∧Below w7.heap.size w7 w8∧q4=w7.heap.size):=⟨k_,hb_,hq_⟩
    clear k_ hW_ hq_ hb_
    simp only [Act.put,aS,aC,aZ]
    refine wlS rfl rfl _ (yB3 ag91 (.tmp 13) (.tmp 58) rfl H8.out.1 3 rfl (0) rfl (obC d9 a9 l9 false id9 vb) rfl rfl (by show 0+6≤6;decide) (yH4 _ _ _ _ _ _ HC7.out.1)).1 ?_
    have k_:=H8.out.1.lay 3 rfl (0) (obC d9 a9 l9 false id9 vb)
    have c_:=(Ch.setRow (S:=(· = q4)) (Ch.refl _ w8) (Or.inl rfl) (splice (obC 0 0 0 false [] (.slice none 0 0)) 0 (obC d9 a9 l9 false id9 vb)).toArray)
    rw [yB5 (obC 0 0 0 false [] (.slice none 0 0)) (obC d9 a9 l9 false id9 vb) rfl] at k_ c_ ⊢
    obtain ⟨w9,hW_⟩:∃U_:World,U_=w8.setRow q4 (obC d9 a9 l9 false id9 vb).toArray:=⟨_,rfl⟩
    rw [←hW_] at k_ c_ ⊢
    have H9:Hid (Loc w w9 [(q1,86,(tpC gp (d:Nat) sz)),(q2,91,(obC 0 0 0 false [] (.slice none 0 0))),(q3,40,(plC (d:Nat) (a:Nat) (nbl:Nat) false)),(q4,91,(obC d9 a9 l9 false id9 vb))]∧Below w7.heap.size w7 w9):=⟨k_,H8.out.2.1.trans (c_.below H8.out.2.1.size fun b hb e=>by have:=H8.out.2.2;omega)⟩
    clear k_ c_ hW_ H8
    refine wa (.tmp 59) (.bool ok2) ?_
    simp only [Act.put,aS,aC,aZ]
    refine wpList_nil ?_
    cases ok2 with
    | false =>
     have HN9:Hid (NoObj d a ((ct.drop a).take nbl)):=(by rcases HC7.out.2 with ⟨h,_⟩|⟨_,h⟩;cases h;exact h)
     go_upto_region 12 with fail
     refine wp_region_lit ?_
     refine wm 10 (.bool false) ?_
     refine wl rfl _ _ (yH3 (.tmp 60) 4 rfl false rfl) ?_
     simp only [Act.put,aS,aC,aZ]
     refine wpList_nil ?_
     go_upto_region 13 with fail
     refine wp_region_lit ?_
     refine wl rfl _ _ (yJ9 rfl) ?_
     simp only [Act.put,aS,aC,aZ]
     refine wlS rfl rfl _ (yB3 ag91 (.tmp 4) (.tmp 62) rfl H9.out.1 1 rfl (0) rfl (obC 0 0 0 false [] (.slice none 0 0)) rfl rfl (by decide) (yH4 _ _ _ _ _ _ rfl)).1 ?_
     have k_:=H9.out.1.lay 1 rfl (0) (obC 0 0 0 false [] (.slice none 0 0))
     rw [yB5 _ _ rfl] at k_ ⊢
     obtain ⟨w10,hW_⟩:∃U_:World,U_=w9.setRow q2 (obC 0 0 0 false [] (.slice none 0 0)).toArray:=⟨_,rfl⟩
     rw [←hW_] at k_ ⊢
     have HZ_:Hid (Row w10 q2 91 (obC 0 0 0 false [] (.slice none 0 0))∧Below w.heap.size w w10):=⟨k_.at 1 rfl,k_.below⟩
     clear k_ hW_
     refine wa (.const (.int .i64 4)) (.int .i64 4) ?_
     simp only [Act.put,aS,aC,aZ]
     refine wpList_nil ?_
     go_wp2_with fail
     exact bodyPost_ret (yC9 ag91 Tryd.results66 _ _ q2 91 rfl (obC 0 0 0 false [] (.slice none 0 0)) rfl HZ_.out.1 (.int .i64 4) rfl) rfl (by rw [HPQ.out];exact ⟨HZ_.out.2,Or.inr ⟨rfl,noAt_obj HL9.out (by rw [←HNB.out];exact HN9.out)⟩⟩)
    | true =>
     obtain ⟨⟨rfl,rfl,rfl⟩,bs,hio,hsi,hvo⟩:(d9=(d:Nat)∧a9=(a:Nat)∧l9=(nbl:Nat))∧∃bs,IsObj d a ((ct.drop a).take nbl) id9 bs∧yA2 w7 vb bs∧∀b,vb.ownBlock=some b→w6.heap.size≤b:=(by rcases HC7.out.2 with ⟨_,h⟩|⟨h,_⟩;exact h;cases h)
     have HOK:Hid (IsObj d a ((ct.drop a).take nbl) id9 bs∧yA2 w7 vb bs∧(∀b,vb.ownBlock=some b→w6.heap.size≤b)∧vb.oneCell'=true):=⟨hio,hsi,hvo,HC7.out.1⟩
     clear hio hsi hvo HC7
     go_upto_region 12 with fail
     refine wp_region_lit ?_
     refine wm 10 (.bool true) ?_
     refine wl rfl _ _ (yH3 (.tmp 60) 4 rfl true rfl) ?_
     simp only [Act.put,aS,aC,aZ]
     refine wpList_nil ?_
     go_upto_region 14 with fail
     refine wp_region_lit ?_
     refine wl rfl _ _ (yA9 ag91 (.tmp 13) rfl q4 (0) rfl ((obC (d:Nat) (a:Nat) (nbl:Nat) false id9 vb)) rfl (yF0 H9.out.1 3 rfl)) ?_
     simp only [Act.put,aS,aC,aZ]
     refine wlS rfl rfl _ (yB3 ag91 (.tmp 4) (.tmp 63) rfl H9.out.1 1 rfl (0) rfl (obC (d:Nat) (a:Nat) (nbl:Nat) false id9 vb) rfl rfl (by show 0+6≤6;decide) (yH4 _ _ _ _ _ _ HOK.out.2.2.2)).1 ?_
     have k_:=H9.out.1.lay 1 rfl (0) (obC (d:Nat) (a:Nat) (nbl:Nat) false id9 vb)
     have c_:=(Ch.setRow (S:=(· = q2)) (Ch.refl _ w9) (Or.inl rfl) (splice (obC 0 0 0 false [] (.slice none 0 0)) 0 (obC (d:Nat) (a:Nat) (nbl:Nat) false id9 vb)).toArray)
     rw [yB5 (obC 0 0 0 false [] (.slice none 0 0)) (obC (d:Nat) (a:Nat) (nbl:Nat) false id9 vb) rfl] at k_ c_ ⊢
     obtain ⟨w10,hW_⟩:∃U_:World,U_=w9.setRow q2 (obC (d:Nat) (a:Nat) (nbl:Nat) false id9 vb).toArray:=⟨_,rfl⟩
     rw [←hW_] at k_ c_ ⊢
     have HZ_:Hid (Row w10 q2 91 (obC (d:Nat) (a:Nat) (nbl:Nat) false id9 vb)∧Below w.heap.size w w10∧yA2 w10 vb bs):=⟨k_.at 1 rfl,k_.below,sliceK (HOK.out.2.1.later H9.out.2) fun b e hb=>c_.block b hb (fun e2=>by have:=HOK.out.2.2.1 b e;have:=H7.out.2.2;omega)⟩
     clear k_ c_ hW_
     refine wa (.const (.int .i64 0)) (.int .i64 0) ?_
     simp only [Act.put,aS,aC,aZ]
     refine wpList_nil ?_
     go_wp2_with fail
     have hfin:=objAt_of HO2.out.1 HOK.out.1
     exact bodyPost_ret (yC9 ag91 Tryd.results66 _ _ q2 91 rfl (obC (d:Nat) (a:Nat) (nbl:Nat) false id9 vb) rfl HZ_.out.1 (.int .i64 0) rfl) rfl (by rw [HPQ.out];exact ⟨HZ_.out.2.1,Or.inl ⟨id9,bs,vb,(by rw [←hfin.1]),hfin.2,HZ_.out.2.2,fun b e=>Nat.le_trans H6.out.below.size (HOK.out.2.2.1 b e)⟩⟩)
end Go.Proofs.YtpkkkkomdblpoaaDoor

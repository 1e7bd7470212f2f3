/- Layer 15: an object appended. Layer 15: the object at a block, the power being off. Layer 15: rows of structs. -/
import Derived.Test.YtpkkkkomdblpoaaDoorS27
namespace Go.Proofs.YtpkkkkomdblpoaaDoor
open Go.RowKit Go.Maps
open Cold
theorem sliceKn {W W':World} {v:Value} {cs:List Nat} {S:Nat→Prop} (h:yA2 W v cs) (hn:cs=[]∨∀b,v.ownBlock=some b→¬ S b) (hc:Ch S W W'):yA2 W' v cs:=by
 rcases hn with rfl|hn
 ·obtain ⟨p,cap,rfl,hl,_⟩:=h
  exact ⟨p,cap,rfl,hl,Or.inl rfl⟩
 ·exact sliceK h fun b e hb=>hc.block b hb (hn b e)
theorem share2 {P G:World→Nat→Prop} {T:Prop} (k:(∀W q,P W q→G W q)→T) (h:∀W q,P W q→G W q):T:=k h
theorem run_build91o {w:World} {a:Act} {o:Oper} (x y z:Operand) (ho:o.op = .build 91 #[(0,x),(1,y),(2,z)]) (d t l:Int) (b:Bool) (id:List Nat) (p:Option Addr) (n k:Nat) (hx:a.eval x = .agg (plC d t l b).toArray) (hy:a.eval y=str id) (hz:a.eval z = .slice p n k):(execOp a.eval o).run Tryd.prog w = .ok (.value (.agg (obC d t l b id (.slice p n k)).toArray)) w:=by
 have:=run_build91 w d t l b id p n k
 simp [execOp,ho,hx,hy,hz,this]
def AppR (w w':World) (c:Nat→Colour) (t gp gv d:Nat) (sz:Int) (m:Pl) (rt:List Nat) (sl:Bool) (id bs:List Nat) (e:Ending):Prop :=
 (nameB id=false∧e = .returned (.tuple #[.agg (plC 0 0 0 false).toArray,.int .i64 1])∧Below w.heap.size w w') ∨
 (nameB id=true∧512<bs.length∧e = .returned (.tuple #[.agg (plC 0 0 0 false).toArray,.int .i64 5])∧Below w.heap.size w w') ∨
 (nameB id=true∧bs.length≤512∧∃rt2 sl2 er,SlR m.on d (ctn m d) rt sl rt2 sl2 er ∧
  ((roomP sz (ctn m d).length sl2<nb bs.length∧e = .returned (.tuple #[.agg (plC 0 0 0 false).toArray,.int .i64 3])∧VolW w' c t gp gv d sz m rt2 sl2∧Ch (· = gv) w w') ∨
  (nb bs.length≤roomP sz (ctn m d).length sl2∧∃c',(e = .returned (if (m.lays (d:Nat) (blks d (ctn m d).length id bs)).1=0 then .tuple #[.agg (plC (d:Nat) ((ctn m d).length:Nat) (nb bs.length:Nat) false).toArray,.int .i64 0] else .tuple #[.agg (plC 0 0 0 false).toArray,.int .i64 (m.lays (d:Nat) (blks d (ctn m d).length id bs)).1])) ∧
   (∀b,b<w.heap.size→c' b=c b)∧Ch (fun b=>b=gv∨(c b).1=t) w w'∧VolW w' c' t gp gv d sz (m.lays (d:Nat) (blks d (ctn m d).length id bs)).2 rt2 sl2)))
set_option maxHeartbeats 4000000 in
set_option maxRecDepth 100000 in
theorem vappend_any {w:World} {c:Nat→Colour} {t gp gv d:Nat} {sz:Int} {m:Pl} {rt:List Nat} {sl:Bool} (h:VolW w c t gp gv d sz m rt sl) (hst:m.steps+100<35184372088831) (id bs:List Nat) (vb:Value) (hid:∀c∈id,c<256) (hil:id.length≤1000) (hin:yA2 w vb bs) (hvg:bs=[]∨∀b,vb.ownBlock=some b→b≠gv):Calls Tryd.prog 12 #[ptr gv,str id,vb] w fun e w'=>AppR w w' c t gp gv d sz m rt sl id bs e:=by
 obtain ⟨n,hn⟩:∃n,n=(ctn m d).length:=⟨_,rfl⟩
 have HM:Hid (VolW w c t gp gv d sz m rt sl∧m.steps+100<35184372088831∧(∀c∈id,c<256)∧id.length≤1000∧yA2 w vb bs∧(bs=[]∨∀b,vb.ownBlock=some b→b≠gv)∧n=(ctn m d).length∧gv<w.heap.size∧3≤w.heap.size):=⟨h,hst,hid,hil,hin,hvg,hn,h.row.lt,by have:=h.row.lt;have:=h.far;omega⟩
 have hbl:bs.length≤9223372036854775807:=by obtain ⟨_,_,_,⟨_,h9⟩,_⟩:=hin;exact h9
 have hnl:n≤4096:=by rw [hn];exact h.bound.1
 obtain ⟨vp,vcap,hvb⟩:∃p k,vb = .slice p bs.length k:=by obtain ⟨p,k,e,_⟩:=hin;exact ⟨p,k,e⟩
 have H0:Hid (Loc w w []):=Loc.nil (Below.refl _ _)
 clear h hst hid hil hin hvg hn
 obtain ⟨PQ,HPQ⟩:=exPQ fun (e:Ending) (w':World)=>AppR w w' c t gp gv d sz m rt sl id bs e
 rw [←HPQ.out]
 go_enter Tryd.func12,Tryd.ntmps12
 go_upto_region 0 with fail
 refine wp_region_lit ?_
 refine wl rfl _ _ (yB6 ((plC 0 0 0 false)) zero40 rfl) ?_
 have k_:=H0.out.box 40 ((plC 0 0 0 false))
 obtain ⟨w1,hW_⟩:∃W,W=w.alloc (.cells ((plC 0 0 0 false)).toArray 40):=⟨_,rfl⟩
 obtain ⟨q6,hq_⟩:∃q,q=w.heap.size:=⟨_,rfl⟩
 rw [←hW_,←hq_] at k_
 rw [←hW_,←hq_]
 clear hq_
 have Rw1:Hid (Loc w w1 [(q6,40,(plC 0 0 0 false))]):=k_
 clear k_ hW_ H0
 simp only [Act.put,aS,aC,aZ]
 refine wa (.const (.int .i64 0)) (.int .i64 0) ?_
 simp only [Act.put,aS,aC,aZ]
 refine wpList_nil ?_
 go_upto_region 1 with fail
 refine wp_region_lit ?_
 refine wm 1 (str id) ?_
 simp only [Act.put,aS,aC,aZ]
 refine yA5 eN37 [.tmp 12] _ rfl rfl [(str id)] rfl ?_
 refine (isName_any id HM.out.2.2.1 w1).mono ?_
 rintro e w2 ⟨rfl,hb_⟩
 refine ⟨_,rfl,?_⟩
 obtain ⟨nm,hnm⟩:∃b,b=nameB id:=⟨_,rfl⟩
 have HNM:Hid (nm=nameB id):=hnm
 rw [←hnm]
 clear hnm
 have H2:Hid (Loc w w2 [(q6,40,(plC 0 0 0 false))]):=Rw1.out.later hb_
 clear hb_ Rw1
 simp only [Act.put,aS,aC,aZ]
 refine wl rfl _ _ (yH3 (.tmp 13) 4 rfl nm rfl) ?_
 refine wa (.tmp 14) (.bool (!nm)) ?_
 simp only [Act.put,aS,aC,aZ]
 refine wpList_nil ?_
 cases nm with
 | false =>
  go_upto_region 2 with fail
  refine wp_region_lit ?_
  refine wl rfl _ _ (run_build40z rfl) ?_
  simp only [Act.put,aS,aC,aZ]
  refine wlS rfl rfl _ (yB3 ag40 (.tmp 6) (.tmp 15) rfl H2.out 0 rfl (0) rfl ((plC 0 0 0 false)) rfl rfl (by decide) (yJ2 _ _ _ _)).1 ?_
  have k_:=H2.out.lay 0 rfl (0) ((plC 0 0 0 false))
  rw [yB5 (plC 0 0 0 false) (plC 0 0 0 false) rfl] at k_ ⊢
  obtain ⟨w9,hW_⟩:∃W,W=w2.setRow q6 ((plC 0 0 0 false)).toArray:=⟨_,rfl⟩
  rw [←hW_] at k_ ⊢
  have Rw9:Hid (Loc w w9 [(q6,40,(plC 0 0 0 false))]):=k_
  clear k_ hW_ H2
  refine wa (.const (.int .i64 1)) (.int .i64 1) ?_
  simp only [Act.put,aS,aC,aZ]
  refine wpList_nil ?_
  go_wp2_with fail
  exact bodyPost_ret (yC9 ag40 Tryd.results12 _ _ q6 40 rfl (plC 0 0 0 false) rfl (Rw9.out.at 0 rfl) (.int .i64 1) rfl) rfl (by rw [HPQ.out];exact Or.inl ⟨HNM.out.symm,rfl,Rw9.out.below⟩)
 | true =>
  by_cases hlong:512<bs.length
  ·go_upto_region 3 with fail
   refine wp_region_lit ?_
   refine wm 2 vb ?_
   refine wl rfl _ _ (yI9 HM.out.2.2.2.2.1 (.tmp 17) rfl rfl) ?_
   refine wl rfl _ _ (yH6 (.tmp 18) (.const (.int .i64 512)) rfl (bs.length:Nat) 512 rfl rfl true (decide_eq_true (by omega))) ?_
   simp only [Act.put,aS,aC,aZ]
   refine wa (.tmp 19) (.bool true) ?_
   simp only [Act.put,aS,aC,aZ]
   refine wpList_nil ?_
   go_upto_region 4 with fail
   refine wp_region_lit ?_
   refine wl rfl _ _ (run_build40z rfl) ?_
   simp only [Act.put,aS,aC,aZ]
   refine wlS rfl rfl _ (yB3 ag40 (.tmp 6) (.tmp 20) rfl H2.out 0 rfl (0) rfl ((plC 0 0 0 false)) rfl rfl (by decide) (yJ2 _ _ _ _)).1 ?_
   have k_:=H2.out.lay 0 rfl (0) ((plC 0 0 0 false))
   rw [yB5 (plC 0 0 0 false) (plC 0 0 0 false) rfl] at k_ ⊢
   obtain ⟨w9,hW_⟩:∃W,W=w2.setRow q6 ((plC 0 0 0 false)).toArray:=⟨_,rfl⟩
   rw [←hW_] at k_ ⊢
   have Rw9:Hid (Loc w w9 [(q6,40,(plC 0 0 0 false))]):=k_
   clear k_ hW_ H2
   refine wa (.const (.int .i64 5)) (.int .i64 5) ?_
   simp only [Act.put,aS,aC,aZ]
   refine wpList_nil ?_
   go_wp2_with fail
   exact bodyPost_ret (yC9 ag40 Tryd.results12 _ _ q6 40 rfl (plC 0 0 0 false) rfl (Rw9.out.at 0 rfl) (.int .i64 5) rfl) rfl (by rw [HPQ.out];exact Or.inr (Or.inl ⟨HNM.out.symm,hlong,rfl,Rw9.out.below⟩))
  ·go_upto_region 3 with fail
   refine wp_region_lit ?_
   refine wm 2 vb ?_
   refine wl rfl _ _ (yI9 HM.out.2.2.2.2.1 (.tmp 17) rfl rfl) ?_
   refine wl rfl _ _ (yH6 (.tmp 18) (.const (.int .i64 512)) rfl (bs.length:Nat) 512 rfl rfl false (decide_eq_false (by omega))) ?_
   simp only [Act.put,aS,aC,aZ]
   refine wa (.tmp 19) (.bool false) ?_
   simp only [Act.put,aS,aC,aZ]
   refine wpList_nil ?_
   skip
   go_upto_region 5 with fail
   refine wp_region_lit ?_
   refine wm 0 (ptr gv) ?_
   simp only [Act.put,aS,aC,aZ]
   have HV:VolW w2 c t gp gv d sz m rt sl:=HM.out.1.below H2.out.below
   have hge_:w.heap.size≤q6:=H2.out.ge 0 rfl
   refine yA5 eN23 [.tmp 22] _ rfl rfl [(ptr gv)] rfl ?_
   refine (room_any HV (by have:=HM.out.2.1;omega)).mono ?_
   rintro e w3 ⟨rt2,sl2,er,rfl,hv_,hc_,hs_⟩
   obtain ⟨rm,hrm⟩:∃r,r=roomP sz (ctn m d).length sl2:=⟨_,rfl⟩
   rw [←hrm]
   refine ⟨_,rfl,?_⟩
   have H3:Hid (VolW w3 c t gp gv d sz m rt2 sl2∧Ch (· = gv) w w3∧SlR m.on d (ctn m d) rt sl rt2 sl2 er∧Row w3 q6 40 (plC 0 0 0 false)∧w.heap.size≤q6∧q6≠gv∧(c q6).1≠t∧yA2 w3 vb bs∧rm=roomP sz (ctn m d).length sl2):=⟨hv_,(Ch.of_below H2.out.below).trans' hc_ (fun _ _ h=>h),hs_,hc_.row (fun e=>by have:=HM.out.2.2.2.2.2.2.2.1;omega) (H2.out.at 0 rfl),hge_,(by have:=HM.out.2.2.2.2.2.2.2.1;omega),HM.out.1.live.2.2 q6 hge_,sliceKn (HM.out.2.2.2.2.1.later H2.out.below) HM.out.2.2.2.2.2.1 hc_,hrm⟩
   clear hv_ hc_ hs_ HV hge_ hrm H2
   simp only [Act.put,aS,aC,aZ]
   refine wm 2 vb ?_
   refine wl rfl _ _ (yI9 HM.out.2.2.2.2.1 (.tmp 24) rfl rfl) ?_
   simp only [Act.put,aS,aC,aZ]
   refine yA5 eN14 [.tmp 25] _ rfl rfl [(.int .i64 (bs.length:Nat))] rfl ?_
   refine (yI4 bs.length (by omega) w3).mono ?_
   rintro e w_ ⟨rfl,rfl⟩
   refine ⟨_,rfl,?_⟩
   rw [show nbP bs.length=nb bs.length by unfold nbP;rw [if_pos (by omega)]]
   obtain ⟨lt,hlt⟩:∃b,decide (((rm:Nat):Int)<((nb bs.length:Nat):Int))=b:=⟨_,rfl⟩
   have HLT:Hid (decide (((rm:Nat):Int)<((nb bs.length:Nat):Int))=lt):=hlt
   clear hlt
   simp only [Act.put,aS,aC,aZ]
   refine wl rfl _ _ (yB8 (.tmp 23) (.tmp 26) rfl (rm:Nat) (nb bs.length:Nat) rfl rfl lt HLT.out) ?_
   refine wa (.tmp 27) (.bool lt) ?_
   simp only [Act.put,aS,aC,aZ]
   refine wpList_nil ?_
   cases lt with
   | true =>
    have Har:Row w3 q6 40 (plC 0 0 0 false):=H3.out.2.2.2.1
    have Hac:=H3.out.2.1
    have Hav:=H3.out.1
    have Hak:=H3.out.2.2.2.2.2.2.1
    go_upto_region 6 with fail
    refine wp_region_lit ?_
    refine wl rfl _ _ (run_build40z rfl) ?_
    simp only [Act.put,aS,aC,aZ]
    refine wlS rfl rfl _ (yE6 ag40 (.tmp 6) (.tmp 28) rfl q6 40 rfl (plC 0 0 0 false) _ rfl rfl Har rfl (yJ2 _ _ _ _)) ?_
    have r_:=(Har).setRow (plC 0 0 0 false)
    have c_:=(Ch.setRow (S:=(· = q6)) (Ch.refl _ w3) (Or.inl rfl) (plC 0 0 0 false).toArray)
    have c2_:=(Hac).setRow (g:=q6) (Or.inr H3.out.2.2.2.2.1) (plC 0 0 0 false).toArray
    obtain ⟨w9,hW_⟩:∃U_:World,U_=w3.setRow q6 (plC 0 0 0 false).toArray:=⟨_,rfl⟩
    rw [←hW_] at r_ c_ c2_ ⊢
    have H9r:Row w9 q6 40 (plC 0 0 0 false):=r_
    have H9c:=c2_
    have H9v:=(Hav).new c_ H3.out.2.2.2.2.2.1 (Hak) (by have:=HM.out.2.2.2.2.2.2.2.2;have:=H3.out.2.2.2.2.1;omega)
    clear r_ c_ c2_ hW_
    refine wa (.const (.int .i64 3)) (.int .i64 3) ?_
    simp only [Act.put,aS,aC,aZ]
    refine wpList_nil ?_
    go_wp2_with fail
    exact bodyPost_ret (yC9 ag40 Tryd.results12 _ _ q6 40 rfl (plC 0 0 0 false) rfl H9r (.int .i64 3) rfl) rfl (by rw [HPQ.out];exact Or.inr (Or.inr ⟨HNM.out.symm,by omega,rt2,sl2,er,H3.out.2.2.1,Or.inl ⟨by have h1:=of_decide_eq_true HLT.out;rw [←H3.out.2.2.2.2.2.2.2.2];omega,rfl,H9v,H9c⟩⟩))
   | false =>
    have hst7:m.steps<35184372088831:=(by have:=HM.out.2.1;omega)
    have hb14:bs.length≤9223372036854775807:=(by omega)
    have hnb14:nbP bs.length=nb bs.length:=(by unfold nbP;rw [if_pos (by omega)])
    have hlen7:m.len d=n:=(by rw [HM.out.2.2.2.2.2.2.1];exact ctn_len HM.out.1.tape)
    go_upto_region 7 with fail
    refine wp_region_held (S:=fun X=>VolW X c t gp gv d sz m rt2 sl2∧Row X q6 40 (plC 0 0 0 false)) (by kernel_rfl) ?_
    show wpAnyH _ _ _ _ _ 16 (Array.replicate 16 false) _ _
    obtain ⟨X,hX⟩:∃X:World,X = { w3 with drawn:=w3.drawn+1 }:=⟨_,rfl⟩
    rw [←hX]
    have HS_:VolW X c t gp gv d sz m rt2 sl2∧Row X q6 40 (plC 0 0 0 false):=(by rw [hX];exact ⟨H3.out.1.below ⟨rfl,rfl,rfl,Nat.le_refl _,fun _ _=>rfl⟩,H3.out.2.2.2.1.later ⟨rfl,rfl,rfl,Nat.le_refl _,fun _ _=>rfl⟩ H3.out.2.2.2.1.lt⟩)
    have HB_:Below w3.heap.size w3 X:=(by rw [hX];exact ⟨rfl,rfl,rfl,Nat.le_refl _,fun _ _=>rfl⟩)
    clear hX
    apply share2 (P:=fun W q=>Hid (VolW W c t gp gv d sz m rt2 sl2∧Row W q6 40 (plC 0 0 0 false)∧Row W q 40 (plC (d:Nat) (n:Nat) (nb bs.length:Nat) false)∧Below w3.heap.size w3 W∧w3.heap.size≤q∧q≠q6))
    intro hG
    have hX:True:=trivial
    clear hX
    refine tH 0 29 rfl rfl (gRun rfl _ fun _ h=>yA4 (.tmp 0) rfl (ptr gv) rfl) HS_ ?_
    refine tH 1 30 rfl rfl (gRun rfl _ fun _ h=>yF8 (.tmp 29) rfl ⟨gv,0,none⟩ rfl) HS_ ?_
    refine tH 2 31 rfl rfl (gRun rfl _ fun _ h=>yA3 f88_0 (.tmp 30) rfl gv (0) rfl) HS_ ?_
    simp only [Act.put,aS,aC,aZ]
    refine tH 3 32 rfl rfl (gRun rfl _ fun _ h=>yA3 f86_1 (.tmp 31) rfl gv (0+0) rfl) HS_ ?_
    refine tH 4 33 rfl rfl (gRun rfl _ fun _ h=>yA7 o3 (.tmp 32) rfl gv (0+0+1) rfl (.int .i64 (d:Nat)) (h.1.row.at (0+0+1) _ (vC_1 _ _ _ _ _))) HS_ ?_
    refine tH 5 34 rfl rfl (gRun rfl _ fun _ h=>yA4 (.tmp 0) rfl (ptr gv) rfl) HS_ ?_
    simp only [Act.put,aS,aC,aZ]
    refine tH 6 35 rfl rfl (gRun rfl _ fun _ h=>yF8 (.tmp 34) rfl ⟨gv,0,none⟩ rfl) HS_ ?_
    refine tH 7 36 rfl rfl (gRun rfl _ fun _ h=>yA3 f88_0 (.tmp 35) rfl gv (0) rfl) HS_ ?_
    refine tH 8 37 rfl rfl (gRun rfl _ fun _ h=>yA9 ag86 (.tmp 36) rfl gv (0+0) rfl ((tpC gp (d:Nat) sz)) rfl (fun j v hj=>by rw [show 0+0+j=j by omega];exact h.1.row.at j v (vC_tape _ _ _ _ _ j v hj))) HS_ ?_
    simp only [Act.put,aS,aC,aZ]
    refine tH 10 39 rfl rfl (gRun rfl _ fun _ h=>yA4 (.tmp 2) rfl vb rfl) HS_ ?_
    refine tH 11 40 rfl rfl (gRun rfl _ fun _ h=>yI9 HM.out.2.2.2.2.1 (.tmp 39) rfl rfl) HS_ ?_
    simp only [Act.put,aS,aC,aZ]
    refine twoH (i:=9) (j:=14) (by kernel_rfl) ?_ ?_
    ·refine yF6 (some 38) rfl rfl rfl 38 _ (yC2 eN38 [.tmp 37] _ rfl [(.agg (tpC gp (d:Nat) sz).toArray)] rfl) ?_
     refine (tlen_any HS_.1.live hst7 d HM.out.1.dev sz).mono ?_
     rintro e X1 ⟨rfl,hb_⟩
     refine ⟨_,rfl,?_⟩
     rw [hlen7]
     replace HS_:VolW X1 c t gp gv d sz m rt2 sl2∧Row X1 q6 40 (plC 0 0 0 false):=⟨HS_.1.below hb_,HS_.2.later hb_ HS_.2.lt⟩
     replace HB_:=HB_.trans (hb_.mono HB_.size)
     clear hb_
     refine ⟨HS_,?_⟩
     simp only [Act.put,aS,aC,aZ]
     refine twoH (i:=12) (j:=14) (by kernel_rfl) ?_ ?_
     ·refine yF6 (some 41) rfl rfl rfl 14 _ (yC2 eN14 [.tmp 40] _ rfl [(.int .i64 (bs.length:Nat))] rfl) ?_
      refine (yI4 bs.length hb14 X1).mono ?_
      rintro e w_ ⟨rfl,he_⟩
      refine ⟨_,rfl,?_⟩
      rw [←he_,hnb14]
      clear he_
      refine ⟨HS_,?_⟩
      simp only [Act.put,aS,aC,aZ]
      refine tH 13 42 rfl rfl (gRun rfl _ fun _ h=>run_build40 (.tmp 33) (.tmp 38) (.tmp 41) rfl _ _ _ rfl rfl rfl) HS_ ?_
      simp only [Act.put,aS,aC,aZ]
      refine oneH (i:=14) (by kernel_rfl) ?_
      refine yG8 (some 8) rfl rfl rfl (ptr X1.heap.size) _ (yB6 (plC 0 0 0 false) zero40 rfl) ?_
      have hb_:=yB2 X1 (.cells (plC 0 0 0 false).toArray 40)
      have HQ_:=Row.new X1 40 (plC 0 0 0 false)
      obtain ⟨X2,hW_⟩:∃U_:World,U_=X1.alloc (.cells (plC 0 0 0 false).toArray 40):=⟨_,rfl⟩
      obtain ⟨q8,hq_⟩:∃q,q=X1.heap.size:=⟨_,rfl⟩
      rw [←hW_] at hb_
      rw [←hW_,←hq_] at HQ_
      rw [←hW_,←hq_]
      have HG_:w3.heap.size≤q8∧q8≠q6:=⟨by rw [hq_];exact HB_.size,fun e=>by have:=HS_.2.lt;omega⟩
      replace HS_:VolW X2 c t gp gv d sz m rt2 sl2∧Row X2 q6 40 (plC 0 0 0 false):=⟨HS_.1.below hb_,HS_.2.later hb_ HS_.2.lt⟩
      replace HB_:=HB_.trans (hb_.mono HB_.size)
      clear hb_ hW_ hq_
      refine ⟨HS_,?_⟩
      simp only [Act.put,aS,aC,aZ]
      refine oneH (i:=15) (by kernel_rfl) ?_
      refine opSkipZ rfl rfl rfl _ (yE6 ag40 (.tmp 8) (.tmp 42) rfl q8 40 rfl (plC (d:Nat) (n:Nat) (nb bs.length:Nat) false) _ rfl rfl HQ_ rfl (yJ2 _ _ _ _)) ?_
      have r_:=HQ_.setRow (plC (d:Nat) (n:Nat) (nb bs.length:Nat) false)
      have c_:=(Ch.setRow (S:=(· = q8)) (Ch.refl _ X2) (Or.inl rfl) (plC (d:Nat) (n:Nat) (nb bs.length:Nat) false).toArray)
      obtain ⟨X3,hW_⟩:∃U_:World,U_=X2.setRow q8 (plC (d:Nat) (n:Nat) (nb bs.length:Nat) false).toArray:=⟨_,rfl⟩
      rw [←hW_] at r_ c_ ⊢
      have hv_:=HS_.1.new c_ (fun e=>by have:=HG_.1;have:=H3.out.1.row.lt;omega) (H3.out.1.live.2.2 q8 HG_.1) (by have:=HG_.1;have:=H3.out.1.row.lt;have:=HM.out.1.far;omega)
      have hr_:=c_.row (fun e=>HG_.2 e.symm) HS_.2
      replace HB_:=HB_.trans (c_.below HB_.size fun b hb e=>by have:=HG_.1;omega)
      replace HS_:VolW X3 c t gp gv d sz m rt2 sl2∧Row X3 q6 40 (plC 0 0 0 false):=⟨hv_,hr_⟩
      clear c_ hW_
      refine ⟨HS_,?_⟩
      refine wpAnyH_done (by kernel_rfl) ?_ _
      exact hG X3 q8 ⟨HS_.1,HS_.2,r_,HB_,HG_.1,HG_.2⟩
     ·refine yG8 (some 8) rfl rfl rfl (ptr X1.heap.size) _ (yB6 (plC 0 0 0 false) zero40 rfl) ?_
      have hb_:=yB2 X1 (.cells (plC 0 0 0 false).toArray 40)
      have HQ_:=Row.new X1 40 (plC 0 0 0 false)
      obtain ⟨X2,hW_⟩:∃U_:World,U_=X1.alloc (.cells (plC 0 0 0 false).toArray 40):=⟨_,rfl⟩
      obtain ⟨q8,hq_⟩:∃q,q=X1.heap.size:=⟨_,rfl⟩
      rw [←hW_] at hb_
      rw [←hW_,←hq_] at HQ_
      rw [←hW_,←hq_]
      have HG_:w3.heap.size≤q8∧q8≠q6:=⟨by rw [hq_];exact HB_.size,fun e=>by have:=HS_.2.lt;omega⟩
      replace HS_:VolW X2 c t gp gv d sz m rt2 sl2∧Row X2 q6 40 (plC 0 0 0 false):=⟨HS_.1.below hb_,HS_.2.later hb_ HS_.2.lt⟩
      replace HB_:=HB_.trans (hb_.mono HB_.size)
      clear hb_ hW_ hq_
      refine ⟨HS_,?_⟩
      simp only [Act.put,aS,aC,aZ]
      refine oneH (i:=12) (by kernel_rfl) ?_
      refine yF6 (some 41) rfl rfl rfl 14 _ (yC2 eN14 [.tmp 40] _ rfl [(.int .i64 (bs.length:Nat))] rfl) ?_
      refine (yI4 bs.length hb14 X2).mono ?_
      rintro e w_ ⟨rfl,he_⟩
      refine ⟨_,rfl,?_⟩
      rw [←he_,hnb14]
      clear he_
      refine ⟨HS_,?_⟩
      simp only [Act.put,aS,aC,aZ]
      refine tH 13 42 rfl rfl (gRun rfl _ fun _ h=>run_build40 (.tmp 33) (.tmp 38) (.tmp 41) rfl _ _ _ rfl rfl rfl) HS_ ?_
      simp only [Act.put,aS,aC,aZ]
      refine oneH (i:=15) (by kernel_rfl) ?_
      refine opSkipZ rfl rfl rfl _ (yE6 ag40 (.tmp 8) (.tmp 42) rfl q8 40 rfl (plC (d:Nat) (n:Nat) (nb bs.length:Nat) false) _ rfl rfl HQ_ rfl (yJ2 _ _ _ _)) ?_
      have r_:=HQ_.setRow (plC (d:Nat) (n:Nat) (nb bs.length:Nat) false)
      have c_:=(Ch.setRow (S:=(· = q8)) (Ch.refl _ X2) (Or.inl rfl) (plC (d:Nat) (n:Nat) (nb bs.length:Nat) false).toArray)
      obtain ⟨X3,hW_⟩:∃U_:World,U_=X2.setRow q8 (plC (d:Nat) (n:Nat) (nb bs.length:Nat) false).toArray:=⟨_,rfl⟩
      rw [←hW_] at r_ c_ ⊢
      have hv_:=HS_.1.new c_ (fun e=>by have:=HG_.1;have:=H3.out.1.row.lt;omega) (H3.out.1.live.2.2 q8 HG_.1) (by have:=HG_.1;have:=H3.out.1.row.lt;have:=HM.out.1.far;omega)
      have hr_:=c_.row (fun e=>HG_.2 e.symm) HS_.2
      replace HB_:=HB_.trans (c_.below HB_.size fun b hb e=>by have:=HG_.1;omega)
      replace HS_:VolW X3 c t gp gv d sz m rt2 sl2∧Row X3 q6 40 (plC 0 0 0 false):=⟨hv_,hr_⟩
      clear c_ hW_
      refine ⟨HS_,?_⟩
      refine wpAnyH_done (by kernel_rfl) ?_ _
      exact hG X3 q8 ⟨HS_.1,HS_.2,r_,HB_,HG_.1,HG_.2⟩
    ·refine yG8 (some 8) rfl rfl rfl (ptr X.heap.size) _ (yB6 (plC 0 0 0 false) zero40 rfl) ?_
     have hb_:=yB2 X (.cells (plC 0 0 0 false).toArray 40)
     have HQ_:=Row.new X 40 (plC 0 0 0 false)
     obtain ⟨X1,hW_⟩:∃U_:World,U_=X.alloc (.cells (plC 0 0 0 false).toArray 40):=⟨_,rfl⟩
     obtain ⟨q8,hq_⟩:∃q,q=X.heap.size:=⟨_,rfl⟩
     rw [←hW_] at hb_
     rw [←hW_,←hq_] at HQ_
     rw [←hW_,←hq_]
     have HG_:w3.heap.size≤q8∧q8≠q6:=⟨by rw [hq_];exact HB_.size,fun e=>by have:=HS_.2.lt;omega⟩
     replace HS_:VolW X1 c t gp gv d sz m rt2 sl2∧Row X1 q6 40 (plC 0 0 0 false):=⟨HS_.1.below hb_,HS_.2.later hb_ HS_.2.lt⟩
     replace HB_:=HB_.trans (hb_.mono HB_.size)
     clear hb_ hW_ hq_
     refine ⟨HS_,?_⟩
     simp only [Act.put,aS,aC,aZ]
     refine oneH (i:=9) (by kernel_rfl) ?_
     refine yF6 (some 38) rfl rfl rfl 38 _ (yC2 eN38 [.tmp 37] _ rfl [(.agg (tpC gp (d:Nat) sz).toArray)] rfl) ?_
     refine (tlen_any HS_.1.live hst7 d HM.out.1.dev sz).mono ?_
     rintro e X2 ⟨rfl,hb_⟩
     refine ⟨_,rfl,?_⟩
     rw [hlen7]
     replace HS_:VolW X2 c t gp gv d sz m rt2 sl2∧Row X2 q6 40 (plC 0 0 0 false):=⟨HS_.1.below hb_,HS_.2.later hb_ HS_.2.lt⟩
     replace HQ_:=HQ_.later hb_ HQ_.lt
     replace HB_:=HB_.trans (hb_.mono HB_.size)
     clear hb_
     refine ⟨HS_,?_⟩
     simp only [Act.put,aS,aC,aZ]
     refine oneH (i:=12) (by kernel_rfl) ?_
     refine yF6 (some 41) rfl rfl rfl 14 _ (yC2 eN14 [.tmp 40] _ rfl [(.int .i64 (bs.length:Nat))] rfl) ?_
     refine (yI4 bs.length hb14 X2).mono ?_
     rintro e w_ ⟨rfl,he_⟩
     refine ⟨_,rfl,?_⟩
     rw [←he_,hnb14]
     clear he_
     refine ⟨HS_,?_⟩
     simp only [Act.put,aS,aC,aZ]
     refine tH 13 42 rfl rfl (gRun rfl _ fun _ h=>run_build40 (.tmp 33) (.tmp 38) (.tmp 41) rfl _ _ _ rfl rfl rfl) HS_ ?_
     simp only [Act.put,aS,aC,aZ]
     refine oneH (i:=15) (by kernel_rfl) ?_
     refine opSkipZ rfl rfl rfl _ (yE6 ag40 (.tmp 8) (.tmp 42) rfl q8 40 rfl (plC (d:Nat) (n:Nat) (nb bs.length:Nat) false) _ rfl rfl HQ_ rfl (yJ2 _ _ _ _)) ?_
     have r_:=HQ_.setRow (plC (d:Nat) (n:Nat) (nb bs.length:Nat) false)
     have c_:=(Ch.setRow (S:=(· = q8)) (Ch.refl _ X2) (Or.inl rfl) (plC (d:Nat) (n:Nat) (nb bs.length:Nat) false).toArray)
     obtain ⟨X3,hW_⟩:∃U_:World,U_=X2.setRow q8 (plC (d:Nat) (n:Nat) (nb bs.length:Nat) false).toArray:=⟨_,rfl⟩
     rw [←hW_] at r_ c_ ⊢
     have hv_:=HS_.1.new c_ (fun e=>by have:=HG_.1;have:=H3.out.1.row.lt;omega) (H3.out.1.live.2.2 q8 HG_.1) (by have:=HG_.1;have:=H3.out.1.row.lt;have:=HM.out.1.far;omega)
     have hr_:=c_.row (fun e=>HG_.2 e.symm) HS_.2
     replace HB_:=HB_.trans (c_.below HB_.size fun b hb e=>by have:=HG_.1;omega)
     replace HS_:VolW X3 c t gp gv d sz m rt2 sl2∧Row X3 q6 40 (plC 0 0 0 false):=⟨hv_,hr_⟩
     clear c_ hW_
     refine ⟨HS_,?_⟩
     refine wpAnyH_done (by kernel_rfl) ?_ _
     exact hG X3 q8 ⟨HS_.1,HS_.2,r_,HB_,HG_.1,HG_.2⟩
    intro w5 q8 H5
    go_upto_region 8 with fail
    refine wp_region_lit ?_
    refine wl rfl _ _ (yA9 ag40 (.tmp 8) rfl q8 (0) rfl ((plC (d:Nat) (n:Nat) (nb bs.length:Nat) false)) rfl (yJ0 H5.out.2.2.1)) ?_
    refine wm 1 (str id) ?_
    refine wm 2 vb ?_
    simp only [Act.put,aS,aC,aZ]
    refine wl rfl (.agg (obC (d:Nat) (n:Nat) (nb bs.length:Nat) false id vb).toArray) _ ((by subst hvb;exact run_build91o (.tmp 43) (.tmp 44) (.tmp 45) rfl _ _ _ _ _ _ _ _ rfl rfl rfl)) ?_
    refine wl rfl _ _ (yB6 (obC 0 0 0 false [] (.slice none 0 0)) zero91 rfl) ?_
    have hb_:=yB2 w5 (.cells (obC 0 0 0 false [] (.slice none 0 0)).toArray 91)
    have r_:=Row.new w5 91 (obC 0 0 0 false [] (.slice none 0 0))
    obtain ⟨w6,hW_⟩:∃U_:World,U_=w5.alloc (.cells (obC 0 0 0 false [] (.slice none 0 0)).toArray 91):=⟨_,rfl⟩
    obtain ⟨q9,hq_⟩:∃q,q=w5.heap.size:=⟨_,rfl⟩
    rw [←hW_] at hb_
    rw [←hW_,←hq_] at r_
    rw [←hW_,←hq_]
    have H6:Hid (Row w6 q9 91 (obC 0 0 0 false [] (.slice none 0 0))∧Below w5.heap.size w5 w6∧q9=w5.heap.size):=⟨r_,hb_,hq_⟩
    clear r_ hb_ hW_ hq_
    simp only [Act.put,aS,aC,aZ]
    refine wlS rfl rfl _ (yE6 ag91 (.tmp 9) (.tmp 46) rfl q9 91 rfl (obC (d:Nat) (n:Nat) (nb bs.length:Nat) false id vb) _ rfl rfl H6.out.1 rfl (yH4 _ _ _ _ _ _ (by rw [hvb];rfl))) ?_
    have r_:=H6.out.1.setRow (obC (d:Nat) (n:Nat) (nb bs.length:Nat) false id vb)
    have c_:=(Ch.setRow (S:=(· = q9)) (Ch.refl _ w6) (Or.inl rfl) (obC (d:Nat) (n:Nat) (nb bs.length:Nat) false id vb).toArray)
    obtain ⟨w7,hW_⟩:∃U_:World,U_=w6.setRow q9 (obC (d:Nat) (n:Nat) (nb bs.length:Nat) false id vb).toArray:=⟨_,rfl⟩
    rw [←hW_] at r_ c_ ⊢
    have H7:Hid (Row w7 q9 91 (obC (d:Nat) (n:Nat) (nb bs.length:Nat) false id vb)∧Below w5.heap.size w5 w7∧w5.heap.size≤q9):=⟨r_,H6.out.2.1.trans (c_.below H6.out.2.1.size fun b hb e=>by have:=H6.out.2.2;omega),by have:=H6.out.2.2;omega⟩
    clear r_ c_ hW_ H6
    refine wpList_nil ?_
    have H9G:Hid (w3.heap.size≤q9):=Nat.le_trans H5.out.2.2.2.1.size H7.out.2.2
    go_upto_region 9 with fail
    refine wp_region_held (S:=fun X=>Row X gv 88 (vC gp (d:Nat) sz rt2 sl2)∧Row X q9 91 (obC (d:Nat) (n:Nat) (nb bs.length:Nat) false id vb)) (by kernel_rfl) ?_
    show wpAnyH _ _ _ _ _ 8 (Array.replicate 8 false) _ _
    obtain ⟨X,hX⟩:∃X:World,X = { w7 with drawn:=w7.drawn+1 }:=⟨_,rfl⟩
    rw [←hX]
    have HBX:Hid (Below w5.heap.size w5 X):=(by rw [hX];exact H7.out.2.1.trans ⟨rfl,rfl,rfl,Nat.le_refl _,fun _ _=>rfl⟩)
    have HLX:Hid (VolW X c t gp gv d sz m rt2 sl2∧Row X q6 40 (plC 0 0 0 false)∧Row X q8 40 (plC (d:Nat) (n:Nat) (nb bs.length:Nat) false)∧Below w3.heap.size w3 X):=⟨H5.out.1.below HBX.out,H5.out.2.1.later HBX.out H5.out.2.1.lt,H5.out.2.2.1.later HBX.out H5.out.2.2.1.lt,H5.out.2.2.2.1.trans (HBX.out.mono H5.out.2.2.2.1.size)⟩
    have HS_:Row X gv 88 (vC gp (d:Nat) sz rt2 sl2)∧Row X q9 91 (obC (d:Nat) (n:Nat) (nb bs.length:Nat) false id vb):=⟨HLX.out.1.row,by rw [hX];exact H7.out.1.later ⟨rfl,rfl,rfl,Nat.le_refl _,fun _ _=>rfl⟩ H7.out.1.lt⟩
    clear hX
    refine tH 0 47 rfl rfl (gRun rfl _ fun _ h=>yA4 (.tmp 0) rfl (ptr gv) rfl) HS_ ?_
    refine tH 1 48 rfl rfl (gRun rfl _ fun _ h=>yF8 (.tmp 47) rfl ⟨gv,0,none⟩ rfl) HS_ ?_
    refine tH 2 49 rfl rfl (gRun rfl _ fun _ h=>yA3 f88_0 (.tmp 48) rfl gv (0) rfl) HS_ ?_
    simp only [Act.put,aS,aC,aZ]
    refine tH 3 50 rfl rfl (gRun rfl _ fun _ h=>yA9 ag86 (.tmp 49) rfl gv (0+0) rfl ((tpC gp (d:Nat) sz)) rfl (fun j v hj=>by rw [show 0+0+j=j by omega];exact h.1.at j v (vC_tape _ _ _ _ _ j v hj))) HS_ ?_
    refine tH 4 51 rfl rfl (gRun rfl _ fun _ h=>yA9 ag91 (.tmp 9) rfl q9 (0) rfl ((obC (d:Nat) (n:Nat) (nb bs.length:Nat) false id vb)) rfl (yJ0 h.2)) HS_ ?_
    simp only [Act.put,aS,aC,aZ]
    refine oneH (i:=5) (by kernel_rfl) ?_
    refine yF6 (some 52) rfl rfl rfl 40 _ (yC2 eN40 [.tmp 51] _ rfl [(.agg ((obC (d:Nat) (n:Nat) (nb bs.length:Nat) false id vb)).toArray)] rfl) ?_
    refine (blks_any d n (nb bs.length:Nat) false id bs vb X HM.out.2.2.1 HM.out.2.2.2.1 (by omega) (H3.out.2.2.2.2.2.2.2.1.later HLX.out.2.2.2) HLX.out.1.env).mono ?_
    rintro e Y1 ⟨v4,rfl,ho_,hb_⟩
    refine ⟨_,rfl,?_⟩
    have HAP:Hid ((VolW Y1 c t gp gv d sz m rt2 sl2∧Row Y1 q6 40 (plC 0 0 0 false)∧Row Y1 q8 40 (plC (d:Nat) (n:Nat) (nb bs.length:Nat) false)∧Below w3.heap.size w3 Y1)∧AOwn 133 64 Y1 X.heap.size v4 (blks d n id bs)):=⟨⟨HLX.out.1.below hb_,HLX.out.2.1.later hb_ HLX.out.2.1.lt,HLX.out.2.2.1.later hb_ HLX.out.2.2.1.lt,HLX.out.2.2.2.trans (hb_.mono HLX.out.2.2.2.size)⟩,ho_⟩
    replace HS_:Row Y1 gv 88 (vC gp (d:Nat) sz rt2 sl2)∧Row Y1 q9 91 (obC (d:Nat) (n:Nat) (nb bs.length:Nat) false id vb):=⟨HS_.1.later hb_ HS_.1.lt,HS_.2.later hb_ HS_.2.lt⟩
    clear ho_ hb_
    refine ⟨HS_,?_⟩
    simp only [Act.put,aS,aC,aZ]
    refine oneH (i:=6) (by kernel_rfl) ?_
    refine yF6 (some 53) rfl rfl rfl 39 _ (yC2 eN39 [.tmp 50,.tmp 52] _ rfl [(.agg ((tpC gp (d:Nat) sz)).toArray),v4] rfl) ?_
    refine (twrite_any HAP.out.1.1.live d sz HAP.out.2 (fun b e=>HLX.out.1.live.2.2 b (HAP.out.2.2.lt b e).1) (by rw [yC1];have:=nb_le (n:=bs.length) (by omega);omega) (by rw [yC1];have:=nb_le (n:=bs.length) (by omega);have:=HM.out.2.1;omega)).mono ?_
    rintro e Y2 ⟨c2,he_,s2_,l2_⟩
    obtain ⟨er9,her9⟩:∃z,z=(m.lays (d:Nat) (blks d n id bs)).1:=⟨_,rfl⟩
    obtain ⟨m9,hm9⟩:∃z,z=(m.lays (d:Nat) (blks d n id bs)).2:=⟨_,rfl⟩
    rw [←her9] at he_
    rw [←hm9] at l2_
    subst he_
    have HW:Hid (er9=(m.lays (d:Nat) (blks d n id bs)).1∧m9=(m.lays (d:Nat) (blks d n id bs)).2):=⟨her9,hm9⟩
    have hn6_:=H3.out.1.live.2.2
    have HJ:Hid (VolW Y2 c2 t gp gv d sz m9 rt2 sl2∧Row Y2 q6 40 (plC 0 0 0 false)∧Row Y2 q8 40 (plC (d:Nat) (n:Nat) (nb bs.length:Nat) false)∧(c2 q6).1≠t∧SpT t Y1 Y2 c c2):=⟨HAP.out.1.1.sh s2_ l2_ (by rw [hm9];exact (yJ5 _ _ _).2),(s2_.row HAP.out.1.2.1 H3.out.2.2.2.2.2.2.1).1,(s2_.row HAP.out.1.2.2.1 (hn6_ q8 H5.out.2.2.2.2.1)).1,(s2_.row HAP.out.1.2.1 H3.out.2.2.2.2.2.2.1).2,s2_⟩
    replace HS_:Row Y2 gv 88 (vC gp (d:Nat) sz rt2 sl2)∧Row Y2 q9 91 (obC (d:Nat) (n:Nat) (nb bs.length:Nat) false id vb):=⟨HJ.out.1.row,(s2_.row HS_.2 (hn6_ q9 (by have:=H9G.out;omega))).1⟩
    clear her9 hm9 s2_ l2_ hn6_
    refine ⟨_,rfl,?_⟩
    refine ⟨HS_,?_⟩
    simp only [Act.put,aS,aC,aZ]
    refine tH 7 10 rfl rfl (gRun rfl _ fun _ h=>yE7 (.tmp 53) rfl (.int .i64 er9) rfl) HS_ ?_
    simp only [Act.put,aS,aC,aZ]
    refine wpAnyH_done (by kernel_rfl) ?_ _
    have Hbr:=HJ.out.2.1
    have Hbc:Ch (fun b=>b=gv∨(c b).1=t) w Y2:=((((Ch.refl _ w).trans' H3.out.2.1 (fun b _ e=>Or.inl e)).trans' (Ch.of_below (S:=fun _=>False) HAP.out.1.2.2.2) (fun _ _ h=>h.elim)).trans' HJ.out.2.2.2.2.ch (fun b _ e=>Or.inr e))
    have Hbv:=HJ.out.1
    have Hbk:=HJ.out.2.2.2.1
    have hcc:∀b,b<w.heap.size→c2 b=c b:=fun b hb=>HJ.out.2.2.2.2.cc b (Nat.lt_of_lt_of_le hb (Nat.le_trans H3.out.2.1.size HAP.out.1.2.2.2.size))
    by_cases hz:er9=0
    ·go_upto_region 10 with fail
     refine wp_region_lit ?_
     refine wm 10 (.int .i64 er9) ?_
     refine wl rfl _ _ (yD1 (.tmp 54) (.const (.int .i64 0)) rfl er9 0 rfl rfl false (by rw [decide_eq_true hz];rfl)) ?_
     simp only [Act.put,aS,aC,aZ]
     refine wpList_nil ?_
     go_upto_region 12 with fail
     refine wp_region_lit ?_
     refine wl rfl _ _ (yA9 ag40 (.tmp 8) rfl q8 (0) rfl ((plC (d:Nat) (n:Nat) (nb bs.length:Nat) false)) rfl (yJ0 HJ.out.2.2.1)) ?_
     simp only [Act.put,aS,aC,aZ]
     refine wlS rfl rfl _ (yE6 ag40 (.tmp 6) (.tmp 58) rfl q6 40 rfl (plC (d:Nat) (n:Nat) (nb bs.length:Nat) false) _ rfl rfl Hbr rfl (yJ2 _ _ _ _)) ?_
     have r_:=(Hbr).setRow (plC (d:Nat) (n:Nat) (nb bs.length:Nat) false)
     have c_:=(Ch.setRow (S:=(· = q6)) (Ch.refl _ Y2) (Or.inl rfl) (plC (d:Nat) (n:Nat) (nb bs.length:Nat) false).toArray)
     have c2_:=(Hbc).setRow (g:=q6) (Or.inr H3.out.2.2.2.2.1) (plC (d:Nat) (n:Nat) (nb bs.length:Nat) false).toArray
     obtain ⟨w9,hW_⟩:∃U_:World,U_=Y2.setRow q6 (plC (d:Nat) (n:Nat) (nb bs.length:Nat) false).toArray:=⟨_,rfl⟩
     rw [←hW_] at r_ c_ c2_ ⊢
     have H9r:Row w9 q6 40 (plC (d:Nat) (n:Nat) (nb bs.length:Nat) false):=r_
     have H9c:=c2_
     have H9v:=(Hbv).new c_ H3.out.2.2.2.2.2.1 (Hbk) (by have:=HM.out.2.2.2.2.2.2.2.2;have:=H3.out.2.2.2.2.1;omega)
     clear r_ c_ c2_ hW_
     refine wa (.const (.int .i64 0)) (.int .i64 0) ?_
     simp only [Act.put,aS,aC,aZ]
     refine wpList_nil ?_
     go_wp2_with fail
     exact bodyPost_ret (yC9 ag40 Tryd.results12 _ _ q6 40 rfl (plC (d:Nat) (n:Nat) (nb bs.length:Nat) false) rfl H9r (.int .i64 0) rfl) rfl (by rw [HPQ.out];exact Or.inr (Or.inr ⟨HNM.out.symm,by omega,rt2,sl2,er,H3.out.2.2.1,Or.inr ⟨by have h1:=of_decide_eq_false HLT.out;rw [←H3.out.2.2.2.2.2.2.2.2];omega,c2,by rw [←HM.out.2.2.2.2.2.2.1,←HW.out.1,if_pos hz],hcc,H9c,by rw [←HM.out.2.2.2.2.2.2.1,←HW.out.2];exact H9v⟩⟩))
    ·go_upto_region 10 with fail
     refine wp_region_lit ?_
     refine wm 10 (.int .i64 er9) ?_
     refine wl rfl _ _ (yD1 (.tmp 54) (.const (.int .i64 0)) rfl er9 0 rfl rfl true (by rw [decide_eq_false hz];rfl)) ?_
     simp only [Act.put,aS,aC,aZ]
     refine wpList_nil ?_
     go_upto_region 11 with fail
     refine wp_region_lit ?_
     refine wl rfl _ _ (run_build40z rfl) ?_
     refine wm 10 (.int .i64 er9) ?_
     simp only [Act.put,aS,aC,aZ]
     refine wlS rfl rfl _ (yE6 ag40 (.tmp 6) (.tmp 56) rfl q6 40 rfl (plC 0 0 0 false) _ rfl rfl Hbr rfl (yJ2 _ _ _ _)) ?_
     have r_:=(Hbr).setRow (plC 0 0 0 false)
     have c_:=(Ch.setRow (S:=(· = q6)) (Ch.refl _ Y2) (Or.inl rfl) (plC 0 0 0 false).toArray)
     have c2_:=(Hbc).setRow (g:=q6) (Or.inr H3.out.2.2.2.2.1) (plC 0 0 0 false).toArray
     obtain ⟨w9,hW_⟩:∃U_:World,U_=Y2.setRow q6 (plC 0 0 0 false).toArray:=⟨_,rfl⟩
     rw [←hW_] at r_ c_ c2_ ⊢
     have H9r:Row w9 q6 40 (plC 0 0 0 false):=r_
     have H9c:=c2_
     have H9v:=(Hbv).new c_ H3.out.2.2.2.2.2.1 (Hbk) (by have:=HM.out.2.2.2.2.2.2.2.2;have:=H3.out.2.2.2.2.1;omega)
     clear r_ c_ c2_ hW_
     refine wa (.tmp 57) (.int .i64 er9) ?_
     simp only [Act.put,aS,aC,aZ]
     refine wpList_nil ?_
     go_wp2_with fail
     exact bodyPost_ret (yC9 ag40 Tryd.results12 _ _ q6 40 rfl (plC 0 0 0 false) rfl H9r (.int .i64 er9) rfl) rfl (by rw [HPQ.out];exact Or.inr (Or.inr ⟨HNM.out.symm,by omega,rt2,sl2,er,H3.out.2.2.1,Or.inr ⟨by have h1:=of_decide_eq_false HLT.out;rw [←H3.out.2.2.2.2.2.2.2.2];omega,c2,by rw [←HM.out.2.2.2.2.2.2.1,←HW.out.1,if_neg hz],hcc,H9c,by rw [←HM.out.2.2.2.2.2.2.1,←HW.out.2];exact H9v⟩⟩))
end Go.Proofs.YtpkkkkomdblpoaaDoor

namespace Go.Proofs.YtpkkkkomdblpoaaDoor
open Go.RowKit Go.Maps
open Cold
set_option maxHeartbeats 4000000 in
set_option maxRecDepth 100000 in
theorem objectAt_off {w:World} {c:Nat→Colour} {t gp:Nat} {m:Pl} (h:Live w c t gp m) (hst:m.steps<35184372088831) (hon:m.on=false) (d:Nat) (hd:d<m.n) (htp:m.tape d=true) (sz:Int) (a:Nat) (ha:a≤65536) (he:Env w):Calls Tryd.prog 66 #[.agg (tpC gp (d:Nat) sz).toArray,.int .i64 (a:Nat)] w fun e w'=>Below w.heap.size w w'∧e = .returned (.tuple #[.agg (obC 0 0 0 false [] (.slice none 0 0)).toArray,.int .i64 (if a<(ctn m d).length then 2 else 4)]):=by
 obtain ⟨ct,hct⟩:∃x,x=ctn m d:=⟨_,rfl⟩
 have HM:Hid (Live w c t gp m∧m.steps<35184372088831∧m.on=false∧d<m.n∧m.tape d=true∧Env w∧ct=ctn m d∧AllN 64 ct∧ct.length≤4096):=⟨h,hst,hon,hd,htp,he,hct,hct▸ctn_all h.2.1 d,by rw [hct];exact (ctn_le h.2.1 hd htp).1⟩
 have H0:Hid (Loc w w []):=Loc.nil (Below.refl _ _)
 rw [←hct]
 clear h hst hon hd htp hct he
 obtain ⟨PQ,HPQ⟩:=exPQ fun (e:Ending) (w':World)=>Below w.heap.size w w'∧e = .returned (.tuple #[.agg (obC 0 0 0 false [] (.slice none 0 0)).toArray,.int .i64 (if a<ct.length then 2 else 4)])
 rw [←HPQ.out]
 go_enter Tryd.func66,Tryd.ntmps66
 go_upto_region 0 with fail
 refine wp_region_lit ?_
 refine wl rfl _ _ (yG2 (.tmp 0) rfl ((tpC gp (d:Nat) sz)) rfl) ?_
 have k_:=H0.out.box 86 ((tpC gp (d:Nat) sz))
 obtain ⟨w1,hW_⟩:∃W,W=w.alloc (.cells ((tpC gp (d:Nat) sz)).toArray 86):=⟨_,rfl⟩
 obtain ⟨q1,hq_⟩:∃q,q=w.heap.size:=⟨_,rfl⟩
 rw [←hW_,←hq_] at k_
 rw [←hW_,←hq_]
 clear hq_
 have Rw1:Hid (Loc w w1 [(q1,86,(tpC gp (d:Nat) sz))]):=k_
 clear k_ hW_ H0
 simp only [Act.put,aS,aC,aZ]
 refine wl rfl _ _ (yB6 ((obC 0 0 0 false [] (.slice none 0 0))) zero91 rfl) ?_
 have k_:=Rw1.out.box 91 ((obC 0 0 0 false [] (.slice none 0 0)))
 obtain ⟨w2,hW_⟩:∃W,W=w1.alloc (.cells ((obC 0 0 0 false [] (.slice none 0 0))).toArray 91):=⟨_,rfl⟩
 obtain ⟨q2,hq_⟩:∃q,q=w1.heap.size:=⟨_,rfl⟩
 rw [←hW_,←hq_] at k_
 rw [←hW_,←hq_]
 clear hq_
 have Rw2:Hid (Loc w w2 [(q1,86,(tpC gp (d:Nat) sz)),(q2,91,(obC 0 0 0 false [] (.slice none 0 0)))]):=k_
 clear k_ hW_ Rw1
 simp only [Act.put,aS,aC,aZ]
 refine wa (.const (.int .i64 0)) (.int .i64 0) ?_
 simp only [Act.put,aS,aC,aZ]
 refine wpList_nil ?_
 go_upto_region 1 with fail
 refine wp_region_lit ?_
 refine wl rfl _ _ (yA9 ag86 (.tmp 2) rfl q1 (0) rfl ((tpC gp (d:Nat) sz)) rfl (yF0 Rw2.out 0 rfl)) ?_
 refine wm 1 (.int .i64 (a:Nat)) ?_
 simp only [Act.put,aS,aC,aZ]
 refine yA5 eN42 [.tmp 15,.tmp 16,.const (.int .i64 1)] _ rfl rfl [(.agg ((tpC gp (d:Nat) sz)).toArray),(.int .i64 (a:Nat)),(.int .i64 1)] rfl ?_
 refine (tread_all (HM.out.1.below Rw2.out.below) HM.out.2.1 d HM.out.2.2.2.1 HM.out.2.2.2.2.1 sz a 1 (by omega) (by omega)).mono ?_
 rintro e w3 ⟨v1,e1,rfl,hb_,hc_⟩
 refine ⟨_,rfl,?_⟩
 rw [←HM.out.2.2.2.2.2.2.1] at hc_
 have H3:Hid (Loc w w3 [(q1,86,(tpC gp (d:Nat) sz)),(q2,91,(obC 0 0 0 false [] (.slice none 0 0)))]):=Rw2.out.later hb_
 have H3R:Hid ((e1=4∧v1 = .slice none 0 0∧ct.length<a+1)∨(e1=2∧v1 = .slice none 0 0∧a+1≤ct.length∧0<1∧m.on=false)∨(e1=0∧a+1≤ct.length∧AOwn 133 64 w3 w2.heap.size v1 ((ct.drop a).take 1)∧(1=0∨m.on=true))):=hc_
 clear hb_ hc_
 simp only [Act.put,aS,aC,aZ]
 refine wm 17 (.tuple #[v1,(.int .i64 e1)]) ?_
 refine wl rfl _ _ (yA8 (.tmp 14) 0 rfl #[v1,(.int .i64 e1)] rfl v1 rfl) ?_
 refine wl rfl _ _ (yA8 (.tmp 14) 1 rfl #[v1,(.int .i64 e1)] rfl (.int .i64 e1) rfl) ?_
 simp only [Act.put,aS,aC,aZ]
 refine wa (.tmp 18) v1 ?_
 refine wa (.tmp 19) (.int .i64 e1) ?_
 simp only [Act.put,aS,aC,aZ]
 refine wpList_nil ?_
 rcases H3R.out with ⟨rfl,rfl,hfar⟩|⟨rfl,rfl,hle1,_,_⟩|⟨_,_,_,h0⟩
 ·go_upto_region 2 with fail
  refine wp_region_lit ?_
  refine wm 7 (.int .i64 4) ?_
  refine wl rfl _ _ (yD1 (.tmp 20) (.const (.int .i64 0)) rfl (4) (0) rfl rfl true rfl) ?_
  simp only [Act.put,aS,aC,aZ]
  refine wpList_nil ?_
  go_upto_region 3 with fail
  refine wp_region_lit ?_
  refine wl rfl _ _ (yJ9 rfl) ?_
  refine wm 7 (.int .i64 4) ?_
  simp only [Act.put,aS,aC,aZ]
  refine wlS rfl rfl _ (yB3 ag91 (.tmp 4) (.tmp 22) rfl H3.out 1 rfl (0) rfl (obC 0 0 0 false [] (.slice none 0 0)) rfl rfl (by decide) (yH4 _ _ _ _ _ _ rfl)).1 ?_
  have k_:=H3.out.lay 1 rfl (0) (obC 0 0 0 false [] (.slice none 0 0))
  rw [yB5 _ _ rfl] at k_ ⊢
  obtain ⟨w4,hW_⟩:∃U_:World,U_=w3.setRow q2 (obC 0 0 0 false [] (.slice none 0 0)).toArray:=⟨_,rfl⟩
  rw [←hW_] at k_ ⊢
  have HZ_:Hid (Row w4 q2 91 (obC 0 0 0 false [] (.slice none 0 0))∧Below w.heap.size w w4):=⟨k_.at 1 rfl,k_.below⟩
  clear k_ hW_
  refine wa (.tmp 23) (.int .i64 4) ?_
  simp only [Act.put,aS,aC,aZ]
  refine wpList_nil ?_
  go_wp2_with fail
  exact bodyPost_ret (yC9 ag91 Tryd.results66 _ _ q2 91 rfl (obC 0 0 0 false [] (.slice none 0 0)) rfl HZ_.out.1 (.int .i64 4) rfl) rfl (by rw [HPQ.out];exact ⟨HZ_.out.2,by rw [if_neg (by omega)]⟩)
 ·go_upto_region 2 with fail
  refine wp_region_lit ?_
  refine wm 7 (.int .i64 2) ?_
  refine wl rfl _ _ (yD1 (.tmp 20) (.const (.int .i64 0)) rfl (2) (0) rfl rfl true rfl) ?_
  simp only [Act.put,aS,aC,aZ]
  refine wpList_nil ?_
  go_upto_region 3 with fail
  refine wp_region_lit ?_
  refine wl rfl _ _ (yJ9 rfl) ?_
  refine wm 7 (.int .i64 2) ?_
  simp only [Act.put,aS,aC,aZ]
  refine wlS rfl rfl _ (yB3 ag91 (.tmp 4) (.tmp 22) rfl H3.out 1 rfl (0) rfl (obC 0 0 0 false [] (.slice none 0 0)) rfl rfl (by decide) (yH4 _ _ _ _ _ _ rfl)).1 ?_
  have k_:=H3.out.lay 1 rfl (0) (obC 0 0 0 false [] (.slice none 0 0))
  rw [yB5 _ _ rfl] at k_ ⊢
  obtain ⟨w4,hW_⟩:∃U_:World,U_=w3.setRow q2 (obC 0 0 0 false [] (.slice none 0 0)).toArray:=⟨_,rfl⟩
  rw [←hW_] at k_ ⊢
  have HZ_:Hid (Row w4 q2 91 (obC 0 0 0 false [] (.slice none 0 0))∧Below w.heap.size w w4):=⟨k_.at 1 rfl,k_.below⟩
  clear k_ hW_
  refine wa (.tmp 23) (.int .i64 2) ?_
  simp only [Act.put,aS,aC,aZ]
  refine wpList_nil ?_
  go_wp2_with fail
  exact bodyPost_ret (yC9 ag91 Tryd.results66 _ _ q2 91 rfl (obC 0 0 0 false [] (.slice none 0 0)) rfl HZ_.out.1 (.int .i64 2) rfl) rfl (by rw [HPQ.out];exact ⟨HZ_.out.2,by rw [if_pos (by omega)]⟩)
 ·rcases h0 with h|h
  ·omega
  ·have h9:m.on=false:=HM.out.2.2.1
   rw [h] at h9
   cases h9
end Go.Proofs.YtpkkkkomdblpoaaDoor

namespace Go.Proofs.YtpkkkkomdblpoaaDoor
open Go.RowKit Go.Maps
open Cold
structure ElC (S E n y:Nat) (z:List Value):Prop where
 sl:Tryd.prog.underlying S=some (.slice E)
 el:Tryd.prog.elem S=E
 info:(Tryd.prog.info? E).map (fun i=>(i.zero,i.size,i.bytes))=some (some (.agg z.toArray),n,y)
 zl:z.length=n
 ag:AggT E n
 pos:0<n
 few:n≤64∧y≤100
theorem el102:ElC 102 91 6 72 (obC 0 0 0 false [] (.slice none 0 0)):=⟨Tryd.underlying102,by kernel_rfl,by kernel_rfl,rfl,ag91,by decide,by decide⟩
theorem ElC.sl' {S E n y:Nat} {z:List Value} (h:ElC S E n y z):Tryd.prog.underlying S=some (.slice (Tryd.prog.elem S)):=by rw [h.el];exact h.sl
def CAll (n:Nat) (L:List (List Value)):Prop := ∀b∈L,b.length=n∧∀v∈b,v.oneCell'=true
theorem CAll.nil (n:Nat):CAll n []:=fun b hb=>by cases hb
theorem CAll.one {n:Nat} {b:List Value} (h:b.length=n∧∀v∈b,v.oneCell'=true):CAll n [b]:=fun x hx=>by rw [List.mem_singleton.1 hx];exact h
theorem CAll.append {n:Nat} {L M:List (List Value)} (h:CAll n L) (k:CAll n M):CAll n (L++M):=fun b hb=>(List.mem_append.1 hb).elim (h b) (k b)
theorem CAll.at {n:Nat} {L:List (List Value)} (h:CAll n L) (k:Nat) (hk:k<L.length):(L.getD k []).length=n∧∀v∈L.getD k [],v.oneCell'=true:=by
 rw [List.getD_eq_getElem?_getD,List.getElem?_eq_getElem hk]
 exact h _ (List.getElem_mem hk)
theorem flatC_at {n:Nat} {L:List (List Value)} (h:CAll n L) (k j:Nat) (hk:k<L.length) (hj:j<n):L.flatten[k * n+j]? = (L.getD k [])[j]?:=by
 induction L generalizing k with
 | nil=>simp at hk
 | cons x xs ih =>
  have hx:=(h x (List.mem_cons_self ..)).1
  cases k with
  | zero =>
   rw [List.flatten_cons,Nat.zero_mul,Nat.zero_add,List.getElem?_append_left (by omega)]
   rfl
  | succ k =>
   rw [List.flatten_cons,show (k+1) * n+j=x.length+(k * n+j) by rw [Nat.add_mul,hx];omega,List.getElem?_append_right (by omega),Nat.add_sub_cancel_left,ih (fun y hy=>h y (List.mem_cons_of_mem _ hy)) k (by simpa using hk)]
   rfl
def COwn (E n:Nat) (W:World) (base:Nat) (v:Value) (L:List (List Value)):Prop:=CAll n L∧W.ownsRow base E n v L.length L.flatten
theorem COwn.nil (E n:Nat) (W:World) (base:Nat):COwn E n W base (.slice none 0 0) []:=⟨CAll.nil n,by simp,Or.inl ⟨rfl,rfl⟩⟩
theorem COwn.later {E n:Nat} {W W':World} {base:Nat} {v:Value} {L:List (List Value)} (h:COwn E n W base v L) (hb:Below W.heap.size W W'):COwn E n W' base v L:=⟨h.1,own_later h.2 hb⟩
theorem COwn.keep {E n:Nat} {W W':World} {base:Nat} {v:Value} {L:List (List Value)} (h:COwn E n W base v L) {S:Nat→Prop} (hc:Ch S W W') (hS:∀b,v.ownBlock=some b→¬ S b):COwn E n W' base v L :=
 ⟨h.1,ownK h.2 fun b hb=>hc.block b (h.2.lt b hb).2 (hS b hb)⟩
theorem COwn.belowG {E n:Nat} {w w':World} {base:Nat} {v:Value} {L:List (List Value)} (h:COwn E n w base v L) (hg:w.grownBy w' v.ownBlock) (hb:base≤w.heap.size):Below base w w' :=
 (Below.refl base w).grown hg hb fun k hk=>(h.2.lt k hk).1
theorem run_litC {S E n y:Nat} {z:List Value} (he:ElC S E n y z) (b:List Value) (hb:b.length=n) {w:World} {a:Act} {o:Oper} (x:Operand) (ho:o.op = .buildSlice S 1 #[(0,x)]) (hx:a.eval x = .agg b.toArray):(execOp a.eval o).run Tryd.prog w = .ok (.value (.slice (some ⟨w.heap.size,0,none⟩) 1 1)) (w.alloc (.cells b.toArray E)):=by
 have h1:(Instr.buildSlice S 1 #[(0,.agg b.toArray)]).run Tryd.prog w = .ok (.slice (some ⟨w.heap.size,0,none⟩) 1 1) (w.alloc (.cells b.toArray E)):=by
  obtain ⟨i,hi,hz0,hz1,hz2⟩:=info_parts he.info
  have:=he.pos
  have:=he.few
  refine run_buildSlice w S E 1 _ _ i _ he.sl hi hz0 (by rw [hz1];omega) (by rw [hz1];omega) ?_
  rw [hz1]
  have h1:∀v∈[Value.agg b.toArray],v.cells.size=n:=by
   intro v hv'
   rw [List.mem_singleton.1 hv']
   simp [Value.cells,hb]
  show Instr.fill _ _ (([Value.agg b.toArray].zipIdx 0).map fun x=>(x.2,x.1))=_
  rw [Great.fill_whole he.pos [Value.agg b.toArray] _ h1 (by simp [he.zl,Value.cells])]
  simp [Value.cells]
 simp [execOp,ho,hx,h1]
theorem run_appC {S E n y:Nat} {z:List Value} (he:ElC S E n y z) {w:World} (base:Nat) (v:Value) (L:List (List Value)) (b:List Value) (hown:COwn E n w base v L) (hb:b.length=n∧∀u∈b,u.oneCell'=true) (g:Nat) (hg:∀j u,b[j]? = some u→w.cell? ⟨g,j,none⟩=some u) (hsz:L.length≤1000000) (hbase:base≤w.heap.size) :
  ∃v' w',(∀ty,(Builtin.append_ #[S,S] ty #[v,.slice (some ⟨g,0,none⟩) 1 1]).run Tryd.prog w = .ok v' w')∧COwn E n w' base v' (L++[b])∧w.grownBy w' v.ownBlock∧(v'.ownBlock=v.ownBlock∨v'.ownBlock=some w.heap.size):=by
 obtain ⟨i,hi,hz0,hz1,hz2⟩:=info_parts he.info
 have h1:=he.few
 have h2:(L.length+1) * y≤(L.length+1) * 100:=Nat.mul_le_mul_left _ h1.2
 obtain ⟨v',w',hr,ho',hgr,_,h5⟩:=run_append_own_at (P:=Tryd.prog) w base S 0 E i (.agg z.toArray) n y he.sl hi hz0 hz1 hz2 (by simp [Value.cells,he.zl]) he.pos v L.length L.flatten hown.2
  ⟨g,0,none⟩ 1 1 b (by rw [hb.1];simp) (fun j u hu=>by rw [yB7,Nat.zero_add];exact hg j u hu) hb.2 (by unfold maxLen;omega) (by omega) hbase
 refine ⟨v',w',fun ty=>hr,⟨hown.1.append (CAll.one hb),?_⟩,hgr,h5⟩
 rw [List.flatten_append,List.length_append]
 simpa using ho'
theorem run_lenC {S E n y:Nat} {z:List Value} (he:ElC S E n y z) {w w0:World} {a:Act} {o:Oper} {base:Nat} {v:Value} {L:List (List Value)} (h:COwn E n w0 base v L) (x:Operand) (ho:o.op = .call { callee:=.builtin .len,args:=#[x],argTypes:=#[S] }) (hx:a.eval x=v):(execOp a.eval o).run Tryd.prog w = .ok (.value (.int .i64 (L.length:Nat))) w:=by
 rcases h.2.2 with ⟨rfl,h0⟩|⟨g,cap,cur,rfl,_⟩
 ·have:=run_lenZ (w:=w) he.sl' x ho none 0 0 hx
  rw [h0]
  exact this
 ·exact run_lenZ he.sl' x ho _ _ _ hx
theorem COwn.ix {S E n y:Nat} {z:List Value} (he:ElC S E n y z) {W:World} {base:Nat} {v:Value} {L:List (List Value)} (h:COwn E n W base v L) (k:Nat) (hk:k<L.length):∃g,v.ownBlock=some g∧base≤g∧(∀w',(Instr.indexAt S v (.int .i64 (k:Nat))).run Tryd.prog w' = .ok (.pointer (some ⟨g,k * n,none⟩)) w')∧∀W':World,COwn E n W' base v L→∀j u,(L.getD k [])[j]? = some u→W'.cell? ⟨g,k * n+j,none⟩=some u:=by
 have key:∀W':World,COwn E n W' base v L→∃g cap,v = .slice (some ⟨g,0,none⟩) L.length cap∧base≤g∧∀j u,(L.getD k [])[j]? = some u→W'.cell? ⟨g,k * n+j,none⟩=some u:=fun W' h'=>by
  rcases h'.2.2 with ⟨rfl,h0⟩|⟨g,cap,cur,rfl,h3,h4,h5⟩
  ·have:=h0;omega
  ·refine ⟨g,cap,rfl,h3,fun j u hu => ?_⟩
   have hj:j<n:=by
    have:=(List.getElem?_eq_some_iff.1 hu).1
    rwa [(h.1.at k hk).1] at this
   have e:=h'.2.cells (g:=g) rfl (k * n+j) u (by rw [flatC_at h.1 k j hk hj];exact hu)
   rw [yB7,Nat.zero_add] at e
   exact e
 obtain ⟨g,cap,rfl,h3,_⟩:=key W h
 obtain ⟨i,hi,hz0,hz1,hz2⟩:=info_parts he.info
 refine ⟨g,rfl,h3,fun w'=>by simp [Instr.indexAt,asIntOf,run_underlying he.sl,hk,sizeOf,typeInfo,hi,hz1,yB7],fun W' h' j u hu => ?_⟩
 obtain ⟨g',cap',e,_,h4⟩:=key W' h'
 have e1:g=g':=Option.some.inj (congrArg Value.ownBlock e)
 subst e1
 exact h4 j u hu
end Go.Proofs.YtpkkkkomdblpoaaDoor

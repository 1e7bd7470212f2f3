/- Layer 15: Seal. -/
import Derived.Test.YtpkkkkomdblpoaaDoorS29


namespace Go.Proofs.YtpkkkkomdblpoaaDoor
open Go.RowKit Go.Maps
open Cold
def SealP (m:Pl) (d:Nat) (sz:Int) (rt:List Nat) (sl:Bool) (er:Int) (m':Pl) (rt':List Nat) (sl':Bool):Prop :=
 (er=3∧m'=m∧sz - (ctn m d).length<2∧rt'=rt∧sl'=sl) ∨
 (2≤sz - (ctn m d).length∧∃rt2 sl2 e2,SlR m.on d (ctn m d) rt sl rt2 sl2 e2 ∧
  ((e2≠0∧er=e2∧m'=m∧rt'=rt2∧sl'=sl2)∨(e2=0∧sl2=true∧er=3∧m'=m∧rt'=rt2∧sl'=true) ∨
  (e2=0∧sl2=false∧∃os,Chn d (ctn m d) 0 os (wide os)∧NoAt d (wide os) (ctn m d)∧(m.on=true∨(ctn m d).length=0) ∧
   (((m.lays (d:Nat) (ends d (ctn m d).length (rootO os))).1≠0∧er=(m.lays (d:Nat) (ends d (ctn m d).length (rootO os))).1∧m'=(m.lays (d:Nat) (ends d (ctn m d).length (rootO os))).2∧rt'=rt2∧sl'=false) ∨
    ((m.lays (d:Nat) (ends d (ctn m d).length (rootO os))).1=0∧m'=((m.lays (d:Nat) (ends d (ctn m d).length (rootO os))).2.flush (d:Nat)).2 ∧
     ((((m.lays (d:Nat) (ends d (ctn m d).length (rootO os))).2.flush (d:Nat)).1≠0∧er=((m.lays (d:Nat) (ends d (ctn m d).length (rootO os))).2.flush (d:Nat)).1∧rt'=rt2∧sl'=false) ∨
     (((m.lays (d:Nat) (ends d (ctn m d).length (rootO os))).2.flush (d:Nat)).1=0∧er=0∧rt'=rootO os∧sl'=true)))))))
set_option maxHeartbeats 4000000 in
set_option maxRecDepth 100000 in
theorem seal_any {w:World} {c:Nat→Colour} {t gp gv d:Nat} {sz:Int} {m:Pl} {rt:List Nat} {sl:Bool} (h:VolW w c t gp gv d sz m rt sl) (hst:m.steps+100<35184372088831):Calls Tryd.prog 19 #[ptr gv] w fun e w' => ∃c' er m' rt' sl',e = .returned (.int .i64 er)∧(∀b,b<w.heap.size→c' b=c b)∧Ch (fun b=>b=gv∨(c b).1=t) w w'∧VolW w' c' t gp gv d sz m' rt' sl'∧SealP m d sz rt sl er m' rt' sl':=by
 obtain ⟨n,hn⟩:∃n,n=(ctn m d).length:=⟨_,rfl⟩
 have HM:Hid (VolW w c t gp gv d sz m rt sl∧m.steps+100<35184372088831∧n=(ctn m d).length∧n≤4096∧(n:Int)≤sz∧0≤sz∧sz≤4096∧m.len d=n∧gv<w.heap.size∧3≤w.heap.size):=⟨h,hst,hn,by rw [hn];exact h.bound.1,by rw [hn];exact h.bound.2.1,h.bound.2.2.1,h.bound.2.2.2.1,by rw [hn];exact h.bound.2.2.2.2,h.row.lt,by have:=h.row.lt;have:=h.far;omega⟩
 have hnl:n≤4096∧(n:Int)≤sz∧0≤sz∧sz≤4096:=⟨HM.out.2.2.2.1,HM.out.2.2.2.2.1,HM.out.2.2.2.2.2.1,HM.out.2.2.2.2.2.2.1⟩
 clear h hst hn
 obtain ⟨PQ,HPQ⟩:=exPQ fun (e:Ending) (w':World) => ∃c' er m' rt' sl',e = .returned (.int .i64 er)∧(∀b,b<w.heap.size→c' b=c b)∧Ch (fun b=>b=gv∨(c b).1=t) w w'∧VolW w' c' t gp gv d sz m' rt' sl'∧SealP m d sz rt sl er m' rt' sl'
 rw [←HPQ.out]
 go_enter Tryd.func19,Tryd.ntmps19
 go_upto_region 0 with fail
 refine wp_region_lit ?_
 refine wa (.const (.int .i64 0)) (.int .i64 0) ?_
 simp only [Act.put,aS,aC,aZ]
 refine wpList_nil ?_
 by_cases hroom:sz - (n:Nat)<2
 ·go_upto_region 1 with fail
  refine wp_region_lit ?_
  refine wm 0 (ptr gv) ?_
  refine wl rfl _ _ (yF8 (.tmp 9) rfl ⟨gv,0,none⟩ rfl) ?_
  refine wl rfl _ _ (yA3 f88_0 (.tmp 10) rfl gv (0) rfl) ?_
  simp only [Act.put,aS,aC,aZ]
  refine wl rfl _ _ (yA9 ag86 (.tmp 11) rfl gv (0+0) rfl ((tpC gp (d:Nat) sz)) rfl (fun j v hj=>by rw [show 0+0+j=j by omega];exact HM.out.1.row.at j v (vC_tape _ _ _ _ _ j v hj))) ?_
  simp only [Act.put,aS,aC,aZ]
  refine yA5 eN44 [.tmp 12] _ rfl rfl [(.agg (tpC gp (d:Nat) sz).toArray)] rfl ?_
  refine (tleft_any HM.out.1.live (by have:=HM.out.2.1;omega) d HM.out.1.dev (by rw [HM.out.2.2.2.2.2.2.2.1];exact hnl.1) sz hnl.2.2).mono ?_
  rintro e w1 ⟨rfl,hb_⟩
  refine ⟨_,rfl,?_⟩
  rw [HM.out.2.2.2.2.2.2.2.1]
  have H1:Hid (VolW w1 c t gp gv d sz m rt sl∧Below w.heap.size w w1):=⟨HM.out.1.below hb_,hb_⟩
  clear hb_
  simp only [Act.put,aS,aC,aZ]
  refine wl rfl _ _ (yB8 (.tmp 13) (.const (.int .i64 2)) rfl (sz - (n:Nat)) 2 rfl rfl true (decide_eq_true (by omega))) ?_
  simp only [Act.put,aS,aC,aZ]
  refine wpList_nil ?_
  go_upto_region 2 with fail
  refine wp_region_lit ?_
  refine wa (.const (.int .i64 3)) (.int .i64 3) ?_
  simp only [Act.put,aS,aC,aZ]
  refine wpList_nil ?_
  go_wp2_with fail
  rw [HPQ.out]
  exact ⟨c,3,m,rt,sl,rfl,fun _ _=>rfl,Ch.of_below H1.out.2,H1.out.1,Or.inl ⟨rfl,rfl,by rw [←HM.out.2.2.1];exact hroom,rfl,rfl⟩⟩
 ·go_upto_region 1 with fail
  refine wp_region_lit ?_
  refine wm 0 (ptr gv) ?_
  refine wl rfl _ _ (yF8 (.tmp 9) rfl ⟨gv,0,none⟩ rfl) ?_
  refine wl rfl _ _ (yA3 f88_0 (.tmp 10) rfl gv (0) rfl) ?_
  simp only [Act.put,aS,aC,aZ]
  refine wl rfl _ _ (yA9 ag86 (.tmp 11) rfl gv (0+0) rfl ((tpC gp (d:Nat) sz)) rfl (fun j v hj=>by rw [show 0+0+j=j by omega];exact HM.out.1.row.at j v (vC_tape _ _ _ _ _ j v hj))) ?_
  simp only [Act.put,aS,aC,aZ]
  refine yA5 eN44 [.tmp 12] _ rfl rfl [(.agg (tpC gp (d:Nat) sz).toArray)] rfl ?_
  refine (tleft_any HM.out.1.live (by have:=HM.out.2.1;omega) d HM.out.1.dev (by rw [HM.out.2.2.2.2.2.2.2.1];exact hnl.1) sz hnl.2.2).mono ?_
  rintro e w1 ⟨rfl,hb_⟩
  refine ⟨_,rfl,?_⟩
  rw [HM.out.2.2.2.2.2.2.2.1]
  have H1:Hid (VolW w1 c t gp gv d sz m rt sl∧Below w.heap.size w w1):=⟨HM.out.1.below hb_,hb_⟩
  clear hb_
  simp only [Act.put,aS,aC,aZ]
  refine wl rfl _ _ (yB8 (.tmp 13) (.const (.int .i64 2)) rfl (sz - (n:Nat)) 2 rfl rfl false (decide_eq_false (by omega))) ?_
  simp only [Act.put,aS,aC,aZ]
  refine wpList_nil ?_
  go_upto_region 3 with fail
  refine wp_region_lit ?_
  refine wm 0 (ptr gv) ?_
  simp only [Act.put,aS,aC,aZ]
  refine yA5 eN45 [.tmp 16] _ rfl rfl [(ptr gv)] rfl ?_
  refine (isSealed_any H1.out.1.live (by have:=HM.out.2.1;omega) d H1.out.1.dev H1.out.1.tape sz H1.out.1.env H1.out.1.row H1.out.1.len).mono ?_
  rintro e w2 ⟨rt2,sl2,er,rfl,hr_,hl_,hc_,hs_⟩
  refine ⟨_,rfl,?_⟩
  have H2:Hid (VolW w2 c t gp gv d sz m rt2 sl2∧Ch (· = gv) w w2∧SlR m.on d (ctn m d) rt sl rt2 sl2 er):=⟨H1.out.1.seen hc_ hr_ hl_,(Ch.of_below H1.out.2).trans' hc_ (fun _ _ h=>h),hs_⟩
  clear hr_ hl_ hc_ hs_ H1
  simp only [Act.put,aS,aC,aZ]
  refine wm 17 (.tuple #[(.bool sl2),(.int .i64 er)]) ?_
  refine wl rfl _ _ (yA8 (.tmp 15) 0 rfl #[(.bool sl2),(.int .i64 er)] rfl (.bool sl2) rfl) ?_
  refine wl rfl _ _ (yA8 (.tmp 15) 1 rfl #[(.bool sl2),(.int .i64 er)] rfl (.int .i64 er) rfl) ?_
  simp only [Act.put,aS,aC,aZ]
  refine wa (.tmp 18) (.bool sl2) ?_
  refine wa (.tmp 19) (.int .i64 er) ?_
  simp only [Act.put,aS,aC,aZ]
  refine wpList_nil ?_
  by_cases her:er=0
  ·subst her
   go_upto_region 4 with fail
   refine wp_region_lit ?_
   refine wm 4 (.int .i64 0) ?_
   refine wl rfl _ _ (yD1 (.tmp 21) (.const (.int .i64 0)) rfl (0) (0) rfl rfl false rfl) ?_
   refine wa (.tmp 22) (.bool false) ?_
   simp only [Act.put,aS,aC,aZ]
   refine wpList_nil ?_
   go_upto_region 6 with fail
   refine wp_region_lit ?_
   refine wm 3 (.bool sl2) ?_
   refine wa (.tmp 25) (.bool sl2) ?_
   simp only [Act.put,aS,aC,aZ]
   refine wpList_nil ?_
   cases sl2 with
   | true =>
    go_upto_region 7 with fail
    refine wp_region_lit ?_
    refine wa (.const (.int .i64 3)) (.int .i64 3) ?_
    simp only [Act.put,aS,aC,aZ]
    refine wpList_nil ?_
    go_wp2_with fail
    rw [HPQ.out]
    exact ⟨c,3,m,rt2,true,rfl,fun _ _=>rfl,H2.out.2.1.mono (fun b _ h=>Or.inl h),H2.out.1,Or.inr ⟨by rw [←HM.out.2.2.1];omega,_,_,_,H2.out.2.2,Or.inr (Or.inl ⟨rfl,rfl,rfl,rfl,rfl,rfl⟩)⟩⟩
   | false =>
    go_upto_region 8 with fail
    refine wp_region_lit ?_
    refine wm 0 (ptr gv) ?_
    simp only [Act.put,aS,aC,aZ]
    refine yA5 eN46 [.tmp 27] _ rfl rfl [(ptr gv)] rfl ?_
    refine (objects_any H2.out.1 (by have:=HM.out.2.1;omega)).mono ?_
    rintro e w3 ⟨vo,er2,rfl,hb_,hr_⟩
    obtain ⟨rfl,os,ho_,hch_,hno_,hon_⟩:er2=0∧∃os,ObsIn w3 w2.heap.size d vo os∧Chn d (ctn m d) 0 os (wide os)∧NoAt d (wide os) (ctn m d)∧(m.on=true∨(ctn m d).length=0):=(by
     rcases hr_ with h|⟨_,_,h1,h2⟩
     ·exact h
     ·exfalso
      rcases H2.out.2.2 with ⟨_,_,h,_⟩|⟨_,⟨h,_⟩|⟨_,_,h,_⟩|⟨_,h,_⟩⟩
      ·cases h
      ·cases h
      ·rcases h with h|h
       ·rw [h1] at h;cases h
       ·omega
      ·omega)
    refine ⟨_,rfl,?_⟩
    have H3:Hid (VolW w3 c t gp gv d sz m rt2 false∧Ch (· = gv) w w3∧ObsIn w3 w2.heap.size d vo os∧Chn d (ctn m d) 0 os (wide os)∧NoAt d (wide os) (ctn m d)∧(m.on=true∨(ctn m d).length=0)):=⟨H2.out.1.below hb_,H2.out.2.1.trans' (Ch.of_below (S:=fun _=>False) hb_) (fun _ _ h=>h.elim),ho_,hch_,hno_,hon_⟩
    clear hb_ hr_ ho_ hch_ hno_ hon_
    simp only [Act.put,aS,aC,aZ]
    refine wm 28 (.tuple #[vo,(.int .i64 0)]) ?_
    refine wl rfl _ _ (yA8 (.tmp 26) 0 rfl #[vo,(.int .i64 0)] rfl vo rfl) ?_
    refine wl rfl _ _ (yA8 (.tmp 26) 1 rfl #[vo,(.int .i64 0)] rfl (.int .i64 0) rfl) ?_
    simp only [Act.put,aS,aC,aZ]
    refine wa (.tmp 29) vo ?_
    refine wa (.tmp 30) (.int .i64 0) ?_
    simp only [Act.put,aS,aC,aZ]
    refine wpList_nil ?_
    go_upto_region 9 with fail
    refine wp_region_lit ?_
    refine wm 4 (.int .i64 0) ?_
    refine wl rfl _ _ (yD1 (.tmp 31) (.const (.int .i64 0)) rfl (0) (0) rfl rfl false rfl) ?_
    simp only [Act.put,aS,aC,aZ]
    refine wpList_nil ?_
    obtain ⟨R,hR⟩:∃R,R=rootO os:=⟨_,rfl⟩
    have HR:Hid (R=rootO os∧R.length=32∧∀c∈R,c<256):=⟨hR,by rw [hR];exact (rootO_is os).1,by rw [hR];exact (rootO_is os).2⟩
    clear hR
    go_upto_region 11 with fail
    refine wp_region_lit ?_
    refine wm 5 vo ?_
    simp only [Act.put,aS,aC,aZ]
    refine yA5 eN47 [.tmp 34] _ rfl rfl [vo] rfl ?_
    refine (rootOf_any H3.out.2.2.1 H3.out.2.2.2.1.okL (by have:=wide_len os;have:=H3.out.2.2.2.1.le (Nat.zero_le _);have:=HM.out.2.2.1;omega) H3.out.1.env).mono ?_
    rintro e w4 ⟨rfl,hb_⟩
    refine ⟨_,rfl,?_⟩
    rw [←HR.out.1]
    have H4:Hid (Loc w3 w4 []):=(Loc.nil (Below.refl _ _)).later hb_
    clear hb_
    simp only [Act.put,aS,aC,aZ]
    refine wl rfl _ _ (yB6 (yA0 (Zs 32)) zero52 rfl) ?_
    have k_:=H4.out.box 52 (yA0 (Zs 32))
    obtain ⟨w5,hW_⟩:∃W,W=w4.alloc (.cells (yA0 (Zs 32)).toArray 52):=⟨_,rfl⟩
    obtain ⟨q6,hq_⟩:∃q,q=w4.heap.size:=⟨_,rfl⟩
    rw [←hW_,←hq_] at k_
    rw [←hW_,←hq_]
    clear hq_
    have Rw5:Hid (Loc w3 w5 [(q6,52,yA0 (Zs 32))]):=k_
    clear k_ hW_ H4
    simp only [Act.put,aS,aC,aZ]
    refine wlS rfl rfl _ (yB3 ag52 (.tmp 6) (.tmp 35) rfl Rw5.out 0 rfl (0) rfl (yA0 R) rfl (by rw [yA1];exact HR.out.2.1) (by rw [yA1,bz,HR.out.2.1];decide) (yB0 _)).1 ?_
    have k_:=Rw5.out.lay 0 rfl (0) (yA0 R)
    rw [yF4 (n:=32) _ HR.out.2.1] at k_ ⊢
    obtain ⟨w6,hW_⟩:∃W,W=w5.setRow q6 (yA0 R).toArray:=⟨_,rfl⟩
    rw [←hW_] at k_ ⊢
    have Rw6:Hid (Loc w3 w6 [(q6,52,yA0 R)]):=k_
    clear k_ hW_ Rw5
    refine wpList_nil ?_
    have H6:Hid ((VolW w6 c t gp gv d sz m rt2 false∧Row w6 q6 52 (yA0 R)∧Below w3.heap.size w3 w6)∧w3.heap.size≤q6):=⟨⟨H3.out.1.below Rw6.out.below,Rw6.out.at 0 rfl,Rw6.out.below⟩,Rw6.out.ge 0 rfl⟩
    go_upto_region 12 with fail
    refine wp_region_held (S:=fun X=>Row X gv 88 (vC gp (d:Nat) sz rt2 false)∧Row X q6 52 (yA0 R)) (by kernel_rfl) ?_
    show wpAnyH _ _ _ _ _ 18 (Array.replicate 18 false) _ _
    obtain ⟨X,hX⟩:∃X:World,X = { w6 with drawn:=w6.drawn+1 }:=⟨_,rfl⟩
    rw [←hX]
    have HLX:Hid (VolW X c t gp gv d sz m rt2 false∧Row X q6 52 (yA0 R)∧Below w3.heap.size w3 X):=(by rw [hX];exact ⟨H6.out.1.1.below ⟨rfl,rfl,rfl,Nat.le_refl _,fun _ _=>rfl⟩,H6.out.1.2.1.later ⟨rfl,rfl,rfl,Nat.le_refl _,fun _ _=>rfl⟩ H6.out.1.2.1.lt,H6.out.1.2.2.trans ((Below.refl w3.heap.size w6).trans ⟨rfl,rfl,rfl,Nat.le_refl _,fun _ _=>rfl⟩)⟩)
    have HS_:Row X gv 88 (vC gp (d:Nat) sz rt2 false)∧Row X q6 52 (yA0 R):=⟨HLX.out.1.row,HLX.out.2.1⟩
    clear hX
    refine tH 0 36 rfl rfl (gRun rfl _ fun _ h=>yA4 (.tmp 0) rfl (ptr gv) rfl) HS_ ?_
    refine tH 1 37 rfl rfl (gRun rfl _ fun _ h=>yF8 (.tmp 36) rfl ⟨gv,0,none⟩ rfl) HS_ ?_
    refine tH 2 38 rfl rfl (gRun rfl _ fun _ h=>yA3 f88_0 (.tmp 37) rfl gv (0) rfl) HS_ ?_
    simp only [Act.put,aS,aC,aZ]
    refine tH 3 39 rfl rfl (gRun rfl _ fun _ h=>yA9 ag86 (.tmp 38) rfl gv (0+0) rfl ((tpC gp (d:Nat) sz)) rfl (fun j v hj=>by rw [show 0+0+j=j by omega];exact h.1.at j v (vC_tape _ _ _ _ _ j v hj))) HS_ ?_
    refine tH 4 40 rfl rfl (gRun rfl _ fun _ h=>yA4 (.tmp 0) rfl (ptr gv) rfl) HS_ ?_
    refine tH 5 41 rfl rfl (gRun rfl _ fun _ h=>yF8 (.tmp 40) rfl ⟨gv,0,none⟩ rfl) HS_ ?_
    simp only [Act.put,aS,aC,aZ]
    refine tH 6 42 rfl rfl (gRun rfl _ fun _ h=>yA3 f88_0 (.tmp 41) rfl gv (0) rfl) HS_ ?_
    refine tH 7 43 rfl rfl (gRun rfl _ fun _ h=>yA3 f86_1 (.tmp 42) rfl gv (0+0) rfl) HS_ ?_
    refine tH 8 44 rfl rfl (gRun rfl _ fun _ h=>yA7 o3 (.tmp 43) rfl gv (0+0+1) rfl (.int .i64 (d:Nat)) (h.1.at (0+0+1) _ (vC_1 _ _ _ _ _))) HS_ ?_
    simp only [Act.put,aS,aC,aZ]
    refine tH 9 45 rfl rfl (gRun rfl _ fun _ h=>yA4 (.tmp 0) rfl (ptr gv) rfl) HS_ ?_
    refine tH 10 46 rfl rfl (gRun rfl _ fun _ h=>yF8 (.tmp 45) rfl ⟨gv,0,none⟩ rfl) HS_ ?_
    refine tH 11 47 rfl rfl (gRun rfl _ fun _ h=>yA3 f88_0 (.tmp 46) rfl gv (0) rfl) HS_ ?_
    simp only [Act.put,aS,aC,aZ]
    refine tH 12 48 rfl rfl (gRun rfl _ fun _ h=>yA9 ag86 (.tmp 47) rfl gv (0+0) rfl ((tpC gp (d:Nat) sz)) rfl (fun j v hj=>by rw [show 0+0+j=j by omega];exact h.1.at j v (vC_tape _ _ _ _ _ j v hj))) HS_ ?_
    refine tH 14 50 rfl rfl (gRun rfl _ fun _ h=>yA9 ag52 (.tmp 6) rfl q6 (0) rfl (yA0 R) (by rw [yA1];exact HR.out.2.1) (yJ0 h.2)) HS_ ?_
    simp only [Act.put,aS,aC,aZ]
    refine oneH (i:=13) (by kernel_rfl) ?_
    refine yF6 (some 49) rfl rfl rfl 38 _ (yC2 eN38 [.tmp 48] _ rfl [(.agg ((tpC gp (d:Nat) sz)).toArray)] rfl) ?_
    refine (tlen_any HLX.out.1.live (by have:=HM.out.2.1;omega) d HLX.out.1.dev sz).mono ?_
    rintro e Y0 ⟨rfl,hb_⟩
    rw [HM.out.2.2.2.2.2.2.2.1]
    refine ⟨_,rfl,?_⟩
    have HL0:Hid (VolW Y0 c t gp gv d sz m rt2 false∧Row Y0 q6 52 (yA0 R)∧Below w3.heap.size w3 Y0):=⟨HLX.out.1.below hb_,HLX.out.2.1.later hb_ HLX.out.2.1.lt,HLX.out.2.2.trans (hb_.mono HLX.out.2.2.size)⟩
    replace HS_:Row Y0 gv 88 (vC gp (d:Nat) sz rt2 false)∧Row Y0 q6 52 (yA0 R):=⟨HL0.out.1.row,HL0.out.2.1⟩
    clear hb_
    refine ⟨HS_,?_⟩
    simp only [Act.put,aS,aC,aZ]
    refine oneH (i:=15) (by kernel_rfl) ?_
    refine yF6 (some 51) rfl rfl rfl 48 _ (yC2 eN48 [.tmp 44,.tmp 49,.tmp 50] _ rfl [(.int .i64 (d:Nat)),(.int .i64 (n:Nat)),(.agg (yA0 R).toArray)] rfl) ?_
    refine (endOf_any d n R Y0 HR.out.2.1 HR.out.2.2 HL0.out.1.env).mono ?_
    rintro e Y1 ⟨ve,rfl,ho_,hb_⟩
    refine ⟨_,rfl,?_⟩
    have HAP:Hid ((VolW Y1 c t gp gv d sz m rt2 false∧Row Y1 q6 52 (yA0 R)∧Below w3.heap.size w3 Y1)∧AOwn 133 64 Y1 Y0.heap.size ve (ends d n R)∧w3.heap.size≤Y0.heap.size):=⟨⟨HL0.out.1.below hb_,HL0.out.2.1.later hb_ HL0.out.2.1.lt,HL0.out.2.2.trans (hb_.mono HL0.out.2.2.size)⟩,ho_,HL0.out.2.2.size⟩
    replace HS_:Row Y1 gv 88 (vC gp (d:Nat) sz rt2 false)∧Row Y1 q6 52 (yA0 R):=⟨HAP.out.1.1.row,HAP.out.1.2.1⟩
    clear ho_ hb_
    refine ⟨HS_,?_⟩
    simp only [Act.put,aS,aC,aZ]
    refine oneH (i:=16) (by kernel_rfl) ?_
    refine yF6 (some 52) rfl rfl rfl 39 _ (yC2 eN39 [.tmp 39,.tmp 51] _ rfl [(.agg ((tpC gp (d:Nat) sz)).toArray),ve] rfl) ?_
    refine (twrite_any HAP.out.1.1.live d sz HAP.out.2.1 (fun b e=>HL0.out.1.live.2.2 b (HAP.out.2.1.2.lt b e).1) (by show 2≤1000;decide) (by show m.steps+2<_;have:=HM.out.2.1;omega)).mono ?_
    rintro e Y2 ⟨c2,he_,s2_,l2_⟩
    obtain ⟨er9,her9⟩:∃z,z=(m.lays (d:Nat) (ends d n R)).1:=⟨_,rfl⟩
    obtain ⟨m9,hm9⟩:∃z,z=(m.lays (d:Nat) (ends d n R)).2:=⟨_,rfl⟩
    rw [←her9] at he_
    rw [←hm9] at l2_
    subst he_
    have HW:Hid (er9=(m.lays (d:Nat) (ends d n R)).1∧m9=(m.lays (d:Nat) (ends d n R)).2∧m9.steps≤m.steps+2):=⟨her9,hm9,by rw [hm9];exact (yJ5 _ _ _).1⟩
    have HJ:Hid (VolW Y2 c2 t gp gv d sz m9 rt2 false∧Row Y2 q6 52 (yA0 R)∧(c2 q6).1≠t∧SpT t w3 Y2 c c2):=⟨HAP.out.1.1.sh s2_ l2_ (by rw [hm9];exact (yJ5 _ _ _).2),(s2_.row HAP.out.1.2.1 (H3.out.1.live.2.2 q6 H6.out.2)).1,(s2_.row HAP.out.1.2.1 (H3.out.1.live.2.2 q6 H6.out.2)).2,(SpT.bel c HAP.out.1.2.2).trans s2_⟩
    replace HS_:Row Y2 gv 88 (vC gp (d:Nat) sz rt2 false)∧Row Y2 q6 52 (yA0 R):=⟨HJ.out.1.row,HJ.out.2.1⟩
    clear her9 hm9 s2_ l2_
    refine ⟨_,rfl,?_⟩
    refine ⟨HS_,?_⟩
    simp only [Act.put,aS,aC,aZ]
    refine tH 17 7 rfl rfl (gRun rfl _ fun _ h=>yE7 (.tmp 52) rfl (.int .i64 er9) rfl) HS_ ?_
    simp only [Act.put,aS,aC,aZ]
    refine wpAnyH_done (by kernel_rfl) ?_ _
    have hcc:∀b,b<w.heap.size→c2 b=c b:=fun b hb=>HJ.out.2.2.2.cc b (Nat.lt_of_lt_of_le hb H3.out.2.1.size)
    have hch:Hid (Ch (fun b=>b=gv∨(c b).1=t) w Y2):=((H3.out.2.1.mono (fun b _ h=>Or.inl h)).trans' HJ.out.2.2.2.ch (fun b _ e=>Or.inr e))
    by_cases hz:er9=0
    ·go_upto_region 13 with fail
     refine wp_region_lit ?_
     refine wm 7 (.int .i64 er9) ?_
     refine wl rfl _ _ (yD1 (.tmp 53) (.const (.int .i64 0)) rfl er9 0 rfl rfl false (by rw [decide_eq_true hz];rfl)) ?_
     simp only [Act.put,aS,aC,aZ]
     refine wpList_nil ?_
     go_upto_region 15 with fail
     refine wp_region_lit ?_
     refine wm 0 (ptr gv) ?_
     simp only [Act.put,aS,aC,aZ]
     refine yA5 eN16 [.tmp 56] _ rfl rfl [(ptr gv)] rfl ?_
     refine (vflush_any HJ.out.1 (by have:=HW.out.2.2;have:=HM.out.2.1;omega)).mono ?_
     rintro e Y3 ⟨c3,rfl,s3_,v3_⟩
     obtain ⟨er8,her8⟩:∃z,z=(m9.flush (d:Nat)).1:=⟨_,rfl⟩
     obtain ⟨m8,hm8⟩:∃z,z=(m9.flush (d:Nat)).2:=⟨_,rfl⟩
     rw [←hm8] at v3_
     rw [←her8]
     refine ⟨_,rfl,?_⟩
     have HF:Hid (er8=(m9.flush (d:Nat)).1∧m8=(m9.flush (d:Nat)).2):=⟨her8,hm8⟩
     have HK:Hid (VolW Y3 c3 t gp gv d sz m8 rt2 false∧Row Y3 q6 52 (yA0 R)∧(∀b,b<w.heap.size→c3 b=c b)∧Ch (fun b=>b=gv∨(c b).1=t) w Y3):=⟨v3_,(s3_.row HJ.out.2.1 HJ.out.2.2.1).1,fun b hb=>(s3_.cc b (Nat.lt_of_lt_of_le hb hch.out.size)).trans (hcc b hb),hch.out.trans' s3_.ch (fun b hb e=>Or.inr (by rw [←hcc b hb];exact e))⟩
     clear s3_ v3_ her8 hm8
     simp only [Act.put,aS,aC,aZ]
     refine wa (.tmp 57) (.int .i64 er8) ?_
     simp only [Act.put,aS,aC,aZ]
     refine wpList_nil ?_
     have HEE:Hid (er9=0):=hz
     by_cases hz8:er8=0
     ·go_upto_region 16 with fail
      refine wp_region_lit ?_
      refine wm 8 (.int .i64 er8) ?_
      refine wl rfl _ _ (yD1 (.tmp 58) (.const (.int .i64 0)) rfl er8 0 rfl rfl false (by rw [decide_eq_true hz8];rfl)) ?_
      simp only [Act.put,aS,aC,aZ]
      refine wpList_nil ?_
      go_upto_region 18 with fail
      refine wp_region_lit ?_
      refine wm 0 (ptr gv) ?_
      refine wm 0 (ptr gv) ?_
      refine wl rfl _ _ (yA9 ag52 (.tmp 6) rfl q6 (0) rfl (yA0 R) (by rw [yA1];exact HR.out.2.1) (yJ0 HK.out.2.1)) ?_
      simp only [Act.put,aS,aC,aZ]
      refine wl rfl _ _ (yF8 (.tmp 61) rfl ⟨gv,0,none⟩ rfl) ?_
      refine wl rfl _ _ (yA3 f88_1 (.tmp 64) rfl gv (0) rfl) ?_
      simp only [Act.put,aS,aC,aZ]
      refine wlS rfl rfl _ (run_stAt ag52 (.tmp 65) (.tmp 63) rfl gv (0+3) 88 rfl (yA0 R) (vC gp (d:Nat) sz rt2 false) rfl (by rw [yA1];exact HR.out.2.1) HK.out.1.row (by rw [yA1,HR.out.2.1,vC_len _ _ _ _ HK.out.1.len];decide) (yB0 _)) ?_
      rw [Nat.zero_add,vC_root _ _ _ _ HK.out.1.len HR.out.2.1]
      have r_:=HK.out.1.row.setRow (vC gp (d:Nat) sz R false)
      have c_:=(Ch.refl (· = gv) Y3).setRow (g:=gv) (Or.inl rfl) (vC gp (d:Nat) sz R false).toArray
      obtain ⟨Y4,hW_⟩:∃U_:World,U_=Y3.setRow gv (vC gp (d:Nat) sz R false).toArray:=⟨_,rfl⟩
      rw [←hW_] at r_ c_ ⊢
      have H7:Hid (Row Y4 gv 88 (vC gp (d:Nat) sz R false)∧Ch (· = gv) Y3 Y4):=⟨r_,c_⟩
      clear r_ c_ hW_
      refine wl rfl _ _ (yF8 (.tmp 62) rfl ⟨gv,0,none⟩ rfl) ?_
      refine wl rfl _ _ (yA3 f88_2 (.tmp 66) rfl gv (0) rfl) ?_
      simp only [Act.put,aS,aC,aZ]
      refine wlS rfl rfl _ (run_putRow (t:=4) sz4 (.tmp 67) (.const (.bool true)) rfl gv (0+35) 88 _ rfl (.bool true) rfl ⟨rfl,rfl⟩ H7.out.1 (by rw [vC_len _ _ _ _ HR.out.2.1];decide)) ?_
      have r_:=row_cell' (i:=0+35) H7.out.1 (.bool true)
      have c_:=H7.out.2.setCell (g:=gv) (Or.inl rfl) (0+35) (.bool true)
      rw [Nat.zero_add] at r_ c_ ⊢
      rw [vC_set _ _ _ _ _ HR.out.2.1] at r_
      obtain ⟨Y5,hW_⟩:∃U_:World,U_=Y4.setCell ⟨gv,35,none⟩ (.bool true):=⟨_,rfl⟩
      rw [←hW_] at r_ c_ ⊢
      have H8:Hid (VolW Y5 c3 t gp gv d sz m8 R true∧Ch (fun b=>b=gv∨(c b).1=t) w Y5):=⟨HK.out.1.seen c_ r_ HR.out.2.1,HK.out.2.2.2.trans' c_ (fun b _ e=>Or.inl e)⟩
      clear r_ c_ hW_ H7
      refine wpList_nil ?_
      go_upto_region 19 with fail
      refine wp_region_lit ?_
      refine wa (.const (.int .i64 0)) (.int .i64 0) ?_
      simp only [Act.put,aS,aC,aZ]
      refine wpList_nil ?_
      go_wp2_with fail
      rw [HPQ.out]
      exact ⟨c3,0,m8,R,true,rfl,HK.out.2.2.1,H8.out.2,H8.out.1,Or.inr ⟨by rw [←HM.out.2.2.1];omega,_,_,_,H2.out.2.2,Or.inr (Or.inr ⟨rfl,rfl,os,H3.out.2.2.2.1,H3.out.2.2.2.2.1,H3.out.2.2.2.2.2,Or.inr ⟨by rw [←HM.out.2.2.1,←HR.out.1,←HW.out.1];exact HEE.out,by rw [←HM.out.2.2.1,←HR.out.1,←HW.out.2.1];exact HF.out.2,Or.inr ⟨by rw [←HM.out.2.2.1,←HR.out.1,←HW.out.2.1,←HF.out.1];exact hz8,rfl,HR.out.1,rfl⟩⟩⟩)⟩⟩
     ·go_upto_region 16 with fail
      refine wp_region_lit ?_
      refine wm 8 (.int .i64 er8) ?_
      refine wl rfl _ _ (yD1 (.tmp 58) (.const (.int .i64 0)) rfl er8 0 rfl rfl true (by rw [decide_eq_false hz8];rfl)) ?_
      simp only [Act.put,aS,aC,aZ]
      refine wpList_nil ?_
      go_upto_region 17 with fail
      refine wp_region_lit ?_
      refine wm 8 (.int .i64 er8) ?_
      refine wa (.tmp 60) (.int .i64 er8) ?_
      simp only [Act.put,aS,aC,aZ]
      refine wpList_nil ?_
      go_wp2_with fail
      rw [HPQ.out]
      exact ⟨c3,er8,m8,rt2,false,rfl,HK.out.2.2.1,HK.out.2.2.2,HK.out.1,Or.inr ⟨by rw [←HM.out.2.2.1];omega,_,_,_,H2.out.2.2,Or.inr (Or.inr ⟨rfl,rfl,os,H3.out.2.2.2.1,H3.out.2.2.2.2.1,H3.out.2.2.2.2.2,Or.inr ⟨by rw [←HM.out.2.2.1,←HR.out.1,←HW.out.1];exact HEE.out,by rw [←HM.out.2.2.1,←HR.out.1,←HW.out.2.1];exact HF.out.2,Or.inl ⟨by rw [←HM.out.2.2.1,←HR.out.1,←HW.out.2.1,←HF.out.1];exact hz8,by rw [←HM.out.2.2.1,←HR.out.1,←HW.out.2.1];exact HF.out.1,rfl,rfl⟩⟩⟩)⟩⟩
    ·go_upto_region 13 with fail
     refine wp_region_lit ?_
     refine wm 7 (.int .i64 er9) ?_
     refine wl rfl _ _ (yD1 (.tmp 53) (.const (.int .i64 0)) rfl er9 0 rfl rfl true (by rw [decide_eq_false hz];rfl)) ?_
     simp only [Act.put,aS,aC,aZ]
     refine wpList_nil ?_
     go_upto_region 14 with fail
     refine wp_region_lit ?_
     refine wm 7 (.int .i64 er9) ?_
     refine wa (.tmp 55) (.int .i64 er9) ?_
     simp only [Act.put,aS,aC,aZ]
     refine wpList_nil ?_
     go_wp2_with fail
     rw [HPQ.out]
     exact ⟨c2,er9,m9,rt2,false,rfl,hcc,hch.out,HJ.out.1,Or.inr ⟨by rw [←HM.out.2.2.1];omega,_,_,_,H2.out.2.2,Or.inr (Or.inr ⟨rfl,rfl,os,H3.out.2.2.2.1,H3.out.2.2.2.2.1,H3.out.2.2.2.2.2,Or.inl ⟨by rw [←HM.out.2.2.1,←HR.out.1,←HW.out.1];exact hz,by rw [←HM.out.2.2.1,←HR.out.1];exact HW.out.1,by rw [←HM.out.2.2.1,←HR.out.1];exact HW.out.2.1,rfl,rfl⟩⟩)⟩⟩
  ·go_upto_region 4 with fail
   refine wp_region_lit ?_
   refine wm 4 (.int .i64 er) ?_
   refine wl rfl _ _ (yD1 (.tmp 21) (.const (.int .i64 0)) rfl er 0 rfl rfl true (by rw [decide_eq_false her];rfl)) ?_
   refine wa (.tmp 22) (.bool true) ?_
   simp only [Act.put,aS,aC,aZ]
   refine wpList_nil ?_
   go_upto_region 5 with fail
   refine wp_region_lit ?_
   refine wm 4 (.int .i64 er) ?_
   refine wa (.tmp 23) (.int .i64 er) ?_
   simp only [Act.put,aS,aC,aZ]
   refine wpList_nil ?_
   go_wp2_with fail
   rw [HPQ.out]
   exact ⟨c,er,m,rt2,sl2,rfl,fun _ _=>rfl,H2.out.2.1.mono (fun b _ h=>Or.inl h),H2.out.1,Or.inr ⟨by rw [←HM.out.2.2.1];omega,_,_,_,H2.out.2.2,Or.inl ⟨her,rfl,rfl,rfl,rfl⟩⟩⟩
end Go.Proofs.YtpkkkkomdblpoaaDoor

/- Layer 15: a volume flushed; an object read. Layer 15: a volume's root. -/
import Derived.Test.YtpkkkkomdblpoaaDoorS26
namespace Go.Proofs.YtpkkkkomdblpoaaDoor
open Go.RowKit Go.Maps
open Cold
theorem VolW.sh {W W':World} {c:Nat→Colour} {t gp gv d:Nat} {sz:Int} {m:Pl} {rt:List Nat} {sl:Bool} {c':Nat→Colour} {m':Pl} (h:VolW W c t gp gv d sz m rt sl) (s:SpT t W W' c c') (l:Live W' c' t gp m') (hs:m'.sh=m.sh):VolW W' c' t gp gv d sz m' rt sl :=
 h.spT s l (by unfold Pl.n;rw [hs]) (by unfold Pl.tape;rw [hs]) (by unfold Pl.size;rw [hs])
theorem flush_sh (m:Pl) (d:Int):(m.flush d).2.sh=m.sh:=by
 unfold Pl.flush
 repeat' split
 all_goals first|rfl|exact m.step_sh
theorem vC_0 (gp:Nat) (d sz:Int) (rt:List Nat) (sl:Bool):(vC gp d sz rt sl)[0+0+0]? = some (ptr gp):=rfl
theorem vC_1 (gp:Nat) (d sz:Int) (rt:List Nat) (sl:Bool):(vC gp d sz rt sl)[0+0+1]? = some (.int .i64 d):=rfl
set_option maxHeartbeats 4000000 in
set_option maxRecDepth 100000 in
theorem vflush_any {w:World} {c:Nat→Colour} {t gp gv d:Nat} {sz:Int} {m:Pl} {rt:List Nat} {sl:Bool} (h:VolW w c t gp gv d sz m rt sl) (hst:m.steps<35184372088831):Calls Tryd.prog 16 #[ptr gv] w fun e w' => ∃c',e = .returned (.int .i64 (m.flush (d:Nat)).1)∧SpT t w w' c c'∧VolW w' c' t gp gv d sz (m.flush (d:Nat)).2 rt sl:=by
 have HM:Hid (VolW w c t gp gv d sz m rt sl∧m.steps<35184372088831):=⟨h,hst⟩
 clear h hst
 obtain ⟨PQ,HPQ⟩:=exPQ fun (e:Ending) (w':World) => ∃c',e = .returned (.int .i64 (m.flush (d:Nat)).1)∧SpT t w w' c c'∧VolW w' c' t gp gv d sz (m.flush (d:Nat)).2 rt sl
 rw [←HPQ.out]
 obtain ⟨er,her⟩:∃er,er=(m.flush (d:Nat)).1:=⟨_,rfl⟩
 obtain ⟨m2,hm2⟩:∃m2,m2=(m.flush (d:Nat)).2:=⟨_,rfl⟩
 have HW:Hid (er=(m.flush (d:Nat)).1∧m2=(m.flush (d:Nat)).2):=⟨her,hm2⟩
 clear her hm2
 go_enter Tryd.func16,Tryd.ntmps16
 go_upto_region 0 with fail
 refine wp_region_lit ?_
 refine wa (.const (.int .i64 0)) (.int .i64 0) ?_
 simp only [Act.put,aS,aC,aZ]
 refine wpList_nil ?_
 go_upto_region 1 with fail
 refine wp_region_held (S:=fun X=>Row X gv 88 (vC gp (d:Nat) sz rt sl)) (by kernel_rfl) ?_
 show wpAnyH _ _ _ _ _ 12 (Array.replicate 12 false) _ _
 obtain ⟨X,hX⟩:∃X:World,X = { w with drawn:=w.drawn+1 }:=⟨_,rfl⟩
 rw [←hX]
 have HBX:Hid (Below w.heap.size w X):=(by rw [hX];exact ⟨rfl,rfl,rfl,Nat.le_refl _,fun _ _=>rfl⟩)
 have HLX:Hid (VolW X c t gp gv d sz m rt sl):=HM.out.1.below HBX.out
 have HS_:Row X gv 88 (vC gp (d:Nat) sz rt sl):=HLX.out.row
 clear hX
 refine tH 0 3 rfl rfl (gRun rfl _ fun _ h=>yA4 (.tmp 0) rfl (ptr gv) rfl) HS_ ?_
 refine tH 1 4 rfl rfl (gRun rfl _ fun _ h=>yF8 (.tmp 3) rfl ⟨gv,0,none⟩ rfl) HS_ ?_
 refine tH 2 5 rfl rfl (gRun rfl _ fun _ h=>yA3 f88_0 (.tmp 4) rfl gv (0) rfl) HS_ ?_
 simp only [Act.put,aS,aC,aZ]
 refine tH 3 6 rfl rfl (gRun rfl _ fun _ h=>yA3 f86_0 (.tmp 5) rfl gv (0+0) rfl) HS_ ?_
 refine tH 4 7 rfl rfl (gRun rfl _ fun _ h=>yA7 o24 (.tmp 6) rfl gv (0+0+0) rfl (ptr gp) (h.at (0+0+0) _ (vC_0 _ _ _ _ _))) HS_ ?_
 refine tH 5 8 rfl rfl (gRun rfl _ fun _ h=>yA4 (.tmp 0) rfl (ptr gv) rfl) HS_ ?_
 simp only [Act.put,aS,aC,aZ]
 refine tH 6 9 rfl rfl (gRun rfl _ fun _ h=>yF8 (.tmp 8) rfl ⟨gv,0,none⟩ rfl) HS_ ?_
 refine tH 7 10 rfl rfl (gRun rfl _ fun _ h=>yA3 f88_0 (.tmp 9) rfl gv (0) rfl) HS_ ?_
 refine tH 8 11 rfl rfl (gRun rfl _ fun _ h=>yA3 f86_1 (.tmp 10) rfl gv (0+0) rfl) HS_ ?_
 simp only [Act.put,aS,aC,aZ]
 refine tH 9 12 rfl rfl (gRun rfl _ fun _ h=>yA7 o3 (.tmp 11) rfl gv (0+0+1) rfl (.int .i64 (d:Nat)) (h.at (0+0+1) _ (vC_1 _ _ _ _ _))) HS_ ?_
 simp only [Act.put,aS,aC,aZ]
 refine oneH (i:=10) (by kernel_rfl) ?_
 refine yF6 (some 13) rfl rfl rfl 30 _ (yC2 eN30 [.tmp 7,.tmp 12] _ rfl [(ptr gp),(.int .i64 (d:Nat))] rfl) ?_
 refine (HLX.out.live.flush (by have:=HM.out.2;omega) (d:Nat)).mono ?_
 rintro e W2 ⟨he_,hn_⟩
 rw [←HW.out.1] at he_
 rw [←HW.out.2] at hn_
 subst he_
 obtain ⟨c2,s2_,l2_⟩:=hn_.spT
 have HJ:Hid (VolW W2 c2 t gp gv d sz m2 rt sl∧SpT t w W2 c c2):=⟨HLX.out.sh s2_ l2_ (by rw [HW.out.2];exact flush_sh _ _),(SpT.bel c HBX.out).trans s2_⟩
 replace HS_:Row W2 gv 88 (vC gp (d:Nat) sz rt sl):=HJ.out.1.row
 clear s2_ l2_ hn_
 refine ⟨_,rfl,?_⟩
 refine ⟨HS_,?_⟩
 simp only [Act.put,aS,aC,aZ]
 refine tH 11 2 rfl rfl (gRun rfl _ fun _ h=>yE7 (.tmp 13) rfl (.int .i64 er) rfl) HS_ ?_
 simp only [Act.put,aS,aC,aZ]
 refine wpAnyH_done (by kernel_rfl) ?_ _
 go_wp2_with fail
 rw [HPQ.out]
 exact ⟨c2,by rw [←HW.out.1];rfl,HJ.out.2,by rw [←HW.out.2];exact HJ.out.1⟩
set_option maxHeartbeats 4000000 in
set_option maxRecDepth 100000 in
theorem vread_any {w:World} {c:Nat→Colour} {t gp gv d:Nat} {sz:Int} {m:Pl} {rt:List Nat} {sl:Bool} (h:VolW w c t gp gv d sz m rt sl) (hst:m.steps<35184372088831) (d' a' l':Int) (bd:Bool) (ha : -9223372036854775808≤a'∧a'≤9223372036854775807) (hn : -9223372036854775808≤l'∧l'≤9223372036854775807):Calls Tryd.prog 17 #[ptr gv,.agg (plC d' a' l' bd).toArray] w fun e w'=>Below w.heap.size w w'∧∃id vb er,e = .returned (.tuple #[str id,vb,.int .i64 er])∧((er=0∧d'=(d:Nat)∧m.on=true∧∃(a N:Nat) (bs:List Nat),a'=(a:Nat)∧l'=(N:Nat)∧a+N≤(ctn m d).length∧IsObj d a (((ctn m d).drop a).take N) id bs∧yA2 w' vb bs∧∀b,vb.ownBlock=some b→w.heap.size≤b)∨(id=[]∧vb = .slice none 0 0∧er=2∧d'=(d:Nat)∧m.on=false∧∃a N:Nat,a'=(a:Nat)∧l'=(N:Nat)∧0<N∧a+N≤(ctn m d).length)∨(id=[]∧vb = .slice none 0 0∧er=4∧(d'=(d:Nat)→∀a N:Nat,a'=(a:Nat)→l'=(N:Nat)→a+N≤(ctn m d).length→NoObj d a (((ctn m d).drop a).take N)))):=by
 obtain ⟨ct,hct⟩:∃x,x=ctn m d:=⟨_,rfl⟩
 have HM:Hid (VolW w c t gp gv d sz m rt sl∧m.steps<35184372088831∧ct=ctn m d∧ct.length≤4096):=⟨h,hst,hct,hct▸h.bound.1⟩
 have H0:Hid (Loc w w []):=Loc.nil (Below.refl _ _)
 have HA:Hid ((-9223372036854775808≤a'∧a'≤9223372036854775807)∧(-9223372036854775808≤l'∧l'≤9223372036854775807)):=⟨ha,hn⟩
 rw [←hct]
 clear h hst hct ha hn
 obtain ⟨PQ,HPQ⟩:=exPQ fun (e:Ending) (w':World)=>Below w.heap.size w w'∧∃id vb er,e = .returned (.tuple #[str id,vb,.int .i64 er])∧((er=0∧d'=(d:Nat)∧m.on=true∧∃(a N:Nat) (bs:List Nat),a'=(a:Nat)∧l'=(N:Nat)∧a+N≤ct.length∧IsObj d a ((ct.drop a).take N) id bs∧yA2 w' vb bs∧∀b,vb.ownBlock=some b→w.heap.size≤b)∨(id=[]∧vb = .slice none 0 0∧er=2∧d'=(d:Nat)∧m.on=false∧∃a N:Nat,a'=(a:Nat)∧l'=(N:Nat)∧0<N∧a+N≤ct.length)∨(id=[]∧vb = .slice none 0 0∧er=4∧(d'=(d:Nat)→∀a N:Nat,a'=(a:Nat)→l'=(N:Nat)→a+N≤ct.length→NoObj d a ((ct.drop a).take N))))
 rw [←HPQ.out]
 go_enter Tryd.func17,Tryd.ntmps17
 go_upto_region 0 with fail
 refine wp_region_lit ?_
 refine wl rfl _ _ (yG2 (.tmp 1) rfl ((plC d' a' l' bd)) rfl) ?_
 have k_:=H0.out.box 40 ((plC d' a' l' bd))
 obtain ⟨w1,hW_⟩:∃W,W=w.alloc (.cells ((plC d' a' l' bd)).toArray 40):=⟨_,rfl⟩
 obtain ⟨q1,hq_⟩:∃q,q=w.heap.size:=⟨_,rfl⟩
 rw [←hW_,←hq_] at k_
 rw [←hW_,←hq_]
 clear hq_
 have Rw1:Hid (Loc w w1 [(q1,40,(plC d' a' l' bd))]):=k_
 clear k_ hW_ H0
 simp only [Act.put,aS,aC,aZ]
 refine wa (.const (.string { data:=#[] })) (.string { data:=#[] }) ?_
 refine wa (.const (.slice none 0 0)) (.slice none 0 0) ?_
 refine wa (.const (.int .i64 0)) (.int .i64 0) ?_
 simp only [Act.put,aS,aC,aZ]
 refine wpList_nil ?_
 have H1:Hid (Loc w w1 [(q1,40,(plC d' a' l' bd))]∧VolW w1 c t gp gv d sz m rt sl):=⟨Rw1.out,HM.out.1.below Rw1.out.below⟩
 clear Rw1
 obtain ⟨eqd,heqd⟩:∃b,(!decide (d'=((d:Nat):Int)))=b:=⟨_,rfl⟩
 have HEQ:Hid ((!decide (d'=((d:Nat):Int)))=eqd):=heqd
 clear heqd
 go_upto_region 1 with fail
 refine wp_region_held (S:=fun X=>Loc w X [(q1,40,(plC d' a' l' bd))]∧VolW X c t gp gv d sz m rt sl) (by kernel_rfl) ?_
 show wpAnyH _ _ _ _ _ 8 (Array.replicate 8 false) _ _
 obtain ⟨X,hX⟩:∃X:World,X = { w1 with drawn:=w1.drawn+1 }:=⟨_,rfl⟩
 rw [←hX]
 have HS_:Loc w X [(q1,40,(plC d' a' l' bd))]∧VolW X c t gp gv d sz m rt sl:=(by rw [hX];exact ⟨H1.out.1.drew,H1.out.2.below ⟨rfl,rfl,rfl,Nat.le_refl _,fun _ _=>rfl⟩⟩)
 clear hX
 refine tH 0 11 rfl rfl (gRun rfl _ fun _ h=>yA3 f40_0 (.tmp 3) rfl q1 (0) rfl) HS_ ?_
 refine tH 1 12 rfl rfl (gRun rfl _ fun _ h=>yA7 o3 (.tmp 11) rfl q1 (0+0) rfl (.int .i64 d') ((h.1.at 0 rfl).at (0+0) _ rfl)) HS_ ?_
 refine tH 2 13 rfl rfl (gRun rfl _ fun _ h=>yA4 (.tmp 0) rfl (ptr gv) rfl) HS_ ?_
 simp only [Act.put,aS,aC,aZ]
 refine tH 3 14 rfl rfl (gRun rfl _ fun _ h=>yF8 (.tmp 13) rfl ⟨gv,0,none⟩ rfl) HS_ ?_
 refine tH 4 15 rfl rfl (gRun rfl _ fun _ h=>yA3 f88_0 (.tmp 14) rfl gv (0) rfl) HS_ ?_
 refine tH 5 16 rfl rfl (gRun rfl _ fun _ h=>yA3 f86_1 (.tmp 15) rfl gv (0+0) rfl) HS_ ?_
 simp only [Act.put,aS,aC,aZ]
 refine tH 6 17 rfl rfl (gRun rfl _ fun _ h=>yA7 o3 (.tmp 16) rfl gv (0+0+1) rfl (.int .i64 (d:Nat)) (h.2.row.at (0+0+1) _ (vC_1 _ _ _ _ _))) HS_ ?_
 refine tH 7 18 rfl rfl (gRun rfl _ fun _ h=>yD1 (.tmp 12) (.tmp 17) rfl d' (d:Nat) rfl rfl eqd HEQ.out) HS_ ?_
 simp only [Act.put,aS,aC,aZ]
 refine wpAnyH_done (by kernel_rfl) ?_ _
 have H2:Hid (Loc w X [(q1,40,(plC d' a' l' bd))]∧VolW X c t gp gv d sz m rt sl):=HS_
 clear HS_ H1
 cases eqd with
 | true =>
  go_upto_region 2 with fail
  refine wp_region_lit ?_
  refine wa (.const (.string { data:=#[] })) (.string { data:=#[] }) ?_
  refine wa (.const (.slice none 0 0)) (.slice none 0 0) ?_
  refine wa (.const (.int .i64 4)) (.int .i64 4) ?_
  simp only [Act.put,aS,aC,aZ]
  refine wpList_nil ?_
  go_wp2_with fail
  rw [HPQ.out]
  exact ⟨H2.out.1.below,[],.slice none 0 0,4,rfl,Or.inr (Or.inr ⟨rfl,rfl,rfl,fun h=>absurd h (by simpa using HEQ.out)⟩)⟩
 | false =>
  have hdd:d'=(d:Nat):=(by simpa using HEQ.out)
  subst hdd
  go_upto_region 3 with fail
  refine wp_region_held (S:=fun X=>Loc w X [(q1,40,(plC (d:Nat) a' l' bd))]∧VolW X c t gp gv d sz m rt sl) (by kernel_rfl) ?_
  show wpAnyH _ _ _ _ _ 14 (Array.replicate 14 false) _ _
  obtain ⟨Y,hX⟩:∃Y:World,Y = { X with drawn:=X.drawn+1 }:=⟨_,rfl⟩
  rw [←hX]
  have HS_:Loc w Y [(q1,40,(plC (d:Nat) a' l' bd))]∧VolW Y c t gp gv d sz m rt sl:=(by rw [hX];exact ⟨H2.out.1.drew,H2.out.2.below ⟨rfl,rfl,rfl,Nat.le_refl _,fun _ _=>rfl⟩⟩)
  clear hX
  refine tH 0 20 rfl rfl (gRun rfl _ fun _ h=>yA4 (.tmp 0) rfl (ptr gv) rfl) HS_ ?_
  refine tH 1 21 rfl rfl (gRun rfl _ fun _ h=>yF8 (.tmp 20) rfl ⟨gv,0,none⟩ rfl) HS_ ?_
  refine tH 2 22 rfl rfl (gRun rfl _ fun _ h=>yA3 f88_0 (.tmp 21) rfl gv (0) rfl) HS_ ?_
  simp only [Act.put,aS,aC,aZ]
  refine tH 3 23 rfl rfl (gRun rfl _ fun _ h=>yA9 ag86 (.tmp 22) rfl gv (0+0) rfl ((tpC gp (d:Nat) sz)) rfl (fun j v hj=>by rw [show 0+0+j=j by omega];exact h.2.row.at j v (vC_tape _ _ _ _ _ j v hj))) HS_ ?_
  refine tH 4 24 rfl rfl (gRun rfl _ fun _ h=>yA3 f40_1 (.tmp 3) rfl q1 (0) rfl) HS_ ?_
  refine tH 5 25 rfl rfl (gRun rfl _ fun _ h=>yA7 o3 (.tmp 24) rfl q1 (0+1) rfl (.int .i64 a') ((h.1.at 0 rfl).at (0+1) _ rfl)) HS_ ?_
  simp only [Act.put,aS,aC,aZ]
  refine tH 6 26 rfl rfl (gRun rfl _ fun _ h=>yA3 f40_2 (.tmp 3) rfl q1 (0) rfl) HS_ ?_
  refine tH 7 27 rfl rfl (gRun rfl _ fun _ h=>yA7 o3 (.tmp 26) rfl q1 (0+2) rfl (.int .i64 l') ((h.1.at 0 rfl).at (0+2) _ rfl)) HS_ ?_
  simp only [Act.put,aS,aC,aZ]
  refine oneH (i:=8) (by kernel_rfl) ?_
  refine yF6 (some 28) rfl rfl rfl 42 _ (yC2 eN42 [.tmp 23,.tmp 25,.tmp 27] _ rfl [(.agg ((tpC gp (d:Nat) sz)).toArray),(.int .i64 a'),(.int .i64 l')] rfl) ?_
  refine (tread_any HS_.2.live HM.out.2.1 d HM.out.1.dev HM.out.1.tape sz a' l' HA.out.1 HA.out.2).mono ?_
  rintro e w3 ⟨hb_,hc_⟩
  rw [←HM.out.2.2.1] at hc_
  obtain ⟨vr,er,rfl,hcon_⟩:∃(vr:Value) (er:Int),e = .returned (.tuple #[vr,.int .i64 er])∧((er=4∧vr = .slice none 0 0∧(a' < 0∨l' < 0∨(ct.length:Int)<a' + l'))∨(er=0∧∃a N:Nat,a'=(a:Nat)∧l'=(N:Nat)∧a+N≤ct.length∧AOwn 133 64 w3 Y.heap.size vr ((ct.drop a).take N)∧(N=0∨m.on=true))∨(er=2∧vr = .slice none 0 0∧∃a N:Nat,a'=(a:Nat)∧l'=(N:Nat)∧a+N≤ct.length∧0<N∧m.on=false)):=(by
   rcases hc_ with ⟨h1,e9⟩|⟨a9,N9,h1,h2,h3,v9,e9,h4,h5⟩|⟨a9,N9,h1,h2,h3,h4,h5,e9⟩
   ·exact ⟨_,_,e9,Or.inl ⟨rfl,rfl,h1⟩⟩
   ·exact ⟨_,_,e9,Or.inr (Or.inl ⟨rfl,a9,N9,h1,h2,h3,h4,h5⟩)⟩
   ·exact ⟨_,_,e9,Or.inr (Or.inr ⟨rfl,rfl,a9,N9,h1,h2,h3,h4,h5⟩)⟩)
  have HC3:Hid (((er=4∧vr = .slice none 0 0∧(a' < 0∨l' < 0∨(ct.length:Int)<a' + l'))∨(er=0∧∃a N:Nat,a'=(a:Nat)∧l'=(N:Nat)∧a+N≤ct.length∧AOwn 133 64 w3 Y.heap.size vr ((ct.drop a).take N)∧(N=0∨m.on=true))∨(er=2∧vr = .slice none 0 0∧∃a N:Nat,a'=(a:Nat)∧l'=(N:Nat)∧a+N≤ct.length∧0<N∧m.on=false))):=hcon_
  replace HS_:Loc w w3 [(q1,40,(plC (d:Nat) a' l' bd))]∧VolW w3 c t gp gv d sz m rt sl:=⟨HS_.1.later hb_,HS_.2.below hb_⟩
  clear hb_ hc_ hcon_
  refine ⟨_,rfl,?_⟩
  refine ⟨HS_,?_⟩
  simp only [Act.put,aS,aC,aZ]
  refine tH 9 19 rfl rfl (gRun rfl _ fun _ h=>yA4 (.tmp 28) rfl (.tuple #[vr,(.int .i64 er)]) rfl) HS_ ?_
  refine tH 10 29 rfl rfl (gRun rfl _ fun _ h=>yA8 (.tmp 19) 0 rfl #[vr,(.int .i64 er)] rfl vr rfl) HS_ ?_
  refine tH 11 30 rfl rfl (gRun rfl _ fun _ h=>yA8 (.tmp 19) 1 rfl #[vr,(.int .i64 er)] rfl (.int .i64 er) rfl) HS_ ?_
  simp only [Act.put,aS,aC,aZ]
  refine tH 12 7 rfl rfl (gRun rfl _ fun _ h=>yE7 (.tmp 29) rfl vr rfl) HS_ ?_
  refine tH 13 8 rfl rfl (gRun rfl _ fun _ h=>yE7 (.tmp 30) rfl (.int .i64 er) rfl) HS_ ?_
  simp only [Act.put,aS,aC,aZ]
  refine wpAnyH_done (by kernel_rfl) ?_ _
  have H3:Hid (Loc w w3 [(q1,40,(plC (d:Nat) a' l' bd))]∧VolW w3 c t gp gv d sz m rt sl):=HS_
  clear HS_ H2
  rcases HC3.out with ⟨rfl,rfl,hfar⟩|⟨rfl,a,N,rfl,rfl,hle,ho,hon⟩|⟨rfl,rfl,hoff⟩
  ·go_upto_region 4 with fail
   refine wp_region_lit ?_
   refine wm 8 (.int .i64 4) ?_
   refine wl rfl _ _ (yD1 (.tmp 31) (.const (.int .i64 0)) rfl (4) (0) rfl rfl true rfl) ?_
   simp only [Act.put,aS,aC,aZ]
   refine wpList_nil ?_
   go_upto_region 5 with fail
   refine wp_region_lit ?_
   refine wm 8 (.int .i64 4) ?_
   refine wa (.const (.string { data:=#[] })) (.string { data:=#[] }) ?_
   refine wa (.const (.slice none 0 0)) (.slice none 0 0) ?_
   simp only [Act.put,aS,aC,aZ]
   refine wa (.tmp 33) (.int .i64 4) ?_
   simp only [Act.put,aS,aC,aZ]
   refine wpList_nil ?_
   go_wp2_with fail
   rw [HPQ.out]
   exact ⟨H3.out.1.below,[],.slice none 0 0,4,rfl,Or.inr (Or.inr ⟨rfl,rfl,rfl,fun _ a N h1 h2 h3=>absurd h3 (by omega)⟩)⟩
  ·have HO:Hid (a+N≤ct.length∧AOwn 133 64 w3 Y.heap.size vr ((ct.drop a).take N)∧(N=0∨m.on=true)):=⟨hle,ho,hon⟩
   clear hle ho hon HC3
   go_upto_region 4 with fail
   refine wp_region_lit ?_
   refine wm 8 (.int .i64 0) ?_
   refine wl rfl _ _ (yD1 (.tmp 31) (.const (.int .i64 0)) rfl (0) (0) rfl rfl false rfl) ?_
   simp only [Act.put,aS,aC,aZ]
   refine wpList_nil ?_
   go_upto_region 6 with fail
   refine wp_region_lit ?_
   refine wl rfl _ _ (yA9 ag40 (.tmp 3) rfl q1 (0) rfl ((plC (d:Nat) (a:Nat) (N:Nat) bd)) rfl (yF0 H3.out.1 0 rfl)) ?_
   refine wm 7 vr ?_
   simp only [Act.put,aS,aC,aZ]
   refine yA5 eN43 [.tmp 35,.tmp 36] _ rfl rfl [(.agg (plC (d:Nat) (a:Nat) (N:Nat) bd).toArray),vr] rfl ?_
   refine (objectOf_any d a (N:Nat) bd vr ((ct.drop a).take N) _ w3 HO.out.2.1 (by have:=HM.out.2.2.2;have:=HO.out.1;rw [List.length_take,List.length_drop];omega) H3.out.2.env).mono ?_
   rintro e w4 ⟨hobj_,hb_⟩
   obtain ⟨d9,a9,l9,bd9,id9,vb,ok2,rfl,hvb_,hcon_⟩:∃(d9 a9 l9:Int) (bd9:Bool) (id9:List Nat) (vb:Value) (ok2:Bool),e = .returned (.tuple #[.agg (obC d9 a9 l9 bd9 id9 vb).toArray,.bool ok2])∧vb.oneCell'=true∧((ok2=true∧∃bs,IsObj d a ((ct.drop a).take N) id9 bs∧yA2 w4 vb bs∧∀b,vb.ownBlock=some b→w3.heap.size≤b)∨(ok2=false∧NoObj d a ((ct.drop a).take N))):=(by
    rcases hobj_ with ⟨i9,bs,v9,e9,h1,h2,h3⟩|⟨e9,h1⟩
    ·exact ⟨_,_,_,_,_,_,_,e9,(by obtain ⟨p,cc,rfl,_⟩:=h2;rfl),Or.inl ⟨rfl,bs,h1,h2,h3⟩⟩
    ·exact ⟨_,_,_,_,_,_,_,e9,rfl,Or.inr ⟨rfl,h1⟩⟩)
   refine ⟨_,rfl,?_⟩
   have H4:Hid (Loc w w4 [(q1,40,(plC (d:Nat) (a:Nat) (N:Nat) bd))]):=H3.out.1.later hb_
   have HC4:Hid (vb.oneCell'=true∧((ok2=true∧∃bs,IsObj d a ((ct.drop a).take N) id9 bs∧yA2 w4 vb bs∧∀b,vb.ownBlock=some b→w3.heap.size≤b)∨(ok2=false∧NoObj d a ((ct.drop a).take N)))∧w.heap.size≤w3.heap.size):=⟨hvb_,hcon_,H3.out.1.below.size⟩
   clear hb_ hobj_ hvb_ hcon_
   simp only [Act.put,aS,aC,aZ]
   refine wm 37 (.tuple #[(.agg (obC d9 a9 l9 bd9 id9 vb).toArray),(.bool ok2)]) ?_
   refine wl rfl _ _ (yA8 (.tmp 34) 0 rfl #[(.agg (obC d9 a9 l9 bd9 id9 vb).toArray),(.bool ok2)] rfl (.agg (obC d9 a9 l9 bd9 id9 vb).toArray) rfl) ?_
   refine wl rfl _ _ (yA8 (.tmp 34) 1 rfl #[(.agg (obC d9 a9 l9 bd9 id9 vb).toArray),(.bool ok2)] rfl (.bool ok2) rfl) ?_
   simp only [Act.put,aS,aC,aZ]
   refine wl rfl _ _ (yB6 (obC 0 0 0 false [] (.slice none 0 0)) zero91 rfl) ?_
   have k_:=H4.out.box 91 (obC 0 0 0 false [] (.slice none 0 0))
   have hb_:=yB2 w4 (.cells (obC 0 0 0 false [] (.slice none 0 0)).toArray 91)
   obtain ⟨w5,hW_⟩:∃U_:World,U_=w4.alloc (.cells (obC 0 0 0 false [] (.slice none 0 0)).toArray 91):=⟨_,rfl⟩
   obtain ⟨q4,hq_⟩:∃q,q=w4.heap.size:=⟨_,rfl⟩
   rw [←hW_,←hq_] at k_
   rw [←hW_] at hb_
   rw [←hW_,←hq_]
   have H5:Hid (Loc w w5 [(q1,40,(plC (d:Nat) (a:Nat) (N:Nat) bd)),(q4,91,(obC 0 0 0 false [] (.slice none 0 0)))]∧Below w4.heap.size w4 w5∧q4=w4.heap.size):=⟨k_,hb_,hq_⟩
   clear k_ hW_ hq_ hb_
   simp only [Act.put,aS,aC,aZ]
   refine wlS rfl rfl _ (yB3 ag91 (.tmp 9) (.tmp 38) rfl H5.out.1 1 rfl (0) rfl (obC d9 a9 l9 bd9 id9 vb) rfl rfl (by show 0+6≤6;decide) (yH4 _ _ _ _ _ _ HC4.out.1)).1 ?_
   have k_:=H5.out.1.lay 1 rfl (0) (obC d9 a9 l9 bd9 id9 vb)
   have c_:=(Ch.setRow (S:=(· = q4)) (Ch.refl _ w5) (Or.inl rfl) (splice (obC 0 0 0 false [] (.slice none 0 0)) 0 (obC d9 a9 l9 bd9 id9 vb)).toArray)
   rw [yB5 (obC 0 0 0 false [] (.slice none 0 0)) (obC d9 a9 l9 bd9 id9 vb) rfl] at k_ c_ ⊢
   obtain ⟨w6,hW_⟩:∃U_:World,U_=w5.setRow q4 (obC d9 a9 l9 bd9 id9 vb).toArray:=⟨_,rfl⟩
   rw [←hW_] at k_ c_ ⊢
   have H6:Hid (Loc w w6 [(q1,40,(plC (d:Nat) (a:Nat) (N:Nat) bd)),(q4,91,(obC d9 a9 l9 bd9 id9 vb))]∧Below w4.heap.size w4 w6):=⟨k_,H5.out.2.1.trans (c_.below H5.out.2.1.size fun b hb e=>by have:=H5.out.2.2;omega)⟩
   clear k_ c_ hW_ H5
   refine wa (.tmp 39) (.bool ok2) ?_
   simp only [Act.put,aS,aC,aZ]
   refine wpList_nil ?_
   cases ok2 with
   | false =>
    have HN9:Hid (NoObj d a ((ct.drop a).take N)):=(by rcases HC4.out.2.1 with ⟨h,_⟩|⟨_,h⟩;cases h;exact h)
    go_upto_region 7 with fail
    refine wp_region_lit ?_
    refine wm 10 (.bool false) ?_
    refine wl rfl _ _ (yH3 (.tmp 40) 4 rfl false rfl) ?_
    simp only [Act.put,aS,aC,aZ]
    refine wpList_nil ?_
    go_upto_region 8 with fail
    refine wp_region_lit ?_
    refine wa (.const (.string { data:=#[] })) (.string { data:=#[] }) ?_
    refine wa (.const (.slice none 0 0)) (.slice none 0 0) ?_
    refine wa (.const (.int .i64 4)) (.int .i64 4) ?_
    simp only [Act.put,aS,aC,aZ]
    refine wpList_nil ?_
    go_wp2_with fail
    rw [HPQ.out]
    refine ⟨H6.out.1.below,[],.slice none 0 0,4,rfl,Or.inr (Or.inr ⟨rfl,rfl,rfl,fun _ a2 N2 h1 h2 h3 => ?_⟩)⟩
    obtain rfl:a=a2:=by omega
    obtain rfl:N=N2:=by omega
    exact HN9.out
   | true =>
    obtain ⟨bs,hio,hsi,hvo⟩:∃bs,IsObj d a ((ct.drop a).take N) id9 bs∧yA2 w4 vb bs∧∀b,vb.ownBlock=some b→w3.heap.size≤b:=(by rcases HC4.out.2.1 with ⟨_,h⟩|⟨h,_⟩;exact h;cases h)
    have HOK:Hid (IsObj d a ((ct.drop a).take N) id9 bs∧yA2 w4 vb bs∧∀b,vb.ownBlock=some b→w3.heap.size≤b):=⟨hio,hsi,hvo⟩
    clear hio hsi hvo
    go_upto_region 7 with fail
    refine wp_region_lit ?_
    refine wm 10 (.bool true) ?_
    refine wl rfl _ _ (yH3 (.tmp 40) 4 rfl true rfl) ?_
    simp only [Act.put,aS,aC,aZ]
    refine wpList_nil ?_
    go_upto_region 9 with fail
    refine wp_region_held (S:=fun X=>Loc w X [(q1,40,(plC (d:Nat) (a:Nat) (N:Nat) bd)),(q4,91,(obC d9 a9 l9 bd9 id9 vb))]∧yA2 X vb bs) (by kernel_rfl) ?_
    show wpAnyH _ _ _ _ _ 7 (Array.replicate 7 false) _ _
    obtain ⟨X9,hX⟩:∃X9:World,X9 = { w6 with drawn:=w6.drawn+1 }:=⟨_,rfl⟩
    rw [←hX]
    have HS_:Loc w X9 [(q1,40,(plC (d:Nat) (a:Nat) (N:Nat) bd)),(q4,91,(obC d9 a9 l9 bd9 id9 vb))]∧yA2 X9 vb bs:=(by rw [hX];exact ⟨H6.out.1.drew,(HOK.out.2.1.later H6.out.2).later ⟨rfl,rfl,rfl,Nat.le_refl _,fun _ _=>rfl⟩⟩)
    clear hX
    refine tH 0 42 rfl rfl (gRun rfl _ fun _ h=>yA3 f91_1 (.tmp 9) rfl q4 (0) rfl) HS_ ?_
    refine tH 1 43 rfl rfl (gRun rfl _ fun _ h=>yA7 o9 (.tmp 42) rfl q4 (0+4) rfl (str id9) ((h.1.at 1 rfl).at (0+4) _ rfl)) HS_ ?_
    refine tH 2 44 rfl rfl (gRun rfl _ fun _ h=>yA3 f91_2 (.tmp 9) rfl q4 (0) rfl) HS_ ?_
    simp only [Act.put,aS,aC,aZ]
    refine tH 3 45 rfl rfl (gRun rfl _ fun _ h=>yA7 o38 (.tmp 44) rfl q4 (0+5) rfl vb ((h.1.at 1 rfl).at (0+5) _ rfl)) HS_ ?_
    refine tH 4 4 rfl rfl (gRun rfl _ fun _ h=>yE7 (.tmp 43) rfl (str id9) rfl) HS_ ?_
    refine tH 5 5 rfl rfl (gRun rfl _ fun _ h=>yE7 (.tmp 45) rfl vb rfl) HS_ ?_
    simp only [Act.put,aS,aC,aZ]
    refine tH 6 6 rfl rfl (gRun rfl _ fun _ h=>yE7 (.const (.int .i64 0)) rfl (.int .i64 0) rfl) HS_ ?_
    simp only [Act.put,aS,aC,aZ]
    refine wpAnyH_done (by kernel_rfl) ?_ _
    go_wp2_with fail
    rw [HPQ.out]
    exact ⟨HS_.1.below,id9,vb,0,rfl,Or.inl ⟨rfl,(by first|rfl|trivial),(by rcases HO.out.2.2 with h|h;exfalso;have h1:=HOK.out.1.num;have h2:=nb_pos bs.length;rw [h] at h1;simp at h1;omega;exact h),a,N,bs,rfl,rfl,HO.out.1,HOK.out.1,HS_.2,fun b e=>Nat.le_trans HC4.out.2.2 (HOK.out.2.2 b e)⟩⟩
  ·go_upto_region 4 with fail
   refine wp_region_lit ?_
   refine wm 8 (.int .i64 2) ?_
   refine wl rfl _ _ (yD1 (.tmp 31) (.const (.int .i64 0)) rfl (2) (0) rfl rfl true rfl) ?_
   simp only [Act.put,aS,aC,aZ]
   refine wpList_nil ?_
   go_upto_region 5 with fail
   refine wp_region_lit ?_
   refine wm 8 (.int .i64 2) ?_
   refine wa (.const (.string { data:=#[] })) (.string { data:=#[] }) ?_
   refine wa (.const (.slice none 0 0)) (.slice none 0 0) ?_
   simp only [Act.put,aS,aC,aZ]
   refine wa (.tmp 33) (.int .i64 2) ?_
   simp only [Act.put,aS,aC,aZ]
   refine wpList_nil ?_
   go_wp2_with fail
   rw [HPQ.out]
   obtain ⟨a,N,h1,h2,h3,h4,h5⟩:=hoff
   exact ⟨H3.out.1.below,[],.slice none 0 0,2,rfl,Or.inr (Or.inl ⟨rfl,rfl,rfl,(by first|rfl|trivial),h5,a,N,h1,h2,h4,h3⟩)⟩
end Go.Proofs.YtpkkkkomdblpoaaDoor

namespace Go.Proofs.YtpkkkkomdblpoaaDoor
open Go.RowKit Go.Maps
open Cold
theorem VolW.new {W W':World} {c:Nat→Colour} {t gp gv d:Nat} {sz:Int} {m:Pl} {rt:List Nat} {sl:Bool} {q:Nat} (h:VolW W c t gp gv d sz m rt sl) (hc:Ch (· = q) W W') (hq:q≠gv) (hcol:(c q).1≠t) (h3:3≤q):VolW W' c t gp gv d sz m rt sl :=
 ⟨hc.row (fun e=>hq e.symm) h.row,h.len,h.col,h.live.ch hc hcol,h.env.ch hc (fun e=>by omega) (fun e=>by omega) (fun e=>by omega),h.dev,h.tape,h.size,h.far,h.gl⟩
set_option maxHeartbeats 4000000 in
set_option maxRecDepth 100000 in
theorem root_any {w:World} {c:Nat→Colour} {t gp gv d:Nat} {sz:Int} {m:Pl} {rt:List Nat} {sl:Bool} (h:VolW w c t gp gv d sz m rt sl) (hst:m.steps<35184372088831):Calls Tryd.prog 20 #[ptr gv] w fun e w' => ∃rt2 sl2 er,e = .returned (.tuple #[av (if sl2 then rt2 else Zs 32),.bool sl2])∧VolW w' c t gp gv d sz m rt2 sl2∧Ch (· = gv) w w'∧SlR m.on d (ctn m d) rt sl rt2 sl2 er:=by
 have HM:Hid (VolW w c t gp gv d sz m rt sl∧m.steps<35184372088831∧gv<w.heap.size∧3≤w.heap.size):=⟨h,hst,h.row.lt,by have:=h.row.lt;have:=h.far;omega⟩
 have H0:Hid (Loc w w []):=Loc.nil (Below.refl _ _)
 clear h hst
 obtain ⟨PQ,HPQ⟩:=exPQ fun (e:Ending) (w':World) => ∃rt2 sl2 er,e = .returned (.tuple #[av (if sl2 then rt2 else Zs 32),.bool sl2])∧VolW w' c t gp gv d sz m rt2 sl2∧Ch (· = gv) w w'∧SlR m.on d (ctn m d) rt sl rt2 sl2 er
 rw [←HPQ.out]
 go_enter Tryd.func20,Tryd.ntmps20
 go_upto_region 0 with fail
 refine wp_region_lit ?_
 refine wl rfl _ _ (yB6 (yA0 (Zs 32)) zero52 rfl) ?_
 have k_:=H0.out.box 52 (yA0 (Zs 32))
 obtain ⟨w1,hW_⟩:∃W,W=w.alloc (.cells (yA0 (Zs 32)).toArray 52):=⟨_,rfl⟩
 obtain ⟨q2,hq_⟩:∃q,q=w.heap.size:=⟨_,rfl⟩
 rw [←hW_,←hq_] at k_
 rw [←hW_,←hq_]
 clear hq_
 have Rw1:Hid (Loc w w1 [(q2,52,yA0 (Zs 32))]):=k_
 clear k_ hW_ H0
 simp only [Act.put,aS,aC,aZ]
 refine wa (.const (.bool false)) (.bool false) ?_
 simp only [Act.put,aS,aC,aZ]
 refine wpList_nil ?_
 go_upto_region 1 with fail
 refine wp_region_lit ?_
 refine wm 0 (ptr gv) ?_
 simp only [Act.put,aS,aC,aZ]
 have HV:VolW w1 c t gp gv d sz m rt sl:=HM.out.1.below Rw1.out.below
 have hge_:w.heap.size≤q2:=Rw1.out.ge 0 rfl
 refine yA5 eN45 [.tmp 7] _ rfl rfl [(ptr gv)] rfl ?_
 refine (isSealed_any HV.live HM.out.2.1 d HV.dev HV.tape sz HV.env HV.row HV.len).mono ?_
 rintro e w2 ⟨rt2,sl2,er,rfl,hr_,hl_,hc_,hs_⟩
 refine ⟨_,rfl,?_⟩
 have H2:Hid (VolW w2 c t gp gv d sz m rt2 sl2∧Ch (· = gv) w w2∧SlR m.on d (ctn m d) rt sl rt2 sl2 er∧Row w2 q2 52 (yA0 (Zs 32))∧w.heap.size≤q2∧q2≠gv∧(c q2).1≠t):=⟨HV.seen hc_ hr_ hl_,(Ch.of_below Rw1.out.below).trans' hc_ (fun _ _ h=>h),hs_,hc_.row (fun e=>by have:=HM.out.2.2.1;omega) (Rw1.out.at 0 rfl),hge_,(by have:=HM.out.2.2.1;omega),HM.out.1.live.2.2 q2 hge_⟩
 clear hr_ hl_ hc_ hs_ HV hge_ Rw1
 simp only [Act.put,aS,aC,aZ]
 refine wm 8 (.tuple #[(.bool sl2),(.int .i64 er)]) ?_
 refine wl rfl _ _ (yA8 (.tmp 6) 0 rfl #[(.bool sl2),(.int .i64 er)] rfl (.bool sl2) rfl) ?_
 refine wl rfl _ _ (yA8 (.tmp 6) 1 rfl #[(.bool sl2),(.int .i64 er)] rfl (.int .i64 er) rfl) ?_
 simp only [Act.put,aS,aC,aZ]
 refine wa (.tmp 9) (.bool sl2) ?_
 refine wa (.tmp 10) (.int .i64 er) ?_
 simp only [Act.put,aS,aC,aZ]
 refine wpList_nil ?_
 cases sl2 with
 | false =>
  go_upto_region 2 with fail
  refine wp_region_lit ?_
  refine wm 4 (.bool false) ?_
  refine wl rfl _ _ (yH3 (.tmp 11) 4 rfl false rfl) ?_
  simp only [Act.put,aS,aC,aZ]
  refine wpList_nil ?_
  go_upto_region 3 with fail
  refine wp_region_lit ?_
  refine wl rfl _ _ (run_build52z rfl) ?_
  simp only [Act.put,aS,aC,aZ]
  refine wlS rfl rfl _ (yE6 ag52 (.tmp 2) (.tmp 13) rfl q2 52 rfl (yA0 (Zs 32)) _ rfl (bz 32) H2.out.2.2.2.1 (by first|rfl|(rw [bz];exact bz 32)) (yB0 _)) ?_
  have r_:=H2.out.2.2.2.1.setRow (yA0 (Zs 32))
  have c_:=(Ch.setRow (S:=(· = q2)) (Ch.refl _ w2) (Or.inl rfl) (yA0 (Zs 32)).toArray)
  have c2_:=H2.out.2.1.setRow (g:=q2) (Or.inr H2.out.2.2.2.2.1) (yA0 (Zs 32)).toArray
  obtain ⟨w3,hW_⟩:∃U_:World,U_=w2.setRow q2 (yA0 (Zs 32)).toArray:=⟨_,rfl⟩
  rw [←hW_] at r_ c_ c2_ ⊢
  have H3:Hid (Row w3 q2 52 (yA0 (Zs 32))∧VolW w3 c t gp gv d sz m rt2 false∧Ch (· = gv) w w3):=⟨r_,H2.out.1.new c_ H2.out.2.2.2.2.2.1 H2.out.2.2.2.2.2.2 (by have:=HM.out.2.2.2;have:=H2.out.2.2.2.2.1;omega),c2_⟩
  clear r_ c_ c2_ hW_
  refine wa (.const (.bool false)) (.bool false) ?_
  simp only [Act.put,aS,aC,aZ]
  refine wpList_nil ?_
  go_wp2_with fail
  exact bodyPost_ret (yC9 ag52 Tryd.results20 _ _ q2 52 rfl (yA0 (Zs 32)) (bz 32) H3.out.1 (.bool false) rfl) rfl (by rw [HPQ.out];exact ⟨rt2,false,er,rfl,H3.out.2.1,H3.out.2.2,H2.out.2.2.1⟩)
 | true =>
  go_upto_region 2 with fail
  refine wp_region_lit ?_
  refine wm 4 (.bool true) ?_
  refine wl rfl _ _ (yH3 (.tmp 11) 4 rfl true rfl) ?_
  simp only [Act.put,aS,aC,aZ]
  refine wpList_nil ?_
  go_upto_region 4 with fail
  refine wp_region_lit ?_
  refine wm 0 (ptr gv) ?_
  refine wl rfl _ _ (yF8 (.tmp 14) rfl ⟨gv,0,none⟩ rfl) ?_
  refine wl rfl _ _ (yA3 f88_1 (.tmp 15) rfl gv (0) rfl) ?_
  simp only [Act.put,aS,aC,aZ]
  refine wl rfl _ _ (yA9 ag52 (.tmp 16) rfl gv (0+3) rfl (yA0 rt2) (by rw [yA1];exact H2.out.1.len) (fun j v hj=>by rw [Nat.zero_add];exact H2.out.1.row.at _ v (vC_rt _ _ _ _ _ j v hj))) ?_
  simp only [Act.put,aS,aC,aZ]
  refine wlS rfl rfl _ (yE6 ag52 (.tmp 2) (.tmp 17) rfl q2 52 rfl (yA0 rt2) _ rfl ((by rw [yA1];exact H2.out.1.len)) H2.out.2.2.2.1 (by first|rfl|(rw [bz];exact (by rw [yA1];exact H2.out.1.len))) (yB0 _)) ?_
  have r_:=H2.out.2.2.2.1.setRow (yA0 rt2)
  have c_:=(Ch.setRow (S:=(· = q2)) (Ch.refl _ w2) (Or.inl rfl) (yA0 rt2).toArray)
  have c2_:=H2.out.2.1.setRow (g:=q2) (Or.inr H2.out.2.2.2.2.1) (yA0 rt2).toArray
  obtain ⟨w3,hW_⟩:∃U_:World,U_=w2.setRow q2 (yA0 rt2).toArray:=⟨_,rfl⟩
  rw [←hW_] at r_ c_ c2_ ⊢
  have H3:Hid (Row w3 q2 52 (yA0 rt2)∧VolW w3 c t gp gv d sz m rt2 true∧Ch (· = gv) w w3):=⟨r_,H2.out.1.new c_ H2.out.2.2.2.2.2.1 H2.out.2.2.2.2.2.2 (by have:=HM.out.2.2.2;have:=H2.out.2.2.2.2.1;omega),c2_⟩
  clear r_ c_ c2_ hW_
  refine wa (.const (.bool true)) (.bool true) ?_
  simp only [Act.put,aS,aC,aZ]
  refine wpList_nil ?_
  go_wp2_with fail
  exact bodyPost_ret (yC9 ag52 Tryd.results20 _ _ q2 52 rfl (yA0 rt2) (by rw [yA1];exact H2.out.1.len) H3.out.1 (.bool true) rfl) rfl (by rw [HPQ.out];exact ⟨rt2,true,er,rfl,H3.out.2.1,H3.out.2.2,H2.out.2.2.1⟩)
end Go.Proofs.YtpkkkkomdblpoaaDoor

/- Layer 15: the end of a tape. Layer 15: the root that an end tells. -/
import Derived.Test.YtpkkkkomdblpoaaDoorS24
namespace Go.Proofs.YtpkkkkomdblpoaaDoor
open Go.RowKit Go.Maps
open Cold
def eb (d a:Nat) (rt:List Nat) (i:Nat):List Nat:=pc (Fr.Frame.pack 101 rt)++tg 101 d a i
def ends (d a:Nat) (rt:List Nat):List (List Nat):=[eb d a rt 0,eb d a rt 1]
def endT (d a:Nat) (rt:List Nat) (k:Nat):List (List Nat):=(List.range k).map (eb d a rt)++List.replicate (2 - k) (Zs 64)
theorem endT_0 (d a:Nat) (rt:List Nat):endT d a rt 0=List.replicate 2 (Zs 64):=rfl
theorem endT_2 (d a:Nat) (rt:List Nat):endT d a rt 2=ends d a rt:=rfl
theorem endT_length (d a:Nat) (rt:List Nat) (k:Nat) (h:k≤2):(endT d a rt k).length=2:=by simp [endT];omega
theorem endT_set (d a:Nat) (rt:List Nat) (k:Nat) (h:k<2):(endT d a rt k).set k (eb d a rt k)=endT d a rt (k+1):=by
 rcases k with _|_|k
 ·rfl
 ·rfl
 ·omega
theorem eb_length (d a:Nat) (rt:List Nat) (i:Nat):(eb d a rt i).length=64:=by
 unfold eb
 rw [List.length_append,yF5,tg_length]
theorem eb_lt (d a:Nat) {rt:List Nat} (i:Nat) (h:∀c∈rt,c<256):∀c∈eb d a rt i,c<256:=fun c hc=>by
 rcases List.mem_append.1 hc with hc|hc
 ·exact pc_lt (Fr.Frame.pack_lt 101 rt (by decide) h) c hc
 ·exact tg_lt _ _ _ _ c hc
theorem ends_at (d a:Nat) (rt:List Nat) (i:Nat) (h:i<2):(ends d a rt).getD i []=eb d a rt i:=by
 rcases i with _|_|i
 ·rfl
 ·rfl
 ·omega
theorem slice_arr {W:World} {g T n:Nat} {cs:List Nat} (h:Row W g T (yA0 cs)) (hl:cs.length=n) (hn:n≤1000) (hb:∀c∈cs,c<256):yA2 W (.slice (some ⟨g,0+0,none⟩) n n) cs :=
 ⟨_,n,by rw [hl],⟨by omega,by omega⟩,Or.inr ⟨g,0+0,rfl,fun j hj=>by rw [show 0+0+j=j by omega];exact h.at j _ (yC3 cs j hj),lt256 cs hb⟩⟩
set_option maxHeartbeats 4000000 in
set_option maxRecDepth 100000 in
theorem endOf_any (d a:Nat) (rt:List Nat) (w:World) (hl:rt.length=32) (hb:∀c∈rt,c<256) (he:Env w):Calls Tryd.prog 48 #[.int .i64 (d:Nat),.int .i64 (a:Nat),av rt] w fun e w' => ∃v,e = .returned v∧AOwn 133 64 w' w.heap.size v (ends d a rt)∧Below w.heap.size w w':=by
 have HM:Hid (rt.length=32∧(∀c∈rt,c<256)∧Env w):=⟨hl,hb,he⟩
 have H0:Hid (Loc w w []):=Loc.nil (Below.refl _ _)
 clear hl hb he
 obtain ⟨PQ,HPQ⟩:=exPQ fun (e:Ending) (w':World) => ∃v,e = .returned v∧AOwn 133 64 w' w.heap.size v (ends d a rt)∧Below w.heap.size w w'
 rw [←HPQ.out]
 go_enter Tryd.func48,Tryd.ntmps48
 go_upto_region 0 with fail
 refine wp_region_lit ?_
 refine wl rfl _ _ (yG2 (.tmp 2) rfl (yA0 rt) rfl) ?_
 have k_:=H0.out.box 52 (yA0 rt)
 obtain ⟨w1,hW_⟩:∃W,W=w.alloc (.cells (yA0 rt).toArray 52):=⟨_,rfl⟩
 obtain ⟨q1,hq_⟩:∃q,q=w.heap.size:=⟨_,rfl⟩
 rw [←hW_,←hq_] at k_
 rw [←hW_,←hq_]
 clear hq_
 have Rw1:Hid (Loc w w1 [(q1,52,yA0 rt)]):=k_
 clear k_ hW_ H0
 simp only [Act.put,aS,aC,aZ]
 refine wa (.const (.slice none 0 0)) (.slice none 0 0) ?_
 simp only [Act.put,aS,aC,aZ]
 refine wpList_nil ?_
 go_upto_region 1 with fail
 refine wp_region_lit ?_
 obtain ⟨w2,hr_,hline_,hb_⟩:=make_blocks w1 2 (by omega)
 obtain ⟨gv,hgv⟩:∃g,g=w1.heap.size:=⟨_,rfl⟩
 rw [←hgv] at hr_ hline_
 refine wl rfl (whole gv 2) w2 (hr_ _ _ (.const (.int .i64 2)) (.const (.int .i64 2)) rfl rfl rfl) ?_
 have H2:Hid (Row w2 q1 52 (yA0 rt)∧ALine 133 64 w2 gv (endT d a rt 0)∧Below w.heap.size w w2):=⟨(Rw1.out.at 0 rfl).later hb_ (Rw1.out.at 0 rfl).lt,by rw [endT_0];exact hline_,Rw1.out.below.trans (hb_.mono Rw1.out.below.size)⟩
 have HQ:Hid (w.heap.size≤gv∧q1<gv):=⟨by rw [hgv];exact Rw1.out.below.size,by rw [hgv];exact (Rw1.out.at 0 rfl).lt⟩
 clear hr_ hline_ hb_ hgv Rw1
 simp only [Act.put,aS,aC,aZ]
 refine wa (.tmp 9) (whole gv 2) ?_
 simp only [Act.put,aS,aC,aZ]
 refine wpList_nil ?_
 go_upto_region 2 with fail
 refine wp_region_lit ?_
 refine wm 7 (whole gv 2) ?_
 refine wl rfl _ _ (run_lenZ sl93 (.tmp 10) rfl (some ⟨gv,0,none⟩) 2 2 rfl) ?_
 refine wl rfl _ _ (yA4 (.const (.int .i64 0)) rfl (.int .i64 0) rfl) ?_
 simp only [Act.put,aS,aC,aZ]
 refine wpList_nil ?_
 go_wp2_with fail
 go_loopw [8,12] (fun _ vk W => ∃k:Nat,vk = .int .i64 (k:Nat)∧k≤2∧Hid (Row W q1 52 (yA0 rt)∧ALine 133 64 W gv (endT d a rt k)∧Below w.heap.size w W)) (fun _ vk _=>2 - (intOf vk).toNat)
 case atStart=>exact ⟨0,rfl,Nat.zero_le _,H2.out⟩
 case round =>
  obtain ⟨k,rfl,hk,HI⟩:=hrel
  by_cases hlt:k<2
  ·go_upto_region 3 with fail
   refine wp_region_lit ?_
   refine wl rfl _ _ (yB8 (.tmp 12) (.tmp 11) rfl (k:Nat) ((2:Nat):Int) rfl rfl true (decide_eq_true (by omega))) ?_
   simp only [Act.put,aS,aC,aZ]
   refine wpList_nil ?_
   go_upto_region 4 with fail
   refine wp_region_lit ?_
   refine wm 12 (.int .i64 (k:Nat)) ?_
   refine wa (.tmp 14) (.int .i64 (k:Nat)) ?_
   simp only [Act.put,aS,aC,aZ]
   refine wpList_nil ?_
   obtain ⟨bl,hbl⟩:∃x,x=eb d a rt k:=⟨_,rfl⟩
   have HB:Hid (bl.length=64∧∀c∈bl,c<256):=⟨by rw [hbl];exact eb_length _ _ _ _,by rw [hbl];exact eb_lt _ _ _ HM.out.2.1⟩
   have HBE:Hid (bl=pc (Fr.Frame.pack 101 rt)++tg 101 d a k):=hbl
   have HK:Hid (k<2):=hlt
   clear hbl
   have HS_:Row wr q1 52 (yA0 rt)∧ALine 133 64 wr gv (endT d a rt k)∧Below w.heap.size w wr:=HI.out
   go_upto_region 5 with fail
   refine wp_region_lit ?_
   refine wm 7 (whole gv 2) ?_
   refine wm 8 (.int .i64 (k:Nat)) ?_
   refine wl rfl _ _ (run_slA arr52 (.tmp 5) none none rfl q1 0 0 32 rfl ⟨Or.inl ⟨rfl,rfl⟩,Or.inl ⟨rfl,rfl⟩,by omega,by omega,by omega⟩) ?_
   simp only [Act.put,aS,aC,aZ]
   refine yA5 eN69 [.const (.int .u8 101),.tmp 17] _ rfl rfl [.int .u8 101,(.slice (some ⟨q1,0+0,none⟩) 32 32)] rfl ?_
   refine (Fr.pack_any 101 (by decide) (.slice (some ⟨q1,0+0,none⟩) 32 32) rt wr (sliceT (slice_arr HS_.1 HM.out.1 (by decide) HM.out.2.1)) (HM.out.2.2.later HS_.2.2).1 (by have:=HM.out.1;omega)).mono ?_
   rintro e Y1 ⟨v1,rfl,o1,hb_⟩
   refine ⟨_,rfl,?_⟩
   have HP:Hid (yA2 Y1 v1 (Fr.Frame.pack 101 rt)):=BOwn.slice (ownF o1) (Fr.Frame.pack_lt 101 rt (by decide) HM.out.2.1) (by rw [Fr.Frame.yG4];have:=HM.out.1;omega)
   replace HS_:Row Y1 q1 52 (yA0 rt)∧ALine 133 64 Y1 gv (endT d a rt k)∧Below w.heap.size w Y1:=⟨HS_.1.later hb_ HS_.1.lt,HS_.2.1.later hb_,HS_.2.2.trans (hb_.mono HS_.2.2.size)⟩
   clear o1 hb_
   simp only [Act.put,aS,aC,aZ]
   refine yA5 eN63 [.tmp 18] _ rfl rfl [v1] rfl ?_
   refine (yK2 v1 (Fr.Frame.pack 101 rt) Y1 HP.out).mono ?_
   rintro e Y2 ⟨rfl,hb_⟩
   refine ⟨_,rfl,?_⟩
   replace HS_:Row Y2 q1 52 (yA0 rt)∧ALine 133 64 Y2 gv (endT d a rt k)∧Below w.heap.size w Y2:=⟨HS_.1.later hb_ HS_.1.lt,HS_.2.1.later hb_,HS_.2.2.trans (hb_.mono HS_.2.2.size)⟩
   clear hb_
   simp only [Act.put,aS,aC,aZ]
   refine wm 0 (.int .i64 (d:Nat)) ?_
   refine wm 1 (.int .i64 (a:Nat)) ?_
   refine wm 8 (.int .i64 (k:Nat)) ?_
   simp only [Act.put,aS,aC,aZ]
   refine yA5 eN70 [.const (.int .u8 101),.tmp 20,.tmp 21,.tmp 22] _ rfl rfl [.int .u8 101,(.int .i64 (d:Nat)),(.int .i64 (a:Nat)),(.int .i64 (k:Nat))] rfl ?_
   refine (tagOf_any 101 d a k (by decide) Y2).mono ?_
   rintro e Y3 ⟨rfl,hb_⟩
   refine ⟨_,rfl,?_⟩
   replace HS_:Row Y3 q1 52 (yA0 rt)∧ALine 133 64 Y3 gv (endT d a rt k)∧Below w.heap.size w Y3:=⟨HS_.1.later hb_ HS_.1.lt,HS_.2.1.later hb_,HS_.2.2.trans (hb_.mono HS_.2.2.size)⟩
   clear hb_
   simp only [Act.put,aS,aC,aZ]
   refine wl rfl (av bl) _ ((by rw [HBE.out];exact run_blkOp (.tmp 19) (.tmp 23) rfl _ _ (yF5 _) (tg_length _ _ _ _) rfl rfl)) ?_
   refine wl rfl _ _ (yD5 (.tmp 15) (.tmp 16) rfl (whole gv 2) _ _ rfl rfl (ix_whole el93 gv 2 k HK.out)) ?_
   simp only [Act.put,aS,aC,aZ]
   obtain ⟨Y4,hst_,hline_,hch_,hsz_⟩:=HS_.2.1.put el93 k (by rw [endT_length _ _ _ _ (by omega)];exact hlt) bl HB.out
   have e9_:bl=eb d a rt k:=HBE.out
   rw [e9_,endT_set _ _ _ _ hlt] at hline_
   refine wlS rfl rfl Y4 (hst_ _ _ (.tmp 25) (.tmp 24) rfl rfl rfl) ?_
   have Q2:Hid (Row Y4 q1 52 (yA0 rt)∧ALine 133 64 Y4 gv (endT d a rt (k+1))∧Below w.heap.size w Y4):=⟨hch_.row (fun e=>absurd e (Nat.ne_of_lt HQ.out.2)) HS_.1,hline_,HS_.2.2.trans (hch_.below HS_.2.2.size fun b hb e=>by have:=HQ.out.1;omega)⟩
   clear hst_ hline_ hch_ hsz_ HS_ e9_
   refine wpList_nil ?_
   go_upto_region 6 with fail
   refine wp_region_lit ?_
   refine wl rfl (.int .i64 ((k+1:Nat):Int)) _ (yC8 (.tmp 12) (.const (.int .i64 1)) rfl (k:Nat) 1 _ rfl rfl (by omega) (by omega) (by omega)) ?_
   refine wm 26 (.int .i64 ((k+1:Nat):Int)) ?_
   simp only [Act.put,aS,aC,aZ]
   refine wpList_nil ?_
   go_wp2_with fail
   exact ⟨⟨k+1,rfl,by omega,Q2.out⟩,by simp [intOf];omega⟩
  ·go_upto_region 3 with fail
   refine wp_region_lit ?_
   refine wl rfl _ _ (yB8 (.tmp 12) (.tmp 11) rfl (k:Nat) ((2:Nat):Int) rfl rfl false (decide_eq_false (by omega))) ?_
   simp only [Act.put,aS,aC,aZ]
   refine wpList_nil ?_
   go_upto_region 7 with fail
   refine wp_region_lit ?_
   refine wm 7 (whole gv 2) ?_
   refine wa (.tmp 27) (whole gv 2) ?_
   simp only [Act.put,aS,aC,aZ]
   refine wpList_nil ?_
   go_wp2_with fail
   rw [HPQ.out]
   have h9:=HI.out.2.1
   rw [show k=2 by omega,endT_2] at h9
   exact ⟨whole gv 2,rfl,h9.own HQ.out.1 (by simp [ends]),HI.out.2.2⟩
end Go.Proofs.YtpkkkkomdblpoaaDoor

namespace Go.Proofs.YtpkkkkomdblpoaaDoor
open Go.RowKit Go.Maps
open Cold
def rtAt (d a i:Nat) (b:List Nat):Option (List Nat) :=
 if Fr.Frame.okB (b.take 56)=true∧(Fr.Frame.payOf (b.take 56)).length=32∧eb d a (Fr.Frame.payOf (b.take 56)) i=b then some (Fr.Frame.payOf (b.take 56)) else none
theorem run_build52z {w:World} {a:Act} {o:Oper} (ho:o.op = .build 52 #[]):(execOp a.eval o).run Tryd.prog w = .ok (.value (av (Zs 32))) w:=by
 have h:(Instr.build 52 #[]).run Tryd.prog w = .ok (av (Zs 32)) w:=by kernel_rfl
 simp [execOp,ho,h]
theorem slice_take {W:World} {g off T n:Nat} {cs:List Nat} (h:Row W g T (yA0 cs)) (ho:off=0) (hl:(cs.take n).length=n) (hn:n≤1000) (hb:∀c∈cs,c<256):yA2 W (.slice (some ⟨g,off,none⟩) n n) (cs.take n):=by
 subst ho
 exact ⟨_,n,by rw [hl],⟨by omega,by omega⟩,Or.inr ⟨g,0,rfl,fun j hj=>by rw [Nat.zero_add];exact h.at j _ (by rw [←yC3 (cs.take n) j hj,yH0,List.getElem?_take,if_pos (by omega)]),lt256 _ fun c hc=>hb c (List.mem_of_mem_take hc)⟩⟩
theorem slice_cellsA {W:World} {v:Value} {cs:List Nat} (h:yA2 W v cs) (hne:0<cs.length):∃g o cp,v = .slice (some ⟨g,o,none⟩) cs.length cp∧∀j u,(yA0 cs)[j]? = some u→W.cell? ⟨g,o+j,none⟩=some u:=by
 obtain ⟨p,cp,rfl,_,hy⟩:=h
 rcases hy with rfl|⟨g,o,rfl,hc,_⟩
 ·cases hne
 ·refine ⟨g,o,cp,rfl,fun j u hu => ?_⟩
  have hj:j<cs.length:=by
   have:=(List.getElem?_eq_some_iff.1 hu).1
   rwa [yA1] at this
  rw [hc j hj,←hu,yC3 cs j hj]
set_option maxHeartbeats 4000000 in
set_option maxRecDepth 100000 in
theorem rootOfEnd_any (d a:Nat) (vf:Value) (found:List (List Nat)) (base:Nat) (w:World) (hf:AOwn 133 64 w base vf found) (hl:found.length≤2) (he:Env w):Calls Tryd.prog 80 #[.int .i64 (d:Nat),.int .i64 (a:Nat),vf] w fun e w'=>Below w.heap.size w w'∧((∃i rt,e = .returned (.tuple #[av rt,.bool true])∧i<found.length∧rtAt d a i (found.getD i [])=some rt∧∀j,j<i→rtAt d a j (found.getD j [])=none)∨(e = .returned (.tuple #[av (Zs 32),.bool false])∧∀j,j<found.length→rtAt d a j (found.getD j [])=none)):=by
 have HM:Hid (AOwn 133 64 w base vf found∧Env w):=⟨hf,he⟩
 have H0:Hid (Loc w w []):=Loc.nil (Below.refl _ _)
 clear hf he
 obtain ⟨PQ,HPQ⟩:=exPQ fun (e:Ending) (w':World)=>Below w.heap.size w w'∧((∃i rt,e = .returned (.tuple #[av rt,.bool true])∧i<found.length∧rtAt d a i (found.getD i [])=some rt∧∀j,j<i→rtAt d a j (found.getD j [])=none)∨(e = .returned (.tuple #[av (Zs 32),.bool false])∧∀j,j<found.length→rtAt d a j (found.getD j [])=none))
 rw [←HPQ.out]
 go_enter Tryd.func80,Tryd.ntmps80
 go_upto_region 0 with fail
 refine wp_region_lit ?_
 refine wl rfl _ _ (yB6 (yA0 (Zs 32)) zero52 rfl) ?_
 have k_:=H0.out.box 52 (yA0 (Zs 32))
 obtain ⟨w1,hW_⟩:∃W,W=w.alloc (.cells (yA0 (Zs 32)).toArray 52):=⟨_,rfl⟩
 obtain ⟨q1,hq_⟩:∃q,q=w.heap.size:=⟨_,rfl⟩
 rw [←hW_,←hq_] at k_
 rw [←hW_,←hq_]
 clear hq_
 have Rw1:Hid (Loc w w1 [(q1,52,yA0 (Zs 32))]):=k_
 clear k_ hW_ H0
 simp only [Act.put,aS,aC,aZ]
 refine wa (.const (.bool false)) (.bool false) ?_
 simp only [Act.put,aS,aC,aZ]
 refine wpList_nil ?_
 go_upto_region 1 with fail
 refine wp_region_lit ?_
 refine wm 2 vf ?_
 refine wl rfl _ _ (run_lenA el93 HM.out.1 (.tmp 15) rfl rfl) ?_
 refine wl rfl _ _ (yA4 (.const (.int .i64 0)) rfl (.int .i64 0) rfl) ?_
 simp only [Act.put,aS,aC,aZ]
 refine wpList_nil ?_
 go_wp2_with fail
 go_loopw [8,9,10,11,12,13,14,17] (fun _ _ _ _ _ _ _ vk W => ∃k:Nat,vk = .int .i64 (k:Nat)∧k≤found.length∧Hid (Loc w W [(q1,52,yA0 (Zs 32))]∧∀j,j<k→rtAt d a j (found.getD j [])=none)) (fun _ _ _ _ _ _ _ vk _=>found.length - (intOf vk).toNat)
 case atStart=>exact ⟨0,rfl,Nat.zero_le _,Rw1.out,fun j hj=>absurd hj (Nat.not_lt_zero j)⟩
 case round =>
  obtain ⟨k,rfl,hk,HI⟩:=hrel
  by_cases hlt:k<found.length
  ·go_upto_region 2 with fail
   refine wp_region_lit ?_
   refine wl rfl _ _ (yB8 (.tmp 17) (.tmp 16) rfl (k:Nat) (found.length:Nat) rfl rfl true (decide_eq_true (by omega))) ?_
   simp only [Act.put,aS,aC,aZ]
   refine wpList_nil ?_
   obtain ⟨g1,_,_,hx_,hc_⟩:=(HM.out.1.later HI.out.1.below).ix el93 k hlt
   obtain ⟨bl,hbl⟩:∃x,x=found.getD k []:=⟨_,rfl⟩
   rw [←hbl] at hc_
   have HX:Hid ((∀w',(Instr.indexAt 93 vf (.int .i64 (k:Nat))).run Tryd.prog w' = .ok (.pointer (some ⟨g1,k * 64,none⟩)) w')∧(∀j u,(yA0 bl)[j]? = some u→wr.cell? ⟨g1,k * 64+j,none⟩=some u)∧bl=found.getD k []∧bl.length=64∧(∀c∈bl,c<256)∧(bl.take 56).length=56):=⟨hx_,hc_ wr (HM.out.1.later HI.out.1.below),hbl,by rw [hbl];exact (HM.out.1.1.at k hlt).1,by rw [hbl];exact (HM.out.1.1.at k hlt).2,by rw [hbl,List.length_take,(HM.out.1.1.at k hlt).1];rfl⟩
   clear hx_ hc_ hbl
   obtain ⟨pay,hpay⟩:∃x,x=Fr.Frame.payOf (bl.take 56):=⟨_,rfl⟩
   obtain ⟨ok,hok⟩:∃x,x=Fr.Frame.okB (bl.take 56):=⟨_,rfl⟩
   have HY:Hid (pay=Fr.Frame.payOf (bl.take 56)∧ok=Fr.Frame.okB (bl.take 56)∧pay.length≤56∧∀c∈pay,c<256):=⟨hpay,hok,by rw [hpay];exact Nat.le_trans (Fr.Frame.payOf_length _) (Nat.le_of_eq HX.out.2.2.2.2.2),fun c hc=>HX.out.2.2.2.2.1 c (List.mem_of_mem_take (Fr.Frame.payOf_mem _ c (hpay▸hc)))⟩
   clear hpay hok
   have HL:Hid (Loc w wr [(q1,52,yA0 (Zs 32))]):=HI.out.1
   have HJ:Hid (∀j,j<k→rtAt d a j (found.getD j [])=none):=HI.out.2
   clear HI
   have HK:Hid (k<found.length∧k<2):=⟨hlt,by omega⟩
   go_upto_region 3 with fail
   refine wp_region_lit ?_
   refine wm 17 (.int .i64 (k:Nat)) ?_
   refine wl rfl _ _ (yD5 (.tmp 15) (.tmp 17) rfl _ _ _ rfl rfl HX.out.1) ?_
   refine wl rfl _ _ (yA9 ag133 (.tmp 20) rfl g1 (k * 64) rfl (yA0 bl) (by rw [yA1];exact HX.out.2.2.2.1) HX.out.2.1) ?_
   simp only [Act.put,aS,aC,aZ]
   refine wl rfl _ _ (yB6 (yA0 (Zs 64)) zero133 rfl) ?_
   have k_:=HL.out.box 133 (yA0 (Zs 64))
   obtain ⟨y1,hW_⟩:∃W,W=wr.alloc (.cells (yA0 (Zs 64)).toArray 133):=⟨_,rfl⟩
   obtain ⟨q9,hq_⟩:∃q,q=wr.heap.size:=⟨_,rfl⟩
   rw [←hW_,←hq_] at k_
   rw [←hW_,←hq_]
   clear hq_
   have Ry1:Hid (Loc w y1 [(q1,52,yA0 (Zs 32)),(q9,133,yA0 (Zs 64))]):=k_
   clear k_ hW_ HL
   simp only [Act.put,aS,aC,aZ]
   refine wa (.tmp 19) (.int .i64 (k:Nat)) ?_
   simp only [Act.put,aS,aC,aZ]
   refine wlS rfl rfl _ (yB3 ag133 (.tmp 9) (.tmp 21) rfl Ry1.out 1 rfl (0) rfl (yA0 bl) rfl (by rw [yA1];exact HX.out.2.2.2.1) (by rw [yA1,bz,HX.out.2.2.2.1];decide) (yB0 _)).1 ?_
   have k_:=Ry1.out.lay 1 rfl (0) (yA0 bl)
   rw [yF4 (n:=64) _ HX.out.2.2.2.1] at k_ ⊢
   obtain ⟨y2,hW_⟩:∃W,W=y1.setRow q9 (yA0 bl).toArray:=⟨_,rfl⟩
   rw [←hW_] at k_ ⊢
   have Ry2:Hid (Loc w y2 [(q1,52,yA0 (Zs 32)),(q9,133,yA0 bl)]):=k_
   clear k_ hW_ Ry1
   refine wpList_nil ?_
   go_upto_region 4 with fail
   refine wp_region_lit ?_
   refine wl rfl _ _ (yA3 f133_0 (.tmp 9) rfl q9 (0) rfl) ?_
   refine wl rfl _ _ (run_slA arr129 (.tmp 23) none none rfl q9 (0+0) 0 56 rfl ⟨Or.inl ⟨rfl,rfl⟩,Or.inl ⟨rfl,rfl⟩,by omega,by omega,by omega⟩) ?_
   simp only [Act.put,aS,aC,aZ]
   refine yA5 eN78 [.tmp 24] _ rfl rfl [(.slice (some ⟨q9,0+0+0,none⟩) 56 56)] rfl ?_
   refine (Fr.unpack_any _ (bl.take 56) y2 (sliceT (slice_take (off:=0+0+0) (Ry2.out.at 1 rfl) rfl HX.out.2.2.2.2.2 (by decide) HX.out.2.2.2.2.1)) (HM.out.2.later Ry2.out.below).1 (by rw [HX.out.2.2.2.2.2];decide)).mono ?_
   rintro e y3 ⟨vp,vr,rfl,o1,o2,_,b1⟩
   refine ⟨_,rfl,?_⟩
   rw [←HY.out.1] at o1
   have H3:Hid (Loc w y3 [(q1,52,yA0 (Zs 32)),(q9,133,yA0 bl)]∧yA2 y3 vp pay):=⟨Ry2.out.later b1,BOwn.slice (ownF o1) HY.out.2.2.2 (by have:=HY.out.2.2.1;omega)⟩
   obtain ⟨kd,hkd⟩:∃k:Nat,k=Fr.Frame.kindOf (bl.take 56):=⟨_,rfl⟩
   obtain ⟨er,her⟩:∃k:Nat,k=Fr.Frame.errOf (bl.take 56):=⟨_,rfl⟩
   rw [←hkd,←her]
   have HE:Hid (er=if ok then 0 else 40):=(by rw [her];unfold Fr.Frame.errOf;rw [HY.out.2.1];rfl)
   clear o1 o2 b1 hkd her Ry2
   simp only [Act.put,aS,aC,aZ]
   refine wm 25 (.tuple #[(.int .u8 (kd:Nat)),vp,vr,(.int .i64 (er:Nat))]) ?_
   refine wl rfl _ _ (yA8 (.tmp 22) 0 rfl #[(.int .u8 (kd:Nat)),vp,vr,(.int .i64 (er:Nat))] rfl (.int .u8 (kd:Nat)) rfl) ?_
   refine wl rfl _ _ (yA8 (.tmp 22) 1 rfl #[(.int .u8 (kd:Nat)),vp,vr,(.int .i64 (er:Nat))] rfl vp rfl) ?_
   simp only [Act.put,aS,aC,aZ]
   refine wl rfl _ _ (yA8 (.tmp 22) 2 rfl #[(.int .u8 (kd:Nat)),vp,vr,(.int .i64 (er:Nat))] rfl vr rfl) ?_
   refine wl rfl _ _ (yA8 (.tmp 22) 3 rfl #[(.int .u8 (kd:Nat)),vp,vr,(.int .i64 (er:Nat))] rfl (.int .i64 (er:Nat)) rfl) ?_
   refine wa (.tmp 26) (.int .u8 (kd:Nat)) ?_
   simp only [Act.put,aS,aC,aZ]
   refine wa (.tmp 27) vp ?_
   refine wa (.tmp 28) vr ?_
   refine wa (.tmp 29) (.int .i64 (er:Nat)) ?_
   simp only [Act.put,aS,aC,aZ]
   refine wpList_nil ?_
   cases ok with
   | false =>
    obtain rfl:er=40:=HE.out
    have HNO:Hid (rtAt d a k bl=none):=(by show _=_;unfold rtAt;rw [←HY.out.2.1,if_neg (fun h=>by cases h.1)])
    go_upto_region 5 with fail
    refine wp_region_lit ?_
    refine wm 13 (.int .i64 40) ?_
    refine wl rfl _ _ (yD1 (.tmp 30) (.const (.int .i64 0)) rfl 40 0 rfl rfl true rfl) ?_
    refine wm 31 (.bool true) ?_
    simp only [Act.put,aS,aC,aZ]
    refine wpList_skip (by kernel_rfl) ?_
    simp only [Act.put,aS,aC,aZ]
    refine wpList_skip (by kernel_rfl) ?_
    simp only [Act.put,aS,aC,aZ]
    refine wpList_skip (by kernel_rfl) ?_
    simp only [Act.put,aS,aC,aZ]
    refine wl rfl _ _ (yA6 (.tmp 32) (.const (.bool true)) (.tmp 35) rfl true (.bool true) rfl rfl) ?_
    simp only [Act.put,aS,aC,aZ]
    refine wpList_nil ?_
    go_upto_region 9 with fail
    refine wp_region_lit ?_
    refine wl rfl (.int .i64 ((k+1:Nat):Int)) _ (yC8 (.tmp 17) (.const (.int .i64 1)) rfl (k:Nat) 1 _ rfl rfl (by omega) (by omega) (by omega)) ?_
    refine wm 50 (.int .i64 ((k+1:Nat):Int)) ?_
    simp only [Act.put,aS,aC,aZ]
    refine wpList_nil ?_
    go_wp2_with fail
    exact ⟨⟨k+1,rfl,by omega,(H3.out.1).take 1,fun j hj=>(by rcases Nat.lt_or_ge j k with q|q;exact HJ.out j q;rw [show j=k by omega,←HX.out.2.2.1];exact HNO.out)⟩,by simp [intOf];omega⟩
   | true =>
    obtain rfl:er=0:=HE.out
    by_cases h32:pay.length=32
    ·have H32:Hid (pay.length=32):=h32
     go_upto_region 5 with fail
     refine wp_region_lit ?_
     refine wm 13 (.int .i64 0) ?_
     refine wl rfl _ _ (yD1 (.tmp 30) (.const (.int .i64 0)) rfl 0 0 rfl rfl false rfl) ?_
     refine wm 31 (.bool false) ?_
     simp only [Act.put,aS,aC,aZ]
     refine wl (by kernel_rfl) _ _ (yA4 (.tmp 11) rfl vp rfl) ?_
     refine wl (by kernel_rfl) _ _ (yI9 H3.out.2 (.tmp 33) rfl rfl) ?_
     refine wl (by kernel_rfl) _ _ (yD1 (.tmp 34) (.const (.int .i64 32)) rfl (pay.length:Nat) 32 rfl rfl false (by rw [decide_eq_true (by omega)];rfl)) ?_
     simp only [Act.put,aS,aC,aZ]
     refine wl rfl _ _ (yA6 (.tmp 32) (.const (.bool true)) (.tmp 35) rfl false (.bool false) rfl rfl) ?_
     simp only [Act.put,aS,aC,aZ]
     refine wpList_nil ?_
     obtain ⟨g5,o5,cp,hvp,hc5⟩:=slice_cellsA H3.out.2 (by omega)
     subst hvp
     have HC5:Hid (∀j u,(yA0 pay)[j]? = some u→y3.cell? ⟨g5,o5+j,none⟩=some u):=hc5
     clear hc5
     have HL3:Hid (Loc w y3 [(q1,52,yA0 (Zs 32)),(q9,133,yA0 bl)]):=H3.out.1
     go_upto_region 6 with fail
     refine wp_region_lit ?_
     refine wm 11 (.slice (some ⟨g5,o5,none⟩) pay.length cp) ?_
     refine wl rfl _ _ (run_toArr 52 32 arr52 (.tmp 37) rfl g5 o5 pay.length cp (by omega) rfl) ?_
     refine wl rfl _ _ (yA9 ag52 (.tmp 38) rfl g5 (o5) rfl (yA0 pay) (by rw [yA1];exact H32.out) HC5.out) ?_
     simp only [Act.put,aS,aC,aZ]
     refine wl rfl _ _ (yB6 (yA0 (Zs 32)) zero52 rfl) ?_
     have k_:=HL3.out.box 52 (yA0 (Zs 32))
     obtain ⟨y4,hW_⟩:∃W,W=y3.alloc (.cells (yA0 (Zs 32)).toArray 52):=⟨_,rfl⟩
     obtain ⟨q14,hq_⟩:∃q,q=y3.heap.size:=⟨_,rfl⟩
     rw [←hW_,←hq_] at k_
     rw [←hW_,←hq_]
     clear hq_
     have Ry4:Hid (Loc w y4 [(q1,52,yA0 (Zs 32)),(q9,133,yA0 bl),(q14,52,yA0 (Zs 32))]):=k_
     clear k_ hW_ HL3
     simp only [Act.put,aS,aC,aZ]
     refine wlS rfl rfl _ (yB3 ag52 (.tmp 14) (.tmp 39) rfl Ry4.out 2 rfl (0) rfl (yA0 pay) rfl (by rw [yA1];exact H32.out) (by rw [yA1,bz,H32.out];decide) (yB0 _)).1 ?_
     have k_:=Ry4.out.lay 2 rfl (0) (yA0 pay)
     rw [yF4 (n:=32) _ H32.out] at k_ ⊢
     obtain ⟨y5,hW_⟩:∃W,W=y4.setRow q14 (yA0 pay).toArray:=⟨_,rfl⟩
     rw [←hW_] at k_ ⊢
     have Ry5:Hid (Loc w y5 [(q1,52,yA0 (Zs 32)),(q9,133,yA0 bl),(q14,52,yA0 pay)]):=k_
     clear k_ hW_ Ry4
     refine wpList_nil ?_
     obtain ⟨eqb,heq⟩:∃b,decide (eb d a pay k=bl)=b:=⟨_,rfl⟩
     have HEQ:Hid (decide (eb d a pay k=bl)=eqb):=heq
     clear heq
     go_upto_region 7 with fail
     refine wp_region_held (S:=fun X=>Loc w X [(q1,52,yA0 (Zs 32)),(q9,133,yA0 bl),(q14,52,yA0 pay)]) (by kernel_rfl) ?_
     show wpAnyH _ _ _ _ _ 9 (Array.replicate 9 false) _ _
     obtain ⟨X,hX⟩:∃X:World,X = { y5 with drawn:=y5.drawn+1 }:=⟨_,rfl⟩
     rw [←hX]
     have HS_:Loc w X [(q1,52,yA0 (Zs 32)),(q9,133,yA0 bl),(q14,52,yA0 pay)]:=(by rw [hX];exact Ry5.out.drew)
     clear hX
     refine tH 0 40 rfl rfl (gRun rfl _ fun _ h=>yA4 (.tmp 0) rfl (.int .i64 (d:Nat)) rfl) HS_ ?_
     refine tH 1 41 rfl rfl (gRun rfl _ fun _ h=>yA4 (.tmp 1) rfl (.int .i64 (a:Nat)) rfl) HS_ ?_
     refine tH 2 42 rfl rfl (gRun rfl _ fun _ h=>yA9 ag52 (.tmp 14) rfl q14 (0) rfl (yA0 pay) (by rw [yA1];exact H32.out) (yF0 h 2 rfl)) HS_ ?_
     simp only [Act.put,aS,aC,aZ]
     refine tH 4 44 rfl rfl (gRun rfl _ fun _ h=>yA4 (.tmp 8) rfl (.int .i64 (k:Nat)) rfl) HS_ ?_
     refine tH 7 47 rfl rfl (gRun rfl _ fun _ h=>yA9 ag133 (.tmp 9) rfl q9 (0) rfl (yA0 bl) (by rw [yA1];exact HX.out.2.2.2.1) (yF0 h 1 rfl)) HS_ ?_
     simp only [Act.put,aS,aC,aZ]
     refine oneH (i:=3) (by kernel_rfl) ?_
     refine yF6 (some 43) rfl rfl rfl 48 _ (yC2 eN48 [.tmp 40,.tmp 41,.tmp 42] _ rfl [(.int .i64 (d:Nat)),(.int .i64 (a:Nat)),(.agg (yA0 pay).toArray)] rfl) ?_
     refine (endOf_any d a pay X H32.out HY.out.2.2.2 (HM.out.2.later HS_.below)).mono ?_
     rintro e Y1 ⟨v2,rfl,ho2_,hb_⟩
     refine ⟨_,rfl,?_⟩
     obtain ⟨g2,_,_,hx2_,hc2_⟩:=ho2_.ix el93 k (by show k<2;exact HK.out.2)
     rw [ends_at d a pay k HK.out.2] at hc2_
     have HX2:Hid ((∀w',(Instr.indexAt 93 v2 (.int .i64 (k:Nat))).run Tryd.prog w' = .ok (.pointer (some ⟨g2,k * 64,none⟩)) w')∧(∀j u,(yA0 (eb d a pay k))[j]? = some u→Y1.cell? ⟨g2,k * 64+j,none⟩=some u)):=⟨hx2_,hc2_ Y1 ho2_⟩
     replace HS_:Loc w Y1 [(q1,52,yA0 (Zs 32)),(q9,133,yA0 bl),(q14,52,yA0 pay)]:=HS_.later hb_
     clear ho2_ hb_ hx2_ hc2_
     refine ⟨HS_,?_⟩
     simp only [Act.put,aS,aC,aZ]
     refine tH 5 45 rfl rfl (gRun rfl _ fun _ h=>yD5 (.tmp 43) (.tmp 44) rfl _ _ _ rfl rfl HX2.out.1) HS_ ?_
     simp only [Act.put,aS,aC,aZ]
     refine oneH (i:=6) (by kernel_rfl) ?_
     refine yG8 (some 46) rfl rfl rfl (av (eb d a pay k)) _ (yA9 ag133 (.tmp 45) rfl g2 (k * 64) rfl (yA0 (eb d a pay k)) (by rw [yA1,eb_length]) HX2.out.2) ?_
     refine ⟨HS_,?_⟩
     simp only [Act.put,aS,aC,aZ]
     refine tH 8 48 rfl rfl (gRun rfl _ fun _ h=>run_eqBlk (.tmp 46) (.tmp 47) rfl (eb d a pay k) bl (eb_length _ _ _ _) HX.out.2.2.2.1 rfl rfl eqb HEQ.out) HS_ ?_
     simp only [Act.put,aS,aC,aZ]
     refine wpAnyH_done (by kernel_rfl) ?_ _
     have H7:Hid (Loc w Y1 [(q1,52,yA0 (Zs 32)),(q9,133,yA0 bl),(q14,52,yA0 pay)]):=HS_
     clear HS_ Ry5
     cases eqb with
     | false =>
      have HNO:Hid (rtAt d a k bl=none):=(by show _=_;unfold rtAt;rw [←HY.out.1,if_neg (fun h=>of_decide_eq_false HEQ.out h.2.2)])
      go_upto_region 9 with fail
      refine wp_region_lit ?_
      refine wl rfl (.int .i64 ((k+1:Nat):Int)) _ (yC8 (.tmp 17) (.const (.int .i64 1)) rfl (k:Nat) 1 _ rfl rfl (by omega) (by omega) (by omega)) ?_
      refine wm 50 (.int .i64 ((k+1:Nat):Int)) ?_
      simp only [Act.put,aS,aC,aZ]
      refine wpList_nil ?_
      go_wp2_with fail
      exact ⟨⟨k+1,rfl,by omega,(H7.out).take 1,fun j hj=>(by rcases Nat.lt_or_ge j k with q|q;exact HJ.out j q;rw [show j=k by omega,←HX.out.2.2.1];exact HNO.out)⟩,by simp [intOf];omega⟩
     | true =>
      have HYES:Hid (rtAt d a k bl=some pay):=(by show _=_;unfold rtAt;rw [←HY.out.1,←HY.out.2.1,if_pos ⟨rfl,H32.out,of_decide_eq_true HEQ.out⟩])
      go_upto_region 8 with fail
      refine wp_region_lit ?_
      refine wl rfl _ _ (yA9 ag52 (.tmp 14) rfl q14 (0) rfl (yA0 pay) (by rw [yA1];exact H32.out) (yF0 H7.out 2 rfl)) ?_
      simp only [Act.put,aS,aC,aZ]
      refine wlS rfl rfl _ (yB3 ag52 (.tmp 6) (.tmp 49) rfl H7.out 0 rfl (0) rfl (yA0 pay) rfl (by rw [yA1];exact H32.out) (by rw [yA1,bz,H32.out];decide) (yB0 _)).1 ?_
      have k_:=H7.out.lay 0 rfl (0) (yA0 pay)
      rw [yF4 (n:=32) _ H32.out] at k_ ⊢
      obtain ⟨y9,hW_⟩:∃W,W=Y1.setRow q1 (yA0 pay).toArray:=⟨_,rfl⟩
      rw [←hW_] at k_ ⊢
      have Ry9:Hid (Loc w y9 [(q1,52,yA0 pay),(q9,133,yA0 bl),(q14,52,yA0 pay)]):=k_
      clear k_ hW_ H7
      refine wa (.const (.bool true)) (.bool true) ?_
      simp only [Act.put,aS,aC,aZ]
      refine wpList_nil ?_
      go_wp2_with fail
      exact bodyPost_ret (yC9 ag52 Tryd.results80 _ _ q1 52 rfl (yA0 pay) (by rw [yA1];exact H32.out) (Ry9.out.at 0 rfl) (.bool true) rfl) rfl (by rw [HPQ.out];exact ⟨Ry9.out.below,Or.inl ⟨k,pay,rfl,HK.out.1,by rw [←HX.out.2.2.1];exact HYES.out,HJ.out⟩⟩)
    ·have HNO:Hid (rtAt d a k bl=none):=(by show _=_;unfold rtAt;rw [←HY.out.1,if_neg (fun h=>h32 h.2.1)])
     go_upto_region 5 with fail
     refine wp_region_lit ?_
     refine wm 13 (.int .i64 0) ?_
     refine wl rfl _ _ (yD1 (.tmp 30) (.const (.int .i64 0)) rfl 0 0 rfl rfl false rfl) ?_
     refine wm 31 (.bool false) ?_
     simp only [Act.put,aS,aC,aZ]
     refine wl (by kernel_rfl) _ _ (yA4 (.tmp 11) rfl vp rfl) ?_
     refine wl (by kernel_rfl) _ _ (yI9 H3.out.2 (.tmp 33) rfl rfl) ?_
     refine wl (by kernel_rfl) _ _ (yD1 (.tmp 34) (.const (.int .i64 32)) rfl (pay.length:Nat) 32 rfl rfl true (by rw [decide_eq_false (by omega)];rfl)) ?_
     simp only [Act.put,aS,aC,aZ]
     refine wl rfl _ _ (yA6 (.tmp 32) (.const (.bool true)) (.tmp 35) rfl false (.bool true) rfl rfl) ?_
     simp only [Act.put,aS,aC,aZ]
     refine wpList_nil ?_
     go_upto_region 9 with fail
     refine wp_region_lit ?_
     refine wl rfl (.int .i64 ((k+1:Nat):Int)) _ (yC8 (.tmp 17) (.const (.int .i64 1)) rfl (k:Nat) 1 _ rfl rfl (by omega) (by omega) (by omega)) ?_
     refine wm 50 (.int .i64 ((k+1:Nat):Int)) ?_
     simp only [Act.put,aS,aC,aZ]
     refine wpList_nil ?_
     go_wp2_with fail
     exact ⟨⟨k+1,rfl,by omega,(H3.out.1).take 1,fun j hj=>(by rcases Nat.lt_or_ge j k with q|q;exact HJ.out j q;rw [show j=k by omega,←HX.out.2.2.1];exact HNO.out)⟩,by simp [intOf];omega⟩
  ·go_upto_region 2 with fail
   refine wp_region_lit ?_
   refine wl rfl _ _ (yB8 (.tmp 17) (.tmp 16) rfl (k:Nat) (found.length:Nat) rfl rfl false (decide_eq_false (by omega))) ?_
   simp only [Act.put,aS,aC,aZ]
   refine wpList_nil ?_
   have HL:Hid (Loc w wr [(q1,52,yA0 (Zs 32))]):=HI.out.1
   have HJ:Hid (∀j,j<k→rtAt d a j (found.getD j [])=none):=HI.out.2
   clear HI
   go_upto_region 10 with fail
   refine wp_region_lit ?_
   refine wl rfl _ _ (run_build52z rfl) ?_
   simp only [Act.put,aS,aC,aZ]
   refine wlS rfl rfl _ (yB3 ag52 (.tmp 6) (.tmp 51) rfl HL.out 0 rfl (0) rfl (yA0 (Zs 32)) rfl (bz 32) (by rw [bz];decide) (yB0 _)).1 ?_
   have k_:=HL.out.lay 0 rfl (0) (yA0 (Zs 32))
   rw [yF4 (n:=32) _ (yH2 32)] at k_ ⊢
   obtain ⟨y9,hW_⟩:∃W,W=wr.setRow q1 (yA0 (Zs 32)).toArray:=⟨_,rfl⟩
   rw [←hW_] at k_ ⊢
   have Ry9:Hid (Loc w y9 [(q1,52,yA0 (Zs 32))]):=k_
   clear k_ hW_ HL
   refine wa (.const (.bool false)) (.bool false) ?_
   simp only [Act.put,aS,aC,aZ]
   refine wpList_nil ?_
   go_wp2_with fail
   exact bodyPost_ret (yC9 ag52 Tryd.results80 _ _ q1 52 rfl (yA0 (Zs 32)) (bz 32) (Ry9.out.at 0 rfl) (.bool false) rfl) rfl (by rw [HPQ.out];exact ⟨Ry9.out.below,Or.inr ⟨rfl,fun j hj=>HJ.out j (by omega)⟩⟩)
end Go.Proofs.YtpkkkkomdblpoaaDoor

/- Layer 15: an object's tags, hash and pieces. Layer 15: structs; an object's blocks. -/
import Derived.Test.YtpkkkkomdblpoaaDoorS20
namespace Go.Proofs.YtpkkkkomdblpoaaDoor
open Go.RowKit Go.Maps
open Cold
theorem own_ne {W:World} {base e sz n:Nat} {v:Value} {xs:List Value} (h:W.ownsRow base e sz v n xs) {b T:Nat} {cs:List Value} (hb:v.ownBlock=some b) (hr:Row W b T cs) (hT:T≠e):False:=by
 rcases h.2 with ⟨rfl,_⟩|⟨g,cap,cur,rfl,_,hg,_⟩
 ·cases hb
 ·have e1:g=b:=Option.some.inj hb
  subst e1
  unfold Row at hr
  rw [hg] at hr
  injection hr with hr
  injection hr with _ h2 _
  exact hT h2.symm
theorem Row.grown {w w':World} {g T:Nat} {cs:List Value} {ob:Option Nat} (h:Row w g T cs) (hg:w.grownBy w' ob) (hne:ob≠some g):Row w' g T cs:=by
 have hl:=h.lt
 unfold Row at *
 rw [hg.block g hl (fun e=>hne e.symm)]
 exact h
def sliceLenN:Value→Nat
 | .slice _ n _=>n
 | _=>0
theorem slN {w:World} {v:Value} {cs:List Nat} (h:yA2 w v cs):sliceLenN v=cs.length:=by
 obtain ⟨p,cap,rfl,_⟩:=h
 rfl
def obC (d a ln:Int) (bd:Bool) (id:List Nat) (vb:Value):List Value:=[.int .i64 d,.int .i64 a,.int .i64 ln,.bool bd,str id,vb]
theorem hsh_ok (id bs:List Nat):(hsh id bs).length=32∧∀c∈hsh id bs,c<256:=Sh.node_isH _ _
theorem hd_ok (id bs:List Nat) (hb:∀c∈id,c<256):(hd id bs).length=56∧∀c∈hd id bs,c<256:=⟨yF5 _,pc_lt (Fr.Frame.pack_lt 111 _ (by decide) (lb_lt _ hb))⟩
theorem run_minZ {w:World} {a:Act} {o:Oper} (x:Operand) (n k:Nat) (ho:o.op = .call { callee:=.builtin .min,args:=#[x,.const (.int .i64 (k:Nat))],argTypes:=#[3,3] }) (hx:a.eval x = .int .i64 (n:Nat)):(execOp a.eval o).run Tryd.prog w = .ok (.value (.int .i64 ((min n k:Nat):Int))) w:=by
 have hr:∀ty,(Builtin.min_ #[3,3] ty #[.int .i64 (n:Nat),.int .i64 (k:Nat)]).run Tryd.prog w = .ok (.int .i64 ((min n k:Nat):Int)) w:=fun ty=>by
  rw [run_min_int2]
  congr 2
  split <;> omega
 simp only [execOp,ho,resolve,invoke,builtin,Sem.run_bind,Sem.run_pure,Result.andThen_ok,List.map_toArray,List.map_cons,List.map_nil,hx]
 have:=hr o.type
 simp [Act.eval,this]
set_option maxHeartbeats 4000000 in
set_option maxRecDepth 100000 in
theorem tag_any (d a i:Nat) (ln:Int) (bd:Bool) (id:List Nat) (vb:Value) (w:World):Calls Tryd.prog 61 #[.agg (obC (d:Nat) (a:Nat) ln bd id vb).toArray,.int .i64 (i:Nat)] w fun e w'=>e = .returned (av (tg 111 d a i))∧Below w.heap.size w w':=by
 have H0:Hid (Loc w w []):=Loc.nil (Below.refl _ _)
 obtain ⟨PQ,HPQ⟩:=exPQ fun (e:Ending) (w':World)=>e = .returned (av (tg 111 d a i))∧Below w.heap.size w w'
 rw [←HPQ.out]
 go_enter Tryd.func61,Tryd.ntmps61
 go_upto_region 0 with fail
 refine wp_region_lit ?_
 refine wl rfl _ _ (yG2 (.tmp 0) rfl ((obC (d:Nat) (a:Nat) ln bd id vb)) rfl) ?_
 have k_:=H0.out.box 91 ((obC (d:Nat) (a:Nat) ln bd id vb))
 obtain ⟨w1,hW_⟩:∃W,W=w.alloc (.cells ((obC (d:Nat) (a:Nat) ln bd id vb)).toArray 91):=⟨_,rfl⟩
 obtain ⟨q1,hq_⟩:∃q,q=w.heap.size:=⟨_,rfl⟩
 rw [←hW_,←hq_] at k_
 rw [←hW_,←hq_]
 clear hq_
 have Rw1:Hid (Loc w w1 [(q1,91,(obC (d:Nat) (a:Nat) ln bd id vb))]):=k_
 clear k_ hW_ H0
 simp only [Act.put,aS,aC,aZ]
 refine wl rfl _ _ (yB6 (yA0 (Zs 8)) zero131 rfl) ?_
 have k_:=Rw1.out.box 131 (yA0 (Zs 8))
 obtain ⟨w2,hW_⟩:∃W,W=w1.alloc (.cells (yA0 (Zs 8)).toArray 131):=⟨_,rfl⟩
 obtain ⟨q2,hq_⟩:∃q,q=w1.heap.size:=⟨_,rfl⟩
 rw [←hW_,←hq_] at k_
 rw [←hW_,←hq_]
 clear hq_
 have Rw2:Hid (Loc w w2 [(q1,91,(obC (d:Nat) (a:Nat) ln bd id vb)),(q2,131,yA0 (Zs 8))]):=k_
 clear k_ hW_ Rw1
 simp only [Act.put,aS,aC,aZ]
 refine wpList_nil ?_
 go_upto_region 1 with fail
 refine wp_region_lit ?_
 refine wl rfl _ _ (yA3 f91_0 (.tmp 2) rfl q1 (0) rfl) ?_
 refine wl rfl _ _ (yA3 f40_0 (.tmp 5) rfl q1 (0+0) rfl) ?_
 refine wl rfl _ _ (yA7 o3 (.tmp 6) rfl q1 (0+0+0) rfl (.int .i64 (d:Nat)) ((Rw2.out.at 0 rfl).at 0 _ rfl)) ?_
 simp only [Act.put,aS,aC,aZ]
 refine wl rfl _ _ (yA3 f91_0 (.tmp 2) rfl q1 (0) rfl) ?_
 refine wl rfl _ _ (yA3 f40_1 (.tmp 8) rfl q1 (0+0) rfl) ?_
 refine wl rfl _ _ (yA7 o3 (.tmp 9) rfl q1 (0+0+1) rfl (.int .i64 (a:Nat)) ((Rw2.out.at 0 rfl).at 1 _ rfl)) ?_
 simp only [Act.put,aS,aC,aZ]
 refine wm 1 (.int .i64 (i:Nat)) ?_
 simp only [Act.put,aS,aC,aZ]
 refine yA5 eN70 [.const (.int .u8 111),.tmp 7,.tmp 10,.tmp 11] _ rfl rfl [.int .u8 111,(.int .i64 (d:Nat)),(.int .i64 (a:Nat)),(.int .i64 (i:Nat))] rfl ?_
 refine (tagOf_any 111 d a i (by decide) w2).mono ?_
 rintro e w3 ⟨rfl,hb_⟩
 refine ⟨_,rfl,?_⟩
 have Rw3:Hid (Loc w w3 [(q1,91,(obC (d:Nat) (a:Nat) ln bd id vb)),(q2,131,yA0 (Zs 8))]):=Rw2.out.later hb_
 clear hb_ Rw2
 simp only [Act.put,aS,aC,aZ]
 refine wlS rfl rfl _ (yB3 ag131 (.tmp 4) (.tmp 12) rfl Rw3.out 1 rfl (0) rfl (yA0 (tg 111 d a i)) rfl (by rw [yA1];rfl) (by rw [yA1,bz,tg_length];decide) (yB0 _)).1 ?_
 have k_:=Rw3.out.lay 1 rfl (0) (yA0 (tg 111 d a i))
 rw [yF4 (n:=8) _ (tg_length 111 d a i)] at k_ ⊢
 obtain ⟨w4,hW_⟩:∃W,W=w3.setRow q2 (yA0 (tg 111 d a i)).toArray:=⟨_,rfl⟩
 rw [←hW_] at k_ ⊢
 have Rw4:Hid (Loc w w4 [(q1,91,(obC (d:Nat) (a:Nat) ln bd id vb)),(q2,131,yA0 (tg 111 d a i))]):=k_
 clear k_ hW_ Rw3
 refine wpList_nil ?_
 go_wp2_with fail
 rw [HPQ.out]
 exact bodyPost_ret (yK1 ag131 Tryd.results61 _ _ q2 131 rfl _ (by rw [yA1];rfl) (Rw4.out.at 1 rfl)) rfl ⟨rfl,Rw4.out.below⟩
set_option maxHeartbeats 4000000 in
set_option maxRecDepth 100000 in
theorem hash_any (d a:Nat) (ln:Int) (bd:Bool) (id bs:List Nat) (vb:Value) (w:World) (hid:∀c∈id,c<256) (hil:id.length≤1000) (hl:bs.length≤512) (hin:yA2 w vb bs) (he:Env w):Calls Tryd.prog 76 #[.agg (obC (d:Nat) (a:Nat) ln bd id vb).toArray] w fun e w'=>e = .returned (av (hsh id bs))∧Below w.heap.size w w':=by
 have HM:Hid (yA2 w vb bs∧Env w∧(∀c∈id,c<256)∧id.length≤1000):=⟨hin,he,hid,hil⟩
 obtain ⟨L1,hL1⟩:∃x,x=lb bs.length id:=⟨_,rfl⟩
 obtain ⟨h1,hh1⟩:∃x,x=Sh.Tree.leaf L1:=⟨_,rfl⟩
 obtain ⟨h2,hh2⟩:∃x,x=Sh.Cut.root bs:=⟨_,rfl⟩
 obtain ⟨h3,hh3⟩:∃x,x=hsh id bs:=⟨_,rfl⟩
 have HH:Hid (L1=lb bs.length id∧h1=Sh.Tree.leaf L1∧h2=Sh.Cut.root bs∧h3=Sh.Tree.node h1 h2):=⟨hL1,hh1,hh2,(by rw [hh3,hh1,hh2,hL1];rfl)⟩
 have HLN:Hid (L1.length≤1002∧(∀c∈L1,c<256)∧Sh.IsH h1∧Sh.IsH h2∧Sh.IsH h3):=⟨by rw [hL1,lb_length];omega,by rw [hL1];exact lb_lt _ hid,by rw [hh1];exact Sh.leaf_isH _,by rw [hh2];exact (Sh.leaves_allH bs).root,by rw [hh3];exact Sh.node_isH _ _⟩
 have H0:Hid (Loc w w []):=Loc.nil (Below.refl _ _)
 rw [←hh3]
 clear hid hil hin he hL1 hh1 hh2 hh3
 obtain ⟨PQ,HPQ⟩:=exPQ fun (e:Ending) (w':World)=>e = .returned (av (h3))∧Below w.heap.size w w'
 rw [←HPQ.out]
 go_enter Tryd.func76,Tryd.ntmps76
 go_upto_region 0 with fail
 refine wp_region_lit ?_
 refine wl rfl _ _ (yG2 (.tmp 0) rfl ((obC (d:Nat) (a:Nat) ln bd id vb)) rfl) ?_
 have k_:=H0.out.box 91 ((obC (d:Nat) (a:Nat) ln bd id vb))
 obtain ⟨w1,hW_⟩:∃W,W=w.alloc (.cells ((obC (d:Nat) (a:Nat) ln bd id vb)).toArray 91):=⟨_,rfl⟩
 obtain ⟨q1,hq_⟩:∃q,q=w.heap.size:=⟨_,rfl⟩
 rw [←hW_,←hq_] at k_
 rw [←hW_,←hq_]
 clear hq_
 have Rw1:Hid (Loc w w1 [(q1,91,(obC (d:Nat) (a:Nat) ln bd id vb))]):=k_
 clear k_ hW_ H0
 simp only [Act.put,aS,aC,aZ]
 refine wl rfl _ _ (yB6 (yA0 (Zs 32)) zero52 rfl) ?_
 have k_:=Rw1.out.box 52 (yA0 (Zs 32))
 obtain ⟨w2,hW_⟩:∃W,W=w1.alloc (.cells (yA0 (Zs 32)).toArray 52):=⟨_,rfl⟩
 obtain ⟨q2,hq_⟩:∃q,q=w1.heap.size:=⟨_,rfl⟩
 rw [←hW_,←hq_] at k_
 rw [←hW_,←hq_]
 clear hq_
 have Rw2:Hid (Loc w w2 [(q1,91,(obC (d:Nat) (a:Nat) ln bd id vb)),(q2,52,yA0 (Zs 32))]):=k_
 clear k_ hW_ Rw1
 simp only [Act.put,aS,aC,aZ]
 refine wpList_nil ?_
 go_upto_region 1 with fail
 refine yJ7 (S:=fun X=>Loc w X [(q1,91,(obC (d:Nat) (a:Nat) ln bd id vb)),(q2,52,yA0 (Zs 32))]) 11 (by kernel_rfl) ?_
 show wpAnyU _ _ _ _ _ _ 12 (Array.replicate 12 false) _ _
 obtain ⟨X,hX⟩:∃X:World,X = { w2 with drawn:=w2.drawn+1 }:=⟨_,rfl⟩
 rw [←hX]
 have HS_:Loc w X [(q1,91,(obC (d:Nat) (a:Nat) ln bd id vb)),(q2,52,yA0 (Zs 32))]:=(by rw [hX];exact Rw2.out.drew)
 clear hX
 refine tV 0 [11] 3 rfl rfl (gRun rfl _ fun _ h=>yA3 f91_2 (.tmp 1) rfl q1 (0) rfl) HS_ ?_
 refine tV 1 [11] 4 rfl rfl (gRun rfl _ fun _ h=>yA7 o38 (.tmp 3) rfl q1 (0+5) rfl vb ((h.at 0 rfl).at 5 _ rfl)) HS_ ?_
 refine tV 2 [11] 5 rfl rfl (gRun rfl _ fun _ h=>yI9 HM.out.1 (.tmp 4) rfl rfl) HS_ ?_
 simp only [Act.put,aS,aC,aZ]
 refine tV 3 [11] 6 rfl rfl (gRun rfl _ fun _ h=>yA3 f91_1 (.tmp 1) rfl q1 (0) rfl) HS_ ?_
 refine tV 4 [11] 7 rfl rfl (gRun rfl _ fun _ h=>yA7 o9 (.tmp 6) rfl q1 (0+4) rfl (str id) ((h.at 0 rfl).at 4 _ rfl)) HS_ ?_
 refine tV 7 [11] 10 rfl rfl (gRun rfl _ fun _ h=>yA3 f91_2 (.tmp 1) rfl q1 (0) rfl) HS_ ?_
 simp only [Act.put,aS,aC,aZ]
 refine tV 8 [11] 11 rfl rfl (gRun rfl _ fun _ h=>yA7 o38 (.tmp 10) rfl q1 (0+5) rfl vb ((h.at 0 rfl).at 5 _ rfl)) HS_ ?_
 simp only [Act.put,aS,aC,aZ]
 refine oneU (i:=5) (by kernel_rfl) ?_
 refine yF6 (some 8) rfl rfl rfl 77 _ (yC2 eN77 [.tmp 5,.tmp 7] _ rfl [(.int .i64 (bs.length:Nat)),(str id)] rfl) ?_
 refine (labelN_any bs.length id HM.out.2.2.1 HM.out.2.2.2 (by omega) X).mono ?_
 rintro e Y1 ⟨v1,rfl,o1,hb_⟩
 rw [←HH.out.1] at o1
 have G1:Hid (yA2 Y1 v1 L1):=BOwn.slice o1 HLN.out.2.1 (by have:=HLN.out.1;omega)
 refine ⟨_,rfl,?_⟩
 replace HS_:Loc w Y1 [(q1,91,(obC (d:Nat) (a:Nat) ln bd id vb)),(q2,52,yA0 (Zs 32))]:=HS_.later hb_
 clear hb_ o1
 refine ⟨fun _=>HS_,?_⟩
 simp only [Act.put,aS,aC,aZ]
 refine oneU (i:=6) (by kernel_rfl) ?_
 refine yF6 (some 9) rfl rfl rfl 67 _ (yC2 eN67 [.tmp 8] _ rfl [v1] rfl) ?_
 refine (Sh.leaf_any v1 L1 Y1 G1.out (HM.out.2.1.later HS_.below).2.1 (HM.out.2.1.later HS_.below).2.2 (by have:=HLN.out.1;omega)).mono ?_
 rintro e Y2 ⟨rfl,hb_⟩
 rw [←HH.out.2.1]
 refine ⟨_,rfl,?_⟩
 replace HS_:Loc w Y2 [(q1,91,(obC (d:Nat) (a:Nat) ln bd id vb)),(q2,52,yA0 (Zs 32))]:=HS_.later hb_
 clear hb_
 refine ⟨fun _=>HS_,?_⟩
 simp only [Act.put,aS,aC,aZ]
 refine oneU (i:=9) (by kernel_rfl) ?_
 refine yF6 (some 12) rfl rfl rfl 92 _ (yC2 eN92 [.tmp 11] _ rfl [vb] rfl) ?_
 refine (Sh.croot_any vb bs Y2 (HM.out.1.later HS_.below) (HM.out.2.1.later HS_.below).2.1 (HM.out.2.1.later HS_.below).2.2 (by omega)).mono ?_
 rintro e Y3 ⟨rfl,hb_⟩
 rw [←HH.out.2.2.1]
 refine ⟨_,rfl,?_⟩
 replace HS_:Loc w Y3 [(q1,91,(obC (d:Nat) (a:Nat) ln bd id vb)),(q2,52,yA0 (Zs 32))]:=HS_.later hb_
 clear hb_
 refine ⟨fun _=>HS_,?_⟩
 simp only [Act.put,aS,aC,aZ]
 refine oneU (i:=10) (by kernel_rfl) ?_
 refine yF6 (some 13) rfl rfl rfl 86 _ (yC2 eN86 [.tmp 9,.tmp 12] _ rfl [(Sh.hv h1),(Sh.hv h2)] rfl) ?_
 refine (Sh.node_any h1 h2 HLN.out.2.2.1 HLN.out.2.2.2.1 Y3 (HM.out.2.1.later HS_.below).2.1 (HM.out.2.1.later HS_.below).2.2).mono ?_
 rintro e Y4 ⟨rfl,hb_⟩
 rw [←HH.out.2.2.2]
 refine ⟨_,rfl,?_⟩
 replace HS_:Loc w Y4 [(q1,91,(obC (d:Nat) (a:Nat) ln bd id vb)),(q2,52,yA0 (Zs 32))]:=HS_.later hb_
 clear hb_
 refine ⟨fun _=>HS_,?_⟩
 simp only [Act.put,aS,aC,aZ]
 refine oneU (i:=11) (by kernel_rfl) ?_
 have HK:Hid (Loc w Y4 [(q1,91,(obC (d:Nat) (a:Nat) ln bd id vb)),(q2,52,yA0 (Zs 32))]):=HS_
 refine opSkipZ rfl rfl rfl _ (yB3 ag52 (.tmp 2) (.tmp 13) rfl HK.out 1 rfl 0 rfl (yA0 h3) rfl (by rw [yA1];exact HLN.out.2.2.2.2.1) (by rw [yA1,bz,HLN.out.2.2.2.2.1];decide) (yB0 _)).1 ?_
 have k_:=HK.out.lay 1 rfl 0 (yA0 h3)
 rw [yF4 (n:=32) _ HLN.out.2.2.2.2.1] at k_ ⊢
 obtain ⟨w5,hW_⟩:∃U_:World,U_=Y4.setRow q2 (yA0 h3).toArray:=⟨_,rfl⟩
 rw [←hW_] at k_ ⊢
 have R5:Hid (Loc w w5 [(q1,91,(obC (d:Nat) (a:Nat) ln bd id vb)),(q2,52,yA0 h3)]):=k_
 clear k_ hW_ HK HS_
 refine ⟨fun h=>absurd (show true=false from h) (by decide),?_⟩
 refine wpAnyU_done (by kernel_rfl) ?_ _
 go_wp2_with fail
 rw [HPQ.out]
 exact bodyPost_ret (yK1 ag52 Tryd.results76 _ _ q2 52 rfl _ (by rw [yA1];exact HLN.out.2.2.2.2.1) (R5.out.at 1 rfl)) rfl ⟨rfl,R5.out.below⟩
set_option maxHeartbeats 4000000 in
set_option maxRecDepth 100000 in
theorem pieces_any (d a:Nat) (ln:Int) (bd:Bool) (id bs:List Nat) (vb:Value) (w:World) (hid:∀c∈id,c<256) (hil:id.length≤1000) (hl:bs.length≤512) (hin:yA2 w vb bs) (he:Env w):Calls Tryd.prog 60 #[.agg (obC (d:Nat) (a:Nat) ln bd id vb).toArray] w fun e w' => ∃v,e = .returned v∧AOwn 129 56 w' w.heap.size v (pcs id bs)∧Below w.heap.size w w':=by
 have HM:Hid (yA2 w vb bs∧Env w∧(∀c∈id,c<256)∧id.length≤1000∧bs.length≤512):=⟨hin,he,hid,hil,hl⟩
 obtain ⟨h3,hh3⟩:∃x,x=hsh id bs:=⟨_,rfl⟩
 obtain ⟨p0,hp0⟩:∃x,x=hd id bs:=⟨_,rfl⟩
 obtain ⟨L1,hL1⟩:∃x,x=lb bs.length id:=⟨_,rfl⟩
 have HH:Hid (h3=hsh id bs∧p0=hd id bs∧L1=lb bs.length id):=⟨hh3,hp0,hL1⟩
 have HO:Hid ((h3.length=32∧∀c∈h3,c<256)∧(p0.length=56∧∀c∈p0,c<256)∧L1.length≤1002∧∀c∈L1,c<256):=⟨hh3▸hsh_ok id bs,hp0▸hd_ok id bs hid,by rw [hL1,lb_length];omega,by rw [hL1];exact lb_lt _ hid⟩
 have H0:Hid (Loc w w []):=Loc.nil (Below.refl _ _)
 clear hid hil hin he hh3 hp0 hL1
 obtain ⟨PQ,HPQ⟩:=exPQ fun (e:Ending) (w':World) => ∃v,e = .returned v∧AOwn 129 56 w' w.heap.size v (pcs id bs)∧Below w.heap.size w w'
 rw [←HPQ.out]
 go_enter Tryd.func60,Tryd.ntmps60
 go_upto_region 0 with fail
 refine wp_region_lit ?_
 refine wl rfl _ _ (yG2 (.tmp 0) rfl ((obC (d:Nat) (a:Nat) ln bd id vb)) rfl) ?_
 have k_:=H0.out.box 91 ((obC (d:Nat) (a:Nat) ln bd id vb))
 obtain ⟨w1,hW_⟩:∃W,W=w.alloc (.cells ((obC (d:Nat) (a:Nat) ln bd id vb)).toArray 91):=⟨_,rfl⟩
 obtain ⟨q1,hq_⟩:∃q,q=w.heap.size:=⟨_,rfl⟩
 rw [←hW_,←hq_] at k_
 rw [←hW_,←hq_]
 clear hq_
 have Rw1:Hid (Loc w w1 [(q1,91,(obC (d:Nat) (a:Nat) ln bd id vb))]):=k_
 clear k_ hW_ H0
 simp only [Act.put,aS,aC,aZ]
 refine wa (.const (.slice none 0 0)) (.slice none 0 0) ?_
 simp only [Act.put,aS,aC,aZ]
 refine wpList_nil ?_
 go_upto_region 1 with fail
 refine wp_region_lit ?_
 refine wl rfl _ _ (yA9 ag91 (.tmp 1) rfl q1 (0) rfl ((obC (d:Nat) (a:Nat) ln bd id vb)) rfl (yF0 Rw1.out 0 rfl)) ?_
 simp only [Act.put,aS,aC,aZ]
 refine yA5 eN76 [.tmp 6] _ rfl rfl [(.agg ((obC (d:Nat) (a:Nat) ln bd id vb)).toArray)] rfl ?_
 refine (hash_any d a ln bd id bs vb w1 HM.out.2.2.1 HM.out.2.2.2.1 HM.out.2.2.2.2 (HM.out.1.later Rw1.out.below) (HM.out.2.1.later Rw1.out.below)).mono ?_
 rintro e w2 ⟨rfl,hb_⟩
 refine ⟨_,rfl,?_⟩
 rw [←HH.out.1]
 have Rw2:Hid (Loc w w2 [(q1,91,(obC (d:Nat) (a:Nat) ln bd id vb))]):=Rw1.out.later hb_
 clear hb_ Rw1
 simp only [Act.put,aS,aC,aZ]
 refine wl rfl _ _ (yB6 (yA0 (Zs 32)) zero52 rfl) ?_
 have k_:=Rw2.out.box 52 (yA0 (Zs 32))
 obtain ⟨w3,hW_⟩:∃W,W=w2.alloc (.cells (yA0 (Zs 32)).toArray 52):=⟨_,rfl⟩
 obtain ⟨q2,hq_⟩:∃q,q=w2.heap.size:=⟨_,rfl⟩
 rw [←hW_,←hq_] at k_
 rw [←hW_,←hq_]
 clear hq_
 have Rw3:Hid (Loc w w3 [(q1,91,(obC (d:Nat) (a:Nat) ln bd id vb)),(q2,52,yA0 (Zs 32))]):=k_
 clear k_ hW_ Rw2
 simp only [Act.put,aS,aC,aZ]
 refine wlS rfl rfl _ (yB3 ag52 (.tmp 3) (.tmp 7) rfl Rw3.out 1 rfl (0) rfl (yA0 h3) rfl (by rw [yA1];exact HO.out.1.1) (by rw [yA1,bz,HO.out.1.1];decide) (yB0 _)).1 ?_
 have k_:=Rw3.out.lay 1 rfl (0) (yA0 h3)
 rw [yF4 (n:=32) _ HO.out.1.1] at k_ ⊢
 obtain ⟨w4,hW_⟩:∃W,W=w3.setRow q2 (yA0 h3).toArray:=⟨_,rfl⟩
 rw [←hW_] at k_ ⊢
 have Rw4:Hid (Loc w w4 [(q1,91,(obC (d:Nat) (a:Nat) ln bd id vb)),(q2,52,yA0 h3)]):=k_
 clear k_ hW_ Rw3
 refine wpList_nil ?_
 go_upto_region 2 with fail
 refine wp_region_lit ?_
 refine wl rfl _ _ (yA3 f91_2 (.tmp 1) rfl q1 (0) rfl) ?_
 refine wl rfl _ _ (yA7 o38 (.tmp 8) rfl q1 (0+5) rfl vb ((Rw4.out.at 0 rfl).at 5 _ rfl)) ?_
 refine wl rfl _ _ (yI9 HM.out.1 (.tmp 9) rfl rfl) ?_
 simp only [Act.put,aS,aC,aZ]
 refine wl rfl _ _ (yA3 f91_1 (.tmp 1) rfl q1 (0) rfl) ?_
 refine wl rfl _ _ (yA7 o9 (.tmp 11) rfl q1 (0+4) rfl (str id) ((Rw4.out.at 0 rfl).at 4 _ rfl)) ?_
 simp only [Act.put,aS,aC,aZ]
 refine yA5 eN77 [.tmp 10,.tmp 12] _ rfl rfl [(.int .i64 (bs.length:Nat)),(str id)] rfl ?_
 refine (labelN_any bs.length id HM.out.2.2.1 HM.out.2.2.2.1 (by have:=HM.out.2.2.2.2;omega) w4).mono ?_
 rintro e w5 ⟨v1,rfl,o1,hb_⟩
 refine ⟨_,rfl,?_⟩
 rw [←HH.out.2.2] at o1
 have Rw5:Hid (Loc w w5 [(q1,91,(obC (d:Nat) (a:Nat) ln bd id vb)),(q2,52,yA0 h3)]∧yA2 w5 v1 L1):=⟨Rw4.out.later hb_,BOwn.slice o1 HO.out.2.2.2 (by have:=HO.out.2.2.1;omega)⟩
 clear hb_ o1 Rw4
 simp only [Act.put,aS,aC,aZ]
 refine yA5 eN69 [.const (.int .u8 111),.tmp 13] _ rfl rfl [.int .u8 111,v1] rfl ?_
 refine (Fr.pack_any 111 (by decide) v1 L1 w5 (sliceT Rw5.out.2) (HM.out.2.1.later Rw5.out.1.below).1 (by have:=HO.out.2.2.1;omega)).mono ?_
 rintro e w6 ⟨v2,rfl,o1,hb_⟩
 refine ⟨_,rfl,?_⟩
 have Rw6:Hid (Loc w w6 [(q1,91,(obC (d:Nat) (a:Nat) ln bd id vb)),(q2,52,yA0 h3)]∧yA2 w6 v2 (Fr.Frame.pack 111 L1)):=⟨Rw5.out.1.later hb_,BOwn.slice (ownF o1) (Fr.Frame.pack_lt 111 L1 (by decide) HO.out.2.2.2) (by rw [Fr.Frame.yG4];have:=HO.out.2.2.1;omega)⟩
 clear hb_ o1 Rw5
 simp only [Act.put,aS,aC,aZ]
 refine yA5 eN63 [.tmp 14] _ rfl rfl [v2] rfl ?_
 refine (yK2 v2 (Fr.Frame.pack 111 L1) w6 Rw6.out.2).mono ?_
 rintro e w7 ⟨rfl,hb_⟩
 refine ⟨_,rfl,?_⟩
 have ep_:pc (Fr.Frame.pack 111 L1)=p0:=(by rw [HH.out.2.1,HH.out.2.2];rfl)
 rw [ep_]
 have Rw7:Hid (Loc w w7 [(q1,91,(obC (d:Nat) (a:Nat) ln bd id vb)),(q2,52,yA0 h3)]):=Rw6.out.1.later hb_
 clear hb_ ep_ Rw6
 simp only [Act.put,aS,aC,aZ]
 have ho_:=lit_own el134 w7 w.heap.size Rw7.out.below.size p0 HO.out.2.1
 have hb_:=yB2 w7 (.cells (yA0 p0).toArray 129)
 have hc_:∀j u,(yA0 p0)[j]? = some u→(w7.alloc (.cells (yA0 p0).toArray 129)).cell? ⟨w7.heap.size,j,none⟩=some u:=fun j u hu=>(Row.new w7 129 (yA0 p0)).at j u hu
 refine wl rfl _ _ (run_litOp el134 (.tmp 15) rfl p0 HO.out.2.1.1 rfl) ?_
 obtain ⟨w8,hW_⟩:∃U_:World,U_=w7.alloc (.cells (yA0 p0).toArray 129):=⟨_,rfl⟩
 obtain ⟨q3,hq_⟩:∃q,q=w7.heap.size:=⟨_,rfl⟩
 rw [←hW_] at hb_ hc_ ho_ ⊢
 rw [←hq_] at ho_ hc_ ⊢
 have Rw8:Hid (Loc w w8 [(q1,91,(obC (d:Nat) (a:Nat) ln bd id vb)),(q2,52,yA0 h3)]∧AOwn 129 56 w8 w.heap.size (.slice (some ⟨q3,0,none⟩) 1 1) [p0]):=⟨Rw7.out.later hb_,ho_⟩
 clear ho_ hb_ hc_ hW_ hq_ Rw7
 simp only [Act.put,aS,aC,aZ]
 refine wa (.tmp 16) (.slice (some ⟨q3,0,none⟩) 1 1) ?_
 simp only [Act.put,aS,aC,aZ]
 refine wpList_nil ?_
 go_upto_region 3 with fail
 refine wp_region_lit ?_
 refine wl rfl _ _ (yA3 f91_2 (.tmp 1) rfl q1 (0) rfl) ?_
 refine wl rfl _ _ (yA7 o38 (.tmp 17) rfl q1 (0+5) rfl vb ((Rw8.out.1.at 0 rfl).at 5 _ rfl)) ?_
 refine wa (.tmp 18) vb ?_
 simp only [Act.put,aS,aC,aZ]
 refine wpList_nil ?_
 go_wp2_with fail
 go_loopw [4,5] (fun vr vk W => ∃k:Nat,k≤np bs.length∧Hid (yA2 w vk (bs.drop (56 * k)))∧Hid (AOwn 129 56 W w.heap.size vr (p0 :: cutTo bs k)∧Loc w W [(q1,91,(obC (d:Nat) (a:Nat) ln bd id vb)),(q2,52,yA0 h3)])) (fun _ vk _=>sliceLenN vk)
 case atStart=>exact ⟨0,Nat.zero_le _,HM.out.1,Rw8.out.2,Rw8.out.1⟩
 case round =>
  obtain ⟨k,hk,HK,HI⟩:=hrel
  have HKL:Hid ((bs.drop (56 * k)).length=bs.length - 56 * k):=List.length_drop ..
  obtain ⟨rl,hrl⟩:∃n,n=bs.length - 56 * k:=⟨_,rfl⟩
  have HRL:Hid (rl=bs.length - 56 * k):=hrl
  clear hrl
  by_cases hlt:0<rl
  ·go_upto_region 4 with fail
   refine wp_region_lit ?_
   refine wm 5 u5 ?_
   refine wl rfl (.int .i64 (rl:Nat)) _ ((by rw [HRL.out,←HKL.out];exact yI9 HK.out (.tmp 19) rfl rfl)) ?_
   refine wl rfl _ _ (yH6 (.tmp 20) (.const (.int .i64 0)) rfl (rl:Nat) 0 rfl rfl true (decide_eq_true (by omega))) ?_
   simp only [Act.put,aS,aC,aZ]
   refine wpList_nil ?_
   obtain ⟨pk,hpk⟩:∃x,x=pc (bs.drop (56 * k)):=⟨_,rfl⟩
   have HP:Hid (pk=pc (bs.drop (56 * k))∧(pk.length=56∧∀c∈pk,c<256)):=⟨hpk,by rw [hpk];exact ⟨yF5 _,pc_lt HK.out.lt256⟩⟩
   clear hpk
   go_upto_region 6 with fail
   refine wp_region_lit ?_
   refine wm 4 u4 ?_
   refine wm 5 u5 ?_
   simp only [Act.put,aS,aC,aZ]
   refine yA5 eN63 [.tmp 28] _ rfl rfl [u5] rfl ?_
   refine (yK2 u5 (bs.drop (56 * k)) wr (HK.out.later HI.out.2.below)).mono ?_
   rintro e x1 ⟨rfl,hb_⟩
   refine ⟨_,rfl,?_⟩
   rw [←HP.out.1]
   have Q1:Hid (Loc w x1 [(q1,91,(obC (d:Nat) (a:Nat) ln bd id vb)),(q2,52,yA0 h3)]∧AOwn 129 56 x1 w.heap.size u4 (p0 :: cutTo bs k)):=⟨HI.out.2.later hb_,HI.out.1.later hb_⟩
   clear hb_
   simp only [Act.put,aS,aC,aZ]
   have ho_:=lit_own el134 x1 w.heap.size Q1.out.1.below.size pk HP.out.2
   have hb_:=yB2 x1 (.cells (yA0 pk).toArray 129)
   have hc_:∀j u,(yA0 pk)[j]? = some u→(x1.alloc (.cells (yA0 pk).toArray 129)).cell? ⟨x1.heap.size,j,none⟩=some u:=fun j u hu=>(Row.new x1 129 (yA0 pk)).at j u hu
   refine wl rfl _ _ (run_litOp el134 (.tmp 29) rfl pk HP.out.2.1 rfl) ?_
   obtain ⟨x2,hW_⟩:∃U_:World,U_=x1.alloc (.cells (yA0 pk).toArray 129):=⟨_,rfl⟩
   obtain ⟨q4,hq_⟩:∃q,q=x1.heap.size:=⟨_,rfl⟩
   rw [←hW_] at hb_ hc_ ho_ ⊢
   rw [←hq_] at ho_ hc_ ⊢
   have Q2:Hid (Loc w x2 [(q1,91,(obC (d:Nat) (a:Nat) ln bd id vb)),(q2,52,yA0 h3)]∧AOwn 129 56 x2 w.heap.size u4 (p0 :: cutTo bs k)∧(∀j u,(yA0 pk)[j]? = some u→x2.cell? ⟨q4,j,none⟩=some u)):=⟨Q1.out.1.later hb_,Q1.out.2.later hb_,hc_⟩
   clear ho_ hb_ hc_ hW_ hq_ Q1
   simp only [Act.put,aS,aC,aZ]
   obtain ⟨v9,x3,hr_,ho_,hg_,_⟩:=run_app1 el134 w.heap.size u4 (p0 :: cutTo bs k) pk Q2.out.2.1 HP.out.2 q4 Q2.out.2.2 (by simp [cutTo_length];unfold np at *;have:=HM.out.2.2.2.2;omega) Q2.out.1.below.size
   refine wl rfl v9 x3 (yK0 (.tmp 27) (.tmp 30) rfl _ _ _ rfl rfl hr_) ?_
   have Q3:Hid (Loc w x3 [(q1,91,(obC (d:Nat) (a:Nat) ln bd id vb)),(q2,52,yA0 h3)]∧AOwn 129 56 x3 w.heap.size v9 ((p0 :: cutTo bs k)++[pk])):=⟨⟨Q2.out.1.below.trans (Q2.out.2.1.belowG hg_ Q2.out.1.below.size),fun i g T cs e=>⟨(Q2.out.1.at i e).grown hg_ (fun e'=>own_ne Q2.out.2.1.2 e' (Q2.out.1.at i e) (by rcases i with _|_|i <;> simp at e <;> (try (obtain ⟨_,rfl,_⟩:=e;decide)))),Q2.out.1.ge i e⟩,Q2.out.1.ne⟩,ho_⟩
   clear hr_ ho_ hg_
   simp only [Act.put,aS,aC,aZ]
   refine wa (.tmp 31) v9 ?_
   simp only [Act.put,aS,aC,aZ]
   refine wpList_nil ?_
   go_upto_region 5 with fail
   refine wp_region_lit ?_
   refine wm 5 u5 ?_
   refine wm 5 u5 ?_
   refine wl rfl (.int .i64 (rl:Nat)) _ ((by rw [HRL.out,←HKL.out];exact yI9 HK.out (.tmp 23) rfl rfl)) ?_
   simp only [Act.put,aS,aC,aZ]
   refine wl rfl _ _ (run_minZ (.tmp 24) rl 56 rfl rfl) ?_
   simp only [Act.put,aS,aC,aZ]
   obtain ⟨v8,hr_,hs_⟩:=run_bsub HK.out (lo:=some (.int .i64 ((min rl 56:Nat):Int))) (hi:=none) (mx:=none) (l:=min rl 56) (h:=(bs.drop (56 * k)).length) ⟨Or.inr ⟨_,rfl,rfl⟩,Or.inl ⟨rfl,rfl,rfl⟩,(by rw [HKL.out,←HRL.out];omega),Nat.le_refl _⟩
   have Q4:Hid (yA2 w v8 (bs.drop (56 * (k+1)))):=(by
    rw [List.take_of_length_le (Nat.le_refl _),List.drop_drop] at hs_
    rcases Nat.lt_or_ge rl 56 with q|q
    ·have e1:bs.drop (56 * (k+1))=bs.drop (56 * k+min rl 56):=(by have:=HRL.out;rw [List.drop_eq_nil_of_le (by omega),List.drop_eq_nil_of_le (by omega)])
     exact e1▸hs_
    ·have e1:56 * (k+1)=56 * k+min rl 56:=(by omega)
     exact e1▸hs_)
   refine wl rfl _ _ (run_subB (.tmp 22) (some (.tmp 25)) none none rfl u5 v8 rfl hr_) ?_
   clear hr_ hs_
   simp only [Act.put,aS,aC,aZ]
   refine wa (.tmp 26) v8 ?_
   simp only [Act.put,aS,aC,aZ]
   refine wpList_nil ?_
   have HF:Hid (k+1≤np bs.length∧sliceLenN v8<sliceLenN u5):=⟨by have:=HRL.out;unfold np;omega,(by rw [slN Q4.out,slN HK.out,HKL.out,List.length_drop];have:=HRL.out;omega)⟩
   clear hk
   go_wp2_with fail
   refine ⟨⟨k+1,HF.out.1,Q4.out,?_⟩,HF.out.2⟩
   have q3_:=Q3.out
   rw [HP.out.1,List.cons_append,←cutTo_succ] at q3_
   exact ⟨q3_.2,q3_.1⟩
  ·go_upto_region 4 with fail
   refine wp_region_lit ?_
   refine wm 5 u5 ?_
   refine wl rfl (.int .i64 (rl:Nat)) _ ((by rw [HRL.out,←HKL.out];exact yI9 HK.out (.tmp 19) rfl rfl)) ?_
   refine wl rfl _ _ (yH6 (.tmp 20) (.const (.int .i64 0)) rfl (rl:Nat) 0 rfl rfl false (decide_eq_false (by omega))) ?_
   simp only [Act.put,aS,aC,aZ]
   refine wpList_nil ?_
   have HE:Hid (k=np bs.length):=(by show _=_;have:=HRL.out;unfold np at *;omega)
   clear hk
   obtain ⟨pk,hpk⟩:∃x,x=pc h3:=⟨_,rfl⟩
   have HP:Hid (pk=pc h3∧(pk.length=56∧∀c∈pk,c<256)):=⟨hpk,by rw [hpk];exact ⟨yF5 _,pc_lt HO.out.1.2⟩⟩
   clear hpk
   have HSH:Hid (yA2 wr (.slice (some ⟨q2,0+0,none⟩) 32 32) h3):=⟨_,32,by rw [HO.out.1.1],⟨by rw [HO.out.1.1];decide,by rw [HO.out.1.1];decide⟩,Or.inr ⟨q2,0,rfl,fun j hj=>by rw [Nat.zero_add];exact (HI.out.2.at 1 rfl).at j _ (yC3 h3 j hj),lt256 h3 HO.out.1.2⟩⟩
   have hkk:k≤10:=(by have:=HE.out;have:=HM.out.2.2.2.2;unfold np at *;omega)
   go_upto_region 7 with fail
   refine wp_region_lit ?_
   refine wm 4 u4 ?_
   refine wl rfl _ _ (run_slA arr52 (.tmp 3) none none rfl q2 0 0 32 rfl ⟨Or.inl ⟨rfl,rfl⟩,Or.inl ⟨rfl,rfl⟩,by omega,by omega,by omega⟩) ?_
   simp only [Act.put,aS,aC,aZ]
   refine yA5 eN63 [.tmp 33] _ rfl rfl [(.slice (some ⟨q2,0+0,none⟩) 32 32)] rfl ?_
   refine (yK2 _ h3 wr HSH.out).mono ?_
   rintro e x1 ⟨rfl,hb_⟩
   refine ⟨_,rfl,?_⟩
   rw [←HP.out.1]
   have Q1:Hid (Loc w x1 [(q1,91,(obC (d:Nat) (a:Nat) ln bd id vb)),(q2,52,yA0 h3)]∧AOwn 129 56 x1 w.heap.size u4 (p0 :: cutTo bs k)):=⟨HI.out.2.later hb_,HI.out.1.later hb_⟩
   clear hb_
   simp only [Act.put,aS,aC,aZ]
   have ho_:=lit_own el134 x1 w.heap.size Q1.out.1.below.size pk HP.out.2
   have hb_:=yB2 x1 (.cells (yA0 pk).toArray 129)
   have hc_:∀j u,(yA0 pk)[j]? = some u→(x1.alloc (.cells (yA0 pk).toArray 129)).cell? ⟨x1.heap.size,j,none⟩=some u:=fun j u hu=>(Row.new x1 129 (yA0 pk)).at j u hu
   refine wl rfl _ _ (run_litOp el134 (.tmp 34) rfl pk HP.out.2.1 rfl) ?_
   obtain ⟨x2,hW_⟩:∃U_:World,U_=x1.alloc (.cells (yA0 pk).toArray 129):=⟨_,rfl⟩
   obtain ⟨q4,hq_⟩:∃q,q=x1.heap.size:=⟨_,rfl⟩
   rw [←hW_] at hb_ hc_ ho_ ⊢
   rw [←hq_] at ho_ hc_ ⊢
   have Q2:Hid (Loc w x2 [(q1,91,(obC (d:Nat) (a:Nat) ln bd id vb)),(q2,52,yA0 h3)]∧AOwn 129 56 x2 w.heap.size u4 (p0 :: cutTo bs k)∧(∀j u,(yA0 pk)[j]? = some u→x2.cell? ⟨q4,j,none⟩=some u)):=⟨Q1.out.1.later hb_,Q1.out.2.later hb_,hc_⟩
   clear ho_ hb_ hc_ hW_ hq_ Q1
   simp only [Act.put,aS,aC,aZ]
   obtain ⟨v9,x3,hr_,ho_,hg_,_⟩:=run_app1 el134 w.heap.size u4 (p0 :: cutTo bs k) pk Q2.out.2.1 HP.out.2 q4 Q2.out.2.2 (by simp [cutTo_length];unfold np at *;have:=HM.out.2.2.2.2;omega) Q2.out.1.below.size
   refine wl rfl v9 x3 (yK0 (.tmp 32) (.tmp 35) rfl _ _ _ rfl rfl hr_) ?_
   have Q3:Hid (Loc w x3 [(q1,91,(obC (d:Nat) (a:Nat) ln bd id vb)),(q2,52,yA0 h3)]∧AOwn 129 56 x3 w.heap.size v9 ((p0 :: cutTo bs k)++[pk])):=⟨⟨Q2.out.1.below.trans (Q2.out.2.1.belowG hg_ Q2.out.1.below.size),fun i g T cs e=>⟨(Q2.out.1.at i e).grown hg_ (fun e'=>own_ne Q2.out.2.1.2 e' (Q2.out.1.at i e) (by rcases i with _|_|i <;> simp at e <;> (try (obtain ⟨_,rfl,_⟩:=e;decide)))),Q2.out.1.ge i e⟩,Q2.out.1.ne⟩,ho_⟩
   clear hr_ ho_ hg_
   simp only [Act.put,aS,aC,aZ]
   refine wa (.tmp 36) v9 ?_
   simp only [Act.put,aS,aC,aZ]
   refine wpList_nil ?_
   go_wp2_with fail
   rw [HPQ.out]
   refine ⟨v9,rfl,?_,Q3.out.1.below⟩
   have q3_:=Q3.out.2
   rw [HP.out.1,HH.out.1,HH.out.2.1,HE.out] at q3_
   exact q3_
end Go.Proofs.YtpkkkkomdblpoaaDoor

namespace Go.Proofs.YtpkkkkomdblpoaaDoor
open Go.RowKit Go.Maps
open Cold
theorem run_build133 (w:World) (p t:List Nat) (hp:p.length=56) (ht:t.length=8):(Instr.build 133 #[(0,av p),(1,av t)]).run Tryd.prog w = .ok (av (p++t)) w:=by
 have hf:Instr.fill (fun i=>#[(0,56),(56,8)][i]?) (yA0 (Zs 64)).toArray [(0,av p),(1,av t)]=some (yA0 (p++t)).toArray:=by
  rw [fill_step _ _ 0 (av p) _ 0 56 (yA0 p) rfl rfl (by rw [yA1];exact hp) (by simp [yA1,hp,yH2]),fill_step _ _ 1 (av t) _ 56 8 (yA0 t) rfl rfl (by rw [yA1];exact ht) (by simp [splice,yA1,hp,ht,yH2])]
  simp only [Instr.fill]
  congr 2
  have h1:splice (yA0 (Zs 64)) 0 (yA0 p)=yA0 p++yA0 (Zs 8):=by
   unfold splice Zs yA0
   simp [hp]
  show splice (splice (yA0 (Zs 64)) 0 (yA0 p)) 56 (yA0 t)=_
  rw [h1,yD0]
  unfold splice
  simp [yA1,hp,ht,yH2]
 have hz:(zeroValue 133).run Tryd.prog w = .ok (.agg (yA0 (Zs 64)).toArray) w:=by kernel_rfl
 simp [Instr.build,hz,run_underlying Tryd.underlying133,Value.cells]
 simp at hf
 rw [hf]
 rfl
theorem run_build91 (w:World) (d a l:Int) (b:Bool) (id:List Nat) (p:Option Addr) (n c:Nat):(Instr.build 91 #[(0,.agg (plC d a l b).toArray),(1,str id),(2,.slice p n c)]).run Tryd.prog w = .ok (.agg (obC d a l b id (.slice p n c)).toArray) w:=by kernel_rfl
theorem run_build91b (w:World) (d a l:Int) (b:Bool) (id:List Nat):(Instr.build 91 #[(0,.agg (plC d a l b).toArray),(1,str id)]).run Tryd.prog w = .ok (.agg (obC d a l b id (.slice none 0 0)).toArray) w:=by kernel_rfl
theorem run_build91z (w:World):(Instr.build 91 #[]).run Tryd.prog w = .ok (.agg (obC 0 0 0 false [] (.slice none 0 0)).toArray) w:=by kernel_rfl
theorem zero91:(Tryd.prog.info? 91).map (·.zero)=some (some (.agg (obC 0 0 0 false [] (.slice none 0 0)).toArray)):=by kernel_rfl
theorem run_blkOp {w:World} {a:Act} {o:Oper} (x y:Operand) (ho:o.op = .build 133 #[(0,x),(1,y)]) (p t:List Nat) (hp:p.length=56) (ht:t.length=8) (hx:a.eval x=av p) (hy:a.eval y=av t):(execOp a.eval o).run Tryd.prog w = .ok (.value (av (p++t))) w:=by
 have:=run_build133 w p t hp ht
 simp [execOp,ho,hx,hy,this]
theorem part133 (b:List Nat) (hb:b.length=64) (W:World):(part 129 (yA0 b).toArray 0).run Tryd.prog W = .ok (av (b.take 56)) W∧(part 131 (yA0 b).toArray 56).run Tryd.prog W = .ok (av (b.drop 56)) W:=by
 constructor
 ·have ha:(isAgg 129).run Tryd.prog W = .ok true W:=by kernel_rfl
  simp [part,ha,av,yA0]
 ·have ha:(isAgg 131).run Tryd.prog W = .ok true W:=by kernel_rfl
  simp [part,ha,av,yA0]
  rw [List.take_of_length_le (by simp;omega)]
theorem fields133:∃f0 f1:Field,(Tryd.prog.fieldsOf 133).toList=[f0,f1]∧(f0.type=129∧f0.offset=0)∧(f1.type=131∧f1.offset=56)∧(f0.name == "_")=false∧(f1.name == "_")=false:=by
 have hu:=Tryd.underlying133
 unfold Program.fieldsOf
 rw [hu]
 exact ⟨_,_,rfl,⟨rfl,rfl⟩,⟨rfl,rfl⟩,by decide,by decide⟩
theorem eqFields2 {P:Program} {w:World} (d:Nat) (xs ys:Array Value) (f0 f1:Field) (a0 b0 a1 b1:Value) (r0 r1:Bool) (n0:¬ f0.name = "_") (n1:¬ f1.name = "_")
  (p0:(part f0.type xs f0.offset).run P w = .ok a0 w) (q0:(part f0.type ys f0.offset).run P w = .ok b0 w) (p1:(part f1.type xs f1.offset).run P w = .ok a1 w) (q1:(part f1.type ys f1.offset).run P w = .ok b1 w)
  (e0:(Op.equalIn d f0.type a0 b0).run P w = .ok r0 w) (e1:(Op.equalIn d f1.type a1 b1).run P w = .ok r1 w):(Op.eqFields d xs ys [f0,f1]).run P w = .ok (r0 && r1) w:=by
 cases r0 <;> cases r1 <;> simp [Op.eqFields,n0,n1,p0,q0,p1,q1,e0,e1]
theorem beqlB (F:Nat) (a b:List Nat) (ha:a.length=64) (hb:b.length=64) (W:World):(Op.equalIn (F+2+1+1) 133 (av a) (av b)).run Tryd.prog W = .ok (decide (a=b)) W:=by
 have hu:Tryd.prog.underlying 133=some (.struct (Tryd.prog.fieldsOf 133)):=by
  have:=Tryd.underlying133
  unfold Program.fieldsOf
  rw [this]
 have hsd:Tryd.prog.stoodInHeld 133=false:=by kernel_rfl
 obtain ⟨f0,f1,hfs,⟨h1,h2⟩,⟨h3,h4⟩,h5,h6⟩:=fields133
 have h5':¬ f0.name = "_":=by simpa using h5
 have h6':¬ f1.name = "_":=by simpa using h6
 have pa:=part133 a ha W
 have pb:=part133 b hb W
 have e1:=beqlA 129 56 arr129 F (a.take 56) (b.take 56) (by simp;omega) (by simp;omega) W
 have e2:=beqlA 131 8 arr131 F (a.drop 56) (b.drop 56) (by simp;omega) (by simp;omega) W
 show (Op.equalIn (F+2+1+1) 133 (.agg (yA0 a).toArray) (.agg (yA0 b).toArray)).run Tryd.prog W=_
 rw [run_equalIn_struct W (F+2+1) 133 _ _ hu hsd,hfs]
 rw [eqFields2 (F+2+1) _ _ f0 f1 _ _ _ _ _ _ h5' h6' (by rw [h1,h2];exact pa.1) (by rw [h1,h2];exact pb.1) (by rw [h3,h4];exact pa.2) (by rw [h3,h4];exact pb.2) (by rw [h1];exact e1) (by rw [h3];exact e2)]
 have hdec:a=b ↔ a.take 56=b.take 56∧a.drop 56=b.drop 56:=⟨fun h=>by rw [h];exact ⟨rfl,rfl⟩,fun ⟨h1,h2⟩=>by rw [←List.take_append_drop 56 a,←List.take_append_drop 56 b,h1,h2]⟩
 have e9:(decide (a.take 56=b.take 56) && decide (a.drop 56=b.drop 56))=decide (a=b):=by
  rw [←Bool.decide_and]
  exact decide_eq_decide.2 hdec.symm
 rw [e9]
theorem run_eqBlk {w:World} {a:Act} {o:Oper} (x y:Operand) (ho:o.op = .binOp .eql 133 x y 133) (h h':List Nat) (hh:h.length=64) (hh':h'.length=64) (hx:a.eval x=av h) (hy:a.eval y=av h') (b:Bool) (hb:decide (h=h')=b):(execOp a.eval o).run Tryd.prog w = .ok (.value (.bool b)) w:=by
 have he:(Op.equalIn 10000 133 (av h) (av h')).run Tryd.prog w=_:=beqlB 9996 h h' hh hh' w
 rw [←hb]
 unfold av at *
 simp [execOp,ho,hx,hy,run_eqGuard_agg w .eql 133 x y _ _ guard133,run_eql_struct w 133,he]
theorem run_toArr {w:World} {a:Act} {o:Oper} (T n:Nat) (hu:Tryd.prog.underlying T=some (.array n 5)) (x:Operand) (ho:o.op = .sliceToArrayPointer T x) (g off len cap:Nat) (hn:n≤len) (hx:a.eval x = .slice (some ⟨g,off,none⟩) len cap):(execOp a.eval o).run Tryd.prog w = .ok (.value (.pointer (some ⟨g,off,none⟩))) w:=by
 have h1:¬ len<n:=by omega
 simp [execOp,ho,hx,Instr.arrayAt,run_underlying hu,h1]
theorem own_ne2 {W:World} {base e sz n base' e' sz' n':Nat} {v v':Value} {xs xs':List Value} (h:W.ownsRow base e sz v n xs) (h':W.ownsRow base' e' sz' v' n' xs') {b:Nat} (hb:v.ownBlock=some b) (hb':v'.ownBlock=some b) (hT:e≠e'):False:=by
 rcases h'.2 with ⟨rfl,_⟩|⟨g,cap,cur,rfl,_,hg,_⟩
 ·cases hb'
 ·have e1:g=b:=Option.some.inj hb'
  subst e1
  exact own_ne (cs:=cur.toList) h hb (by unfold Row;simpa using hg) (fun q=>hT q.symm)
theorem Loc.later2 {w W W':World} {l:List (Nat×TypeId×List Value)} (h:Loc w W l) {S:Nat→Prop} (hc:Ch S W W') (hne:∀(i g:Nat) (T:TypeId) (cs:List Value),l[i]? = some (g,T,cs)→¬ S g) (hS:∀b,b<w.heap.size→¬ S b):Loc w W' l :=
 ⟨h.below.trans (hc.below h.below.size fun k hk e=>hS k hk e),fun i g T cs e=>⟨hc.row (hne i g T cs e) (h.at i e),h.ge i e⟩,h.ne⟩
def bkTo (d a:Nat) (id bs:List Nat) (k:Nat):List (List Nat):=(List.range k).map (bk d a id bs)
theorem bkTo_succ (d a:Nat) (id bs:List Nat) (k:Nat):bkTo d a id bs (k+1)=bkTo d a id bs k++[bk d a id bs k]:=by simp [bkTo,List.range_succ]
theorem bkTo_length (d a:Nat) (id bs:List Nat) (k:Nat):(bkTo d a id bs k).length=k:=by simp [bkTo]
set_option maxHeartbeats 4000000 in
set_option maxRecDepth 100000 in
theorem blks_any (d a:Nat) (ln:Int) (bd:Bool) (id bs:List Nat) (vb:Value) (w:World) (hid:∀c∈id,c<256) (hil:id.length≤1000) (hl:bs.length≤512) (hin:yA2 w vb bs) (he:Env w):Calls Tryd.prog 40 #[.agg (obC (d:Nat) (a:Nat) ln bd id vb).toArray] w fun e w' => ∃v,e = .returned v∧AOwn 133 64 w' w.heap.size v (blks d a id bs)∧Below w.heap.size w w':=by
 have HM:Hid (yA2 w vb bs∧Env w∧(∀c∈id,c<256)∧id.length≤1000∧bs.length≤512):=⟨hin,he,hid,hil,hl⟩
 obtain ⟨N,hN⟩:∃n,n=nb bs.length:=⟨_,rfl⟩
 have HN:Hid (N=nb bs.length∧N≤12∧(pcs id bs).length=N):=⟨hN,hN▸nb_le hl,by rw [pcs_length,hN]⟩
 have H0:Hid (Loc w w []):=Loc.nil (Below.refl _ _)
 clear hid hil hin he hN
 obtain ⟨PQ,HPQ⟩:=exPQ fun (e:Ending) (w':World) => ∃v,e = .returned v∧AOwn 133 64 w' w.heap.size v (blks d a id bs)∧Below w.heap.size w w'
 rw [←HPQ.out]
 go_enter Tryd.func40,Tryd.ntmps40
 go_upto_region 0 with fail
 refine wp_region_lit ?_
 refine wl rfl _ _ (yG2 (.tmp 0) rfl ((obC (d:Nat) (a:Nat) ln bd id vb)) rfl) ?_
 have k_:=H0.out.box 91 ((obC (d:Nat) (a:Nat) ln bd id vb))
 obtain ⟨w1,hW_⟩:∃W,W=w.alloc (.cells ((obC (d:Nat) (a:Nat) ln bd id vb)).toArray 91):=⟨_,rfl⟩
 obtain ⟨q1,hq_⟩:∃q,q=w.heap.size:=⟨_,rfl⟩
 rw [←hW_,←hq_] at k_
 rw [←hW_,←hq_]
 clear hq_
 have Rw1:Hid (Loc w w1 [(q1,91,(obC (d:Nat) (a:Nat) ln bd id vb))]):=k_
 clear k_ hW_ H0
 simp only [Act.put,aS,aC,aZ]
 refine wa (.const (.slice none 0 0)) (.slice none 0 0) ?_
 simp only [Act.put,aS,aC,aZ]
 refine wpList_nil ?_
 go_upto_region 1 with fail
 refine wp_region_lit ?_
 refine wa (.const (.slice none 0 0)) (.slice none 0 0) ?_
 simp only [Act.put,aS,aC,aZ]
 refine wpList_nil ?_
 go_upto_region 2 with fail
 refine wp_region_lit ?_
 refine wl rfl _ _ (yA9 ag91 (.tmp 1) rfl q1 (0) rfl ((obC (d:Nat) (a:Nat) ln bd id vb)) rfl (yF0 Rw1.out 0 rfl)) ?_
 simp only [Act.put,aS,aC,aZ]
 refine yA5 eN60 [.tmp 6] _ rfl rfl [(.agg ((obC (d:Nat) (a:Nat) ln bd id vb)).toArray)] rfl ?_
 refine (pieces_any d a ln bd id bs vb w1 HM.out.2.2.1 HM.out.2.2.2.1 HM.out.2.2.2.2 (HM.out.1.later Rw1.out.below) (HM.out.2.1.later Rw1.out.below)).mono ?_
 rintro e w2 ⟨vp,rfl,ho_,hb_⟩
 refine ⟨_,rfl,?_⟩
 have H2:Hid (Loc w w2 [(q1,91,(obC (d:Nat) (a:Nat) ln bd id vb))]∧AOwn 129 56 w2 w1.heap.size vp (pcs id bs)∧w.heap.size≤w1.heap.size):=⟨Rw1.out.later hb_,ho_,Rw1.out.below.size⟩
 clear ho_ hb_
 simp only [Act.put,aS,aC,aZ]
 refine wl rfl (.int .i64 (N:Nat)) _ ((by rw [←HN.out.2.2];exact run_lenA el134 H2.out.2.1 (.tmp 7) rfl rfl)) ?_
 refine wl rfl _ _ (yA4 (.const (.int .i64 0)) rfl (.int .i64 0) rfl) ?_
 simp only [Act.put,aS,aC,aZ]
 refine wpList_nil ?_
 go_wp2_with fail
 go_loopw [3,4,5,9] (fun vr _ _ vk W => ∃k:Nat,vk = .int .i64 (k:Nat)∧k≤N∧Hid (Loc w W [(q1,91,(obC (d:Nat) (a:Nat) ln bd id vb))]∧AOwn 133 64 W w.heap.size vr (bkTo d a id bs k)∧AOwn 129 56 W w1.heap.size vp (pcs id bs))) (fun _ _ _ vk _=>N - (intOf vk).toNat)
 case atStart=>exact ⟨0,rfl,Nat.zero_le _,H2.out.1,AOwn.nil _ _ _ _,H2.out.2.1⟩
 case round =>
  obtain ⟨k,rfl,hk,HI⟩:=hrel
  by_cases hlt:k<N
  ·go_upto_region 3 with fail
   refine wp_region_lit ?_
   refine wl rfl _ _ (yB8 (.tmp 9) (.tmp 8) rfl (k:Nat) (N:Nat) rfl rfl true (decide_eq_true (by omega))) ?_
   simp only [Act.put,aS,aC,aZ]
   refine wpList_nil ?_
   obtain ⟨g,_,hgb_,hx_,hc_⟩:=HI.out.2.2.ix el134 k (by rw [HN.out.2.2];exact hlt)
   obtain ⟨pk,hpk⟩:∃x,x=(pcs id bs).getD k []:=⟨_,rfl⟩
   rw [←hpk] at hc_
   have hpl_:=HI.out.2.2.1.at k (by rw [HN.out.2.2];exact hlt)
   rw [←hpk] at hpl_
   have HX:Hid ((∀w',(Instr.indexAt 134 vp (.int .i64 (k:Nat))).run Tryd.prog w' = .ok (.pointer (some ⟨g,k * 56,none⟩)) w')∧(∀W':World,AOwn 129 56 W' w1.heap.size vp (pcs id bs)→∀j u,(yA0 pk)[j]? = some u→W'.cell? ⟨g,k * 56+j,none⟩=some u)∧pk=(pcs id bs).getD k []∧pk.length=56∧(∀c∈pk,c<256)):=⟨hx_,hc_,hpk,hpl_⟩
   clear hx_ hc_ hpk hpl_ hgb_
   have HK:Hid (k<N):=hlt
   go_upto_region 4 with fail
   refine wp_region_lit ?_
   refine wm 9 (.int .i64 (k:Nat)) ?_
   refine wl rfl _ _ (yD5 (.tmp 7) (.tmp 9) rfl _ _ _ rfl rfl HX.out.1) ?_
   refine wl rfl _ _ (yA9 ag129 (.tmp 12) rfl g (k * 56) rfl (yA0 pk) (by rw [yA1];exact HX.out.2.2.2.1) (HX.out.2.1 _ HI.out.2.2)) ?_
   simp only [Act.put,aS,aC,aZ]
   refine wl rfl _ _ (yB6 (yA0 (Zs 56)) zero129 rfl) ?_
   have hb_:=yB2 wr (.cells (yA0 (Zs 56)).toArray 129)
   have r_:=Row.new wr 129 (yA0 (Zs 56))
   obtain ⟨y1,hW_⟩:∃U_:World,U_=wr.alloc (.cells (yA0 (Zs 56)).toArray 129):=⟨_,rfl⟩
   obtain ⟨q5,hq_⟩:∃q,q=wr.heap.size:=⟨_,rfl⟩
   rw [←hW_] at hb_
   rw [←hW_,←hq_] at r_
   rw [←hW_,←hq_]
   have Q1:Hid (Row y1 q5 129 (yA0 (Zs 56))∧(Loc w y1 [(q1,91,(obC (d:Nat) (a:Nat) ln bd id vb))]∧AOwn 133 64 y1 w.heap.size u3 (bkTo d a id bs k)∧AOwn 129 56 y1 w1.heap.size vp (pcs id bs))∧wr.heap.size≤q5):=⟨r_,⟨HI.out.1.later hb_,HI.out.2.1.later hb_,HI.out.2.2.later hb_⟩,by omega⟩
   have QL:Hid (w.heap.size≤wr.heap.size∧(∀b,u3.ownBlock=some b→b<wr.heap.size)∧(∀b,vp.ownBlock=some b→b<wr.heap.size)∧q1<wr.heap.size):=⟨HI.out.1.below.size,fun b e=>(HI.out.2.1.2.lt b e).2,fun b e=>(HI.out.2.2.2.lt b e).2,(HI.out.1.at 0 rfl).lt⟩
   clear r_ hb_ hW_ hq_
   simp only [Act.put,aS,aC,aZ]
   refine wa (.tmp 11) (.int .i64 (k:Nat)) ?_
   simp only [Act.put,aS,aC,aZ]
   refine wlS rfl rfl _ (yE6 ag129 (.tmp 5) (.tmp 13) rfl q5 129 rfl (yA0 pk) _ rfl (by rw [yA1];exact HX.out.2.2.2.1) Q1.out.1 (by rw [yA1,bz];exact HX.out.2.2.2.1) (yB0 _)) ?_
   have hb_:=(Ch.setRow (S:=(· = q5)) (Ch.refl _ y1) (Or.inl rfl) (yA0 pk).toArray)
   have r_:=Q1.out.1.setRow (yA0 pk)
   obtain ⟨y2,hW_⟩:∃U_:World,U_=y1.setRow q5 (yA0 pk).toArray:=⟨_,rfl⟩
   rw [←hW_] at hb_ r_ ⊢
   have Q2:Hid (Row y2 q5 129 (yA0 pk)∧(Loc w y2 [(q1,91,(obC (d:Nat) (a:Nat) ln bd id vb))]∧AOwn 133 64 y2 w.heap.size u3 (bkTo d a id bs k)∧AOwn 129 56 y2 w1.heap.size vp (pcs id bs))):=⟨r_,Q1.out.2.1.1.later2 hb_ (fun i g T cs e e'=>by rcases i with _|i <;> simp at e;obtain ⟨rfl,_,_⟩:=e;have:=QL.out.2.2.2;have:=Q1.out.2.2;omega) (by have:=Q1.out.2.2;have:=QL.out.1;omega),Q1.out.2.1.2.1.keep hb_ (fun b e e'=>by have:=QL.out.2.1 b e;have:=Q1.out.2.2;omega),Q1.out.2.1.2.2.keep hb_ (fun b e e'=>by have:=QL.out.2.2.1 b e;have:=Q1.out.2.2;omega)⟩
   clear hb_ r_ hW_ Q1
   refine wpList_nil ?_
   obtain ⟨bl,hbl⟩:∃x,x=pk++tg 111 d a k:=⟨_,rfl⟩
   have HB:Hid (bl.length=64∧∀c∈bl,c<256):=⟨by rw [hbl,List.length_append,HX.out.2.2.2.1];rfl,fun c hc=>by rw [hbl] at hc;rcases List.mem_append.1 hc with hc|hc;exact HX.out.2.2.2.2 c hc;exact tg_lt _ _ _ _ c hc⟩
   have HBE:Hid (bl=pk++tg 111 d a k):=hbl
   clear hbl
   go_upto_region 5 with fail
   refine yJ7 (S:=fun X=>Row X q5 129 (yA0 pk)∧(Loc w X [(q1,91,(obC (d:Nat) (a:Nat) ln bd id vb))]∧AOwn 133 64 X w.heap.size u3 (bkTo d a id bs k)∧AOwn 129 56 X w1.heap.size vp (pcs id bs))) 7 (by kernel_rfl) ?_
   show wpAnyU _ _ _ _ _ _ 9 (Array.replicate 9 false) _ _
   obtain ⟨X,hX⟩:∃X:World,X = { y2 with drawn:=y2.drawn+1 }:=⟨_,rfl⟩
   rw [←hX]
   have HS_:Row X q5 129 (yA0 pk)∧(Loc w X [(q1,91,(obC (d:Nat) (a:Nat) ln bd id vb))]∧AOwn 133 64 X w.heap.size u3 (bkTo d a id bs k)∧AOwn 129 56 X w1.heap.size vp (pcs id bs)):=(by rw [hX];exact ⟨Q2.out.1.later ⟨rfl,rfl,rfl,Nat.le_refl _,fun _ _=>rfl⟩ Q2.out.1.lt,Q2.out.2.1.later ⟨rfl,rfl,rfl,Nat.le_refl _,fun _ _=>rfl⟩,Q2.out.2.2.1.later ⟨rfl,rfl,rfl,Nat.le_refl _,fun _ _=>rfl⟩,Q2.out.2.2.2.later ⟨rfl,rfl,rfl,Nat.le_refl _,fun _ _=>rfl⟩⟩)
   clear hX
   refine tV 0 [7] 14 rfl rfl (gRun rfl _ fun _ h=>yA4 (.tmp 3) rfl u3 rfl) HS_ ?_
   refine tV 1 [5,6,7] 15 rfl rfl (gRun rfl _ fun _ h=>yA9 ag129 (.tmp 5) rfl q5 (0) rfl (yA0 pk) (by rw [yA1];exact HX.out.2.2.2.1) (yJ0 h.1)) HS_ ?_
   refine tV 2 [4,7] 16 rfl rfl (gRun rfl _ fun _ h=>yA9 ag91 (.tmp 1) rfl q1 (0) rfl ((obC (d:Nat) (a:Nat) ln bd id vb)) rfl (yF0 h.2.1 0 rfl)) HS_ ?_
   simp only [Act.put,aS,aC,aZ]
   refine tV 3 [4,7] 17 rfl rfl (gRun rfl _ fun _ h=>yA4 (.tmp 4) rfl (.int .i64 (k:Nat)) rfl) HS_ ?_
   simp only [Act.put,aS,aC,aZ]
   refine oneU (i:=4) (by kernel_rfl) ?_
   refine yF6 (some 18) rfl rfl rfl 61 _ (yC2 eN61 [.tmp 16,.tmp 17] _ rfl [(.agg ((obC (d:Nat) (a:Nat) ln bd id vb)).toArray),(.int .i64 (k:Nat))] rfl) ?_
   refine (tag_any d a k ln bd id vb X).mono ?_
   rintro e Y1 ⟨rfl,hb_⟩
   refine ⟨_,rfl,?_⟩
   replace HS_:Row Y1 q5 129 (yA0 pk)∧(Loc w Y1 [(q1,91,(obC (d:Nat) (a:Nat) ln bd id vb))]∧AOwn 133 64 Y1 w.heap.size u3 (bkTo d a id bs k)∧AOwn 129 56 Y1 w1.heap.size vp (pcs id bs)):=⟨HS_.1.later hb_ HS_.1.lt,HS_.2.1.later hb_,HS_.2.2.1.later hb_,HS_.2.2.2.later hb_⟩
   clear hb_
   refine ⟨fun _=>HS_,?_⟩
   simp only [Act.put,aS,aC,aZ]
   refine tV 5 [6,7] 19 rfl rfl (gRun rfl (av bl) fun _ h=>(by rw [HBE.out];exact run_blkOp (.tmp 15) (.tmp 18) rfl pk _ HX.out.2.2.2.1 (tg_length _ _ _ _) rfl rfl)) HS_ ?_
   simp only [Act.put,aS,aC,aZ]
   refine oneU (i:=6) (by kernel_rfl) ?_
   have ho_:=lit_own el93 Y1 w.heap.size HS_.2.1.below.size bl HB.out
   have hb_:=yB2 Y1 (.cells (yA0 bl).toArray 133)
   have hc_:∀j u,(yA0 bl)[j]? = some u→(Y1.alloc (.cells (yA0 bl).toArray 133)).cell? ⟨Y1.heap.size,j,none⟩=some u:=fun j u hu=>(Row.new Y1 133 (yA0 bl)).at j u hu
   refine yG8 (some 20) rfl rfl rfl (.slice (some ⟨Y1.heap.size,0,none⟩) 1 1) _ (run_litOp el93 (.tmp 19) rfl bl HB.out.1 rfl) ?_
   obtain ⟨Y2,hW_⟩:∃U_:World,U_=Y1.alloc (.cells (yA0 bl).toArray 133):=⟨_,rfl⟩
   obtain ⟨q6,hq_⟩:∃q,q=Y1.heap.size:=⟨_,rfl⟩
   rw [←hW_] at hb_ hc_ ho_ ⊢
   rw [←hq_] at ho_ hc_ ⊢
   replace HS_:Row Y2 q5 129 (yA0 pk)∧(Loc w Y2 [(q1,91,(obC (d:Nat) (a:Nat) ln bd id vb))]∧AOwn 133 64 Y2 w.heap.size u3 (bkTo d a id bs k)∧AOwn 129 56 Y2 w1.heap.size vp (pcs id bs)):=⟨HS_.1.later hb_ HS_.1.lt,HS_.2.1.later hb_,HS_.2.2.1.later hb_,HS_.2.2.2.later hb_⟩
   have HC:Hid (∀j u,(yA0 bl)[j]? = some u→Y2.cell? ⟨q6,j,none⟩=some u):=hc_
   clear ho_ hb_ hc_ hW_ hq_
   refine ⟨fun _=>HS_,?_⟩
   simp only [Act.put,aS,aC,aZ]
   refine oneU (i:=7) (by kernel_rfl) ?_
   obtain ⟨v9,Y3,hr_,ho_,hg_,_⟩:=run_app1 el93 w.heap.size u3 (bkTo d a id bs k) bl HS_.2.2.1 HB.out q6 HC.out (by rw [bkTo_length];have:=HN.out.2.1;have:=HK.out;omega) HS_.2.1.below.size
   refine yG8 (some 21) rfl rfl rfl v9 Y3 (yK0 (.tmp 14) (.tmp 20) rfl _ _ _ rfl rfl hr_) ?_
   have HS3:Row Y3 q5 129 (yA0 pk)∧(Loc w Y3 [(q1,91,(obC (d:Nat) (a:Nat) ln bd id vb))]∧AOwn 133 64 Y3 w.heap.size v9 (bkTo d a id bs k++[bl])∧AOwn 129 56 Y3 w1.heap.size vp (pcs id bs)):=⟨HS_.1.grown hg_ (fun e=>own_ne HS_.2.2.1.2 e HS_.1 (by decide)),⟨HS_.2.1.below.trans (HS_.2.2.1.belowG hg_ HS_.2.1.below.size),fun i g T cs e=>⟨(HS_.2.1.at i e).grown hg_ (fun e'=>own_ne HS_.2.2.1.2 e' (HS_.2.1.at i e) (by rcases i with _|i <;> simp at e;obtain ⟨_,rfl,_⟩:=e;decide)),HS_.2.1.ge i e⟩,HS_.2.1.ne⟩,ho_,⟨HS_.2.2.2.1,ownK HS_.2.2.2.2 fun b e=>hg_.block b (HS_.2.2.2.2.lt b e).2 (fun e'=>own_ne2 HS_.2.2.1.2 HS_.2.2.2.2 e'.symm e (by decide))⟩⟩
   clear hr_ ho_ hg_ HS_ HC
   refine ⟨fun h=>absurd (show true=false from h) (by decide),?_⟩
   simp only [Act.put,aS,aC,aZ]
   refine oneU (i:=8) (by kernel_rfl) ?_
   refine yG8 (some 3) rfl rfl rfl v9 _ (yE7 (.tmp 21) rfl v9 rfl) ?_
   refine ⟨fun h=>absurd (show true=false from h) (by decide),?_⟩
   simp only [Act.put,aS,aC,aZ]
   refine wpAnyU_done (by kernel_rfl) ?_ _
   have Q4:Hid (Loc w Y3 [(q1,91,(obC (d:Nat) (a:Nat) ln bd id vb))]∧AOwn 133 64 Y3 w.heap.size v9 (bkTo d a id bs (k+1))∧AOwn 129 56 Y3 w1.heap.size vp (pcs id bs)):=(by rw [bkTo_succ];have e9:bk d a id bs k=bl:=(by rw [HBE.out,HX.out.2.2.1];rfl);rw [e9];exact HS3.2)
   clear HS3
   go_upto_region 6 with fail
   refine wp_region_lit ?_
   refine wl rfl (.int .i64 ((k+1:Nat):Int)) _ (yC8 (.tmp 9) (.const (.int .i64 1)) rfl (k:Nat) 1 _ rfl rfl (by omega) (by omega) (by have:=HN.out.2.1;omega)) ?_
   refine wm 22 (.int .i64 ((k+1:Nat):Int)) ?_
   simp only [Act.put,aS,aC,aZ]
   refine wpList_nil ?_
   go_wp2_with fail
   exact ⟨⟨k+1,rfl,by omega,Q4.out⟩,by simp [intOf];omega⟩
  ·go_upto_region 3 with fail
   refine wp_region_lit ?_
   refine wl rfl _ _ (yB8 (.tmp 9) (.tmp 8) rfl (k:Nat) (N:Nat) rfl rfl false (decide_eq_false (by omega))) ?_
   simp only [Act.put,aS,aC,aZ]
   refine wpList_nil ?_
   go_upto_region 7 with fail
   refine wp_region_lit ?_
   refine wm 3 u3 ?_
   refine wa (.tmp 23) u3 ?_
   simp only [Act.put,aS,aC,aZ]
   refine wpList_nil ?_
   go_wp2_with fail
   rw [HPQ.out]
   refine ⟨u3,rfl,?_,HI.out.1.below⟩
   have h9:=HI.out.2.1
   rw [show k=nb bs.length by have:=HN.out.1;omega] at h9
   exact h9
end Go.Proofs.YtpkkkkomdblpoaaDoor

/- The walk of plant.New. The walks of the statements' own small functions: full, same. What holds of every plant holds behind every call; the calls, as a caller meets them. The walk of Plant.Shape. -/
import Derived.Test.YtpkkkkomdblpoaaDoorS14
import Derived.Deep.RegionWith
import Derived.Laws.BytesArg
namespace Go.Proofs.YtpkkkkomdblpoaaDoor
open Go.RowKit Go.Maps
theorem run_onePtrOp {o:Oper} {a:Act} {w:World} (x:Operand) (ho:o.op = .buildSlice 79 1 #[(0,x)]) (g:Nat) (hx:a.eval x=ptr g):(execOp a.eval o).run Tryd.prog w = .ok (.value (.slice (some ⟨w.heap.size,0,none⟩) 1 1)) (w.alloc (.cells #[ptr g] 82)):=by
 simp [execOp,ho,hx,run_onePtr]
theorem run_build69 (w:World):(Instr.build 81 #[(1,.bool true),(2,.int .i64 (-1))]).run Tryd.prog w = .ok (.agg #[.slice none 0 0,.bool true,.int .i64 (-1),.int .i64 0,.int .i64 0]) w:=by kernel_rfl
theorem IntsIn.cell {w:World} {v:Value} {l:List Int} (h:IntsIn w v l) (n:Nat) (hn:n<l.length):∃b off cap,v = .slice (some ⟨b,off,none⟩) l.length cap∧w.cell? ⟨b,off+n,none⟩=some (.int .i64 (l.getD n 0)):=by
 obtain ⟨p,cap,rfl,_,_,h⟩:=h
 rcases h with rfl|⟨b,off,rfl,h⟩
 ·simp at hn
 ·exact ⟨b,off,cap,rfl,h n hn⟩
theorem IntsIn.shape {w:World} {v:Value} {l:List Int} (h:IntsIn w v l):∃p cap,v = .slice p l.length cap∧l.length<4611686018427387904:=by
 obtain ⟨p,cap,rfl,_,h2,_⟩:=h
 exact ⟨p,cap,rfl,h2⟩
theorem sizesOk_at {l:List Int} (h:yI5 l=true) (n:Nat) (hn:n<l.length):1≤l.getD n 0∧l.getD n 0≤4096:=by
 unfold yI5 at h
 have:=List.all_eq_true.1 h _ (List.getElem_mem hn)
 simp only [Bool.and_eq_true,decide_eq_true_eq] at this
 simpa [hn] using this
set_option maxHeartbeats 1000000 in
set_option maxRecDepth 100000 in
theorem newOk_any (w:World) (c:Nat→Colour) (t:Nat) (vd vt:Value) (ds ts:List Int) (hd:IntsIn w vd ds) (ht:IntsIn w vt ts) (hok:shapeOk ds ts=true) :
  Calls Tryd.prog 9 #[.agg #[vd,vt]] w fun e w' => ∃g c' db cap gs,e = .returned (.tuple #[ptr g,.int .i64 0])∧w.heap.size≤g∧(∀b,b<w.heap.size→c' b=c b)∧PlantAt w' c' t g db cap gs (newPl ds ts)∧Below w.heap.size w w':=by
 unfold shapeOk at hok
 simp only [Bool.and_eq_true,decide_eq_true_eq] at hok
 obtain ⟨ho1,ho2,ho3,ho4⟩:=hok
 obtain ⟨B,hB⟩:∃B,B=w.heap.size:=⟨_,rfl⟩
 have HB:Hid (B=w.heap.size):=hB
 obtain ⟨pd,cd,hvd,hdl⟩:=hd.shape
 obtain ⟨pt,ct,hvt,htl⟩:=ht.shape
 subst hvd hvt
 obtain ⟨nd,hnd⟩:∃nd,nd=ds.length:=⟨_,rfl⟩
 obtain ⟨nt,hnt⟩:∃nt,nt=ts.length:=⟨_,rfl⟩
 have HND:Hid (nd=ds.length):=hnd
 have HNT:Hid (nt=ts.length):=hnt
 have HD:Hid (IntsIn w (.slice pd nd cd) ds):=by rw [hnd];exact hd
 have HT:Hid (IntsIn w (.slice pt nt ct) ts):=by rw [hnt];exact ht
 rw [←hnd,←hnt,←hB]
 rw [←hnd,←hnt] at ho1 ho2
 rw [←hnd] at hdl
 rw [←hnt] at htl
 clear hd ht hB hnd hnt
 go_enter Tryd.func9,Tryd.ntmps9
 go_upto_region 0 with fail
 refine wp_region_lit ?_
 refine yI2 (.tmp 0) rfl rfl [.slice pd nd cd,.slice pt nt ct] rfl ?_
 intro w1 r1 s1 b1
 refine yE3 (.const (.pointer none)) rfl rfl (.pointer none) rfl ?_
 refine yE3 (.const (.int .i64 0)) rfl rfl (.int .i64 0) rfl ?_
 refine wpList_nil ?_
 simp only [Act.put,aS,aC,aZ]
 rw [←HB.out] at r1 s1 b1 ⊢
 have k0:=r1.at 0 _ rfl
 have k1:=r1.at 1 _ rfl
 have HB1:Hid (Below B w w1∧w1.heap.size=B+1):=⟨b1,s1⟩
 have HR1:Hid (Row w1 B 30 [.slice pd nd cd,.slice pt nt ct]):=r1
 have HD1:Hid (IntsIn w1 (.slice pd nd cd) ds):=HD.out.later (by rw [←HB.out];exact b1)
 have HT1:Hid (IntsIn w1 (.slice pt nt ct) ts):=HT.out.later (by rw [←HB.out];exact b1)
 have cs1:=sizes_any w1 _ ds HD1.out
 have cs2:=sizes_any w1 _ ts HT1.out
 rw [ho3] at cs1
 rw [ho4] at cs2
 have CS1:Hid (Calls Tryd.prog 34 #[.slice pd nd cd] w1 fun e w'=>e = .returned (.bool true)∧w1=w'):=cs1.mono fun _ _ h=>⟨h.1,h.2.symm⟩
 have CS2:Hid (Calls Tryd.prog 34 #[.slice pt nt ct] w1 fun e w'=>e = .returned (.bool true)∧w1=w'):=cs2.mono fun _ _ h=>⟨h.1,h.2.symm⟩
 have t1:decide ((nd:Int)+(nt:Int)<1)=false:=by simp;omega
 have t2:decide (12<(nd:Int)+(nt:Int))=false:=by simp;omega
 clear r1 s1 b1 cs1 cs2
 go_upto_region 4 with (first|(go_at_call_of 34 (Value.slice pd nd cd);refine CS1.out.mono ?_;rintro e wx ⟨rfl,rfl⟩)|(go_at_call_of 34 (Value.slice pt nt ct);refine CS2.out.mono ?_;rintro e wx ⟨rfl,rfl⟩))
 refine wp_region_lit ?_
 refine yB1 rfl (.agg ([.slice none 0 0,.bool true,.int .i64 (-1),.int .i64 0,.int .i64 0]:List Value).toArray) w1 (by simp [execOp,run_build69,Act.eval]) ?_
 simp only [Act.put,aS,aC,aZ]
 refine yI2 (.tmp 35) rfl rfl [.slice none 0 0,.bool true,.int .i64 (-1),.int .i64 0,.int .i64 0] rfl ?_
 intro w2 r2 s2 b2
 refine yE3 (.tmp 36) rfl rfl (ptr w1.heap.size) rfl ?_
 refine wpList_nil ?_
 simp only [Act.put,aS,aC,aZ]
 obtain ⟨gp,hgp⟩:∃gp,gp=w1.heap.size:=⟨_,rfl⟩
 rw [←hgp] at r2 s2 b2 ⊢
 have HGP:Hid (gp=B+1):=by rw [hgp];exact HB1.out.2
 obtain ⟨c2,hc2⟩:∃c2,c2=paint c gp (t,0):=⟨_,rfl⟩
 have HN0:Hid (NewIn w2 c2 t gp B (newPl ds ts) 0):=⟨_,[],r2,by rw [hc2];exact paint_new _ _ _ _ (Nat.le_refl _),rfl,⟨rfl,Or.inl ⟨rfl,rfl⟩⟩,fun b hb=>(by cases hb),fun i hi=>(by omega)⟩
 have HR2:Hid (Row w2 B 30 [.slice pd nd cd,.slice pt nt ct]):=HR1.out.later b2 (by have:=HGP.out;omega)
 have HB2:Hid (Below B w w2):=HB1.out.1.trans (b2.mono (by have:=HGP.out;omega))
 have HC2:Hid (∀b,b<B→c2 b=c b):=fun b hb=>by rw [hc2];exact yH9 _ _ _ _ (by have:=HGP.out;omega)
 have k0:=HR2.out.at 0 _ rfl
 clear r2 s2 b2 hgp hc2 k1 CS1 CS2 t1 t2 HR1
 go_wp2
 go_loopw [40] (fun ix W => ∃n:Nat,n≤nd∧ix = .int .i64 n∧∃c',(∀b,b<B→c' b=c b)∧NewIn W c' t gp B (newPl ds ts) n∧Row W B 30 [.slice pd nd cd,.slice pt nt ct]∧Below B w W) (fun ix _=>nd - (intOf ix).toNat)
 case atStart=>exact ⟨0,Nat.zero_le _,rfl,c2,HC2.out,HN0.out,HR2.out,HB2.out⟩
 case round =>
  obtain ⟨n,hn,rfl,c',hcc,hin,hrB,hbw⟩:=hrel
  clear k0 HN0
  have HRB:Hid (Row wr B 30 [.slice pd nd cd,.slice pt nt ct]):=hrB
  clear hrB
  by_cases hlt:n<nd
  ·obtain ⟨bd,offd,cd',hv,hcell⟩:=HD.out.cell n (by rw [←HND.out];exact hlt)
   injection hv with hv1 hv2 hv3
   subst hv1
   have hsz:=sizesOk_at ho3 n (by rw [←HND.out];exact hlt)
   obtain ⟨zn,hzn⟩:∃zn:Nat,ds.getD n 0=(zn:Int):=⟨(ds.getD n 0).toNat,by omega⟩
   rw [hzn] at hcell
   have cn:wr.cell? ⟨bd,offd+n,none⟩=some (.int .i64 (zn:Int)):=cell_later (by rw [←HB.out];exact hbw) hcell
   have HTS:Hid ((newPl ds ts).tape n=false∧(newPl ds ts).size n=zn):=by
    have:=newPl_disk ds ts n (by rw [←HND.out];exact hlt)
    rw [hzn] at this
    exact this
   clear hcell hzn hsz hv2 hv3
   obtain ⟨v,gl,hr,hcg,hgl,ho,hob,hdv⟩:=hin
   have c0:=hr.at 0 _ rfl
   have HIN:Hid (Row wr gp 81 [v,.bool true,.int .i64 (-1),.int .i64 0,.int .i64 0]∧c' gp=(t,0)∧gl.length=n∧wr.ownsRow B 82 1 v (n) (gl.map ptr)∧(∀b,v.ownBlock=some b→c' b=(t,0))∧∀i,i<n→DevIn wr c' (t,i+1) (gl.getD i 0) ((newPl ds ts).tape i) ((newPl ds ts).size i) (fresh ((newPl ds ts).tape i) ((newPl ds ts).size i)) []):=⟨hr,hcg,hgl,ho,hob,hdv⟩
   have HBW:Hid (B≤wr.heap.size):=by have:=hbw.size;rw [HB.out];exact this
   have HBL:Hid (Below B w wr∧(∀b,b<B→c' b=c b)):=⟨hbw,hcc⟩
   clear hr hcg hgl ho hob hdv hbw hcc
   go_upto_region 8 with fail
   refine wp_region_any (by kernel_rfl) ?_
   show wpAny _ _ _ _ 12 (Array.replicate 12 false) _ (wr.drewN 1)
   refine takeA (i:=0) (some 44) rfl rfl (by kernel_rfl) (by kernel_rfl) (by kernel_rfl) (fun _ _ _ h=>h) (yMove rfl (.tmp 5) rfl (ptr gp) rfl) ?_
   simp only [Act.put,aS,aC,aZ]
   refine takeA (i:=1) (some 45) rfl rfl (by kernel_rfl) (by kernel_rfl) (by kernel_rfl) (fun _ _ _ h=>h) (yMove rfl (.tmp 5) rfl (ptr gp) rfl) ?_
   simp only [Act.put,aS,aC,aZ]
   refine takeA (i:=2) (some 46) rfl rfl (by kernel_rfl) (by kernel_rfl) (by kernel_rfl) (fun _ _ _ h=>h) (yNil rfl (.tmp 45) rfl _ rfl) ?_
   simp only [Act.put,aS,aC,aZ]
   refine takeA (i:=3) (some 47) rfl rfl (by kernel_rfl) (by kernel_rfl) (by kernel_rfl) (fun _ _ _ h=>h) (yField f69_0 rfl (.tmp 46) rfl gp 0 rfl) ?_
   simp only [Act.put,aS,aC,aZ]
   refine takeA (i:=5) (some 49) rfl rfl (by kernel_rfl) (by kernel_rfl) (by kernel_rfl) (fun _ _ _ h=>h) (yMove rfl (.tmp 7) rfl (.int .i64 (zn:Int)) rfl) ?_
   simp only [Act.put,aS,aC,aZ]
   have hcall:=newDev_any (wr.drewN 1) c' (t,n+1) zn false
   refine anyThree (i:=4) (j:=6) (k:=7) 48 50 51 rfl rfl rfl (by decide) (by decide) (by decide) (by decide) (by kernel_rfl) (by kernel_rfl) (by kernel_rfl) (by kernel_rfl) (by kernel_rfl)
    v (fun u W' => ∃gd,u=ptr gd∧wr.heap.size≤gd∧DevIn W' (paint c' wr.heap.size (t,n+1)) (t,n+1) gd false zn (fresh false zn) []∧Below wr.heap.size wr W')
    (fun u s W'' => ∃gd W',u=ptr gd∧wr.heap.size≤gd∧DevIn W' (paint c' wr.heap.size (t,n+1)) (t,n+1) gd false zn (fresh false zn) []∧Below wr.heap.size wr W'∧s = .slice (some ⟨W'.heap.size,0,none⟩) 1 1∧W''=W'.alloc (.cells #[ptr gd] 82)) ?_ ?_ ?_ ?_ ?_ ?_ ?_ ?_
   ·exact yA7 one67 (.tmp 47) rfl gp 0 rfl _ c0
   ·rintro u W' ⟨gd,rfl,_,_,hb'⟩
    exact yA7 one67 (.tmp 47) rfl gp 0 rfl _ (cell_later hb' c0)
   ·rintro u W' s W'' _ ⟨gd,W1,rfl,_,_,hb',rfl,rfl⟩
    exact yA7 one67 (.tmp 47) rfl gp 0 rfl _ (cell_later (hb'.trans ((Below.refl _ W1).alloc hb'.size _)) c0)
   ·intro R hR
    refine yG9 (some 50) rfl rfl rfl 35 _ (yC2 en38 [.tmp 49,.const (.bool false)] _ rfl [.int .i64 (zn:Int),.bool false] rfl) (hcall.mono ?_)
    rintro e W' ⟨gd,rfl,hgd,hd,hb'⟩
    exact ⟨_,rfl,hR _ _ ⟨gd,rfl,hgd,hd,(Below.drewN (Below.refl wr.heap.size wr) 1).trans hb'⟩⟩
   ·intro R hR
    refine yG9 (some 50) rfl rfl rfl 35 _ (yC2 en38 [.tmp 49,.const (.bool false)] _ rfl [.int .i64 (zn:Int),.bool false] rfl) (hcall.mono ?_)
    rintro e W' ⟨gd,rfl,hgd,hd,hb'⟩
    exact ⟨_,rfl,hR _ _ ⟨gd,rfl,hgd,hd,(Below.drewN (Below.refl wr.heap.size wr) 1).trans hb'⟩⟩
   ·rintro u W' ⟨gd,rfl,hgd,hd,hb'⟩ R hR
    exact yG0 (some 51) rfl rfl rfl _ _ (run_onePtrOp (.tmp 50) rfl gd rfl) (hR _ _ ⟨gd,W',rfl,hgd,hd,hb',rfl,rfl⟩)
   ·rintro u W' ⟨gd,rfl,hgd,hd,hb'⟩ R hR
    exact yG0 (some 51) rfl rfl rfl _ _ (run_onePtrOp (.tmp 50) rfl gd rfl) (hR _ _ ⟨gd,W',rfl,hgd,hd,hb',rfl,rfl⟩)
   rintro u W0 s W6 _ ⟨gd,W5,rfl,hgd,hd5,hb5,rfl,hW6⟩
   simp only [Act.put,aS,aC,aZ]
   refine anySeqD 8 (by kernel_rfl) rfl ?_
   simp only [List.drop_succ_cons,List.drop_zero]
   obtain ⟨hr,hcg,hgl,ho,hob,hdv⟩:=HIN.out
   have s6:W6.heap.size=W5.heap.size+1:=by rw [hW6];simp
   have b6:Below wr.heap.size wr W6:=by rw [hW6];exact hb5.trans ((Below.refl _ W5).alloc hb5.size _)
   have r6:Row W6 W5.heap.size 82 [ptr gd]:=by rw [hW6];exact Row.new W5 82 [ptr gd]
   obtain ⟨i0,hi0,hz0,hz1,hz2⟩:=info_parts info70
   refine wpList_append_own_at _ rfl (.tmp 48) (.tmp 51) 79 rfl B 82 i0 _ 1 8 und67 hi0 hz0 hz1 hz2 rfl (by decide) v (n) (gl.map ptr) rfl (ownsRow_below ho b6) ⟨W5.heap.size,0,none⟩ 1 1 [ptr gd] rfl rfl ?cells (by intro z hz;obtain rfl:=List.mem_singleton.1 hz;rfl) (by unfold maxLen;omega) (by omega) (by have:=HBW.out;have:=b6.size;omega) ?_
   case cells =>
    intro k z hz
    rw [yB7,Nat.zero_add]
    exact r6.at k z hz
   intro v7 W7 o7 g7 n7 l7
   simp only [Act.put,aS,aC,aZ]
   have hnd:DevIn W5 (paint c' wr.heap.size (t,n+1)) (t,n+1) gd ((newPl ds ts).tape (n)) ((newPl ds ts).size (n)) (fresh ((newPl ds ts).tape (n)) ((newPl ds ts).size (n))) []:=by
    rw [HTS.out.1,HTS.out.2]
    exact hd5
   obtain ⟨hN,hcc2,hr7,hrest⟩:=new_step hr hcg hgl ho hob hdv hnd hb5 o7 (by rw [←hW6];exact g7) (by rw [←hW6];exact l7)
   have hv7:v7.cells=#[v7]∧v7.oneCell'=true:=by
    obtain ⟨_,h⟩:=o7
    rcases h with ⟨rfl,_⟩|⟨_,_,_,rfl,_⟩
    ·exact ⟨rfl,rfl⟩
    ·exact ⟨rfl,rfl⟩
   have HB7:Hid (Below B w W7):=by
    refine (HBL.out.1.trans (b6.mono HBW.out)).trans ((Below.refl B W6).grown g7 (by have:=HBW.out;have:=b6.size;omega) fun k hk => ?_)
    exact (ho.lt k hk).1
   refine yE8 (.tmp 44) rfl rfl _ rfl ?_
   simp only [Act.put,aS,aC,aZ]
   refine yF3 f69_0 (.tmp 53) rfl rfl gp 0 rfl ?_
   simp only [Act.put,aS,aC,aZ]
   refine yG7 size67 (.tmp 54) (.tmp 52) rfl rfl rfl gp (0+0) 81 rfl v7 _ rfl hv7.1 hv7.2 hr7 (by simp) ?_
   refine wpList_nil ?_
   obtain ⟨W8,hW8⟩:∃W8,W8=W7.setRow gp ([v7,.bool true,.int .i64 (-1),.int .i64 0,.int .i64 0]:List Value).toArray:=⟨_,rfl⟩
   have e8:W7.setRow gp (([v,.bool true,.int .i64 (-1),.int .i64 0,.int .i64 0]:List Value).set (0+0) v7).toArray=W8:=by rw [hW8];rfl
   rw [e8]
   have HN8:Hid (NewIn W8 (paint (paint c' wr.heap.size (t,n+1)) W5.heap.size (t,0)) t gp B (newPl ds ts) (n+1)):=by rw [hW8];exact hN
   have hrb8:=hrest B 30 _ (by decide) (by have:=HGP.out;omega) HRB.out
   rw [←hW8] at hrb8
   have HB8:Hid (Below B w W8):=by
    rw [hW8]
    exact HB7.out.trans ⟨rfl,rfl,rfl,by simp [World.setRow],fun k hk=>Go.setRow_other W7 gp k _ (by have:=HGP.out;omega)⟩
   have HC8:Hid (∀b,b<B→paint (paint c' wr.heap.size (t,n+1)) W5.heap.size (t,0) b=c b):=fun b hb=>(hcc2 b (by have:=HBW.out;omega)).trans (HBL.out.2 b hb)
   clear hN hcc2 hrest hr7 hv7 hr ho hob hdv hd5 hnd hb5 b6 r6 o7 g7 l7 e8 hW8 hW6 c0 hcall
   go_wp2
   exact ⟨⟨n+1,by omega,by go_num,_,HC8.out,HN8.out,hrb8,HB8.out⟩,by simp [intOf];omega⟩
  ·have e:n=nd:=by omega
   subst e
   have k1:=HRB.out.at 1 _ rfl
   have HN1:Hid (NewIn wr c' t gp B (newPl ds ts) (n+0)):=hin
   have HB3:Hid (Below B w wr):=hbw
   have HC3:Hid (∀b,b<B→c' b=c b):=hcc
   clear hin hbw hcc
   go_wp2
   go_loopw [59] (fun ix W => ∃j:Nat,j≤nt∧ix = .int .i64 j∧∃c',(∀b,b<B→c' b=c b)∧NewIn W c' t gp B (newPl ds ts) (n+j)∧Row W B 30 [.slice pd n cd,.slice pt nt ct]∧Below B w W) (fun ix _=>nt - (intOf ix).toNat)
   case atStart=>exact ⟨0,Nat.zero_le _,rfl,c',HC3.out,HN1.out,HRB.out,HB3.out⟩
   case round =>
    obtain ⟨j,hj,rfl,c',hcc,hin,hrB,hbw⟩:=hrel
    clear k1 HN1
    have HRB:Hid (Row wr B 30 [.slice pd n cd,.slice pt nt ct]):=hrB
    clear hrB
    by_cases hlt:j<nt
    ·obtain ⟨bd,offd,cd',hv,hcell⟩:=HT.out.cell j (by rw [←HNT.out];exact hlt)
     injection hv with hv1 hv2 hv3
     subst hv1
     have hsz:=sizesOk_at ho4 j (by rw [←HNT.out];exact hlt)
     obtain ⟨zn,hzn⟩:∃zn:Nat,ts.getD j 0=(zn:Int):=⟨(ts.getD j 0).toNat,by omega⟩
     rw [hzn] at hcell
     have cn:wr.cell? ⟨bd,offd+j,none⟩=some (.int .i64 (zn:Int)):=cell_later (by rw [←HB.out];exact hbw) hcell
     have HTS:Hid ((newPl ds ts).tape (n+j)=true∧(newPl ds ts).size (n+j)=zn):=by
      have:=newPl_tape ds ts j (by rw [←HNT.out];exact hlt)
      rw [hzn,←HND.out] at this
      exact this
     clear hcell hzn hsz hv2 hv3
     obtain ⟨v,gl,hr,hcg,hgl,ho,hob,hdv⟩:=hin
     have c0:=hr.at 0 _ rfl
     have HIN:Hid (Row wr gp 81 [v,.bool true,.int .i64 (-1),.int .i64 0,.int .i64 0]∧c' gp=(t,0)∧gl.length=n+j∧wr.ownsRow B 82 1 v (n+j) (gl.map ptr)∧(∀b,v.ownBlock=some b→c' b=(t,0))∧∀i,i<n+j→DevIn wr c' (t,i+1) (gl.getD i 0) ((newPl ds ts).tape i) ((newPl ds ts).size i) (fresh ((newPl ds ts).tape i) ((newPl ds ts).size i)) []):=⟨hr,hcg,hgl,ho,hob,hdv⟩
     have HBW:Hid (B≤wr.heap.size):=by have:=hbw.size;rw [HB.out];exact this
     have HBL:Hid (Below B w wr∧(∀b,b<B→c' b=c b)):=⟨hbw,hcc⟩
     clear hr hcg hgl ho hob hdv hbw hcc
     go_upto_region 13 with fail
     refine wp_region_any (by kernel_rfl) ?_
     show wpAny _ _ _ _ 12 (Array.replicate 12 false) _ (wr.drewN 1)
     refine takeA (i:=0) (some 63) rfl rfl (by kernel_rfl) (by kernel_rfl) (by kernel_rfl) (fun _ _ _ h=>h) (yMove rfl (.tmp 5) rfl (ptr gp) rfl) ?_
     simp only [Act.put,aS,aC,aZ]
     refine takeA (i:=1) (some 64) rfl rfl (by kernel_rfl) (by kernel_rfl) (by kernel_rfl) (fun _ _ _ h=>h) (yMove rfl (.tmp 5) rfl (ptr gp) rfl) ?_
     simp only [Act.put,aS,aC,aZ]
     refine takeA (i:=2) (some 65) rfl rfl (by kernel_rfl) (by kernel_rfl) (by kernel_rfl) (fun _ _ _ h=>h) (yNil rfl (.tmp 64) rfl _ rfl) ?_
     simp only [Act.put,aS,aC,aZ]
     refine takeA (i:=3) (some 66) rfl rfl (by kernel_rfl) (by kernel_rfl) (by kernel_rfl) (fun _ _ _ h=>h) (yField f69_0 rfl (.tmp 65) rfl gp 0 rfl) ?_
     simp only [Act.put,aS,aC,aZ]
     refine takeA (i:=5) (some 68) rfl rfl (by kernel_rfl) (by kernel_rfl) (by kernel_rfl) (fun _ _ _ h=>h) (yMove rfl (.tmp 9) rfl (.int .i64 (zn:Int)) rfl) ?_
     simp only [Act.put,aS,aC,aZ]
     have hcall:=newDev_any (wr.drewN 1) c' (t,n+j+1) zn true
     refine anyThree (i:=4) (j:=6) (k:=7) 67 69 70 rfl rfl rfl (by decide) (by decide) (by decide) (by decide) (by kernel_rfl) (by kernel_rfl) (by kernel_rfl) (by kernel_rfl) (by kernel_rfl)
      v (fun u W' => ∃gd,u=ptr gd∧wr.heap.size≤gd∧DevIn W' (paint c' wr.heap.size (t,n+j+1)) (t,n+j+1) gd true zn (fresh true zn) []∧Below wr.heap.size wr W')
      (fun u s W'' => ∃gd W',u=ptr gd∧wr.heap.size≤gd∧DevIn W' (paint c' wr.heap.size (t,n+j+1)) (t,n+j+1) gd true zn (fresh true zn) []∧Below wr.heap.size wr W'∧s = .slice (some ⟨W'.heap.size,0,none⟩) 1 1∧W''=W'.alloc (.cells #[ptr gd] 82)) ?_ ?_ ?_ ?_ ?_ ?_ ?_ ?_
     ·exact yA7 one67 (.tmp 66) rfl gp 0 rfl _ c0
     ·rintro u W' ⟨gd,rfl,_,_,hb'⟩
      exact yA7 one67 (.tmp 66) rfl gp 0 rfl _ (cell_later hb' c0)
     ·rintro u W' s W'' _ ⟨gd,W1,rfl,_,_,hb',rfl,rfl⟩
      exact yA7 one67 (.tmp 66) rfl gp 0 rfl _ (cell_later (hb'.trans ((Below.refl _ W1).alloc hb'.size _)) c0)
     ·intro R hR
      refine yG9 (some 69) rfl rfl rfl 35 _ (yC2 en38 [.tmp 68,.const (.bool true)] _ rfl [.int .i64 (zn:Int),.bool true] rfl) (hcall.mono ?_)
      rintro e W' ⟨gd,rfl,hgd,hd,hb'⟩
      exact ⟨_,rfl,hR _ _ ⟨gd,rfl,hgd,hd,(Below.drewN (Below.refl wr.heap.size wr) 1).trans hb'⟩⟩
     ·intro R hR
      refine yG9 (some 69) rfl rfl rfl 35 _ (yC2 en38 [.tmp 68,.const (.bool true)] _ rfl [.int .i64 (zn:Int),.bool true] rfl) (hcall.mono ?_)
      rintro e W' ⟨gd,rfl,hgd,hd,hb'⟩
      exact ⟨_,rfl,hR _ _ ⟨gd,rfl,hgd,hd,(Below.drewN (Below.refl wr.heap.size wr) 1).trans hb'⟩⟩
     ·rintro u W' ⟨gd,rfl,hgd,hd,hb'⟩ R hR
      exact yG0 (some 70) rfl rfl rfl _ _ (run_onePtrOp (.tmp 69) rfl gd rfl) (hR _ _ ⟨gd,W',rfl,hgd,hd,hb',rfl,rfl⟩)
     ·rintro u W' ⟨gd,rfl,hgd,hd,hb'⟩ R hR
      exact yG0 (some 70) rfl rfl rfl _ _ (run_onePtrOp (.tmp 69) rfl gd rfl) (hR _ _ ⟨gd,W',rfl,hgd,hd,hb',rfl,rfl⟩)
     rintro u W0 s W6 _ ⟨gd,W5,rfl,hgd,hd5,hb5,rfl,hW6⟩
     simp only [Act.put,aS,aC,aZ]
     refine anySeqD 8 (by kernel_rfl) rfl ?_
     simp only [List.drop_succ_cons,List.drop_zero]
     obtain ⟨hr,hcg,hgl,ho,hob,hdv⟩:=HIN.out
     have s6:W6.heap.size=W5.heap.size+1:=by rw [hW6];simp
     have b6:Below wr.heap.size wr W6:=by rw [hW6];exact hb5.trans ((Below.refl _ W5).alloc hb5.size _)
     have r6:Row W6 W5.heap.size 82 [ptr gd]:=by rw [hW6];exact Row.new W5 82 [ptr gd]
     obtain ⟨i0,hi0,hz0,hz1,hz2⟩:=info_parts info70
     refine wpList_append_own_at _ rfl (.tmp 67) (.tmp 70) 79 rfl B 82 i0 _ 1 8 und67 hi0 hz0 hz1 hz2 rfl (by decide) v (n+j) (gl.map ptr) rfl (ownsRow_below ho b6) ⟨W5.heap.size,0,none⟩ 1 1 [ptr gd] rfl rfl ?cells (by intro z hz;obtain rfl:=List.mem_singleton.1 hz;rfl) (by unfold maxLen;omega) (by omega) (by have:=HBW.out;have:=b6.size;omega) ?_
     case cells =>
      intro k z hz
      rw [yB7,Nat.zero_add]
      exact r6.at k z hz
     intro v7 W7 o7 g7 n7 l7
     simp only [Act.put,aS,aC,aZ]
     have hnd:DevIn W5 (paint c' wr.heap.size (t,n+j+1)) (t,n+j+1) gd ((newPl ds ts).tape (n+j)) ((newPl ds ts).size (n+j)) (fresh ((newPl ds ts).tape (n+j)) ((newPl ds ts).size (n+j))) []:=by
      rw [HTS.out.1,HTS.out.2]
      exact hd5
     obtain ⟨hN,hcc2,hr7,hrest⟩:=new_step hr hcg hgl ho hob hdv hnd hb5 o7 (by rw [←hW6];exact g7) (by rw [←hW6];exact l7)
     have hv7:v7.cells=#[v7]∧v7.oneCell'=true:=by
      obtain ⟨_,h⟩:=o7
      rcases h with ⟨rfl,_⟩|⟨_,_,_,rfl,_⟩
      ·exact ⟨rfl,rfl⟩
      ·exact ⟨rfl,rfl⟩
     have HB7:Hid (Below B w W7):=by
      refine (HBL.out.1.trans (b6.mono HBW.out)).trans ((Below.refl B W6).grown g7 (by have:=HBW.out;have:=b6.size;omega) fun k hk => ?_)
      exact (ho.lt k hk).1
     refine yE8 (.tmp 63) rfl rfl _ rfl ?_
     simp only [Act.put,aS,aC,aZ]
     refine yF3 f69_0 (.tmp 72) rfl rfl gp 0 rfl ?_
     simp only [Act.put,aS,aC,aZ]
     refine yG7 size67 (.tmp 73) (.tmp 71) rfl rfl rfl gp (0+0) 81 rfl v7 _ rfl hv7.1 hv7.2 hr7 (by simp) ?_
     refine wpList_nil ?_
     obtain ⟨W8,hW8⟩:∃W8,W8=W7.setRow gp ([v7,.bool true,.int .i64 (-1),.int .i64 0,.int .i64 0]:List Value).toArray:=⟨_,rfl⟩
     have e8:W7.setRow gp (([v,.bool true,.int .i64 (-1),.int .i64 0,.int .i64 0]:List Value).set (0+0) v7).toArray=W8:=by rw [hW8];rfl
     rw [e8]
     have HN8:Hid (NewIn W8 (paint (paint c' wr.heap.size (t,n+j+1)) W5.heap.size (t,0)) t gp B (newPl ds ts) (n+j+1)):=by rw [hW8];exact hN
     have hrb8:=hrest B 30 _ (by decide) (by have:=HGP.out;omega) HRB.out
     rw [←hW8] at hrb8
     have HB8:Hid (Below B w W8):=by
      rw [hW8]
      exact HB7.out.trans ⟨rfl,rfl,rfl,by simp [World.setRow],fun k hk=>Go.setRow_other W7 gp k _ (by have:=HGP.out;omega)⟩
     have HC8:Hid (∀b,b<B→paint (paint c' wr.heap.size (t,n+j+1)) W5.heap.size (t,0) b=c b):=fun b hb=>(hcc2 b (by have:=HBW.out;omega)).trans (HBL.out.2 b hb)
     clear hN hcc2 hrest hr7 hv7 hr ho hob hdv hd5 hnd hb5 b6 r6 o7 g7 l7 e8 hW8 hW6 c0 hcall
     go_wp2
     exact ⟨⟨j+1,by omega,by go_num,_,HC8.out,HN8.out,hrb8,HB8.out⟩,by simp [intOf];omega⟩
    ·have e:j=nt:=by omega
     subst e
     have HE:Hid (∃db cap gs,PlantAt wr c' t gp db cap gs (newPl ds ts)):=by
      refine new_done (B:=B) ?_ (by have:=HND.out;have:=HNT.out;omega)
      rw [←HND.out,←HNT.out]
      exact hin
     have HB4:Hid (Below B w wr):=hbw
     have HC4:Hid (∀b,b<B→c' b=c b):=hcc
     clear hin hbw hcc
     go_wp2
     go_ret2
     obtain ⟨db,cap,gs,hP⟩:=HE.out
     exact ⟨gp,c',db,cap,gs,rfl,by have:=HGP.out;omega,HC4.out,hP,HB4.out⟩
end Go.Proofs.YtpkkkkomdblpoaaDoor

namespace Go.Proofs.YtpkkkkomdblpoaaDoor
open Go.RowKit Go.Maps
theorem yA2.lt256 {w:World} {v:Value} {cs:List Nat} (h:yA2 w v cs):∀c∈cs,c<256:=by
 intro x hx
 obtain ⟨p,cap,rfl,_,h⟩:=h
 rcases h with rfl|⟨b,off,rfl,_,hb⟩
 ·simp at hx
 ·obtain ⟨j,hj,rfl⟩:=List.getElem_of_mem hx
  have:=hb j
  simpa [hj] using this
end Go.Proofs.YtpkkkkomdblpoaaDoor

namespace Go.Proofs.YtpkkkkomdblpoaaDoor
open Go.RowKit Go.Maps
theorem Pl.append_wf {m:Pl} (h:m.WF) (d:Int) (s:List Nat) (hs:∀c∈s,c<256):(m.append d s).2.2.WF:=by
 unfold Pl.append
 split
 ·exact h
 ·split
  ·exact h
  ·rename_i hh
   split
   ·exact h
   ·rename_i hl
    split
    ·exact h
    ·rename_i hfull
     split
     ·exact Pl.step_wf h
     ·rename_i hf
      simp only [Classical.not_not] at hh hl
      obtain ⟨hd,ht⟩:=hh
      exact Pl.wait_wf h hf _ _ s (by have:=hd.1;have:=hd.2;omega) (by omega) ⟨hl,hs⟩ (fun _=>⟨rfl,by omega⟩)
theorem layAll_sec {tape:Bool} {fl:List (List Nat)} {l:List Wr} (h1:∀s∈fl,Sec s) (h2:∀x∈l,Sec x.b):∀s∈layAll tape fl l,Sec s:=by
 induction l generalizing fl with
 | nil=>exact h1
 | cons x l ih =>
  have e:layAll tape fl (x :: l)=layAll tape (lay tape fl x.place x.b) l:=rfl
  rw [e]
  refine ih (fun s hs => ?_) (fun y hy=>h2 y (by simp [hy]))
  unfold lay at hs
  split at hs
  ·rcases List.mem_append.1 hs with hs|hs
   ·exact h1 s hs
   ·rw [List.mem_singleton.1 hs]
    exact h2 x (by simp)
  ·rcases List.mem_or_eq_of_mem_set hs with hs|hs
   ·exact h1 s hs
   ·rw [hs]
    exact h2 x (by simp)
theorem Pl.flushed_wf {m:Pl} (h:m.WF) (i:Nat):(m.flushed i).WF:=by
 have hsub:∀x∈(m.flushed i).wts,x∈m.wts:=fun x hx=>(List.mem_filter.1 hx).1
 refine ⟨h.few,h.pos,h.sizes,fun j => ?_,fun j hj ht => ?_,fun j hj ht => ?_,fun x hx=>h.wsec x (hsub x hx),fun x hx=>h.wdev x (hsub x hx),h.order.sublist List.filter_sublist,h.count,h.fuse0,h.fuse1,h.clock0,h.clock1⟩
 ·show ∀s∈upd m.fl i _ j,_
  unfold upd
  split
  ·rename_i e
   exact layAll_sec (h.secs i) (fun x hx=>h.wsec x (Pl.wt_mem hx).1)
  ·exact h.secs j
 ·show (upd m.fl i _ j).length=m.size j
  unfold upd
  split
  ·rename_i e
   subst e
   rw [layAll_length,show m.tape j=false from ht]
   exact h.disk j hj ht
  ·exact h.disk j hj ht
 ·rw [Pl.wt_flushed]
  have ht':m.tape j=true:=ht
  have hh:=h.tapes j hj ht'
  by_cases e:j=i
  ·subst e
   rw [if_pos rfl]
   have e1:((m.flushed j).fl j).length=(m.fl j).length+(m.wt j).length:=by
    show (upd m.fl j _ j).length=_
    unfold upd
    rw [if_pos rfl,layAll_length,ht']
    simp
   rw [e1]
   exact ⟨by simp only [List.length_nil,Nat.add_zero];exact hh.1,fun k x hx=>by simp at hx⟩
  ·rw [if_neg e]
   have e1:(m.flushed i).fl j=m.fl j:=by show upd m.fl i _ j=_;simp [upd,e]
   rw [e1]
   exact hh
theorem Pl.flush_wf {m:Pl} (h:m.WF) (d:Int):(m.flush d).2.WF:=by
 unfold Pl.flush
 split
 ·exact h
 ·split
  ·exact h
  ·split
   ·exact Pl.step_wf h
   ·exact Pl.flushed_wf (Pl.step_wf h) _
theorem Pl.boot_wf {m:Pl} (h:m.WF) (ks:List Int):(m.boot ks).WF:=by
 have hp:=boot_place h ks m.wts.length (Nat.le_refl _)
 have hout:∀i,¬ i<m.n→(yC4 m ks m.wts.length).1 i=m.fl i:=by
  intro i hi
  have:∀n,n≤m.wts.length→(yC4 m ks n).1 i=m.fl i:=by
   intro n
   induction n with
   | zero=>intro _;rfl
   | succ n ih =>
    intro hn
    obtain ⟨x,hx⟩:∃x,m.wts[n]? = some x:=⟨_,List.getElem?_eq_getElem (by omega)⟩
    have hxd:=(h.wdev x (List.mem_of_getElem? hx)).1
    rw [bootTo_succ m ks n x hx]
    unfold yK6
    split
    ·exact ih (by omega)
    ·have hne:i≠x.dev:=fun e=>hi (by rw [e];exact hxd)
     show upd _ _ _ i=_
     simp only [upd,if_neg hne]
     exact ih (by omega)
  exact this _ (Nat.le_refl _)
 refine ⟨h.few,h.pos,h.sizes,fun i => ?_,fun i hi ht=>(hp i hi).2.1 ht,fun i hi ht => ?_,fun x hx=>(by cases hx),fun x hx=>(by cases hx),List.Pairwise.nil,h.count,(by decide:(-9223372036854775808:Int) ≤ -1),(by decide:(-1:Int)≤9223372036854775807),h.clock0,h.clock1⟩
 ·show ∀s∈(yC4 m ks m.wts.length).1 i,_
  by_cases hi:i<m.n
  ·exact (hp i hi).1
  ·rw [hout i hi]
   exact h.secs i
 ·have h4:=(hp i hi).2.2.2 ht
  rw [List.take_length] at h4
  have:=(h.tapes i hi ht).1
  have e:(m.boot ks).wt i=[]:=rfl
  rw [e]
  exact ⟨by show ((yC4 m ks m.wts.length).1 i).length+0≤m.size i;unfold Pl.wt at this;omega,fun j x hx=>by simp at hx⟩
theorem Pl.fuse_wf {m:Pl} (h:m.WF) (n:Int) (h0 : -9223372036854775808≤n) (h1:n≤9223372036854775807):(m.fuseTo n).WF:=by
 unfold Pl.fuseTo
 split
 ·exact ⟨h.few,h.pos,h.sizes,h.secs,h.disk,h.tapes,h.wsec,h.wdev,h.order,h.count,h0,h1,h.clock0,h.clock1⟩
 ·exact h
theorem newPl_wf (ds ts:List Int) (hok:shapeOk ds ts=true) (hd0:ds=[]):(newPl ds ts).WF:=by
 unfold shapeOk at hok
 simp only [Bool.and_eq_true,decide_eq_true_eq] at hok
 obtain ⟨ho1,ho2,ho3,ho4⟩:=hok
 have hn:(newPl ds ts).sh.length=ds.length+ts.length:=newPl_n ds ts
 have hsz:∀i,i<(newPl ds ts).sh.length→1≤(newPl ds ts).size i∧(newPl ds ts).size i≤4096:=fun i hi=>by
  rw [hn] at hi
  by_cases h:i<ds.length
  ·have:=sizesOk_at ho3 i h
   rw [(newPl_disk ds ts i h).2]
   omega
  ·have h':i - ds.length<ts.length:=by omega
   have:=sizesOk_at ho4 _ h'
   have e:=(newPl_tape ds ts _ h').2
   rw [show ds.length+(i - ds.length)=i by omega] at e
   rw [e]
   omega
 refine ⟨by omega,by omega,hsz,fun i s hs => ?_,fun i hi ht => ?_,fun i hi ht => ?_,fun x hx=>(by cases hx),fun x hx=>(by cases hx),List.Pairwise.nil,fun i hi=>by subst hd0;have h9:=(newPl_tape [] ts i (by rw [hn] at hi;simpa using hi)).1;simpa using h9,(by decide:(-9223372036854775808:Int) ≤ -1),(by decide:(-1:Int)≤9223372036854775807),(by decide:(0:Int)≤0),(by decide:(0:Int)≤1099511627776)⟩
 ·have hs':s∈fresh ((newPl ds ts).tape i) ((newPl ds ts).size i):=hs
  unfold fresh at hs'
  split at hs'
  ·cases hs'
  ·rw [(List.mem_replicate.1 hs').2]
   exact sec_zero
 ·show (fresh ((newPl ds ts).tape i) ((newPl ds ts).size i)).length=_
  rw [ht]
  simp [fresh]
 ·have e:(newPl ds ts).fl i=[]:=by
   show fresh ((newPl ds ts).tape i) ((newPl ds ts).size i)=[]
   rw [ht]
   rfl
  have e2:(newPl ds ts).wt i=[]:=rfl
  rw [e,e2]
  exact ⟨by simp,fun j x hx=>by simp at hx⟩
def Live (w:World) (c:Nat→Colour) (t g:Nat) (m:Pl):Prop:=PlantIn w c t g m∧m.WF∧∀b,w.heap.size≤b→(c b).1≠t
def Next (w:World) (c:Nat→Colour) (t g:Nat) (m':Pl) (w':World):Prop := ∃c',(∀b,b<w.heap.size→c' b=c b)∧(∀b,w.heap.size≤b→(c' b).1=t∨(c' b).1=t+1)∧Live w' c' t g m'∧Ch (fun b=>(c b).1=t) w w'
theorem Live.below {w w':World} {c:Nat→Colour} {t g:Nat} {m:Pl} (h:Live w c t g m) (hb:Below w.heap.size w w'):Live w' c t g m :=
 ⟨h.1.kept hb.size fun b hlt _=>⟨hb.block b hlt,rfl⟩,h.2.1,fun b hlt=>h.2.2 b (Nat.le_trans hb.size hlt)⟩
theorem Live.post {w w':World} {c:Nat→Colour} {t g db cap:Nat} {gs:Nat→Nat} {m':Pl} (hp:Post w c t g db cap gs m' w') (hwf:m'.WF):Next w c t g m' w':=by
 obtain ⟨c',hcc,hP,hch⟩:=hp
 obtain ⟨c2,hc2⟩:∃c2:Nat→Colour,c2=fun b=>if b<w.heap.size then c b else if b<w'.heap.size∧(c' b).1=t then c' b else (t+1,0):=⟨_,rfl⟩
 have hsz:=hch.size
 refine ⟨c2,fun b hb=>by rw [hc2];simp [hb],fun b hb => ?_,⟨⟨db,cap,gs,?_⟩,hwf,fun b hb => ?_⟩,hch⟩
 ·rw [hc2]
  simp only [show ¬ b<w.heap.size by omega,if_false]
  split
  ·rename_i h
   exact Or.inl h.2
  ·exact Or.inr rfl
 ·have hsame:∀b,b<w'.heap.size→(c' b).1=t→c2 b=c' b:=fun b hb ht=>by
   rw [hc2]
   by_cases h:b<w.heap.size
   ·simp [h,hcc b h]
   ·simp [h,hb,ht]
  refine ⟨hP.row,?_,?_,hP.ne,hP.lt,hP.cap,hP.cell,fun i hi=>(hP.dev i hi).kept fun b hb hk=>⟨rfl,?_⟩⟩
  ·rw [hsame g hP.row.lt (by rw [hP.cg]),hP.cg]
  ·rw [hsame db hP.lt (by rw [hP.cd]),hP.cd]
  ·rw [hsame b hb (by rw [hk]),hk]
 ·rw [hc2]
  simp [show ¬ b<w.heap.size by omega,show ¬ b<w'.heap.size by omega]
section
variable {w:World} {c:Nat→Colour} {t g:Nat} {m:Pl}
theorem Live.append (h:Live w c t g m) (hst:m.steps<35184372088831) (d:Int) (v:Value) (s:List Nat) (hv:yA2 w v s):Calls Tryd.prog 29 #[ptr g,.int .i64 d,v] w fun e w'=>e = .returned (.tuple #[.int .i64 ((m.append d s).1:Int),.int .i64 (m.append d s).2.1])∧Next w c t g (m.append d s).2.2 w':=by
 obtain ⟨⟨db,cap,gs,hP⟩,hwf,_⟩:=h
 exact (append_any hP hwf hst d v s hv).mono fun e w' he=>⟨he.1,Live.post he.2 (Pl.append_wf hwf d s hv.lt256)⟩
theorem Live.flush (h:Live w c t g m) (hst:m.steps<35184372088831) (d:Int):Calls Tryd.prog 30 #[ptr g,.int .i64 d] w fun e w'=>e = .returned (.int .i64 (m.flush d).1)∧Next w c t g (m.flush d).2 w':=by
 obtain ⟨⟨db,cap,gs,hP⟩,hwf,_⟩:=h
 exact (flush_any hP hwf (by omega) d).mono fun e w' he=>⟨he.1,Live.post he.2 (Pl.flush_wf hwf d)⟩
theorem Live.boot (h:Live w c t g m) (hst:m.steps<35184372088831) (kv:Value) (ks:List Int) (hk:KeepIn w c t kv ks):Calls Tryd.prog 28 #[ptr g,kv] w fun e w'=>e = .returned noResult∧Next w c t g (m.boot ks) w':=by
 obtain ⟨⟨db,cap,gs,hP⟩,hwf,_⟩:=h
 exact (boot_any hP hwf (by omega) kv ks hk).mono fun e w' he=>⟨he.1,Live.post he.2 (Pl.boot_wf hwf ks)⟩
theorem Live.fuse (h:Live w c t g m) (n:Int) (h0 : -9223372036854775808≤n) (h1:n≤9223372036854775807):Calls Tryd.prog 27 #[ptr g,.int .i64 n] w fun e w'=>e = .returned noResult∧Next w c t g (m.fuseTo n) w':=by
 obtain ⟨⟨db,cap,gs,hP⟩,hwf,_⟩:=h
 exact (fuse_any hP n).mono fun e w' he=>⟨he.1,Live.post (Post.stepped hP he.2.1 he.2.2) (Pl.fuse_wf hwf n h0 h1)⟩
theorem Live.read (h:Live w c t g m) (hst:m.steps<35184372088831) (hon:m.on=true) (i p:Nat) (hi:i<m.n) (hp:p<m.len i):Calls Tryd.prog 32 #[ptr g,.int .i64 (i:Int),.int .i64 (p:Int)] w fun e w' => ∃b,e = .returned (.tuple #[.slice (some ⟨b,0,none⟩) 64 64,.int .i64 0])∧w.heap.size≤b∧Row w' b 5 (yA0 (m.rd i p))∧Below w.heap.size w w':=by
 obtain ⟨⟨db,cap,gs,hP⟩,hwf,_⟩:=h
 exact readP_any hP hwf (by omega) hon i p hi hp
theorem Live.readN (h:Live w c t g m) (hst:m.steps<35184372088831) (d p:Int) (hno:¬ (m.on=true∧m.has d∧0≤p∧p<(m.len d.toNat:Int))):Calls Tryd.prog 32 #[ptr g,.int .i64 d,.int .i64 p] w fun e w'=>e = .returned (.tuple #[.slice none 0 0,.int .i64 (if m.on then 31 else 2)])∧∃n,w'=w.drewN n:=by
 obtain ⟨⟨db,cap,gs,hP⟩,hwf,_⟩:=h
 exact readN_any hP hwf (by omega) d p hno
theorem Live.len (h:Live w c t g m) (hst:m.steps<35184372088831) (d:Int):Calls Tryd.prog 33 #[ptr g,.int .i64 d] w fun e w'=>e = .returned (.tuple #[.int .i64 ((if m.has d then m.len d.toNat else 0:Nat):Int),.int .i64 (if m.has d then 0 else 31)])∧∃n,w'=w.drewN n:=by
 obtain ⟨⟨db,cap,gs,hP⟩,hwf,_⟩:=h
 exact len_any hP hwf (by omega) d
theorem Live.isOn (h:Live w c t g m):Calls Tryd.prog 26 #[ptr g] w fun e w'=>e = .returned (.bool m.on)∧w'=w:=by
 obtain ⟨⟨db,cap,gs,hP⟩,hwf,_⟩:=h
 exact on_cells w g m.on hP.c1
end
theorem Live.new (w:World) (c:Nat→Colour) (t:Nat) (vd vt:Value) (ds ts:List Int) (hd:IntsIn w vd ds) (ht:IntsIn w vt ts) (hok:shapeOk ds ts=true) (hd0:ds=[]) :
  Calls Tryd.prog 9 #[.agg #[vd,vt]] w fun e w' => ∃g c',e = .returned (.tuple #[ptr g,.int .i64 0])∧w.heap.size≤g∧(∀b,b<w.heap.size→c' b=c b)∧(∀b,w.heap.size≤b→(c' b).1=t∨(c' b).1=t+1)∧Live w' c' t g (newPl ds ts)∧Below w.heap.size w w':=by
 refine (newOk_any w c t vd vt ds ts hd ht hok).mono fun e w' ⟨g,c',db,cap,gs,he,hg,hcc,hP,hb⟩ => ?_
 obtain ⟨c2,h1,h2,h3,_⟩:=Live.post (w:=w) (c:=c) (t:=t) (g:=g) ⟨c',hcc,hP,Ch.of_below hb⟩ (newPl_wf ds ts hok hd0)
 exact ⟨g,c2,he,hg,h1,h2,h3,hb⟩
end Go.Proofs.YtpkkkkomdblpoaaDoor

namespace Go.Proofs.YtpkkkkomdblpoaaDoor
open Go.RowKit Go.Maps
theorem run_oneInt (w:World) (x:Int):(Instr.buildSlice 28 1 #[(0,.int .i64 x)]).run Tryd.prog w = .ok (.slice (some ⟨w.heap.size,0,none⟩) 1 1) (w.alloc (.cells #[.int .i64 x] 3)):=by kernel_rfl
def sized (b:Bool) (sh:List (Bool×Nat)):List Value:=(sh.filter fun x=>x.1 == b).map fun x=>Value.int .i64 (x.2:Nat)
theorem sized_snoc (b:Bool) (sh:List (Bool×Nat)) (x:Bool×Nat):sized b (sh++[x])=if x.1=b then sized b sh++[Value.int .i64 (x.2:Nat)] else sized b sh:=by
 unfold sized
 rw [List.filter_append,List.map_append]
 by_cases h:x.1=b
 ·simp [h]
 ·simp [h]
def ShapeIn (W:World) (sb C:Nat) (sh:List (Bool×Nat)):Prop :=
 ∃vd vt,Row W sb 30 [vd,vt]∧W.ownsRow C 3 1 vd (sized false sh).length (sized false sh)∧W.ownsRow C 3 1 vt (sized true sh).length (sized true sh)∧∀b,vd.ownBlock=some b→vt.ownBlock≠some b
theorem info3:(Tryd.prog.info? 3).map (fun i=>(i.zero,i.size,i.bytes))=some (some (.int .i64 0),1,8):=by kernel_rfl
theorem und22:Tryd.prog.underlying 28=some (.slice 3):=Tryd.underlying28
theorem size22:(Tryd.prog.info? 28).map (·.size)=some 1:=by kernel_rfl
theorem one22:OneT 28:=fun w g o v h=>by simp [loadVar,isAgg,run_underlying Tryd.underlying28,h]
theorem f24_0:yD7 30 0 0:=fun w g off=>by kernel_rfl
theorem f24_1:yD7 30 1 1:=fun w g off=>by kernel_rfl
theorem f76_1:yD7 125 1 1:=fun w g off=>by kernel_rfl
theorem zero24:(Tryd.prog.info? 30).map (·.zero)=some (some (.agg ([.slice none 0 0,.slice none 0 0]:List Value).toArray)):=by kernel_rfl
theorem yJ4 {w:World} {base e size n:Nat} {v:Value} {xs:List Value} (h:w.ownsRow base e size v n xs):v.cells=#[v]∧v.oneCell'=true:=by
 obtain ⟨_,h⟩:=h
 rcases h with ⟨rfl,_⟩|⟨_,_,_,rfl,_⟩
 ·exact ⟨rfl,rfl⟩
 ·exact ⟨rfl,rfl⟩
theorem own_kept {w w':World} {base e size n:Nat} {v:Value} {xs:List Value} (h:w.ownsRow base e size v n xs) (hb:∀b,v.ownBlock=some b→w'.heap[b]? = w.heap[b]?):w'.ownsRow base e size v n xs:=by
 obtain ⟨hl,h⟩:=h
 refine ⟨hl,?_⟩
 rcases h with ⟨rfl,h⟩|⟨g,cap,cur,rfl,h0,hg,h⟩
 ·exact Or.inl ⟨rfl,h⟩
 ·exact Or.inr ⟨g,cap,cur,rfl,h0,(hb g rfl).trans hg,h⟩
theorem two_rows {W W6 W7:World} {sb C n m m':Nat} {vo va v7:Value} {xo xa xa':List Value} (hsb:sb<C) (ho:W.ownsRow C 3 1 vo n xo) (ha:W.ownsRow C 3 1 va m xa) (hdis:∀b,vo.ownBlock=some b→va.ownBlock≠some b)
  (h6:Below W.heap.size W W6) (o7:W7.ownsRow C 3 1 v7 m' xa') (g7:W6.grownBy W7 va.ownBlock) (l7:v7.ownBlock=va.ownBlock∨v7.ownBlock=some W6.heap.size) (ys:Array Value) :
  (W7.setRow sb ys).ownsRow C 3 1 vo n xo∧(W7.setRow sb ys).ownsRow C 3 1 v7 m' xa'∧(∀b,vo.ownBlock=some b→v7.ownBlock≠some b)∧∀cs,Row W sb 30 cs→Row W7 sb 30 cs:=by
 refine ⟨own_kept ho fun b hb => ?_,own_kept o7 fun b hb => ?_,fun b hb e => ?_,fun cs hr => ?_⟩
 ·have hlt:=(ho.lt b hb).2
  have hc:=(ho.lt b hb).1
  rw [Go.setRow_other W7 sb b _ (by omega),g7.block b (Nat.lt_of_lt_of_le hlt h6.size) (fun e=>hdis b hb e.symm),h6.block b hlt]
 ·have hc:=(o7.lt b hb).1
  exact Go.setRow_other W7 sb b _ (by omega)
 ·have hlt:=(ho.lt b hb).2
  rcases l7 with l|l
  ·exact hdis b hb (l▸e)
  ·rw [l] at e
   cases e
   have:=h6.size
   omega
 ·show W7.heap[sb]? = _
  rw [g7.block sb (Nat.lt_of_lt_of_le hr.lt h6.size) (fun e=>by have:=(ha.lt sb e.symm).1;omega),h6.block sb hr.lt]
  exact hr
theorem yA3 {w:World} {a:Act} {o:Oper} {T i k:Nat} (hf:yD7 T i k) (x:Operand) (ho:o.op = .fieldAddr T x i) (g off:Nat) (hx:a.eval x = .pointer (some ⟨g,off,none⟩)):(execOp a.eval o).run Tryd.prog w = .ok (.value (.pointer (some ⟨g,off+k,none⟩))) w:=by
 simp [execOp,ho,hx,hf w g off]
section
variable {ops:Array Oper} {Q:Exit→Act→World→Prop} {a:Act} {w:World}
theorem run_oneIntOp {o:Oper} (x:Operand) (ho:o.op = .buildSlice 28 1 #[(0,x)]) (n:Int) (hx:a.eval x = .int .i64 n):(execOp a.eval o).run Tryd.prog w = .ok (.value (.slice (some ⟨w.heap.size,0,none⟩) 1 1)) (w.alloc (.cells #[.int .i64 n] 3)):=by
 simp [execOp,ho,hx,run_oneInt]
end
set_option maxHeartbeats 2000000 in
set_option maxRecDepth 100000 in
theorem shape_any {w:World} {c:Nat→Colour} {t g db cap:Nat} {gs:Nat→Nat} {m:Pl} (h:PlantAt w c t g db cap gs m) (hwf:m.WF) :
  Calls Tryd.prog 36 #[ptr g] w fun e w' => ∃vd vt,e = .returned (.agg #[vd,vt])∧w'.ownsRow w.heap.size 3 1 vd (sized false m.sh).length (sized false m.sh)∧w'.ownsRow w.heap.size 3 1 vt (sized true m.sh).length (sized true m.sh)∧Below w.heap.size w w':=by
 obtain ⟨B,hB⟩:∃B,B=w.heap.size:=⟨_,rfl⟩
 obtain ⟨N,hN⟩:∃N,N=m.n:=⟨_,rfl⟩
 rw [←hB]
 have HB:Hid (B=w.heap.size):=hB
 have HN:Hid (N=m.n):=hN
 have hN12:N≤12:=by rw [hN];exact hwf.few
 have HP:Hid (PlantAt w c t g db cap gs m):=h
 have HG:Hid (w.cell? ⟨g,0,none⟩=some (.slice (some ⟨db,0,none⟩) N cap)):=by rw [hN];exact h.c0
 clear h hwf hB hN
 go_enter Tryd.func36,Tryd.ntmps36
 go_upto_region 0 with fail
 refine wp_region_lit ?_
 refine yD3 _ zero24 rfl rfl ?_
 intro w1 r1 s1 b1
 refine wpList_nil ?_
 simp only [Act.put,aS,aC,aZ]
 go_upto_region 1 with fail
 refine wp_region_lit ?_
 refine yD3 _ zero24 rfl rfl ?_
 intro w2 r2 s2 b2
 refine wpList_nil ?_
 simp only [Act.put,aS,aC,aZ]
 rw [←HB.out] at r1 s1 b1 ⊢
 rw [s1] at r2 s2 b2 ⊢
 have HR1:Hid (Row w2 B 30 [.slice none 0 0,.slice none 0 0]):=r1.later b2 (by omega)
 have HI:Hid (ShapeIn w2 (B+1) (B+2) (m.sh.take 0)):=⟨_,_,r2,⟨rfl,Or.inl ⟨rfl,rfl⟩⟩,⟨rfl,Or.inl ⟨rfl,rfl⟩⟩,fun b hb=>by cases hb⟩
 have HB2:Hid (Below B w w2∧B+2≤w2.heap.size):=⟨b1.trans (b2.mono (by omega)),by omega⟩
 have c0:w2.cell? ⟨g,0,none⟩=some (.slice (some ⟨db,0,none⟩) N cap):=cell_later (by rw [←HB.out];exact HB2.out.1) HG.out
 clear r1 s1 b1 r2 s2 b2
 go_wp2
 go_loopw [11] (fun ix W => ∃n:Nat,n≤N∧ix = .int .i64 n∧ShapeIn W (B+1) (B+2) (m.sh.take n)∧Row W B 30 [.slice none 0 0,.slice none 0 0]∧Below B w W∧B+2≤W.heap.size) (fun ix _=>N - (intOf ix).toNat)
 case atStart=>exact ⟨0,Nat.zero_le _,rfl,HI.out,HR1.out,HB2.out⟩
 case round =>
  obtain ⟨n,hn,rfl,hin,hrB,hbw,hsz⟩:=hrel
  clear HI HR1 HB2 c0
  have HIN:Hid (ShapeIn wr (B+1) (B+2) (m.sh.take n)∧Row wr B 30 [.slice none 0 0,.slice none 0 0]∧Below B w wr∧B+2≤wr.heap.size):=⟨hin,hrB,hbw,hsz⟩
  by_cases hlt:n<N
  ·have hnm:n<m.n:=by rw [←HN.out];exact hlt
   have cn:wr.cell? ⟨db,n,none⟩=some (ptr (gs n)):=cell_later (by rw [←HB.out];exact hbw) (HP.out.cell n hnm)
   obtain ⟨gd,hgd⟩:∃gd,gd=gs n:=⟨_,rfl⟩
   obtain ⟨z,hz⟩:∃z,z=m.size n:=⟨_,rfl⟩
   obtain ⟨tp,htp⟩:∃tp,tp=m.tape n:=⟨_,rfl⟩
   obtain ⟨bm,bl,vv,hdr,_⟩:=HP.out.dev n hnm
   rw [←hgd,←hz,←htp] at hdr
   rw [←hgd] at cn
   have HDR:Hid (∀W,Below B w W→Row W gd 125 [.bool tp,.int .i64 (z:Nat),.map (some bm),vv,.map (some bl)]):=fun W hb=>hdr.later (B:=B) hb (by rw [HB.out];exact hdr.lt)
   have HSH:Hid (m.sh.take (n+1)=m.sh.take n++[(tp,z)]):=by
    have hn':n<m.sh.length:=hnm
    rw [List.take_succ_eq_append_getElem hn']
    congr 2
    rw [htp,hz]
    unfold Pl.tape Pl.size
    simp [hn']
   have d0:wr.cell? ⟨gd,0,none⟩=some (.bool tp):=(HDR.out wr hbw).at 0 _ rfl
   clear hdr hgd hz htp hin hrB hbw hsz
   cases tp with
   | true =>
    go_upto_region 6 with fail
    obtain ⟨vd,vt,hr,hod,hot,hdis⟩:=HIN.out.1
    have hdr:=HDR.out wr HIN.out.2.2.1
    have c1:(wr.drewN 1).cell? ⟨B+1,0+1,none⟩=some vt:=hr.at 1 _ rfl
    have c2:(wr.drewN 1).cell? ⟨gd,0+1,none⟩=some (.int .i64 (z:Nat)):=hdr.at 1 _ rfl
    refine wp_region_any (by kernel_rfl) ?_
    show wpAny _ _ _ _ 10 (Array.replicate 10 false) _ (wr.drewN 1)
    refine takeA (i:=0) (some 19) rfl rfl (by kernel_rfl) (by kernel_rfl) (by kernel_rfl) (fun _ _ _ h=>h) (yField f24_1 rfl (.tmp 3) rfl (B+1) 0 rfl) ?_
    simp only [Act.put,aS,aC,aZ]
    refine takeA (i:=2) (some 21) rfl rfl (by kernel_rfl) (by kernel_rfl) (by kernel_rfl) (fun _ _ _ h=>h) (yMove rfl (.tmp 5) rfl (ptr gd) rfl) ?_
    simp only [Act.put,aS,aC,aZ]
    refine takeA (i:=3) (some 22) rfl rfl (by kernel_rfl) (by kernel_rfl) (by kernel_rfl) (fun _ _ _ h=>h) (yNil rfl (.tmp 21) rfl _ rfl) ?_
    simp only [Act.put,aS,aC,aZ]
    refine takeA (i:=4) (some 23) rfl rfl (by kernel_rfl) (by kernel_rfl) (by kernel_rfl) (fun _ _ _ h=>h) (yField f76_1 rfl (.tmp 22) rfl gd 0 rfl) ?_
    simp only [Act.put,aS,aC,aZ]
    refine anyThree (i:=1) (j:=5) (k:=6) 20 24 25 rfl rfl rfl (by decide) (by decide) (by decide) (by decide) (by kernel_rfl) (by kernel_rfl) (by kernel_rfl) (by kernel_rfl) (by kernel_rfl)
     vt (fun u W'=>u = .int .i64 (z:Nat)∧W'=wr.drewN 1) (fun _ s W''=>s = .slice (some ⟨wr.heap.size,0,none⟩) 1 1∧W''=(wr.drewN 1).alloc (.cells #[.int .i64 (z:Nat)] 3)) ?_ ?_ ?_ ?_ ?_ ?_ ?_ ?_
    ·exact yA7 one22 (.tmp 19) rfl (B+1) (0+1) rfl _ c1
    ·rintro u W' ⟨rfl,rfl⟩
     exact yA7 one22 (.tmp 19) rfl (B+1) (0+1) rfl _ c1
    ·rintro u W' s W'' _ ⟨rfl,rfl⟩
     exact yA7 one22 (.tmp 19) rfl (B+1) (0+1) rfl _ (cell_later ((Below.refl _ (wr.drewN 1)).alloc (Nat.le_refl _) _) c1)
    ·intro R hR
     exact yG0 (some 24) rfl rfl rfl _ _ (yA7 one3 (.tmp 23) rfl gd (0+1) rfl _ c2) (hR _ _ ⟨rfl,rfl⟩)
    ·intro R hR
     exact yG0 (some 24) rfl rfl rfl _ _ (yA7 one3 (.tmp 23) rfl gd (0+1) rfl _ c2) (hR _ _ ⟨rfl,rfl⟩)
    ·rintro u W' ⟨rfl,rfl⟩ R hR
     exact yG0 (some 25) rfl rfl rfl _ _ (run_oneIntOp (.tmp 24) rfl (z:Nat) rfl) (hR _ _ ⟨rfl,rfl⟩)
    ·rintro u W' ⟨rfl,rfl⟩ R hR
     exact yG0 (some 25) rfl rfl rfl _ _ (run_oneIntOp (.tmp 24) rfl (z:Nat) rfl) (hR _ _ ⟨rfl,rfl⟩)
    rintro u W0 s w6 ⟨rfl,_⟩ ⟨rfl,hw6⟩
    simp only [Act.put,aS,aC,aZ]
    refine anySeqD 7 (by kernel_rfl) rfl ?_
    simp only [List.drop_succ_cons,List.drop_zero]
    have b6:Below wr.heap.size wr w6:=by rw [hw6];exact (Below.drewN (Below.refl _ wr) 1).alloc (Nat.le_refl _) _
    have r6:Row w6 wr.heap.size 3 [.int .i64 (z:Nat)]:=by rw [hw6];exact Row.new (wr.drewN 1) 3 [.int .i64 (z:Nat)]
    have hle:(sized true (m.sh.take n)).length≤1000:=by
     have h1:(sized true (m.sh.take n)).length≤(m.sh.take n).length:=by unfold sized;rw [List.length_map];exact List.length_filter_le _ _
     have h2:(m.sh.take n).length≤n:=List.length_take_le _ _
     omega
    obtain ⟨i0,hi0,hz0,hz1,hz2⟩:=info_parts info3
    refine wpList_append_own_at _ rfl (.tmp 20) (.tmp 25) 28 rfl (B+2) 3 i0 _ 1 8 und22 hi0 hz0 hz1 hz2 rfl (by decide) vt _ _ rfl (ownsRow_below hot b6) ⟨wr.heap.size,0,none⟩ 1 1 [.int .i64 (z:Nat)] rfl rfl (fun j u hu=>by rw [yB7,Nat.zero_add];exact r6.at j u hu) (by intro z hz;obtain rfl:=List.mem_singleton.1 hz;rfl) (by unfold maxLen;omega) (by omega) (by have:=HIN.out.2.2.2;have:=b6.size;omega) ?_
    intro v7 w7 o7 g7 _ l7
    simp only [Act.put,aS,aC,aZ]
    obtain ⟨h1,h2,h3,h4⟩:=two_rows (sb:=B+1) (by omega) hod hot hdis b6 o7 g7 l7 ([vd,v7]:List Value).toArray
    have hr7:=h4 _ hr
    have hv7:=yJ4 o7
    have blt:∀b,b<B+1→w7.heap[b]? = wr.heap[b]?:=fun b hb=>by
     have:=HIN.out.2.2.2
     have:=b6.size
     rw [g7.block b (by omega) (fun e=>by have:=(hot.lt b e.symm).1;omega),b6.block b (by omega)]
    refine yF3 f24_1 (.tmp 3) rfl rfl (B+1) 0 rfl ?_
    simp only [Act.put,aS,aC,aZ]
    refine yG7 size22 (.tmp 27) (.tmp 26) rfl rfl rfl (B+1) (0+1) 30 rfl v7 _ rfl hv7.1 hv7.2 hr7 (by simp) ?_
    refine wpList_nil ?_
    obtain ⟨w8,hw8⟩:∃w8,w8=w7.setRow (B+1) ([vd,v7]:List Value).toArray:=⟨_,rfl⟩
    have e8:w7.setRow (B+1) (([vd,vt]:List Value).set (0+1) v7).toArray=w8:=by rw [hw8];rfl
    rw [e8]
    have H8:Hid (ShapeIn w8 (B+1) (B+2) (m.sh.take (n+1))∧Row w8 B 30 [.slice none 0 0,.slice none 0 0]∧Below B w w8∧B+2≤w8.heap.size):=by
     have hsz:w8.heap.size=w7.heap.size:=by rw [hw8];simp [World.setRow]
     have hs7:=g7.size
     have hs6:=b6.size
     have hs0:=HIN.out.2.2.2
     refine ⟨?_,?_,?_,by omega⟩
     ·rw [HSH.out,hw8]
      refine ⟨vd,v7,hr7.setRow _,?_,?_,h3⟩
      ·rw [sized_snoc,if_neg (by simp)];exact h1
      ·rw [sized_snoc,if_pos rfl,List.length_append];exact h2
     ·show w8.heap[B]? = _
      rw [hw8,Go.setRow_other w7 (B+1) B _ (by omega),blt B (by omega)]
      exact HIN.out.2.1
     ·refine HIN.out.2.2.1.trans ⟨by rw [hw8];exact g7.os.trans b6.os,by rw [hw8];exact g7.tape.trans b6.tape,by rw [hw8];exact g7.output.trans b6.output,by omega,fun b hb => ?_⟩
      rw [hw8,Go.setRow_other w7 (B+1) b _ (by omega)]
      exact blt b (by omega)
    clear e8 hw8 h1 h2 h3 h4 hr7 hv7 blt o7 g7 l7 b6 r6 hr hod hot hdis hdr c1 c2 hw6
    go_wp2
    exact ⟨⟨n+1,by omega,by go_num,H8.out⟩,by simp [intOf];omega⟩
   | false =>
    go_upto_region 7 with fail
    obtain ⟨vd,vt,hr,hod,hot,hdis⟩:=HIN.out.1
    have hdr:=HDR.out wr HIN.out.2.2.1
    have c1:(wr.drewN 1).cell? ⟨B+1,0+0,none⟩=some vd:=hr.at 0 _ rfl
    have c2:(wr.drewN 1).cell? ⟨gd,0+1,none⟩=some (.int .i64 (z:Nat)):=hdr.at 1 _ rfl
    refine wp_region_any (by kernel_rfl) ?_
    show wpAny _ _ _ _ 10 (Array.replicate 10 false) _ (wr.drewN 1)
    refine takeA (i:=0) (some 28) rfl rfl (by kernel_rfl) (by kernel_rfl) (by kernel_rfl) (fun _ _ _ h=>h) (yField f24_0 rfl (.tmp 3) rfl (B+1) 0 rfl) ?_
    simp only [Act.put,aS,aC,aZ]
    refine takeA (i:=2) (some 30) rfl rfl (by kernel_rfl) (by kernel_rfl) (by kernel_rfl) (fun _ _ _ h=>h) (yMove rfl (.tmp 5) rfl (ptr gd) rfl) ?_
    simp only [Act.put,aS,aC,aZ]
    refine takeA (i:=3) (some 31) rfl rfl (by kernel_rfl) (by kernel_rfl) (by kernel_rfl) (fun _ _ _ h=>h) (yNil rfl (.tmp 30) rfl _ rfl) ?_
    simp only [Act.put,aS,aC,aZ]
    refine takeA (i:=4) (some 32) rfl rfl (by kernel_rfl) (by kernel_rfl) (by kernel_rfl) (fun _ _ _ h=>h) (yField f76_1 rfl (.tmp 31) rfl gd 0 rfl) ?_
    simp only [Act.put,aS,aC,aZ]
    refine anyThree (i:=1) (j:=5) (k:=6) 29 33 34 rfl rfl rfl (by decide) (by decide) (by decide) (by decide) (by kernel_rfl) (by kernel_rfl) (by kernel_rfl) (by kernel_rfl) (by kernel_rfl)
     vd (fun u W'=>u = .int .i64 (z:Nat)∧W'=wr.drewN 1) (fun _ s W''=>s = .slice (some ⟨wr.heap.size,0,none⟩) 1 1∧W''=(wr.drewN 1).alloc (.cells #[.int .i64 (z:Nat)] 3)) ?_ ?_ ?_ ?_ ?_ ?_ ?_ ?_
    ·exact yA7 one22 (.tmp 28) rfl (B+1) (0+0) rfl _ c1
    ·rintro u W' ⟨rfl,rfl⟩
     exact yA7 one22 (.tmp 28) rfl (B+1) (0+0) rfl _ c1
    ·rintro u W' s W'' _ ⟨rfl,rfl⟩
     exact yA7 one22 (.tmp 28) rfl (B+1) (0+0) rfl _ (cell_later ((Below.refl _ (wr.drewN 1)).alloc (Nat.le_refl _) _) c1)
    ·intro R hR
     exact yG0 (some 33) rfl rfl rfl _ _ (yA7 one3 (.tmp 32) rfl gd (0+1) rfl _ c2) (hR _ _ ⟨rfl,rfl⟩)
    ·intro R hR
     exact yG0 (some 33) rfl rfl rfl _ _ (yA7 one3 (.tmp 32) rfl gd (0+1) rfl _ c2) (hR _ _ ⟨rfl,rfl⟩)
    ·rintro u W' ⟨rfl,rfl⟩ R hR
     exact yG0 (some 34) rfl rfl rfl _ _ (run_oneIntOp (.tmp 33) rfl (z:Nat) rfl) (hR _ _ ⟨rfl,rfl⟩)
    ·rintro u W' ⟨rfl,rfl⟩ R hR
     exact yG0 (some 34) rfl rfl rfl _ _ (run_oneIntOp (.tmp 33) rfl (z:Nat) rfl) (hR _ _ ⟨rfl,rfl⟩)
    rintro u W0 s w6 ⟨rfl,_⟩ ⟨rfl,hw6⟩
    simp only [Act.put,aS,aC,aZ]
    refine anySeqD 7 (by kernel_rfl) rfl ?_
    simp only [List.drop_succ_cons,List.drop_zero]
    have b6:Below wr.heap.size wr w6:=by rw [hw6];exact (Below.drewN (Below.refl _ wr) 1).alloc (Nat.le_refl _) _
    have r6:Row w6 wr.heap.size 3 [.int .i64 (z:Nat)]:=by rw [hw6];exact Row.new (wr.drewN 1) 3 [.int .i64 (z:Nat)]
    have hle:(sized false (m.sh.take n)).length≤1000:=by
     have h1:(sized false (m.sh.take n)).length≤(m.sh.take n).length:=by unfold sized;rw [List.length_map];exact List.length_filter_le _ _
     have h2:(m.sh.take n).length≤n:=List.length_take_le _ _
     omega
    obtain ⟨i0,hi0,hz0,hz1,hz2⟩:=info_parts info3
    refine wpList_append_own_at _ rfl (.tmp 29) (.tmp 34) 28 rfl (B+2) 3 i0 _ 1 8 und22 hi0 hz0 hz1 hz2 rfl (by decide) vd _ _ rfl (ownsRow_below hod b6) ⟨wr.heap.size,0,none⟩ 1 1 [.int .i64 (z:Nat)] rfl rfl (fun j u hu=>by rw [yB7,Nat.zero_add];exact r6.at j u hu) (by intro z hz;obtain rfl:=List.mem_singleton.1 hz;rfl) (by unfold maxLen;omega) (by omega) (by have:=HIN.out.2.2.2;have:=b6.size;omega) ?_
    intro v7 w7 o7 g7 _ l7
    simp only [Act.put,aS,aC,aZ]
    obtain ⟨h1,h2,h3,h4⟩:=two_rows (sb:=B+1) (by omega) hot hod (fun b hb e=>hdis b e hb) b6 o7 g7 l7 ([v7,vt]:List Value).toArray
    have hr7:=h4 _ hr
    have hv7:=yJ4 o7
    have blt:∀b,b<B+1→w7.heap[b]? = wr.heap[b]?:=fun b hb=>by
     have:=HIN.out.2.2.2
     have:=b6.size
     rw [g7.block b (by omega) (fun e=>by have:=(hod.lt b e.symm).1;omega),b6.block b (by omega)]
    refine yF3 f24_0 (.tmp 3) rfl rfl (B+1) 0 rfl ?_
    simp only [Act.put,aS,aC,aZ]
    refine yG7 size22 (.tmp 36) (.tmp 35) rfl rfl rfl (B+1) (0+0) 30 rfl v7 _ rfl hv7.1 hv7.2 hr7 (by simp) ?_
    refine wpList_nil ?_
    obtain ⟨w8,hw8⟩:∃w8,w8=w7.setRow (B+1) ([v7,vt]:List Value).toArray:=⟨_,rfl⟩
    have e8:w7.setRow (B+1) (([vd,vt]:List Value).set (0+0) v7).toArray=w8:=by rw [hw8];rfl
    rw [e8]
    have H8:Hid (ShapeIn w8 (B+1) (B+2) (m.sh.take (n+1))∧Row w8 B 30 [.slice none 0 0,.slice none 0 0]∧Below B w w8∧B+2≤w8.heap.size):=by
     have hsz:w8.heap.size=w7.heap.size:=by rw [hw8];simp [World.setRow]
     have hs7:=g7.size
     have hs6:=b6.size
     have hs0:=HIN.out.2.2.2
     refine ⟨?_,?_,?_,by omega⟩
     ·rw [HSH.out,hw8]
      refine ⟨v7,vt,hr7.setRow _,?_,?_,fun b hb e=>h3 b e hb⟩
      ·rw [sized_snoc,if_pos rfl,List.length_append];exact h2
      ·rw [sized_snoc,if_neg (by simp)];exact h1
     ·show w8.heap[B]? = _
      rw [hw8,Go.setRow_other w7 (B+1) B _ (by omega),blt B (by omega)]
      exact HIN.out.2.1
     ·refine HIN.out.2.2.1.trans ⟨by rw [hw8];exact g7.os.trans b6.os,by rw [hw8];exact g7.tape.trans b6.tape,by rw [hw8];exact g7.output.trans b6.output,by omega,fun b hb => ?_⟩
      rw [hw8,Go.setRow_other w7 (B+1) b _ (by omega)]
      exact blt b (by omega)
    clear e8 hw8 h1 h2 h3 h4 hr7 hv7 blt o7 g7 l7 b6 r6 hr hod hot hdis hdr c1 c2 hw6
    go_wp2
    exact ⟨⟨n+1,by omega,by go_num,H8.out⟩,by simp [intOf];omega⟩
  ·have e:n=N:=by omega
   subst e
   clear hin hrB hbw hsz
   obtain ⟨vd,vt,hr,hod,hot,_⟩:=HIN.out.1
   have hB0:=HIN.out.2.1
   go_upto_region 9 with fail
   refine wp_region_lit ?_
   refine yF1 agg24 (.tmp 3) rfl rfl (B+1) 0 rfl [vd,vt] rfl (fun j u hu=>by rw [Nat.zero_add];exact hr.at j u hu) ?_
   simp only [Act.put,aS,aC,aZ]
   refine yE2 agg24 (.tmp 2) (.tmp 38) rfl rfl rfl B 0 30 rfl [vd,vt] _ rfl rfl hB0 (by simp) ?one ?_
   case one =>
    intro u hu
    simp only [List.mem_cons,List.not_mem_nil,or_false] at hu
    rcases hu with rfl|rfl
    ·exact (yJ4 hod).2
    ·exact (yJ4 hot).2
   refine wpList_nil ?_
   rw [yB5 ([.slice none 0 0,.slice none 0 0]:List Value) [vd,vt] rfl]
   obtain ⟨w9,hw9⟩:∃w9,w9=wr.setRow B ([vd,vt]:List Value).toArray:=⟨_,rfl⟩
   rw [←hw9]
   have r9:Row w9 B 30 [vd,vt]:=by rw [hw9];exact hB0.setRow _
   have hk9:∀b,b≠B→w9.heap[b]? = wr.heap[b]?:=fun b hb=>by rw [hw9];exact Go.setRow_other wr B b _ hb
   have hsh:m.sh.take n=m.sh:=by rw [HN.out];exact List.take_length
   rw [hsh] at hod hot
   have lower:∀{v:Value} {k:Nat} {xs:List Value},wr.ownsRow (B+2) 3 1 v k xs→w9.ownsRow B 3 1 v k xs:=fun {v k xs} h=>by
    have h':=own_kept (w':=w9) h fun b hb=>hk9 b (by have:=(h.lt b hb).1;omega)
    obtain ⟨hl,h'⟩:=h'
    refine ⟨hl,?_⟩
    rcases h' with h'|⟨g',cap',cur',e1,e2,e3⟩
    ·exact Or.inl h'
    ·exact Or.inr ⟨g',cap',cur',e1,by omega,e3⟩
   have H9:Hid (w9.ownsRow B 3 1 vd (sized false m.sh).length (sized false m.sh)∧w9.ownsRow B 3 1 vt (sized true m.sh).length (sized true m.sh)∧Below B w w9):=⟨lower hod,lower hot,HIN.out.2.2.1.trans ⟨by rw [hw9];rfl,by rw [hw9];rfl,by rw [hw9];rfl,by rw [hw9];simp [World.setRow],fun b hb=>hk9 b (by omega)⟩⟩
   clear lower hod hot hr hB0 hk9 hw9 hsh
   go_wp2
   exact bodyPost_ret (yG3 agg24 Tryd.results36 _ _ B 30 rfl _ rfl r9) rfl ⟨vd,vt,rfl,H9.out⟩
end Go.Proofs.YtpkkkkomdblpoaaDoor

/- Layer 15: rows of bytes that come in, each within the form's own reach. Layer 15: calls that come in. For every tape and every list of calls: objects are appended, read, told and sealed as the document says, also by a volume that is opened anew: the law ColdvolPlays returns true and changes nothing that was there. No condition but the form's own reach; the tables crc.halves, sha.start and sha.constants start as the program's text lays them (the card ties them). -/
import Derived.Test.YtpkkkkomdblpoaaDoorP41
import Derived.Test.YtpkkkkomdblpoaaDoorP40
import Derived.Shelf.Spec.RuneCount
import Derived.Test.YtpkkkkomdblpoaaDoorP39


namespace Go.Proofs.YtpkkkkomdblpoaaDoor
open Go.ChangeShapes Go.WideShapes Go.ChangeAt Go.RowKit Go.Deep
theorem weightsAll_memW {H:Type} {P:Program} {e:TypeId} {d:DataW H} {l:List (DataW H)} (h:d∈l):∀n∈d.weights P e,n∈DataW.weightsAll P e l:=by
 induction l with
 | nil=>cases h
 | cons x l ih =>
  intro n hn
  simp only [DataW.weightsAll,List.mem_append]
  rcases List.mem_cons.1 h with rfl|h
  ·exact Or.inl hn
  ·exact Or.inr (ih h n hn)
end Go.Proofs.YtpkkkkomdblpoaaDoor

namespace Go.Proofs.YtpkkkkomdblpoaaDoor
open Cold Go.ChangeShapes Go.WideShapes Go.ChangeAt Go.RowKit Go.Deep
theorem cells9p:Tryd.prog.cellsOf 9=1:=by kernel_rfl
theorem cells42p:Tryd.prog.cellsOf 42=8:=by kernel_rfl
theorem und42p:∃f0 f1 f2 f3 f4:Field,Tryd.prog.underlying 42=some (.struct #[f0,f1,f2,f3,f4])∧(f0.type=3∧f0.offset=0)∧(f1.type=3∧f1.offset=1)∧(f2.type=9∧f2.offset=2)∧(f3.type=38∧f3.offset=3)∧(f4.type=40∧f4.offset=4) :=
 ⟨_,_,_,_,_,Tryd.underlying42,⟨rfl,rfl⟩,⟨rfl,rfl⟩,⟨rfl,rfl⟩,⟨rfl,rfl⟩,rfl,rfl⟩
theorem open_text (s:ByteArray):∃id:List Nat,Value.string s=str id∧∀c∈id,c<256:=by
 refine ⟨s.data.toList.map (·.toNat),?_,fun c hc => ?_⟩
 ·unfold str
  rw [List.map_map]
  have:=strOfNums_bytes s
  exact congrArg Value.string this.symm
 ·obtain ⟨x,_,rfl⟩:=List.mem_map.1 hc
  exact x.toNat_lt
set_option maxRecDepth 100000 in
theorem open_bfield {H:Type} {enc:TypeId×Value→H} {W:World} {v:Value} {y:DataW H×List MemPlace} {n:Nat}
  (hf:DataW.trod enc Tryd.prog W 0 (fun _=>true) true n 38 [v]=some y):∃l:List Nat,yA3 W v l∧((DataW.weights Tryd.prog 38 y.1).all (·≤reachBytes)=true→l.length≤140737488351232):=by
 rcases open_ints Tryd.underlying38 Tryd.underlying5 cells5 hf with ⟨hcs,_⟩|⟨x,l,c,zs,hcs,_,hl,hm,hz,hx,hcell,hwz⟩
 ·simp at hcs
  subst hcs
  exact ⟨[],⟨none,0,rfl,by decide,Or.inl rfl⟩,fun _=>Nat.zero_le _⟩
 ·simp at hcs
  subst hcs
  unfold maxLen at hm
  have hz':zs.length=c:=by simpa using hz
  have hbd:∀z∈zs,0≤z∧z≤255:=fun z hz=>by
   have:=hwz z hz
   simpa [Lit.wf,IntKind.min,IntKind.max,IntKind.signed,IntKind.bits] using this
  have hgl:((zs.take l).map Int.toNat).length=l:=by simp;omega
  refine ⟨(zs.take l).map Int.toNat,?_,fun hw => ?_⟩
  ·by_cases h0:l=0
   ·subst h0
    exact ⟨some x,c,rfl,⟨by simp,by simp⟩,Or.inl (by simp)⟩
   ·obtain ⟨b,off,rfl,hc⟩:=ints_at hcell (by omega)
    refine ⟨some ⟨b,off,none⟩,c,by rw [hgl],⟨by omega,by omega⟩,Or.inr ⟨b,off,rfl,fun j hj => ?_,fun j => ?_⟩⟩
    ·rw [hgl] at hj
     have hj':j<zs.length:=by omega
     rw [hc j hj']
     have h2:=hbd zs[j] (List.getElem_mem hj')
     simp [hj,hj',Int.toNat_of_nonneg h2.1]
    ·by_cases hj:j<((zs.take l).map Int.toNat).length
     ·have hz:=List.getElem_mem hj
      obtain ⟨y,hy,e⟩:=List.mem_map.1 hz
      have:=hbd y (List.mem_of_mem_take hy)
      have e2:((zs.take l).map Int.toNat).getD j 0=((zs.take l).map Int.toNat)[j]:=by rw [List.getD_eq_getElem?_getD,List.getElem?_eq_getElem hj];rfl
      rw [e2,←e]
      omega
     ·rw [List.getD_eq_getElem?_getD,List.getElem?_eq_none (by omega)]
      decide
  ·rw [hgl]
   have hd:=congrArg Prod.fst hx
   simp only at hd
   rw [hd] at hw
   have h2:=List.all_eq_true.1 hw ((lits (H:=H) .u8 (zs.take l)).length+(lits (H:=H) .u8 (zs.drop l)).length) (by
    simp only [DataW.weights,Tryd.underlying38,show Tryd.prog.bytesOf 5=1 by kernel_rfl,Nat.mul_one]
    exact List.mem_cons_self ..)
   have h3:(lits (H:=H) .u8 (zs.take l)).length=l:=by simp [lits];omega
   have h4:((lits (H:=H) .u8 (zs.take l)).length+(lits (H:=H) .u8 (zs.drop l)).length)≤reachBytes:=by simpa using h2
   unfold reachBytes at h4
   omega
set_option maxRecDepth 100000 in
theorem open_op {H:Type} {enc:TypeId×Value→H} {W:World} {cs:List Value} {y:DataW H×List MemPlace} {n:Nat} (hf:DataW.trod enc Tryd.prog W 0 (fun _=>true) true n 42 cs=some y):∃o:OpD,cs=o.cells∧OpIn W o∧((DataW.weights Tryd.prog 42 y.1).all (·≤reachBytes)=true→o.b.length≤140737488351232):=by
 obtain ⟨f0,f1,f2,f3,f4,hu,⟨t0,o0⟩,⟨t1,o1⟩,⟨t2,o2⟩,⟨t3,o3⟩,t4,o4⟩:=und42p
 obtain ⟨xs,m,_,hxy,hl,hxl,hx⟩:=DataW.trod_struct hu hf
 rw [cells42p] at hl
 match cs,hl,xs,hxl with
 | [v0,v1,v2,v3,v4,v5,v6,v7],_,[y0,y1,y2,y3,y4],_ =>
  have g0:=hx 0 f0 rfl
  have g1:=hx 1 f1 rfl
  have g2:=hx 2 f2 rfl
  have g3:=hx 3 f3 rfl
  have g4:=hx 4 f4 rfl
  simp only [t0,t1,t2,t3,t4,o0,o1,o2,o3,o4,cells3,cells9p,cells38,cells40p] at g0 g1 g2 g3 g4
  simp at g0 g1 g2 g3 g4
  obtain ⟨z0,rfl,i0⟩:=open_i64 g0
  obtain ⟨z1,rfl,i1⟩:=open_i64 g1
  obtain ⟨s,hs,_,_⟩:=DataW.trod_string Tryd.underlying9 g2
  simp at hs
  subst hs
  obtain ⟨id,hid,hid2⟩:=open_text s
  obtain ⟨l,hsl,hlw⟩:=open_bfield g3
  obtain ⟨x,hxc,hxo⟩:=open_place g4
  unfold Pq.cells plC at hxc
  simp at hxc
  obtain ⟨rfl,rfl,rfl,rfl⟩:=hxc
  refine ⟨⟨z0,z1,id,v3,l,x⟩,by rw [hid];rfl,⟨i0,i1,hid2,hsl,hxo⟩,fun hw=>hlw ?_⟩
  refine List.all_eq_true.2 fun z hz=>List.all_eq_true.1 hw z ?_
  have hd:=congrArg Prod.fst hxy
  simp only at hd
  rw [hd]
  simp only [DataW.weights,hu,List.map_cons,List.map_nil]
  refine DataW.weights_mem_each (j:=3) (t:=38) (d:=y3.1) ?_ rfl z hz
  show some f3.type=some 38
  rw [t3]
theorem opsNil (W:World):OpsIn W (.slice none 0 0) []:=⟨none,0,rfl,by decide,Or.inl rfl,fun x hx=>by cases hx⟩
set_option maxRecDepth 100000 in
theorem open_ops {H:Type} {enc:TypeId×Value→H} {W:World} {v:Value} {d:DataW H} {p:List MemPlace} {base:Nat}
  (hv:Value.okWide Tryd.prog W .any base 22 v) (h:DataW.Trod enc Tryd.prog W 0 (fun _=>true) true 22 v d p):∃L:List OpD,OpsIn W v L∧((DataW.weights Tryd.prog 22 d).all (·≤reachBytes)=true→∀o∈L,o.b.length≤140737488355328):=by
 obtain ⟨a0,len0,cap0,rfl⟩:=okWide_slice Tryd.underlying22 hv
 obtain ⟨fuel,hf⟩:=h
 rcases open_slice Tryd.underlying22 hf with ⟨hcs,_⟩|⟨a,len,cap,m,n,D,Pl,hcs,_,hl,hm,hmm,hx,hrow⟩
 ·simp [Value.cells] at hcs
  obtain ⟨rfl,rfl,rfl⟩:=hcs
  exact ⟨[],opsNil W,fun _ o ho=>by cases ho⟩
 ·simp [Value.cells] at hcs
  obtain ⟨rfl,rfl,rfl⟩:=hcs
  have hd:=congrArg Prod.fst hx
  simp only at hd
  have hlm:len0≤m:=by rw [hmm];split <;> omega
  have hmL:len0≤9223372036854775807:=by unfold maxLen at hm;omega
  obtain ⟨F,hF⟩:=choose_lt (α:=OpD) (n:=len0) (p:=fun i o=>W.cells? 0 (a.add (i * 8)) 8=some o.cells∧OpIn W o∧((DataW.weights Tryd.prog 42 (D i)).all (·≤reachBytes)=true→o.b.length≤140737488351232)) (fun i hi=>by
   obtain ⟨cs',h1,h2⟩:=hrow i (by omega)
   rw [cells42p] at h1
   obtain ⟨o,ho,hin,hw⟩:=open_op h2
   exact ⟨o,by rw [←ho];exact h1,hin,hw⟩)
  refine ⟨(List.range len0).map F,⟨some a,cap0,by simp,by simpa using hmL,?_,fun o ho => ?_⟩,fun hw o ho => ?_⟩
  ·by_cases h0:len0=0
   ·subst h0
    exact Or.inl (by simp)
   ·right
    obtain ⟨_,_,hcell0⟩:=World.cells?_some (hF 0 (by omega)).1
    have hplain:∃b off,a=⟨b,off,none⟩:=by
     have h1:=hcell0 0 (by omega)
     obtain ⟨ab,ao,sp⟩:=a
     have h1':W.cell? ⟨ab,ao,sp⟩=some (.int .i64 (F 0).k):=by
      simpa [Addr.add,OpD.cells] using h1
     have hsp:sp=none:=by simpa [Addr.add] using World.cell?_spot h1'
     subst hsp
     exact ⟨ab,ao,rfl⟩
    obtain ⟨b,off,rfl⟩:=hplain
    refine ⟨b,off,rfl,fun i hi j hj => ?_⟩
    rw [List.length_map,List.length_range] at hi
    obtain ⟨_,_,hcell⟩:=World.cells?_some (hF i hi).1
    have h1:=hcell j (by omega)
    rw [yB8,yB8] at h1
    have e:((List.range len0).map F).getD i default=F i:=by simp [hi]
    rw [e,←h1,Nat.add_assoc]
  ·obtain ⟨i,hi,rfl⟩:=List.mem_map.1 ho
   exact (hF i (List.mem_range.1 hi)).2.1
  ·obtain ⟨i,hi,rfl⟩:=List.mem_map.1 ho
   have h9:=(hF i (List.mem_range.1 hi)).2.2 ?_
   ·omega
   ·refine List.all_eq_true.2 fun z hz=>List.all_eq_true.1 hw z ?_
    rw [hd]
    simp only [DataW.weights,Tryd.underlying22]
    refine List.mem_cons_of_mem _ (List.mem_append_left _ ?_)
    refine weightsAll_memW (d:=D i) ?_ z hz
    exact List.mem_map.2 ⟨i,hi,rfl⟩
theorem reach_ops {H:Type} {ts:List TypeId} {ds:List (DataW H)} (h:(DataW.weightsEach Tryd.prog ts ds).all (·≤reachBytes)=true) {j:Nat} {d:DataW H} (ht:ts[j]? = some 22) (hd:ds[j]? = some d):(DataW.weights Tryd.prog 22 d).all (·≤reachBytes)=true :=
 List.all_eq_true.2 fun x hx=>List.all_eq_true.1 h _ (DataW.weights_mem_each ht hd x hx)
end Go.Proofs.YtpkkkkomdblpoaaDoor

namespace Go.Proofs.YtpkkkkomdblpoaaDoor.coldvolPlays
open Go.ChangeShapes Go.WideShapes Go.ChangeAt Go.RowKit
set_option maxRecDepth 100000 in
theorem contract (H:Type) (enc:TypeId×Value→H) (W:World) (base:Nat) (args:Array Value) (ds gs:List (DataW H)) (before:List MemPlace)
  (hval:∀(j:Nat) t v,Tryd.f3.params[j]? = some t→args[j]? = some v→Value.okWide Tryd.prog W .any base t v)
  (hW:DataW.Whole enc Tryd.prog Tryd.f3.params.toList Rows.coldvolPlaysSpec.vars false W args.toList ds gs before)
  (hsz:(DataW.weightsEach Tryd.prog (Tryd.f3.params.toList++(Rows.coldvolPlaysSpec.plain.varTypes Tryd.prog)) (ds++gs)).all (·≤reachBytes)=true)
  (hL:laidMetH Tryd.prog Rows.coldvolPlaysRow.laid W) :
  Calls Tryd.prog 3 args W fun e W' => ∃v,e = .returned v∧Rows.coldvolPlaysSpec.post enc Tryd.prog Tryd.f3 false true false false W args v W':=by
 have hW':=hW
 obtain ⟨p,q,hA0,hV,rfl,hfz,hnd⟩:=hW
 have hA:DataW.TrodAll enc Tryd.prog W 0 (fun _=>true) true Tryd.f3.params.toList args.toList ds p:=hA0
 rw [Tryd.params3] at hA hval hsz
 obtain ⟨v0,vs0,d0,ds0,p0,q0,hargs,rfl,rfl,h0,r0⟩:=trodAll_cons hA
 obtain ⟨v1,vs1,d1,ds1,p1,q1,rfl,rfl,rfl,h1,r1⟩:=trodAll_cons r0
 obtain ⟨rfl,rfl,rfl⟩:=trodAll_nil r1
 obtain rfl:args=#[v0,v1]:=by cases args;simp_all
 obtain ⟨rfl,rfl⟩:=trodVars_none hV
 obtain ⟨a0,rfl,rfl,rfl,w0⟩:=open_int Tryd.underlying3 (hval 0 3 v0 rfl rfl) h0
 have b0 : -9223372036854775808≤a0∧a0≤9223372036854775807:=by
  simpa [Lit.wf,IntKind.min,IntKind.max,IntKind.signed,IntKind.bits] using w0
 have lt1:∀x∈p1,x.block<W.heap.size:=by obtain ⟨m,hm⟩:=h1;exact DataW.trod_lt m _ _ _ hm
 obtain ⟨l1,hs1⟩:=open_ops (hval 1 22 v1 rfl rfl) h1
 clear hA0
 have henv:=tabs_of hL
 have walk:=coldvolPlays_any W henv (env_size henv) a0 b0 v1 l1 hs1.1 (hs1.2 (reach_ops hsz (j:=1) rfl rfl))
 refine walk.mono fun e W' ⟨he,bel⟩ => ?_
 subst he
 exact ⟨_,rfl,_,_,_,[],_,[],hW',trodAll_mk1 (shut_bool Tryd.underlying4 _),(trodAll_cons_mk (shut_int Tryd.underlying3 w0) (trodAll_cons_mk (Below.trod laidOut (by kernel_rfl) (of_decide_eq_true (by kernel_rfl)) h1 bel lt1) trodAll_mk0)),rfl,bel.frame _,fun h=>by cases h⟩
theorem laid_met (os:Os):laidMet Tryd.prog Rows.coldvolPlaysRow.laid ((laidOn (World.holding Tryd.prog os ⟨#[],#[],[]⟩)).forCall (fun _ _=>0) ⟨#[],#[.int .i64 0,.slice none 0 0],[]⟩).memory :=
 laidMet_of_run' 8 (by kernel_rfl) (by kernel_rfl)
theorem reads (os:Os) {H:Type} (enc:TypeId×Value→H):∃places,DataW.whole enc Tryd.prog ((laidOn (World.holding Tryd.prog os ⟨#[],#[],[]⟩)).forCall (fun _ _=>0) ⟨#[],#[.int .i64 0,.slice none 0 0],[]⟩).memory Tryd.f3.params.toList Rows.coldvolPlaysSpec.vars false #[Value.int .i64 0,.slice none 0 0].toList 8=some ([.lit (.int .i64 0),.nil],[],places) :=
 ⟨[],by kernel_rfl⟩
set_option maxRecDepth 100000 in
theorem lifted (os:Os) (started:os.Started) (H:Type) (enc:TypeId×Value→H) (F:Stop.Interp) :
  ReturnsInHanded {} Tryd.checked os 3 .any ((OpenSpec.ofChange Rows.coldvolPlaysSpec).preRow enc Tryd.prog Tryd.f3 Rows.coldvolPlaysRow.domain false Rows.coldvolPlaysRow.laid) (((OpenSpec.ofChange Rows.coldvolPlaysSpec).at F).post enc Tryd.prog Tryd.f3 false true false false):=by
 obtain ⟨places,hx⟩:=reads os enc
 refine returnsInHanded_of_row (C:=Tryd.checked) (s:=OpenSpec.ofChange Rows.coldvolPlaysSpec) own started (by kernel_rfl) Tryd.func3
  (witness_row_at (enc:=enc) (C:=Tryd.checked) false (laidOn (World.holding Tryd.prog os ⟨#[],#[],[]⟩)) #[.int .i64 0,.slice none 0 0] rfl (by kernel_rfl) (by kernel_rfl) (by kernel_rfl)
   (OpenSpec.preRow_of_cond 8 hx (by kernel_rfl) (fun k hk=>by cases hk) (by kernel_rfl) (laid_met os))) ?_
 intro W base args ds gs before hval hW _ _ hsz hL _ _
 exact contract H enc W base args ds gs before hval hW hsz hL
theorem said:Rows.ColdvolPlaysSaid :=
 OpenClaim.holds_of_cond 3 Tryd.f3 rfl rfl rfl rfl rfl rfl rfl ⟨rfl,rfl,rfl,rfl,rfl⟩ rfl rfl rfl rfl rfl (by kernel_rfl) Tryd.func3 (by kernel_rfl)
  (of_decide_eq_true (by kernel_rfl)) (by unfold Func.isWrapper;first|(rw [if_pos (by decide +kernel)];kernel_rfl)|(rw [if_neg (by decide +kernel)];exact ⟨rfl,rfl⟩))
  (fun os started H enc _ F=>by rw [OpenClaim.pre_eq_preRow];exact lifted os started H enc F)
theorem plain (f:FuncId) (fn:Func) (hf:Tryd.pinned.checked.prog.funcNamed "muniment/munimentlaw15.ColdvolPlays" = some f) (hfn:Tryd.pinned.checked.prog.funcs[f]? = some fn) :
  false=Tryd.pinned.checked.prog.looks []∧∀(j:Nat) t,fn.params[j]? = some t→Tryd.pinned.checked.prog.wantsStandIn t=false:=by
 obtain rfl:f=3:=Option.some.inj ((show Tryd.prog.funcNamed "muniment/munimentlaw15.ColdvolPlays" = some 3 by kernel_rfl).symm.trans hf) |>.symm
 obtain rfl:fn=Tryd.f3:=(Option.some.inj (Tryd.func3.symm.trans hfn)).symm
 refine ⟨by kernel_rfl,fun j t ht => ?_⟩
 rw [Tryd.params3] at ht
 have hm:=Array.mem_of_getElem? ht
 have:t=3∨t=22:=by simpa using hm
 rcases this with rfl|rfl
 ·exact (show Tryd.prog.wantsStandIn 3=false by kernel_rfl)
 ·exact (show Tryd.prog.wantsStandIn 22=false by kernel_rfl)
end Go.Proofs.YtpkkkkomdblpoaaDoor.coldvolPlays
namespace Go.Proofs.YtpkkkkomdblpoaaDoor
theorem coldvolPlays_card:Rows.ColdvolPlaysCardSaid :=
 Claim7.holds_tied_plain_at .later [] _ _ _ _ coldvolPlays.said (fun _ h=>by cases h) (by kernel_rfl) (fun _ h=>by cases h) coldvolPlays_row_tie rfl ⟨rfl,rfl⟩ (by kernel_rfl) rfl coldvolPlays.plain (by kernel_rfl)
end Go.Proofs.YtpkkkkomdblpoaaDoor

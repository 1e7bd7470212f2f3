/- Layer 15: rows of bytes that come in, each within the form's own reach. Layer 15: calls that come in. Layer 15: what a boot is to keep, as it comes in. Layer 15: how many calls came in. For every tape, every list of calls and every choice of what a loss of power keeps: what a volume has flushed is there after the boot, and what it says then is so: the law ColdvolCrashes returns true and changes nothing that was there. No condition but the form's own reach; the tables crc.halves, sha.start and sha.constants start as the program's text lays them (the card ties them). -/
import Derived.Test.YtpkkkkomdblpoaaDoorS41
import Derived.Test.YtpkkkkomdblpoaaDoorS40
import Derived.Shelf.Spec.RuneCount
import Derived.Test.YtpkkkkomdblpoaaDoorS39


namespace Go.Proofs.YtpkkkkomdblpoaaDoor
open Go.ChangeShapes Go.WideShapes Go.ChangeAt Go.RowKit Go.Deep
theorem weightsAll_memW {H:Type} {P:Program} {e:TypeId} {d:DataW H} {l:List (DataW H)} (h:d∈l):∀n∈d.weights P e,n∈DataW.weightsAll P e l:=by
 induction l with
 | nil=>cases h
 | cons x l ih =>
  intro n hn
  simp only [DataW.weightsAll,List.mem_append]
  rcases List.mem_cons.1 h with rfl|h
  ·exact Or.inl hn
  ·exact Or.inr (ih h n hn)
end Go.Proofs.YtpkkkkomdblpoaaDoor

namespace Go.Proofs.YtpkkkkomdblpoaaDoor
open Cold Go.ChangeShapes Go.WideShapes Go.ChangeAt Go.RowKit Go.Deep
theorem cells9p:Tryd.prog.cellsOf 9=1:=by kernel_rfl
theorem cells42p:Tryd.prog.cellsOf 42=8:=by kernel_rfl
theorem und42p:∃f0 f1 f2 f3 f4:Field,Tryd.prog.underlying 42=some (.struct #[f0,f1,f2,f3,f4])∧(f0.type=3∧f0.offset=0)∧(f1.type=3∧f1.offset=1)∧(f2.type=9∧f2.offset=2)∧(f3.type=38∧f3.offset=3)∧(f4.type=40∧f4.offset=4) :=
 ⟨_,_,_,_,_,Tryd.underlying42,⟨rfl,rfl⟩,⟨rfl,rfl⟩,⟨rfl,rfl⟩,⟨rfl,rfl⟩,rfl,rfl⟩
theorem open_text (s:ByteArray):∃id:List Nat,Value.string s=str id∧∀c∈id,c<256:=by
 refine ⟨s.data.toList.map (·.toNat),?_,fun c hc => ?_⟩
 ·unfold str
  rw [List.map_map]
  have:=strOfNums_bytes s
  exact congrArg Value.string this.symm
 ·obtain ⟨x,_,rfl⟩:=List.mem_map.1 hc
  exact x.toNat_lt
set_option maxRecDepth 100000 in
theorem open_bfield {H:Type} {enc:TypeId×Value→H} {W:World} {v:Value} {y:DataW H×List MemPlace} {n:Nat}
  (hf:DataW.trod enc Tryd.prog W 0 (fun _=>true) true n 38 [v]=some y):∃l:List Nat,yA2 W v l∧((DataW.weights Tryd.prog 38 y.1).all (·≤reachBytes)=true→l.length≤140737488351232):=by
 rcases open_ints Tryd.underlying38 Tryd.underlying5 cells5 hf with ⟨hcs,_⟩|⟨x,l,c,zs,hcs,_,hl,hm,hz,hx,hcell,hwz⟩
 ·simp at hcs
  subst hcs
  exact ⟨[],⟨none,0,rfl,by decide,Or.inl rfl⟩,fun _=>Nat.zero_le _⟩
 ·simp at hcs
  subst hcs
  unfold maxLen at hm
  have hz':zs.length=c:=by simpa using hz
  have hbd:∀z∈zs,0≤z∧z≤255:=fun z hz=>by
   have:=hwz z hz
   simpa [Lit.wf,IntKind.min,IntKind.max,IntKind.signed,IntKind.bits] using this
  have hgl:((zs.take l).map Int.toNat).length=l:=by simp;omega
  refine ⟨(zs.take l).map Int.toNat,?_,fun hw => ?_⟩
  ·by_cases h0:l=0
   ·subst h0
    exact ⟨some x,c,rfl,⟨by simp,by simp⟩,Or.inl (by simp)⟩
   ·obtain ⟨b,off,rfl,hc⟩:=ints_at hcell (by omega)
    refine ⟨some ⟨b,off,none⟩,c,by rw [hgl],⟨by omega,by omega⟩,Or.inr ⟨b,off,rfl,fun j hj => ?_,fun j => ?_⟩⟩
    ·rw [hgl] at hj
     have hj':j<zs.length:=by omega
     rw [hc j hj']
     have h2:=hbd zs[j] (List.getElem_mem hj')
     simp [hj,hj',Int.toNat_of_nonneg h2.1]
    ·by_cases hj:j<((zs.take l).map Int.toNat).length
     ·have hz:=List.getElem_mem hj
      obtain ⟨y,hy,e⟩:=List.mem_map.1 hz
      have:=hbd y (List.mem_of_mem_take hy)
      have e2:((zs.take l).map Int.toNat).getD j 0=((zs.take l).map Int.toNat)[j]:=by rw [List.getD_eq_getElem?_getD,List.getElem?_eq_getElem hj];rfl
      rw [e2,←e]
      omega
     ·rw [List.getD_eq_getElem?_getD,List.getElem?_eq_none (by omega)]
      decide
  ·rw [hgl]
   have hd:=congrArg Prod.fst hx
   simp only at hd
   rw [hd] at hw
   have h2:=List.all_eq_true.1 hw ((lits (H:=H) .u8 (zs.take l)).length+(lits (H:=H) .u8 (zs.drop l)).length) (by
    simp only [DataW.weights,Tryd.underlying38,show Tryd.prog.bytesOf 5=1 by kernel_rfl,Nat.mul_one]
    exact List.mem_cons_self ..)
   have h3:(lits (H:=H) .u8 (zs.take l)).length=l:=by simp [lits];omega
   have h4:((lits (H:=H) .u8 (zs.take l)).length+(lits (H:=H) .u8 (zs.drop l)).length)≤reachBytes:=by simpa using h2
   unfold reachBytes at h4
   omega
set_option maxRecDepth 100000 in
theorem open_op {H:Type} {enc:TypeId×Value→H} {W:World} {cs:List Value} {y:DataW H×List MemPlace} {n:Nat} (hf:DataW.trod enc Tryd.prog W 0 (fun _=>true) true n 42 cs=some y):∃o:OpD,cs=o.cells∧OpIn W o∧((DataW.weights Tryd.prog 42 y.1).all (·≤reachBytes)=true→o.b.length≤140737488351232):=by
 obtain ⟨f0,f1,f2,f3,f4,hu,⟨t0,o0⟩,⟨t1,o1⟩,⟨t2,o2⟩,⟨t3,o3⟩,t4,o4⟩:=und42p
 obtain ⟨xs,m,_,hxy,hl,hxl,hx⟩:=DataW.trod_struct hu hf
 rw [cells42p] at hl
 match cs,hl,xs,hxl with
 | [v0,v1,v2,v3,v4,v5,v6,v7],_,[y0,y1,y2,y3,y4],_ =>
  have g0:=hx 0 f0 rfl
  have g1:=hx 1 f1 rfl
  have g2:=hx 2 f2 rfl
  have g3:=hx 3 f3 rfl
  have g4:=hx 4 f4 rfl
  simp only [t0,t1,t2,t3,t4,o0,o1,o2,o3,o4,cells3,cells9p,cells38,cells40p] at g0 g1 g2 g3 g4
  simp at g0 g1 g2 g3 g4
  obtain ⟨z0,rfl,i0⟩:=open_i64 g0
  obtain ⟨z1,rfl,i1⟩:=open_i64 g1
  obtain ⟨s,hs,_,_⟩:=DataW.trod_string Tryd.underlying9 g2
  simp at hs
  subst hs
  obtain ⟨id,hid,hid2⟩:=open_text s
  obtain ⟨l,hsl,hlw⟩:=open_bfield g3
  obtain ⟨x,hxc,hxo⟩:=open_place g4
  unfold Pq.cells plC at hxc
  simp at hxc
  obtain ⟨rfl,rfl,rfl,rfl⟩:=hxc
  refine ⟨⟨z0,z1,id,v3,l,x⟩,by rw [hid];rfl,⟨i0,i1,hid2,hsl,hxo⟩,fun hw=>hlw ?_⟩
  refine List.all_eq_true.2 fun z hz=>List.all_eq_true.1 hw z ?_
  have hd:=congrArg Prod.fst hxy
  simp only at hd
  rw [hd]
  simp only [DataW.weights,hu,List.map_cons,List.map_nil]
  refine DataW.weights_mem_each (j:=3) (t:=38) (d:=y3.1) ?_ rfl z hz
  show some f3.type=some 38
  rw [t3]
theorem opsNil (W:World):OpsIn W (.slice none 0 0) []:=⟨none,0,rfl,by decide,Or.inl rfl,fun x hx=>by cases hx⟩
set_option maxRecDepth 100000 in
theorem open_ops {H:Type} {enc:TypeId×Value→H} {W:World} {v:Value} {d:DataW H} {p:List MemPlace} {base:Nat}
  (hv:Value.okWide Tryd.prog W .any base 22 v) (h:DataW.Trod enc Tryd.prog W 0 (fun _=>true) true 22 v d p):∃L:List OpD,OpsIn W v L∧((DataW.weights Tryd.prog 22 d).all (·≤reachBytes)=true→∀o∈L,o.b.length≤140737488355328):=by
 obtain ⟨a0,len0,cap0,rfl⟩:=okWide_slice Tryd.underlying22 hv
 obtain ⟨fuel,hf⟩:=h
 rcases open_slice Tryd.underlying22 hf with ⟨hcs,_⟩|⟨a,len,cap,m,n,D,Pl,hcs,_,hl,hm,hmm,hx,hrow⟩
 ·simp [Value.cells] at hcs
  obtain ⟨rfl,rfl,rfl⟩:=hcs
  exact ⟨[],opsNil W,fun _ o ho=>by cases ho⟩
 ·simp [Value.cells] at hcs
  obtain ⟨rfl,rfl,rfl⟩:=hcs
  have hd:=congrArg Prod.fst hx
  simp only at hd
  have hlm:len0≤m:=by rw [hmm];split <;> omega
  have hmL:len0≤9223372036854775807:=by unfold maxLen at hm;omega
  obtain ⟨F,hF⟩:=choose_lt (α:=OpD) (n:=len0) (p:=fun i o=>W.cells? 0 (a.add (i * 8)) 8=some o.cells∧OpIn W o∧((DataW.weights Tryd.prog 42 (D i)).all (·≤reachBytes)=true→o.b.length≤140737488351232)) (fun i hi=>by
   obtain ⟨cs',h1,h2⟩:=hrow i (by omega)
   rw [cells42p] at h1
   obtain ⟨o,ho,hin,hw⟩:=open_op h2
   exact ⟨o,by rw [←ho];exact h1,hin,hw⟩)
  refine ⟨(List.range len0).map F,⟨some a,cap0,by simp,by simpa using hmL,?_,fun o ho => ?_⟩,fun hw o ho => ?_⟩
  ·by_cases h0:len0=0
   ·subst h0
    exact Or.inl (by simp)
   ·right
    obtain ⟨_,_,hcell0⟩:=World.cells?_some (hF 0 (by omega)).1
    have hplain:∃b off,a=⟨b,off,none⟩:=by
     have h1:=hcell0 0 (by omega)
     obtain ⟨ab,ao,sp⟩:=a
     have h1':W.cell? ⟨ab,ao,sp⟩=some (.int .i64 (F 0).k):=by
      simpa [Addr.add,OpD.cells] using h1
     have hsp:sp=none:=by simpa [Addr.add] using World.cell?_spot h1'
     subst hsp
     exact ⟨ab,ao,rfl⟩
    obtain ⟨b,off,rfl⟩:=hplain
    refine ⟨b,off,rfl,fun i hi j hj => ?_⟩
    rw [List.length_map,List.length_range] at hi
    obtain ⟨_,_,hcell⟩:=World.cells?_some (hF i hi).1
    have h1:=hcell j (by omega)
    rw [yB7,yB7] at h1
    have e:((List.range len0).map F).getD i default=F i:=by simp [hi]
    rw [e,←h1,Nat.add_assoc]
  ·obtain ⟨i,hi,rfl⟩:=List.mem_map.1 ho
   exact (hF i (List.mem_range.1 hi)).2.1
  ·obtain ⟨i,hi,rfl⟩:=List.mem_map.1 ho
   have h9:=(hF i (List.mem_range.1 hi)).2.2 ?_
   ·omega
   ·refine List.all_eq_true.2 fun z hz=>List.all_eq_true.1 hw z ?_
    rw [hd]
    simp only [DataW.weights,Tryd.underlying22]
    refine List.mem_cons_of_mem _ (List.mem_append_left _ ?_)
    refine weightsAll_memW (d:=D i) ?_ z hz
    exact List.mem_map.2 ⟨i,hi,rfl⟩
theorem reach_ops {H:Type} {ts:List TypeId} {ds:List (DataW H)} (h:(DataW.weightsEach Tryd.prog ts ds).all (·≤reachBytes)=true) {j:Nat} {d:DataW H} (ht:ts[j]? = some 22) (hd:ds[j]? = some d):(DataW.weights Tryd.prog 22 d).all (·≤reachBytes)=true :=
 List.all_eq_true.2 fun x hx=>List.all_eq_true.1 h _ (DataW.weights_mem_each ht hd x hx)
end Go.Proofs.YtpkkkkomdblpoaaDoor

namespace Go.Proofs.YtpkkkkomdblpoaaDoor
open Cold Go.ChangeShapes Go.WideShapes Go.ChangeAt Go.RowKit Go.Deep
theorem cells28p:Tryd.prog.cellsOf 28=1:=by kernel_rfl
set_option maxRecDepth 100000 in
theorem open_keep {H:Type} {enc:TypeId×Value→H} {W:World} {v:Value} {d:DataW H} {p:List MemPlace} {base:Nat}
  (hv:Value.okWide Tryd.prog W .any base 61 v) (h:DataW.Trod enc Tryd.prog W 0 (fun _=>true) true 61 v d p):∃k0 k1 d0 d1,v = .agg #[k0,k1]∧d = .agg [d0,d1]∧(∃l:List Int,(l.length<4611686018427387904→IntsIn W k0 l)∧(l=[]∨∃elems spare,d0 = .slice elems spare∧elems.length=l.length))∧(∃l:List Int,(l.length<4611686018427387904→IntsIn W k1 l)∧(l=[]∨∃elems spare,d1 = .slice elems spare∧elems.length=l.length)):=by
 simp only [Value.okWide,Tryd.underlying61] at hv
 obtain ⟨cs,rfl,hsz,_⟩:=hv
 obtain ⟨fuel,hf⟩:=h
 obtain ⟨xs,m,_,hx,hl,hxl,hfs⟩:=DataW.trod_array Tryd.underlying61 hf
 have h2:cs.size=2:=by
  have h9:Tryd.prog.cellsOf 61=2:=by kernel_rfl
  rw [h9] at hl
  simpa [Value.cells] using hl
 obtain ⟨l,rfl⟩:∃l:List Value,cs=l.toArray:=⟨cs.toList,by simp⟩
 have h3:l.length=2:=by simpa using h2
 match l,h3,xs,hxl with
 | [k0,k1],_,[y0,y1],_ =>
  have g0:=hfs 0 (by decide)
  have g1:=hfs 1 (by decide)
  rw [cells28p] at g0 g1
  simp [Value.cells] at g0 g1
  have hd:=congrArg Prod.fst hx
  simp only at hd
  exact ⟨k0,k1,y0.1,y1.1,rfl,by rw [hd];rfl,open_field g0,open_field g1⟩
theorem reach_keep {H:Type} {ts:List TypeId} {ds:List (DataW H)} (h:(DataW.weightsEach Tryd.prog ts ds).all (·≤reachBytes)=true) {j:Nat} {d0 d1:DataW H} (ht:ts[j]? = some 61) (hd:ds[j]? = some (.agg [d0,d1])) {l:List Int} {d:DataW H} (hm:d=d0∨d=d1)
  (hc:l=[]∨∃elems spare,d = .slice elems spare∧elems.length=l.length):l.length<4611686018427387904:=by
 rcases hc with rfl|⟨elems,spare,rfl,hl⟩
 ·decide
 ·have h1:(elems.length+spare.length) * 8∈DataW.weights Tryd.prog 28 (.slice elems spare):=by
   simp only [DataW.weights,Tryd.underlying28,bytes3]
   exact List.mem_cons_self ..
  have h2:(elems.length+spare.length) * 8∈DataW.weights Tryd.prog 61 (.agg [d0,d1]):=by
   simp only [DataW.weights,Tryd.underlying61]
   refine weightsAll_memW (d:=.slice elems spare) ?_ _ h1
   rcases hm with e|e
   ·rw [e];exact List.mem_cons_self ..
   ·rw [e];exact List.mem_cons_of_mem _ (List.mem_cons_self ..)
  have h3:=List.all_eq_true.1 h _ (DataW.weights_mem_each ht hd _ h2)
  have h4:(elems.length+spare.length) * 8≤reachBytes:=by simpa using h3
  unfold reachBytes at h4
  omega
end Go.Proofs.YtpkkkkomdblpoaaDoor

namespace Go.Proofs.YtpkkkkomdblpoaaDoor
open Cold Go.ChangeShapes Go.WideShapes Go.ChangeAt Go.RowKit Go.Deep
set_option maxRecDepth 100000 in
theorem ops_len {H:Type} {enc:TypeId×Value→H} {W:World} {v:Value} {d:DataW H} {p:List MemPlace} {base:Nat}
  (hv:Value.okWide Tryd.prog W .any base 22 v) (h:DataW.Trod enc Tryd.prog W 0 (fun _=>true) true 22 v d p) {L:List OpD} (hL:OpsIn W v L):L=[]∨∃elems spare,d = .slice elems spare∧elems.length=L.length:=by
 obtain ⟨a0,len0,cap0,rfl⟩:=okWide_slice Tryd.underlying22 hv
 obtain ⟨q,cap,hq,_⟩:=hL
 obtain ⟨rfl,rfl,rfl⟩:a0=q∧len0=L.length∧cap0=cap:=by simpa using hq
 obtain ⟨fuel,hf⟩:=h
 rcases open_slice Tryd.underlying22 hf with ⟨hcs,_⟩|⟨a,len,cap,m,n,D,Pl,hcs,_,hl,hm,hmm,hx,hrow⟩
 ·simp [Value.cells] at hcs
  exact Or.inl hcs.2.1
 ·simp [Value.cells] at hcs
  have hd:=congrArg Prod.fst hx
  simp only at hd
  exact Or.inr ⟨_,_,hd,by simp [hcs.2.1]⟩
theorem reach_ops_len {H:Type} {ts:List TypeId} {ds:List (DataW H)} (h:(DataW.weightsEach Tryd.prog ts ds).all (·≤reachBytes)=true) {j:Nat} {d:DataW H} (ht:ts[j]? = some 22) (hd:ds[j]? = some d) {L:List OpD} (hc:L=[]∨∃elems spare,d = .slice elems spare∧elems.length=L.length):L.length≤1599289640355:=by
 rcases hc with rfl|⟨elems,spare,rfl,hl⟩
 ·exact Nat.zero_le _
 ·have h9:=sized_slice h ht hd Tryd.underlying22
  rw [show Tryd.prog.bytesOf 42=88 by kernel_rfl] at h9
  unfold reachBytes at h9
  omega
end Go.Proofs.YtpkkkkomdblpoaaDoor

namespace Go.Proofs.YtpkkkkomdblpoaaDoor.coldvolCrashes
open Go.ChangeShapes Go.WideShapes Go.ChangeAt Go.RowKit
set_option maxRecDepth 100000 in
theorem contract (H:Type) (enc:TypeId×Value→H) (W:World) (base:Nat) (args:Array Value) (ds gs:List (DataW H)) (before:List MemPlace)
  (hval:∀(j:Nat) t v,Tryd.f4.params[j]? = some t→args[j]? = some v→Value.okWide Tryd.prog W .any base t v)
  (hW:DataW.Whole enc Tryd.prog Tryd.f4.params.toList Rows.coldvolCrashesSpec.vars false W args.toList ds gs before)
  (hsz:(DataW.weightsEach Tryd.prog (Tryd.f4.params.toList++(Rows.coldvolCrashesSpec.plain.varTypes Tryd.prog)) (ds++gs)).all (·≤reachBytes)=true)
  (hL:laidMetH Tryd.prog Rows.coldvolCrashesRow.laid W) :
  Calls Tryd.prog 4 args W fun e W' => ∃v,e = .returned v∧Rows.coldvolCrashesSpec.post enc Tryd.prog Tryd.f4 false true false false W args v W':=by
 have hW':=hW
 obtain ⟨p,q,hA0,hV,rfl,hfz,hnd⟩:=hW
 have hA:DataW.TrodAll enc Tryd.prog W 0 (fun _=>true) true Tryd.f4.params.toList args.toList ds p:=hA0
 rw [Tryd.params4] at hA hval hsz
 obtain ⟨v0,vs0,d0,ds0,p0,q0,hargs,rfl,rfl,h0,r0⟩:=trodAll_cons hA
 obtain ⟨v1,vs1,d1,ds1,p1,q1,rfl,rfl,rfl,h1,r1⟩:=trodAll_cons r0
 obtain ⟨v2,vs2,d2,ds2,p2,q2,rfl,rfl,rfl,h2,r2⟩:=trodAll_cons r1
 obtain ⟨rfl,rfl,rfl⟩:=trodAll_nil r2
 obtain rfl:args=#[v0,v1,v2]:=by cases args;simp_all
 obtain ⟨rfl,rfl⟩:=trodVars_none hV
 obtain ⟨a0,rfl,rfl,rfl,w0⟩:=open_int Tryd.underlying3 (hval 0 3 v0 rfl rfl) h0
 have b0 : -9223372036854775808≤a0∧a0≤9223372036854775807:=by
  simpa [Lit.wf,IntKind.min,IntKind.max,IntKind.signed,IntKind.bits] using w0
 have lt1:∀x∈p1,x.block<W.heap.size:=by obtain ⟨m,hm⟩:=h1;exact DataW.trod_lt m _ _ _ hm
 obtain ⟨l1,hs1⟩:=open_ops (hval 1 22 v1 rfl rfl) h1
 have lt2:∀x∈p2,x.block<W.heap.size:=by obtain ⟨m,hm⟩:=h2;exact DataW.trod_lt m _ _ _ hm
 obtain ⟨k0,k1,da,db,rfl,rfl,⟨ka,hka⟩,kb,hkb⟩:=open_keep (hval 2 61 v2 rfl rfl) h2
 clear hA0
 have henv:=tabs_of hL
 have hul:=reach_ops_len hsz (j:=1) rfl rfl (ops_len (hval 1 22 v1 rfl rfl) h1 hs1.1)
 have walk:=coldvolCrashes_any W henv (env_size henv) a0 b0 v1 k0 k1 l1 hs1.1 (hs1.2 (reach_ops hsz (j:=1) rfl rfl)) (by omega) _ _ (hka.1 (reach_keep hsz (j:=2) rfl rfl (Or.inl rfl) hka.2)) (hkb.1 (reach_keep hsz (j:=2) rfl rfl (Or.inr rfl) hkb.2))
 refine walk.mono fun e W' ⟨he,bel⟩ => ?_
 subst he
 exact ⟨_,rfl,_,_,_,[],_,[],hW',trodAll_mk1 (shut_bool Tryd.underlying4 _),(trodAll_cons_mk (shut_int Tryd.underlying3 w0) (trodAll_cons_mk (Below.trod laidOut (by kernel_rfl) (of_decide_eq_true (by kernel_rfl)) h1 bel lt1) (trodAll_cons_mk (Below.trod laidOut (by kernel_rfl) (of_decide_eq_true (by kernel_rfl)) h2 bel lt2) trodAll_mk0))),rfl,bel.frame _,fun h=>by cases h⟩
theorem laid_met (os:Os):laidMet Tryd.prog Rows.coldvolCrashesRow.laid ((laidOn (World.holding Tryd.prog os ⟨#[],#[],[]⟩)).forCall (fun _ _=>0) ⟨#[],#[.int .i64 0,.slice none 0 0,.agg #[.slice none 0 0,.slice none 0 0]],[]⟩).memory :=
 laidMet_of_run' 8 (by kernel_rfl) (by kernel_rfl)
theorem reads (os:Os) {H:Type} (enc:TypeId×Value→H):∃places,DataW.whole enc Tryd.prog ((laidOn (World.holding Tryd.prog os ⟨#[],#[],[]⟩)).forCall (fun _ _=>0) ⟨#[],#[.int .i64 0,.slice none 0 0,.agg #[.slice none 0 0,.slice none 0 0]],[]⟩).memory Tryd.f4.params.toList Rows.coldvolCrashesSpec.vars false #[Value.int .i64 0,.slice none 0 0,.agg #[.slice none 0 0,.slice none 0 0]].toList 8=some ([.lit (.int .i64 0),.nil,.agg [.nil,.nil]],[],places) :=
 ⟨[],by kernel_rfl⟩
set_option maxRecDepth 100000 in
theorem lifted (os:Os) (started:os.Started) (H:Type) (enc:TypeId×Value→H) (F:Stop.Interp) :
  ReturnsInHanded {} Tryd.checked os 4 .any ((OpenSpec.ofChange Rows.coldvolCrashesSpec).preRow enc Tryd.prog Tryd.f4 Rows.coldvolCrashesRow.domain false Rows.coldvolCrashesRow.laid) (((OpenSpec.ofChange Rows.coldvolCrashesSpec).at F).post enc Tryd.prog Tryd.f4 false true false false):=by
 obtain ⟨places,hx⟩:=reads os enc
 refine returnsInHanded_of_row (C:=Tryd.checked) (s:=OpenSpec.ofChange Rows.coldvolCrashesSpec) own started (by kernel_rfl) Tryd.func4
  (witness_row_at (enc:=enc) (C:=Tryd.checked) false (laidOn (World.holding Tryd.prog os ⟨#[],#[],[]⟩)) #[.int .i64 0,.slice none 0 0,.agg #[.slice none 0 0,.slice none 0 0]] rfl (by kernel_rfl) (by kernel_rfl) (by kernel_rfl)
   (OpenSpec.preRow_of_cond 8 hx (by kernel_rfl) (fun k hk=>by cases hk) (by kernel_rfl) (laid_met os))) ?_
 intro W base args ds gs before hval hW _ _ hsz hL _ _
 exact contract H enc W base args ds gs before hval hW hsz hL
theorem said:Rows.ColdvolCrashesSaid :=
 OpenClaim.holds_of_cond 4 Tryd.f4 rfl rfl rfl rfl rfl rfl rfl ⟨rfl,rfl,rfl,rfl,rfl⟩ rfl rfl rfl rfl rfl (by kernel_rfl) Tryd.func4 (by kernel_rfl)
  (of_decide_eq_true (by kernel_rfl)) (by unfold Func.isWrapper;first|(rw [if_pos (by decide +kernel)];kernel_rfl)|(rw [if_neg (by decide +kernel)];exact ⟨rfl,rfl⟩))
  (fun os started H enc _ F=>by rw [OpenClaim.pre_eq_preRow];exact lifted os started H enc F)
theorem plain (f:FuncId) (fn:Func) (hf:Tryd.pinned.checked.prog.funcNamed "muniment/munimentlaw15.ColdvolCrashes" = some f) (hfn:Tryd.pinned.checked.prog.funcs[f]? = some fn) :
  false=Tryd.pinned.checked.prog.looks []∧∀(j:Nat) t,fn.params[j]? = some t→Tryd.pinned.checked.prog.wantsStandIn t=false:=by
 obtain rfl:f=4:=Option.some.inj ((show Tryd.prog.funcNamed "muniment/munimentlaw15.ColdvolCrashes" = some 4 by kernel_rfl).symm.trans hf) |>.symm
 obtain rfl:fn=Tryd.f4:=(Option.some.inj (Tryd.func4.symm.trans hfn)).symm
 refine ⟨by kernel_rfl,fun j t ht => ?_⟩
 rw [Tryd.params4] at ht
 have hm:=Array.mem_of_getElem? ht
 have:t=3∨t=22∨t=61:=by simpa using hm
 rcases this with rfl|rfl|rfl
 ·exact (show Tryd.prog.wantsStandIn 3=false by kernel_rfl)
 ·exact (show Tryd.prog.wantsStandIn 22=false by kernel_rfl)
 ·exact (show Tryd.prog.wantsStandIn 61=false by kernel_rfl)
end Go.Proofs.YtpkkkkomdblpoaaDoor.coldvolCrashes
namespace Go.Proofs.YtpkkkkomdblpoaaDoor
theorem coldvolCrashes_card:Rows.ColdvolCrashesCardSaid :=
 Claim7.holds_tied_plain_at .later [] _ _ _ _ coldvolCrashes.said (fun _ h=>by cases h) (by kernel_rfl) (fun _ h=>by cases h) coldvolCrashes_row_tie rfl ⟨rfl,rfl⟩ (by kernel_rfl) rfl coldvolCrashes.plain (by kernel_rfl)
end Go.Proofs.YtpkkkkomdblpoaaDoor

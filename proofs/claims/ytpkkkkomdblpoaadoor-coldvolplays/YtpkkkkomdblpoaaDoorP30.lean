/- Layer 15: List. Layer 15: Seal. -/
import Derived.Test.YtpkkkkomdblpoaaDoorP29
namespace Go.Proofs.YtpkkkkomdblpoaaDoor
open Go.RowKit Go.Maps
open Cold
theorem CAll.rep {n:Nat} {z:List Value} (h:z.length=n∧∀v∈z,v.oneCell'=true) (k:Nat):CAll n (List.replicate k z):=fun b hb=>by
 rw [(List.mem_replicate.1 hb).2]
 exact h
theorem flatC_set {n:Nat} {L:List (List Value)} (h:CAll n L) (k:Nat) (hk:k<L.length) (b:List Value) (hb:b.length=n):splice L.flatten (k * n) b=(L.set k b).flatten:=by
 induction L generalizing k with
 | nil=>simp at hk
 | cons x xs ih =>
  have hx:=(h x (List.mem_cons_self ..)).1
  cases k with
  | zero =>
   unfold splice
   rw [Nat.zero_mul,List.take_zero,List.nil_append,List.flatten_cons,Nat.zero_add,hb,←hx,List.drop_left,List.set_cons_zero,List.flatten_cons]
  | succ k =>
   have e:=ih (fun y hy=>h y (List.mem_cons_of_mem _ hy)) k (by simpa using hk)
   unfold splice at e ⊢
   rw [List.flatten_cons,List.set_cons_succ,List.flatten_cons,←e,show (k+1) * n=x.length+k * n by rw [Nat.add_mul,hx];omega,List.take_append,List.take_of_length_le (Nat.le_add_right _ _),Nat.add_sub_cancel_left,List.drop_append,List.drop_eq_nil_of_le (by omega),List.nil_append,show x.length+k * n+b.length - x.length=k * n+b.length by omega]
   simp only [List.append_assoc]
theorem madeC {n:Nat} {z:List Value} (h:z.length=n∧∀v∈z,v.oneCell'=true) (hn:0<n) (k:Nat):(madeCells (Value.agg z.toArray).cells (k * n)).toList=(List.replicate k z).flatten:=by
 have hl:(List.replicate k z).flatten.length=k * n:=by rw [flatC (CAll.rep h k),List.length_replicate]
 show (madeCells z.toArray (k * n)).toList=_
 apply List.ext_getElem
 ·rw [hl];simp [madeCells]
 ·intro j h1 h2
  have hj:j<k * n:=by rw [hl] at h2;exact h2
  have hq:j / n<k:=Nat.div_lt_of_lt_mul (by rw [Nat.mul_comm];exact hj)
  have hm:=Nat.mod_lt j hn
  have e:=flatC_at (CAll.rep h k) (j / n) (j % n) (by rw [List.length_replicate];exact hq) hm
  rw [Nat.div_add_mod' j n,List.getElem?_eq_getElem h2] at e
  have e2:(List.replicate k z).getD (j / n) []=z:=by simp [hq]
  rw [e2,List.getElem?_eq_getElem (by rw [h.1];exact hm)] at e
  rw [Option.some.inj e]
  simp [madeCells,h.1]
  rw [List.getElem?_eq_getElem (by rw [h.1];exact hm)]
  rfl
theorem make_places (w:World) (k:Nat) (hk:k≤1000000):∃w',(∀(a:Act) (o:Oper) (l c:Operand),o.op = .makeSlice 56 l c→a.eval l = .int .i64 (k:Nat)→a.eval c = .int .i64 (k:Nat)→(execOp a.eval o).run Tryd.prog w = .ok (.value (whole w.heap.size k)) w')∧Row w' w.heap.size 40 (List.replicate k (plC 0 0 0 false)).flatten∧Below w.heap.size w w':=by
 obtain ⟨i,hi,hz0,hz1,hz2⟩:=info_parts el56.info
 have hr:=run_make (P:=Tryd.prog) (w:=w) 56 40 i _ el56.sl hi hz0 .i64 .i64 (k:Nat) (k:Nat) (by omega) (Int.le_refl _) (by rw [hz2];omega) (by omega)
 rw [Int.toNat_natCast,hz1] at hr
 refine ⟨_,fun a o l c ho hl hc=>by simp only [execOp,ho,hl,hc,hr,Sem.run_bind,Sem.run_pure,Result.andThen_ok];rfl,?_,yB0 w _⟩
 rw [←madeC (n:=4) ⟨rfl,yF7 _ _ _ _⟩ (by decide) k]
 exact Row.new' w 40 _
theorem run_wixC {S E n y:Nat} {z:List Value} (he:ElC S E n y z) {w:World} {a:Act} {o:Oper} (x q:Operand) (ho:o.op = .indexAddr S x q) (g N k:Nat) (hk:k<N) (hx:a.eval x=whole g N) (hy:a.eval q = .int .i64 (k:Nat)):(execOp a.eval o).run Tryd.prog w = .ok (.value (.pointer (some ⟨g,k * n,none⟩))) w:=by
 obtain ⟨i,hi,hz0,hz1,hz2⟩:=info_parts he.info
 have h1:(Instr.indexAt S (whole g N) (.int .i64 (k:Nat))).run Tryd.prog w = .ok (.pointer (some ⟨g,k * n,none⟩)) w:=by simp [whole,Instr.indexAt,asIntOf,run_underlying he.sl,hk,sizeOf,typeInfo,hi,hz1,yB8]
 simp [execOp,ho,hx,hy,h1]
theorem COwn.whole {E n:Nat} {W:World} {g base:Nat} {L:List (List Value)} (h:CAll n L) (hr:Row W g E L.flatten) (hb:base≤g) (hl:L.length≤1000000):COwn E n W base (whole g L.length) L :=
 ⟨h,by rw [flatC h],Or.inr ⟨g,L.length,L.flatten.toArray,rfl,hb,hr,Nat.le_refl _,by unfold maxLen;omega,by simp [flatC h],by rw [List.take_of_length_le (by simp [flatC h])]⟩⟩
def plO (d:Nat) (os:List Ob) (k:Nat):List Value:=plC (d:Nat) (offO os k:Nat) (nb (os.getD k ([],[])).2.length:Nat) false
def plTo (d:Nat) (os:List Ob) (k:Nat):List (List Value):=(List.range k).map (plO d os)++List.replicate (os.length - k) (plC 0 0 0 false)
def plcs (d:Nat) (os:List Ob):List (List Value):=(List.range os.length).map (plO d os)
theorem plcs_length (d:Nat) (os:List Ob):(plcs d os).length=os.length:=by simp [plcs]
theorem plcs_at (d:Nat) (os:List Ob) (k:Nat) (h:k<os.length):(plcs d os).getD k []=plO d os k:=by simp [plcs,h]
theorem plO_is (d:Nat) (os:List Ob) (k:Nat):(plO d os k).length=4∧∀v∈plO d os k,v.oneCell'=true:=⟨rfl,yF7 _ _ _ _⟩
theorem plTo_0 (d:Nat) (os:List Ob):plTo d os 0=List.replicate os.length (plC 0 0 0 false):=by simp [plTo]
theorem plTo_end (d:Nat) (os:List Ob):plTo d os os.length=plcs d os:=by simp [plTo,plcs]
theorem plTo_length (d:Nat) (os:List Ob) (k:Nat) (h:k≤os.length):(plTo d os k).length=os.length:=by simp [plTo];omega
theorem plTo_all (d:Nat) (os:List Ob) (k:Nat):CAll 4 (plTo d os k):=fun b hb=>by
 rcases List.mem_append.1 hb with hb|hb
 ·obtain ⟨j,_,rfl⟩:=List.mem_map.1 hb
  exact plO_is d os j
 ·exact CAll.rep ⟨rfl,yF7 _ _ _ _⟩ _ b hb
theorem plcs_all (d:Nat) (os:List Ob):CAll 4 (plcs d os):=plTo_end d os▸plTo_all d os _
theorem plTo_set (d:Nat) (os:List Ob) (k:Nat) (h:k<os.length):(plTo d os k).set k (plO d os k)=plTo d os (k+1):=by
 unfold plTo
 rw [List.set_append_right _ _ (by simp)]
 have e2:k - ((List.range k).map (plO d os)).length=0:=by simp
 rw [e2,show os.length - k=(os.length - (k+1))+1 by omega,List.replicate_succ,List.set_cons_zero,List.range_succ,List.map_append,List.append_assoc]
 rfl
theorem plTo_put (d:Nat) (os:List Ob) (k:Nat) (h:k<os.length):splice (plTo d os k).flatten (k * 4) (plO d os k)=(plTo d os (k+1)).flatten:=by
 rw [flatC_set (plTo_all d os k) k (by rw [plTo_length d os k (Nat.le_of_lt h)];exact h) _ (plO_is d os k).1,plTo_set d os k h]
theorem obC_pl (d a ln:Int) (bd:Bool) (id:List Nat) (vb:Value) (j:Nat) (v:Value) (h:(plC d a ln bd)[j]? = some v):(obC d a ln bd id vb)[j]? = some v:=by
 have h4:j<4:=(List.getElem?_eq_some_iff.1 h).1
 have e:obC d a ln bd id vb=plC d a ln bd++[str id,vb]:=rfl
 rw [e,List.getElem?_append_left h4]
 exact h
set_option maxHeartbeats 4000000 in
set_option maxRecDepth 100000 in
theorem vlist_any {w:World} {c:Nat→Colour} {t gp gv d:Nat} {sz:Int} {m:Pl} {rt:List Nat} {sl:Bool} (h:VolW w c t gp gv d sz m rt sl) (hst:m.steps<1099511627775):Calls Tryd.prog 22 #[ptr gv] w fun e w' => ∃v os,e = .returned v∧COwn 40 4 w' w.heap.size v (plcs d os)∧Below w.heap.size w w'∧((Chn d (ctn m d) 0 os (wide os)∧NoAt d (wide os) (ctn m d)∧(m.on=true∨(ctn m d).length=0))∨(os=[]∧m.on=false∧0<(ctn m d).length)):=by
 obtain ⟨ct,hct⟩:∃x,x=ctn m d:=⟨_,rfl⟩
 have HM:Hid (VolW w c t gp gv d sz m rt sl∧m.steps<1099511627775∧ct=ctn m d):=⟨h,hst,hct⟩
 have hcl:ct.length≤4096:=by rw [hct];exact h.bound.1
 rw [←hct]
 clear h hst hct
 obtain ⟨PQ,HPQ⟩:=exPQ fun (e:Ending) (w':World) => ∃v os,e = .returned v∧COwn 40 4 w' w.heap.size v (plcs d os)∧Below w.heap.size w w'∧((Chn d ct 0 os (wide os)∧NoAt d (wide os) ct∧(m.on=true∨ct.length=0))∨(os=[]∧m.on=false∧0<ct.length))
 rw [←HPQ.out]
 go_enter Tryd.func22,Tryd.ntmps22
 go_upto_region 0 with fail
 refine wp_region_lit ?_
 refine wa (.const (.slice none 0 0)) (.slice none 0 0) ?_
 simp only [Act.put,aS,aC,aZ]
 refine wpList_nil ?_
 go_upto_region 1 with fail
 refine wp_region_lit ?_
 refine wm 0 (ptr gv) ?_
 simp only [Act.put,aS,aC,aZ]
 refine yA5 eN46 [.tmp 9] _ rfl rfl [(ptr gv)] rfl ?_
 refine (objects_any HM.out.1 HM.out.2.1).mono ?_
 rintro e w1 ⟨v,er,rfl,hb_,hr_⟩
 rw [←HM.out.2.2] at hr_
 obtain ⟨os,ho_,hwl_,hrest_⟩:∃os,ObsIn w1 w.heap.size d v os∧wide os≤ct.length∧((Chn d ct 0 os (wide os)∧NoAt d (wide os) ct∧(m.on=true∨ct.length=0))∨(os=[]∧m.on=false∧0<ct.length)):=(by
  rcases hr_ with ⟨_,os,h1,h2,h3,h4⟩|⟨_,h1,h2,h3⟩
  ·exact ⟨os,h1,h2.le (Nat.zero_le _),Or.inl ⟨h2,h3,h4⟩⟩
  ·subst h1;exact ⟨[],ObsIn.nil _ _ _,Nat.zero_le _,Or.inr ⟨rfl,h2,h3⟩⟩)
 refine ⟨_,rfl,?_⟩
 obtain ⟨L,hL,hLl,hLk⟩:=ho_
 obtain ⟨n,hn⟩:∃n,n=os.length:=⟨_,rfl⟩
 have hn6:n≤4096:=(by have:=wide_len os;omega)
 have HO:Hid (COwn 91 6 w1 w.heap.size v L∧L.length=n∧(∀k,k<os.length→∃vb,L.getD k []=obC (d:Nat) (offO os k:Nat) (nb (os.getD k ([],[])).2.length:Nat) false (os.getD k ([],[])).1 vb∧ObB w1 w.heap.size v vb (os.getD k ([],[])).2)∧n=os.length∧((Chn d ct 0 os (wide os)∧NoAt d (wide os) ct∧(m.on=true∨ct.length=0))∨(os=[]∧m.on=false∧0<ct.length))∧Below w.heap.size w w1):=⟨hL,by rw [hn];exact hLl,hLk,hn,hrest_,hb_⟩
 have H1:Hid (Loc w1 w1 []):=Loc.nil (Below.refl _ _)
 clear hb_ hr_ hwl_ hrest_ hL hLl hLk hn
 simp only [Act.put,aS,aC,aZ]
 refine wm 10 (.tuple #[v,(.int .i64 er)]) ?_
 refine wl rfl _ _ (yA7 (.tmp 8) 0 rfl #[v,(.int .i64 er)] rfl v rfl) ?_
 refine wl rfl _ _ (yA7 (.tmp 8) 1 rfl #[v,(.int .i64 er)] rfl (.int .i64 er) rfl) ?_
 refine wa (.tmp 11) v ?_
 refine wa (.tmp 12) (.int .i64 er) ?_
 simp only [Act.put,aS,aC,aZ]
 refine wpList_nil ?_
 go_upto_region 2 with fail
 refine wp_region_lit ?_
 refine wm 3 v ?_
 refine wl rfl (.int .i64 (n:Nat)) _ ((by rw [←HO.out.2.1];exact yJ1 el102 HO.out.1 (.tmp 13) rfl rfl)) ?_
 simp only [Act.put,aS,aC,aZ]
 obtain ⟨w2,hr_,ha_,hb_⟩:=make_places w1 n (by omega)
 refine wl rfl (whole w1.heap.size n) w2 (hr_ _ _ (.tmp 14) (.tmp 14) rfl rfl rfl) ?_
 obtain ⟨gl,hgl_⟩:∃g,g=w1.heap.size:=⟨_,rfl⟩
 rw [←hgl_] at ha_
 rw [←hgl_]
 have H2:Hid (Loc w1 w2 [(gl,40,(plTo d os 0).flatten)]):=(by
  have r_:=ha_
  rw [HO.out.2.2.2.1,←plTo_0 d os] at r_
  exact H1.out.add r_ (Nat.le_of_eq hgl_.symm) hb_)
 have HG:Hid (w1.heap.size≤gl):=Nat.le_of_eq hgl_.symm
 clear hr_ ha_ hb_ hgl_ H1
 simp only [Act.put,aS,aC,aZ]
 refine wa (.tmp 15) (whole gl n) ?_
 simp only [Act.put,aS,aC,aZ]
 refine wpList_nil ?_
 go_upto_region 3 with fail
 refine wp_region_lit ?_
 refine wm 3 v ?_
 refine wl rfl (.int .i64 (n:Nat)) _ ((by rw [←HO.out.2.1];exact yJ1 el102 HO.out.1 (.tmp 16) rfl rfl)) ?_
 refine wl rfl _ _ (yA6 (.const (.int .i64 0)) rfl (.int .i64 0) rfl) ?_
 simp only [Act.put,aS,aC,aZ]
 refine wpList_nil ?_
 go_wp2_with fail
 go_loopw [6,7,18] (fun _ _ vk W => ∃k:Nat,vk = .int .i64 (k:Nat)∧k≤n∧Hid (Loc w1 W [(gl,40,(plTo d os k).flatten)])) (fun _ _ vk _=>n - (intOf vk).toNat)
 case atStart=>exact ⟨0,rfl,Nat.zero_le _,H2.out⟩
 case round =>
  obtain ⟨k,rfl,hk,HI⟩:=hrel
  by_cases hlt:k<n
  ·go_upto_region 4 with fail
   refine wp_region_lit ?_
   refine wl rfl _ _ (yB5 (.tmp 18) (.tmp 17) rfl (k:Nat) (n:Nat) rfl rfl true (decide_eq_true (by omega))) ?_
   simp only [Act.put,aS,aC,aZ]
   refine wpList_nil ?_
   obtain ⟨vb,hLk_,hob_⟩:=HO.out.2.2.1 k (by rw [←HO.out.2.2.2.1];exact hlt)
   obtain ⟨ob,hob2⟩:∃o,o=os.getD k ([],[]):=⟨_,rfl⟩
   obtain ⟨g,_,_,hx_,hc_⟩:=HO.out.1.ix el102 k (by rw [HO.out.2.1];exact hlt)
   rw [hLk_] at hc_
   have HX:Hid ((∀w',(Instr.indexAt 102 v (.int .i64 (k:Nat))).run Tryd.prog w' = .ok (.pointer (some ⟨g,k * 6,none⟩)) w')∧(∀W':World,COwn 91 6 W' w.heap.size v L→∀j u,(obC (d:Nat) (offO os k:Nat) (nb (os.getD k ([],[])).2.length:Nat) false ob.1 vb)[j]? = some u→W'.cell? ⟨g,k * 6+j,none⟩=some u)∧k<os.length):=⟨hx_,by rw [hob2];exact hc_,by rw [←HO.out.2.2.2.1];exact hlt⟩
   have HOC:Hid ((obC (d:Nat) (offO os k:Nat) (nb (os.getD k ([],[])).2.length:Nat) false ob.1 vb).length=6∧∀u∈(obC (d:Nat) (offO os k:Nat) (nb (os.getD k ([],[])).2.length:Nat) false ob.1 vb),u.oneCell'=true):=obC_one6 _ _ _ _ hob_.1
   clear hx_ hc_ hob_ hLk_ hob2
   go_upto_region 5 with fail
   refine wp_region_lit ?_
   refine wm 18 (.int .i64 (k:Nat)) ?_
   refine wl rfl _ _ (yE9 (.tmp 16) (.tmp 18) rfl _ _ _ rfl rfl HX.out.1) ?_
   refine wl rfl _ _ (yA9 ag91 (.tmp 21) rfl g (k * 6) rfl ((obC (d:Nat) (offO os k:Nat) (nb (os.getD k ([],[])).2.length:Nat) false ob.1 vb)) HOC.out.1 (HX.out.2.1 _ (HO.out.1.later HI.out.below))) ?_
   refine wl rfl _ _ (yB3 ((obC 0 0 0 false [] (.slice none 0 0))) zero91 rfl) ?_
   have k_:=HI.out.box 91 ((obC 0 0 0 false [] (.slice none 0 0)))
   obtain ⟨y1,hW_⟩:∃W,W=wr.alloc (.cells ((obC 0 0 0 false [] (.slice none 0 0))).toArray 91):=⟨_,rfl⟩
   obtain ⟨q5,hq_⟩:∃q,q=wr.heap.size:=⟨_,rfl⟩
   rw [←hW_,←hq_] at k_
   rw [←hW_,←hq_]
   clear hq_
   have Ry1:Hid (Loc w1 y1 [(gl,40,(plTo d os k).flatten),(q5,91,(obC 0 0 0 false [] (.slice none 0 0)))]):=k_
   clear k_ hW_ HI
   simp only [Act.put,aS,aC,aZ]
   refine wa (.tmp 20) (.int .i64 (k:Nat)) ?_
   simp only [Act.put,aS,aC,aZ]
   refine wlS rfl rfl _ (yB6 ag91 (.tmp 7) (.tmp 22) rfl Ry1.out 1 rfl (0) rfl ((obC (d:Nat) (offO os k:Nat) (nb (os.getD k ([],[])).2.length:Nat) false ob.1 vb)) rfl HOC.out.1 (by rw [HOC.out.1];decide) HOC.out.2).1 ?_
   have k_:=Ry1.out.lay 1 rfl (0) ((obC (d:Nat) (offO os k:Nat) (nb (os.getD k ([],[])).2.length:Nat) false ob.1 vb))
   rw [yB7 _ _ (by rw [HOC.out.1];rfl)] at k_ ⊢
   obtain ⟨y2,hW_⟩:∃W,W=y1.setRow q5 ((obC (d:Nat) (offO os k:Nat) (nb (os.getD k ([],[])).2.length:Nat) false ob.1 vb)).toArray:=⟨_,rfl⟩
   rw [←hW_] at k_ ⊢
   have Ry2:Hid (Loc w1 y2 [(gl,40,(plTo d os k).flatten),(q5,91,(obC (d:Nat) (offO os k:Nat) (nb (os.getD k ([],[])).2.length:Nat) false ob.1 vb))]):=k_
   clear k_ hW_ Ry1
   refine wpList_nil ?_
   go_upto_region 6 with fail
   refine wp_region_lit ?_
   refine wm 5 (whole gl n) ?_
   refine wm 6 (.int .i64 (k:Nat)) ?_
   refine wl rfl _ _ (yA2 f91_0 (.tmp 7) rfl q5 (0) rfl) ?_
   refine wl rfl _ _ (yA9 ag40 (.tmp 25) rfl q5 (0+0) rfl ((plO d os k)) rfl (fun j v hj=>by rw [show 0+0+j=j by omega];exact (Ry2.out.at 1 rfl).at j v (obC_pl _ _ _ _ _ _ j v hj))) ?_
   refine wl rfl _ _ (run_wixC el56 (.tmp 23) (.tmp 24) rfl gl n k hlt rfl rfl) ?_
   simp only [Act.put,aS,aC,aZ]
   refine wlS rfl rfl _ (yB6 ag40 (.tmp 27) (.tmp 26) rfl Ry2.out 0 rfl (k * 4) rfl (plO d os k) rfl rfl (by rw [(plO_is d os k).1,flatC (plTo_all d os k),plTo_length d os k (by have:=HX.out.2.2;omega)];have:=HX.out.2.2;omega) (plO_is d os k).2).1 ?_
   have k_:=Ry2.out.lay 0 rfl (k * 4) (plO d os k)
   rw [plTo_put d os k HX.out.2.2] at k_ ⊢
   obtain ⟨y6,hW_⟩:∃W,W=y2.setRow gl ((plTo d os (k+1)).flatten).toArray:=⟨_,rfl⟩
   rw [←hW_] at k_ ⊢
   have Ry6:Hid (Loc w1 y6 [(gl,40,(plTo d os (k+1)).flatten),(q5,91,(obC (d:Nat) (offO os k:Nat) (nb (os.getD k ([],[])).2.length:Nat) false ob.1 vb))]):=k_
   clear k_ hW_ Ry2
   refine wpList_nil ?_
   go_upto_region 7 with fail
   refine wp_region_lit ?_
   refine wl rfl (.int .i64 ((k+1:Nat):Int)) _ (yD6 (.tmp 18) (.const (.int .i64 1)) rfl (k:Nat) 1 _ rfl rfl (by omega) (by omega) (by omega)) ?_
   refine wm 28 (.int .i64 ((k+1:Nat):Int)) ?_
   simp only [Act.put,aS,aC,aZ]
   refine wpList_nil ?_
   go_wp2_with fail
   exact ⟨⟨k+1,rfl,by omega,Ry6.out.take 1⟩,by simp [intOf];omega⟩
  ·go_upto_region 4 with fail
   refine wp_region_lit ?_
   refine wl rfl _ _ (yB5 (.tmp 18) (.tmp 17) rfl (k:Nat) (n:Nat) rfl rfl false (decide_eq_false (by omega))) ?_
   simp only [Act.put,aS,aC,aZ]
   refine wpList_nil ?_
   have e0:k=n:=(by omega)
   subst e0
   go_upto_region 8 with fail
   refine wp_region_lit ?_
   refine wm 5 (whole gl k) ?_
   refine wa (.tmp 29) (whole gl k) ?_
   simp only [Act.put,aS,aC,aZ]
   refine wpList_nil ?_
   go_wp2_with fail
   rw [HPQ.out]
   exact ⟨whole gl k,os,rfl,(by have h9:=HI.out.at 0 rfl;have e9:=plTo_end d os;rw [←HO.out.2.2.2.1] at e9;rw [e9] at h9;have h8:=COwn.whole (base:=w.heap.size) (plcs_all d os) h9 (by have:=HG.out;have:=HO.out.2.2.2.2.2.size;omega) (by rw [plcs_length,←HO.out.2.2.2.1];omega);rw [plcs_length,←HO.out.2.2.2.1] at h8;exact h8),HO.out.2.2.2.2.2.trans (HI.out.below.mono HO.out.2.2.2.2.2.size),HO.out.2.2.2.2.1⟩
end Go.Proofs.YtpkkkkomdblpoaaDoor

namespace Go.Proofs.YtpkkkkomdblpoaaDoor
open Go.RowKit Go.Maps
open Cold
def SealP (m:Pl) (d:Nat) (sz:Int) (rt:List Nat) (sl:Bool) (er:Int) (m':Pl) (rt':List Nat) (sl':Bool):Prop :=
 (er=3∧m'=m∧sz - (ctn m d).length<2∧rt'=rt∧sl'=sl) ∨
 (2≤sz - (ctn m d).length∧∃rt2 sl2 e2,SlR m.on d (ctn m d) rt sl rt2 sl2 e2 ∧
  ((e2≠0∧er=e2∧m'=m∧rt'=rt2∧sl'=sl2)∨(e2=0∧sl2=true∧er=3∧m'=m∧rt'=rt2∧sl'=true) ∨
  (e2=0∧sl2=false∧∃os,Chn d (ctn m d) 0 os (wide os)∧NoAt d (wide os) (ctn m d)∧(m.on=true∨(ctn m d).length=0) ∧
   (((m.lays (d:Nat) (ends d (ctn m d).length (rootO os))).1≠0∧er=(m.lays (d:Nat) (ends d (ctn m d).length (rootO os))).1∧m'=(m.lays (d:Nat) (ends d (ctn m d).length (rootO os))).2∧rt'=rt2∧sl'=false) ∨
    ((m.lays (d:Nat) (ends d (ctn m d).length (rootO os))).1=0∧m'=((m.lays (d:Nat) (ends d (ctn m d).length (rootO os))).2.flush (d:Nat)).2 ∧
     ((((m.lays (d:Nat) (ends d (ctn m d).length (rootO os))).2.flush (d:Nat)).1≠0∧er=((m.lays (d:Nat) (ends d (ctn m d).length (rootO os))).2.flush (d:Nat)).1∧rt'=rt2∧sl'=false) ∨
     (((m.lays (d:Nat) (ends d (ctn m d).length (rootO os))).2.flush (d:Nat)).1=0∧er=0∧rt'=rootO os∧sl'=true)))))))
set_option maxHeartbeats 4000000 in
set_option maxRecDepth 100000 in
theorem seal_any {w:World} {c:Nat→Colour} {t gp gv d:Nat} {sz:Int} {m:Pl} {rt:List Nat} {sl:Bool} (h:VolW w c t gp gv d sz m rt sl) (hst:m.steps+100<1099511627775):Calls Tryd.prog 19 #[ptr gv] w fun e w' => ∃c' er m' rt' sl',e = .returned (.int .i64 er)∧(∀b,b<w.heap.size→c' b=c b)∧Ch (fun b=>b=gv∨(c b).1=t) w w'∧VolW w' c' t gp gv d sz m' rt' sl'∧SealP m d sz rt sl er m' rt' sl':=by
 obtain ⟨n,hn⟩:∃n,n=(ctn m d).length:=⟨_,rfl⟩
 have HM:Hid (VolW w c t gp gv d sz m rt sl∧m.steps+100<1099511627775∧n=(ctn m d).length∧n≤4096∧(n:Int)≤sz∧0≤sz∧sz≤4096∧m.len d=n∧gv<w.heap.size∧3≤w.heap.size):=⟨h,hst,hn,by rw [hn];exact h.bound.1,by rw [hn];exact h.bound.2.1,h.bound.2.2.1,h.bound.2.2.2.1,by rw [hn];exact h.bound.2.2.2.2,h.row.lt,by have:=h.row.lt;have:=h.far;omega⟩
 have hnl:n≤4096∧(n:Int)≤sz∧0≤sz∧sz≤4096:=⟨HM.out.2.2.2.1,HM.out.2.2.2.2.1,HM.out.2.2.2.2.2.1,HM.out.2.2.2.2.2.2.1⟩
 clear h hst hn
 obtain ⟨PQ,HPQ⟩:=exPQ fun (e:Ending) (w':World) => ∃c' er m' rt' sl',e = .returned (.int .i64 er)∧(∀b,b<w.heap.size→c' b=c b)∧Ch (fun b=>b=gv∨(c b).1=t) w w'∧VolW w' c' t gp gv d sz m' rt' sl'∧SealP m d sz rt sl er m' rt' sl'
 rw [←HPQ.out]
 go_enter Tryd.func19,Tryd.ntmps19
 go_upto_region 0 with fail
 refine wp_region_lit ?_
 refine wa (.const (.int .i64 0)) (.int .i64 0) ?_
 simp only [Act.put,aS,aC,aZ]
 refine wpList_nil ?_
 by_cases hroom:sz - (n:Nat)<2
 ·go_upto_region 1 with fail
  refine wp_region_lit ?_
  refine wm 0 (ptr gv) ?_
  refine wl rfl _ _ (yC1 (.tmp 9) rfl ⟨gv,0,none⟩ rfl) ?_
  refine wl rfl _ _ (yA2 f88_0 (.tmp 10) rfl gv (0) rfl) ?_
  refine wl rfl _ _ (yA9 ag86 (.tmp 11) rfl gv (0+0) rfl ((tpC gp (d:Nat) sz)) rfl (fun j v hj=>by rw [show 0+0+j=j by omega];exact HM.out.1.row.at j v (vC_tape _ _ _ _ _ j v hj))) ?_
  simp only [Act.put,aS,aC,aZ]
  refine yA5 eN44 [.tmp 12] _ rfl rfl [(.agg (tpC gp (d:Nat) sz).toArray)] rfl ?_
  refine (tleft_any HM.out.1.live (by have:=HM.out.2.1;omega) d HM.out.1.dev (by rw [HM.out.2.2.2.2.2.2.2.1];exact hnl.1) sz hnl.2.2).mono ?_
  rintro e w1 ⟨rfl,hb_⟩
  refine ⟨_,rfl,?_⟩
  rw [HM.out.2.2.2.2.2.2.2.1]
  have H1:Hid (VolW w1 c t gp gv d sz m rt sl∧Below w.heap.size w w1):=⟨HM.out.1.below hb_,hb_⟩
  clear hb_
  simp only [Act.put,aS,aC,aZ]
  refine wl rfl _ _ (yB5 (.tmp 13) (.const (.int .i64 2)) rfl (sz - (n:Nat)) 2 rfl rfl true (decide_eq_true (by omega))) ?_
  simp only [Act.put,aS,aC,aZ]
  refine wpList_nil ?_
  go_upto_region 2 with fail
  refine wp_region_lit ?_
  refine wa (.const (.int .i64 3)) (.int .i64 3) ?_
  simp only [Act.put,aS,aC,aZ]
  refine wpList_nil ?_
  go_wp2_with fail
  rw [HPQ.out]
  exact ⟨c,3,m,rt,sl,rfl,fun _ _=>rfl,Ch.of_below H1.out.2,H1.out.1,Or.inl ⟨rfl,rfl,by rw [←HM.out.2.2.1];exact hroom,rfl,rfl⟩⟩
 ·go_upto_region 1 with fail
  refine wp_region_lit ?_
  refine wm 0 (ptr gv) ?_
  refine wl rfl _ _ (yC1 (.tmp 9) rfl ⟨gv,0,none⟩ rfl) ?_
  refine wl rfl _ _ (yA2 f88_0 (.tmp 10) rfl gv (0) rfl) ?_
  refine wl rfl _ _ (yA9 ag86 (.tmp 11) rfl gv (0+0) rfl ((tpC gp (d:Nat) sz)) rfl (fun j v hj=>by rw [show 0+0+j=j by omega];exact HM.out.1.row.at j v (vC_tape _ _ _ _ _ j v hj))) ?_
  simp only [Act.put,aS,aC,aZ]
  refine yA5 eN44 [.tmp 12] _ rfl rfl [(.agg (tpC gp (d:Nat) sz).toArray)] rfl ?_
  refine (tleft_any HM.out.1.live (by have:=HM.out.2.1;omega) d HM.out.1.dev (by rw [HM.out.2.2.2.2.2.2.2.1];exact hnl.1) sz hnl.2.2).mono ?_
  rintro e w1 ⟨rfl,hb_⟩
  refine ⟨_,rfl,?_⟩
  rw [HM.out.2.2.2.2.2.2.2.1]
  have H1:Hid (VolW w1 c t gp gv d sz m rt sl∧Below w.heap.size w w1):=⟨HM.out.1.below hb_,hb_⟩
  clear hb_
  simp only [Act.put,aS,aC,aZ]
  refine wl rfl _ _ (yB5 (.tmp 13) (.const (.int .i64 2)) rfl (sz - (n:Nat)) 2 rfl rfl false (decide_eq_false (by omega))) ?_
  simp only [Act.put,aS,aC,aZ]
  refine wpList_nil ?_
  go_upto_region 3 with fail
  refine wp_region_lit ?_
  refine wm 0 (ptr gv) ?_
  simp only [Act.put,aS,aC,aZ]
  refine yA5 eN45 [.tmp 16] _ rfl rfl [(ptr gv)] rfl ?_
  refine (isSealed_any H1.out.1.live (by have:=HM.out.2.1;omega) d H1.out.1.dev H1.out.1.tape sz H1.out.1.env H1.out.1.row H1.out.1.len).mono ?_
  rintro e w2 ⟨rt2,sl2,er,rfl,hr_,hl_,hc_,hs_⟩
  refine ⟨_,rfl,?_⟩
  have H2:Hid (VolW w2 c t gp gv d sz m rt2 sl2∧Ch (· = gv) w w2∧SlR m.on d (ctn m d) rt sl rt2 sl2 er):=⟨H1.out.1.seen hc_ hr_ hl_,(Ch.of_below H1.out.2).trans' hc_ (fun _ _ h=>h),hs_⟩
  clear hr_ hl_ hc_ hs_ H1
  simp only [Act.put,aS,aC,aZ]
  refine wm 17 (.tuple #[(.bool sl2),(.int .i64 er)]) ?_
  refine wl rfl _ _ (yA7 (.tmp 15) 0 rfl #[(.bool sl2),(.int .i64 er)] rfl (.bool sl2) rfl) ?_
  refine wl rfl _ _ (yA7 (.tmp 15) 1 rfl #[(.bool sl2),(.int .i64 er)] rfl (.int .i64 er) rfl) ?_
  refine wa (.tmp 18) (.bool sl2) ?_
  refine wa (.tmp 19) (.int .i64 er) ?_
  simp only [Act.put,aS,aC,aZ]
  refine wpList_nil ?_
  by_cases her:er=0
  ·subst her
   go_upto_region 4 with fail
   refine wp_region_lit ?_
   refine wm 4 (.int .i64 0) ?_
   refine wl rfl _ _ (yC5 (.tmp 21) (.const (.int .i64 0)) rfl (0) (0) rfl rfl false rfl) ?_
   refine wa (.tmp 22) (.bool false) ?_
   simp only [Act.put,aS,aC,aZ]
   refine wpList_nil ?_
   go_upto_region 6 with fail
   refine wp_region_lit ?_
   refine wm 3 (.bool sl2) ?_
   refine wa (.tmp 25) (.bool sl2) ?_
   simp only [Act.put,aS,aC,aZ]
   refine wpList_nil ?_
   cases sl2 with
   | true =>
    go_upto_region 7 with fail
    refine wp_region_lit ?_
    refine wa (.const (.int .i64 3)) (.int .i64 3) ?_
    simp only [Act.put,aS,aC,aZ]
    refine wpList_nil ?_
    go_wp2_with fail
    rw [HPQ.out]
    exact ⟨c,3,m,rt2,true,rfl,fun _ _=>rfl,H2.out.2.1.mono (fun b _ h=>Or.inl h),H2.out.1,Or.inr ⟨by rw [←HM.out.2.2.1];omega,_,_,_,H2.out.2.2,Or.inr (Or.inl ⟨rfl,rfl,rfl,rfl,rfl,rfl⟩)⟩⟩
   | false =>
    go_upto_region 8 with fail
    refine wp_region_lit ?_
    refine wm 0 (ptr gv) ?_
    simp only [Act.put,aS,aC,aZ]
    refine yA5 eN46 [.tmp 27] _ rfl rfl [(ptr gv)] rfl ?_
    refine (objects_any H2.out.1 (by have:=HM.out.2.1;omega)).mono ?_
    rintro e w3 ⟨vo,er2,rfl,hb_,hr_⟩
    obtain ⟨rfl,os,ho_,hch_,hno_,hon_⟩:er2=0∧∃os,ObsIn w3 w2.heap.size d vo os∧Chn d (ctn m d) 0 os (wide os)∧NoAt d (wide os) (ctn m d)∧(m.on=true∨(ctn m d).length=0):=(by
     rcases hr_ with h|⟨_,_,h1,h2⟩
     ·exact h
     ·exfalso
      rcases H2.out.2.2 with ⟨_,_,h,_⟩|⟨_,⟨h,_⟩|⟨_,_,h,_⟩|⟨_,h,_⟩⟩
      ·cases h
      ·cases h
      ·rcases h with h|h
       ·rw [h1] at h;cases h
       ·omega
      ·omega)
    refine ⟨_,rfl,?_⟩
    have H3:Hid (VolW w3 c t gp gv d sz m rt2 false∧Ch (· = gv) w w3∧ObsIn w3 w2.heap.size d vo os∧Chn d (ctn m d) 0 os (wide os)∧NoAt d (wide os) (ctn m d)∧(m.on=true∨(ctn m d).length=0)):=⟨H2.out.1.below hb_,H2.out.2.1.trans' (Ch.of_below (S:=fun _=>False) hb_) (fun _ _ h=>h.elim),ho_,hch_,hno_,hon_⟩
    clear hb_ hr_ ho_ hch_ hno_ hon_
    simp only [Act.put,aS,aC,aZ]
    refine wm 28 (.tuple #[vo,(.int .i64 0)]) ?_
    refine wl rfl _ _ (yA7 (.tmp 26) 0 rfl #[vo,(.int .i64 0)] rfl vo rfl) ?_
    refine wl rfl _ _ (yA7 (.tmp 26) 1 rfl #[vo,(.int .i64 0)] rfl (.int .i64 0) rfl) ?_
    refine wa (.tmp 29) vo ?_
    refine wa (.tmp 30) (.int .i64 0) ?_
    simp only [Act.put,aS,aC,aZ]
    refine wpList_nil ?_
    go_upto_region 9 with fail
    refine wp_region_lit ?_
    refine wm 4 (.int .i64 0) ?_
    refine wl rfl _ _ (yC5 (.tmp 31) (.const (.int .i64 0)) rfl (0) (0) rfl rfl false rfl) ?_
    simp only [Act.put,aS,aC,aZ]
    refine wpList_nil ?_
    obtain ⟨R,hR⟩:∃R,R=rootO os:=⟨_,rfl⟩
    have HR:Hid (R=rootO os∧R.length=32∧∀c∈R,c<256):=⟨hR,by rw [hR];exact (yK0 os).1,by rw [hR];exact (yK0 os).2⟩
    clear hR
    go_upto_region 11 with fail
    refine wp_region_lit ?_
    refine wm 5 vo ?_
    simp only [Act.put,aS,aC,aZ]
    refine yA5 eN47 [.tmp 34] _ rfl rfl [vo] rfl ?_
    refine (rootOf_any H3.out.2.2.1 H3.out.2.2.2.1.okL (by have:=wide_len os;have:=H3.out.2.2.2.1.le (Nat.zero_le _);have:=HM.out.2.2.1;omega) H3.out.1.env).mono ?_
    rintro e w4 ⟨rfl,hb_⟩
    refine ⟨_,rfl,?_⟩
    rw [←HR.out.1]
    have H4:Hid (Loc w3 w4 []):=(Loc.nil (Below.refl _ _)).later hb_
    clear hb_
    simp only [Act.put,aS,aC,aZ]
    refine wl rfl _ _ (yB3 (yA0 (Zs 32)) zero52 rfl) ?_
    have k_:=H4.out.box 52 (yA0 (Zs 32))
    obtain ⟨w5,hW_⟩:∃W,W=w4.alloc (.cells (yA0 (Zs 32)).toArray 52):=⟨_,rfl⟩
    obtain ⟨q6,hq_⟩:∃q,q=w4.heap.size:=⟨_,rfl⟩
    rw [←hW_,←hq_] at k_
    rw [←hW_,←hq_]
    clear hq_
    have Rw5:Hid (Loc w3 w5 [(q6,52,yA0 (Zs 32))]):=k_
    clear k_ hW_ H4
    simp only [Act.put,aS,aC,aZ]
    refine wlS rfl rfl _ (yB6 ag52 (.tmp 6) (.tmp 35) rfl Rw5.out 0 rfl (0) rfl (yA0 R) rfl (by rw [yA1];exact HR.out.2.1) (by rw [yA1,bz,HR.out.2.1];decide) (yB2 _)).1 ?_
    have k_:=Rw5.out.lay 0 rfl (0) (yA0 R)
    rw [yF6 (n:=32) _ HR.out.2.1] at k_ ⊢
    obtain ⟨w6,hW_⟩:∃W,W=w5.setRow q6 (yA0 R).toArray:=⟨_,rfl⟩
    rw [←hW_] at k_ ⊢
    have Rw6:Hid (Loc w3 w6 [(q6,52,yA0 R)]):=k_
    clear k_ hW_ Rw5
    refine wpList_nil ?_
    have H6:Hid ((VolW w6 c t gp gv d sz m rt2 false∧Row w6 q6 52 (yA0 R)∧Below w3.heap.size w3 w6)∧w3.heap.size≤q6):=⟨⟨H3.out.1.below Rw6.out.below,Rw6.out.at 0 rfl,Rw6.out.below⟩,Rw6.out.ge 0 rfl⟩
    go_upto_region 12 with fail
    refine wp_region_held (S:=fun X=>Row X gv 88 (vC gp (d:Nat) sz rt2 false)∧Row X q6 52 (yA0 R)) (by kernel_rfl) ?_
    show wpAnyH _ _ _ _ _ 18 (Array.replicate 18 false) _ _
    obtain ⟨X,hX⟩:∃X:World,X = { w6 with drawn:=w6.drawn+1 }:=⟨_,rfl⟩
    rw [←hX]
    have HLX:Hid (VolW X c t gp gv d sz m rt2 false∧Row X q6 52 (yA0 R)∧Below w3.heap.size w3 X):=(by rw [hX];exact ⟨H6.out.1.1.below ⟨rfl,rfl,rfl,Nat.le_refl _,fun _ _=>rfl⟩,H6.out.1.2.1.later ⟨rfl,rfl,rfl,Nat.le_refl _,fun _ _=>rfl⟩ H6.out.1.2.1.lt,H6.out.1.2.2.trans ((Below.refl w3.heap.size w6).trans ⟨rfl,rfl,rfl,Nat.le_refl _,fun _ _=>rfl⟩)⟩)
    have HS_:Row X gv 88 (vC gp (d:Nat) sz rt2 false)∧Row X q6 52 (yA0 R):=⟨HLX.out.1.row,HLX.out.2.1⟩
    clear hX
    refine tH 0 36 rfl rfl (gRun rfl _ fun _ h=>yA6 (.tmp 0) rfl (ptr gv) rfl) HS_ ?_
    refine tH 1 37 rfl rfl (gRun rfl _ fun _ h=>yC1 (.tmp 36) rfl ⟨gv,0,none⟩ rfl) HS_ ?_
    refine tH 2 38 rfl rfl (gRun rfl _ fun _ h=>yA2 f88_0 (.tmp 37) rfl gv (0) rfl) HS_ ?_
    refine tH 3 39 rfl rfl (gRun rfl _ fun _ h=>yA9 ag86 (.tmp 38) rfl gv (0+0) rfl ((tpC gp (d:Nat) sz)) rfl (fun j v hj=>by rw [show 0+0+j=j by omega];exact h.1.at j v (vC_tape _ _ _ _ _ j v hj))) HS_ ?_
    refine tH 4 40 rfl rfl (gRun rfl _ fun _ h=>yA6 (.tmp 0) rfl (ptr gv) rfl) HS_ ?_
    refine tH 5 41 rfl rfl (gRun rfl _ fun _ h=>yC1 (.tmp 40) rfl ⟨gv,0,none⟩ rfl) HS_ ?_
    simp only [Act.put,aS,aC,aZ]
    refine tH 6 42 rfl rfl (gRun rfl _ fun _ h=>yA2 f88_0 (.tmp 41) rfl gv (0) rfl) HS_ ?_
    refine tH 7 43 rfl rfl (gRun rfl _ fun _ h=>yA2 f86_1 (.tmp 42) rfl gv (0+0) rfl) HS_ ?_
    refine tH 8 44 rfl rfl (gRun rfl _ fun _ h=>yA4 o3 (.tmp 43) rfl gv (0+0+1) rfl (.int .i64 (d:Nat)) (h.1.at (0+0+1) _ (vC_1 _ _ _ _ _))) HS_ ?_
    refine tH 9 45 rfl rfl (gRun rfl _ fun _ h=>yA6 (.tmp 0) rfl (ptr gv) rfl) HS_ ?_
    refine tH 10 46 rfl rfl (gRun rfl _ fun _ h=>yC1 (.tmp 45) rfl ⟨gv,0,none⟩ rfl) HS_ ?_
    refine tH 11 47 rfl rfl (gRun rfl _ fun _ h=>yA2 f88_0 (.tmp 46) rfl gv (0) rfl) HS_ ?_
    simp only [Act.put,aS,aC,aZ]
    refine tH 12 48 rfl rfl (gRun rfl _ fun _ h=>yA9 ag86 (.tmp 47) rfl gv (0+0) rfl ((tpC gp (d:Nat) sz)) rfl (fun j v hj=>by rw [show 0+0+j=j by omega];exact h.1.at j v (vC_tape _ _ _ _ _ j v hj))) HS_ ?_
    refine tH 14 50 rfl rfl (gRun rfl _ fun _ h=>yA9 ag52 (.tmp 6) rfl q6 (0) rfl (yA0 R) (by rw [yA1];exact HR.out.2.1) (yE7 h.2)) HS_ ?_
    simp only [Act.put,aS,aC,aZ]
    refine oneH (i:=13) (by kernel_rfl) ?_
    refine yE0 (some 49) rfl rfl rfl 38 _ (yC0 eN38 [.tmp 48] _ rfl [(.agg ((tpC gp (d:Nat) sz)).toArray)] rfl) ?_
    refine (tlen_any HLX.out.1.live (by have:=HM.out.2.1;omega) d HLX.out.1.dev sz).mono ?_
    rintro e Y0 ⟨rfl,hb_⟩
    rw [HM.out.2.2.2.2.2.2.2.1]
    refine ⟨_,rfl,?_⟩
    have HL0:Hid (VolW Y0 c t gp gv d sz m rt2 false∧Row Y0 q6 52 (yA0 R)∧Below w3.heap.size w3 Y0):=⟨HLX.out.1.below hb_,HLX.out.2.1.later hb_ HLX.out.2.1.lt,HLX.out.2.2.trans (hb_.mono HLX.out.2.2.size)⟩
    replace HS_:Row Y0 gv 88 (vC gp (d:Nat) sz rt2 false)∧Row Y0 q6 52 (yA0 R):=⟨HL0.out.1.row,HL0.out.2.1⟩
    clear hb_
    refine ⟨HS_,?_⟩
    simp only [Act.put,aS,aC,aZ]
    refine oneH (i:=15) (by kernel_rfl) ?_
    refine yE0 (some 51) rfl rfl rfl 48 _ (yC0 eN48 [.tmp 44,.tmp 49,.tmp 50] _ rfl [(.int .i64 (d:Nat)),(.int .i64 (n:Nat)),(.agg (yA0 R).toArray)] rfl) ?_
    refine (endOf_any d n R Y0 HR.out.2.1 HR.out.2.2 HL0.out.1.env).mono ?_
    rintro e Y1 ⟨ve,rfl,ho_,hb_⟩
    refine ⟨_,rfl,?_⟩
    have HAP:Hid ((VolW Y1 c t gp gv d sz m rt2 false∧Row Y1 q6 52 (yA0 R)∧Below w3.heap.size w3 Y1)∧AOwn 133 64 Y1 Y0.heap.size ve (ends d n R)∧w3.heap.size≤Y0.heap.size):=⟨⟨HL0.out.1.below hb_,HL0.out.2.1.later hb_ HL0.out.2.1.lt,HL0.out.2.2.trans (hb_.mono HL0.out.2.2.size)⟩,ho_,HL0.out.2.2.size⟩
    replace HS_:Row Y1 gv 88 (vC gp (d:Nat) sz rt2 false)∧Row Y1 q6 52 (yA0 R):=⟨HAP.out.1.1.row,HAP.out.1.2.1⟩
    clear ho_ hb_
    refine ⟨HS_,?_⟩
    simp only [Act.put,aS,aC,aZ]
    refine oneH (i:=16) (by kernel_rfl) ?_
    refine yE0 (some 52) rfl rfl rfl 39 _ (yC0 eN39 [.tmp 39,.tmp 51] _ rfl [(.agg ((tpC gp (d:Nat) sz)).toArray),ve] rfl) ?_
    refine (twrite_any HAP.out.1.1.live d sz HAP.out.2.1 (fun b e=>HL0.out.1.live.2.2 b (HAP.out.2.1.2.lt b e).1) (by show 2≤1000;decide) (by show m.steps+2<_;have:=HM.out.2.1;omega)).mono ?_
    rintro e Y2 ⟨c2,he_,s2_,l2_⟩
    obtain ⟨er9,her9⟩:∃z,z=(m.lays (d:Nat) (ends d n R)).1:=⟨_,rfl⟩
    obtain ⟨m9,hm9⟩:∃z,z=(m.lays (d:Nat) (ends d n R)).2:=⟨_,rfl⟩
    rw [←her9] at he_
    rw [←hm9] at l2_
    subst he_
    have HW:Hid (er9=(m.lays (d:Nat) (ends d n R)).1∧m9=(m.lays (d:Nat) (ends d n R)).2∧m9.steps≤m.steps+2):=⟨her9,hm9,by rw [hm9];exact (lays_steps _ _ _).1⟩
    have HJ:Hid (VolW Y2 c2 t gp gv d sz m9 rt2 false∧Row Y2 q6 52 (yA0 R)∧(c2 q6).1≠t∧SpT t w3 Y2 c c2):=⟨HAP.out.1.1.sh s2_ l2_ (by rw [hm9];exact (lays_steps _ _ _).2),(s2_.row HAP.out.1.2.1 (H3.out.1.live.2.2 q6 H6.out.2)).1,(s2_.row HAP.out.1.2.1 (H3.out.1.live.2.2 q6 H6.out.2)).2,(SpT.bel c HAP.out.1.2.2).trans s2_⟩
    replace HS_:Row Y2 gv 88 (vC gp (d:Nat) sz rt2 false)∧Row Y2 q6 52 (yA0 R):=⟨HJ.out.1.row,HJ.out.2.1⟩
    clear her9 hm9 s2_ l2_
    refine ⟨_,rfl,?_⟩
    refine ⟨HS_,?_⟩
    simp only [Act.put,aS,aC,aZ]
    refine tH 17 7 rfl rfl (gRun rfl _ fun _ h=>yG0 (.tmp 52) rfl (.int .i64 er9) rfl) HS_ ?_
    simp only [Act.put,aS,aC,aZ]
    refine wpAnyH_done (by kernel_rfl) ?_ _
    have hcc:∀b,b<w.heap.size→c2 b=c b:=fun b hb=>HJ.out.2.2.2.cc b (Nat.lt_of_lt_of_le hb H3.out.2.1.size)
    have hch:Hid (Ch (fun b=>b=gv∨(c b).1=t) w Y2):=((H3.out.2.1.mono (fun b _ h=>Or.inl h)).trans' HJ.out.2.2.2.ch (fun b _ e=>Or.inr e))
    by_cases hz:er9=0
    ·go_upto_region 13 with fail
     refine wp_region_lit ?_
     refine wm 7 (.int .i64 er9) ?_
     refine wl rfl _ _ (yC5 (.tmp 53) (.const (.int .i64 0)) rfl er9 0 rfl rfl false (by rw [decide_eq_true hz];rfl)) ?_
     simp only [Act.put,aS,aC,aZ]
     refine wpList_nil ?_
     go_upto_region 15 with fail
     refine wp_region_lit ?_
     refine wm 0 (ptr gv) ?_
     simp only [Act.put,aS,aC,aZ]
     refine yA5 eN16 [.tmp 56] _ rfl rfl [(ptr gv)] rfl ?_
     refine (vflush_any HJ.out.1 (by have:=HW.out.2.2;have:=HM.out.2.1;omega)).mono ?_
     rintro e Y3 ⟨c3,rfl,s3_,v3_⟩
     obtain ⟨er8,her8⟩:∃z,z=(m9.flush (d:Nat)).1:=⟨_,rfl⟩
     obtain ⟨m8,hm8⟩:∃z,z=(m9.flush (d:Nat)).2:=⟨_,rfl⟩
     rw [←hm8] at v3_
     rw [←her8]
     refine ⟨_,rfl,?_⟩
     have HF:Hid (er8=(m9.flush (d:Nat)).1∧m8=(m9.flush (d:Nat)).2):=⟨her8,hm8⟩
     have HK:Hid (VolW Y3 c3 t gp gv d sz m8 rt2 false∧Row Y3 q6 52 (yA0 R)∧(∀b,b<w.heap.size→c3 b=c b)∧Ch (fun b=>b=gv∨(c b).1=t) w Y3):=⟨v3_,(s3_.row HJ.out.2.1 HJ.out.2.2.1).1,fun b hb=>(s3_.cc b (Nat.lt_of_lt_of_le hb hch.out.size)).trans (hcc b hb),hch.out.trans' s3_.ch (fun b hb e=>Or.inr (by rw [←hcc b hb];exact e))⟩
     clear s3_ v3_ her8 hm8
     simp only [Act.put,aS,aC,aZ]
     refine wa (.tmp 57) (.int .i64 er8) ?_
     simp only [Act.put,aS,aC,aZ]
     refine wpList_nil ?_
     have HEE:Hid (er9=0):=hz
     by_cases hz8:er8=0
     ·go_upto_region 16 with fail
      refine wp_region_lit ?_
      refine wm 8 (.int .i64 er8) ?_
      refine wl rfl _ _ (yC5 (.tmp 58) (.const (.int .i64 0)) rfl er8 0 rfl rfl false (by rw [decide_eq_true hz8];rfl)) ?_
      simp only [Act.put,aS,aC,aZ]
      refine wpList_nil ?_
      go_upto_region 18 with fail
      refine wp_region_lit ?_
      refine wm 0 (ptr gv) ?_
      refine wm 0 (ptr gv) ?_
      refine wl rfl _ _ (yA9 ag52 (.tmp 6) rfl q6 (0) rfl (yA0 R) (by rw [yA1];exact HR.out.2.1) (yE7 HK.out.2.1)) ?_
      refine wl rfl _ _ (yC1 (.tmp 61) rfl ⟨gv,0,none⟩ rfl) ?_
      refine wl rfl _ _ (yA2 f88_1 (.tmp 64) rfl gv (0) rfl) ?_
      simp only [Act.put,aS,aC,aZ]
      refine wlS rfl rfl _ (run_stAt ag52 (.tmp 65) (.tmp 63) rfl gv (0+3) 88 rfl (yA0 R) (vC gp (d:Nat) sz rt2 false) rfl (by rw [yA1];exact HR.out.2.1) HK.out.1.row (by rw [yA1,HR.out.2.1,vC_len _ _ _ _ HK.out.1.len];decide) (yB2 _)) ?_
      rw [Nat.zero_add,vC_root _ _ _ _ HK.out.1.len HR.out.2.1]
      have r_:=HK.out.1.row.setRow (vC gp (d:Nat) sz R false)
      have c_:=(Ch.refl (· = gv) Y3).setRow (g:=gv) (Or.inl rfl) (vC gp (d:Nat) sz R false).toArray
      obtain ⟨Y4,hW_⟩:∃U_:World,U_=Y3.setRow gv (vC gp (d:Nat) sz R false).toArray:=⟨_,rfl⟩
      rw [←hW_] at r_ c_ ⊢
      have H7:Hid (Row Y4 gv 88 (vC gp (d:Nat) sz R false)∧Ch (· = gv) Y3 Y4):=⟨r_,c_⟩
      clear r_ c_ hW_
      refine wl rfl _ _ (yC1 (.tmp 62) rfl ⟨gv,0,none⟩ rfl) ?_
      refine wl rfl _ _ (yA2 f88_2 (.tmp 66) rfl gv (0) rfl) ?_
      simp only [Act.put,aS,aC,aZ]
      refine wlS rfl rfl _ (yH1 (t:=4) sz4 (.tmp 67) (.const (.bool true)) rfl gv (0+35) 88 _ rfl (.bool true) rfl ⟨rfl,rfl⟩ H7.out.1 (by rw [vC_len _ _ _ _ HR.out.2.1];decide)) ?_
      have r_:=yJ4 (i:=0+35) H7.out.1 (.bool true)
      have c_:=H7.out.2.setCell (g:=gv) (Or.inl rfl) (0+35) (.bool true)
      rw [Nat.zero_add] at r_ c_ ⊢
      rw [vC_set _ _ _ _ _ HR.out.2.1] at r_
      obtain ⟨Y5,hW_⟩:∃U_:World,U_=Y4.setCell ⟨gv,35,none⟩ (.bool true):=⟨_,rfl⟩
      rw [←hW_] at r_ c_ ⊢
      have H8:Hid (VolW Y5 c3 t gp gv d sz m8 R true∧Ch (fun b=>b=gv∨(c b).1=t) w Y5):=⟨HK.out.1.seen c_ r_ HR.out.2.1,HK.out.2.2.2.trans' c_ (fun b _ e=>Or.inl e)⟩
      clear r_ c_ hW_ H7
      refine wpList_nil ?_
      go_upto_region 19 with fail
      refine wp_region_lit ?_
      refine wa (.const (.int .i64 0)) (.int .i64 0) ?_
      simp only [Act.put,aS,aC,aZ]
      refine wpList_nil ?_
      go_wp2_with fail
      rw [HPQ.out]
      exact ⟨c3,0,m8,R,true,rfl,HK.out.2.2.1,H8.out.2,H8.out.1,Or.inr ⟨by rw [←HM.out.2.2.1];omega,_,_,_,H2.out.2.2,Or.inr (Or.inr ⟨rfl,rfl,os,H3.out.2.2.2.1,H3.out.2.2.2.2.1,H3.out.2.2.2.2.2,Or.inr ⟨by rw [←HM.out.2.2.1,←HR.out.1,←HW.out.1];exact HEE.out,by rw [←HM.out.2.2.1,←HR.out.1,←HW.out.2.1];exact HF.out.2,Or.inr ⟨by rw [←HM.out.2.2.1,←HR.out.1,←HW.out.2.1,←HF.out.1];exact hz8,rfl,HR.out.1,rfl⟩⟩⟩)⟩⟩
     ·go_upto_region 16 with fail
      refine wp_region_lit ?_
      refine wm 8 (.int .i64 er8) ?_
      refine wl rfl _ _ (yC5 (.tmp 58) (.const (.int .i64 0)) rfl er8 0 rfl rfl true (by rw [decide_eq_false hz8];rfl)) ?_
      simp only [Act.put,aS,aC,aZ]
      refine wpList_nil ?_
      go_upto_region 17 with fail
      refine wp_region_lit ?_
      refine wm 8 (.int .i64 er8) ?_
      refine wa (.tmp 60) (.int .i64 er8) ?_
      simp only [Act.put,aS,aC,aZ]
      refine wpList_nil ?_
      go_wp2_with fail
      rw [HPQ.out]
      exact ⟨c3,er8,m8,rt2,false,rfl,HK.out.2.2.1,HK.out.2.2.2,HK.out.1,Or.inr ⟨by rw [←HM.out.2.2.1];omega,_,_,_,H2.out.2.2,Or.inr (Or.inr ⟨rfl,rfl,os,H3.out.2.2.2.1,H3.out.2.2.2.2.1,H3.out.2.2.2.2.2,Or.inr ⟨by rw [←HM.out.2.2.1,←HR.out.1,←HW.out.1];exact HEE.out,by rw [←HM.out.2.2.1,←HR.out.1,←HW.out.2.1];exact HF.out.2,Or.inl ⟨by rw [←HM.out.2.2.1,←HR.out.1,←HW.out.2.1,←HF.out.1];exact hz8,by rw [←HM.out.2.2.1,←HR.out.1,←HW.out.2.1];exact HF.out.1,rfl,rfl⟩⟩⟩)⟩⟩
    ·go_upto_region 13 with fail
     refine wp_region_lit ?_
     refine wm 7 (.int .i64 er9) ?_
     refine wl rfl _ _ (yC5 (.tmp 53) (.const (.int .i64 0)) rfl er9 0 rfl rfl true (by rw [decide_eq_false hz];rfl)) ?_
     simp only [Act.put,aS,aC,aZ]
     refine wpList_nil ?_
     go_upto_region 14 with fail
     refine wp_region_lit ?_
     refine wm 7 (.int .i64 er9) ?_
     refine wa (.tmp 55) (.int .i64 er9) ?_
     simp only [Act.put,aS,aC,aZ]
     refine wpList_nil ?_
     go_wp2_with fail
     rw [HPQ.out]
     exact ⟨c2,er9,m9,rt2,false,rfl,hcc,hch.out,HJ.out.1,Or.inr ⟨by rw [←HM.out.2.2.1];omega,_,_,_,H2.out.2.2,Or.inr (Or.inr ⟨rfl,rfl,os,H3.out.2.2.2.1,H3.out.2.2.2.2.1,H3.out.2.2.2.2.2,Or.inl ⟨by rw [←HM.out.2.2.1,←HR.out.1,←HW.out.1];exact hz,by rw [←HM.out.2.2.1,←HR.out.1];exact HW.out.1,by rw [←HM.out.2.2.1,←HR.out.1];exact HW.out.2.1,rfl,rfl⟩⟩)⟩⟩
  ·go_upto_region 4 with fail
   refine wp_region_lit ?_
   refine wm 4 (.int .i64 er) ?_
   refine wl rfl _ _ (yC5 (.tmp 21) (.const (.int .i64 0)) rfl er 0 rfl rfl true (by rw [decide_eq_false her];rfl)) ?_
   refine wa (.tmp 22) (.bool true) ?_
   simp only [Act.put,aS,aC,aZ]
   refine wpList_nil ?_
   go_upto_region 5 with fail
   refine wp_region_lit ?_
   refine wm 4 (.int .i64 er) ?_
   refine wa (.tmp 23) (.int .i64 er) ?_
   simp only [Act.put,aS,aC,aZ]
   refine wpList_nil ?_
   go_wp2_with fail
   rw [HPQ.out]
   exact ⟨c,er,m,rt2,sl2,rfl,fun _ _=>rfl,H2.out.2.1.mono (fun b _ h=>Or.inl h),H2.out.1,Or.inr ⟨by rw [←HM.out.2.2.1];omega,_,_,_,H2.out.2.2,Or.inl ⟨her,rfl,rfl,rfl,rfl⟩⟩⟩
end Go.Proofs.YtpkkkkomdblpoaaDoor

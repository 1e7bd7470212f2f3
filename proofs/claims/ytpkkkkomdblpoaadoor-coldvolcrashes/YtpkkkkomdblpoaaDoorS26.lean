/- Layer 15: the end that a tape has. Layer 15: whether a volume is sealed. Layer 15: a volume on its plant; its room. -/
import Derived.Test.YtpkkkkomdblpoaaDoorS25
namespace Go.Proofs.YtpkkkkomdblpoaaDoor
open Go.RowKit Go.Maps
open Cold
theorem rtAt_len {d a i:Nat} {b rt:List Nat} (h:rtAt d a i b=some rt):rt.length=32:=by
 unfold rtAt at h
 split at h
 ·rename_i hc
  cases h
  exact hc.2.1
 ·cases h
def RtOf (d a:Nat) (found:List (List Nat)) (rt:List Nat):Prop := ∃i,i<found.length∧rtAt d a i (found.getD i [])=some rt∧∀j,j<i→rtAt d a j (found.getD j [])=none
def NoRt (d a:Nat) (found:List (List Nat)):Prop := ∀j,j<found.length→rtAt d a j (found.getD j [])=none
def EndAt (d:Nat) (ct:List (List Nat)) (a:Nat) (rt:List Nat):Prop:=ct.length - 2≤a∧a<ct.length∧RtOf d a (ct.drop a) rt∧∀j,ct.length - 2≤j→j<a→NoRt d j (ct.drop j)
def NoEnd (d:Nat) (ct:List (List Nat)):Prop := ∀j,ct.length - 2≤j→j<ct.length→NoRt d j (ct.drop j)
theorem run_maxZ {w:World} {a:Act} {o:Oper} (x:Operand) (n:Int) (r:Nat) (hr0:(r:Int)=max 0 n) (ho:o.op = .call { callee:=.builtin .max,args:=#[.const (.int .i64 0),x],argTypes:=#[3,3] }) (hx:a.eval x = .int .i64 n):(execOp a.eval o).run Tryd.prog w = .ok (.value (.int .i64 (r:Nat))) w:=by
 have hr:∀ty,(Builtin.max_ #[3,3] ty #[.int .i64 0,.int .i64 n]).run Tryd.prog w = .ok (.int .i64 (r:Nat)) w:=fun ty=>by
  rw [run_max_int2]
  congr 2
  split <;> omega
 simp only [execOp,ho,resolve,invoke,builtin,Sem.run_bind,Sem.run_pure,Result.andThen_ok,List.map_toArray,List.map_cons,List.map_nil,hx]
 have:=hr o.type
 simp [Act.eval,this]
theorem results_cell_tmp2 {fn:Func} {p u u2:Tmp} {t n:Nat} (ht:AggT t n) (h:fn.results=#[.cell p t,.tmp u,.tmp u2]) (tmps:Array Value) (w:World) (g T:Nat) (hp:tmps.getD p undef = .pointer (some ⟨g,0,none⟩)) (cs:List Value) (hn:cs.length=n) (hr:Row w g T cs) (v:Value) (hv:tmps.getD u undef=v) (v2:Value) (hv2:tmps.getD u2 undef=v2) :
  (results fn tmps).run Tryd.prog w = .ok (.tuple #[.agg cs.toArray,v,v2]) w:=by
 subst hv hv2
 have hl:=yF9 ht w g 0 cs hn (fun j v hv=>by rw [Nat.zero_add];exact hr.at j v hv)
 have hp':tmps[p]?.getD undef = .pointer (some ⟨g,0,none⟩):=by simpa using hp
 simp [results,h,hp',asAddr,hl]
theorem tread_all {w:World} {c:Nat→Colour} {t gp:Nat} {m:Pl} (h:Live w c t gp m) (hst:m.steps<35184372088831) (d:Nat) (hd:d<m.n) (htp:m.tape d=true) (sz:Int) (a N:Nat) (ha:a≤1000000) (hN:N≤1000000):Calls Tryd.prog 42 #[.agg (tpC gp (d:Nat) sz).toArray,.int .i64 (a:Nat),.int .i64 (N:Nat)] w fun e w' => ∃vr er,e = .returned (.tuple #[vr,.int .i64 er])∧Below w.heap.size w w'∧((er=4∧vr = .slice none 0 0∧(ctn m d).length<a+N)∨(er=2∧vr = .slice none 0 0∧a+N≤(ctn m d).length∧0<N∧m.on=false)∨(er=0∧a+N≤(ctn m d).length∧AOwn 133 64 w' w.heap.size vr (((ctn m d).drop a).take N)∧(N=0∨m.on=true))):=by
 refine (tread_any h hst d hd htp sz (a:Nat) (N:Nat) ⟨by omega,by omega⟩ ⟨by omega,by omega⟩).mono ?_
 rintro e w' ⟨hb,⟨hc,rfl⟩|⟨a',N',e1,e2,hle,v,rfl,ho,hon⟩|⟨a',N',e1,e2,hle,hp,hof,rfl⟩⟩
 ·exact ⟨_,_,rfl,hb,Or.inl ⟨rfl,rfl,by omega⟩⟩
 ·obtain rfl:a=a':=by omega
  obtain rfl:N=N':=by omega
  exact ⟨_,_,rfl,hb,Or.inr (Or.inr ⟨rfl,hle,ho,hon⟩)⟩
 ·exact ⟨_,_,rfl,hb,Or.inr (Or.inl ⟨rfl,rfl,by omega,by omega,hof⟩)⟩
set_option maxHeartbeats 4000000 in
set_option maxRecDepth 100000 in
theorem end_any {w:World} {c:Nat→Colour} {t gp:Nat} {m:Pl} (h:Live w c t gp m) (hst:m.steps<35184372088831) (d:Nat) (hd:d<m.n) (htp:m.tape d=true) (sz:Int) (he:Env w):Calls Tryd.prog 65 #[.agg (tpC gp (d:Nat) sz).toArray] w fun e w'=>Below w.heap.size w w'∧((∃a rt,e = .returned (.tuple #[av rt,.bool true,.int .i64 0])∧m.on=true∧EndAt d (ctn m d) a rt)∨(e = .returned (.tuple #[av (Zs 32),.bool false,.int .i64 0])∧(m.on=true∨(ctn m d).length=0)∧NoEnd d (ctn m d))∨(e = .returned (.tuple #[av (Zs 32),.bool false,.int .i64 2])∧m.on=false∧0<(ctn m d).length)):=by
 obtain ⟨ct,hct⟩:∃x,x=ctn m d:=⟨_,rfl⟩
 have HM:Hid (Live w c t gp m∧m.steps<35184372088831∧d<m.n∧m.tape d=true∧Env w∧ct=ctn m d∧m.len d=ct.length):=⟨h,hst,hd,htp,he,hct,by rw [hct];exact ctn_len htp⟩
 have hcl:ct.length≤4096:=by rw [hct];exact (ctn_le h.2.1 hd htp).1
 have H0:Hid (Loc w w []):=Loc.nil (Below.refl _ _)
 rw [←hct]
 obtain ⟨n,hn⟩:∃n,n=ct.length:=⟨_,rfl⟩
 obtain ⟨lo,hlo⟩:∃n,n=ct.length - 2:=⟨_,rfl⟩
 have HN:Hid (n=ct.length∧lo=ct.length - 2):=⟨hn,hlo⟩
 have hnl:n≤4096∧lo≤n∧n≤lo+2:=by omega
 clear h hst hd htp hct he hn hlo hcl
 obtain ⟨PQ,HPQ⟩:=exPQ fun (e:Ending) (w':World)=>Below w.heap.size w w'∧((∃a rt,e = .returned (.tuple #[av rt,.bool true,.int .i64 0])∧m.on=true∧EndAt d ct a rt)∨(e = .returned (.tuple #[av (Zs 32),.bool false,.int .i64 0])∧(m.on=true∨ct.length=0)∧NoEnd d ct)∨(e = .returned (.tuple #[av (Zs 32),.bool false,.int .i64 2])∧m.on=false∧0<ct.length))
 rw [←HPQ.out]
 go_enter Tryd.func65,Tryd.ntmps65
 go_upto_region 0 with fail
 refine wp_region_lit ?_
 refine wl rfl _ _ (yG2 (.tmp 0) rfl ((tpC gp (d:Nat) sz)) rfl) ?_
 have k_:=H0.out.box 86 ((tpC gp (d:Nat) sz))
 obtain ⟨w1,hW_⟩:∃W,W=w.alloc (.cells ((tpC gp (d:Nat) sz)).toArray 86):=⟨_,rfl⟩
 obtain ⟨q1,hq_⟩:∃q,q=w.heap.size:=⟨_,rfl⟩
 rw [←hW_,←hq_] at k_
 rw [←hW_,←hq_]
 clear hq_
 have Rw1:Hid (Loc w w1 [(q1,86,(tpC gp (d:Nat) sz))]):=k_
 clear k_ hW_ H0
 simp only [Act.put,aS,aC,aZ]
 refine wl rfl _ _ (yB6 (yA0 (Zs 32)) zero52 rfl) ?_
 have k_:=Rw1.out.box 52 (yA0 (Zs 32))
 obtain ⟨w2,hW_⟩:∃W,W=w1.alloc (.cells (yA0 (Zs 32)).toArray 52):=⟨_,rfl⟩
 obtain ⟨q2,hq_⟩:∃q,q=w1.heap.size:=⟨_,rfl⟩
 rw [←hW_,←hq_] at k_
 rw [←hW_,←hq_]
 clear hq_
 have Rw2:Hid (Loc w w2 [(q1,86,(tpC gp (d:Nat) sz)),(q2,52,yA0 (Zs 32))]):=k_
 clear k_ hW_ Rw1
 simp only [Act.put,aS,aC,aZ]
 refine wa (.const (.bool false)) (.bool false) ?_
 refine wa (.const (.int .i64 0)) (.int .i64 0) ?_
 simp only [Act.put,aS,aC,aZ]
 refine wpList_nil ?_
 go_upto_region 1 with fail
 refine wp_region_lit ?_
 refine wl rfl _ _ (yA9 ag86 (.tmp 1) rfl q1 (0) rfl ((tpC gp (d:Nat) sz)) rfl (yF0 Rw2.out 0 rfl)) ?_
 simp only [Act.put,aS,aC,aZ]
 refine yA5 eN38 [.tmp 11] _ rfl rfl [(.agg ((tpC gp (d:Nat) sz)).toArray)] rfl ?_
 refine (tlen_any (HM.out.1.below Rw2.out.below) HM.out.2.1 d HM.out.2.2.1 sz).mono ?_
 rintro e w3 ⟨rfl,hb_⟩
 refine ⟨_,rfl,?_⟩
 rw [HM.out.2.2.2.2.2.2,←HN.out.1]
 have H3:Hid (Loc w w3 [(q1,86,(tpC gp (d:Nat) sz)),(q2,52,yA0 (Zs 32))]):=Rw2.out.later hb_
 clear hb_ Rw2
 simp only [Act.put,aS,aC,aZ]
 refine wa (.tmp 12) (.int .i64 (n:Nat)) ?_
 simp only [Act.put,aS,aC,aZ]
 refine wpList_nil ?_
 go_upto_region 2 with fail
 refine wp_region_lit ?_
 refine wm 5 (.int .i64 (n:Nat)) ?_
 refine wl rfl (.int .i64 ((n:Nat) - 2)) _ (run_subZ (.tmp 13) (.const (.int .i64 2)) rfl (n:Nat) 2 _ rfl rfl rfl (by omega) (by omega)) ?_
 refine wl rfl _ _ (run_maxZ (.tmp 14) ((n:Nat) - 2) lo (by have:=HN.out;omega) rfl rfl) ?_
 simp only [Act.put,aS,aC,aZ]
 refine wa (.tmp 15) (.int .i64 (lo:Nat)) ?_
 simp only [Act.put,aS,aC,aZ]
 refine wpList_nil ?_
 go_wp2_with fail
 go_loopw [6,7,8,9,10] (fun vk _ _ _ _ W => ∃k:Nat,vk = .int .i64 (k:Nat)∧lo≤k∧k≤n∧(k=lo∨m.on=true)∧Hid (Loc w W [(q1,86,(tpC gp (d:Nat) sz)),(q2,52,yA0 (Zs 32))]∧∀j,lo≤j→j<k→NoRt d j (ct.drop j))) (fun vk _ _ _ _ _=>n - (intOf vk).toNat)
 case atStart=>exact ⟨lo,rfl,Nat.le_refl _,hnl.2.1,Or.inl rfl,H3.out,fun j h1 h2=>absurd h2 (Nat.not_lt.2 h1)⟩
 case round =>
  obtain ⟨k,rfl,hlk,hk,hko,HI⟩:=hrel
  by_cases hlt:k<n
  ·go_upto_region 3 with fail
   refine wp_region_lit ?_
   refine wm 6 (.int .i64 (k:Nat)) ?_
   refine wm 5 (.int .i64 (n:Nat)) ?_
   refine wl rfl _ _ (yB8 (.tmp 16) (.tmp 17) rfl (k:Nat) (n:Nat) rfl rfl true (decide_eq_true (by omega))) ?_
   simp only [Act.put,aS,aC,aZ]
   refine wpList_nil ?_
   obtain ⟨N,hN⟩:∃N,n=k+N:=⟨n - k,by omega⟩
   have HL:Hid (Loc w wr [(q1,86,(tpC gp (d:Nat) sz)),(q2,52,yA0 (Zs 32))]):=HI.out.1
   have HJ:Hid (∀j,lo≤j→j<k→NoRt d j (ct.drop j)):=HI.out.2
   clear HI
   go_upto_region 5 with fail
   refine wp_region_lit ?_
   refine wl rfl _ _ (yA9 ag86 (.tmp 1) rfl q1 (0) rfl ((tpC gp (d:Nat) sz)) rfl (yF0 HL.out 0 rfl)) ?_
   refine wm 6 (.int .i64 (k:Nat)) ?_
   refine wm 5 (.int .i64 (n:Nat)) ?_
   simp only [Act.put,aS,aC,aZ]
   refine wm 6 (.int .i64 (k:Nat)) ?_
   refine wl rfl (.int .i64 (N:Nat)) _ (run_subZ (.tmp 24) (.tmp 25) rfl (n:Nat) (k:Nat) _ rfl rfl (by omega) (by omega) (by omega)) ?_
   simp only [Act.put,aS,aC,aZ]
   refine yA5 eN42 [.tmp 22,.tmp 23,.tmp 26] _ rfl rfl [(.agg (tpC gp (d:Nat) sz).toArray),(.int .i64 (k:Nat)),(.int .i64 (N:Nat))] rfl ?_
   refine (tread_all (HM.out.1.below HL.out.below) HM.out.2.1 d HM.out.2.2.1 HM.out.2.2.2.1 sz k N (by omega) (by omega)).mono ?_
   rintro e y1 ⟨v1,e1,rfl,hb_,hc_⟩
   refine ⟨_,rfl,?_⟩
   rw [←HM.out.2.2.2.2.2.1] at hc_
   have H4:Hid (Loc w y1 [(q1,86,(tpC gp (d:Nat) sz)),(q2,52,yA0 (Zs 32))]):=HL.out.later hb_
   have H4R:Hid ((e1=4∧v1 = .slice none 0 0∧ct.length<k+N)∨(e1=2∧v1 = .slice none 0 0∧k+N≤ct.length∧0<N∧m.on=false)∨(e1=0∧k+N≤ct.length∧AOwn 133 64 y1 wr.heap.size v1 ((ct.drop k).take N)∧(N=0∨m.on=true))):=hc_
   clear hb_ hc_
   simp only [Act.put,aS,aC,aZ]
   refine wm 27 (.tuple #[v1,(.int .i64 e1)]) ?_
   refine wl rfl _ _ (yA8 (.tmp 21) 0 rfl #[v1,(.int .i64 e1)] rfl v1 rfl) ?_
   refine wl rfl _ _ (yA8 (.tmp 21) 1 rfl #[v1,(.int .i64 e1)] rfl (.int .i64 e1) rfl) ?_
   simp only [Act.put,aS,aC,aZ]
   refine wa (.tmp 28) v1 ?_
   refine wa (.tmp 29) (.int .i64 e1) ?_
   simp only [Act.put,aS,aC,aZ]
   refine wpList_nil ?_
   rcases H4R.out with ⟨_,_,hfar⟩|⟨rfl,rfl,_,_,hoff⟩|⟨rfl,_,ho1,hon⟩
   ·have:=HN.out.1;omega
   ·go_upto_region 6 with fail
    refine wp_region_lit ?_
    refine wm 8 (.int .i64 2) ?_
    refine wl rfl _ _ (yD1 (.tmp 30) (.const (.int .i64 0)) rfl (2) (0) rfl rfl true rfl) ?_
    simp only [Act.put,aS,aC,aZ]
    refine wpList_nil ?_
    go_upto_region 7 with fail
    refine wp_region_lit ?_
    refine wl rfl _ _ (run_build52z rfl) ?_
    refine wm 8 (.int .i64 2) ?_
    simp only [Act.put,aS,aC,aZ]
    refine wlS rfl rfl _ (yB3 ag52 (.tmp 2) (.tmp 32) rfl H4.out 1 rfl (0) rfl (yA0 (Zs 32)) rfl (bz 32) (by rw [bz];decide) (yB0 _)).1 ?_
    have k_:=H4.out.lay 1 rfl (0) (yA0 (Zs 32))
    rw [yF4 (n:=32) _ (yH2 32)] at k_ ⊢
    obtain ⟨y9,hW_⟩:∃W,W=y1.setRow q2 (yA0 (Zs 32)).toArray:=⟨_,rfl⟩
    rw [←hW_] at k_ ⊢
    have Ry9:Hid (Loc w y9 [(q1,86,(tpC gp (d:Nat) sz)),(q2,52,yA0 (Zs 32))]):=k_
    clear k_ hW_ H4
    refine wa (.const (.bool false)) (.bool false) ?_
    refine wa (.tmp 33) (.int .i64 2) ?_
    simp only [Act.put,aS,aC,aZ]
    refine wpList_nil ?_
    go_wp2_with fail
    exact bodyPost_ret (results_cell_tmp2 ag52 Tryd.results65 _ _ q2 52 rfl (yA0 (Zs 32)) (bz 32) (Ry9.out.at 1 rfl) (.bool false) rfl (.int .i64 2) rfl) rfl (by rw [HPQ.out];exact ⟨Ry9.out.below,Or.inr (Or.inr ⟨rfl,hoff,by have:=HN.out.1;omega⟩)⟩)
   ·have hon2:m.on=true:=(by rcases hon with h|h;omega;exact h)
    rw [List.take_of_length_le (by rw [List.length_drop];have:=HN.out.1;omega)] at ho1
    have HO:Hid (AOwn 133 64 y1 wr.heap.size v1 (ct.drop k)∧m.on=true∧(ct.drop k).length≤2):=⟨ho1,hon2,by rw [List.length_drop];have:=HN.out.1;omega⟩
    clear ho1 hon
    go_upto_region 6 with fail
    refine wp_region_lit ?_
    refine wm 8 (.int .i64 0) ?_
    refine wl rfl _ _ (yD1 (.tmp 30) (.const (.int .i64 0)) rfl (0) (0) rfl rfl false rfl) ?_
    simp only [Act.put,aS,aC,aZ]
    refine wpList_nil ?_
    go_upto_region 8 with fail
    refine wp_region_lit ?_
    refine wl rfl _ _ (yA3 f86_1 (.tmp 1) rfl q1 (0) rfl) ?_
    refine wl rfl _ _ (yA7 o3 (.tmp 35) rfl q1 (0+1) rfl (.int .i64 (d:Nat)) ((H4.out.at 0 rfl).at (0+1) _ rfl)) ?_
    refine wm 6 (.int .i64 (k:Nat)) ?_
    simp only [Act.put,aS,aC,aZ]
    refine wm 7 v1 ?_
    simp only [Act.put,aS,aC,aZ]
    refine yA5 eN80 [.tmp 36,.tmp 37,.tmp 38] _ rfl rfl [(.int .i64 (d:Nat)),(.int .i64 (k:Nat)),v1] rfl ?_
    refine (rootOfEnd_any d k v1 (ct.drop k) _ y1 HO.out.1 HO.out.2.2 (HM.out.2.2.2.2.1.later H4.out.below)).mono ?_
    rintro e y2 ⟨hb_,hr_⟩
    obtain ⟨rt,ok,rfl,hrl_,hrd_⟩:∃(rt:List Nat) (ok:Bool),e = .returned (.tuple #[av rt,.bool ok])∧rt.length=32∧((ok=true∧RtOf d k (ct.drop k) rt)∨(ok=false∧NoRt d k (ct.drop k))):=(by
     rcases hr_ with ⟨i,r9,e9,h1,h2,h3⟩|⟨e9,h1⟩
     ·exact ⟨_,_,e9,rtAt_len h2,Or.inl ⟨rfl,i,h1,h2,h3⟩⟩
     ·exact ⟨_,_,e9,yH2 32,Or.inr ⟨rfl,h1⟩⟩)
    refine ⟨_,rfl,?_⟩
    have H5:Hid (Loc w y2 [(q1,86,(tpC gp (d:Nat) sz)),(q2,52,yA0 (Zs 32))]):=H4.out.later hb_
    have HR:Hid (rt.length=32∧((ok=true∧RtOf d k (ct.drop k) rt)∨(ok=false∧NoRt d k (ct.drop k)))):=⟨hrl_,hrd_⟩
    clear hb_ hr_ hrl_ hrd_ H4
    simp only [Act.put,aS,aC,aZ]
    refine wm 39 (.tuple #[(av rt),(.bool ok)]) ?_
    refine wl rfl _ _ (yA8 (.tmp 34) 0 rfl #[(av rt),(.bool ok)] rfl (av rt) rfl) ?_
    refine wl rfl _ _ (yA8 (.tmp 34) 1 rfl #[(av rt),(.bool ok)] rfl (.bool ok) rfl) ?_
    simp only [Act.put,aS,aC,aZ]
    refine wl rfl _ _ (yB6 (yA0 (Zs 32)) zero52 rfl) ?_
    have k_:=H5.out.box 52 (yA0 (Zs 32))
    obtain ⟨y3,hW_⟩:∃W,W=y2.alloc (.cells (yA0 (Zs 32)).toArray 52):=⟨_,rfl⟩
    obtain ⟨q3,hq_⟩:∃q,q=y2.heap.size:=⟨_,rfl⟩
    rw [←hW_,←hq_] at k_
    rw [←hW_,←hq_]
    clear hq_
    have Ry3:Hid (Loc w y3 [(q1,86,(tpC gp (d:Nat) sz)),(q2,52,yA0 (Zs 32)),(q3,52,yA0 (Zs 32))]):=k_
    clear k_ hW_ H5
    simp only [Act.put,aS,aC,aZ]
    refine wlS rfl rfl _ (yB3 ag52 (.tmp 9) (.tmp 40) rfl Ry3.out 2 rfl (0) rfl (yA0 rt) rfl (by rw [yA1];exact HR.out.1) (by rw [yA1,bz,HR.out.1];decide) (yB0 _)).1 ?_
    have k_:=Ry3.out.lay 2 rfl (0) (yA0 rt)
    rw [yF4 (n:=32) _ HR.out.1] at k_ ⊢
    obtain ⟨y4,hW_⟩:∃W,W=y3.setRow q3 (yA0 rt).toArray:=⟨_,rfl⟩
    rw [←hW_] at k_ ⊢
    have Ry4:Hid (Loc w y4 [(q1,86,(tpC gp (d:Nat) sz)),(q2,52,yA0 (Zs 32)),(q3,52,yA0 rt)]):=k_
    clear k_ hW_ Ry3
    refine wa (.tmp 41) (.bool ok) ?_
    simp only [Act.put,aS,aC,aZ]
    refine wpList_nil ?_
    cases ok with
    | false =>
     have HNO:Hid (NoRt d k (ct.drop k)):=(by rcases HR.out.2 with ⟨h,_⟩|⟨_,h⟩;cases h;exact h)
     go_upto_region 9 with fail
     refine wp_region_lit ?_
     refine wm 10 (.bool false) ?_
     simp only [Act.put,aS,aC,aZ]
     refine wpList_nil ?_
     go_upto_region 4 with fail
     refine wp_region_lit ?_
     refine wm 6 (.int .i64 (k:Nat)) ?_
     refine wl rfl (.int .i64 ((k+1:Nat):Int)) _ (yC8 (.tmp 19) (.const (.int .i64 1)) rfl (k:Nat) 1 _ rfl rfl (by omega) (by omega) (by omega)) ?_
     refine wa (.tmp 20) (.int .i64 ((k+1:Nat):Int)) ?_
     simp only [Act.put,aS,aC,aZ]
     refine wpList_nil ?_
     go_wp2_with fail
     exact ⟨⟨k+1,rfl,by omega,by omega,Or.inr HO.out.2.1,Ry4.out.take 2,fun j h1 h2=>(by rcases Nat.lt_or_ge j k with q|q;exact HJ.out j h1 q;rw [show j=k by omega];exact HNO.out)⟩,by simp [intOf];omega⟩
    | true =>
     have HYES:Hid (RtOf d k (ct.drop k) rt):=(by rcases HR.out.2 with ⟨_,h⟩|⟨h,_⟩;exact h;cases h)
     go_upto_region 9 with fail
     refine wp_region_lit ?_
     refine wm 10 (.bool true) ?_
     simp only [Act.put,aS,aC,aZ]
     refine wpList_nil ?_
     go_upto_region 10 with fail
     refine wp_region_lit ?_
     refine wl rfl _ _ (yA9 ag52 (.tmp 9) rfl q3 (0) rfl (yA0 rt) (by rw [yA1];exact HR.out.1) (yF0 Ry4.out 2 rfl)) ?_
     simp only [Act.put,aS,aC,aZ]
     refine wlS rfl rfl _ (yB3 ag52 (.tmp 2) (.tmp 43) rfl Ry4.out 1 rfl (0) rfl (yA0 rt) rfl (by rw [yA1];exact HR.out.1) (by rw [yA1,bz,HR.out.1];decide) (yB0 _)).1 ?_
     have k_:=Ry4.out.lay 1 rfl (0) (yA0 rt)
     rw [yF4 (n:=32) _ HR.out.1] at k_ ⊢
     obtain ⟨y9,hW_⟩:∃W,W=y4.setRow q2 (yA0 rt).toArray:=⟨_,rfl⟩
     rw [←hW_] at k_ ⊢
     have Ry9:Hid (Loc w y9 [(q1,86,(tpC gp (d:Nat) sz)),(q2,52,yA0 rt),(q3,52,yA0 rt)]):=k_
     clear k_ hW_ Ry4
     refine wa (.const (.bool true)) (.bool true) ?_
     refine wa (.const (.int .i64 0)) (.int .i64 0) ?_
     simp only [Act.put,aS,aC,aZ]
     refine wpList_nil ?_
     go_wp2_with fail
     exact bodyPost_ret (results_cell_tmp2 ag52 Tryd.results65 _ _ q2 52 rfl (yA0 rt) (by rw [yA1];exact HR.out.1) (Ry9.out.at 1 rfl) (.bool true) rfl (.int .i64 0) rfl) rfl (by rw [HPQ.out];exact ⟨Ry9.out.below,Or.inl ⟨k,rt,rfl,HO.out.2.1,by have:=HN.out.2;omega,by have:=HN.out.1;omega,HYES.out,fun j h1 h2=>HJ.out j (by have:=HN.out.2;omega) h2⟩⟩)
  ·go_upto_region 3 with fail
   refine wp_region_lit ?_
   refine wm 6 (.int .i64 (k:Nat)) ?_
   refine wm 5 (.int .i64 (n:Nat)) ?_
   refine wl rfl _ _ (yB8 (.tmp 16) (.tmp 17) rfl (k:Nat) (n:Nat) rfl rfl false (decide_eq_false (by omega))) ?_
   simp only [Act.put,aS,aC,aZ]
   refine wpList_nil ?_
   have HL:Hid (Loc w wr [(q1,86,(tpC gp (d:Nat) sz)),(q2,52,yA0 (Zs 32))]):=HI.out.1
   have HJ:Hid (∀j,lo≤j→j<k→NoRt d j (ct.drop j)):=HI.out.2
   clear HI
   go_upto_region 11 with fail
   refine wp_region_lit ?_
   refine wl rfl _ _ (run_build52z rfl) ?_
   simp only [Act.put,aS,aC,aZ]
   refine wlS rfl rfl _ (yB3 ag52 (.tmp 2) (.tmp 44) rfl HL.out 1 rfl (0) rfl (yA0 (Zs 32)) rfl (bz 32) (by rw [bz];decide) (yB0 _)).1 ?_
   have k_:=HL.out.lay 1 rfl (0) (yA0 (Zs 32))
   rw [yF4 (n:=32) _ (yH2 32)] at k_ ⊢
   obtain ⟨y9,hW_⟩:∃W,W=wr.setRow q2 (yA0 (Zs 32)).toArray:=⟨_,rfl⟩
   rw [←hW_] at k_ ⊢
   have Ry9:Hid (Loc w y9 [(q1,86,(tpC gp (d:Nat) sz)),(q2,52,yA0 (Zs 32))]):=k_
   clear k_ hW_ HL
   refine wa (.const (.bool false)) (.bool false) ?_
   refine wa (.const (.int .i64 0)) (.int .i64 0) ?_
   simp only [Act.put,aS,aC,aZ]
   refine wpList_nil ?_
   go_wp2_with fail
   exact bodyPost_ret (results_cell_tmp2 ag52 Tryd.results65 _ _ q2 52 rfl (yA0 (Zs 32)) (bz 32) (Ry9.out.at 1 rfl) (.bool false) rfl (.int .i64 0) rfl) rfl (by rw [HPQ.out];exact ⟨Ry9.out.below,Or.inr (Or.inl ⟨rfl,(by rcases hko with h|h;right;have:=HN.out;omega;left;exact h),fun j h1 h2=>HJ.out j (by have:=HN.out.2;omega) (by have:=HN.out.1;omega)⟩)⟩)
end Go.Proofs.YtpkkkkomdblpoaaDoor

namespace Go.Proofs.YtpkkkkomdblpoaaDoor
open Go.RowKit Go.Maps
open Cold
def vC (gp:Nat) (d sz:Int) (rt:List Nat) (sl:Bool):List Value:=tpC gp d sz++(yA0 rt++[.bool sl])
theorem vC_len (gp:Nat) (d sz:Int) {rt:List Nat} (sl:Bool) (h:rt.length=32):(vC gp d sz rt sl).length=36:=by simp [vC,tpC,yA1,h]
theorem vC_tape (gp:Nat) (d sz:Int) (rt:List Nat) (sl:Bool) (j:Nat) (v:Value) (h:(tpC gp d sz)[j]? = some v):(vC gp d sz rt sl)[j]? = some v:=by
 unfold vC
 rw [List.getElem?_append_left (List.getElem?_eq_some_iff.1 h).1]
 exact h
theorem vC_rt (gp:Nat) (d sz:Int) (rt:List Nat) (sl:Bool) (j:Nat) (v:Value) (h:(yA0 rt)[j]? = some v):(vC gp d sz rt sl)[3+j]? = some v:=by
 unfold vC
 rw [List.getElem?_append_right (by show 3≤_;omega),show 3+j - (tpC gp d sz).length=j by show 3+j - 3=j;omega,List.getElem?_append_left (List.getElem?_eq_some_iff.1 h).1]
 exact h
theorem vC_sl (gp:Nat) (d sz:Int) {rt:List Nat} (sl:Bool) (h:rt.length=32):(vC gp d sz rt sl)[35]? = some (.bool sl):=by
 unfold vC
 rw [List.getElem?_append_right (by show 3≤_;omega),show 35 - (tpC gp d sz).length=32 by rfl,List.getElem?_append_right (by rw [yA1,h];exact Nat.le_refl _),yA1,h]
 rfl
theorem vC_root (gp:Nat) (d sz:Int) {rt rt':List Nat} (sl:Bool) (h:rt.length=32) (h':rt'.length=32):splice (vC gp d sz rt sl) 3 (yA0 rt')=vC gp d sz rt' sl:=by
 unfold splice vC
 have e1:(tpC gp d sz++(yA0 rt++[Value.bool sl])).take 3=tpC gp d sz:=rfl
 have e2:(tpC gp d sz++(yA0 rt++[Value.bool sl])).drop (3+(yA0 rt').length)=[Value.bool sl]:=by
  rw [yA1,h',List.drop_append,List.drop_eq_nil_of_le (by show 3≤_;omega),List.nil_append,show 3+32 - (tpC gp d sz).length=32 by rfl,List.drop_append,List.drop_eq_nil_of_le (by rw [yA1,h];exact Nat.le_refl _),yA1,h]
  rfl
 rw [e1,e2]
theorem vC_set (gp:Nat) (d sz:Int) {rt:List Nat} (sl sl':Bool) (h:rt.length=32):(vC gp d sz rt sl).set 35 (.bool sl')=vC gp d sz rt sl':=by
 unfold vC
 rw [List.set_append_right _ _ (by show 3≤_;omega),show 35 - (tpC gp d sz).length=32 by rfl,List.set_append_right _ _ (by rw [yA1,h];exact Nat.le_refl _),yA1,h]
 rfl
theorem sz4:(Tryd.prog.info? 4).map (·.size)=some 1:=by kernel_rfl
theorem run_stAt {S n:Nat} (ht:AggT S n) {W:World} {a:Act} {o:Oper} (x y:Operand) (ho:o.op = .store S x y) (g off T:Nat) (hx:a.eval x = .pointer (some ⟨g,off,none⟩)) (cs cur:List Value) (hy:a.eval y = .agg cs.toArray) (hl:cs.length=n) (hr:Row W g T cur) (hf:off+cs.length≤cur.length) (h1:∀v∈cs,v.oneCell'=true):(execOp a.eval o).run Tryd.prog W = .ok .skip (W.setRow g (splice cur off cs).toArray):=by
 have:=yG1 ht W g off T cur cs hl hr hf h1
 simp [execOp,ho,hx,hy,Instr.storeAt,Instr.sureAddr,this]
theorem Live.ch {w w':World} {c:Nat→Colour} {t g gv:Nat} {m:Pl} (h:Live w c t g m) (hc:Ch (· = gv) w w') (hv:(c gv).1≠t):Live w' c t g m :=
 ⟨h.1.kept hc.size fun b hlt hk=>⟨hc.block b hlt (fun e=>hv (e▸hk)),rfl⟩,h.2.1,fun b hlt=>h.2.2 b (Nat.le_trans hc.size hlt)⟩
set_option maxHeartbeats 4000000 in
set_option maxRecDepth 100000 in
theorem isSealed_yes {w:World} {gv gp:Nat} {rt:List Nat} (d:Nat) (sz:Int) (hv:Row w gv 88 (vC gp (d:Nat) sz rt true)) (hl:rt.length=32):Calls Tryd.prog 45 #[ptr gv] w fun e w'=>e = .returned (.tuple #[.bool true,.int .i64 0])∧w'=w:=by
 have HV:Hid (Row w gv 88 (vC gp (d:Nat) sz rt true)∧rt.length=32):=⟨hv,hl⟩
 clear hv hl
 obtain ⟨PQ,HPQ⟩:=exPQ fun (e:Ending) (w':World)=>e = .returned (.tuple #[.bool true,.int .i64 0])∧w'=w
 rw [←HPQ.out]
 go_enter Tryd.func45,Tryd.ntmps45
 go_upto_region 0 with fail
 refine wp_region_lit ?_
 refine wa (.const (.bool false)) (.bool false) ?_
 refine wa (.const (.int .i64 0)) (.int .i64 0) ?_
 simp only [Act.put,aS,aC,aZ]
 refine wpList_nil ?_
 go_upto_region 1 with fail
 refine wp_region_lit ?_
 refine wm 0 (ptr gv) ?_
 refine wl rfl _ _ (yF8 (.tmp 5) rfl ⟨gv,0,none⟩ rfl) ?_
 refine wl rfl _ _ (yA3 f88_2 (.tmp 6) rfl gv (0) rfl) ?_
 simp only [Act.put,aS,aC,aZ]
 refine wl rfl _ _ (yA7 o4 (.tmp 7) rfl gv (0+35) rfl (.bool true) (HV.out.1.at (0+35) _ (by rw [Nat.zero_add];exact vC_sl _ _ _ _ HV.out.2))) ?_
 simp only [Act.put,aS,aC,aZ]
 refine wpList_nil ?_
 go_upto_region 2 with fail
 refine wp_region_lit ?_
 refine wa (.const (.bool true)) (.bool true) ?_
 refine wa (.const (.int .i64 0)) (.int .i64 0) ?_
 simp only [Act.put,aS,aC,aZ]
 refine wpList_nil ?_
 go_wp2_with fail
 rw [HPQ.out]
 exact ⟨rfl,rfl⟩
set_option maxHeartbeats 4000000 in
set_option maxRecDepth 100000 in
theorem isSealed_no {w:World} {c:Nat→Colour} {t gp:Nat} {m:Pl} {gv:Nat} {rt:List Nat} (h:Live w c t gp m) (hst:m.steps<35184372088831) (d:Nat) (hd:d<m.n) (htp:m.tape d=true) (sz:Int) (he:Env w) (hv:Row w gv 88 (vC gp (d:Nat) sz rt false)) (hl:rt.length=32):Calls Tryd.prog 45 #[ptr gv] w fun e w' => ∃rt2 sl2 er,e = .returned (.tuple #[.bool sl2,.int .i64 er])∧Row w' gv 88 (vC gp (d:Nat) sz rt2 sl2)∧rt2.length=32∧Ch (· = gv) w w'∧((sl2=true∧er=0∧m.on=true∧∃a,EndAt d (ctn m d) a rt2)∨(sl2=false∧er=0∧(m.on=true∨(ctn m d).length=0)∧NoEnd d (ctn m d))∨(sl2=false∧er=2∧m.on=false∧0<(ctn m d).length)):=by
 have HM:Hid (Live w c t gp m∧m.steps<35184372088831∧d<m.n∧m.tape d=true∧Env w):=⟨h,hst,hd,htp,he⟩
 have HV:Hid (Row w gv 88 (vC gp (d:Nat) sz rt false)∧rt.length=32):=⟨hv,hl⟩
 clear h hst hd htp he hv hl
 obtain ⟨PQ,HPQ⟩:=exPQ fun (e:Ending) (w':World) => ∃rt2 sl2 er,e = .returned (.tuple #[.bool sl2,.int .i64 er])∧Row w' gv 88 (vC gp (d:Nat) sz rt2 sl2)∧rt2.length=32∧Ch (· = gv) w w'∧((sl2=true∧er=0∧m.on=true∧∃a,EndAt d (ctn m d) a rt2)∨(sl2=false∧er=0∧(m.on=true∨(ctn m d).length=0)∧NoEnd d (ctn m d))∨(sl2=false∧er=2∧m.on=false∧0<(ctn m d).length))
 rw [←HPQ.out]
 go_enter Tryd.func45,Tryd.ntmps45
 go_upto_region 0 with fail
 refine wp_region_lit ?_
 refine wa (.const (.bool false)) (.bool false) ?_
 refine wa (.const (.int .i64 0)) (.int .i64 0) ?_
 simp only [Act.put,aS,aC,aZ]
 refine wpList_nil ?_
 go_upto_region 1 with fail
 refine wp_region_lit ?_
 refine wm 0 (ptr gv) ?_
 refine wl rfl _ _ (yF8 (.tmp 5) rfl ⟨gv,0,none⟩ rfl) ?_
 refine wl rfl _ _ (yA3 f88_2 (.tmp 6) rfl gv (0) rfl) ?_
 simp only [Act.put,aS,aC,aZ]
 refine wl rfl _ _ (yA7 o4 (.tmp 7) rfl gv (0+35) rfl (.bool false) (HV.out.1.at (0+35) _ (by rw [Nat.zero_add];exact vC_sl _ _ _ _ HV.out.2))) ?_
 simp only [Act.put,aS,aC,aZ]
 refine wpList_nil ?_
 go_upto_region 3 with fail
 refine wp_region_lit ?_
 refine wa (.const (.int .i64 0)) (.int .i64 0) ?_
 simp only [Act.put,aS,aC,aZ]
 refine wpList_nil ?_
 go_upto_region 4 with fail
 refine wp_region_lit ?_
 refine wm 0 (ptr gv) ?_
 refine wm 0 (ptr gv) ?_
 refine wm 0 (ptr gv) ?_
 simp only [Act.put,aS,aC,aZ]
 refine wl rfl _ _ (yF8 (.tmp 12) rfl ⟨gv,0,none⟩ rfl) ?_
 refine wl rfl _ _ (yA3 f88_0 (.tmp 13) rfl gv (0) rfl) ?_
 refine wl rfl _ _ (yA9 ag86 (.tmp 14) rfl gv (0+0) rfl ((tpC gp (d:Nat) sz)) rfl (fun j v hj=>by rw [show 0+0+j=j by omega];exact HV.out.1.at j v (vC_tape _ _ _ _ _ j v hj))) ?_
 simp only [Act.put,aS,aC,aZ]
 refine yA5 eN65 [.tmp 15] _ rfl rfl [(.agg (tpC gp (d:Nat) sz).toArray)] rfl ?_
 refine (end_any HM.out.1 HM.out.2.1 d HM.out.2.2.1 HM.out.2.2.2.1 sz HM.out.2.2.2.2).mono ?_
 rintro e w1 ⟨hb_,hr_⟩
 obtain ⟨rt2,sl2,er,rfl,hl2_,hcon_⟩:∃(rt2:List Nat) (sl2:Bool) (er:Int),e = .returned (.tuple #[av rt2,.bool sl2,.int .i64 er])∧rt2.length=32∧((sl2=true∧er=0∧m.on=true∧∃a,EndAt d (ctn m d) a rt2)∨(sl2=false∧er=0∧(m.on=true∨(ctn m d).length=0)∧NoEnd d (ctn m d))∨(sl2=false∧er=2∧m.on=false∧0<(ctn m d).length)):=(by
  rcases hr_ with ⟨a,r9,e9,h1,h2⟩|⟨e9,h1,h2⟩|⟨e9,h1,h2⟩
  ·exact ⟨_,_,_,e9,(by obtain ⟨i,_,h3,_⟩:=h2.2.2.1;exact rtAt_len h3),Or.inl ⟨rfl,rfl,h1,a,h2⟩⟩
  ·exact ⟨_,_,_,e9,yH2 32,Or.inr (Or.inl ⟨rfl,rfl,h1,h2⟩)⟩
  ·exact ⟨_,_,_,e9,yH2 32,Or.inr (Or.inr ⟨rfl,rfl,h1,h2⟩)⟩)
 refine ⟨_,rfl,?_⟩
 have H1:Hid (Row w1 gv 88 (vC gp (d:Nat) sz rt false)∧Ch (· = gv) w w1):=⟨HV.out.1.later hb_ HV.out.1.lt,Ch.of_below hb_⟩
 have HC:Hid (rt2.length=32∧((sl2=true∧er=0∧m.on=true∧∃a,EndAt d (ctn m d) a rt2)∨(sl2=false∧er=0∧(m.on=true∨(ctn m d).length=0)∧NoEnd d (ctn m d))∨(sl2=false∧er=2∧m.on=false∧0<(ctn m d).length))):=⟨hl2_,hcon_⟩
 clear hb_ hr_ hl2_ hcon_
 simp only [Act.put,aS,aC,aZ]
 refine wm 16 (.tuple #[(av rt2),(.bool sl2),(.int .i64 er)]) ?_
 refine wl rfl _ _ (yA8 (.tmp 9) 0 rfl #[(av rt2),(.bool sl2),(.int .i64 er)] rfl (av rt2) rfl) ?_
 refine wl rfl _ _ (yA8 (.tmp 9) 1 rfl #[(av rt2),(.bool sl2),(.int .i64 er)] rfl (.bool sl2) rfl) ?_
 simp only [Act.put,aS,aC,aZ]
 refine wl rfl _ _ (yA8 (.tmp 9) 2 rfl #[(av rt2),(.bool sl2),(.int .i64 er)] rfl (.int .i64 er) rfl) ?_
 refine wl rfl _ _ (yF8 (.tmp 10) rfl ⟨gv,0,none⟩ rfl) ?_
 refine wl rfl _ _ (yA3 f88_1 (.tmp 20) rfl gv (0) rfl) ?_
 simp only [Act.put,aS,aC,aZ]
 refine wlS rfl rfl _ (run_stAt ag52 (.tmp 21) (.tmp 17) rfl gv (0+3) 88 rfl (yA0 rt2) (vC gp (d:Nat) sz rt false) rfl (by rw [yA1];exact HC.out.1) H1.out.1 (by rw [yA1,HC.out.1,vC_len _ _ _ _ HV.out.2];decide) (yB0 _)) ?_
 rw [Nat.zero_add,vC_root _ _ _ _ HV.out.2 HC.out.1]
 have r_:=H1.out.1.setRow (vC gp (d:Nat) sz rt2 false)
 have c_:=H1.out.2.setRow (g:=gv) (Or.inl rfl) (vC gp (d:Nat) sz rt2 false).toArray
 obtain ⟨w2,hW_⟩:∃U_:World,U_=w1.setRow gv (vC gp (d:Nat) sz rt2 false).toArray:=⟨_,rfl⟩
 rw [←hW_] at r_ c_ ⊢
 have H2:Hid (Row w2 gv 88 (vC gp (d:Nat) sz rt2 false)∧Ch (· = gv) w w2):=⟨r_,c_⟩
 clear r_ c_ hW_ H1
 refine wl rfl _ _ (yF8 (.tmp 11) rfl ⟨gv,0,none⟩ rfl) ?_
 refine wl rfl _ _ (yA3 f88_2 (.tmp 22) rfl gv (0) rfl) ?_
 simp only [Act.put,aS,aC,aZ]
 refine wlS rfl rfl _ (run_putRow (t:=4) sz4 (.tmp 23) (.tmp 18) rfl gv (0+35) 88 _ rfl (.bool sl2) rfl ⟨rfl,rfl⟩ H2.out.1 (by rw [vC_len _ _ _ _ HC.out.1];decide)) ?_
 have r_:=row_cell' (i:=0+35) H2.out.1 (.bool sl2)
 have c_:=H2.out.2.setCell (g:=gv) (Or.inl rfl) (0+35) (.bool sl2)
 rw [Nat.zero_add] at r_ c_ ⊢
 rw [vC_set _ _ _ _ _ HC.out.1] at r_
 obtain ⟨w3,hW_⟩:∃U_:World,U_=w2.setCell ⟨gv,35,none⟩ (.bool sl2):=⟨_,rfl⟩
 rw [←hW_] at r_ c_ ⊢
 have H3:Hid (Row w3 gv 88 (vC gp (d:Nat) sz rt2 sl2)∧Ch (· = gv) w w3):=⟨r_,c_⟩
 clear r_ c_ hW_ H2
 refine wa (.tmp 19) (.int .i64 er) ?_
 simp only [Act.put,aS,aC,aZ]
 refine wpList_nil ?_
 go_upto_region 5 with fail
 refine wp_region_lit ?_
 refine wm 0 (ptr gv) ?_
 refine wl rfl _ _ (yF8 (.tmp 24) rfl ⟨gv,0,none⟩ rfl) ?_
 refine wl rfl _ _ (yA3 f88_2 (.tmp 25) rfl gv (0) rfl) ?_
 simp only [Act.put,aS,aC,aZ]
 refine wl rfl _ _ (yA7 o4 (.tmp 26) rfl gv (0+35) rfl (.bool sl2) (H3.out.1.at (0+35) _ (by rw [Nat.zero_add];exact vC_sl _ _ _ _ HC.out.1))) ?_
 refine wm 4 (.int .i64 er) ?_
 refine wa (.tmp 27) (.bool sl2) ?_
 simp only [Act.put,aS,aC,aZ]
 refine wa (.tmp 28) (.int .i64 er) ?_
 simp only [Act.put,aS,aC,aZ]
 refine wpList_nil ?_
 go_wp2_with fail
 rw [HPQ.out]
 exact ⟨rt2,sl2,er,rfl,H3.out.1,HC.out.1,H3.out.2,HC.out.2⟩
def SlR (on:Bool) (d:Nat) (ct:List (List Nat)) (rt:List Nat) (sl:Bool) (rt2:List Nat) (sl2:Bool) (er:Int):Prop :=
 (sl=true∧rt2=rt∧sl2=true∧er=0)∨(sl=false∧((sl2=true∧er=0∧on=true∧∃a,EndAt d ct a rt2)∨(sl2=false∧er=0∧(on=true∨ct.length=0)∧NoEnd d ct)∨(sl2=false∧er=2∧on=false∧0<ct.length)))
theorem isSealed_any {w:World} {c:Nat→Colour} {t gp:Nat} {m:Pl} {gv:Nat} {rt:List Nat} {sl:Bool} (h:Live w c t gp m) (hst:m.steps<35184372088831) (d:Nat) (hd:d<m.n) (htp:m.tape d=true) (sz:Int) (he:Env w) (hv:Row w gv 88 (vC gp (d:Nat) sz rt sl)) (hl:rt.length=32):Calls Tryd.prog 45 #[ptr gv] w fun e w' => ∃rt2 sl2 er,e = .returned (.tuple #[.bool sl2,.int .i64 er])∧Row w' gv 88 (vC gp (d:Nat) sz rt2 sl2)∧rt2.length=32∧Ch (· = gv) w w'∧SlR m.on d (ctn m d) rt sl rt2 sl2 er:=by
 cases sl with
 | true =>
  refine (isSealed_yes d sz hv hl).mono ?_
  rintro e w' ⟨rfl,rfl⟩
  exact ⟨rt,true,0,rfl,hv,hl,Ch.refl _ _,Or.inl ⟨rfl,rfl,rfl,rfl⟩⟩
 | false =>
  refine (isSealed_no h hst d hd htp sz he hv hl).mono ?_
  rintro e w' ⟨rt2,sl2,er,rfl,h1,h2,h3,h4⟩
  exact ⟨rt2,sl2,er,rfl,h1,h2,h3,Or.inr ⟨rfl,h4⟩⟩
end Go.Proofs.YtpkkkkomdblpoaaDoor

namespace Go.Proofs.YtpkkkkomdblpoaaDoor
open Go.RowKit Go.Maps
open Cold
theorem Env.ch {W W':World} (h:Env W) {S:Nat→Prop} (hc:Ch S W W') (h0:¬ S 0) (h1:¬ S 1) (h2:¬ S 2):Env W':=by
 obtain ⟨a,b,e⟩:=h
 have key:∀(g i:Nat) (v:Value),¬ S g→W.cell? ⟨g,i,none⟩=some v→W'.cell? ⟨g,i,none⟩=some v:=fun g i v hg hv=>by
  have hlt:=block_lt_of_cell hv
  have:=hc.block g hlt hg
  rw [←hv]
  unfold World.cell?
  simp only [this]
 exact ⟨fun r=>key _ _ _ h2 (a r),fun t ht=>key _ _ _ h1 (b t ht),fun t ht=>key _ _ _ h0 (e t ht)⟩
structure VolW (W:World) (c:Nat→Colour) (t gp gv d:Nat) (sz:Int) (m:Pl) (rt:List Nat) (sl:Bool):Prop where
 row:Row W gv 88 (vC gp (d:Nat) sz rt sl)
 len:rt.length=32
 col:(c gv).1≠t
 live:Live W c t gp m
 env:Env W
 dev:d<m.n
 tape:m.tape d=true
 size:sz=(m.size d:Nat)
 far:3≤gv
 gl:(c 0).1≠t∧(c 1).1≠t∧(c 2).1≠t
theorem VolW.below {W W':World} {c:Nat→Colour} {t gp gv d:Nat} {sz:Int} {m:Pl} {rt:List Nat} {sl:Bool} (h:VolW W c t gp gv d sz m rt sl) (hb:Below W.heap.size W W'):VolW W' c t gp gv d sz m rt sl :=
 ⟨h.row.later hb h.row.lt,h.len,h.col,h.live.below hb,h.env.later hb,h.dev,h.tape,h.size,h.far,h.gl⟩
theorem VolW.seen {W W':World} {c:Nat→Colour} {t gp gv d:Nat} {sz:Int} {m:Pl} {rt:List Nat} {sl:Bool} {rt2:List Nat} {sl2:Bool} (h:VolW W c t gp gv d sz m rt sl) (hc:Ch (· = gv) W W') (hr:Row W' gv 88 (vC gp (d:Nat) sz rt2 sl2)) (hl:rt2.length=32):VolW W' c t gp gv d sz m rt2 sl2 :=
 ⟨hr,hl,h.col,h.live.ch hc h.col,h.env.ch hc (fun e=>by have:=h.far;omega) (fun e=>by have:=h.far;omega) (fun e=>by have:=h.far;omega),h.dev,h.tape,h.size,h.far,h.gl⟩
theorem VolW.spT {W W':World} {c:Nat→Colour} {t gp gv d:Nat} {sz:Int} {m:Pl} {rt:List Nat} {sl:Bool} {c':Nat→Colour} {m':Pl} (h:VolW W c t gp gv d sz m rt sl) (s:SpT t W W' c c') (l:Live W' c' t gp m') (hn:m'.n=m.n) (ht:m'.tape d=m.tape d) (hs:m'.size d=m.size d):VolW W' c' t gp gv d sz m' rt sl :=
 ⟨(s.row h.row h.col).1,h.len,(s.row h.row h.col).2,l,h.env.ch s.ch h.gl.1 h.gl.2.1 h.gl.2.2,by rw [hn];exact h.dev,by rw [ht];exact h.tape,by rw [hs];exact h.size,h.far,by rw [s.cc 0 (by have:=h.row.lt;have:=h.far;omega),s.cc 1 (by have:=h.row.lt;have:=h.far;omega),s.cc 2 (by have:=h.row.lt;have:=h.far;omega)];exact h.gl⟩
theorem VolW.bound {W:World} {c:Nat→Colour} {t gp gv d:Nat} {sz:Int} {m:Pl} {rt:List Nat} {sl:Bool} (h:VolW W c t gp gv d sz m rt sl):(ctn m d).length≤4096∧((ctn m d).length:Int)≤sz∧0≤sz∧sz≤4096∧m.len d=(ctn m d).length:=by
 have h1:=ctn_le h.live.2.1 h.dev h.tape
 have h2:=h.live.2.1.sizes d h.dev
 have h3:=h.size
 exact ⟨h1.1,by omega,by omega,by omega,ctn_len h.tape⟩
def roomP (sz:Int) (n:Nat) (sl:Bool):Nat:=if sl then 0 else (sz - n - 2).toNat
set_option maxHeartbeats 4000000 in
set_option maxRecDepth 100000 in
theorem room_any {w:World} {c:Nat→Colour} {t gp gv d:Nat} {sz:Int} {m:Pl} {rt:List Nat} {sl:Bool} (h:VolW w c t gp gv d sz m rt sl) (hst:m.steps<35184372088831):Calls Tryd.prog 23 #[ptr gv] w fun e w' => ∃rt2 sl2 er,e = .returned (.int .i64 (roomP sz (ctn m d).length sl2:Nat))∧VolW w' c t gp gv d sz m rt2 sl2∧Ch (· = gv) w w'∧SlR m.on d (ctn m d) rt sl rt2 sl2 er:=by
 have HM:Hid (VolW w c t gp gv d sz m rt sl∧m.steps<35184372088831):=⟨h,hst⟩
 have HB:=h.bound
 clear h hst
 obtain ⟨PQ,HPQ⟩:=exPQ fun (e:Ending) (w':World) => ∃rt2 sl2 er,e = .returned (.int .i64 (roomP sz (ctn m d).length sl2:Nat))∧VolW w' c t gp gv d sz m rt2 sl2∧Ch (· = gv) w w'∧SlR m.on d (ctn m d) rt sl rt2 sl2 er
 rw [←HPQ.out]
 go_enter Tryd.func23,Tryd.ntmps23
 go_upto_region 0 with fail
 refine wp_region_lit ?_
 refine wa (.const (.int .i64 0)) (.int .i64 0) ?_
 simp only [Act.put,aS,aC,aZ]
 refine wpList_nil ?_
 go_upto_region 1 with fail
 refine wp_region_lit ?_
 refine wm 0 (ptr gv) ?_
 simp only [Act.put,aS,aC,aZ]
 refine yA5 eN45 [.tmp 6] _ rfl rfl [(ptr gv)] rfl ?_
 refine (isSealed_any HM.out.1.live HM.out.2 d HM.out.1.dev HM.out.1.tape sz HM.out.1.env HM.out.1.row HM.out.1.len).mono ?_
 rintro e w1 ⟨rt2,sl2,er,rfl,hr_,hl_,hc_,hs_⟩
 refine ⟨_,rfl,?_⟩
 have H1:Hid (VolW w1 c t gp gv d sz m rt2 sl2∧Ch (· = gv) w w1∧SlR m.on d (ctn m d) rt sl rt2 sl2 er):=⟨HM.out.1.seen hc_ hr_ hl_,hc_,hs_⟩
 clear hr_ hl_ hc_ hs_
 simp only [Act.put,aS,aC,aZ]
 refine wm 7 (.tuple #[(.bool sl2),(.int .i64 er)]) ?_
 refine wl rfl _ _ (yA8 (.tmp 5) 0 rfl #[(.bool sl2),(.int .i64 er)] rfl (.bool sl2) rfl) ?_
 refine wl rfl _ _ (yA8 (.tmp 5) 1 rfl #[(.bool sl2),(.int .i64 er)] rfl (.int .i64 er) rfl) ?_
 simp only [Act.put,aS,aC,aZ]
 refine wa (.tmp 8) (.bool sl2) ?_
 refine wa (.tmp 9) (.int .i64 er) ?_
 simp only [Act.put,aS,aC,aZ]
 refine wpList_nil ?_
 cases sl2 with
 | true =>
  go_upto_region 2 with fail
  refine wp_region_lit ?_
  refine wm 3 (.bool true) ?_
  simp only [Act.put,aS,aC,aZ]
  refine wpList_nil ?_
  go_upto_region 3 with fail
  refine wp_region_lit ?_
  refine wa (.const (.int .i64 0)) (.int .i64 0) ?_
  simp only [Act.put,aS,aC,aZ]
  refine wpList_nil ?_
  go_wp2_with fail
  rw [HPQ.out]
  exact ⟨rt2,true,er,rfl,H1.out⟩
 | false =>
  go_upto_region 2 with fail
  refine wp_region_lit ?_
  refine wm 3 (.bool false) ?_
  simp only [Act.put,aS,aC,aZ]
  refine wpList_nil ?_
  go_upto_region 4 with fail
  refine wp_region_lit ?_
  refine wm 0 (ptr gv) ?_
  refine wl rfl _ _ (yF8 (.tmp 11) rfl ⟨gv,0,none⟩ rfl) ?_
  refine wl rfl _ _ (yA3 f88_0 (.tmp 12) rfl gv (0) rfl) ?_
  simp only [Act.put,aS,aC,aZ]
  refine wl rfl _ _ (yA9 ag86 (.tmp 13) rfl gv (0+0) rfl ((tpC gp (d:Nat) sz)) rfl (fun j v hj=>by rw [show 0+0+j=j by omega];exact H1.out.1.row.at j v (vC_tape _ _ _ _ _ j v hj))) ?_
  simp only [Act.put,aS,aC,aZ]
  refine yA5 eN44 [.tmp 14] _ rfl rfl [(.agg ((tpC gp (d:Nat) sz)).toArray)] rfl ?_
  refine (tleft_any H1.out.1.live HM.out.2 d HM.out.1.dev (by rw [HB.2.2.2.2];exact HB.1) sz ⟨HB.2.2.1,HB.2.2.2.1⟩).mono ?_
  rintro e w2 ⟨rfl,hb_⟩
  refine ⟨_,rfl,?_⟩
  have H2:Hid (VolW w2 c t gp gv d sz m rt2 false∧Ch (· = gv) w w2):=⟨H1.out.1.below hb_,H1.out.2.1.trans' (Ch.of_below hb_) fun _ _ h=>h⟩
  clear hb_
  simp only [Act.put,aS,aC,aZ]
  refine wl rfl (.int .i64 (sz - (m.len d:Nat) - 2)) _ (run_subZ (.tmp 15) (.const (.int .i64 2)) rfl (sz - (m.len d:Nat)) 2 _ rfl rfl rfl (by have:=HB.2.2.2.2;omega) (by have:=HB.2.2.2.2;omega)) ?_
  refine wl rfl _ _ (run_maxZ (.tmp 16) (sz - (m.len d:Nat) - 2) (roomP sz (ctn m d).length false) (by have:=HB.2.2.2.2;unfold roomP;simp only [Bool.false_eq_true,if_false];omega) rfl rfl) ?_
  refine wa (.tmp 17) (.int .i64 (roomP sz (ctn m d).length false:Nat)) ?_
  simp only [Act.put,aS,aC,aZ]
  refine wpList_nil ?_
  go_wp2_with fail
  rw [HPQ.out]
  exact ⟨rt2,false,er,rfl,H2.out.1,H2.out.2,H1.out.2.2⟩
end Go.Proofs.YtpkkkkomdblpoaaDoor

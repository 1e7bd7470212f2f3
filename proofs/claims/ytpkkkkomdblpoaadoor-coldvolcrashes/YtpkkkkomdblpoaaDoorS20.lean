/- Layer 15: a tape's length; labels. Layer 15: rows of arrays of bytes: pieces and blocks. -/
import Derived.Test.YtpkkkkomdblpoaaDoorS19
namespace Go.Proofs.YtpkkkkomdblpoaaDoor
open Go.RowKit Go.Maps
open Cold
def tpC (gp:Nat) (d sz:Int):List Value:=[ptr gp,.int .i64 d,.int .i64 sz]
def ctn (m:Pl) (d:Nat):List (List Nat):=m.fl d++(m.wt d).map (·.b)
theorem ctn_len {m:Pl} {d:Nat} (h:m.tape d=true):m.len d=(ctn m d).length:=by
 unfold Pl.len ctn
 rw [if_pos h]
 simp
theorem run_u64i64 {w:World} {a:Act} {o:Oper} (x:Operand) (ho:o.op = .convert 153 3 x) (n:Nat) (h:n<9223372036854775808) (hx:a.eval x = .int .u64 (n:Nat)):(execOp a.eval o).run Tryd.prog w = .ok (.value (.int .i64 (n:Nat))) w:=by
 have hr:(convert 153 3 (.int .u64 (n:Nat))).run Tryd.prog w = .ok (.int .i64 (IntKind.i64.wrap (n:Nat))) w:=by kernel_rfl
 have e:IntKind.i64.wrap (n:Nat)=(n:Int):=wrap_i64 _ (by omega) (by omega)
 simp only [execOp,ho,hx,hr,e,Sem.run_bind,Sem.run_pure,Result.andThen_ok]
theorem yI3 {w:World} {a:Act} {o:Oper} (x:Operand) (ho:o.op = .convert 38 9 x) (v:Value) (cs:List Nat) (hx:a.eval x=v) (hin:yA2 w v cs):(execOp a.eval o).run Tryd.prog w = .ok (.value (str cs)) w:=by
 have:=run_bstring hin
 simp only [execOp,ho,hx,this,Sem.run_bind,Sem.run_pure,Result.andThen_ok]
 rfl
set_option maxHeartbeats 4000000 in
set_option maxRecDepth 100000 in
theorem tlen_any {w:World} {c:Nat→Colour} {t gp:Nat} {m:Pl} (h:Live w c t gp m) (hst:m.steps<35184372088831) (d:Nat) (hd:d<m.n) (sz:Int):Calls Tryd.prog 38 #[.agg (tpC gp (d:Nat) sz).toArray] w fun e w'=>e = .returned (.int .i64 (m.len d:Nat))∧Below w.heap.size w w':=by
 have HM:Hid (Live w c t gp m∧m.steps<35184372088831∧d<m.n):=⟨h,hst,hd⟩
 clear h hst hd
 obtain ⟨PQ,HPQ⟩:=exPQ fun (e:Ending) (w':World)=>e = .returned (.int .i64 (m.len d:Nat))∧Below w.heap.size w w'
 rw [←HPQ.out]
 go_enter Tryd.func38,Tryd.ntmps38
 go_upto_region 0 with fail
 refine wp_region_lit ?_
 refine wl rfl _ _ (yG2 (.tmp 0) rfl (tpC gp (d:Nat) sz) rfl) ?_
 have hb_:=yB2 w (.cells (tpC gp (d:Nat) sz).toArray 86)
 have r_:=Row.new w 86 (tpC gp (d:Nat) sz)
 obtain ⟨w1,hW_⟩:∃U_:World,U_=w.alloc (.cells (tpC gp (d:Nat) sz).toArray 86):=⟨_,rfl⟩
 obtain ⟨q,hq_⟩:∃q,q=w.heap.size:=⟨_,rfl⟩
 rw [←hW_] at hb_
 rw [←hW_,←hq_] at r_
 rw [←hW_,←hq_]
 have HA:Hid (Row w1 q 86 (tpC gp (d:Nat) sz)∧Below w.heap.size w w1):=⟨r_,hb_⟩
 clear r_ hb_ hW_ hq_
 simp only [Act.put,aS,aC,aZ]
 refine wa (.const (.int .i64 0)) (.int .i64 0) ?_
 simp only [Act.put,aS,aC,aZ]
 refine wpList_nil ?_
 go_upto_region 1 with fail
 refine wp_region_lit ?_
 refine wl rfl _ _ (yA3 f86_0 (.tmp 1) rfl q (0) rfl) ?_
 refine wl rfl _ _ (yA7 o24 (.tmp 6) rfl q (0+0) rfl (ptr gp) (HA.out.1.at 0 _ rfl)) ?_
 refine wl rfl _ _ (yA3 f86_1 (.tmp 1) rfl q (0) rfl) ?_
 simp only [Act.put,aS,aC,aZ]
 refine wl rfl _ _ (yA7 o3 (.tmp 8) rfl q (0+1) rfl (.int .i64 (d:Nat)) (HA.out.1.at 1 _ rfl)) ?_
 simp only [Act.put,aS,aC,aZ]
 have hh_:=(HM.out.1.below HA.out.2).len HM.out.2.1 (d:Nat)
 rw [if_pos (show m.has ((d:Nat):Int) from ⟨by omega,by have:=HM.out.2.2;omega⟩),if_pos (show m.has ((d:Nat):Int) from ⟨by omega,by have:=HM.out.2.2;omega⟩),Int.toNat_natCast] at hh_
 refine yA5 eN33 [.tmp 7,.tmp 9] _ rfl rfl [(ptr gp),(.int .i64 (d:Nat))] rfl ?_
 refine hh_.mono ?_
 rintro e w2 ⟨rfl,n_,hn_⟩
 refine ⟨_,rfl,?_⟩
 have H2:Hid (Below w.heap.size w w2):=HA.out.2.trans (hn_▸Below.drewN (Below.refl _ _) _)
 clear hn_
 simp only [Act.put,aS,aC,aZ]
 refine wm 10 (.tuple #[(.int .i64 (m.len d:Nat)),(.int .i64 0)]) ?_
 refine wl rfl _ _ (yA8 (.tmp 5) 0 rfl #[(.int .i64 (m.len d:Nat)),(.int .i64 0)] rfl (.int .i64 (m.len d:Nat)) rfl) ?_
 refine wl rfl _ _ (yA8 (.tmp 5) 1 rfl #[(.int .i64 (m.len d:Nat)),(.int .i64 0)] rfl (.int .i64 0) rfl) ?_
 simp only [Act.put,aS,aC,aZ]
 refine wa (.tmp 11) (.int .i64 (m.len d:Nat)) ?_
 refine wa (.tmp 12) (.int .i64 0) ?_
 simp only [Act.put,aS,aC,aZ]
 refine wpList_nil ?_
 go_upto_region 2 with fail
 refine wp_region_lit ?_
 refine wm 3 (.int .i64 (m.len d:Nat)) ?_
 refine wa (.tmp 13) (.int .i64 (m.len d:Nat)) ?_
 simp only [Act.put,aS,aC,aZ]
 refine wpList_nil ?_
 go_wp2_with fail
 rw [HPQ.out]
 exact ⟨rfl,H2.out⟩
set_option maxHeartbeats 4000000 in
set_option maxRecDepth 100000 in
theorem tleft_any {w:World} {c:Nat→Colour} {t gp:Nat} {m:Pl} (h:Live w c t gp m) (hst:m.steps<35184372088831) (d:Nat) (hd:d<m.n) (hl:m.len d≤4096) (sz:Int) (hsz:0≤sz∧sz≤4096):Calls Tryd.prog 44 #[.agg (tpC gp (d:Nat) sz).toArray] w fun e w'=>e = .returned (.int .i64 (sz - (m.len d:Nat)))∧Below w.heap.size w w':=by
 have HM:Hid (Live w c t gp m∧m.steps<35184372088831∧d<m.n):=⟨h,hst,hd⟩
 clear h hst hd
 obtain ⟨PQ,HPQ⟩:=exPQ fun (e:Ending) (w':World)=>e = .returned (.int .i64 (sz - (m.len d:Nat)))∧Below w.heap.size w w'
 rw [←HPQ.out]
 go_enter Tryd.func44,Tryd.ntmps44
 go_upto_region 0 with fail
 refine wp_region_lit ?_
 refine wl rfl _ _ (yG2 (.tmp 0) rfl (tpC gp (d:Nat) sz) rfl) ?_
 have hb_:=yB2 w (.cells (tpC gp (d:Nat) sz).toArray 86)
 have r_:=Row.new w 86 (tpC gp (d:Nat) sz)
 obtain ⟨w1,hW_⟩:∃U_:World,U_=w.alloc (.cells (tpC gp (d:Nat) sz).toArray 86):=⟨_,rfl⟩
 obtain ⟨q,hq_⟩:∃q,q=w.heap.size:=⟨_,rfl⟩
 rw [←hW_] at hb_
 rw [←hW_,←hq_] at r_
 rw [←hW_,←hq_]
 have HA:Hid (Row w1 q 86 (tpC gp (d:Nat) sz)∧Below w.heap.size w w1):=⟨r_,hb_⟩
 clear r_ hb_ hW_ hq_
 simp only [Act.put,aS,aC,aZ]
 refine wa (.const (.int .i64 0)) (.int .i64 0) ?_
 simp only [Act.put,aS,aC,aZ]
 refine wpList_nil ?_
 go_upto_region 1 with fail
 refine wp_region_held (S:=fun X=>Row X q 86 (tpC gp (d:Nat) sz)∧Below w.heap.size w X) (by kernel_rfl) ?_
 show wpAnyH _ _ _ _ _ 6 (Array.replicate 6 false) _ _
 obtain ⟨X,hX⟩:∃X:World,X = { w1 with drawn:=w1.drawn+1 }:=⟨_,rfl⟩
 rw [←hX]
 have HS_:Row X q 86 (tpC gp (d:Nat) sz)∧Below w.heap.size w X:=(by rw [hX];exact ⟨HA.out.1,HA.out.2.trans ⟨rfl,rfl,rfl,Nat.le_refl _,fun _ _=>rfl⟩⟩)
 clear hX
 refine tH 0 3 rfl rfl (gRun rfl _ fun _ h=>yA3 f86_2 (.tmp 1) rfl q (0) rfl) HS_ ?_
 refine tH 1 4 rfl rfl (gRun rfl _ fun _ h=>yA7 o3 (.tmp 3) rfl q (0+2) rfl (.int .i64 sz) (h.1.at 2 _ rfl)) HS_ ?_
 refine tH 2 5 rfl rfl (gRun rfl _ fun _ h=>yA9 ag86 (.tmp 1) rfl q (0) rfl ((tpC gp (d:Nat) sz)) rfl (yJ0 h.1)) HS_ ?_
 simp only [Act.put,aS,aC,aZ]
 refine oneH (i:=3) (by kernel_rfl) ?_
 refine yF6 (some 6) rfl rfl rfl 38 _ (yC2 eN38 [.tmp 5] _ rfl [(.agg ((tpC gp (d:Nat) sz)).toArray)] rfl) ?_
 refine (tlen_any (HM.out.1.below HS_.2) HM.out.2.1 d HM.out.2.2 sz).mono ?_
 rintro e W1 ⟨rfl,hb_⟩
 refine ⟨_,rfl,?_⟩
 replace HS_:Row W1 q 86 (tpC gp (d:Nat) sz)∧Below w.heap.size w W1:=⟨HS_.1.later hb_ HS_.1.lt,HS_.2.trans (hb_.mono HS_.2.size)⟩
 clear hb_
 refine ⟨HS_,?_⟩
 simp only [Act.put,aS,aC,aZ]
 refine tH 4 7 rfl rfl (gRun rfl (.int .i64 (sz - (m.len d:Nat))) fun _ h=>run_subZ (.tmp 4) (.tmp 6) rfl sz (m.len d:Nat) _ rfl rfl rfl (by omega) (by omega)) HS_ ?_
 refine tH 5 2 rfl rfl (gRun rfl _ fun _ h=>yE7 (.tmp 7) rfl (.int .i64 (sz - (m.len d:Nat))) rfl) HS_ ?_
 simp only [Act.put,aS,aC,aZ]
 refine wpAnyH_done (by kernel_rfl) ?_ _
 go_wp2_with fail
 rw [HPQ.out]
 exact ⟨rfl,HS_.2⟩
set_option maxHeartbeats 4000000 in
set_option maxRecDepth 100000 in
theorem labelN_any (n:Nat) (id:List Nat) (hb:∀c∈id,c<256) (hl:id.length≤1000) (hn:n≤1000000) (w:World):Calls Tryd.prog 77 #[.int .i64 (n:Nat),str id] w fun e w' => ∃v,e = .returned v∧BOwn w' w.heap.size v (lb n id)∧Below w.heap.size w w':=by
 have HB:Hid (∀c∈id,c<256):=hb
 clear hb
 obtain ⟨PQ,HPQ⟩:=exPQ fun (e:Ending) (w':World) => ∃v,e = .returned v∧BOwn w' w.heap.size v (lb n id)∧Below w.heap.size w w'
 rw [←HPQ.out]
 go_enter Tryd.func77,Tryd.ntmps77
 go_upto_region 0 with fail
 refine wp_region_lit ?_
 refine wa (.const (.slice none 0 0)) (.slice none 0 0) ?_
 simp only [Act.put,aS,aC,aZ]
 refine wpList_nil ?_
 go_upto_region 1 with fail
 refine wp_region_lit ?_
 refine wm 0 (.int .i64 (n:Nat)) ?_
 refine wl rfl _ _ (run_i64u64 (.tmp 5) rfl n (by omega) rfl) ?_
 simp only [Act.put,aS,aC,aZ]
 refine yA5 eN93 [.const (.slice none 0 0),.tmp 6,.const (.int .i64 2)] _ rfl rfl [.slice none 0 0,(.int .u64 (n:Nat)),.int .i64 2] rfl ?_
 refine (Fr.number_yes _ [] n 2 w (Fr.yA2.nil w) (by decide) (by decide) (by simp)).mono ?_
 rintro e w1 ⟨v1,rfl,o1,b1⟩
 refine ⟨_,rfl,?_⟩
 have H1:Hid (BOwn w1 w.heap.size v1 ([]++Fr.Frame.be 2 n)∧Below w.heap.size w w1):=⟨o1,b1⟩
 clear o1 b1
 simp only [Act.put,aS,aC,aZ]
 refine wm 1 (str id) ?_
 simp only [Act.put,aS,aC,aZ]
 obtain ⟨v2,w2,hr_,ho_,hg_⟩:=run_appS w.heap.size v1 ([]++Fr.Frame.be 2 n) id HB.out H1.out.1 (by simp [Fr.Frame.yE9];omega) H1.out.2.size
 refine wl rfl v2 w2 (hr_ _ _ (.tmp 7) (.tmp 8) rfl rfl rfl) ?_
 have H2:Hid (BOwn w2 w.heap.size v2 (lb n id)∧Below w.heap.size w w2):=⟨ho_,H1.out.2.trans (H1.out.1.belowG hg_ H1.out.2.size)⟩
 clear hr_ ho_ hg_
 simp only [Act.put,aS,aC,aZ]
 refine wa (.tmp 9) v2 ?_
 simp only [Act.put,aS,aC,aZ]
 refine wpList_nil ?_
 go_wp2_with fail
 rw [HPQ.out]
 exact ⟨v2,rfl,H2.out⟩
set_option maxHeartbeats 4000000 in
set_option maxRecDepth 100000 in
theorem label_any (p:List Nat) (hp:p.length=56) (hb:∀c∈p,c<256) (w:World) (ht:Fr.TabIn w):Calls Tryd.prog 64 #[av p] w fun e w' => ∃vs vn ok,e = .returned (.tuple #[vs,vn,.bool ok])∧Below w.heap.size w w'∧((ok=true∧∃id len,labP p=some (id,len)∧vs=str id∧vn = .int .i64 (len:Nat)∧len<65536)∨(ok=false∧labP p=none∧(∃id,vs=str id)∧∃z:Nat,vn = .int .i64 (z:Nat)∧z<65536)):=by
 have HM:Hid (p.length=56∧(∀c∈p,c<256)∧Fr.TabIn w):=⟨hp,hb,ht⟩
 have HPL:Hid (Fr.Frame.payOf p=Fr.Frame.payOf p):=rfl
 obtain ⟨pay,hpay⟩:∃x,x=Fr.Frame.payOf p:=⟨_,rfl⟩
 obtain ⟨ok,hok⟩:∃x,x=Fr.Frame.okB p:=⟨_,rfl⟩
 have HY:Hid (pay=Fr.Frame.payOf p∧ok=Fr.Frame.okB p∧pay.length≤56∧∀c∈pay,c<256):=⟨hpay,hok,by rw [hpay,←hp];exact Fr.Frame.payOf_length p,fun c hc=>hb c (Fr.Frame.payOf_mem p c (hpay▸hc))⟩
 clear hp hb ht hpay hok HPL
 obtain ⟨PQ,HPQ⟩:=exPQ fun (e:Ending) (w':World) => ∃vs vn ok,e = .returned (.tuple #[vs,vn,.bool ok])∧Below w.heap.size w w'∧((ok=true∧∃id len,labP p=some (id,len)∧vs=str id∧vn = .int .i64 (len:Nat)∧len<65536)∨(ok=false∧labP p=none∧(∃id,vs=str id)∧∃z:Nat,vn = .int .i64 (z:Nat)∧z<65536))
 rw [←HPQ.out]
 go_enter Tryd.func64,Tryd.ntmps64
 go_upto_region 0 with fail
 refine wp_region_lit ?_
 refine wl rfl _ _ (yG2 (.tmp 0) rfl (yA0 p) rfl) ?_
 have hb_:=yB2 w (.cells (yA0 p).toArray 129)
 have r_:=Row.new w 129 (yA0 p)
 obtain ⟨w1,hW_⟩:∃U_:World,U_=w.alloc (.cells (yA0 p).toArray 129):=⟨_,rfl⟩
 obtain ⟨q,hq_⟩:∃q,q=w.heap.size:=⟨_,rfl⟩
 rw [←hW_] at hb_
 rw [←hW_,←hq_] at r_
 rw [←hW_,←hq_]
 have HA:Hid (Row w1 q 129 (yA0 p)∧Below w.heap.size w w1∧yA2 w1 (.slice (some ⟨q,0+0,none⟩) 56 56) p):=⟨r_,hb_,⟨_,56,by rw [HM.out.1],⟨by rw [HM.out.1];decide,by rw [HM.out.1];decide⟩,Or.inr ⟨q,0,rfl,fun j hj=>by rw [Nat.zero_add];exact r_.at j _ (yC3 p j hj),lt256 p HM.out.2.1⟩⟩⟩
 clear r_ hb_ hW_ hq_
 simp only [Act.put,aS,aC,aZ]
 refine wa (.const (.string { data:=#[] })) (.string { data:=#[] }) ?_
 refine wa (.const (.int .i64 0)) (.int .i64 0) ?_
 refine wa (.const (.bool false)) (.bool false) ?_
 simp only [Act.put,aS,aC,aZ]
 refine wpList_nil ?_
 go_upto_region 1 with fail
 refine wp_region_lit ?_
 refine wl rfl _ _ (run_slA arr129 (.tmp 1) none none rfl q 0 0 56 rfl ⟨Or.inl ⟨rfl,rfl⟩,Or.inl ⟨rfl,rfl⟩,by omega,by omega,by omega⟩) ?_
 simp only [Act.put,aS,aC,aZ]
 refine yA5 eN78 [.tmp 12] _ rfl rfl [(.slice (some ⟨q,0+0,none⟩) 56 56)] rfl ?_
 refine (Fr.unpack_any _ p w1 HA.out.2.2 (HM.out.2.2.later HA.out.2.1) (by rw [HM.out.1];decide)).mono ?_
 rintro e w2 ⟨vp,vr,rfl,o1,o2,_,b1⟩
 refine ⟨_,rfl,?_⟩
 rw [←HY.out.1] at o1
 have H2:Hid (BOwn w2 w1.heap.size vp pay∧Below w.heap.size w w2):=⟨o1,HA.out.2.1.trans (b1.mono HA.out.2.1.size)⟩
 obtain ⟨kd,hkd⟩:∃k:Nat,k=Fr.Frame.kindOf p:=⟨_,rfl⟩
 obtain ⟨er,her⟩:∃k:Nat,k=Fr.Frame.errOf p:=⟨_,rfl⟩
 rw [←hkd,←her]
 have HE:Hid (er=if ok then 0 else 40):=(by rw [her];unfold Fr.Frame.errOf;rw [HY.out.2.1];rfl)
 clear o1 o2 b1 hkd her
 simp only [Act.put,aS,aC,aZ]
 refine wm 13 (.tuple #[(.int .u8 (kd:Nat)),vp,vr,(.int .i64 (er:Nat))]) ?_
 refine wl rfl _ _ (yA8 (.tmp 11) 0 rfl #[(.int .u8 (kd:Nat)),vp,vr,(.int .i64 (er:Nat))] rfl (.int .u8 (kd:Nat)) rfl) ?_
 refine wl rfl _ _ (yA8 (.tmp 11) 1 rfl #[(.int .u8 (kd:Nat)),vp,vr,(.int .i64 (er:Nat))] rfl vp rfl) ?_
 simp only [Act.put,aS,aC,aZ]
 refine wl rfl _ _ (yA8 (.tmp 11) 2 rfl #[(.int .u8 (kd:Nat)),vp,vr,(.int .i64 (er:Nat))] rfl vr rfl) ?_
 refine wl rfl _ _ (yA8 (.tmp 11) 3 rfl #[(.int .u8 (kd:Nat)),vp,vr,(.int .i64 (er:Nat))] rfl (.int .i64 (er:Nat)) rfl) ?_
 refine wa (.tmp 14) (.int .u8 (kd:Nat)) ?_
 simp only [Act.put,aS,aC,aZ]
 refine wa (.tmp 15) vp ?_
 refine wa (.tmp 16) vr ?_
 refine wa (.tmp 17) (.int .i64 (er:Nat)) ?_
 simp only [Act.put,aS,aC,aZ]
 refine wpList_nil ?_
 cases ok with
 | false =>
  obtain rfl:er=40:=HE.out
  have HNO:Hid (labP p=none):=(by show _=_;unfold labP;rw [←HY.out.2.1,if_neg (fun h=>by cases h.1)])
  go_upto_region 2 with fail
  refine wp_region_lit ?_
  refine wm 8 (.int .i64 40) ?_
  refine wl rfl _ _ (yD1 (.tmp 18) (.const (.int .i64 0)) rfl 40 0 rfl rfl true rfl) ?_
  simp only [Act.put,aS,aC,aZ]
  refine wpList_nil ?_
  go_upto_region 3 with fail
  refine wp_region_lit ?_
  refine wa (.const (.string { data:=#[] })) (.string { data:=#[] }) ?_
  refine wa (.const (.int .i64 0)) (.int .i64 0) ?_
  refine wa (.const (.bool false)) (.bool false) ?_
  simp only [Act.put,aS,aC,aZ]
  refine wpList_nil ?_
  go_wp2_with fail
  rw [HPQ.out]
  exact ⟨_,_,false,rfl,H2.out.2,Or.inr ⟨rfl,HNO.out,⟨[],rfl⟩,0,rfl,by decide⟩⟩
 | true =>
  obtain rfl:er=0:=HE.out
  go_upto_region 2 with fail
  refine wp_region_lit ?_
  refine wm 8 (.int .i64 0) ?_
  refine wl rfl _ _ (yD1 (.tmp 18) (.const (.int .i64 0)) rfl 0 0 rfl rfl false rfl) ?_
  simp only [Act.put,aS,aC,aZ]
  refine wpList_nil ?_
  have HVP:Hid (yA2 w2 vp pay):=H2.out.1.slice HY.out.2.2.2 (by have:=HY.out.2.2.1;omega)
  by_cases hlen:pay.length<2
  ·have HNO:Hid (labP p=none):=(by show _=_;unfold labP;rw [←HY.out.1,if_neg (fun h=>by have:=h.2.1;omega)])
   go_upto_region 4 with fail
   refine wp_region_lit ?_
   refine wm 6 vp ?_
   simp only [Act.put,aS,aC,aZ]
   refine yA5 eN79 [.tmp 21,.const (.int .i64 2)] _ rfl rfl [vp,.int .i64 2] rfl ?_
   refine (Fr.take_short vp pay 2 w2 HVP.out (by decide) (by decide) hlen).mono ?_
   rintro e w3 ⟨rfl,rfl⟩
   refine ⟨_,rfl,?_⟩
   simp only [Act.put,aS,aC,aZ]
   refine wm 22 (.tuple #[(.int .u64 0),(.slice none 0 0),(.int .i64 40)]) ?_
   refine wl rfl _ _ (yA8 (.tmp 20) 0 rfl #[(.int .u64 0),(.slice none 0 0),(.int .i64 40)] rfl (.int .u64 0) rfl) ?_
   refine wl rfl _ _ (yA8 (.tmp 20) 1 rfl #[(.int .u64 0),(.slice none 0 0),(.int .i64 40)] rfl (.slice none 0 0) rfl) ?_
   simp only [Act.put,aS,aC,aZ]
   refine wl rfl _ _ (yA8 (.tmp 20) 2 rfl #[(.int .u64 0),(.slice none 0 0),(.int .i64 40)] rfl (.int .i64 40) rfl) ?_
   refine wa (.tmp 23) (.int .u64 0) ?_
   refine wa (.tmp 24) (.slice none 0 0) ?_
   simp only [Act.put,aS,aC,aZ]
   refine wa (.tmp 25) (.int .i64 40) ?_
   simp only [Act.put,aS,aC,aZ]
   refine wpList_nil ?_
   go_upto_region 5 with fail
   refine wp_region_held (S:=fun X=>yA2 X (.slice none 0 0) []∧Below w.heap.size w X) (by kernel_rfl) ?_
   show wpAnyH _ _ _ _ _ 14 (Array.replicate 14 false) _ _
   obtain ⟨X,hX⟩:∃X:World,X = { w2 with drawn:=w2.drawn+1 }:=⟨_,rfl⟩
   rw [←hX]
   have HS_:yA2 X (.slice none 0 0) []∧Below w.heap.size w X:=(by rw [hX];exact ⟨Fr.yA2.nil _,H2.out.2.trans ⟨rfl,rfl,rfl,Nat.le_refl _,fun _ _=>rfl⟩⟩)
   clear hX
   refine tH 0 26 rfl rfl (gRun rfl _ fun _ h=>yA4 (.tmp 10) rfl (.slice none 0 0) rfl) HS_ ?_
   refine tH 1 27 rfl rfl (gRun rfl _ fun _ h=>yI3 (.tmp 26) rfl _ [] rfl h.1) HS_ ?_
   refine tH 2 28 rfl rfl (gRun rfl _ fun _ h=>yA4 (.tmp 9) rfl (.int .u64 0) rfl) HS_ ?_
   simp only [Act.put,aS,aC,aZ]
   refine tH 3 29 rfl rfl (gRun rfl _ fun _ h=>run_u64i64 (.tmp 28) rfl 0 (by decide) rfl) HS_ ?_
   refine tH 4 30 rfl rfl (gRun rfl _ fun _ h=>yA4 (.tmp 8) rfl (.int .i64 40) rfl) HS_ ?_
   refine tH 5 31 rfl rfl (gRun rfl _ fun _ h=>yC6 (.tmp 30) (.const (.int .i64 0)) rfl 40 0 rfl rfl false rfl) HS_ ?_
   simp only [Act.put,aS,aC,aZ]
   refine tH 6 32 rfl rfl (gRun rfl _ fun _ h=>yA4 (.tmp 31) rfl (.bool false) rfl) HS_ ?_
   refine tH 7 33 rfl rfl (Or.inr ⟨by kernel_rfl,rfl⟩) HS_ ?_
   refine tH 8 34 rfl rfl (Or.inr ⟨by kernel_rfl,rfl⟩) HS_ ?_
   simp only [Act.put,aS,aC,aZ]
   refine tH 9 35 rfl rfl (Or.inr ⟨by kernel_rfl,rfl⟩) HS_ ?_
   refine tH 10 36 rfl rfl (gRun rfl _ fun _ h=>yA6 (.tmp 32) (.tmp 35) (.const (.bool false)) rfl false (.bool false) rfl rfl) HS_ ?_
   refine tH 11 2 rfl rfl (gRun rfl _ fun _ h=>yE7 (.tmp 27) rfl (str []) rfl) HS_ ?_
   simp only [Act.put,aS,aC,aZ]
   refine tH 12 3 rfl rfl (gRun rfl _ fun _ h=>yE7 (.tmp 29) rfl (.int .i64 (0:Nat)) rfl) HS_ ?_
   refine tH 13 4 rfl rfl (gRun rfl _ fun _ h=>yE7 (.tmp 36) rfl (.bool false) rfl) HS_ ?_
   simp only [Act.put,aS,aC,aZ]
   refine wpAnyH_done (by kernel_rfl) ?_ _
   go_wp2_with fail
   rw [HPQ.out]
   exact ⟨_,_,false,rfl,HS_.2,Or.inr ⟨rfl,HNO.out,⟨[],rfl⟩,0,rfl,by decide⟩⟩
  ·have HLN:Hid (2≤pay.length∧(pay.drop 2).length≤54∧Fr.Frame.val (pay.take 2)<65536∧∀c∈pay.drop 2,c<256):=⟨by omega,by have:=HY.out.2.2.1;rw [List.length_drop];omega,(by have h9:=Fr.Frame.val_lt (pay.take 2) (fun c hc=>HY.out.2.2.2 c (List.mem_of_mem_take hc));have e9:(pay.take 2).length=2:=(by rw [List.length_take];omega);rw [e9] at h9;exact h9),fun c hc=>HY.out.2.2.2 c (List.mem_of_mem_drop hc)⟩
   obtain ⟨nv,hnv⟩:∃k,k=Fr.Frame.val (pay.take 2):=⟨_,rfl⟩
   obtain ⟨nm,hnm⟩:∃k,k=pay.drop 2:=⟨_,rfl⟩
   have HNV:Hid (nv=Fr.Frame.val (pay.take 2)∧nm=pay.drop 2):=⟨hnv,hnm⟩
   clear hnv hnm
   go_upto_region 4 with fail
   refine wp_region_lit ?_
   refine wm 6 vp ?_
   simp only [Act.put,aS,aC,aZ]
   refine yA5 eN79 [.tmp 21,.const (.int .i64 2)] _ rfl rfl [vp,.int .i64 2] rfl ?_
   refine (Fr.take_yes vp pay 2 w2 HVP.out (by decide) (by decide) HLN.out.1 (by have:=HY.out.2.2.1;omega)).mono ?_
   rintro e w3 ⟨v3,rfl,o1,b1⟩
   refine ⟨_,rfl,?_⟩
   rw [←HNV.out.1]
   rw [←HNV.out.2] at o1
   have H3:Hid (yA2 w3 v3 nm∧Below w.heap.size w w3):=⟨BOwn.slice (ownF o1) (by rw [HNV.out.2];exact HLN.out.2.2.2) (by rw [HNV.out.2];have:=HLN.out.2.1;omega),H2.out.2.trans (b1.mono H2.out.2.size)⟩
   clear o1 b1
   simp only [Act.put,aS,aC,aZ]
   refine wm 22 (.tuple #[(.int .u64 (nv:Nat)),v3,(.int .i64 0)]) ?_
   refine wl rfl _ _ (yA8 (.tmp 20) 0 rfl #[(.int .u64 (nv:Nat)),v3,(.int .i64 0)] rfl (.int .u64 (nv:Nat)) rfl) ?_
   refine wl rfl _ _ (yA8 (.tmp 20) 1 rfl #[(.int .u64 (nv:Nat)),v3,(.int .i64 0)] rfl v3 rfl) ?_
   simp only [Act.put,aS,aC,aZ]
   refine wl rfl _ _ (yA8 (.tmp 20) 2 rfl #[(.int .u64 (nv:Nat)),v3,(.int .i64 0)] rfl (.int .i64 0) rfl) ?_
   refine wa (.tmp 23) (.int .u64 (nv:Nat)) ?_
   refine wa (.tmp 24) v3 ?_
   simp only [Act.put,aS,aC,aZ]
   refine wa (.tmp 25) (.int .i64 0) ?_
   simp only [Act.put,aS,aC,aZ]
   refine wpList_nil ?_
   go_upto_region 5 with fail
   refine wp_region_held (S:=fun X=>yA2 X v3 nm∧Below w.heap.size w X) (by kernel_rfl) ?_
   show wpAnyH _ _ _ _ _ 14 (Array.replicate 14 false) _ _
   obtain ⟨X,hX⟩:∃X:World,X = { w3 with drawn:=w3.drawn+1 }:=⟨_,rfl⟩
   rw [←hX]
   have HS_:yA2 X v3 nm∧Below w.heap.size w X:=(by rw [hX];exact ⟨H3.out.1.later ⟨rfl,rfl,rfl,Nat.le_refl _,fun _ _=>rfl⟩,H3.out.2.trans ⟨rfl,rfl,rfl,Nat.le_refl _,fun _ _=>rfl⟩⟩)
   clear hX
   refine tH 0 26 rfl rfl (gRun rfl _ fun _ h=>yA4 (.tmp 10) rfl v3 rfl) HS_ ?_
   refine tH 1 27 rfl rfl (gRun rfl _ fun _ h=>yI3 (.tmp 26) rfl _ nm rfl h.1) HS_ ?_
   refine tH 2 28 rfl rfl (gRun rfl _ fun _ h=>yA4 (.tmp 9) rfl (.int .u64 (nv:Nat)) rfl) HS_ ?_
   simp only [Act.put,aS,aC,aZ]
   refine tH 3 29 rfl rfl (gRun rfl _ fun _ h=>run_u64i64 (.tmp 28) rfl nv (by have:=HLN.out.2.2.1;have:=HNV.out.1;omega) rfl) HS_ ?_
   refine tH 4 30 rfl rfl (gRun rfl _ fun _ h=>yA4 (.tmp 8) rfl (.int .i64 0) rfl) HS_ ?_
   refine tH 5 31 rfl rfl (gRun rfl _ fun _ h=>yC6 (.tmp 30) (.const (.int .i64 0)) rfl 0 0 rfl rfl true rfl) HS_ ?_
   simp only [Act.put,aS,aC,aZ]
   refine tH 6 32 rfl rfl (gRun rfl _ fun _ h=>yA4 (.tmp 31) rfl (.bool true) rfl) HS_ ?_
   refine tH 7 33 rfl rfl (gRun (by kernel_rfl) _ fun _ h=>yA4 (.tmp 10) rfl v3 rfl) HS_ ?_
   refine tH 8 34 rfl rfl (gRun (by kernel_rfl) _ fun _ h=>yI3 (.tmp 33) rfl _ nm rfl h.1) HS_ ?_
   simp only [Act.put,aS,aC,aZ]
   refine oneH (i:=9) (by kernel_rfl) ?_
   refine yF6 (some 35) rfl rfl (by kernel_rfl) 37 _ (yC2 eN37 [.tmp 34] _ rfl [(str nm)] rfl) ?_
   refine (isName_any nm (by rw [HNV.out.2];exact HLN.out.2.2.2) X).mono ?_
   rintro e W1 ⟨rfl,hb_⟩
   obtain ⟨nb_,hnb⟩:∃b,b=nameB nm:=⟨_,rfl⟩
   rw [←hnb]
   have HNB:Hid (nb_=nameB nm):=hnb
   clear hnb
   refine ⟨_,rfl,?_⟩
   replace HS_:yA2 W1 v3 nm∧Below w.heap.size w W1:=⟨HS_.1.later hb_,HS_.2.trans (hb_.mono HS_.2.size)⟩
   clear hb_
   refine ⟨HS_,?_⟩
   simp only [Act.put,aS,aC,aZ]
   refine tH 10 36 rfl rfl (gRun rfl _ fun _ h=>yA6 (.tmp 32) (.tmp 35) (.const (.bool false)) rfl true (.bool nb_) rfl rfl) HS_ ?_
   refine tH 11 2 rfl rfl (gRun rfl _ fun _ h=>yE7 (.tmp 27) rfl (str nm) rfl) HS_ ?_
   refine tH 12 3 rfl rfl (gRun rfl _ fun _ h=>yE7 (.tmp 29) rfl (.int .i64 (nv:Nat)) rfl) HS_ ?_
   simp only [Act.put,aS,aC,aZ]
   refine tH 13 4 rfl rfl (gRun rfl _ fun _ h=>yE7 (.tmp 36) rfl (.bool nb_) rfl) HS_ ?_
   simp only [Act.put,aS,aC,aZ]
   refine wpAnyH_done (by kernel_rfl) ?_ _
   go_wp2_with fail
   rw [HPQ.out]
   refine ⟨_,_,nb_,rfl,HS_.2,?_⟩
   have hL:labP p=if nameB nm=true then some (nm,nv) else none:=(by
    unfold labP
    rw [←HY.out.1,←HY.out.2.1,←HNV.out.1,←HNV.out.2]
    by_cases hq:nameB nm=true
    ·rw [if_pos ⟨rfl,HLN.out.1,hq⟩,if_pos hq]
    ·rw [if_neg (fun h=>hq h.2.2),if_neg hq])
   have hv:=HLN.out.2.2.1
   rw [←HNV.out.1] at hv
   by_cases hq:nameB nm=true
   ·rw [if_pos hq] at hL
    exact Or.inl ⟨HNB.out.trans hq,nm,nv,hL,rfl,rfl,hv⟩
   ·rw [if_neg hq] at hL
    exact Or.inr ⟨by rw [HNB.out];simpa using hq,hL,⟨nm,rfl⟩,nv,rfl,hv⟩
end Go.Proofs.YtpkkkkomdblpoaaDoor

namespace Go.Proofs.YtpkkkkomdblpoaaDoor
open Go.RowKit Go.Maps
structure ElT (S E n:Nat):Prop where
 sl:Tryd.prog.underlying S=some (.slice E)
 el:Tryd.prog.elem S=E
 info:(Tryd.prog.info? E).map (fun i=>(i.zero,i.size,i.bytes))=some (some (.agg (yA0 (Zs n)).toArray),n,n)
 ag:AggT E n
 pos:0<n
 few:n≤64
theorem el134:ElT 134 129 56:=⟨Tryd.underlying134,by kernel_rfl,by kernel_rfl,ag129,by decide,by decide⟩
theorem el93:ElT 93 133 64:=⟨Tryd.underlying93,by kernel_rfl,by kernel_rfl,ag133,by decide,by decide⟩
theorem el107:ElT 107 52 32:=⟨Tryd.underlying107,by kernel_rfl,by kernel_rfl,ag52,by decide,by decide⟩
theorem ElT.sl' {S E n:Nat} (h:ElT S E n):Tryd.prog.underlying S=some (.slice (Tryd.prog.elem S)):=by rw [h.el];exact h.sl
def AllN (n:Nat) (L:List (List Nat)):Prop := ∀b∈L,b.length=n∧∀c∈b,c<256
theorem AllN.nil (n:Nat):AllN n []:=fun b hb=>by cases hb
theorem AllN.one {n:Nat} {b:List Nat} (h:b.length=n) (h2:∀c∈b,c<256):AllN n [b]:=fun x hx=>by rw [List.mem_singleton.1 hx];exact ⟨h,h2⟩
theorem AllN.append {n:Nat} {L M:List (List Nat)} (h:AllN n L) (k:AllN n M):AllN n (L++M):=fun b hb=>(List.mem_append.1 hb).elim (h b) (k b)
theorem AllN.at {n:Nat} {L:List (List Nat)} (h:AllN n L) (k:Nat) (hk:k<L.length):(L.getD k []).length=n∧∀c∈L.getD k [],c<256:=by
 rw [List.getD_eq_getElem?_getD,List.getElem?_eq_getElem hk]
 exact h _ (List.getElem_mem hk)
theorem AllN.set {n:Nat} {L:List (List Nat)} (h:AllN n L) (k:Nat) {b:List Nat} (hb:b.length=n∧∀c∈b,c<256):AllN n (L.set k b):=fun x hx=>(List.mem_or_eq_of_mem_set hx).elim (h x) (fun e=>e▸hb)
theorem flatN {n:Nat} {L:List (List Nat)} (h:AllN n L):L.flatten.length=L.length * n:=by
 induction L with
 | nil=>simp
 | cons x xs ih =>
  rw [List.flatten_cons,List.length_append,ih (fun y hy=>h y (List.mem_cons_of_mem _ hy)),(h x (List.mem_cons_self ..)).1,List.length_cons,Nat.add_mul]
  omega
theorem flatN_take {n:Nat} {L:List (List Nat)} (h:AllN n L) (k:Nat):(L.take k).flatten=L.flatten.take (k * n):=by
 induction L generalizing k with
 | nil=>simp
 | cons x xs ih =>
  cases k with
  | zero=>simp
  | succ k =>
   have hx:=(h x (List.mem_cons_self ..)).1
   have e:(k+1) * n=x.length+k * n:=by rw [Nat.add_mul,hx];omega
   rw [List.take_succ_cons,List.flatten_cons,List.flatten_cons,ih (fun y hy=>h y (List.mem_cons_of_mem _ hy)),e,List.take_length_add_append]
theorem flatN_drop {n:Nat} {L:List (List Nat)} (h:AllN n L) (k:Nat):(L.drop k).flatten=L.flatten.drop (k * n):=by
 induction L generalizing k with
 | nil=>simp
 | cons x xs ih =>
  cases k with
  | zero=>simp
  | succ k =>
   have hx:=(h x (List.mem_cons_self ..)).1
   have e:(k+1) * n=x.length+k * n:=by rw [Nat.add_mul,hx];omega
   rw [List.drop_succ_cons,List.flatten_cons,ih (fun y hy=>h y (List.mem_cons_of_mem _ hy)),e,List.drop_length_add_append]
theorem yH0 (cs:List Nat) (k:Nat):yA0 (cs.take k)=(yA0 cs).take k:=by simp [yA0]
theorem bcells_drop (cs:List Nat) (k:Nat):yA0 (cs.drop k)=(yA0 cs).drop k:=by simp [yA0]
theorem flatN_at {n:Nat} {L:List (List Nat)} (h:AllN n L) (k j:Nat) (hk:k<L.length) (hj:j<n):(yA0 L.flatten)[k * n+j]? = (yA0 (L.getD k []))[j]?:=by
 have e:L=L.take k++(L.getD k [] :: L.drop (k+1)):=by
  rw [List.getD_eq_getElem?_getD,List.getElem?_eq_getElem hk,Option.getD_some,←List.drop_eq_getElem_cons hk,List.take_append_drop]
 have h1:=(h.at k hk).1
 have hl:(L.take k).flatten.length=k * n:=by rw [flatN_take h,List.length_take,flatN h,Nat.min_eq_left (Nat.mul_le_mul_right n (by omega))]
 conv=>lhs;rw [e]
 rw [List.flatten_append,List.flatten_cons,yD0,List.getElem?_append_right (by rw [yA1,hl];omega),yA1,hl,Nat.add_sub_cancel_left,yD0,List.getElem?_append_left (by rw [yA1,h1];exact hj)]
theorem flatN_set {n:Nat} {L:List (List Nat)} (h:AllN n L) (k:Nat) (hk:k<L.length) (b:List Nat) (hb:b.length=n):splice (yA0 L.flatten) (k * n) (yA0 b)=yA0 (L.set k b).flatten:=by
 rw [List.set_eq_take_append_cons_drop,if_pos hk,List.flatten_append,List.flatten_cons,yD0,yD0,flatN_take h,flatN_drop h,yH0,bcells_drop]
 unfold splice
 rw [yA1,hb,show (k+1) * n=k * n+n by rw [Nat.add_mul];omega]
def AOwn (E n:Nat) (W:World) (base:Nat) (v:Value) (L:List (List Nat)):Prop:=AllN n L∧W.ownsRow base E n v L.length (yA0 L.flatten)
theorem AOwn.nil (E n:Nat) (W:World) (base:Nat):AOwn E n W base (.slice none 0 0) []:=⟨AllN.nil n,by simp [yA0],Or.inl ⟨rfl,rfl⟩⟩
theorem AOwn.later {E n:Nat} {W W':World} {base:Nat} {v:Value} {L:List (List Nat)} (h:AOwn E n W base v L) (hb:Below W.heap.size W W'):AOwn E n W' base v L:=⟨h.1,own_later h.2 hb⟩
theorem AOwn.weaken {E n:Nat} {W:World} {base base':Nat} {v:Value} {L:List (List Nat)} (h:AOwn E n W base v L) (hb:base'≤base):AOwn E n W base' v L:=by
 refine ⟨h.1,h.2.1,?_⟩
 rcases h.2.2 with h2|⟨g,cap,cur,h2,h3,h4⟩
 ·exact Or.inl h2
 ·exact Or.inr ⟨g,cap,cur,h2,Nat.le_trans hb h3,h4⟩
theorem AOwn.keep {E n:Nat} {W W':World} {base:Nat} {v:Value} {L:List (List Nat)} (h:AOwn E n W base v L) {S:Nat→Prop} (hc:Ch S W W') (hS:∀b,v.ownBlock=some b→¬ S b):AOwn E n W' base v L :=
 ⟨h.1,ownK h.2 fun b hb=>hc.block b (h.2.lt b hb).2 (hS b hb)⟩
theorem AOwn.belowG {E n:Nat} {w w':World} {base:Nat} {v:Value} {L:List (List Nat)} (h:AOwn E n w base v L) (hg:w.grownBy w' v.ownBlock) (hb:base≤w.heap.size):Below base w w' :=
 (Below.refl base w).grown hg hb fun k hk=>(h.2.lt k hk).1
theorem run_lit1 {S E n:Nat} (he:ElT S E n) (b:List Nat) (hb:b.length=n) (w:World):(Instr.buildSlice S 1 #[(0,av b)]).run Tryd.prog w = .ok (.slice (some ⟨w.heap.size,0,none⟩) 1 1) (w.alloc (.cells (yA0 b).toArray E)):=by
 obtain ⟨i,hi,hz0,hz1,hz2⟩:=info_parts he.info
 have:=he.pos
 have:=he.few
 refine run_buildSlice w S E 1 _ _ i _ he.sl hi hz0 (by rw [hz1];omega) (by rw [hz1];omega) ?_
 rw [hz1]
 have h1:∀v∈[av b],v.cells.size=n:=by
  intro v hv'
  rw [List.mem_singleton.1 hv']
  simp [av,Value.cells,yA1,hb]
 show Instr.fill _ _ (([av b].zipIdx 0).map fun x=>(x.2,x.1))=_
 rw [Great.fill_whole he.pos [av b] _ h1 (by simp)]
 simp [av,Value.cells]
theorem run_litOp {S E n:Nat} (he:ElT S E n) {w:World} {a:Act} {o:Oper} (x:Operand) (ho:o.op = .buildSlice S 1 #[(0,x)]) (b:List Nat) (hb:b.length=n) (hx:a.eval x=av b):(execOp a.eval o).run Tryd.prog w = .ok (.value (.slice (some ⟨w.heap.size,0,none⟩) 1 1)) (w.alloc (.cells (yA0 b).toArray E)):=by
 have:=run_lit1 he b hb w
 simp [execOp,ho,hx,this]
theorem lit_own {S E n:Nat} (he:ElT S E n) (w:World) (base:Nat) (hb:base≤w.heap.size) (b:List Nat) (h:b.length=n∧∀c∈b,c<256):AOwn E n (w.alloc (.cells (yA0 b).toArray E)) base (.slice (some ⟨w.heap.size,0,none⟩) 1 1) [b]:=by
 have hp:=he.pos
 refine ⟨AllN.one h.1 h.2,by simp [yA1,h.1],Or.inr ⟨w.heap.size,1,(yA0 b).toArray,rfl,hb,?_,Nat.le_refl _,by unfold maxLen;omega,by simp [yA1,h.1],?_⟩⟩
 ·show (w.heap.push _)[w.heap.size]? = _
  simp
 ·rw [List.take_of_length_le (by simp [yA1,h.1])]
  simp
theorem run_app1 {S E n:Nat} (he:ElT S E n) {w:World} (base:Nat) (v:Value) (L:List (List Nat)) (b:List Nat) (hown:AOwn E n w base v L) (hb:b.length=n∧∀c∈b,c<256) (g:Nat) (hg:∀j u,(yA0 b)[j]? = some u→w.cell? ⟨g,j,none⟩=some u) (hsz:L.length≤1000000) (hbase:base≤w.heap.size) :
  ∃v' w',(∀ty,(Builtin.append_ #[S,S] ty #[v,.slice (some ⟨g,0,none⟩) 1 1]).run Tryd.prog w = .ok v' w')∧AOwn E n w' base v' (L++[b])∧w.grownBy w' v.ownBlock∧(v'.ownBlock=v.ownBlock∨v'.ownBlock=some w.heap.size):=by
 obtain ⟨i,hi,hz0,hz1,hz2⟩:=info_parts he.info
 have h1:=he.few
 have h2:(L.length+1) * n≤(L.length+1) * 64:=Nat.mul_le_mul_left _ h1
 obtain ⟨v',w',hr,ho',hgr,_,h5⟩:=run_append_own_at (P:=Tryd.prog) w base S 0 E i (.agg (yA0 (Zs n)).toArray) n n he.sl hi hz0 hz1 hz2 (by simp [Value.cells,bz]) he.pos v L.length (yA0 L.flatten) hown.2
  ⟨g,0,none⟩ 1 1 (yA0 b) (by rw [yA1,hb.1];simp) (fun j u hu=>by rw [yB7,Nat.zero_add];exact hg j u hu) (yB0 _) (by unfold maxLen;omega) (by omega) hbase
 refine ⟨v',w',fun ty=>hr,⟨hown.1.append (AllN.one hb.1 hb.2),?_⟩,hgr,h5⟩
 rw [List.flatten_append,yD0,List.length_append]
 simpa using ho'
theorem yK0 {S:Nat} {w w':World} {a:Act} {o:Oper} (s x:Operand) (ho:o.op = .call { callee:=.builtin .append,args:=#[s,x],argTypes:=#[S,S] }) (v vx v':Value) (hs:a.eval s=v) (hx:a.eval x=vx) (hr:∀ty,(Builtin.append_ #[S,S] ty #[v,vx]).run Tryd.prog w = .ok v' w'):(execOp a.eval o).run Tryd.prog w = .ok (.value v') w':=by
 simp only [execOp,ho,resolve,invoke,builtin,Sem.run_bind,Sem.run_pure,Result.andThen_ok,List.map_toArray,List.map_cons,List.map_nil,hs,hx,hr]
theorem run_lenA {S E n:Nat} (he:ElT S E n) {w w0:World} {a:Act} {o:Oper} {base:Nat} {v:Value} {L:List (List Nat)} (h:AOwn E n w0 base v L) (x:Operand) (ho:o.op = .call { callee:=.builtin .len,args:=#[x],argTypes:=#[S] }) (hx:a.eval x=v):(execOp a.eval o).run Tryd.prog w = .ok (.value (.int .i64 (L.length:Nat))) w:=by
 rcases h.2.2 with ⟨rfl,h0⟩|⟨g,cap,cur,rfl,_⟩
 ·have:=run_lenZ (w:=w) he.sl' x ho none 0 0 hx
  rw [h0]
  exact this
 ·exact run_lenZ he.sl' x ho _ _ _ hx
theorem AOwn.ix {S E n:Nat} (he:ElT S E n) {W:World} {base:Nat} {v:Value} {L:List (List Nat)} (h:AOwn E n W base v L) (k:Nat) (hk:k<L.length):∃g,v.ownBlock=some g∧base≤g∧(∀w',(Instr.indexAt S v (.int .i64 (k:Nat))).run Tryd.prog w' = .ok (.pointer (some ⟨g,k * n,none⟩)) w')∧∀W':World,AOwn E n W' base v L→∀j u,(yA0 (L.getD k []))[j]? = some u→W'.cell? ⟨g,k * n+j,none⟩=some u:=by
 have key:∀W':World,AOwn E n W' base v L→∃g cap cur,v = .slice (some ⟨g,0,none⟩) L.length cap∧base≤g∧∀j u,(yA0 (L.getD k []))[j]? = some u→W'.cell? ⟨g,k * n+j,none⟩=some u:=fun W' h'=>by
  rcases h'.2.2 with ⟨rfl,h0⟩|⟨g,cap,cur,rfl,h3,h4,h5⟩
  ·have:=h0;omega
  ·refine ⟨g,cap,0,rfl,h3,fun j u hu => ?_⟩
   have hj:j<n:=by
    have:=(List.getElem?_eq_some_iff.1 hu).1
    rwa [yA1,(h.1.at k hk).1] at this
   have e:=h'.2.cells (g:=g) rfl (k * n+j) u (by rw [flatN_at h.1 k j hk hj];exact hu)
   rw [yB7,Nat.zero_add] at e
   exact e
 obtain ⟨g,cap,_,rfl,h3,_⟩:=key W h
 obtain ⟨i,hi,hz0,hz1,hz2⟩:=info_parts he.info
 refine ⟨g,rfl,h3,fun w'=>by simp [Instr.indexAt,asIntOf,run_underlying he.sl,hk,sizeOf,typeInfo,hi,hz1,yB7],fun W' h' j u hu => ?_⟩
 obtain ⟨g',cap',_,e,_,h4⟩:=key W' h'
 have e1:g=g':=Option.some.inj (congrArg Value.ownBlock e)
 subst e1
 exact h4 j u hu
def ALine (E n:Nat) (W:World) (g:Nat) (L:List (List Nat)):Prop:=AllN n L∧Row W g E (yA0 L.flatten)
set_option maxRecDepth 100000 in
theorem ALine.own {E n:Nat} {W:World} {g base:Nat} {L:List (List Nat)} (h:ALine E n W g L) (hb:base≤g) (hl:L.length≤1000000):AOwn E n W base (whole g L.length) L :=
 ⟨h.1,by rw [yA1,flatN h.1],Or.inr ⟨g,L.length,(yA0 L.flatten).toArray,rfl,hb,h.2,Nat.le_refl _,by unfold maxLen;omega,by simp [yA1,flatN h.1],by rw [List.take_of_length_le (by simp [yA1,flatN h.1])]⟩⟩
theorem ALine.later {E n:Nat} {W W':World} {g:Nat} {L:List (List Nat)} (h:ALine E n W g L) (hb:Below W.heap.size W W'):ALine E n W' g L:=⟨h.1,h.2.later hb h.2.lt⟩
theorem allZ (n k:Nat):AllN n (List.replicate k (Zs n)):=fun b hb=>by
 rw [(List.mem_replicate.1 hb).2]
 exact ⟨yH2 n,fun c hc=>by rw [(List.mem_replicate.1 hc).2];decide⟩
theorem madeN (n k:Nat) (hn:0<n):(madeCells (Value.agg (yA0 (Zs n)).toArray).cells (k * n)).toList=yA0 (List.replicate k (Zs n)).flatten:=by
 have e:(List.replicate k (Zs n)).flatten=Zs (k * n):=by
  unfold Zs
  rw [List.flatten_replicate_replicate]
 rw [e]
 have e2:∀j:Nat,j<n→(yA0 (Zs n)).getD j default = .int .u8 0:=by
  intro j hj
  unfold Zs yA0
  rw [List.map_replicate,List.getD_eq_getElem?_getD,List.getElem?_replicate,if_pos hj]
  rfl
 show (madeCells (yA0 (Zs n)).toArray (k * n)).toList=_
 have e3:(yA0 (Zs n)).length=n:=bz n
 have e4:yA0 (Zs (k * n))=List.replicate (k * n) (.int .u8 0):=by unfold Zs yA0;rw [List.map_replicate];rfl
 rw [e4]
 generalize yA0 (Zs n)=z at e2 e3
 apply List.ext_getElem
 ·simp [madeCells]
 ·intro j h1 h2
  have:=e2 (j % n) (Nat.mod_lt _ hn)
  simp [madeCells,e3]
  simpa using this
theorem ALine.put {S E n:Nat} (he:ElT S E n) {W:World} {g:Nat} {L:List (List Nat)} (h:ALine E n W g L) (k:Nat) (hk:k<L.length) (b:List Nat) (hb:b.length=n∧∀c∈b,c<256) :
  ∃W',(∀(a:Act) (o:Oper) (x y:Operand),o.op = .store E x y→a.eval x = .pointer (some ⟨g,k * n,none⟩)→a.eval y=av b→(execOp a.eval o).run Tryd.prog W = .ok .skip W')∧ALine E n W' g (L.set k b)∧Ch (· = g) W W'∧W'.heap.size=W.heap.size:=by
 have hl:(yA0 b).length=n:=by rw [yA1];exact hb.1
 have h2:(k+1) * n≤L.length * n:=Nat.mul_le_mul_right n hk
 have hfl:(yA0 L.flatten).length=L.length * n:=by rw [yA1,flatN h.1]
 have hst:=yG1 he.ag W g (k * n) E (yA0 L.flatten) (yA0 b) hl h.2 (by rw [hl,hfl];rw [Nat.add_mul] at h2;omega) (yB0 _)
 rw [flatN_set h.1 k hk b hb.1] at hst
 refine ⟨W.setRow g (yA0 (L.set k b).flatten).toArray,fun a o x y ho hx hy => ?_,⟨h.1.set k hb,h.2.setRow _⟩,(Ch.refl (· = g) W).setRow (Or.inl rfl) _,by simp [World.setRow]⟩
 have:(storeVar E ⟨g,k * n,none⟩ (av b)).run Tryd.prog W=_:=hst
 simp [execOp,ho,hx,hy,Instr.storeAt,Instr.sureAddr,this]
end Go.Proofs.YtpkkkkomdblpoaaDoor

/- Layer 15: an object out of its blocks. -/
import Derived.Test.YtpkkkkomdblpoaaDoorS21
namespace Go.Proofs.YtpkkkkomdblpoaaDoor
open Go.RowKit Go.Maps
open Cold
def rawTo (found:List (List Nat)) (k:Nat):List Nat:=(((found.take k).drop 1).map (·.take 56)).flatten
theorem rawTo_zero (found:List (List Nat)):rawTo found 0=[]:=by simp [rawTo]
theorem rawTo_one (found:List (List Nat)):rawTo found 1=[]:=by
 unfold rawTo
 rw [List.drop_eq_nil_of_le (by simp;omega)]
 rfl
theorem rawTo_succ (found:List (List Nat)) (k:Nat) (hk:k<found.length) (h0:0<k):rawTo found (k+1)=rawTo found k++(found.getD k []).take 56:=by
 unfold rawTo
 rw [List.take_succ_eq_append_getElem hk,List.drop_append_of_le_length (by simp;omega),List.map_append,List.flatten_append]
 congr 1
 simp [hk]
theorem rawTo_all (found:List (List Nat)):rawTo found found.length=rawB found:=by
 unfold rawTo rawB
 rw [List.take_length]
theorem rawTo_len {found:List (List Nat)} (h:AllN 64 found):∀k,k≤found.length→(rawTo found k).length=56 * (k - 1):=by
 intro k
 induction k with
 | zero=>intro _;rw [rawTo_zero];rfl
 | succ k ih =>
  intro hk
  rcases Nat.eq_zero_or_pos k with rfl|h0
  ·rw [rawTo_one];rfl
  ·rw [rawTo_succ found k (by omega) h0,List.length_append,ih (by omega),List.length_take,(h.at k (by omega)).1]
   omega
theorem rawTo_lt {found:List (List Nat)} (h:AllN 64 found) (k:Nat):∀c∈rawTo found k,c<256:=fun c hc=>by
 unfold rawTo at hc
 obtain ⟨l,hl,hc⟩:=List.mem_flatten.1 hc
 obtain ⟨b,hb,rfl⟩:=List.mem_map.1 hl
 exact (h b (List.mem_of_mem_take (List.mem_of_mem_drop hb))).2 c (List.mem_of_mem_take hc)
theorem obj_of {d a:Nat} {found:List (List Nat)} {id bs:List Nat} (hn:found.length=nb bs.length) (ht:∀i,i<found.length→(found.getD i []).drop 56=tg 111 d a i) (hp:∀i,i<found.length→(found.getD i []).take 56=(pcs id bs).getD i []):found=blks d a id bs:=by
 apply List.ext_getElem
 ·rw [yC1,hn]
 ·intro i h1 h2
  have e1:=blks_at d a id bs i (by rw [←hn];exact h1)
  rw [List.getD_eq_getElem?_getD,List.getElem?_eq_getElem h2,Option.getD_some] at e1
  have e2:found.getD i []=found[i]:=by rw [List.getD_eq_getElem?_getD,List.getElem?_eq_getElem h1,Option.getD_some]
  rw [e1,←e2,←List.take_append_drop 56 (found.getD i []),ht i h1,hp i h1]
  rfl
theorem yJ9 {w:World} {a:Act} {o:Oper} (ho:o.op = .build 91 #[]):(execOp a.eval o).run Tryd.prog w = .ok (.value (.agg (obC 0 0 0 false [] (.slice none 0 0)).toArray)) w:=by
 have:=run_build91z w
 simp [execOp,ho,this]
theorem run_b91 {w:World} {a:Act} {o:Oper} (x y:Operand) (ho:o.op = .build 91 #[(0,x),(1,y)]) (d t l:Int) (b:Bool) (id:List Nat) (hx:a.eval x = .agg (plC d t l b).toArray) (hy:a.eval y=str id):(execOp a.eval o).run Tryd.prog w = .ok (.value (.agg (obC d t l b id (.slice none 0 0)).toArray)) w:=by
 have:=run_build91b w d t l b id
 simp [execOp,ho,hx,hy,this]
def NoObj (d a:Nat) (found:List (List Nat)):Prop := ¬ ∃id bs,IsObj d a found id bs
theorem no_nil (d a:Nat):NoObj d a []:=fun ⟨id,bs,h⟩=>by
 have h1:=h.num
 have:=nb_pos bs.length
 rw [List.length_nil] at h1
 omega
theorem no_lab {d a:Nat} {found:List (List Nat)} (h:labP ((found.getD 0 []).take 56)=none):NoObj d a found:=fun ⟨id,bs,k⟩=>by
 rw [k.lab] at h
 cases h
theorem no_num {d a:Nat} {found:List (List Nat)} {id:List Nat} {n:Nat} (h:labP ((found.getD 0 []).take 56)=some (id,n)) (hn:nbP n≠found.length):NoObj d a found:=fun ⟨id',bs,k⟩=>by
 have e:=Option.some.inj (h.symm.trans k.lab)
 have e2:n=bs.length:=congrArg Prod.snd e
 refine hn ?_
 rw [k.num,e2]
 unfold nbP
 rw [if_pos k.len]
theorem no_tag {d a:Nat} {found:List (List Nat)} (i:Nat) (hi:i<found.length) (h:(found.getD i []).drop 56≠tg 111 d a i):NoObj d a found:=fun ⟨id,bs,k⟩=>by
 refine h ?_
 rw [k.at i hi,bk_drop _ _ _ _ _ (by rw [←k.num];exact hi)]
theorem no_piece {d a:Nat} {found:List (List Nat)} {id:List Nat} {n:Nat} (h:labP ((found.getD 0 []).take 56)=some (id,n)) (i:Nat) (hi:i<found.length) (hp:(found.getD i []).take 56≠(pcs id ((rawB found).take n)).getD i []):NoObj d a found:=fun ⟨id',bs,k⟩=>by
 have e:=Option.some.inj (h.symm.trans k.lab)
 have e1:id=id':=congrArg Prod.fst e
 have e2:n=bs.length:=congrArg Prod.snd e
 refine hp ?_
 rw [e2,k.raw,e1,k.at i hi,bk_take _ _ _ _ _ (by rw [←k.num];exact hi)]
theorem sz38:(Tryd.prog.info? 38).map (·.size)=some 1:=by kernel_rfl
theorem sub_own {W:World} {base:Nat} {v vc:Value} {cs:List Nat} {n:Nat} (h:BOwn W base v cs) (hn:n≤cs.length) (hs:∀w',(Instr.slice 38 v none (some (.int .i64 (n:Nat))) none).run Tryd.prog w' = .ok vc w'):∀b,vc.ownBlock=some b→v.ownBlock=some b:=fun b hb=>by
 obtain ⟨i,hi5,hsz⟩:=Option.map_eq_some_iff.1 info5
 have hsize:∀w':World,(sizeOf 5).run Tryd.prog w' = .ok 1 w':=fun w'=>by simp [sizeOf,typeInfo,hi5,hsz]
 have key:∀p cap,cs.length≤cap→v = .slice p cs.length cap→v.ownBlock=some b:=by
  rintro p cap hc rfl
  have e:∀w',(Instr.slice 38 (.slice p cs.length cap) none (some (.int .i64 (n:Nat))) none).run Tryd.prog w' = .ok (sliced p 0 n cap 1) w':=fun w'=>by rw [run_slice_h _ _ _ _ _ sl38 _ _ (by omega) (by omega),elem51,hsize];rfl
  have e2:=(hs W).symm.trans (e W)
  have e3:vc=sliced p 0 n cap 1:=by injection e2
  rw [e3] at hb
  cases p with
  | none=>unfold sliced at hb;split at hb <;> cases hb
  | some ad =>
   unfold sliced at hb
   split at hb
   ·exact hb
   ·rw [Option.map_some,Nat.mul_one] at hb
    have h9:(ad.add 0).block=ad.block:=by unfold Addr.add;split <;> rfl
    have h8:(ad.add 0).block=b:=Option.some.inj hb
    exact congrArg some (h9.symm.trans h8)
 rcases h.2 with ⟨rfl,h0⟩|⟨g,cap,cur,rfl,_,_,hcap,_⟩
 ·exact key none 0 (by omega) (by rw [h0])
 ·exact key _ _ hcap rfl
theorem sub_ne {W:World} {base:Nat} {v vc:Value} {cs:List Nat} {n:Nat} (h:BOwn W base v cs) (hn:n≤cs.length) (hs:∀w',(Instr.slice 38 v none (some (.int .i64 (n:Nat))) none).run Tryd.prog w' = .ok vc w') {b T:Nat} {r:List Value} (hb:vc.ownBlock=some b) (hr:Row W b T r) (hT:T≠5):False:=own_ne h (sub_own h hn hs b hb) hr hT
theorem sub_blk {W:World} {base:Nat} {v vc:Value} {cs:List Nat} {n:Nat} (h:BOwn W base v cs) (hn:n≤cs.length) (hs:∀w',(Instr.slice 38 v none (some (.int .i64 (n:Nat))) none).run Tryd.prog w' = .ok vc w'):∀b,vc.ownBlock=some b→base≤b∧b<W.heap.size:=fun b hb=>h.lt b (sub_own h hn hs b hb)
theorem yC9 {fn:Func} {p u:Tmp} {t n:Nat} (ht:AggT t n) (h:fn.results=#[.cell p t,.tmp u]) (tmps:Array Value) (w:World) (g T:Nat) (hp:tmps.getD p undef = .pointer (some ⟨g,0,none⟩)) (cs:List Value) (hn:cs.length=n) (hr:Row w g T cs) (v:Value) (hv:tmps.getD u undef=v) :
  (results fn tmps).run Tryd.prog w = .ok (.tuple #[.agg cs.toArray,v]) w:=by
 rw [results_cell_tmp ht h tmps w g T hp cs hn hr,hv]
theorem yH4 (d a ln:Int) (bd:Bool) (id:List Nat) (vb:Value) (h:vb.oneCell'=true):∀v∈obC d a ln bd id vb,v.oneCell'=true:=fun v hv=>by
 unfold obC at hv
 simp only [List.mem_cons,List.not_mem_nil,or_false] at hv
 rcases hv with rfl|rfl|rfl|rfl|rfl|rfl
 ·rfl
 ·rfl
 ·rfl
 ·rfl
 ·rfl
 ·exact h
set_option maxHeartbeats 4000000 in
set_option maxRecDepth 100000 in
theorem objectOf_any (d a:Nat) (ln:Int) (bd:Bool) (vf:Value) (found:List (List Nat)) (base:Nat) (w:World) (hf:AOwn 133 64 w base vf found) (hl:found.length≤4096) (he:Env w):Calls Tryd.prog 43 #[.agg (plC (d:Nat) (a:Nat) ln bd).toArray,vf] w fun e w'=>((∃id bs vb,e = .returned (.tuple #[.agg (obC (d:Nat) (a:Nat) ln bd id vb).toArray,.bool true])∧IsObj d a found id bs∧yA2 w' vb bs∧∀b,vb.ownBlock=some b→w.heap.size≤b)∨(e = .returned (.tuple #[.agg (obC 0 0 0 false [] (.slice none 0 0)).toArray,.bool false])∧NoObj d a found))∧Below w.heap.size w w':=by
 have HM:Hid (AOwn 133 64 w base vf found∧Env w):=⟨hf,he⟩
 obtain ⟨N,hN⟩:∃n,n=found.length:=⟨_,rfl⟩
 have HN:Hid (N=found.length):=hN
 have HN4:N≤4096:=hN▸hl
 have H0:Hid (Loc w w []):=Loc.nil (Below.refl _ _)
 have HNO:Hid (∀W1:World,Below w.heap.size w W1→NoObj d a found→∀e,e = .returned (.tuple #[.agg (obC 0 0 0 false [] (.slice none 0 0)).toArray,.bool false])→(fun (e:Ending) (w':World)=>((∃id bs vb,e = .returned (.tuple #[.agg (obC (d:Nat) (a:Nat) ln bd id vb).toArray,.bool true])∧IsObj d a found id bs∧yA2 w' vb bs∧∀b,vb.ownBlock=some b→w.heap.size≤b)∨(e = .returned (.tuple #[.agg (obC 0 0 0 false [] (.slice none 0 0)).toArray,.bool false])∧NoObj d a found))∧Below w.heap.size w w') e W1):=fun W1 hb hno e he=>⟨Or.inr ⟨he,hno⟩,hb⟩
 clear hf he hl hN
 obtain ⟨PQ,HPQ⟩:=exPQ fun (e:Ending) (w':World)=>((∃id bs vb,e = .returned (.tuple #[.agg (obC (d:Nat) (a:Nat) ln bd id vb).toArray,.bool true])∧IsObj d a found id bs∧yA2 w' vb bs∧∀b,vb.ownBlock=some b→w.heap.size≤b)∨(e = .returned (.tuple #[.agg (obC 0 0 0 false [] (.slice none 0 0)).toArray,.bool false])∧NoObj d a found))∧Below w.heap.size w w'
 rw [←HPQ.out]
 rw [←HPQ.out] at HNO
 go_enter Tryd.func43,Tryd.ntmps43
 go_upto_region 0 with fail
 refine wp_region_lit ?_
 refine wl rfl _ _ (yG2 (.tmp 0) rfl ((plC (d:Nat) (a:Nat) ln bd)) rfl) ?_
 have k_:=H0.out.box 40 ((plC (d:Nat) (a:Nat) ln bd))
 obtain ⟨w1,hW_⟩:∃W,W=w.alloc (.cells ((plC (d:Nat) (a:Nat) ln bd)).toArray 40):=⟨_,rfl⟩
 obtain ⟨q1,hq_⟩:∃q,q=w.heap.size:=⟨_,rfl⟩
 rw [←hW_,←hq_] at k_
 rw [←hW_,←hq_]
 clear hq_
 have Rw1:Hid (Loc w w1 [(q1,40,(plC (d:Nat) (a:Nat) ln bd))]):=k_
 clear k_ hW_ H0
 simp only [Act.put,aS,aC,aZ]
 refine wl rfl _ _ (yB6 ((obC 0 0 0 false [] (.slice none 0 0))) zero91 rfl) ?_
 have k_:=Rw1.out.box 91 ((obC 0 0 0 false [] (.slice none 0 0)))
 obtain ⟨w2,hW_⟩:∃W,W=w1.alloc (.cells ((obC 0 0 0 false [] (.slice none 0 0))).toArray 91):=⟨_,rfl⟩
 obtain ⟨q2,hq_⟩:∃q,q=w1.heap.size:=⟨_,rfl⟩
 rw [←hW_,←hq_] at k_
 rw [←hW_,←hq_]
 clear hq_
 have Rw2:Hid (Loc w w2 [(q1,40,(plC (d:Nat) (a:Nat) ln bd)),(q2,91,(obC 0 0 0 false [] (.slice none 0 0)))]):=k_
 clear k_ hW_ Rw1
 simp only [Act.put,aS,aC,aZ]
 refine wa (.const (.bool false)) (.bool false) ?_
 simp only [Act.put,aS,aC,aZ]
 refine wpList_nil ?_
 by_cases hz:N=0
 ·go_upto_region 1 with fail
  refine wp_region_lit ?_
  refine wm 1 vf ?_
  refine wl rfl (.int .i64 (N:Nat)) _ ((by rw [HN.out];exact run_lenA el93 HM.out.1 (.tmp 14) rfl rfl)) ?_
  refine wl rfl _ _ (yC6 (.tmp 15) (.const (.int .i64 0)) rfl (N:Nat) 0 rfl rfl true (decide_eq_true (by omega))) ?_
  simp only [Act.put,aS,aC,aZ]
  refine wpList_nil ?_
  go_upto_region 2 with fail
  refine wp_region_lit ?_
  refine wl rfl _ _ (yJ9 rfl) ?_
  simp only [Act.put,aS,aC,aZ]
  refine wlS rfl rfl _ (yB3 ag91 (.tmp 4) (.tmp 17) rfl Rw2.out 1 rfl (0) rfl (obC 0 0 0 false [] (.slice none 0 0)) rfl rfl (by decide) (yH4 _ _ _ _ _ _ rfl)).1 ?_
  have k_:=Rw2.out.lay 1 rfl (0) (obC 0 0 0 false [] (.slice none 0 0))
  rw [yB5 _ _ rfl] at k_ ⊢
  obtain ⟨w3,hW_⟩:∃U_:World,U_=w2.setRow q2 (obC 0 0 0 false [] (.slice none 0 0)).toArray:=⟨_,rfl⟩
  rw [←hW_] at k_ ⊢
  have HZ_:Hid (Row w3 q2 91 (obC 0 0 0 false [] (.slice none 0 0))∧Below w.heap.size w w3):=⟨k_.at 1 rfl,k_.below⟩
  clear k_ hW_
  refine wa (.const (.bool false)) (.bool false) ?_
  simp only [Act.put,aS,aC,aZ]
  refine wpList_nil ?_
  go_wp2_with fail
  exact bodyPost_ret (yC9 ag91 Tryd.results43 _ _ q2 91 rfl (obC 0 0 0 false [] (.slice none 0 0)) rfl HZ_.out.1 (.bool false) rfl) rfl (HNO.out _ HZ_.out.2 (by have h9:=HN.out;rw [hz] at h9;rw [List.length_eq_zero_iff.1 h9.symm];exact no_nil d a) _ rfl)
 go_upto_region 1 with fail
 refine wp_region_lit ?_
 refine wm 1 vf ?_
 refine wl rfl (.int .i64 (N:Nat)) _ ((by rw [HN.out];exact run_lenA el93 HM.out.1 (.tmp 14) rfl rfl)) ?_
 refine wl rfl _ _ (yC6 (.tmp 15) (.const (.int .i64 0)) rfl (N:Nat) 0 rfl rfl false (decide_eq_false (by omega))) ?_
 simp only [Act.put,aS,aC,aZ]
 refine wpList_nil ?_
 obtain ⟨g,hgo_,_,hx0_,hc0_⟩:=(HM.out.1.later Rw2.out.below).ix el93 0 (by rw [←HN.out];omega)
 obtain ⟨b0,hb0⟩:∃x,x=found.getD 0 []:=⟨_,rfl⟩
 rw [←hb0] at hc0_
 have HX0:Hid ((∀w',(Instr.indexAt 93 vf (.int .i64 ((0:Nat):Int))).run Tryd.prog w' = .ok (.pointer (some ⟨g,0 * 64,none⟩)) w')∧(∀j u,(yA0 (b0.take 56))[j]? = some u→w2.cell? ⟨g,0 * 64+0+j,none⟩=some u)∧b0=found.getD 0 []∧(b0.take 56).length=56∧∀c∈b0.take 56,c<256):=⟨hx0_,fun j u hu=>(by have:=hc0_ w2 (HM.out.1.later Rw2.out.below) j u (by rw [yH0] at hu;rw [List.getElem?_take] at hu;split at hu;exact hu;cases hu);simpa using this),hb0,(by have h9:=(HM.out.1.1.at 0 (by rw [←HN.out];omega)).1;rw [hb0,List.length_take,h9];rfl),fun c hc=>(HM.out.1.1.at 0 (by rw [←HN.out];omega)).2 c (by rw [←hb0];exact List.mem_of_mem_take hc)⟩
 clear hx0_ hc0_ hb0 hgo_
 go_upto_region 3 with fail
 refine wp_region_lit ?_
 refine wm 1 vf ?_
 refine wl rfl _ _ (yD5 (.tmp 19) (.const (.int .i64 0)) rfl _ _ _ rfl rfl HX0.out.1) ?_
 refine wl rfl _ _ (yA3 f133_0 (.tmp 20) rfl g (0 * 64) rfl) ?_
 simp only [Act.put,aS,aC,aZ]
 refine wl rfl _ _ (yA9 ag129 (.tmp 21) rfl g (0 * 64+0) rfl (yA0 (b0.take 56)) (by rw [yA1];exact HX0.out.2.2.2.1) HX0.out.2.1) ?_
 simp only [Act.put,aS,aC,aZ]
 refine yA5 eN64 [.tmp 22] _ rfl rfl [(av (b0.take 56))] rfl ?_
 refine (label_any (b0.take 56) HX0.out.2.2.2.1 HX0.out.2.2.2.2 w2 (HM.out.2.later Rw2.out.below).1).mono ?_
 rintro e w3 ⟨vs,vn,ok,rfl,hb_,hlab_⟩
 refine ⟨_,rfl,?_⟩
 have H3:Hid (Loc w w3 [(q1,40,(plC (d:Nat) (a:Nat) ln bd)),(q2,91,(obC 0 0 0 false [] (.slice none 0 0)))]):=Rw2.out.later hb_
 have HLB:Hid ((ok=true∧∃id len,labP (b0.take 56)=some (id,len)∧vs=str id∧vn = .int .i64 (len:Nat)∧len<65536)∨(ok=false∧labP (b0.take 56)=none∧(∃id,vs=str id)∧∃z:Nat,vn = .int .i64 (z:Nat)∧z<65536)):=hlab_
 clear hb_ hlab_ Rw2
 simp only [Act.put,aS,aC,aZ]
 refine wm 23 (.tuple #[vs,vn,(.bool ok)]) ?_
 refine wl rfl _ _ (yA8 (.tmp 18) 0 rfl #[vs,vn,(.bool ok)] rfl vs rfl) ?_
 refine wl rfl _ _ (yA8 (.tmp 18) 1 rfl #[vs,vn,(.bool ok)] rfl vn rfl) ?_
 simp only [Act.put,aS,aC,aZ]
 refine wl rfl _ _ (yA8 (.tmp 18) 2 rfl #[vs,vn,(.bool ok)] rfl (.bool ok) rfl) ?_
 refine wa (.tmp 24) vs ?_
 refine wa (.tmp 25) vn ?_
 simp only [Act.put,aS,aC,aZ]
 refine wa (.tmp 26) (.bool ok) ?_
 simp only [Act.put,aS,aC,aZ]
 refine wpList_nil ?_
 cases ok with
 | false =>
  have HL9:Hid (labP (b0.take 56)=none):=(by rcases HLB.out with ⟨h,_⟩|⟨_,h,_⟩;cases h;exact h)
  go_upto_region 4 with fail
  refine wp_region_lit ?_
  refine wm 8 (.bool false) ?_
  refine wl rfl _ _ (yH3 (.tmp 27) 4 rfl false rfl) ?_
  refine wm 28 (.bool true) ?_
  simp only [Act.put,aS,aC,aZ]
  refine wpList_skip (by kernel_rfl) ?_
  simp only [Act.put,aS,aC,aZ]
  refine wpList_skip (by kernel_rfl) ?_
  simp only [Act.put,aS,aC,aZ]
  refine wpList_skip (by kernel_rfl) ?_
  simp only [Act.put,aS,aC,aZ]
  refine wpList_skip (by kernel_rfl) ?_
  simp only [Act.put,aS,aC,aZ]
  refine wpList_skip (by kernel_rfl) ?_
  simp only [Act.put,aS,aC,aZ]
  refine wl rfl _ _ (yA6 (.tmp 29) (.const (.bool true)) (.tmp 34) rfl true (.bool true) rfl rfl) ?_
  simp only [Act.put,aS,aC,aZ]
  refine wpList_nil ?_
  go_upto_region 5 with fail
  refine wp_region_lit ?_
  refine wl rfl _ _ (yJ9 rfl) ?_
  simp only [Act.put,aS,aC,aZ]
  refine wlS rfl rfl _ (yB3 ag91 (.tmp 4) (.tmp 36) rfl H3.out 1 rfl (0) rfl (obC 0 0 0 false [] (.slice none 0 0)) rfl rfl (by decide) (yH4 _ _ _ _ _ _ rfl)).1 ?_
  have k_:=H3.out.lay 1 rfl (0) (obC 0 0 0 false [] (.slice none 0 0))
  rw [yB5 _ _ rfl] at k_ ⊢
  obtain ⟨w4,hW_⟩:∃U_:World,U_=w3.setRow q2 (obC 0 0 0 false [] (.slice none 0 0)).toArray:=⟨_,rfl⟩
  rw [←hW_] at k_ ⊢
  have HZ_:Hid (Row w4 q2 91 (obC 0 0 0 false [] (.slice none 0 0))∧Below w.heap.size w w4):=⟨k_.at 1 rfl,k_.below⟩
  clear k_ hW_
  refine wa (.const (.bool false)) (.bool false) ?_
  simp only [Act.put,aS,aC,aZ]
  refine wpList_nil ?_
  go_wp2_with fail
  exact bodyPost_ret (yC9 ag91 Tryd.results43 _ _ q2 91 rfl (obC 0 0 0 false [] (.slice none 0 0)) rfl HZ_.out.1 (.bool false) rfl) rfl (HNO.out _ HZ_.out.2 (no_lab (by rw [←HX0.out.2.2.1];exact HL9.out)) _ rfl)
 | true =>
  obtain ⟨id,len,hlab,hvs,hvn,hlen⟩:∃id len,labP (b0.take 56)=some (id,len)∧vs=str id∧vn = .int .i64 (len:Nat)∧len<65536:=(by rcases HLB.out with ⟨_,h⟩|⟨h,_⟩;exact h;cases h)
  have HL9:Hid (labP (b0.take 56)=some (id,len)):=hlab
  clear hlab HLB
  subst hvs hvn
  obtain ⟨nbl,hnbl⟩:∃n,n=nbP len:=⟨_,rfl⟩
  have HNB:Hid (nbl=nbP len):=hnbl
  clear hnbl
  by_cases hnn:nbl≠N
  ·go_upto_region 4 with fail
   refine wp_region_lit ?_
   refine wm 8 (.bool true) ?_
   refine wl rfl _ _ (yH3 (.tmp 27) 4 rfl true rfl) ?_
   refine wm 28 (.bool false) ?_
   simp only [Act.put,aS,aC,aZ]
   refine wl (by kernel_rfl) _ _ (yA4 (.tmp 7) rfl (.int .i64 (len:Nat)) rfl) ?_
   simp only [Act.put,aS,aC,aZ]
   refine yA5 eN14 [.tmp 30] _ (by kernel_rfl) rfl [(.int .i64 (len:Nat))] rfl ?_
   refine (yI4 len (by omega) w3).mono ?_
   rintro e w_ ⟨rfl,rfl⟩
   refine ⟨_,rfl,?_⟩
   rw [←HNB.out]
   simp only [Act.put,aS,aC,aZ]
   refine wl (by kernel_rfl) _ _ (yA4 (.tmp 1) rfl vf rfl) ?_
   refine wl (by kernel_rfl) (.int .i64 (N:Nat)) _ ((by rw [HN.out];exact run_lenA el93 HM.out.1 (.tmp 32) rfl rfl)) ?_
   refine wl (by kernel_rfl) _ _ (yD1 (.tmp 31) (.tmp 33) rfl (nbl:Nat) (N:Nat) rfl rfl true (by rw [decide_eq_false (by omega)];rfl)) ?_
   simp only [Act.put,aS,aC,aZ]
   refine wl rfl _ _ (yA6 (.tmp 29) (.const (.bool true)) (.tmp 34) rfl false (.bool true) rfl rfl) ?_
   simp only [Act.put,aS,aC,aZ]
   refine wpList_nil ?_
   go_upto_region 5 with fail
   refine wp_region_lit ?_
   refine wl rfl _ _ (yJ9 rfl) ?_
   simp only [Act.put,aS,aC,aZ]
   refine wlS rfl rfl _ (yB3 ag91 (.tmp 4) (.tmp 36) rfl H3.out 1 rfl (0) rfl (obC 0 0 0 false [] (.slice none 0 0)) rfl rfl (by decide) (yH4 _ _ _ _ _ _ rfl)).1 ?_
   have k_:=H3.out.lay 1 rfl (0) (obC 0 0 0 false [] (.slice none 0 0))
   rw [yB5 _ _ rfl] at k_ ⊢
   obtain ⟨w4,hW_⟩:∃U_:World,U_=w3.setRow q2 (obC 0 0 0 false [] (.slice none 0 0)).toArray:=⟨_,rfl⟩
   rw [←hW_] at k_ ⊢
   have HZ_:Hid (Row w4 q2 91 (obC 0 0 0 false [] (.slice none 0 0))∧Below w.heap.size w w4):=⟨k_.at 1 rfl,k_.below⟩
   clear k_ hW_
   refine wa (.const (.bool false)) (.bool false) ?_
   simp only [Act.put,aS,aC,aZ]
   refine wpList_nil ?_
   go_wp2_with fail
   exact bodyPost_ret (yC9 ag91 Tryd.results43 _ _ q2 91 rfl (obC 0 0 0 false [] (.slice none 0 0)) rfl HZ_.out.1 (.bool false) rfl) rfl (HNO.out _ HZ_.out.2 (no_num (by rw [←HX0.out.2.2.1];exact HL9.out) (by rw [←HNB.out,←HN.out];exact hnn)) _ rfl)
  go_upto_region 4 with fail
  refine wp_region_lit ?_
  refine wm 8 (.bool true) ?_
  refine wl rfl _ _ (yH3 (.tmp 27) 4 rfl true rfl) ?_
  refine wm 28 (.bool false) ?_
  simp only [Act.put,aS,aC,aZ]
  refine wl (by kernel_rfl) _ _ (yA4 (.tmp 7) rfl (.int .i64 (len:Nat)) rfl) ?_
  simp only [Act.put,aS,aC,aZ]
  refine yA5 eN14 [.tmp 30] _ (by kernel_rfl) rfl [(.int .i64 (len:Nat))] rfl ?_
  refine (yI4 len (by omega) w3).mono ?_
  rintro e w_ ⟨rfl,rfl⟩
  refine ⟨_,rfl,?_⟩
  rw [←HNB.out]
  simp only [Act.put,aS,aC,aZ]
  refine wl (by kernel_rfl) _ _ (yA4 (.tmp 1) rfl vf rfl) ?_
  refine wl (by kernel_rfl) (.int .i64 (N:Nat)) _ ((by rw [HN.out];exact run_lenA el93 HM.out.1 (.tmp 32) rfl rfl)) ?_
  refine wl (by kernel_rfl) _ _ (yD1 (.tmp 31) (.tmp 33) rfl (nbl:Nat) (N:Nat) rfl rfl false (by rw [decide_eq_true (by omega)];rfl)) ?_
  simp only [Act.put,aS,aC,aZ]
  refine wl rfl _ _ (yA6 (.tmp 29) (.const (.bool true)) (.tmp 34) rfl false (.bool false) rfl rfl) ?_
  simp only [Act.put,aS,aC,aZ]
  refine wpList_nil ?_
  have HNN:Hid (N=nb len∧len≤512):=(by have e1:=HNB.out;unfold nbP at e1;split at e1;exact ⟨by omega,by assumption⟩;omega)
  have HID:Hid ((∀c∈id,c<256)∧id.length≤1000∧nameB id=true):=⟨nameB_lt (labP_name HL9.out),(by have:=nameB_len (labP_name HL9.out);omega),labP_name HL9.out⟩
  clear hnn hlen
  go_upto_region 6 with fail
  refine wp_region_lit ?_
  refine wl rfl _ _ (yA9 ag40 (.tmp 2) rfl q1 (0) rfl ((plC (d:Nat) (a:Nat) ln bd)) rfl (yF0 H3.out 0 rfl)) ?_
  refine wm 6 (str id) ?_
  refine wl rfl _ _ (run_b91 (.tmp 37) (.tmp 38) rfl (d:Nat) (a:Nat) ln bd id rfl rfl) ?_
  simp only [Act.put,aS,aC,aZ]
  refine wl rfl _ _ (yB6 (obC 0 0 0 false [] (.slice none 0 0)) zero91 rfl) ?_
  have k_:=H3.out.box 91 (obC 0 0 0 false [] (.slice none 0 0))
  obtain ⟨w4,hW_⟩:∃W,W=w3.alloc (.cells (obC 0 0 0 false [] (.slice none 0 0)).toArray 91):=⟨_,rfl⟩
  obtain ⟨q3,hq_⟩:∃q,q=w3.heap.size:=⟨_,rfl⟩
  rw [←hW_,←hq_] at k_
  rw [←hW_,←hq_]
  have H4:Hid (Loc w w4 [(q1,40,(plC (d:Nat) (a:Nat) ln bd)),(q2,91,(obC 0 0 0 false [] (.slice none 0 0))),(q3,91,(obC 0 0 0 false [] (.slice none 0 0)))]):=k_
  clear k_ hW_ hq_ H3
  simp only [Act.put,aS,aC,aZ]
  refine wlS rfl rfl _ (yB3 ag91 (.tmp 9) (.tmp 39) rfl H4.out 2 rfl (0) rfl (obC (d:Nat) (a:Nat) ln bd id (.slice none 0 0)) rfl rfl (by show 0+6≤6;decide) (yH4 _ _ _ _ _ _ rfl)).1 ?_
  have k_:=H4.out.lay 2 rfl (0) (obC (d:Nat) (a:Nat) ln bd id (.slice none 0 0))
  rw [yB5 (obC 0 0 0 false [] (.slice none 0 0)) (obC (d:Nat) (a:Nat) ln bd id (.slice none 0 0)) rfl] at k_ ⊢
  obtain ⟨w5,hW_⟩:∃U_:World,U_=w4.setRow q3 (obC (d:Nat) (a:Nat) ln bd id (.slice none 0 0)).toArray:=⟨_,rfl⟩
  rw [←hW_] at k_ ⊢
  have H5:Hid (Loc w w5 [(q1,40,(plC (d:Nat) (a:Nat) ln bd)),(q2,91,(obC 0 0 0 false [] (.slice none 0 0))),(q3,91,(obC (d:Nat) (a:Nat) ln bd id (.slice none 0 0)))]):=k_
  clear k_ hW_ H4
  refine wpList_nil ?_
  go_upto_region 7 with fail
  refine wp_region_lit ?_
  refine wm 1 vf ?_
  refine wl rfl (.int .i64 (N:Nat)) _ ((by rw [HN.out];exact run_lenA el93 HM.out.1 (.tmp 40) rfl rfl)) ?_
  refine wl rfl _ _ (yA4 (.const (.int .i64 0)) rfl (.int .i64 0) rfl) ?_
  simp only [Act.put,aS,aC,aZ]
  refine wpList_nil ?_
  go_wp2_with fail
  go_loopw [10,11,42] (fun _ _ vk W => ∃k:Nat,vk = .int .i64 (k:Nat)∧k≤N∧Hid (∃vb,Loc w W [(q1,40,(plC (d:Nat) (a:Nat) ln bd)),(q2,91,(obC 0 0 0 false [] (.slice none 0 0))),(q3,91,(obC (d:Nat) (a:Nat) ln bd id vb))]∧BOwn W w.heap.size vb (rawTo found k)∧∀i,i<k→(found.getD i []).drop 56=tg 111 d a i)) (fun _ _ vk _=>N - (intOf vk).toNat)
  case atStart=>exact ⟨0,rfl,Nat.zero_le _,.slice none 0 0,H5.out,⟨by simp [rawTo_zero,yA0],Or.inl ⟨rfl,by rw [rawTo_zero];rfl⟩⟩,fun i hi=>absurd hi (Nat.not_lt_zero i)⟩
  case round =>
   obtain ⟨k,rfl,hk,hinv_⟩:=hrel
   obtain ⟨vb,hinv2_⟩:=hinv_.out
   have HI:Hid (Loc w wr [(q1,40,(plC (d:Nat) (a:Nat) ln bd)),(q2,91,(obC 0 0 0 false [] (.slice none 0 0))),(q3,91,(obC (d:Nat) (a:Nat) ln bd id vb))]∧BOwn wr w.heap.size vb (rawTo found k)∧∀i,i<k→(found.getD i []).drop 56=tg 111 d a i):=hinv2_
   clear hinv_ hinv2_
   by_cases hlt:k<N
   ·go_upto_region 8 with fail
    refine wp_region_lit ?_
    refine wl rfl _ _ (yB8 (.tmp 42) (.tmp 41) rfl (k:Nat) (N:Nat) rfl rfl true (decide_eq_true (by omega))) ?_
    simp only [Act.put,aS,aC,aZ]
    refine wpList_nil ?_
    have HK:Hid (k<N∧k<found.length):=⟨hlt,HN.out▸hlt⟩
    obtain ⟨g1,_,_,hx_,hc_⟩:=(HM.out.1.later HI.out.1.below).ix el93 k HK.out.2
    obtain ⟨bl,hbl⟩:∃x,x=found.getD k []:=⟨_,rfl⟩
    rw [←hbl] at hc_
    have HX:Hid ((∀w',(Instr.indexAt 93 vf (.int .i64 (k:Nat))).run Tryd.prog w' = .ok (.pointer (some ⟨g1,k * 64,none⟩)) w')∧(∀j u,(yA0 bl)[j]? = some u→wr.cell? ⟨g1,k * 64+j,none⟩=some u)∧bl=found.getD k []∧bl.length=64∧(∀c∈bl,c<256)):=⟨hx_,hc_ wr (HM.out.1.later HI.out.1.below),hbl,by rw [hbl];exact (HM.out.1.1.at k HK.out.2).1,by rw [hbl];exact (HM.out.1.1.at k HK.out.2).2⟩
    clear hx_ hc_ hbl
    go_upto_region 9 with fail
    refine wp_region_lit ?_
    refine wm 42 (.int .i64 (k:Nat)) ?_
    refine wl rfl _ _ (yD5 (.tmp 40) (.tmp 42) rfl _ _ _ rfl rfl HX.out.1) ?_
    refine wl rfl _ _ (yA9 ag133 (.tmp 45) rfl g1 (k * 64) rfl (yA0 bl) (by rw [yA1];exact HX.out.2.2.2.1) HX.out.2.1) ?_
    simp only [Act.put,aS,aC,aZ]
    refine wl rfl _ _ (yB6 (yA0 (Zs 64)) zero133 rfl) ?_
    have k_:=HI.out.1.box 133 (yA0 (Zs 64))
    have hb_:=yB2 wr (.cells (yA0 (Zs 64)).toArray 133)
    obtain ⟨y1,hW_⟩:∃W,W=wr.alloc (.cells (yA0 (Zs 64)).toArray 133):=⟨_,rfl⟩
    obtain ⟨q5,hq_⟩:∃q,q=wr.heap.size:=⟨_,rfl⟩
    rw [←hW_,←hq_] at k_
    rw [←hW_] at hb_
    rw [←hW_,←hq_]
    have J1:Hid (Loc w y1 [(q1,40,(plC (d:Nat) (a:Nat) ln bd)),(q2,91,(obC 0 0 0 false [] (.slice none 0 0))),(q3,91,(obC (d:Nat) (a:Nat) ln bd id vb)),(q5,133,yA0 (Zs 64))]∧BOwn y1 w.heap.size vb (rawTo found k)):=⟨k_,own_later HI.out.2.1 hb_⟩
    clear k_ hW_ hq_ hb_
    simp only [Act.put,aS,aC,aZ]
    refine wa (.tmp 44) (.int .i64 (k:Nat)) ?_
    simp only [Act.put,aS,aC,aZ]
    refine wlS rfl rfl _ (yB3 ag133 (.tmp 11) (.tmp 46) rfl J1.out.1 3 rfl (0) rfl (yA0 bl) rfl (by rw [yA1];exact HX.out.2.2.2.1) (by rw [yA1,bz,HX.out.2.2.2.1];decide) (yB0 _)).1 ?_
    have k_:=J1.out.1.lay 3 rfl (0) (yA0 bl)
    have c_:=(Ch.setRow (S:=(· = q5)) (Ch.refl _ y1) (Or.inl rfl) (splice (yA0 (Zs 64)) 0 (yA0 bl)).toArray)
    rw [yF4 (n:=64) _ HX.out.2.2.2.1] at k_ c_ ⊢
    obtain ⟨y2,hW_⟩:∃U_:World,U_=y1.setRow q5 (yA0 bl).toArray:=⟨_,rfl⟩
    rw [←hW_] at k_ c_ ⊢
    have J2:Hid (Loc w y2 [(q1,40,(plC (d:Nat) (a:Nat) ln bd)),(q2,91,(obC 0 0 0 false [] (.slice none 0 0))),(q3,91,(obC (d:Nat) (a:Nat) ln bd id vb)),(q5,133,yA0 bl)]∧BOwn y2 w.heap.size vb (rawTo found k)):=⟨k_,ownK J1.out.2 fun b e=>c_.block b (World.ownsRow.lt J1.out.2 b e).2 (fun e2=>own_ne J1.out.2 (e2▸e) (J1.out.1.at 3 rfl) (by decide))⟩
    clear k_ c_ hW_ J1
    refine wpList_nil ?_
    obtain ⟨tb,htb⟩:∃x,x=bl.drop 56:=⟨_,rfl⟩
    obtain ⟨ne,hne⟩:∃b,(!decide (bl.drop 56=tg 111 d a k))=b:=⟨_,rfl⟩
    have HNE:Hid ((!decide (bl.drop 56=tg 111 d a k))=ne):=hne
    clear hne htb
    go_upto_region 10 with fail
    refine wp_region_held (S:=fun X=>Loc w X [(q1,40,(plC (d:Nat) (a:Nat) ln bd)),(q2,91,(obC 0 0 0 false [] (.slice none 0 0))),(q3,91,(obC (d:Nat) (a:Nat) ln bd id vb)),(q5,133,yA0 bl)]∧BOwn X w.heap.size vb (rawTo found k)) (by kernel_rfl) ?_
    show wpAnyH _ _ _ _ _ 6 (Array.replicate 6 false) _ _
    obtain ⟨X,hX⟩:∃X:World,X = { y2 with drawn:=y2.drawn+1 }:=⟨_,rfl⟩
    rw [←hX]
    have HS_:Loc w X [(q1,40,(plC (d:Nat) (a:Nat) ln bd)),(q2,91,(obC 0 0 0 false [] (.slice none 0 0))),(q3,91,(obC (d:Nat) (a:Nat) ln bd id vb)),(q5,133,yA0 bl)]∧BOwn X w.heap.size vb (rawTo found k):=(by rw [hX];exact ⟨J2.out.1.drew,own_later J2.out.2 ⟨rfl,rfl,rfl,Nat.le_refl _,fun _ _=>rfl⟩⟩)
    clear hX
    refine tH 0 47 rfl rfl (gRun rfl _ fun _ h=>yA3 f133_1 (.tmp 11) rfl q5 (0) rfl) HS_ ?_
    refine tH 1 48 rfl rfl (gRun rfl _ fun _ h=>yA9 ag131 (.tmp 47) rfl q5 (0+56) rfl (yA0 (bl.drop 56)) (by rw [yA1,List.length_drop,HX.out.2.2.2.1]) (fun j v hj=>(h.1.at 3 rfl).at (0+56+j) v (by rw [bcells_drop,List.getElem?_drop] at hj;rw [Nat.zero_add];exact hj))) HS_ ?_
    refine tH 2 49 rfl rfl (gRun rfl _ fun _ h=>yA9 ag91 (.tmp 9) rfl q3 (0) rfl ((obC (d:Nat) (a:Nat) ln bd id vb)) rfl (yF0 h.1 2 rfl)) HS_ ?_
    simp only [Act.put,aS,aC,aZ]
    refine tH 3 50 rfl rfl (gRun rfl _ fun _ h=>yA4 (.tmp 10) rfl (.int .i64 (k:Nat)) rfl) HS_ ?_
    simp only [Act.put,aS,aC,aZ]
    refine oneH (i:=4) (by kernel_rfl) ?_
    refine yF6 (some 51) rfl rfl rfl 61 _ (yC2 eN61 [.tmp 49,.tmp 50] _ rfl [(.agg ((obC (d:Nat) (a:Nat) ln bd id vb)).toArray),(.int .i64 (k:Nat))] rfl) ?_
    refine (tag_any d a k ln bd id vb X).mono ?_
    rintro e Y1 ⟨rfl,hb_⟩
    refine ⟨_,rfl,?_⟩
    replace HS_:Loc w Y1 [(q1,40,(plC (d:Nat) (a:Nat) ln bd)),(q2,91,(obC 0 0 0 false [] (.slice none 0 0))),(q3,91,(obC (d:Nat) (a:Nat) ln bd id vb)),(q5,133,yA0 bl)]∧BOwn Y1 w.heap.size vb (rawTo found k):=⟨HS_.1.later hb_,own_later HS_.2 hb_⟩
    clear hb_
    refine ⟨HS_,?_⟩
    simp only [Act.put,aS,aC,aZ]
    refine tH 5 52 rfl rfl (gRun rfl _ fun _ h=>run_neArr 131 8 arr131 guard131 (.tmp 48) (.tmp 51) rfl (bl.drop 56) (tg 111 d a k) (by rw [List.length_drop,HX.out.2.2.2.1]) (tg_length _ _ _ _) rfl rfl ne HNE.out) HS_ ?_
    simp only [Act.put,aS,aC,aZ]
    refine wpAnyH_done (by kernel_rfl) ?_ _
    have J3:Hid (Loc w Y1 [(q1,40,(plC (d:Nat) (a:Nat) ln bd)),(q2,91,(obC 0 0 0 false [] (.slice none 0 0))),(q3,91,(obC (d:Nat) (a:Nat) ln bd id vb)),(q5,133,yA0 bl)]∧BOwn Y1 w.heap.size vb (rawTo found k)):=HS_
    clear HS_ J2
    cases ne with
    | true =>
     have HNE2:Hid ((found.getD k []).drop 56≠tg 111 d a k):=(by show _≠_;rw [←HX.out.2.2.1];simpa using HNE.out)
     go_upto_region 11 with fail
     refine wp_region_lit ?_
     refine wl rfl _ _ (yJ9 rfl) ?_
     simp only [Act.put,aS,aC,aZ]
     refine wlS rfl rfl _ (yB3 ag91 (.tmp 4) (.tmp 53) rfl J3.out.1 1 rfl (0) rfl (obC 0 0 0 false [] (.slice none 0 0)) rfl rfl (by decide) (yH4 _ _ _ _ _ _ rfl)).1 ?_
     have k_:=J3.out.1.lay 1 rfl (0) (obC 0 0 0 false [] (.slice none 0 0))
     rw [yB5 _ _ rfl] at k_ ⊢
     obtain ⟨y9,hW_⟩:∃U_:World,U_=Y1.setRow q2 (obC 0 0 0 false [] (.slice none 0 0)).toArray:=⟨_,rfl⟩
     rw [←hW_] at k_ ⊢
     have HZ_:Hid (Row y9 q2 91 (obC 0 0 0 false [] (.slice none 0 0))∧Below w.heap.size w y9):=⟨k_.at 1 rfl,k_.below⟩
     clear k_ hW_
     refine wa (.const (.bool false)) (.bool false) ?_
     simp only [Act.put,aS,aC,aZ]
     refine wpList_nil ?_
     go_wp2_with fail
     exact bodyPost_ret (yC9 ag91 Tryd.results43 _ _ q2 91 rfl (obC 0 0 0 false [] (.slice none 0 0)) rfl HZ_.out.1 (.bool false) rfl) rfl (HNO.out _ HZ_.out.2 (no_tag k HK.out.2 HNE2.out) _ rfl)
    | false =>
     have HTG:Hid ((found.getD k []).drop 56=tg 111 d a k):=(by show _=_;rw [←HX.out.2.2.1];simpa using HNE.out)
     by_cases hk0:0<k
     ·go_upto_region 12 with fail
      refine wp_region_lit ?_
      refine wm 10 (.int .i64 (k:Nat)) ?_
      refine wl rfl _ _ (yH6 (.tmp 54) (.const (.int .i64 0)) rfl (k:Nat) 0 rfl rfl true (decide_eq_true (by omega))) ?_
      simp only [Act.put,aS,aC,aZ]
      refine wpList_nil ?_
      go_upto_region 13 with fail
      refine yJ7 (S:=fun X=>Loc w X [(q1,40,(plC (d:Nat) (a:Nat) ln bd)),(q2,91,(obC 0 0 0 false [] (.slice none 0 0))),(q3,91,(obC (d:Nat) (a:Nat) ln bd id vb)),(q5,133,yA0 bl)]) 6 (by kernel_rfl) ?_
      show wpAnyU _ _ _ _ _ _ 7 (Array.replicate 7 false) _ _
      obtain ⟨X,hX⟩:∃X:World,X = { Y1 with drawn:=Y1.drawn+1 }:=⟨_,rfl⟩
      rw [←hX]
      have HS_:Loc w X [(q1,40,(plC (d:Nat) (a:Nat) ln bd)),(q2,91,(obC 0 0 0 false [] (.slice none 0 0))),(q3,91,(obC (d:Nat) (a:Nat) ln bd id vb)),(q5,133,yA0 bl)]:=(by rw [hX];exact J3.out.1.drew)
      have HBX:Hid (BOwn X w.heap.size vb (rawTo found k)):=(by rw [hX];exact own_later J3.out.2 ⟨rfl,rfl,rfl,Nat.le_refl _,fun _ _=>rfl⟩)
      clear hX
      refine tV 0 [6] 56 rfl rfl (gRun rfl _ fun _ h=>yA3 f91_2 (.tmp 9) rfl q3 (0) rfl) HS_ ?_
      refine tV 1 [6] 57 rfl rfl (gRun rfl _ fun _ h=>yA7 o38 (.tmp 56) rfl q3 (0+5) rfl vb ((h.at 2 rfl).at 5 _ rfl)) HS_ ?_
      refine tV 2 [6] 58 rfl rfl (gRun rfl _ fun _ h=>yA3 f133_0 (.tmp 11) rfl q5 (0) rfl) HS_ ?_
      simp only [Act.put,aS,aC,aZ]
      refine tV 3 [6] 59 rfl rfl (gRun rfl _ fun _ h=>run_slA arr129 (.tmp 58) none none rfl q5 (0+0) 0 56 rfl ⟨Or.inl ⟨rfl,rfl⟩,Or.inl ⟨rfl,rfl⟩,by omega,by omega,by omega⟩) HS_ ?_
      simp only [Act.put,aS,aC,aZ]
      refine oneU (i:=4) (by kernel_rfl) ?_
      have hin_:yA2 X (.slice (some ⟨q5,0+0+0,none⟩) 56 56) (bl.take 56):=⟨_,56,(by rw [List.length_take,HX.out.2.2.2.1];rfl),(by rw [List.length_take,HX.out.2.2.2.1];decide),Or.inr ⟨q5,0,rfl,fun j hj=>by rw [Nat.zero_add];exact (HS_.at 3 rfl).at j _ (by rw [←yC3 (bl.take 56) j hj,yH0,List.getElem?_take,if_pos (by rw [List.length_take] at hj;omega)]),lt256 _ (fun c hc=>HX.out.2.2.2.2 c (List.mem_of_mem_take hc))⟩⟩
      obtain ⟨v9,Y2,hr_,ho_,hg_⟩:=run_bappend w.heap.size 38 vb _ (rawTo found k) (bl.take 56) HBX.out hin_ (by rw [rawTo_len HM.out.1.1 k (by have:=HK.out.2;omega),List.length_take];have:=HN.out;omega) HS_.below.size
      have hr2_:∀ty,(Builtin.append_ #[38,38] ty #[vb,.slice (some ⟨q5,0+0+0,none⟩) 56 56]).run Tryd.prog X = .ok v9 Y2:=fun ty=>hr_
      refine yG8 (some 60) rfl rfl rfl v9 Y2 (yK0 (.tmp 57) (.tmp 59) rfl _ _ _ rfl rfl hr2_) ?_
      have hk_:Loc w Y2 [(q1,40,(plC (d:Nat) (a:Nat) ln bd)),(q2,91,(obC 0 0 0 false [] (.slice none 0 0))),(q3,91,(obC (d:Nat) (a:Nat) ln bd id vb)),(q5,133,yA0 bl)]:=⟨HS_.below.trans (HBX.out.belowG hg_ HS_.below.size),fun i g T cs e=>⟨(HS_.at i e).grown hg_ (fun e'=>own_ne HBX.out e' (HS_.at i e) (by rcases i with _|_|_|_|i <;> simp at e <;> (try (obtain ⟨_,rfl,_⟩:=e;decide)))),HS_.ge i e⟩,HS_.ne⟩
      have HB9:Hid (BOwn Y2 w.heap.size v9 (rawTo found (k+1))∧v9.oneCell'=true∧v9.cells=#[v9]):=⟨by rw [rawTo_succ found k HK.out.2 hk0,←HX.out.2.2.1];exact ho_,(own_cells ho_).2,(own_cells ho_).1⟩
      clear hr_ hr2_ ho_ hg_ hin_ HS_
      have HS_:Loc w Y2 [(q1,40,(plC (d:Nat) (a:Nat) ln bd)),(q2,91,(obC 0 0 0 false [] (.slice none 0 0))),(q3,91,(obC (d:Nat) (a:Nat) ln bd id vb)),(q5,133,yA0 bl)]:=hk_
      clear hk_
      refine ⟨fun _=>HS_,?_⟩
      simp only [Act.put,aS,aC,aZ]
      refine tV 5 [6] 61 rfl rfl (gRun rfl _ fun _ h=>yA3 f91_2 (.tmp 9) rfl q3 (0) rfl) HS_ ?_
      simp only [Act.put,aS,aC,aZ]
      refine oneU (i:=6) (by kernel_rfl) ?_
      refine opSkipZ rfl rfl rfl _ (run_putRow (t:=38) sz38 (.tmp 61) (.tmp 60) rfl q3 (0+5) 91 _ rfl v9 rfl ⟨HB9.out.2.2,HB9.out.2.1⟩ (HS_.at 2 rfl) (by show 0+5<6;decide)) ?_
      have k_:=HS_.put 2 rfl (0+5) v9
      have c_:=(Ch.refl (· = q3) Y2).setCell (Or.inl rfl) (0+5) v9
      obtain ⟨Y3,hW_⟩:∃U_:World,U_=Y2.setCell ⟨q3,0+5,none⟩ v9:=⟨_,rfl⟩
      rw [←hW_] at k_ c_ ⊢
      have J4:Hid (Loc w Y3 [(q1,40,(plC (d:Nat) (a:Nat) ln bd)),(q2,91,(obC 0 0 0 false [] (.slice none 0 0))),(q3,91,(obC (d:Nat) (a:Nat) ln bd id v9)),(q5,133,yA0 bl)]∧BOwn Y3 w.heap.size v9 (rawTo found (k+1))):=⟨k_,ownK HB9.out.1 fun b e=>c_.block b (World.ownsRow.lt HB9.out.1 b e).2 (fun e2=>own_ne HB9.out.1 (e2▸e) (HS_.at 2 rfl) (by decide))⟩
      clear k_ c_ hW_ HS_ HB9
      refine ⟨fun h=>absurd (show true=false from h) (by decide),?_⟩
      refine wpAnyU_done (by kernel_rfl) ?_ _
      go_upto_region 14 with fail
      refine wp_region_lit ?_
      refine wl rfl (.int .i64 ((k+1:Nat):Int)) _ (yC8 (.tmp 42) (.const (.int .i64 1)) rfl (k:Nat) 1 _ rfl rfl (by omega) (by omega) (by omega)) ?_
      refine wm 62 (.int .i64 ((k+1:Nat):Int)) ?_
      simp only [Act.put,aS,aC,aZ]
      refine wpList_nil ?_
      go_wp2_with fail
      exact ⟨⟨k+1,rfl,by omega,⟨v9,J4.out.1.take 3,J4.out.2,fun i hi=>(by rcases Nat.lt_or_ge i k with q|q;exact HI.out.2.2 i q;rw [show i=k by omega];exact HTG.out)⟩⟩,by simp [intOf];omega⟩
     ·go_upto_region 12 with fail
      refine wp_region_lit ?_
      refine wm 10 (.int .i64 (k:Nat)) ?_
      refine wl rfl _ _ (yH6 (.tmp 54) (.const (.int .i64 0)) rfl (k:Nat) 0 rfl rfl false (decide_eq_false (by omega))) ?_
      simp only [Act.put,aS,aC,aZ]
      refine wpList_nil ?_
      have e0:k=0:=(by omega)
      go_upto_region 14 with fail
      refine wp_region_lit ?_
      refine wl rfl (.int .i64 ((k+1:Nat):Int)) _ (yC8 (.tmp 42) (.const (.int .i64 1)) rfl (k:Nat) 1 _ rfl rfl (by omega) (by omega) (by omega)) ?_
      refine wm 62 (.int .i64 ((k+1:Nat):Int)) ?_
      simp only [Act.put,aS,aC,aZ]
      refine wpList_nil ?_
      go_wp2_with fail
      exact ⟨⟨k+1,rfl,by omega,⟨vb,J3.out.1.take 3,(by rw [e0,rawTo_one,←rawTo_zero found,←e0];exact J3.out.2),fun i hi=>(by rcases Nat.lt_or_ge i k with q|q;exact HI.out.2.2 i q;rw [show i=k by omega];exact HTG.out)⟩⟩,by simp [intOf];omega⟩
   ·go_upto_region 8 with fail
    refine wp_region_lit ?_
    refine wl rfl _ _ (yB8 (.tmp 42) (.tmp 41) rfl (k:Nat) (N:Nat) rfl rfl false (decide_eq_false (by omega))) ?_
    simp only [Act.put,aS,aC,aZ]
    refine wpList_nil ?_
    have HE:Hid (k=N∧k=found.length):=⟨by omega,by have:=HN.out;omega⟩
    clear hk hlt
    have HRL:Hid ((rawTo found k).length=56 * (k - 1)):=rawTo_len HM.out.1.1 k (by have:=HE.out.2;omega)
    have hlen2:len≤(rawTo found k).length:=(by rw [HRL.out];have:=HE.out.1;have:=HNN.out.1;unfold nb np at this;omega)
    have HSB:Hid (yA2 wr vb (rawTo found k)):=HI.out.2.1.slice (rawTo_lt HM.out.1.1 k) (by rw [HRL.out];have:=HE.out.1;omega)
    obtain ⟨vc,hsl_,hsi_⟩:=run_bsub HSB.out (lo:=none) (hi:=some (.int .i64 (len:Nat))) (mx:=none) (l:=0) (h:=len) ⟨Or.inl ⟨rfl,rfl⟩,Or.inr ⟨_,rfl,rfl,Or.inl rfl⟩,Nat.zero_le _,hlen2⟩
    rw [List.drop_zero,HE.out.2,rawTo_all] at hsi_
    obtain ⟨bs,hbs⟩:∃x,x=(rawB found).take len:=⟨_,rfl⟩
    rw [←hbs] at hsi_
    have HC:Hid ((∀w',(Instr.slice 38 vb none (some (.int .i64 (len:Nat))) none).run Tryd.prog w' = .ok vc w')∧yA2 wr vc bs∧bs=(rawB found).take len∧bs.length=len∧(∀c∈bs,c<256)):=⟨hsl_,hsi_,hbs,(by rw [hbs,List.length_take,←rawTo_all,←HE.out.2];omega),hsi_.lt256⟩
    obtain ⟨Bz,hBz⟩:∃n,n=wr.heap.size:=⟨_,rfl⟩
    have HBZ:Hid (Bz=wr.heap.size):=hBz
    have HVC:Hid ((∃p n cc,vc = .slice p n cc)∧∀b,vc.ownBlock=some b→w.heap.size≤b∧b<Bz):=⟨(by obtain ⟨p,cc,e,_⟩:=hsi_;exact ⟨p,_,cc,e⟩),(by rw [hBz];exact sub_blk HI.out.2.1 hlen2 hsl_)⟩
    clear hBz
    have HLEN2:Hid (len≤(rawTo found k).length):=hlen2
    have HWO:Hid True:=trivial
    clear hsl_ hsi_ hbs hlen2
    go_upto_region 15 with fail
    refine wp_region_lit ?_
    refine wl rfl _ _ (yA3 f91_2 (.tmp 9) rfl q3 (0) rfl) ?_
    refine wl rfl _ _ (yA7 o38 (.tmp 63) rfl q3 (0+5) rfl vb ((HI.out.1.at 2 rfl).at 5 _ rfl)) ?_
    refine wm 7 (.int .i64 (len:Nat)) ?_
    simp only [Act.put,aS,aC,aZ]
    refine wl rfl _ _ (run_subB (.tmp 64) none (some (.tmp 65)) none rfl vb vc rfl HC.out.1) ?_
    refine wl rfl _ _ (yA3 f91_2 (.tmp 9) rfl q3 (0) rfl) ?_
    simp only [Act.put,aS,aC,aZ]
    have hcc_:vc.cells=#[vc]∧vc.oneCell'=true:=(by obtain ⟨p,n,cc,e⟩:=HVC.out.1;rw [e];exact ⟨rfl,rfl⟩)
    refine wlS rfl rfl _ (run_putRow (t:=38) sz38 (.tmp 67) (.tmp 66) rfl q3 (0+5) 91 _ rfl vc rfl hcc_ (HI.out.1.at 2 rfl) (by show 0+5<6;decide)) ?_
    have k_:=HI.out.1.put 2 rfl (0+5) vc
    have c_:=(Ch.refl (· = q3) wr).setCell (Or.inl rfl) (0+5) vc
    obtain ⟨z1,hW_⟩:∃U_:World,U_=wr.setCell ⟨q3,0+5,none⟩ vc:=⟨_,rfl⟩
    rw [←hW_] at k_ c_ ⊢
    have G1:Hid (Loc w z1 [(q1,40,(plC (d:Nat) (a:Nat) ln bd)),(q2,91,(obC 0 0 0 false [] (.slice none 0 0))),(q3,91,(obC (d:Nat) (a:Nat) ln bd id vc))]∧yA2 z1 vc bs∧Bz≤z1.heap.size):=⟨k_,sliceK HC.out.2.1 fun b e hb=>c_.block b hb (fun e2=>sub_ne HI.out.2.1 HLEN2.out HC.out.1 (e2▸e) (HI.out.1.at 2 rfl) (by decide)),by rw [HBZ.out];exact c_.size⟩
    clear k_ c_ hW_ hcc_
    refine wpList_nil ?_
    go_upto_region 16 with fail
    refine wp_region_lit ?_
    refine wl rfl _ _ (yA9 ag91 (.tmp 9) rfl q3 (0) rfl ((obC (d:Nat) (a:Nat) ln bd id vc)) rfl (yF0 G1.out.1 2 rfl)) ?_
    simp only [Act.put,aS,aC,aZ]
    refine yA5 eN60 [.tmp 68] _ rfl rfl [(.agg ((obC (d:Nat) (a:Nat) ln bd id vc)).toArray)] rfl ?_
    refine (pieces_any d a ln bd id bs vc z1 HID.out.1 HID.out.2.1 (by have h1:=HC.out.2.2.2.1;have h2:=HNN.out.2;omega) G1.out.2.1 (HM.out.2.later G1.out.1.below)).mono ?_
    rintro e z2 ⟨vp,rfl,ho_,hb_⟩
    refine ⟨_,rfl,?_⟩
    have G2:Hid (Loc w z2 [(q1,40,(plC (d:Nat) (a:Nat) ln bd)),(q2,91,(obC 0 0 0 false [] (.slice none 0 0))),(q3,91,(obC (d:Nat) (a:Nat) ln bd id vc))]∧yA2 z2 vc bs∧AOwn 129 56 z2 w.heap.size vp (pcs id bs)∧Bz≤z2.heap.size):=⟨G1.out.1.later hb_,G1.out.2.1.later hb_,ho_.weaken G1.out.1.below.size,Nat.le_trans G1.out.2.2 hb_.size⟩
    have HPN:Hid ((pcs id bs).length=N):=(by show _=_;rw [pcs_length,HC.out.2.2.2.1,HNN.out.1])
    clear ho_ hb_ G1
    simp only [Act.put,aS,aC,aZ]
    refine wl rfl (.int .i64 (N:Nat)) _ ((by rw [←HPN.out];exact run_lenA el134 G2.out.2.2.1 (.tmp 69) rfl rfl)) ?_
    refine wl rfl _ _ (yA4 (.const (.int .i64 0)) rfl (.int .i64 0) rfl) ?_
    simp only [Act.put,aS,aC,aZ]
    refine wpList_nil ?_
    go_wp2_with fail
    rename World=>wo_
    go_loopw [12,13,71] (fun _ _ vk W => ∃m:Nat,vk = .int .i64 (m:Nat)∧m≤N∧Hid (Loc w W [(q1,40,(plC (d:Nat) (a:Nat) ln bd)),(q2,91,(obC 0 0 0 false [] (.slice none 0 0))),(q3,91,(obC (d:Nat) (a:Nat) ln bd id vc))]∧yA2 W vc bs∧AOwn 129 56 W w.heap.size vp (pcs id bs)∧Bz≤W.heap.size∧∀i,i<m→(found.getD i []).take 56=(pcs id bs).getD i [])) (fun _ _ vk _=>N - (intOf vk).toNat)
    case atStart=>exact ⟨0,rfl,Nat.zero_le _,G2.out.1,G2.out.2.1,G2.out.2.2.1,G2.out.2.2.2,fun i hi=>absurd hi (Nat.not_lt_zero i)⟩
    case round =>
     obtain ⟨m,rfl,hm,HJ⟩:=hrel
     by_cases hlt:m<N
     ·go_upto_region 17 with fail
      refine wp_region_lit ?_
      refine wl rfl _ _ (yB8 (.tmp 71) (.tmp 70) rfl (m:Nat) (N:Nat) rfl rfl true (decide_eq_true (by omega))) ?_
      simp only [Act.put,aS,aC,aZ]
      refine wpList_nil ?_
      have HK:Hid (m<N∧m<found.length∧m<(pcs id bs).length):=⟨hlt,HN.out▸hlt,by rw [HPN.out];exact hlt⟩
      obtain ⟨g2,_,_,hx_,hc_⟩:=HJ.out.2.2.1.ix el134 m HK.out.2.2
      obtain ⟨pk,hpk⟩:∃x,x=(pcs id bs).getD m []:=⟨_,rfl⟩
      rw [←hpk] at hc_
      have HX:Hid ((∀w',(Instr.indexAt 134 vp (.int .i64 (m:Nat))).run Tryd.prog w' = .ok (.pointer (some ⟨g2,m * 56,none⟩)) w')∧(∀j u,(yA0 pk)[j]? = some u→wr.cell? ⟨g2,m * 56+j,none⟩=some u)∧pk=(pcs id bs).getD m []∧pk.length=56):=⟨hx_,hc_ wr HJ.out.2.2.1,hpk,by rw [hpk];exact (HJ.out.2.2.1.1.at m HK.out.2.2).1⟩
      clear hx_ hc_ hpk
      go_upto_region 18 with fail
      refine wp_region_lit ?_
      refine wm 71 (.int .i64 (m:Nat)) ?_
      refine wl rfl _ _ (yD5 (.tmp 69) (.tmp 71) rfl _ _ _ rfl rfl HX.out.1) ?_
      refine wl rfl _ _ (yA9 ag129 (.tmp 74) rfl g2 (m * 56) rfl (yA0 pk) (by rw [yA1];exact HX.out.2.2.2) HX.out.2.1) ?_
      simp only [Act.put,aS,aC,aZ]
      refine wl rfl _ _ (yB6 (yA0 (Zs 56)) zero129 rfl) ?_
      have k_:=HJ.out.1.box 129 (yA0 (Zs 56))
      have hb_:=yB2 wr (.cells (yA0 (Zs 56)).toArray 129)
      obtain ⟨y1,hW_⟩:∃W,W=wr.alloc (.cells (yA0 (Zs 56)).toArray 129):=⟨_,rfl⟩
      obtain ⟨q6,hq_⟩:∃q,q=wr.heap.size:=⟨_,rfl⟩
      rw [←hW_,←hq_] at k_
      rw [←hW_] at hb_
      rw [←hW_,←hq_]
      have J1:Hid (Loc w y1 [(q1,40,(plC (d:Nat) (a:Nat) ln bd)),(q2,91,(obC 0 0 0 false [] (.slice none 0 0))),(q3,91,(obC (d:Nat) (a:Nat) ln bd id vc)),(q6,129,yA0 (Zs 56))]∧yA2 y1 vc bs∧AOwn 129 56 y1 w.heap.size vp (pcs id bs)∧(∀b,vc.ownBlock=some b→b≠q6)∧(∀b,vp.ownBlock=some b→b≠q6)∧Bz≤y1.heap.size):=⟨k_,HJ.out.2.1.later hb_,HJ.out.2.2.1.later hb_,fun b e e2=>(by have:=(HVC.out.2 b e).2;have:=HJ.out.2.2.2.1;omega),fun b e e2=>(by have:=(HJ.out.2.2.1.2.lt b e).2;omega),Nat.le_trans HJ.out.2.2.2.1 hb_.size⟩
      clear k_ hW_ hq_ hb_
      simp only [Act.put,aS,aC,aZ]
      refine wa (.tmp 73) (.int .i64 (m:Nat)) ?_
      simp only [Act.put,aS,aC,aZ]
      refine wlS rfl rfl _ (yB3 ag129 (.tmp 13) (.tmp 75) rfl J1.out.1 3 rfl (0) rfl (yA0 pk) rfl (by rw [yA1];exact HX.out.2.2.2) (by rw [yA1,bz,HX.out.2.2.2];decide) (yB0 _)).1 ?_
      have k_:=J1.out.1.lay 3 rfl (0) (yA0 pk)
      have c_:=(Ch.setRow (S:=(· = q6)) (Ch.refl _ y1) (Or.inl rfl) (splice (yA0 (Zs 56)) 0 (yA0 pk)).toArray)
      rw [yF4 (n:=56) _ HX.out.2.2.2] at k_ c_ ⊢
      obtain ⟨y2,hW_⟩:∃U_:World,U_=y1.setRow q6 (yA0 pk).toArray:=⟨_,rfl⟩
      rw [←hW_] at k_ c_ ⊢
      have J2:Hid (Loc w y2 [(q1,40,(plC (d:Nat) (a:Nat) ln bd)),(q2,91,(obC 0 0 0 false [] (.slice none 0 0))),(q3,91,(obC (d:Nat) (a:Nat) ln bd id vc)),(q6,129,yA0 pk)]∧yA2 y2 vc bs∧AOwn 129 56 y2 w.heap.size vp (pcs id bs)∧Bz≤y2.heap.size):=⟨k_,sliceK J1.out.2.1 fun b e hb=>c_.block b hb (J1.out.2.2.2.1 b e),J1.out.2.2.1.keep c_ (fun b e e2=>J1.out.2.2.2.2.1 b e e2),Nat.le_trans J1.out.2.2.2.2.2 c_.size⟩
      clear k_ c_ hW_ J1
      refine wpList_nil ?_
      obtain ⟨g3,_,_,hx_,hc_⟩:=(HM.out.1.later J2.out.1.below).ix el93 m HK.out.2.1
      obtain ⟨bl,hbl⟩:∃x,x=found.getD m []:=⟨_,rfl⟩
      rw [←hbl] at hc_
      have HY:Hid ((∀w',(Instr.indexAt 93 vf (.int .i64 (m:Nat))).run Tryd.prog w' = .ok (.pointer (some ⟨g3,m * 64,none⟩)) w')∧(∀W':World,AOwn 133 64 W' base vf found→∀j u,(yA0 (bl.take 56))[j]? = some u→W'.cell? ⟨g3,m * 64+0+j,none⟩=some u)∧bl=found.getD m []∧(bl.take 56).length=56):=⟨hx_,fun W' h' j u hu=>(by have:=hc_ W' h' j u (by rw [yH0] at hu;rw [List.getElem?_take] at hu;split at hu;exact hu;cases hu);simpa using this),hbl,by rw [hbl,List.length_take,(HM.out.1.1.at m HK.out.2.1).1];rfl⟩
      clear hx_ hc_ hbl
      obtain ⟨ne,hne⟩:∃b,(!decide (bl.take 56=pk))=b:=⟨_,rfl⟩
      have HNE:Hid ((!decide (bl.take 56=pk))=ne):=hne
      clear hne
      go_upto_region 19 with fail
      refine wp_region_held (S:=fun X=>Loc w X [(q1,40,(plC (d:Nat) (a:Nat) ln bd)),(q2,91,(obC 0 0 0 false [] (.slice none 0 0))),(q3,91,(obC (d:Nat) (a:Nat) ln bd id vc)),(q6,129,yA0 pk)]∧AOwn 133 64 X base vf found) (by kernel_rfl) ?_
      show wpAnyH _ _ _ _ _ 7 (Array.replicate 7 false) _ _
      obtain ⟨X,hX⟩:∃X:World,X = { y2 with drawn:=y2.drawn+1 }:=⟨_,rfl⟩
      rw [←hX]
      have HS_:Loc w X [(q1,40,(plC (d:Nat) (a:Nat) ln bd)),(q2,91,(obC 0 0 0 false [] (.slice none 0 0))),(q3,91,(obC (d:Nat) (a:Nat) ln bd id vc)),(q6,129,yA0 pk)]∧AOwn 133 64 X base vf found:=(by rw [hX];exact ⟨J2.out.1.drew,(HM.out.1.later J2.out.1.below).later ⟨rfl,rfl,rfl,Nat.le_refl _,fun _ _=>rfl⟩⟩)
      have J3:Hid (Loc w X [(q1,40,(plC (d:Nat) (a:Nat) ln bd)),(q2,91,(obC 0 0 0 false [] (.slice none 0 0))),(q3,91,(obC (d:Nat) (a:Nat) ln bd id vc)),(q6,129,yA0 pk)]∧yA2 X vc bs∧AOwn 129 56 X w.heap.size vp (pcs id bs)∧Bz≤X.heap.size):=(by rw [hX];exact ⟨J2.out.1.drew,J2.out.2.1.later ⟨rfl,rfl,rfl,Nat.le_refl _,fun _ _=>rfl⟩,J2.out.2.2.1.later ⟨rfl,rfl,rfl,Nat.le_refl _,fun _ _=>rfl⟩,J2.out.2.2.2⟩)
      clear hX
      refine tH 0 76 rfl rfl (gRun rfl _ fun _ h=>yA4 (.tmp 1) rfl vf rfl) HS_ ?_
      refine tH 1 77 rfl rfl (gRun rfl _ fun _ h=>yA4 (.tmp 12) rfl (.int .i64 (m:Nat)) rfl) HS_ ?_
      refine tH 2 78 rfl rfl (gRun rfl _ fun _ h=>yD5 (.tmp 76) (.tmp 77) rfl _ _ _ rfl rfl HY.out.1) HS_ ?_
      simp only [Act.put,aS,aC,aZ]
      refine tH 3 79 rfl rfl (gRun rfl _ fun _ h=>yA3 f133_0 (.tmp 78) rfl g3 (m * 64) rfl) HS_ ?_
      refine tH 4 80 rfl rfl (gRun rfl _ fun _ h=>yA9 ag129 (.tmp 79) rfl g3 (m * 64+0) rfl (yA0 (bl.take 56)) (by rw [yA1];exact HY.out.2.2.2) (HY.out.2.1 _ h.2)) HS_ ?_
      refine tH 5 81 rfl rfl (gRun rfl _ fun _ h=>yA9 ag129 (.tmp 13) rfl q6 (0) rfl (yA0 pk) (by rw [yA1];exact HX.out.2.2.2) (yF0 h.1 3 rfl)) HS_ ?_
      simp only [Act.put,aS,aC,aZ]
      refine tH 6 82 rfl rfl (gRun rfl _ fun _ h=>run_neArr 129 56 arr129 guard129 (.tmp 80) (.tmp 81) rfl (bl.take 56) pk HY.out.2.2.2 HX.out.2.2.2 rfl rfl ne HNE.out) HS_ ?_
      simp only [Act.put,aS,aC,aZ]
      refine wpAnyH_done (by kernel_rfl) ?_ _
      clear HS_ J2
      cases ne with
      | true =>
       have HNE2:Hid ((found.getD m []).take 56≠(pcs id bs).getD m []):=(by show _≠_;rw [←HY.out.2.2.1,←HX.out.2.2.1];simpa using HNE.out)
       go_upto_region 20 with fail
       refine wp_region_lit ?_
       refine wl rfl _ _ (yJ9 rfl) ?_
       simp only [Act.put,aS,aC,aZ]
       refine wlS rfl rfl _ (yB3 ag91 (.tmp 4) (.tmp 83) rfl J3.out.1 1 rfl (0) rfl (obC 0 0 0 false [] (.slice none 0 0)) rfl rfl (by decide) (yH4 _ _ _ _ _ _ rfl)).1 ?_
       have k_:=J3.out.1.lay 1 rfl (0) (obC 0 0 0 false [] (.slice none 0 0))
       rw [yB5 _ _ rfl] at k_ ⊢
       obtain ⟨y9,hW_⟩:∃U_:World,U_=X.setRow q2 (obC 0 0 0 false [] (.slice none 0 0)).toArray:=⟨_,rfl⟩
       rw [←hW_] at k_ ⊢
       have HZ_:Hid (Row y9 q2 91 (obC 0 0 0 false [] (.slice none 0 0))∧Below w.heap.size w y9):=⟨k_.at 1 rfl,k_.below⟩
       clear k_ hW_
       refine wa (.const (.bool false)) (.bool false) ?_
       simp only [Act.put,aS,aC,aZ]
       refine wpList_nil ?_
       go_wp2_with fail
       exact bodyPost_ret (yC9 ag91 Tryd.results43 _ _ q2 91 rfl (obC 0 0 0 false [] (.slice none 0 0)) rfl HZ_.out.1 (.bool false) rfl) rfl (HNO.out _ HZ_.out.2 (no_piece (by rw [←HX0.out.2.2.1];exact HL9.out) m HK.out.2.1 (by rw [←HC.out.2.2.1];exact HNE2.out)) _ rfl)
      | false =>
       have HTG:Hid ((found.getD m []).take 56=(pcs id bs).getD m []):=(by show _=_;rw [←HY.out.2.2.1,←HX.out.2.2.1];simpa using HNE.out)
       go_upto_region 21 with fail
       refine wp_region_lit ?_
       refine wl rfl (.int .i64 ((m+1:Nat):Int)) _ (yC8 (.tmp 71) (.const (.int .i64 1)) rfl (m:Nat) 1 _ rfl rfl (by omega) (by omega) (by omega)) ?_
       refine wm 84 (.int .i64 ((m+1:Nat):Int)) ?_
       simp only [Act.put,aS,aC,aZ]
       refine wpList_nil ?_
       go_wp2_with fail
       exact ⟨⟨m+1,rfl,by omega,J3.out.1.take 3,J3.out.2.1,J3.out.2.2.1,J3.out.2.2.2,fun i hi=>(by rcases Nat.lt_or_ge i m with q|q;exact HJ.out.2.2.2.2 i q;rw [show i=m by omega];exact HTG.out)⟩,by simp [intOf];omega⟩
     ·go_upto_region 17 with fail
      refine wp_region_lit ?_
      refine wl rfl _ _ (yB8 (.tmp 71) (.tmp 70) rfl (m:Nat) (N:Nat) rfl rfl false (decide_eq_false (by omega))) ?_
      simp only [Act.put,aS,aC,aZ]
      refine wpList_nil ?_
      have HE2:Hid (m=N):=(by show _=_;omega)
      clear hm hlt
      go_upto_region 22 with fail
      refine wp_region_lit ?_
      refine wl rfl _ _ (yA9 ag91 (.tmp 9) rfl q3 (0) rfl ((obC (d:Nat) (a:Nat) ln bd id vc)) rfl (yF0 HJ.out.1 2 rfl)) ?_
      simp only [Act.put,aS,aC,aZ]
      have hcc_:vc.oneCell'=true:=(by obtain ⟨p,n,cc,e⟩:=HVC.out.1;rw [e];rfl)
      refine wlS rfl rfl _ (yB3 ag91 (.tmp 4) (.tmp 85) rfl HJ.out.1 1 rfl (0) rfl (obC (d:Nat) (a:Nat) ln bd id vc) rfl rfl (by show 0+6≤6;decide) (yH4 _ _ _ _ _ _ hcc_)).1 ?_
      have k_:=HJ.out.1.lay 1 rfl (0) (obC (d:Nat) (a:Nat) ln bd id vc)
      rw [yB5 (obC 0 0 0 false [] (.slice none 0 0)) (obC (d:Nat) (a:Nat) ln bd id vc) rfl] at k_ ⊢
      have c_:=(Ch.setRow (S:=(· = q2)) (Ch.refl _ wr) (Or.inl rfl) (obC (d:Nat) (a:Nat) ln bd id vc).toArray)
      obtain ⟨z9,hW_⟩:∃U_:World,U_=wr.setRow q2 (obC (d:Nat) (a:Nat) ln bd id vc).toArray:=⟨_,rfl⟩
      rw [←hW_] at k_ c_ ⊢
      have HZ_:Hid (Row z9 q2 91 (obC (d:Nat) (a:Nat) ln bd id vc)∧Below w.heap.size w z9∧yA2 z9 vc bs):=⟨k_.at 1 rfl,k_.below,sliceK HJ.out.2.1 fun b e hb=>c_.block b hb (fun e2=>sub_ne HI.out.2.1 HLEN2.out HC.out.1 (e2▸e) (HI.out.1.at 1 rfl) (by decide))⟩
      clear k_ c_ hW_ hcc_
      refine wa (.const (.bool true)) (.bool true) ?_
      simp only [Act.put,aS,aC,aZ]
      refine wpList_nil ?_
      go_wp2_with fail
      refine bodyPost_ret (yC9 ag91 Tryd.results43 _ _ q2 91 rfl (obC (d:Nat) (a:Nat) ln bd id vc) rfl HZ_.out.1 (.bool true) rfl) rfl ?_
      rw [HPQ.out]
      refine ⟨Or.inl ⟨id,bs,vc,rfl,⟨obj_of (by rw [←HN.out,HC.out.2.2.2.1];exact HNN.out.1) (fun i hi=>HI.out.2.2 i (by rw [HE.out.2];exact hi)) (fun i hi=>HJ.out.2.2.2.2 i (by rw [HE2.out,HN.out];exact hi)),HID.out.2.2,(by rw [HC.out.2.2.2.1];exact HNN.out.2),HC.out.2.2.2.2⟩,HZ_.out.2.2,fun b e=>(HVC.out.2 b e).1⟩,HZ_.out.2.1⟩
end Go.Proofs.YtpkkkkomdblpoaaDoor

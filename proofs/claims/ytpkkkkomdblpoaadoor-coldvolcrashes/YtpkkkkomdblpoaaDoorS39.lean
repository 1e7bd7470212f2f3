/- Layer 15: the law of crashes. -/
import Derived.Test.YtpkkkkomdblpoaaDoorS38
import Derived.Deep.CutBlock
namespace Go.Proofs.YtpkkkkomdblpoaaDoor
open Go.RowKit Go.Maps
open Cold
def frC (n tn:Nat):Nat:=if tn=0 then 0 else if tn=1 then n / 2 else n
theorem frC_le (n tn:Nat):frC n tn≤frC n (tn+1)∧frC n (tn+1)≤n:=by
 unfold frC
 rcases tn with _|_|tn
 ·simp;omega
 ·simp;omega
 ·simp
set_option maxHeartbeats 40000000 in
set_option maxRecDepth 2000000 in
theorem coldvolCrashes_any (w:World) (he:Env w) (h3:3≤w.heap.size) (mi:Int) (hmi:I64 mi) (vl k0 k1:Value) (us:List OpD) (hl:OpsIn w vl us) (hbl:∀o∈us,o.b.length≤140737488355328) (hul:16 * us.length+1000<35184372088831) (ks0 ks1:List Int) (hk0:IntsIn w k0 ks0) (hk1:IntsIn w k1 ks1):Calls Tryd.prog 4 #[.int .i64 mi,vl,.agg #[k0,k1]] w fun e w'=>e = .returned (.bool true)∧Below w.heap.size w w':=by
 have HM:Hid (Env w∧3≤w.heap.size∧OpsIn w vl us∧(∀o∈us,o.b.length≤140737488355328)∧I64 mi∧IntsIn w k0 ks0∧IntsIn w k1 ks1):=⟨he,h3,hl,hbl,hmi,hk0,hk1⟩
 have hone:k0.oneCell'=true∧k1.oneCell'=true:=(by obtain ⟨_,_,e0,_⟩:=hk0;obtain ⟨_,_,e1,_⟩:=hk1;subst e0;subst e1;exact ⟨rfl,rfl⟩)
 clear he h3 hl hbl hmi hk0 hk1
 obtain ⟨PQ,HPQ⟩:=exPQ fun (e:Ending) (w':World)=>e = .returned (.bool true)∧Below w.heap.size w w'
 rw [←HPQ.out]
 go_enter Tryd.func4,Tryd.ntmps4
 go_upto_region 0 with fail
 refine wp_region_lit ?_
 refine wl rfl (ptr w.heap.size) _ (yG2 (.tmp 2) rfl ([k0,k1]) rfl) ?_
 have hb_:=yB2 w (.cells ([k0,k1]).toArray 61)
 have r_:=Row.new w 61 ([k0,k1])
 obtain ⟨W0,hW_⟩:∃U_:World,U_=w.alloc (.cells ([k0,k1]).toArray 61):=⟨_,rfl⟩
 obtain ⟨q5,hq_⟩:∃q,q=w.heap.size:=⟨_,rfl⟩
 rw [←hW_] at hb_
 rw [←hW_,←hq_] at r_
 rw [←hW_,←hq_]
 have H0:Hid (Row W0 q5 61 [k0,k1]∧Below w.heap.size w W0∧w.heap.size≤q5):=⟨r_,hb_,Nat.le_of_eq hq_.symm⟩
 clear r_ hb_ hW_ hq_
 simp only [Act.put,aS,aC,aZ]
 refine wa (.const (.bool false)) (.bool false) ?_
 simp only [Act.put,aS,aC,aZ]
 refine wpList_nil ?_
 go_upto_region 1 with fail
 refine wp_region_lit ?_
 refine yA5 eN8 [] _ rfl rfl [] rfl ?_
 refine (shown_any W0 (HM.out.1.later H0.out.2.1) (Nat.le_trans HM.out.2.1 H0.out.2.1.size)).mono ?_
 rintro e W1 ⟨rfl,hb_⟩
 refine ⟨_,rfl,?_⟩
 have H1:Hid (Row W1 q5 61 [k0,k1]∧Below w.heap.size w W1∧w.heap.size≤q5):=⟨H0.out.1.later hb_ H0.out.1.lt,H0.out.2.1.trans (hb_.mono H0.out.2.1.size),H0.out.2.2⟩
 clear hb_ H0
 simp only [Act.put,aS,aC,aZ]
 refine wa (.tmp 31) (.bool true) ?_
 simp only [Act.put,aS,aC,aZ]
 refine wpList_nil ?_
 rename_i K9 hK9
 refine hK9 _ _ ?_
 refine wp_seq_k fun KA hKA => ?_
 go_cut [0] from 32 to 37 (fun v0 W => ∃most:Nat,v0 = .int .i64 (most:Nat)∧1≤most∧most≤300∧W1=W)
 case first =>
  have hmi2:=HM.out.2.2.2.2.1
  unfold I64 at hmi2
  by_cases ha:mi<1
  ·go_upto_region 2 with fail
   refine wp_region_lit ?_
   refine wm 0 (.int .i64 mi) ?_
   simp only [Act.put,aS,aC,aZ]
   refine wl rfl (.bool true) _ (yB8 (.tmp 32) (.const (.int .i64 1)) rfl mi 1 rfl rfl true (decide_eq_true (by omega))) ?_
   simp only [Act.put,aS,aC,aZ]
   refine wm 33 (.bool true) ?_
   simp only [Act.put,aS,aC,aZ]
   with_reducible refine wpList_skip (by kernel_rfl) ?_
   simp only [Act.put,aS,aC,aZ]
   with_reducible refine wpList_skip (by kernel_rfl) ?_
   simp only [Act.put,aS,aC,aZ]
   refine wl rfl (.bool true) _ (yA6 (.tmp 34) (.const (.bool true)) (.tmp 36) rfl true (.bool true) rfl rfl) ?_
   simp only [Act.put,aS,aC,aZ]
   refine wpList_nil ?_
   go_upto_region 3 with fail
   refine wp_region_lit ?_
   refine wa (.const (.int .i64 120)) (.int .i64 120) ?_
   simp only [Act.put,aS,aZ]
   refine wpList_nil ?_
   go_wp2_with fail
   go_meet
   case rel=>exact ⟨120,rfl,by decide,by decide,rfl⟩
  ·by_cases hb:mi > 300
   ·go_upto_region 2 with fail
    refine wp_region_lit ?_
    refine wm 0 (.int .i64 mi) ?_
    simp only [Act.put,aS,aC,aZ]
    refine wl rfl (.bool false) _ (yB8 (.tmp 32) (.const (.int .i64 1)) rfl mi 1 rfl rfl false (decide_eq_false (by omega))) ?_
    simp only [Act.put,aS,aC,aZ]
    refine wm 33 (.bool false) ?_
    simp only [Act.put,aS,aC,aZ]
    refine wl (by kernel_rfl) (.int .i64 mi) _ (yA4 (.tmp 0) rfl (.int .i64 mi) rfl) ?_
    simp only [Act.put,aS,aC,aZ]
    refine wl (by kernel_rfl) (.bool true) _ (yH6 (.tmp 35) (.const (.int .i64 300)) rfl mi 300 rfl rfl true (decide_eq_true (by omega))) ?_
    simp only [Act.put,aS,aC,aZ]
    refine wl rfl (.bool true) _ (yA6 (.tmp 34) (.const (.bool true)) (.tmp 36) rfl false (.bool true) rfl rfl) ?_
    simp only [Act.put,aS,aC,aZ]
    refine wpList_nil ?_
    go_upto_region 3 with fail
    refine wp_region_lit ?_
    refine wa (.const (.int .i64 120)) (.int .i64 120) ?_
    simp only [Act.put,aS,aZ]
    refine wpList_nil ?_
    go_wp2_with fail
    go_meet
    case rel=>exact ⟨120,rfl,by decide,by decide,rfl⟩
   ·go_upto_region 2 with fail
    refine wp_region_lit ?_
    refine wm 0 (.int .i64 mi) ?_
    simp only [Act.put,aS,aC,aZ]
    refine wl rfl (.bool false) _ (yB8 (.tmp 32) (.const (.int .i64 1)) rfl mi 1 rfl rfl false (decide_eq_false (by omega))) ?_
    simp only [Act.put,aS,aC,aZ]
    refine wm 33 (.bool false) ?_
    simp only [Act.put,aS,aC,aZ]
    refine wl (by kernel_rfl) (.int .i64 mi) _ (yA4 (.tmp 0) rfl (.int .i64 mi) rfl) ?_
    simp only [Act.put,aS,aC,aZ]
    refine wl (by kernel_rfl) (.bool false) _ (yH6 (.tmp 35) (.const (.int .i64 300)) rfl mi 300 rfl rfl false (decide_eq_false (by omega))) ?_
    simp only [Act.put,aS,aC,aZ]
    refine wl rfl (.bool false) _ (yA6 (.tmp 34) (.const (.bool true)) (.tmp 36) rfl false (.bool false) rfl rfl) ?_
    simp only [Act.put,aS,aC,aZ]
    refine wpList_nil ?_
    go_wp2_with fail
    go_meet
    case rel=>exact ⟨mi.toNat,by rw [Int.toNat_of_nonneg (by omega)],by omega,by omega,rfl⟩
 case rest =>
  as_aux_lemma =>
   obtain ⟨most,rfl,hm1,hm2,rfl⟩:=hcut
   go_upto_region 4 with fail
   refine wp_region_lit ?_
   refine wm 0 (.int .i64 ((most:Nat):Int)) ?_
   simp only [Act.put,aS,aC,aZ]
   refine wl rfl (whole W1.heap.size 1) _ (run_ints1 (.tmp 39) rfl ((most:Nat):Int) rfl) ?_
   have hb_:=yB2 W1 (.cells ([((most:Nat):Int)].map (Value.int .i64)).toArray 3)
   have r_:=Row.new W1 3 ([((most:Nat):Int)].map (Value.int .i64))
   obtain ⟨W2,hW_⟩:∃U_:World,U_=W1.alloc (.cells ([((most:Nat):Int)].map (Value.int .i64)).toArray 3):=⟨_,rfl⟩
   obtain ⟨ql,hq_⟩:∃q,q=W1.heap.size:=⟨_,rfl⟩
   rw [←hW_] at hb_
   rw [←hW_,←hq_] at r_
   rw [←hW_,←hq_]
   have H2:Hid (IntsIn W2 (whole ql 1) [((most:Nat):Int)]∧Row W2 q5 61 [k0,k1]∧Below w.heap.size w W2∧w.heap.size≤q5):=⟨ints_row (l:=[((most:Nat):Int)]) r_ (by simp),H1.out.1.later hb_ H1.out.1.lt,H1.out.2.1.trans (hb_.mono H1.out.2.1.size),H1.out.2.2⟩
   clear r_ hb_ hW_ hq_ H1
   simp only [Act.put,aS,aC,aZ]
   refine wl rfl (.agg #[.slice none 0 0,whole ql 1]) _ (run_build30t (.tmp 40) rfl ql 1 rfl) ?_
   simp only [Act.put,aS,aC,aZ]
   refine yA5 eN9 [.tmp 41] _ rfl rfl [(.agg #[.slice none 0 0,whole ql 1])] rfl ?_
   refine (Live.new W2 (fun _=>(0,0)) 2 _ _ [] [((most:Nat):Int)] (ints_nil W2) H2.out.1 (shape1_ok hm1 hm2) rfl).mono ?_
   rintro e W3 ⟨gp,c1,rfl,hgp_,hcc_,hc2_,hl_,hb_⟩
   refine ⟨_,rfl,?_⟩
   have H3:Hid (Live W3 c1 2 gp (newPl [] [((most:Nat):Int)])∧Below w.heap.size w W3∧(∀b,b<w.heap.size→(c1 b).1≠2)∧Row W3 q5 61 [k0,k1]∧w.heap.size≤q5∧(c1 q5).1≠2):=⟨hl_,H2.out.2.2.1.trans (hb_.mono H2.out.2.2.1.size),fun b hb=>by rw [hcc_ b (Nat.lt_of_lt_of_le hb H2.out.2.2.1.size)];decide,H2.out.2.1.later hb_ H2.out.2.1.lt,H2.out.2.2.2,by rw [hcc_ q5 H2.out.2.1.lt];decide⟩
   clear hl_ hb_ hcc_ hgp_ hc2_ H2
   simp only [Act.put,aS,aC,aZ]
   refine wm 42 (.tuple #[(ptr gp),(.int .i64 0)]) ?_
   simp only [Act.put,aS,aC,aZ]
   refine wl rfl (ptr gp) _ (yA8 (.tmp 38) 0 rfl #[(ptr gp),(.int .i64 0)] rfl (ptr gp) rfl) ?_
   simp only [Act.put,aS,aC,aZ]
   refine wl rfl (.int .i64 0) _ (yA8 (.tmp 38) 1 rfl #[(ptr gp),(.int .i64 0)] rfl (.int .i64 0) rfl) ?_
   simp only [Act.put,aS,aC,aZ]
   refine wa (.tmp 43) (ptr gp) ?_
   simp only [Act.put,aS,aC,aZ]
   refine wa (.tmp 44) (.int .i64 0) ?_
   simp only [Act.put,aS,aC,aZ]
   refine wpList_nil ?_
   go_upto_region 5 with fail
   refine wp_region_lit ?_
   refine wm 7 (.bool true) ?_
   simp only [Act.put,aS,aC,aZ]
   refine wl rfl (.bool false) _ (yH3 (.tmp 45) 4 rfl true rfl) ?_
   simp only [Act.put,aS,aC,aZ]
   refine wm 46 (.bool false) ?_
   simp only [Act.put,aS,aC,aZ]
   refine wl (by kernel_rfl) (ptr gp) _ (yA4 (.tmp 8) rfl (ptr gp) rfl) ?_
   simp only [Act.put,aS,aC,aZ]
   refine wl (by kernel_rfl) (.bool false) _ (run_binOp' (.tmp 48) (.const (.pointer none)) rfl _ _ _ rfl rfl rfl (by kernel_rfl)) ?_
   simp only [Act.put,aS,aC,aZ]
   refine wl rfl (.bool false) _ (yA6 (.tmp 47) (.const (.bool true)) (.tmp 49) rfl false (.bool false) rfl rfl) ?_
   simp only [Act.put,aS,aC,aZ]
   refine wm 50 (.bool false) ?_
   simp only [Act.put,aS,aC,aZ]
   refine wl (by kernel_rfl) (.int .i64 0) _ (yA4 (.tmp 9) rfl (.int .i64 0) rfl) ?_
   simp only [Act.put,aS,aC,aZ]
   refine wl (by kernel_rfl) (.bool false) _ (yD1 (.tmp 52) (.const (.int .i64 0)) rfl 0 0 rfl rfl false rfl) ?_
   simp only [Act.put,aS,aC,aZ]
   refine wl rfl (.bool false) _ (yA6 (.tmp 51) (.const (.bool true)) (.tmp 53) rfl false (.bool false) rfl rfl) ?_
   simp only [Act.put,aS,aC,aZ]
   refine wpList_nil ?_
   go_upto_region 7 with fail
   refine wp_region_lit ?_
   refine wl rfl (.slice (some ⟨W3.heap.size,0,none⟩) 0 0) _ (run_lit35 rfl) ?_
   have hb_:=yB2 W3 (.cells #[] 48)
   have o_:=COwn.new W3 w.heap.size H3.out.2.1.size
   have hlt_:W3.heap.size<(W3.alloc (.cells #[] 48)).heap.size:=(Row.new W3 48 []).lt
   obtain ⟨W4,hW_⟩:∃U_:World,U_=W3.alloc (.cells #[] 48):=⟨_,rfl⟩
   obtain ⟨vT,hv_⟩:∃v:Value,v = .slice (some ⟨W3.heap.size,0,none⟩) 0 0:=⟨_,rfl⟩
   rw [←hW_] at hb_ o_ hlt_ ⊢
   rw [←hv_] at o_ ⊢
   have h3_:3≤w.heap.size:=HM.out.2.1
   have HJ:Hid ((Jo w W4 c1 gp most (newPl [] [((most:Nat):Int)]) [] vT q5 [k0,k1] (16 * frC us.length 0))∧Cr (ctn (newPl [] [((most:Nat):Int)]) 0) ((newPl [] [((most:Nat):Int)]).fl 0) (fun _ _=>False) []∧([]:List Td).length≤2048 * 0):=⟨⟨H3.out.1.below hb_,HM.out.1.later (H3.out.2.1.trans (hb_.mono H3.out.2.1.size)),⟨by have:=H3.out.2.1.size;omega,H3.out.2.2.1 0 (by omega),H3.out.2.2.1 1 (by omega),H3.out.2.2.1 2 (by omega)⟩,H3.out.2.1.trans (hb_.mono H3.out.2.1.size),H3.out.2.2.1,⟨W3.heap.size+1,fun b e=>(by rw [hv_] at e;have e2:W3.heap.size=b:=Option.some.inj e;subst e2;exact ⟨hlt_,by omega,H3.out.1.2.2 _ (Nat.le_refl _),by have:=H3.out.2.1.size;omega⟩),[],o_,rfl,fun k hk=>absurd hk (Nat.not_lt_zero _)⟩,H3.out.2.2.2.1.later hb_ H3.out.2.2.2.1.lt,⟨H3.out.2.2.2.2.2,by have:=H3.out.2.2.2.2.1;omega⟩,H3.out.2.2.2.2.1,shape1_of,Nat.zero_le _⟩,Cr.new,Nat.zero_le _⟩
   clear hb_ o_ hlt_ hW_ hv_ h3_ H3
   simp only [Act.put,aS,aC,aZ]
   refine wa (.tmp 55) vT ?_
   simp only [Act.put,aS,aC,aZ]
   refine wpList_nil ?_
   have hlen_:=HM.out.2.2.1.few
   obtain ⟨half,hhalf_⟩:∃z,z=us.length / 2:=⟨_,rfl⟩
   have HHF:Hid (half=us.length / 2):=hhalf_
   clear hhalf_
   go_upto_region 8 with fail
   refine wp_region_lit ?_
   refine wm 1 vl ?_
   simp only [Act.put,aS,aC,aZ]
   refine wl rfl (.int .i64 (us.length:Nat)) _ (run_lenOp HM.out.2.2.1 (.tmp 56) rfl rfl) ?_
   simp only [Act.put,aS,aC,aZ]
   refine wl rfl (.int .i64 ((half:Nat):Int)) _ ((by rw [HHF.out];exact run_quo2 (.tmp 57) rfl us.length hlen_ rfl)) ?_
   simp only [Act.put,aS,aC,aZ]
   refine wa (.tmp 58) (.int .i64 ((half:Nat):Int)) ?_
   simp only [Act.put,aS,aC,aZ]
   refine wpList_nil ?_
   go_upto_region 9 with fail
   refine wp_region_lit ?_
   refine wa (.const (.int .i64 0)) (.int .i64 0) ?_
   simp only [Act.put,aS,aC,aZ]
   refine wpList_nil ?_
   clear hm1 hm2
   go_wp2_with fail
   go_loopw [10,12,13,14,15,16,17,18,19,20,21,22,23,24,25,26,27,28,29,30] (fun v10 v12 _ _ _ _ _ _ _ _ _ _ _ _ _ _ _ _ _ _ W => ∃tn:Nat,v12 = .int .i64 (tn:Nat)∧tn≤2∧∃(c:Nat→Colour) (m:Pl) (T:List Td) (P:Nat→Ob→Prop),Hid ((Jo w W c gp most m T v10 q5 [k0,k1] (16 * frC us.length tn))∧Cr (ctn m 0) (m.fl 0) P T∧T.length≤2048 * tn)) (fun _ v12 _ _ _ _ _ _ _ _ _ _ _ _ _ _ _ _ _ _ _=>2 - (intOf v12).toNat)
   case atStart=>exact ⟨0,rfl,by decide,c1,_,[],_,HJ.out⟩
   case round =>
    obtain ⟨tn,rfl,htn,c0,m0,T0,P0,HI⟩:=hrel
    obtain ⟨W5,hW5⟩:∃X,X=wr:=⟨_,rfl⟩
    subst hW5
    have HJ1:Hid ((Jo w W5 c0 gp most m0 T0 u10 q5 [k0,k1] (16 * frC us.length tn))∧Cr (ctn m0 0) (m0.fl 0) P0 T0∧T0.length≤2048 * tn):=HI.out
    have hT0:=HJ1.out.2.2
    clear HI HJ
    have hfr:=frC_le us.length tn
    by_cases htl:tn<2
    ·as_aux_lemma =>
      go_upto_region 10 with fail
      refine wp_region_lit ?_
      refine wm 12 (.int .i64 (tn:Nat)) ?_
      simp only [Act.put,aS,aC,aZ]
      refine wl rfl (.bool true) _ (yB8 (.tmp 59) (.const (.int .i64 2)) rfl (tn:Nat) 2 rfl rfl true (decide_eq_true (by omega))) ?_
      simp only [Act.put,aS,aC,aZ]
      refine wpList_nil ?_
      go_upto_region 12 with fail
      refine wp_region_lit ?_
      refine wm 8 (ptr gp) ?_
      simp only [Act.put,aS,aC,aZ]
      refine yA5 eN10 [.tmp 64,.const (.int .i64 0)] _ rfl rfl [(ptr gp),(.int .i64 0)] rfl ?_
      refine (HJ1.out.1.opens).mono ?_
      rintro e W6 ⟨gv,rfl,hj_⟩
      refine ⟨_,rfl,?_⟩
      have H6:Hid ((Jm w W6 c0 gp gv most m0 T0 u10 q5 [k0,k1] (16 * frC us.length tn))∧Cr (ctn m0 0) (m0.fl 0) P0 T0):=⟨hj_,HJ1.out.2.1⟩
      clear hj_ HJ1
      simp only [Act.put,aS,aC,aZ]
      refine wm 65 (.tuple #[(ptr gv),(.int .i64 0)]) ?_
      simp only [Act.put,aS,aC,aZ]
      refine wl rfl (ptr gv) _ (yA8 (.tmp 63) 0 rfl #[(ptr gv),(.int .i64 0)] rfl (ptr gv) rfl) ?_
      simp only [Act.put,aS,aC,aZ]
      refine wl rfl (.int .i64 0) _ (yA8 (.tmp 63) 1 rfl #[(ptr gv),(.int .i64 0)] rfl (.int .i64 0) rfl) ?_
      simp only [Act.put,aS,aC,aZ]
      refine wa (.tmp 66) (ptr gv) ?_
      simp only [Act.put,aS,aC,aZ]
      refine wa (.tmp 67) (.int .i64 0) ?_
      simp only [Act.put,aS,aC,aZ]
      refine wpList_nil ?_
      go_upto_region 13 with fail
      refine wp_region_lit ?_
      refine wm 13 (ptr gv) ?_
      simp only [Act.put,aS,aC,aZ]
      refine wl rfl (.bool false) _ (run_binOp' (.tmp 68) (.const (.pointer none)) rfl _ _ _ rfl rfl rfl (by kernel_rfl)) ?_
      simp only [Act.put,aS,aC,aZ]
      refine wm 69 (.bool false) ?_
      simp only [Act.put,aS,aC,aZ]
      refine wl (by kernel_rfl) (.int .i64 0) _ (yA4 (.tmp 14) rfl (.int .i64 0) rfl) ?_
      simp only [Act.put,aS,aC,aZ]
      refine wl (by kernel_rfl) (.bool false) _ (yD1 (.tmp 71) (.const (.int .i64 0)) rfl 0 0 rfl rfl false rfl) ?_
      simp only [Act.put,aS,aC,aZ]
      refine wl rfl (.bool false) _ (yA6 (.tmp 70) (.const (.bool true)) (.tmp 72) rfl false (.bool false) rfl rfl) ?_
      simp only [Act.put,aS,aC,aZ]
      refine wpList_nil ?_
      go_upto_region 15 with fail
      refine wp_region_lit ?_
      refine wm 11 (.int .i64 ((half:Nat):Int)) ?_
      simp only [Act.put,aS,aC,aZ]
      refine wa (.const (.int .i64 0)) (.int .i64 0) ?_
      simp only [Act.put,aS,aC,aZ]
      refine wa (.tmp 74) (.int .i64 ((half:Nat):Int)) ?_
      simp only [Act.put,aS,aC,aZ]
      refine wpList_nil ?_
      rename_i K8 hK8
      refine hK8 _ _ ?_
      refine wp_seq_k fun KB hKB => ?_
      go_cut [15,16] from 59 to 82 (fun v15 v16 W=>v15 = .int .i64 ((frC us.length tn:Nat):Int)∧v16 = .int .i64 ((frC us.length (tn+1):Nat):Int)∧W6=W)
      case first =>
       by_cases h01:tn=1
       ·go_upto_region 16 with fail
        refine wp_region_lit ?_
        refine wm 12 (.int .i64 (tn:Nat)) ?_
        simp only [Act.put,aS,aC,aZ]
        refine wl rfl (.bool true) _ (yC6 (.tmp 75) (.const (.int .i64 1)) rfl (tn:Nat) 1 rfl rfl true (decide_eq_true (by omega))) ?_
        simp only [Act.put,aS,aC,aZ]
        refine wpList_nil ?_
        go_upto_region 17 with fail
        refine wp_region_lit ?_
        refine wm 11 (.int .i64 ((half:Nat):Int)) ?_
        simp only [Act.put,aS,aC,aZ]
        refine wm 1 vl ?_
        simp only [Act.put,aS,aC,aZ]
        refine wl rfl (.int .i64 (us.length:Nat)) _ (run_lenOp HM.out.2.2.1 (.tmp 78) rfl rfl) ?_
        simp only [Act.put,aS,aC,aZ]
        refine wa (.tmp 77) (.int .i64 ((half:Nat):Int)) ?_
        simp only [Act.put,aS,aC,aZ]
        refine wa (.tmp 79) (.int .i64 (us.length:Nat)) ?_
        simp only [Act.put,aS,aC,aZ]
        refine wpList_nil ?_
        go_wp2_with fail
        go_meet
        case rel=>exact ⟨by rw [h01,HHF.out];rfl,by rw [h01];rfl,rfl⟩
       ·go_upto_region 16 with fail
        refine wp_region_lit ?_
        refine wm 12 (.int .i64 (tn:Nat)) ?_
        simp only [Act.put,aS,aC,aZ]
        refine wl rfl (.bool false) _ (yC6 (.tmp 75) (.const (.int .i64 1)) rfl (tn:Nat) 1 rfl rfl false (decide_eq_false (by omega))) ?_
        simp only [Act.put,aS,aC,aZ]
        refine wpList_nil ?_
        go_wp2_with fail
        go_meet
        case rel=>exact (by obtain rfl:tn=0:=(by omega);exact ⟨rfl,by rw [HHF.out];rfl,rfl⟩)
      case rest =>
       as_aux_lemma =>
        obtain ⟨rfl,rfl,rfl⟩:=hcut
        obtain ⟨fr,hfre⟩:∃z,z=frC us.length tn:=⟨_,rfl⟩
        obtain ⟨tz,htoe⟩:∃z,z=frC us.length (tn+1):=⟨_,rfl⟩
        rw [←hfre,←htoe] at hfr
        have hto2:Hid (tz=frC us.length (tn+1)):=htoe
        rw [←hfre,←htoe]
        have H7:Hid ((Jm w W6 c0 gp gv most m0 T0 u10 q5 [k0,k1] (16 * fr))∧Cr (ctn m0 0) (m0.fl 0) P0 T0):=(by rw [hfre];exact H6.out)
        clear hfre htoe H6
        go_upto_region 18 with fail
        refine wp_region_lit ?_
        refine wm 10 u10 ?_
        simp only [Act.put,aS,aC,aZ]
        refine wl rfl (.int .i64 (T0.length:Nat)) _ (run_lenT H7.out.1.t (.tmp 80) rfl rfl) ?_
        simp only [Act.put,aS,aC,aZ]
        refine wa (.tmp 81) (.int .i64 (T0.length:Nat)) ?_
        simp only [Act.put,aS,aC,aZ]
        refine wpList_nil ?_
        go_upto_region 19 with fail
        refine wp_region_lit ?_
        refine wm 15 (.int .i64 ((fr:Nat):Int)) ?_
        simp only [Act.put,aS,aC,aZ]
        refine wa (.tmp 82) (.int .i64 ((fr:Nat):Int)) ?_
        simp only [Act.put,aS,aC,aZ]
        refine wpList_nil ?_
        have H7b:Hid (m0.on=true→Fresh (ctn m0 0) T0 T0.length):=fun _ j a b=>absurd b (by omega)
        go_wp2_with fail
        go_loopw [10,18,19,20,21,22,23] (fun v10 v18 _ _ _ _ _ W => ∃i:Nat,v18 = .int .i64 (i:Nat)∧i≤tz∧∃(c:Nat→Colour) (m:Pl) (T:List Td) (P:Nat→Ob→Prop),Hid ((Jm w W c gp gv most m T v10 q5 [k0,k1] (16 * i))∧Cr (ctn m 0) (m.fl 0) P T∧(m.on=true→Fresh (ctn m 0) T T0.length)∧(T0.length≤T.length∧2 * T.length≤2 * T0.length+(ctn m 0).length))) (fun _ v18 _ _ _ _ _ _=>tz - (intOf v18).toNat)
        case atStart=>exact ⟨fr,rfl,hfr.1,c0,m0,T0,P0,H7.out.1,H7.out.2,H7b.out,Nat.le_refl _,by omega⟩
        case round =>
         obtain ⟨i,rfl,hit,c2,m2,T,P,HI⟩:=hrel
         obtain ⟨W8,hW8⟩:∃X,X=wr:=⟨_,rfl⟩
         subst hW8
         have HA:Hid ((Jm w W8 c2 gp gv most m2 T u10 q5 [k0,k1] (16 * i))∧Cr (ctn m2 0) (m2.fl 0) P T∧(m2.on=true→Fresh (ctn m2 0) T T0.length)∧(T0.length≤T.length∧2 * T.length≤2 * T0.length+(ctn m2 0).length)):=HI.out
         have HTL:T.length≤999999:=(by have:=HA.out.2.2.2.2;have:=HA.out.1.len.1;omega)
         have hTB:T.length≤2048 * (tn+1):=(by have:=HA.out.2.2.2.2;have:=HA.out.1.len.1;omega)
         clear HI H7 H7b
         by_cases hgo:i<tz∧m2.on=true
         ·as_aux_lemma =>
           go_upto_region 20 with fail
           refine wp_region_lit ?_
           refine wm 18 (.int .i64 (i:Nat)) ?_
           simp only [Act.put,aS,aC,aZ]
           refine wm 16 (.int .i64 ((tz:Nat):Int)) ?_
           simp only [Act.put,aS,aC,aZ]
           refine wl rfl (.bool true) _ (yB8 (.tmp 83) (.tmp 84) rfl (i:Nat) (tz:Nat) rfl rfl true (decide_eq_true (by omega))) ?_
           simp only [Act.put,aS,aC,aZ]
           refine wm 85 (.bool true) ?_
           simp only [Act.put,aS,aC,aZ]
           refine wl (by kernel_rfl) (ptr gp) _ (yA4 (.tmp 8) rfl (ptr gp) rfl) ?_
           simp only [Act.put,aS,aC,aZ]
           refine yA5 eN26 [.tmp 87] _ (by kernel_rfl) rfl [(ptr gp)] rfl ?_
           refine (HA.out.1.live.isOn).mono ?_
           rintro e W8 ⟨rfl,rfl⟩
           rw [hgo.2]
           refine ⟨_,rfl,?_⟩
           simp only [Act.put,aS,aC,aZ]
           refine wl rfl (.bool true) _ (yA6 (.tmp 86) (.tmp 88) (.const (.bool false)) rfl true (.bool true) rfl rfl) ?_
           simp only [Act.put,aS,aC,aZ]
           refine wpList_nil ?_
           have hiu:i<us.length:=(by omega)
           obtain ⟨ab,aj,hx_,ho_,hc_⟩:=ix_op HM.out.2.2.1 i hiu
           have hol_:=HM.out.2.2.2.1 (us.getD i default) (by rw [List.getD_eq_getElem?_getD,List.getElem?_eq_getElem hiu];exact List.getElem_mem hiu)
           obtain ⟨o,hoe⟩:∃o,o=us.getD i default:=⟨_,rfl⟩
           rw [←hoe] at ho_ hc_ hol_
           have HXA:Hid ((∀w',(Instr.indexAt 22 vl (.int .i64 (i:Nat))).run Tryd.prog w' = .ok (.pointer (some ⟨ab,aj,none⟩)) w')∧(∀W,Below w.heap.size w W→∀(j:Nat) u,o.cells[j]? = some u→W.cell? ⟨ab,aj+j,none⟩=some u)):=⟨hx_,hc_⟩
           have HO:Hid (OpIn w o∧o.b.length≤140737488355328):=⟨ho_,hol_⟩
           clear hx_ hc_ ho_ hol_ hoe hiu
           go_upto_region 22 with fail
           refine wp_region_lit ?_
           refine wm 1 vl ?_
           simp only [Act.put,aS,aC,aZ]
           refine wm 18 (.int .i64 (i:Nat)) ?_
           simp only [Act.put,aS,aC,aZ]
           refine wl rfl (.pointer (some ⟨ab,aj,none⟩)) _ (yD5 (.tmp 92) (.tmp 93) rfl _ _ _ rfl rfl HXA.out.1) ?_
           simp only [Act.put,aS,aC,aZ]
           refine wl rfl (.agg (o.cells).toArray) _ (yA9 ag42 (.tmp 94) rfl ab (aj) rfl (o.cells) rfl (HXA.out.2 _ HA.out.1.f.bel)) ?_
           simp only [Act.put,aS,aC,aZ]
           refine wl rfl (ptr W8.heap.size) _ (yB6 ((default:OpD).cells) zero42 rfl) ?_
           have hb_:=yB2 W8 (.cells ((default:OpD).cells).toArray 42)
           have r_:=Row.new W8 42 ((default:OpD).cells)
           obtain ⟨W9,hW_⟩:∃U_:World,U_=W8.alloc (.cells ((default:OpD).cells).toArray 42):=⟨_,rfl⟩
           obtain ⟨q19,hq_⟩:∃q,q=W8.heap.size:=⟨_,rfl⟩
           rw [←hW_] at hb_
           rw [←hW_,←hq_] at r_
           rw [←hW_,←hq_]
           have HQ:Hid (Row W9 q19 42 ((default:OpD).cells)∧Below W8.heap.size W8 W9∧W8.heap.size≤q19):=⟨r_,hb_,Nat.le_of_eq hq_.symm⟩
           clear r_ hb_ hW_ hq_
           simp only [Act.put,aS,aC,aZ]
           refine wlS rfl rfl _ (yE6 ag42 (.tmp 19) (.tmp 95) rfl q19 42 rfl o.cells _ rfl rfl HQ.out.1 rfl HO.out.1.one) ?_
           have hb_:=(Ch.setRow (S:=(· = q19)) (Ch.refl _ W9) (Or.inl rfl) o.cells.toArray)
           have r_:=HQ.out.1.setRow o.cells
           obtain ⟨WA,hW_⟩:∃U_:World,U_=W9.setRow q19 o.cells.toArray:=⟨_,rfl⟩
           rw [←hW_] at hb_ r_ ⊢
           have hbb:=HQ.out.2.1.trans (hb_.below HQ.out.2.1.size fun k hk e=>by have:=HQ.out.2.2;omega)
           have hge:=HQ.out.2.2
           have HB:Hid ((Jm w WA c2 gp gv most m2 T u10 q5 [k0,k1] (16 * i))∧Cr (ctn m2 0) (m2.fl 0) P T∧(m2.on=true→Fresh (ctn m2 0) T T0.length)∧(T0.length≤T.length∧2 * T.length≤2 * T0.length+(ctn m2 0).length)):=⟨HA.out.1.bel hbb,HA.out.2⟩
           have H19:Hid (Row WA q19 42 o.cells∧Out 2 gv c2 WA q19):=⟨r_,HA.out.1.outNew hge r_.lt⟩
           clear HA
           clear hW_ r_ hb_ hbb hge HQ
           refine wpList_nil ?_
           go_upto_region 23 with fail
           refine wp_region_lit ?_
           refine wl rfl (.pointer (some ⟨q19,0+0,none⟩)) _ (yA3 f42_0 (.tmp 19) rfl q19 (0) rfl) ?_
           simp only [Act.put,aS,aC,aZ]
           refine wl rfl (.int .i64 o.k) _ (yA7 o3 (.tmp 96) rfl q19 (0+0) rfl (.int .i64 o.k) (H19.out.1.at (0+0) _ rfl)) ?_
           simp only [Act.put,aS,aC,aZ]
           refine yA5 eN11 [.tmp 97] _ rfl rfl [(.int .i64 o.k)] rfl ?_
           refine (kindT_any o.k HO.out.1.k WA).mono ?_
           rintro e WA ⟨rfl,rfl⟩
           refine ⟨_,rfl,?_⟩
           obtain ⟨kd,hkd⟩:∃kd,kd=kindT o.k:=⟨_,rfl⟩
           rw [←hkd]
           have hk0:0≤kd∧kd<10:=(by rw [hkd];unfold kindT;omega)
           clear hkd
           simp only [Act.put,aS,aC,aZ]
           refine wpList_nil ?_
           go_upto_block 4 with fail
           refine wp_block ?_
           by_cases h4:kd≤4
           ·as_aux_lemma =>
             refine wp_seq_k fun K99 hK99 => ?_
             go_cut [99] from 100 to 104 (fun v99 W=>v99 = .bool true∧WA=W)
             case first =>
              have hcase:kd=0∨kd=1∨kd=2∨kd=3∨kd=4:=(by omega)
              clear hk0 h4
              rcases hcase with rfl|rfl|rfl|rfl|rfl
              ·go_upto_region 24 with fail
               refine wp_region_lit ?_
               refine wl rfl (.bool true) _ (yC6 (.tmp 98) (.const (.int .i64 0)) rfl (0) (0) rfl rfl true rfl) ?_
               simp only [Act.put,aS,aC,aZ]
               refine wa (.tmp 100) (.bool true) ?_
               simp only [Act.put,aS,aC,aZ]
               refine wpList_nil ?_
               go_wp2_with fail
               go_meet
               case rel=>exact ⟨rfl,rfl⟩
              ·go_upto_region 24 with fail
               refine wp_region_lit ?_
               refine wl rfl (.bool false) _ (yC6 (.tmp 98) (.const (.int .i64 0)) rfl (1) (0) rfl rfl false rfl) ?_
               simp only [Act.put,aS,aC,aZ]
               refine wa (.tmp 100) (.bool false) ?_
               simp only [Act.put,aS,aC,aZ]
               refine wpList_nil ?_
               go_upto_region 25 with fail
               refine wp_region_lit ?_
               refine wl rfl (.bool true) _ (yC6 (.tmp 98) (.const (.int .i64 1)) rfl (1) (1) rfl rfl true rfl) ?_
               simp only [Act.put,aS,aC,aZ]
               refine wa (.tmp 101) (.bool true) ?_
               simp only [Act.put,aS,aC,aZ]
               refine wpList_nil ?_
               go_wp2_with fail
               go_meet
               case rel=>exact ⟨rfl,rfl⟩
              ·go_upto_region 24 with fail
               refine wp_region_lit ?_
               refine wl rfl (.bool false) _ (yC6 (.tmp 98) (.const (.int .i64 0)) rfl (2) (0) rfl rfl false rfl) ?_
               simp only [Act.put,aS,aC,aZ]
               refine wa (.tmp 100) (.bool false) ?_
               simp only [Act.put,aS,aC,aZ]
               refine wpList_nil ?_
               go_upto_region 25 with fail
               refine wp_region_lit ?_
               refine wl rfl (.bool false) _ (yC6 (.tmp 98) (.const (.int .i64 1)) rfl (2) (1) rfl rfl false rfl) ?_
               simp only [Act.put,aS,aC,aZ]
               refine wa (.tmp 101) (.bool false) ?_
               simp only [Act.put,aS,aC,aZ]
               refine wpList_nil ?_
               go_upto_region 26 with fail
               refine wp_region_lit ?_
               refine wl rfl (.bool true) _ (yC6 (.tmp 98) (.const (.int .i64 2)) rfl (2) (2) rfl rfl true rfl) ?_
               simp only [Act.put,aS,aC,aZ]
               refine wa (.tmp 102) (.bool true) ?_
               simp only [Act.put,aS,aC,aZ]
               refine wpList_nil ?_
               go_wp2_with fail
               go_meet
               case rel=>exact ⟨rfl,rfl⟩
              ·go_upto_region 24 with fail
               refine wp_region_lit ?_
               refine wl rfl (.bool false) _ (yC6 (.tmp 98) (.const (.int .i64 0)) rfl (3) (0) rfl rfl false rfl) ?_
               simp only [Act.put,aS,aC,aZ]
               refine wa (.tmp 100) (.bool false) ?_
               simp only [Act.put,aS,aC,aZ]
               refine wpList_nil ?_
               go_upto_region 25 with fail
               refine wp_region_lit ?_
               refine wl rfl (.bool false) _ (yC6 (.tmp 98) (.const (.int .i64 1)) rfl (3) (1) rfl rfl false rfl) ?_
               simp only [Act.put,aS,aC,aZ]
               refine wa (.tmp 101) (.bool false) ?_
               simp only [Act.put,aS,aC,aZ]
               refine wpList_nil ?_
               go_upto_region 26 with fail
               refine wp_region_lit ?_
               refine wl rfl (.bool false) _ (yC6 (.tmp 98) (.const (.int .i64 2)) rfl (3) (2) rfl rfl false rfl) ?_
               simp only [Act.put,aS,aC,aZ]
               refine wa (.tmp 102) (.bool false) ?_
               simp only [Act.put,aS,aC,aZ]
               refine wpList_nil ?_
               go_upto_region 27 with fail
               refine wp_region_lit ?_
               refine wl rfl (.bool true) _ (yC6 (.tmp 98) (.const (.int .i64 3)) rfl (3) (3) rfl rfl true rfl) ?_
               simp only [Act.put,aS,aC,aZ]
               refine wa (.tmp 103) (.bool true) ?_
               simp only [Act.put,aS,aC,aZ]
               refine wpList_nil ?_
               go_wp2_with fail
               go_meet
               case rel=>exact ⟨rfl,rfl⟩
              ·go_upto_region 24 with fail
               refine wp_region_lit ?_
               refine wl rfl (.bool false) _ (yC6 (.tmp 98) (.const (.int .i64 0)) rfl (4) (0) rfl rfl false rfl) ?_
               simp only [Act.put,aS,aC,aZ]
               refine wa (.tmp 100) (.bool false) ?_
               simp only [Act.put,aS,aC,aZ]
               refine wpList_nil ?_
               go_upto_region 25 with fail
               refine wp_region_lit ?_
               refine wl rfl (.bool false) _ (yC6 (.tmp 98) (.const (.int .i64 1)) rfl (4) (1) rfl rfl false rfl) ?_
               simp only [Act.put,aS,aC,aZ]
               refine wa (.tmp 101) (.bool false) ?_
               simp only [Act.put,aS,aC,aZ]
               refine wpList_nil ?_
               go_upto_region 26 with fail
               refine wp_region_lit ?_
               refine wl rfl (.bool false) _ (yC6 (.tmp 98) (.const (.int .i64 2)) rfl (4) (2) rfl rfl false rfl) ?_
               simp only [Act.put,aS,aC,aZ]
               refine wa (.tmp 102) (.bool false) ?_
               simp only [Act.put,aS,aC,aZ]
               refine wpList_nil ?_
               go_upto_region 27 with fail
               refine wp_region_lit ?_
               refine wl rfl (.bool false) _ (yC6 (.tmp 98) (.const (.int .i64 3)) rfl (4) (3) rfl rfl false rfl) ?_
               simp only [Act.put,aS,aC,aZ]
               refine wa (.tmp 103) (.bool false) ?_
               simp only [Act.put,aS,aC,aZ]
               refine wpList_nil ?_
               go_upto_region 28 with fail
               refine wp_region_lit ?_
               refine wl rfl (.bool true) _ (yC6 (.tmp 98) (.const (.int .i64 4)) rfl (4) (4) rfl rfl true rfl) ?_
               simp only [Act.put,aS,aC,aZ]
               refine wa (.tmp 104) (.bool true) ?_
               simp only [Act.put,aS,aC,aZ]
               refine wpList_nil ?_
               go_wp2_with fail
               go_meet
               case rel=>exact ⟨rfl,rfl⟩
             case rest =>
              as_aux_lemma =>
               obtain ⟨rfl,rfl⟩:=hcut
               clear hk0 h4
               go_upto_region 29 with fail
               refine wp_region_lit ?_
               refine wm 13 (ptr gv) ?_
               simp only [Act.put,aS,aC,aZ]
               refine wl rfl (.pointer (some ⟨q19,0+2,none⟩)) _ (yA3 f42_2 (.tmp 19) rfl q19 (0) rfl) ?_
               simp only [Act.put,aS,aC,aZ]
               refine wl rfl (str o.id) _ (yA7 o9 (.tmp 107) rfl q19 (0+2) rfl (str o.id) (H19.out.1.at (0+2) _ rfl)) ?_
               simp only [Act.put,aS,aC,aZ]
               refine wl rfl (.pointer (some ⟨q19,0+3,none⟩)) _ (yA3 f42_3 (.tmp 19) rfl q19 (0) rfl) ?_
               simp only [Act.put,aS,aC,aZ]
               refine wl rfl o.bv _ (yA7 o38 (.tmp 109) rfl q19 (0+3) rfl o.bv (H19.out.1.at (0+3) _ rfl)) ?_
               simp only [Act.put,aS,aC,aZ]
               refine yA5 eN12 [.tmp 106,.tmp 108,.tmp 110] _ rfl rfl [(ptr gv),(str o.id),o.bv] rfl ?_
               refine (HB.out.1.append (by omega) hgo.2 HB.out.2.1 (HB.out.2.2.1 hgo.2) o.id o.b o.bv HO.out.1.id (HO.out.1.b.later HB.out.1.f.bel) ?_).mono ?_
               ·by_cases q:o.b=[]
                ·exact Or.inl q
                ·exact Or.inr fun b e=>(by have h1:=slice_blk HO.out.1.b q b e;have h2:=HB.out.1.f.gv0;omega)
               rintro e WB ⟨c3,m3,P3,p1,p2,p3,er,rfl,s_,j_,hcase_⟩
               refine ⟨_,rfl,?_⟩
               have HC:Hid ((Jm w WB c3 gp gv most m3 T u10 q5 [k0,k1] (16 * i+16))∧Row WB q19 42 o.cells):=⟨j_,s_.row H19.out.2 H19.out.1⟩
               have hTT:=HB.out.2.2.2
               clear s_ j_ HB H19
               simp only [Act.put,aS,aC,aZ]
               refine wm 111 (.tuple #[(.agg (plC p1 p2 p3 false).toArray),(.int .i64 er)]) ?_
               simp only [Act.put,aS,aC,aZ]
               refine wl rfl (.agg (plC p1 p2 p3 false).toArray) _ (yA8 (.tmp 105) 0 rfl #[(.agg (plC p1 p2 p3 false).toArray),(.int .i64 er)] rfl (.agg (plC p1 p2 p3 false).toArray) rfl) ?_
               simp only [Act.put,aS,aC,aZ]
               refine wl rfl (.int .i64 er) _ (yA8 (.tmp 105) 1 rfl #[(.agg (plC p1 p2 p3 false).toArray),(.int .i64 er)] rfl (.int .i64 er) rfl) ?_
               simp only [Act.put,aS,aC,aZ]
               refine wl rfl (ptr WB.heap.size) _ (yB6 ((plC 0 0 0 false)) zero40 rfl) ?_
               have hb_:=yB2 WB (.cells ((plC 0 0 0 false)).toArray 40)
               have r_:=Row.new WB 40 ((plC 0 0 0 false))
               obtain ⟨WC,hW_⟩:∃U_:World,U_=WB.alloc (.cells ((plC 0 0 0 false)).toArray 40):=⟨_,rfl⟩
               obtain ⟨q20,hq_⟩:∃q,q=WB.heap.size:=⟨_,rfl⟩
               rw [←hW_] at hb_
               rw [←hW_,←hq_] at r_
               rw [←hW_,←hq_]
               have HQ:Hid (Row WC q20 40 ((plC 0 0 0 false))∧Below WB.heap.size WB WC∧WB.heap.size≤q20):=⟨r_,hb_,Nat.le_of_eq hq_.symm⟩
               clear r_ hb_ hW_ hq_
               simp only [Act.put,aS,aC,aZ]
               refine wlS rfl rfl _ (yE6 ag40 (.tmp 20) (.tmp 112) rfl q20 40 rfl (plC p1 p2 p3 false) _ rfl rfl HQ.out.1 rfl (yJ2 _ _ _ _)) ?_
               have hb_:=(Ch.setRow (S:=(· = q20)) (Ch.refl _ WC) (Or.inl rfl) (plC p1 p2 p3 false).toArray)
               have r_:=HQ.out.1.setRow (plC p1 p2 p3 false)
               obtain ⟨WD,hW_⟩:∃U_:World,U_=WC.setRow q20 (plC p1 p2 p3 false).toArray:=⟨_,rfl⟩
               rw [←hW_] at hb_ r_ ⊢
               have hbb:=HQ.out.2.1.trans (hb_.below HQ.out.2.1.size fun k hk e=>by have:=HQ.out.2.2;omega)
               have hge:=HQ.out.2.2
               have HD:Hid ((Jm w WD c3 gp gv most m3 T u10 q5 [k0,k1] (16 * i+16))∧Row WD q19 42 o.cells∧Row WD q20 40 (plC p1 p2 p3 false)):=⟨HC.out.1.bel hbb,HC.out.2.later hbb HC.out.2.lt,r_⟩
               clear HC
               clear hW_ r_ hb_ hbb hge HQ
               refine wa (.tmp 113) (.int .i64 er) ?_
               simp only [Act.put,aS,aC,aZ]
               refine wpList_nil ?_
               rcases hcase_ with ⟨her,hcr,hfr3,hln⟩|⟨rfl,hon,hok,rfl,a,rfl,rfl,hcr,hfr3,hln⟩
               ·go_upto_region 30 with fail
                refine wp_region_lit ?_
                refine wm 21 (.int .i64 er) ?_
                simp only [Act.put,aS,aC,aZ]
                refine wl rfl (.bool false) _ (yC6 (.tmp 114) (.const (.int .i64 0)) rfl er 0 rfl rfl false (decide_eq_false her)) ?_
                simp only [Act.put,aS,aC,aZ]
                refine wpList_nil ?_
                have HE:Hid ((Jm w WD c3 gp gv most m3 T u10 q5 [k0,k1] (16 * i+16))∧Cr (ctn m3 0) (m3.fl 0) P3 T∧(m3.on=true→Fresh (ctn m3 0) T T0.length)∧(T0.length≤T.length∧2 * T.length≤2 * T0.length+(ctn m3 0).length)):=⟨HD.out.1,hcr,hfr3,hTT.1,by have:=hTT.2;omega⟩
                clear HD hcr hfr3
                go_upto_region 21 with fail
                refine wp_region_lit ?_
                refine wm 18 (.int .i64 (i:Nat)) ?_
                simp only [Act.put,aS,aC,aZ]
                refine wl rfl (.int .i64 ((i+1:Nat):Int)) _ (yC8 (.tmp 90) (.const (.int .i64 1)) rfl (i:Nat) 1 _ rfl rfl (by omega) (by omega) (by omega)) ?_
                simp only [Act.put,aS,aC,aZ]
                refine wa (.tmp 91) (.int .i64 ((i+1:Nat):Int)) ?_
                simp only [Act.put,aS,aC,aZ]
                refine wpList_nil ?_
                go_wp2_with fail
                exact ⟨⟨i+1,rfl,by omega,c3,m3,T,P3,HE.out.1.le (by omega),HE.out.2⟩,by simp [intOf];omega⟩
               ·as_aux_lemma =>
                 go_upto_region 30 with fail
                 refine wp_region_lit ?_
                 refine wm 21 (.int .i64 0) ?_
                 simp only [Act.put,aS,aC,aZ]
                 refine wl rfl (.bool true) _ (yC6 (.tmp 114) (.const (.int .i64 0)) rfl 0 0 rfl rfl true rfl) ?_
                 simp only [Act.put,aS,aC,aZ]
                 refine wpList_nil ?_
                 have HE:Hid ((Jm w WD c3 gp gv most m3 T u10 q5 [k0,k1] (16 * i+16))∧Row WD q19 42 o.cells∧Row WD q20 40 (plC ((0:Nat):Int) (a:Nat) (nb o.b.length:Nat) false)∧Cr (ctn m3 0) (m3.fl 0) P3 (T++[(⟨o.id,o.b,0,a,nb o.b.length,false⟩:Td)])∧Fresh (ctn m3 0) (T++[(⟨o.id,o.b,0,a,nb o.b.length,false⟩:Td)]) T0.length):=⟨HD.out.1,HD.out.2.1,HD.out.2.2,hcr,hfr3⟩
                 clear HD hcr hfr3
                 have hTl:Hid (T.length≤999999):=HTL
                 go_upto_region 31 with fail
                 refine wp_region_held (S:=fun X=>Row X q19 42 o.cells∧Row X q20 40 (plC ((0:Nat):Int) (a:Nat) (nb o.b.length:Nat) false)) (by kernel_rfl) ?_
                 show wpAnyH _ _ _ _ _ 12 (Array.replicate 12 false) _ _
                 obtain ⟨Z,hX⟩:∃Z:World,Z = { WD with drawn:=WD.drawn+1 }:=⟨_,rfl⟩
                 rw [←hX]
                 have HJZ:Hid (Jm w Z c3 gp gv most m3 T u10 q5 [k0,k1] (16 * i+16)):=(by rw [hX];exact HE.out.1.bel ⟨rfl,rfl,rfl,Nat.le_refl _,fun _ _=>rfl⟩)
                 have HS_:Row Z q19 42 o.cells∧Row Z q20 40 (plC ((0:Nat):Int) (a:Nat) (nb o.b.length:Nat) false):=(by rw [hX];exact ⟨HE.out.2.1.later ⟨rfl,rfl,rfl,Nat.le_refl _,fun _ _=>rfl⟩ HE.out.2.1.lt,HE.out.2.2.1.later ⟨rfl,rfl,rfl,Nat.le_refl _,fun _ _=>rfl⟩ HE.out.2.2.1.lt⟩)
                 clear hX
                 refine tH 0 116 rfl rfl (gRun rfl u10 fun _ h=>yA4 (.tmp 10) rfl u10 rfl) HS_ ?_
                 simp only [Act.put,aS,aC,aZ]
                 refine tH 1 117 rfl rfl (gRun rfl (.pointer (some ⟨q19,0+2,none⟩)) fun _ h=>yA3 f42_2 (.tmp 19) rfl q19 (0) rfl) HS_ ?_
                 simp only [Act.put,aS,aC,aZ]
                 refine tH 2 118 rfl rfl (gRun rfl (str o.id) fun _ h=>yA7 o9 (.tmp 117) rfl q19 (0+2) rfl (str o.id) (h.1.at (0+2) _ rfl)) HS_ ?_
                 simp only [Act.put,aS,aC,aZ]
                 refine tH 4 120 rfl rfl (gRun rfl (.pointer (some ⟨q19,0+3,none⟩)) fun _ h=>yA3 f42_3 (.tmp 19) rfl q19 (0) rfl) HS_ ?_
                 simp only [Act.put,aS,aC,aZ]
                 refine tH 5 121 rfl rfl (gRun rfl o.bv fun _ h=>yA7 o38 (.tmp 120) rfl q19 (0+3) rfl o.bv (h.1.at (0+3) _ rfl)) HS_ ?_
                 simp only [Act.put,aS,aC,aZ]
                 refine tH 7 123 rfl rfl (gRun rfl (.agg ((plC ((0:Nat):Int) (a:Nat) (nb o.b.length:Nat) false)).toArray) fun _ h=>yA9 ag40 (.tmp 20) rfl q20 (0) rfl ((plC ((0:Nat):Int) (a:Nat) (nb o.b.length:Nat) false)) rfl (yJ0 h.2)) HS_ ?_
                 simp only [Act.put,aS,aC,aZ]
                 refine oneH (i:=3) (by kernel_rfl) ?_
                 refine yG8 (some 119) rfl rfl rfl (.slice (some ⟨Z.heap.size,0,none⟩) 0 0) _ (run_lit38 rfl) ?_
                 have hb_:=yB2 Z (.cells #[] 5)
                 have ho_:=BOwn.new Z Z.heap.size (Nat.le_refl _)
                 have hz_:q19<Z.heap.size∧q20<Z.heap.size:=⟨HS_.1.lt,HS_.2.lt⟩
                 obtain ⟨zs,hzs_⟩:∃z,z=Z.heap.size:=⟨_,rfl⟩
                 obtain ⟨Z1,hW_⟩:∃U_:World,U_=Z.alloc (.cells #[] 5):=⟨_,rfl⟩
                 obtain ⟨vz,hv_⟩:∃v:Value,v = .slice (some ⟨Z.heap.size,0,none⟩) 0 0:=⟨_,rfl⟩
                 rw [←hW_] at hb_ ho_ ⊢
                 rw [←hv_] at ho_ ⊢
                 have HZ1:Hid (zs=Z.heap.size∧q19<zs∧q20<zs∧Below zs Z Z1∧BOwn Z1 zs vz []∧zs≤Z1.heap.size):=⟨hzs_,by rw [hzs_];exact hz_.1,by rw [hzs_];exact hz_.2,by rw [hzs_];exact hb_,by rw [hzs_];exact ho_,by rw [hzs_];exact hb_.size⟩
                 replace HS_:Row Z1 q19 42 o.cells∧Row Z1 q20 40 (plC ((0:Nat):Int) (a:Nat) (nb o.b.length:Nat) false):=⟨HS_.1.later hb_ HS_.1.lt,HS_.2.later hb_ HS_.2.lt⟩
                 clear hb_ ho_ hz_ hzs_ hW_ hv_
                 refine ⟨HS_,?_⟩
                 simp only [Act.put,aS,aC,aZ]
                 have hvb_:=HO.out.1.b.later (HJZ.out.f.bel.trans (HZ1.out.2.2.2.1.mono (by have:=HZ1.out.1;have:=HJZ.out.f.bel.size;omega)))
                 obtain ⟨v9,Z2,hr_,ho2_,hb_⟩:=run_bappU zs vz o.bv [] o.b HZ1.out.2.2.2.2.1 hvb_ (by have:=HO.out.2;simp only [List.length_nil];omega) HZ1.out.2.2.2.2.2
                 refine oneH (i:=6) (by kernel_rfl) ?_
                 refine yG8 (some 122) rfl rfl rfl v9 Z2 (yK0 (.tmp 119) (.tmp 121) rfl _ _ _ rfl rfl hr_) ?_
                 rw [List.nil_append] at ho2_
                 have HZ2:Hid (BOwn Z2 zs v9 o.b∧yA2 Z2 v9 o.b∧Below zs Z Z2):=⟨ho2_,BOwn.slice ho2_ (yA2.lt256 hvb_) (by have:=HO.out.2;omega),HZ1.out.2.2.2.1.trans hb_⟩
                 replace HS_:Row Z2 q19 42 o.cells∧Row Z2 q20 40 (plC ((0:Nat):Int) (a:Nat) (nb o.b.length:Nat) false):=⟨HS_.1.later hb_ HZ1.out.2.1,HS_.2.later hb_ HZ1.out.2.2.1⟩
                 clear hr_ ho2_ hb_ hvb_
                 refine ⟨HS_,?_⟩
                 simp only [Act.put,aS,aC,aZ]
                 refine tH 8 124 rfl rfl (gRun rfl (.agg (tdC (⟨o.id,o.b,0,a,nb o.b.length,false⟩:Td) v9).toArray) fun _ h=>run_build48 (.tmp 118) (.tmp 122) (.tmp 123) rfl (⟨o.id,o.b,0,a,nb o.b.length,false⟩:Td) rfl v9 HZ2.out.2.1 rfl rfl rfl) HS_ ?_
                 simp only [Act.put,aS,aC,aZ]
                 refine oneH (i:=9) (by kernel_rfl) ?_
                 refine yG8 (some 125) rfl rfl rfl (.slice (some ⟨Z2.heap.size,0,none⟩) 1 1) _ (run_litC el35 (tdC (⟨o.id,o.b,0,a,nb o.b.length,false⟩:Td) v9) (tdC_is (⟨o.id,o.b,0,a,nb o.b.length,false⟩:Td) HZ2.out.2.1).1 (.tmp 124) rfl rfl) ?_
                 have hb_:=yB2 Z2 (.cells (tdC (⟨o.id,o.b,0,a,nb o.b.length,false⟩:Td) v9).toArray 48)
                 have hg_:=Row.new Z2 48 (tdC (⟨o.id,o.b,0,a,nb o.b.length,false⟩:Td) v9)
                 obtain ⟨g3,hq_⟩:∃q,q=Z2.heap.size:=⟨_,rfl⟩
                 obtain ⟨Z3,hW_⟩:∃U_:World,U_=Z2.alloc (.cells (tdC (⟨o.id,o.b,0,a,nb o.b.length,false⟩:Td) v9).toArray 48):=⟨_,rfl⟩
                 rw [←hW_] at hb_
                 rw [←hW_,←hq_] at hg_
                 rw [←hW_,←hq_]
                 have HZ3:Hid (Row Z3 g3 48 (tdC (⟨o.id,o.b,0,a,nb o.b.length,false⟩:Td) v9)∧BOwn Z3 zs v9 o.b∧yA2 Z3 v9 o.b∧Below Z.heap.size Z Z3):=⟨hg_,own_later HZ2.out.1 hb_,HZ2.out.2.1.later hb_,by have h9:=HZ2.out.2.2;rw [HZ1.out.1] at h9;exact h9.trans (hb_.mono h9.size)⟩
                 replace HS_:Row Z3 q19 42 o.cells∧Row Z3 q20 40 (plC ((0:Nat):Int) (a:Nat) (nb o.b.length:Nat) false):=⟨HS_.1.later hb_ HS_.1.lt,HS_.2.later hb_ HS_.2.lt⟩
                 clear hb_ hg_ hq_ hW_ HZ2
                 refine ⟨HS_,?_⟩
                 simp only [Act.put,aS,aC,aZ]
                 have hj_:=HJZ.out.bel HZ3.out.2.2.2
                 have hzs_:=HZ1.out.1
                 have hzz_:=HZ3.out.2.2.2.size
                 have hsb_:Sb 2 gv c3 Z3 v9 o.b:=sbNew HZ3.out.2.1 (yA2.lt256 HZ3.out.2.2.1) (by have:=HO.out.2;omega) (fun b h1 h2=>HJZ.out.outNew (by omega) h2)
                 obtain ⟨v4,Z4,hr_,ho_,hc_,_⟩:=hj_.t.snoc (⟨o.id,o.b,0,a,nb o.b.length,false⟩:Td) v9 g3 hsb_ (Or.inr fun b e e2=>by have:=(HJZ.out.t.1 b e2).1;have:=(HZ3.out.2.1.lt b e).1;omega) (fun j u hu=>HZ3.out.1.at j u hu) (by have:=hTl.out;omega) (Nat.le_trans HJZ.out.f.bel.size hzz_) (fun W9 h9=>hj_.outNew (Nat.le_refl _) h9)
                 refine oneH (i:=10) (by kernel_rfl) ?_
                 refine yG8 (some 126) rfl rfl rfl v4 Z4 (yK0 (.tmp 116) (.tmp 125) rfl _ _ _ rfl rfl hr_) ?_
                 have HF:Hid (Jm w Z4 c3 gp gv most m3 (T++[(⟨o.id,o.b,0,a,nb o.b.length,false⟩:Td)]) v4 q5 [k0,k1] (16 * i+16)):=hj_.told hc_ ho_
                 replace HS_:Row Z4 q19 42 o.cells∧Row Z4 q20 40 (plC ((0:Nat):Int) (a:Nat) (nb o.b.length:Nat) false):=⟨hc_.row (fun e=>hj_.t.noR HS_.1 (by decide) e) HS_.1,hc_.row (fun e=>hj_.t.noR HS_.2 (by decide) e) HS_.2⟩
                 clear hj_ hzs_ hzz_ hsb_ hr_ ho_ hc_ HZ3 HZ1
                 refine ⟨HS_,?_⟩
                 simp only [Act.put,aS,aC,aZ]
                 refine tH 11 10 rfl rfl (gRun rfl v4 fun _ h=>yE7 (.tmp 126) rfl v4 rfl) HS_ ?_
                 simp only [Act.put,aS,aC,aZ]
                 refine wpAnyH_done (by kernel_rfl) ?_ _
                 have HG:Hid ((Jm w Z4 c3 gp gv most m3 (T++[(⟨o.id,o.b,0,a,nb o.b.length,false⟩:Td)]) v4 q5 [k0,k1] (16 * i+16))∧Cr (ctn m3 0) (m3.fl 0) P3 (T++[(⟨o.id,o.b,0,a,nb o.b.length,false⟩:Td)])∧(m3.on=true→Fresh (ctn m3 0) (T++[(⟨o.id,o.b,0,a,nb o.b.length,false⟩:Td)]) T0.length)∧(T0.length≤(T++[(⟨o.id,o.b,0,a,nb o.b.length,false⟩:Td)]).length∧2 * (T++[(⟨o.id,o.b,0,a,nb o.b.length,false⟩:Td)]).length≤2 * T0.length+(ctn m3 0).length)):=⟨HF.out,HE.out.2.2.2.1,fun _=>HE.out.2.2.2.2,by rw [List.length_append];have:=hTT.1;omega,by rw [List.length_append];have:=hTT.2;simp only [List.length_cons,List.length_nil];omega⟩
                 clear HF HE HS_
                 go_upto_region 21 with fail
                 refine wp_region_lit ?_
                 refine wm 18 (.int .i64 (i:Nat)) ?_
                 simp only [Act.put,aS,aC,aZ]
                 refine wl rfl (.int .i64 ((i+1:Nat):Int)) _ (yC8 (.tmp 90) (.const (.int .i64 1)) rfl (i:Nat) 1 _ rfl rfl (by omega) (by omega) (by omega)) ?_
                 simp only [Act.put,aS,aC,aZ]
                 refine wa (.tmp 91) (.int .i64 ((i+1:Nat):Int)) ?_
                 simp only [Act.put,aS,aC,aZ]
                 refine wpList_nil ?_
                 go_wp2_with fail
                 exact ⟨⟨i+1,rfl,by omega,c3,m3,(T++[(⟨o.id,o.b,0,a,nb o.b.length,false⟩:Td)]),P3,HG.out.1.le (by omega),HG.out.2⟩,by simp [intOf];omega⟩
           ·as_aux_lemma =>
             go_upto_region 24 with fail
             refine wp_region_lit ?_
             refine wl rfl (.bool false) _ (yC6 (.tmp 98) (.const (.int .i64 0)) rfl kd 0 rfl rfl false (decide_eq_false (by omega))) ?_
             simp only [Act.put,aS,aC,aZ]
             refine wa (.tmp 100) (.bool false) ?_
             simp only [Act.put,aS,aC,aZ]
             refine wpList_nil ?_
             go_upto_region 25 with fail
             refine wp_region_lit ?_
             refine wl rfl (.bool false) _ (yC6 (.tmp 98) (.const (.int .i64 1)) rfl kd 1 rfl rfl false (decide_eq_false (by omega))) ?_
             simp only [Act.put,aS,aC,aZ]
             refine wa (.tmp 101) (.bool false) ?_
             simp only [Act.put,aS,aC,aZ]
             refine wpList_nil ?_
             go_upto_region 26 with fail
             refine wp_region_lit ?_
             refine wl rfl (.bool false) _ (yC6 (.tmp 98) (.const (.int .i64 2)) rfl kd 2 rfl rfl false (decide_eq_false (by omega))) ?_
             simp only [Act.put,aS,aC,aZ]
             refine wa (.tmp 102) (.bool false) ?_
             simp only [Act.put,aS,aC,aZ]
             refine wpList_nil ?_
             go_upto_region 27 with fail
             refine wp_region_lit ?_
             refine wl rfl (.bool false) _ (yC6 (.tmp 98) (.const (.int .i64 3)) rfl kd 3 rfl rfl false (decide_eq_false (by omega))) ?_
             simp only [Act.put,aS,aC,aZ]
             refine wa (.tmp 103) (.bool false) ?_
             simp only [Act.put,aS,aC,aZ]
             refine wpList_nil ?_
             go_upto_region 28 with fail
             refine wp_region_lit ?_
             refine wl rfl (.bool false) _ (yC6 (.tmp 98) (.const (.int .i64 4)) rfl kd 4 rfl rfl false (decide_eq_false (by omega))) ?_
             simp only [Act.put,aS,aC,aZ]
             refine wa (.tmp 104) (.bool false) ?_
             simp only [Act.put,aS,aC,aZ]
             refine wpList_nil ?_
             by_cases h5:kd=5
             ·as_aux_lemma =>
               subst h5
               go_upto_region 32 with fail
               refine wp_region_lit ?_
               refine wl rfl (.bool true) _ (yC6 (.tmp 98) (.const (.int .i64 5)) rfl (5) (5) rfl rfl true rfl) ?_
               simp only [Act.put,aS,aC,aZ]
               refine wa (.tmp 128) (.bool true) ?_
               simp only [Act.put,aS,aC,aZ]
               refine wpList_nil ?_
               go_upto_region 33 with fail
               refine wp_region_lit ?_
               refine wm 13 (ptr gv) ?_
               simp only [Act.put,aS,aC,aZ]
               refine yA5 eN16 [.tmp 129] _ rfl rfl [(ptr gv)] rfl ?_
               refine (HB.out.1.flush (by omega) hgo.2 HB.out.2.1 (HB.out.2.2.1 hgo.2)).mono ?_
               rintro e WB ⟨c3,m3,er,rfl,s_,j_,hcr_,hct_,hcase_⟩
               refine ⟨_,rfl,?_⟩
               have HC:Hid ((Jm w WB c3 gp gv most m3 T u10 q5 [k0,k1] (16 * i+16))∧Cr (ctn m3 0) (m3.fl 0) P T∧(T0.length≤T.length∧2 * T.length≤2 * T0.length+(ctn m3 0).length)):=⟨j_,hcr_,by rw [hct_];exact HB.out.2.2.2⟩
               clear s_ j_ hcr_ hct_ HB H19
               simp only [Act.put,aS,aC,aZ]
               refine wa (.tmp 130) (.int .i64 er) ?_
               simp only [Act.put,aS,aC,aZ]
               refine wpList_nil ?_
               rcases hcase_ with ⟨rfl,hfl,hfr3⟩|⟨rfl,hoff⟩
               ·as_aux_lemma =>
                 go_upto_region 34 with fail
                 refine wp_region_lit ?_
                 refine wm 17 (.int .i64 (T0.length:Nat)) ?_
                 simp only [Act.put,aS,aC,aZ]
                 refine wa (.tmp 131) (.int .i64 (T0.length:Nat)) ?_
                 simp only [Act.put,aS,aC,aZ]
                 refine wpList_nil ?_
                 have HD:Hid ((Jm w WB c3 gp gv most m3 T u10 q5 [k0,k1] (16 * i+16))∧Cr (ctn m3 0) (ctn m3 0) P T∧Fresh (ctn m3 0) T T0.length):=⟨HC.out.1,by have h9:=HC.out.2.1;rw [hfl] at h9;exact h9,hfr3⟩
                 have hTT:=HC.out.2.2
                 have hfl2:Hid (m3.fl 0=ctn m3 0):=hfl
                 clear HC hfl hfr3
                 go_wp2_with fail
                 go_loopw [23] (fun v23 W => ∃(j:Nat) (T3:List Td),v23 = .int .i64 (j:Nat)∧T0.length≤j∧j≤T.length∧T3.length=T.length∧Hid ((Jm w W c3 gp gv most m3 T3 u10 q5 [k0,k1] (16 * i+16))∧Cr (ctn m3 0) (ctn m3 0) P T3∧Fresh (ctn m3 0) T3 T0.length)) (fun v23 _=>T.length - (intOf v23).toNat)
                 case atStart=>exact ⟨T0.length,T,rfl,Nat.le_refl _,hTT.1,rfl,HD.out⟩
                 case round =>
                  obtain ⟨j,T3,rfl,hj0,hj,hT3,HI⟩:=hrel
                  obtain ⟨WC,hWC⟩:∃X,X=wr:=⟨_,rfl⟩
                  subst hWC
                  have HK:Hid ((Jm w WC c3 gp gv most m3 T3 u10 q5 [k0,k1] (16 * i+16))∧Cr (ctn m3 0) (ctn m3 0) P T3∧Fresh (ctn m3 0) T3 T0.length):=HI.out
                  clear HI HD
                  by_cases hjl:j<T.length
                  ·go_upto_region 35 with fail
                   refine wp_region_lit ?_
                   refine wm 23 (.int .i64 (j:Nat)) ?_
                   simp only [Act.put,aS,aC,aZ]
                   refine wm 10 u10 ?_
                   simp only [Act.put,aS,aC,aZ]
                   refine wl rfl (.int .i64 (T.length:Nat)) _ ((by rw [←hT3];exact run_lenT HK.out.1.t (.tmp 133) rfl rfl)) ?_
                   simp only [Act.put,aS,aC,aZ]
                   refine wl rfl (.bool true) _ (yB8 (.tmp 132) (.tmp 134) rfl (j:Nat) (T.length:Nat) rfl rfl true (decide_eq_true (by omega))) ?_
                   simp only [Act.put,aS,aC,aZ]
                   refine wm 135 (.bool true) ?_
                   simp only [Act.put,aS,aC,aZ]
                   refine wl (by kernel_rfl) (.int .i64 0) _ (yA4 (.tmp 22) rfl (.int .i64 0) rfl) ?_
                   simp only [Act.put,aS,aC,aZ]
                   refine wl (by kernel_rfl) (.bool true) _ (yC6 (.tmp 137) (.const (.int .i64 0)) rfl 0 0 rfl rfl true rfl) ?_
                   simp only [Act.put,aS,aC,aZ]
                   refine wl rfl (.bool true) _ (yA6 (.tmp 136) (.tmp 138) (.const (.bool false)) rfl true (.bool true) rfl rfl) ?_
                   simp only [Act.put,aS,aC,aZ]
                   refine wpList_nil ?_
                   obtain ⟨g3,cur,hx_,hr_,hl_,hv_,ht_,hc_⟩:=HK.out.1.t.flag j (by omega)
                   have hcr_:=HK.out.2.1.flag HK.out.2.2 j hj0 (by omega)
                   have HX:Hid ((∀w',(Instr.indexAt 35 u10 (.int .i64 (j:Nat))).run Tryd.prog w' = .ok (.pointer (some ⟨g3,j * 7,none⟩)) w')∧Row WC g3 48 cur∧j * 7+6<cur.length):=⟨hx_,hr_,hl_⟩
                   clear hx_ hr_ hl_ hv_
                   go_upto_region 37 with fail
                   refine wp_region_lit ?_
                   refine wm 10 u10 ?_
                   simp only [Act.put,aS,aC,aZ]
                   refine wm 23 (.int .i64 (j:Nat)) ?_
                   simp only [Act.put,aS,aC,aZ]
                   refine wl rfl (.pointer (some ⟨g3,j * 7,none⟩)) _ (yD5 (.tmp 142) (.tmp 143) rfl _ _ _ rfl rfl HX.out.1) ?_
                   simp only [Act.put,aS,aC,aZ]
                   refine wl rfl (.pointer (some ⟨g3,j * 7+6,none⟩)) _ (yA3 f48_3 (.tmp 144) rfl g3 (j * 7) rfl) ?_
                   simp only [Act.put,aS,aC,aZ]
                   refine wlS rfl rfl _ (run_putRow (t:=4) sz4p (.tmp 145) (.const (.bool true)) rfl g3 (j * 7+6) 48 cur rfl (.bool true) rfl ⟨rfl,rfl⟩ HX.out.2.1 HX.out.2.2) ?_
                   obtain ⟨WE,hW_⟩:∃U_:World,U_=WC.setCell ⟨g3,j * 7+6,none⟩ (.bool true):=⟨_,rfl⟩
                   rw [←hW_] at ht_ hc_ ⊢
                   have HL:Hid ((Jm w WE c3 gp gv most m3 (T3.set j (T3.getD j default).flushed) u10 q5 [k0,k1] (16 * i+16))∧Cr (ctn m3 0) (ctn m3 0) P (T3.set j (T3.getD j default).flushed)∧Fresh (ctn m3 0) (T3.set j (T3.getD j default).flushed) T0.length):=⟨HK.out.1.told hc_ ht_,hcr_⟩
                   clear hW_ ht_ hc_ hcr_ HX HK
                   refine wpList_nil ?_
                   go_upto_region 36 with fail
                   refine wp_region_lit ?_
                   refine wm 23 (.int .i64 (j:Nat)) ?_
                   simp only [Act.put,aS,aC,aZ]
                   refine wl rfl (.int .i64 ((j+1:Nat):Int)) _ (yC8 (.tmp 140) (.const (.int .i64 1)) rfl (j:Nat) 1 _ rfl rfl (by omega) (by omega) (by have:=HTL;omega)) ?_
                   simp only [Act.put,aS,aC,aZ]
                   refine wa (.tmp 141) (.int .i64 ((j+1:Nat):Int)) ?_
                   simp only [Act.put,aS,aC,aZ]
                   refine wpList_nil ?_
                   go_wp2_with fail
                   exact ⟨⟨j+1,_,rfl,by omega,by omega,by rw [List.length_set];exact hT3,HL⟩,by simp [intOf];omega⟩
                  ·go_upto_region 35 with fail
                   refine wp_region_lit ?_
                   refine wm 23 (.int .i64 (j:Nat)) ?_
                   simp only [Act.put,aS,aC,aZ]
                   refine wm 10 u10 ?_
                   simp only [Act.put,aS,aC,aZ]
                   refine wl rfl (.int .i64 (T.length:Nat)) _ ((by rw [←hT3];exact run_lenT HK.out.1.t (.tmp 133) rfl rfl)) ?_
                   simp only [Act.put,aS,aC,aZ]
                   refine wl rfl (.bool false) _ (yB8 (.tmp 132) (.tmp 134) rfl (j:Nat) (T.length:Nat) rfl rfl false (decide_eq_false (by omega))) ?_
                   simp only [Act.put,aS,aC,aZ]
                   refine wm 135 (.bool false) ?_
                   simp only [Act.put,aS,aC,aZ]
                   with_reducible refine wpList_skip (by kernel_rfl) ?_
                   simp only [Act.put,aS,aC,aZ]
                   with_reducible refine wpList_skip (by kernel_rfl) ?_
                   simp only [Act.put,aS,aC,aZ]
                   refine wl rfl (.bool false) _ (yA6 (.tmp 136) (.tmp 138) (.const (.bool false)) rfl false (.bool false) rfl rfl) ?_
                   simp only [Act.put,aS,aC,aZ]
                   refine wpList_nil ?_
                   have HE:Hid ((Jm w WC c3 gp gv most m3 T3 u10 q5 [k0,k1] (16 * i+16))∧Cr (ctn m3 0) (m3.fl 0) P T3∧(m3.on=true→Fresh (ctn m3 0) T3 T0.length)∧(T0.length≤T3.length∧2 * T3.length≤2 * T0.length+(ctn m3 0).length)):=⟨HK.out.1,by rw [hfl2.out];exact HK.out.2.1,fun _=>HK.out.2.2,by rw [hT3];exact hTT⟩
                   clear HK
                   go_upto_region 21 with fail
                   refine wp_region_lit ?_
                   refine wm 18 (.int .i64 (i:Nat)) ?_
                   simp only [Act.put,aS,aC,aZ]
                   refine wl rfl (.int .i64 ((i+1:Nat):Int)) _ (yC8 (.tmp 90) (.const (.int .i64 1)) rfl (i:Nat) 1 _ rfl rfl (by omega) (by omega) (by omega)) ?_
                   simp only [Act.put,aS,aC,aZ]
                   refine wa (.tmp 91) (.int .i64 ((i+1:Nat):Int)) ?_
                   simp only [Act.put,aS,aC,aZ]
                   refine wpList_nil ?_
                   go_wp2_with fail
                   exact ⟨⟨i+1,rfl,by omega,c3,m3,T3,P,HE.out.1.le (by omega),HE.out.2⟩,by simp [intOf];omega⟩
               ·as_aux_lemma =>
                 go_upto_region 34 with fail
                 refine wp_region_lit ?_
                 refine wm 17 (.int .i64 (T0.length:Nat)) ?_
                 simp only [Act.put,aS,aC,aZ]
                 refine wa (.tmp 131) (.int .i64 (T0.length:Nat)) ?_
                 simp only [Act.put,aS,aC,aZ]
                 refine wpList_nil ?_
                 have HD:Hid ((Jm w WB c3 gp gv most m3 T u10 q5 [k0,k1] (16 * i+16))∧Cr (ctn m3 0) (m3.fl 0) P T∧(m3.on=true→Fresh (ctn m3 0) T T0.length)∧(T0.length≤T.length∧2 * T.length≤2 * T0.length+(ctn m3 0).length)):=⟨HC.out.1,HC.out.2.1,(fun e=>by rw [hoff] at e;cases e),HC.out.2.2⟩
                 clear HC
                 go_wp2_with fail
                 go_loopw [23] (fun v23 W=>v23 = .int .i64 (T0.length:Nat)∧Hid ((Jm w W c3 gp gv most m3 T u10 q5 [k0,k1] (16 * i+16))∧Cr (ctn m3 0) (m3.fl 0) P T∧(m3.on=true→Fresh (ctn m3 0) T T0.length)∧(T0.length≤T.length∧2 * T.length≤2 * T0.length+(ctn m3 0).length))) (fun _ _=>0)
                 case atStart=>exact ⟨rfl,HD.out⟩
                 case round =>
                  obtain ⟨rfl,HI⟩:=hrel
                  obtain ⟨WC,hWC⟩:∃X,X=wr:=⟨_,rfl⟩
                  subst hWC
                  have HE:Hid ((Jm w WC c3 gp gv most m3 T u10 q5 [k0,k1] (16 * i+16))∧Cr (ctn m3 0) (m3.fl 0) P T∧(m3.on=true→Fresh (ctn m3 0) T T0.length)∧(T0.length≤T.length∧2 * T.length≤2 * T0.length+(ctn m3 0).length)):=HI.out
                  clear HI HD
                  by_cases hjl:T0.length<T.length
                  ·go_upto_region 35 with fail
                   refine wp_region_lit ?_
                   refine wm 23 (.int .i64 (T0.length:Nat)) ?_
                   simp only [Act.put,aS,aC,aZ]
                   refine wm 10 u10 ?_
                   simp only [Act.put,aS,aC,aZ]
                   refine wl rfl (.int .i64 (T.length:Nat)) _ (run_lenT HE.out.1.t (.tmp 133) rfl rfl) ?_
                   simp only [Act.put,aS,aC,aZ]
                   refine wl rfl (.bool true) _ (yB8 (.tmp 132) (.tmp 134) rfl (T0.length:Nat) (T.length:Nat) rfl rfl true (decide_eq_true (by omega))) ?_
                   simp only [Act.put,aS,aC,aZ]
                   refine wm 135 (.bool true) ?_
                   simp only [Act.put,aS,aC,aZ]
                   refine wl (by kernel_rfl) (.int .i64 2) _ (yA4 (.tmp 22) rfl (.int .i64 2) rfl) ?_
                   simp only [Act.put,aS,aC,aZ]
                   refine wl (by kernel_rfl) (.bool false) _ (yC6 (.tmp 137) (.const (.int .i64 0)) rfl 2 0 rfl rfl false rfl) ?_
                   simp only [Act.put,aS,aC,aZ]
                   refine wl rfl (.bool false) _ (yA6 (.tmp 136) (.tmp 138) (.const (.bool false)) rfl true (.bool false) rfl rfl) ?_
                   simp only [Act.put,aS,aC,aZ]
                   refine wpList_nil ?_
                   go_upto_region 21 with fail
                   refine wp_region_lit ?_
                   refine wm 18 (.int .i64 (i:Nat)) ?_
                   simp only [Act.put,aS,aC,aZ]
                   refine wl rfl (.int .i64 ((i+1:Nat):Int)) _ (yC8 (.tmp 90) (.const (.int .i64 1)) rfl (i:Nat) 1 _ rfl rfl (by omega) (by omega) (by omega)) ?_
                   simp only [Act.put,aS,aC,aZ]
                   refine wa (.tmp 91) (.int .i64 ((i+1:Nat):Int)) ?_
                   simp only [Act.put,aS,aC,aZ]
                   refine wpList_nil ?_
                   go_wp2_with fail
                   exact ⟨⟨i+1,rfl,by omega,c3,m3,T,P,HE.out.1.le (by omega),HE.out.2⟩,by simp [intOf];omega⟩
                  ·go_upto_region 35 with fail
                   refine wp_region_lit ?_
                   refine wm 23 (.int .i64 (T0.length:Nat)) ?_
                   simp only [Act.put,aS,aC,aZ]
                   refine wm 10 u10 ?_
                   simp only [Act.put,aS,aC,aZ]
                   refine wl rfl (.int .i64 (T.length:Nat)) _ (run_lenT HE.out.1.t (.tmp 133) rfl rfl) ?_
                   simp only [Act.put,aS,aC,aZ]
                   refine wl rfl (.bool false) _ (yB8 (.tmp 132) (.tmp 134) rfl (T0.length:Nat) (T.length:Nat) rfl rfl false (decide_eq_false (by omega))) ?_
                   simp only [Act.put,aS,aC,aZ]
                   refine wm 135 (.bool false) ?_
                   simp only [Act.put,aS,aC,aZ]
                   with_reducible refine wpList_skip (by kernel_rfl) ?_
                   simp only [Act.put,aS,aC,aZ]
                   with_reducible refine wpList_skip (by kernel_rfl) ?_
                   simp only [Act.put,aS,aC,aZ]
                   refine wl rfl (.bool false) _ (yA6 (.tmp 136) (.tmp 138) (.const (.bool false)) rfl false (.bool false) rfl rfl) ?_
                   simp only [Act.put,aS,aC,aZ]
                   refine wpList_nil ?_
                   go_upto_region 21 with fail
                   refine wp_region_lit ?_
                   refine wm 18 (.int .i64 (i:Nat)) ?_
                   simp only [Act.put,aS,aC,aZ]
                   refine wl rfl (.int .i64 ((i+1:Nat):Int)) _ (yC8 (.tmp 90) (.const (.int .i64 1)) rfl (i:Nat) 1 _ rfl rfl (by omega) (by omega) (by omega)) ?_
                   simp only [Act.put,aS,aC,aZ]
                   refine wa (.tmp 91) (.int .i64 ((i+1:Nat):Int)) ?_
                   simp only [Act.put,aS,aC,aZ]
                   refine wpList_nil ?_
                   go_wp2_with fail
                   exact ⟨⟨i+1,rfl,by omega,c3,m3,T,P,HE.out.1.le (by omega),HE.out.2⟩,by simp [intOf];omega⟩
             ·as_aux_lemma =>
               go_upto_region 32 with fail
               refine wp_region_lit ?_
               refine wl rfl (.bool false) _ (yC6 (.tmp 98) (.const (.int .i64 5)) rfl kd 5 rfl rfl false (decide_eq_false h5)) ?_
               simp only [Act.put,aS,aC,aZ]
               refine wa (.tmp 128) (.bool false) ?_
               simp only [Act.put,aS,aC,aZ]
               refine wpList_nil ?_
               by_cases h9:kd=9
               ·subst h9
                go_upto_region 38 with fail
                refine wp_region_lit ?_
                refine wl rfl (.bool true) _ (yC6 (.tmp 98) (.const (.int .i64 9)) rfl (9) (9) rfl rfl true rfl) ?_
                simp only [Act.put,aS,aC,aZ]
                refine wa (.tmp 147) (.bool true) ?_
                simp only [Act.put,aS,aC,aZ]
                refine wpList_nil ?_
                go_upto_region 39 with fail
                refine wp_region_lit ?_
                refine wm 8 (ptr gp) ?_
                simp only [Act.put,aS,aC,aZ]
                refine wl rfl (.pointer (some ⟨q19,0+1,none⟩)) _ (yA3 f42_1 (.tmp 19) rfl q19 (0) rfl) ?_
                simp only [Act.put,aS,aC,aZ]
                refine wl rfl (.int .i64 o.n) _ (yA7 o3 (.tmp 149) rfl q19 (0+1) rfl (.int .i64 o.n) (H19.out.1.at (0+1) _ rfl)) ?_
                simp only [Act.put,aS,aC,aZ]
                refine yA5 eN27 [.tmp 148,.tmp 150] _ rfl rfl [(ptr gp),(.int .i64 o.n)] rfl ?_
                refine (HB.out.1.live.fuse o.n HO.out.1.n.1 HO.out.1.n.2).mono ?_
                rintro e WB ⟨rfl,hn_⟩
                have hf_:=fuse_same m2 o.n
                obtain ⟨c3,s_,j_⟩:=HB.out.1.next hn_ hf_.2.2.1 (by rw [hf_.2.2.2.1];exact HB.out.1.k)
                obtain ⟨m3,hm3⟩:∃z,z=m2.fuseTo o.n:=⟨_,rfl⟩
                rw [←hm3] at hf_ j_
                refine ⟨_,rfl,?_⟩
                have HE:Hid ((Jm w WB c3 gp gv most m3 T u10 q5 [k0,k1] (16 * i))∧Cr (ctn m3 0) (m3.fl 0) P T∧(m3.on=true→Fresh (ctn m3 0) T T0.length)∧(T0.length≤T.length∧2 * T.length≤2 * T0.length+(ctn m3 0).length)):=⟨j_,by rw [hf_.1,hf_.2.1];exact HB.out.2.1,fun _=>by rw [hf_.1];exact HB.out.2.2.1 hgo.2,by rw [hf_.1];exact HB.out.2.2.2⟩
                clear hn_ hf_ s_ j_ hm3 HB H19
                simp only [Act.put,aS,aC,aZ]
                refine wpList_nil ?_
                go_upto_region 21 with fail
                refine wp_region_lit ?_
                refine wm 18 (.int .i64 (i:Nat)) ?_
                simp only [Act.put,aS,aC,aZ]
                refine wl rfl (.int .i64 ((i+1:Nat):Int)) _ (yC8 (.tmp 90) (.const (.int .i64 1)) rfl (i:Nat) 1 _ rfl rfl (by omega) (by omega) (by omega)) ?_
                simp only [Act.put,aS,aC,aZ]
                refine wa (.tmp 91) (.int .i64 ((i+1:Nat):Int)) ?_
                simp only [Act.put,aS,aC,aZ]
                refine wpList_nil ?_
                go_wp2_with fail
                exact ⟨⟨i+1,rfl,by omega,c3,m3,T,P,HE.out.1.le (by omega),HE.out.2⟩,by simp [intOf];omega⟩
               ·go_upto_region 38 with fail
                refine wp_region_lit ?_
                refine wl rfl (.bool false) _ (yC6 (.tmp 98) (.const (.int .i64 9)) rfl kd 9 rfl rfl false (decide_eq_false h9)) ?_
                simp only [Act.put,aS,aC,aZ]
                refine wa (.tmp 147) (.bool false) ?_
                simp only [Act.put,aS,aC,aZ]
                refine wpList_nil ?_
                go_upto_region 21 with fail
                refine wp_region_lit ?_
                refine wm 18 (.int .i64 (i:Nat)) ?_
                simp only [Act.put,aS,aC,aZ]
                refine wl rfl (.int .i64 ((i+1:Nat):Int)) _ (yC8 (.tmp 90) (.const (.int .i64 1)) rfl (i:Nat) 1 _ rfl rfl (by omega) (by omega) (by omega)) ?_
                simp only [Act.put,aS,aC,aZ]
                refine wa (.tmp 91) (.int .i64 ((i+1:Nat):Int)) ?_
                simp only [Act.put,aS,aC,aZ]
                refine wpList_nil ?_
                go_wp2_with fail
                exact ⟨⟨i+1,rfl,by omega,c2,m2,T,P,HB.out.1.le (by omega),HB.out.2⟩,by simp [intOf];omega⟩
         ·as_aux_lemma =>
           go_upto_region 20 with fail
           go_cut [89] from 83 to 89 (fun v89 W=>v89 = .bool false∧W8=W)
           case first =>
            by_cases hi2:i<tz
            ·have hoff:m2.on=false:=(by cases e:m2.on with|false=>rfl|true=>exact absurd ⟨hi2,e⟩ hgo)
             go_upto_region 20 with fail
             refine wp_region_lit ?_
             refine wm 18 (.int .i64 (i:Nat)) ?_
             simp only [Act.put,aS,aC,aZ]
             refine wm 16 (.int .i64 ((tz:Nat):Int)) ?_
             simp only [Act.put,aS,aC,aZ]
             refine wl rfl (.bool true) _ (yB8 (.tmp 83) (.tmp 84) rfl (i:Nat) (tz:Nat) rfl rfl true (decide_eq_true (by omega))) ?_
             simp only [Act.put,aS,aC,aZ]
             refine wm 85 (.bool true) ?_
             simp only [Act.put,aS,aC,aZ]
             refine wl (by kernel_rfl) (ptr gp) _ (yA4 (.tmp 8) rfl (ptr gp) rfl) ?_
             simp only [Act.put,aS,aC,aZ]
             refine yA5 eN26 [.tmp 87] _ (by kernel_rfl) rfl [(ptr gp)] rfl ?_
             refine (HA.out.1.live.isOn).mono ?_
             rintro e W8 ⟨rfl,rfl⟩
             rw [hoff]
             refine ⟨_,rfl,?_⟩
             simp only [Act.put,aS,aC,aZ]
             refine wl rfl (.bool false) _ (yA6 (.tmp 86) (.tmp 88) (.const (.bool false)) rfl true (.bool false) rfl rfl) ?_
             simp only [Act.put,aS,aC,aZ]
             refine wpList_nil ?_
             go_wp2_with fail
             go_meet
             case rel=>exact ⟨rfl,rfl⟩
            ·go_upto_region 20 with fail
             refine wp_region_lit ?_
             refine wm 18 (.int .i64 (i:Nat)) ?_
             simp only [Act.put,aS,aC,aZ]
             refine wm 16 (.int .i64 ((tz:Nat):Int)) ?_
             simp only [Act.put,aS,aC,aZ]
             refine wl rfl (.bool false) _ (yB8 (.tmp 83) (.tmp 84) rfl (i:Nat) (tz:Nat) rfl rfl false (decide_eq_false (by omega))) ?_
             simp only [Act.put,aS,aC,aZ]
             refine wm 85 (.bool false) ?_
             simp only [Act.put,aS,aC,aZ]
             with_reducible refine wpList_skip (by kernel_rfl) ?_
             simp only [Act.put,aS,aC,aZ]
             with_reducible refine wpList_skip (by kernel_rfl) ?_
             simp only [Act.put,aS,aC,aZ]
             refine wl rfl (.bool false) _ (yA6 (.tmp 86) (.tmp 88) (.const (.bool false)) rfl false (.bool false) rfl rfl) ?_
             simp only [Act.put,aS,aC,aZ]
             refine wpList_nil ?_
             go_wp2_with fail
             go_meet
             case rel=>exact ⟨rfl,rfl⟩
           case rest =>
            as_aux_lemma =>
             obtain ⟨rfl,rfl⟩:=hcut
             clear hgo
             obtain ⟨kv,hkv⟩:∃v:Value,([k0,k1]:List Value)[tn]? = some v:=(by rcases tn with _|_|tn;exact ⟨_,rfl⟩;exact ⟨_,rfl⟩;omega)
             obtain ⟨ks,hks⟩:∃ks,IntsIn w kv ks:=(by rcases tn with _|_|tn;exact ⟨ks0,by cases hkv;exact HM.out.2.2.2.2.2.1⟩;exact ⟨ks1,by cases hkv;exact HM.out.2.2.2.2.2.2⟩;omega)
             go_upto_region 40 with fail
             refine wp_region_lit ?_
             refine wm 8 (ptr gp) ?_
             simp only [Act.put,aS,aC,aZ]
             refine wm 12 (.int .i64 (tn:Nat)) ?_
             simp only [Act.put,aS,aC,aZ]
             refine wl rfl (.pointer (some ⟨q5,tn,none⟩)) _ (run_arrIx2 (.tmp 5) (.tmp 153) tn htl rfl q5 rfl rfl) ?_
             simp only [Act.put,aS,aC,aZ]
             refine wl rfl kv _ (yA7 o28 (.tmp 154) rfl q5 (tn) rfl kv (HA.out.1.b.at tn kv hkv)) ?_
             simp only [Act.put,aS,aC,aZ]
             refine yA5 eN28 [.tmp 152,.tmp 155] _ rfl rfl [(ptr gp),kv] rfl ?_
             refine (HA.out.1.boot (by omega) HA.out.2.1 kv ks (HA.out.1.keep hks)).mono ?_
             rintro e WB ⟨c3,m3,P3,rfl,s_,j_,hon_,hcr_,hf_⟩
             refine ⟨_,rfl,?_⟩
             have HC:Hid ((Jm w WB c3 gp gv most m3 T u10 q5 [k0,k1] (16 * i))∧Cr (ctn m3 0) (m3.fl 0) P3 T∧m3.on=true):=⟨j_,hcr_,hon_⟩
             clear s_ j_ hon_ hcr_ hf_ hkv hks HA
             simp only [Act.put,aS,aC,aZ]
             refine wpList_nil ?_
             go_upto_region 41 with fail
             refine wp_region_lit ?_
             refine wm 8 (ptr gp) ?_
             simp only [Act.put,aS,aC,aZ]
             refine yA5 eN10 [.tmp 158,.const (.int .i64 0)] _ rfl rfl [(ptr gp),(.int .i64 0)] rfl ?_
             refine (HC.out.1.opens).mono ?_
             rintro e WC ⟨gw,rfl,hj_,hb_⟩
             refine ⟨_,rfl,?_⟩
             have HD:Hid ((Jm w WC c3 gp gw most m3 T u10 q5 [k0,k1] (16 * i))∧Cr (ctn m3 0) (m3.fl 0) P3 T∧m3.on=true):=⟨hj_,HC.out.2⟩
             clear hj_ hb_ HC
             simp only [Act.put,aS,aC,aZ]
             refine wm 159 (.tuple #[(ptr gw),(.int .i64 0)]) ?_
             simp only [Act.put,aS,aC,aZ]
             refine wl rfl (ptr gw) _ (yA8 (.tmp 157) 0 rfl #[(ptr gw),(.int .i64 0)] rfl (ptr gw) rfl) ?_
             simp only [Act.put,aS,aC,aZ]
             refine wl rfl (.int .i64 0) _ (yA8 (.tmp 157) 1 rfl #[(ptr gw),(.int .i64 0)] rfl (.int .i64 0) rfl) ?_
             simp only [Act.put,aS,aC,aZ]
             refine wa (.tmp 160) (ptr gw) ?_
             simp only [Act.put,aS,aC,aZ]
             refine wa (.tmp 161) (.int .i64 0) ?_
             simp only [Act.put,aS,aC,aZ]
             refine wpList_nil ?_
             go_upto_region 42 with fail
             refine wp_region_lit ?_
             refine wm 13 (ptr gw) ?_
             simp only [Act.put,aS,aC,aZ]
             refine wl rfl (.bool false) _ (run_binOp' (.tmp 162) (.const (.pointer none)) rfl _ _ _ rfl rfl rfl (by kernel_rfl)) ?_
             simp only [Act.put,aS,aC,aZ]
             refine wm 163 (.bool false) ?_
             simp only [Act.put,aS,aC,aZ]
             refine wl (by kernel_rfl) (.int .i64 0) _ (yA4 (.tmp 14) rfl (.int .i64 0) rfl) ?_
             simp only [Act.put,aS,aC,aZ]
             refine wl (by kernel_rfl) (.bool false) _ (yD1 (.tmp 165) (.const (.int .i64 0)) rfl 0 0 rfl rfl false rfl) ?_
             simp only [Act.put,aS,aC,aZ]
             refine wl rfl (.bool false) _ (yA6 (.tmp 164) (.const (.bool true)) (.tmp 166) rfl false (.bool false) rfl rfl) ?_
             simp only [Act.put,aS,aC,aZ]
             refine wpList_nil ?_
             go_upto_region 44 with fail
             refine wp_region_lit ?_
             refine wa (.const (.int .i64 0)) (.int .i64 0) ?_
             simp only [Act.put,aS,aC,aZ]
             refine wpList_nil ?_
             go_wp2_with fail
             go_loopw [24,25,26,27,28,29,30] (fun v24 _ _ _ _ _ _ W => ∃k:Nat,v24 = .int .i64 (k:Nat)∧k≤T.length∧Hid ((Jm w W c3 gp gw most m3 T u10 q5 [k0,k1] (16 * i))∧Cr (ctn m3 0) (m3.fl 0) P3 T∧m3.on=true)) (fun v24 _ _ _ _ _ _ _=>T.length - (intOf v24).toNat)
             case atStart=>exact ⟨0,rfl,Nat.zero_le _,HD.out⟩
             case round =>
              obtain ⟨k,rfl,hkT,HI⟩:=hrel
              obtain ⟨E0,hE0⟩:∃X,X=wr:=⟨_,rfl⟩
              subst hE0
              have HE:Hid ((Jm w E0 c3 gp gw most m3 T u10 q5 [k0,k1] (16 * i))∧Cr (ctn m3 0) (m3.fl 0) P3 T∧m3.on=true):=HI.out
              clear HI HD
              by_cases hkl:k<T.length
              ·as_aux_lemma =>
                go_upto_region 45 with fail
                refine wp_region_lit ?_
                refine wm 24 (.int .i64 (k:Nat)) ?_
                simp only [Act.put,aS,aC,aZ]
                refine wm 10 u10 ?_
                simp only [Act.put,aS,aC,aZ]
                refine wl rfl (.int .i64 (T.length:Nat)) _ (run_lenT HE.out.1.t (.tmp 169) rfl rfl) ?_
                simp only [Act.put,aS,aC,aZ]
                refine wl rfl (.bool true) _ (yB8 (.tmp 168) (.tmp 170) rfl (k:Nat) (T.length:Nat) rfl rfl true (decide_eq_true (by omega))) ?_
                simp only [Act.put,aS,aC,aZ]
                refine wpList_nil ?_
                obtain ⟨vb,g2,hx_,hc_,hsl_⟩:=HE.out.1.el k hkl
                obtain ⟨td,htd⟩:∃t,t=T.getD k default:=⟨_,rfl⟩
                have htok_:=HE.out.2.1.td k hkl
                have hrd_:=HE.out.1.read (by omega) HE.out.2.2 HE.out.2.1 k hkl
                rw [←htd] at hc_ hsl_ htok_ hrd_
                have HX:Hid ((∀w',(Instr.indexAt 35 u10 (.int .i64 (k:Nat))).run Tryd.prog w' = .ok (.pointer (some ⟨g2,k * 7,none⟩)) w')∧(∀W':World,Below E0.heap.size E0 W'→∀j u,(tdC td vb)[j]? = some u→W'.cell? ⟨g2,k * 7+j,none⟩=some u)∧yA2 E0 vb td.bs∧OkOb (td.id,td.bs)∧td=T.getD k default):=⟨hx_,hc_,hsl_,htok_.1,htd⟩
                clear hx_ hc_ hsl_ htok_ htd
                go_upto_region 47 with fail
                refine wp_region_lit ?_
                refine wm 13 (ptr gw) ?_
                simp only [Act.put,aS,aC,aZ]
                refine wm 10 u10 ?_
                simp only [Act.put,aS,aC,aZ]
                refine wm 24 (.int .i64 (k:Nat)) ?_
                simp only [Act.put,aS,aC,aZ]
                refine wl rfl (.pointer (some ⟨g2,k * 7,none⟩)) _ (yD5 (.tmp 176) (.tmp 177) rfl _ _ _ rfl rfl HX.out.1) ?_
                simp only [Act.put,aS,aC,aZ]
                refine wl rfl (.pointer (some ⟨g2,k * 7+2,none⟩)) _ (yA3 f48_2 (.tmp 178) rfl g2 (k * 7) rfl) ?_
                simp only [Act.put,aS,aC,aZ]
                refine wl rfl (.agg ((plC (td.d:Nat) (td.a:Nat) (td.n:Nat) false)).toArray) _ (yA9 ag40 (.tmp 179) rfl g2 (k * 7+2) rfl ((plC (td.d:Nat) (td.a:Nat) (td.n:Nat) false)) rfl (fun j u hu=>by rw [Nat.add_assoc];exact HX.out.2.1 _ (Below.refl _ _) (2+j) u (tdC_pl td vb j u hu))) ?_
                simp only [Act.put,aS,aC,aZ]
                refine yA5 eN17 [.tmp 175,.tmp 180] _ rfl rfl [(ptr gw),(.agg (plC (td.d:Nat) (td.a:Nat) (td.n:Nat) false).toArray)] rfl ?_
                refine hrd_.mono ?_
                rintro e E1 ⟨id1,bs1,vb1,er1,rfl,hs1_,hb_,hcase_⟩
                refine ⟨_,rfl,?_⟩
                have HF:Hid (((Jm w E1 c3 gp gw most m3 T u10 q5 [k0,k1] (16 * i))∧Cr (ctn m3 0) (m3.fl 0) P3 T∧m3.on=true)∧yA2 E1 vb1 bs1∧Below E0.heap.size E0 E1):=⟨⟨HE.out.1.bel hb_,HE.out.2⟩,hs1_,hb_⟩
                clear hs1_ hb_ hrd_
                simp only [Act.put,aS,aC,aZ]
                refine wm 181 (.tuple #[(str id1),vb1,(.int .i64 er1)]) ?_
                simp only [Act.put,aS,aC,aZ]
                refine wl rfl (str id1) _ (yA8 (.tmp 174) 0 rfl #[(str id1),vb1,(.int .i64 er1)] rfl (str id1) rfl) ?_
                simp only [Act.put,aS,aC,aZ]
                refine wl rfl vb1 _ (yA8 (.tmp 174) 1 rfl #[(str id1),vb1,(.int .i64 er1)] rfl vb1 rfl) ?_
                simp only [Act.put,aS,aC,aZ]
                refine wl rfl (.int .i64 er1) _ (yA8 (.tmp 174) 2 rfl #[(str id1),vb1,(.int .i64 er1)] rfl (.int .i64 er1) rfl) ?_
                simp only [Act.put,aS,aC,aZ]
                refine wa (.tmp 182) (str id1) ?_
                simp only [Act.put,aS,aC,aZ]
                refine wa (.tmp 183) vb1 ?_
                simp only [Act.put,aS,aC,aZ]
                refine wa (.tmp 184) (.int .i64 er1) ?_
                simp only [Act.put,aS,aC,aZ]
                refine wpList_nil ?_
                rcases hcase_ with ⟨rfl,hflr,hex⟩|⟨rfl,hfl⟩
                ·as_aux_lemma =>
                  have hid1:Hid (∀c∈id1,c<256):=(by obtain ⟨j,h1,h2,h3,_⟩:=hex;have h9:=(HE.out.2.1.td j h1).1;rw [h2,h3] at h9;exact nameB_lt h9.1)
                  have hbs1:Hid (∀c∈bs1,c<256):=(by obtain ⟨j,h1,h2,h3,_⟩:=hex;have h9:=(HE.out.2.1.td j h1).1;rw [h2,h3] at h9;exact h9.2.2)
                  have HEX:Hid (∃j,j<T.length∧(T.getD j default).id=id1∧(T.getD j default).bs=bs1∧(T.getD j default).d=td.d∧(T.getD j default).a=td.a∧(T.getD j default).n=td.n):=hex
                  clear hex
                  by_cases hsm:id1=td.id∧bs1=td.bs
                  ·as_aux_lemma =>
                    have hq1:=hsm.1
                    have hq2:=hsm.2
                    go_upto_region 48 with fail
                    refine wp_region_held (S:=fun X=>Below E0.heap.size E0 X∧yA2 X vb1 bs1) (by kernel_rfl) ?_
                    show wpAnyH _ _ _ _ _ 23 (Array.replicate 23 false) _ _
                    obtain ⟨E2,hX⟩:∃E2:World,E2 = { E1 with drawn:=E1.drawn+1 }:=⟨_,rfl⟩
                    rw [←hX]
                    have HS_:Below E0.heap.size E0 E2∧yA2 E2 vb1 bs1:=(by rw [hX];exact ⟨HF.out.2.2.trans ⟨rfl,rfl,rfl,Nat.le_refl _,fun _ _=>rfl⟩,HF.out.2.1.later ⟨rfl,rfl,rfl,Nat.le_refl _,fun _ _=>rfl⟩⟩)
                    have HG:Hid (((Jm w E2 c3 gp gw most m3 T u10 q5 [k0,k1] (16 * i))∧Cr (ctn m3 0) (m3.fl 0) P3 T∧m3.on=true)∧yA2 E2 vb1 bs1∧Below E0.heap.size E0 E2):=(by rw [hX];exact ⟨⟨HF.out.1.1.bel ⟨rfl,rfl,rfl,Nat.le_refl _,fun _ _=>rfl⟩,HF.out.1.2⟩,HF.out.2.1.later ⟨rfl,rfl,rfl,Nat.le_refl _,fun _ _=>rfl⟩,HF.out.2.2.trans ⟨rfl,rfl,rfl,Nat.le_refl _,fun _ _=>rfl⟩⟩)
                    clear HF
                    clear hX
                    refine tH 0 185 rfl rfl (gRun rfl (.int .i64 0) fun _ h=>yA4 (.tmp 27) rfl (.int .i64 0) rfl) HS_ ?_
                    simp only [Act.put,aS,aC,aZ]
                    refine tH 1 186 rfl rfl (gRun rfl (.bool true) fun _ h=>yC6 (.tmp 185) (.const (.int .i64 0)) rfl 0 0 rfl rfl true rfl) HS_ ?_
                    simp only [Act.put,aS,aC,aZ]
                    refine tH 2 187 rfl rfl (gRun rfl (.bool true) fun _ h=>yA4 (.tmp 186) rfl (.bool true) rfl) HS_ ?_
                    simp only [Act.put,aS,aC,aZ]
                    refine tH 3 188 rfl rfl (gRun (by kernel_rfl) (str id1) fun _ h=>yA4 (.tmp 25) rfl (str id1) rfl) HS_ ?_
                    simp only [Act.put,aS,aC,aZ]
                    refine tH 4 189 rfl rfl (gRun (by kernel_rfl) u10 fun _ h=>yA4 (.tmp 10) rfl u10 rfl) HS_ ?_
                    simp only [Act.put,aS,aC,aZ]
                    refine tH 5 190 rfl rfl (gRun (by kernel_rfl) (.int .i64 (k:Nat)) fun _ h=>yA4 (.tmp 24) rfl (.int .i64 (k:Nat)) rfl) HS_ ?_
                    simp only [Act.put,aS,aC,aZ]
                    refine tH 6 191 rfl rfl (gRun (by kernel_rfl) (.pointer (some ⟨g2,k * 7,none⟩)) fun _ h=>yD5 (.tmp 189) (.tmp 190) rfl _ _ _ rfl rfl HX.out.1) HS_ ?_
                    simp only [Act.put,aS,aC,aZ]
                    refine tH 7 192 rfl rfl (gRun (by kernel_rfl) (.pointer (some ⟨g2,k * 7+0,none⟩)) fun _ h=>yA3 f48_0 (.tmp 191) rfl g2 (k * 7) rfl) HS_ ?_
                    simp only [Act.put,aS,aC,aZ]
                    refine tH 8 193 rfl rfl (gRun (by kernel_rfl) (str td.id) fun _ h=>yA7 o9 (.tmp 192) rfl g2 (k * 7+0) rfl (str td.id) (HX.out.2.1 _ h.1 0 _ rfl)) HS_ ?_
                    simp only [Act.put,aS,aC,aZ]
                    refine tH 9 194 rfl rfl (gRun (by kernel_rfl) (.bool true) fun _ h=>yI6 (.tmp 188) (.tmp 193) rfl id1 td.id hid1.out (nameB_lt HX.out.2.2.2.1.1) rfl rfl true (decide_eq_true hq1)) HS_ ?_
                    simp only [Act.put,aS,aC,aZ]
                    refine tH 10 195 rfl rfl (gRun rfl (.bool true) fun _ h=>yA6 (.tmp 187) (.tmp 194) (.const (.bool false)) rfl true (.bool true) rfl rfl) HS_ ?_
                    simp only [Act.put,aS,aC,aZ]
                    refine tH 11 196 rfl rfl (gRun rfl (.bool true) fun _ h=>yA4 (.tmp 195) rfl (.bool true) rfl) HS_ ?_
                    simp only [Act.put,aS,aC,aZ]
                    refine tH 12 197 rfl rfl (gRun (by kernel_rfl) vb1 fun _ h=>yA4 (.tmp 26) rfl vb1 rfl) HS_ ?_
                    simp only [Act.put,aS,aC,aZ]
                    refine tH 13 198 rfl rfl (gRun (by kernel_rfl) (str bs1) fun _ h=>yI3 (.tmp 197) rfl vb1 bs1 rfl h.2) HS_ ?_
                    simp only [Act.put,aS,aC,aZ]
                    refine tH 14 199 rfl rfl (gRun (by kernel_rfl) u10 fun _ h=>yA4 (.tmp 10) rfl u10 rfl) HS_ ?_
                    simp only [Act.put,aS,aC,aZ]
                    refine tH 15 200 rfl rfl (gRun (by kernel_rfl) (.int .i64 (k:Nat)) fun _ h=>yA4 (.tmp 24) rfl (.int .i64 (k:Nat)) rfl) HS_ ?_
                    simp only [Act.put,aS,aC,aZ]
                    refine tH 16 201 rfl rfl (gRun (by kernel_rfl) (.pointer (some ⟨g2,k * 7,none⟩)) fun _ h=>yD5 (.tmp 199) (.tmp 200) rfl _ _ _ rfl rfl HX.out.1) HS_ ?_
                    simp only [Act.put,aS,aC,aZ]
                    refine tH 17 202 rfl rfl (gRun (by kernel_rfl) (.pointer (some ⟨g2,k * 7+1,none⟩)) fun _ h=>yA3 f48_1 (.tmp 201) rfl g2 (k * 7) rfl) HS_ ?_
                    simp only [Act.put,aS,aC,aZ]
                    refine tH 18 203 rfl rfl (gRun (by kernel_rfl) vb fun _ h=>yA7 o38 (.tmp 202) rfl g2 (k * 7+1) rfl vb (HX.out.2.1 _ h.1 1 _ rfl)) HS_ ?_
                    simp only [Act.put,aS,aC,aZ]
                    refine tH 19 204 rfl rfl (gRun (by kernel_rfl) (str td.bs) fun _ h=>yI3 (.tmp 203) rfl vb td.bs rfl (HX.out.2.2.1.later h.1)) HS_ ?_
                    simp only [Act.put,aS,aC,aZ]
                    refine tH 20 205 rfl rfl (gRun (by kernel_rfl) (.bool true) fun _ h=>yI6 (.tmp 198) (.tmp 204) rfl bs1 td.bs hbs1.out HX.out.2.2.2.1.2.2 rfl rfl true (decide_eq_true hq2)) HS_ ?_
                    simp only [Act.put,aS,aC,aZ]
                    refine tH 21 206 rfl rfl (gRun rfl (.bool true) fun _ h=>yA6 (.tmp 196) (.tmp 205) (.const (.bool false)) rfl true (.bool true) rfl rfl) HS_ ?_
                    simp only [Act.put,aS,aC,aZ]
                    refine tH 22 28 rfl rfl (gRun rfl (.bool true) fun _ h=>yE7 (.tmp 206) rfl (.bool true) rfl) HS_ ?_
                    simp only [Act.put,aS,aC,aZ]
                    refine wpAnyH_done (by kernel_rfl) ?_ _
                    clear HE
                    cases hfl:td.fl with
                    | false =>
                     go_upto_region 49 with fail
                     refine wp_region_lit ?_
                     refine wm 10 u10 ?_
                     simp only [Act.put,aS,aC,aZ]
                     refine wm 24 (.int .i64 (k:Nat)) ?_
                     simp only [Act.put,aS,aC,aZ]
                     refine wl rfl (.pointer (some ⟨g2,k * 7,none⟩)) _ (yD5 (.tmp 207) (.tmp 208) rfl _ _ _ rfl rfl HX.out.1) ?_
                     simp only [Act.put,aS,aC,aZ]
                     refine wl rfl (.pointer (some ⟨g2,k * 7+6,none⟩)) _ (yA3 f48_3 (.tmp 209) rfl g2 (k * 7) rfl) ?_
                     simp only [Act.put,aS,aC,aZ]
                     refine wl rfl (.bool false) _ (yA7 o4 (.tmp 210) rfl g2 (k * 7+6) rfl (.bool false) (by have h9:=HX.out.2.1 _ HG.out.2.2 6 _ rfl;rw [hfl] at h9;exact h9)) ?_
                     simp only [Act.put,aS,aC,aZ]
                     refine wm 211 (.bool false) ?_
                     simp only [Act.put,aS,aC,aZ]
                     with_reducible refine wpList_skip (by kernel_rfl) ?_
                     simp only [Act.put,aS,aC,aZ]
                     with_reducible refine wpList_skip (by kernel_rfl) ?_
                     simp only [Act.put,aS,aC,aZ]
                     refine wl rfl (.bool false) _ (yA6 (.tmp 212) (.tmp 214) (.const (.bool false)) rfl false (.bool false) rfl rfl) ?_
                     simp only [Act.put,aS,aC,aZ]
                     refine wpList_nil ?_
                     go_upto_region 51 with fail
                     refine wp_region_lit ?_
                     refine wm 28 (.bool true) ?_
                     simp only [Act.put,aS,aC,aZ]
                     refine wm 216 (.bool true) ?_
                     simp only [Act.put,aS,aC,aZ]
                     with_reducible refine wpList_skip (by kernel_rfl) ?_
                     simp only [Act.put,aS,aC,aZ]
                     with_reducible refine wpList_skip (by kernel_rfl) ?_
                     simp only [Act.put,aS,aC,aZ]
                     refine wl rfl (.bool true) _ (yA6 (.tmp 217) (.const (.bool true)) (.tmp 219) rfl true (.bool true) rfl rfl) ?_
                     simp only [Act.put,aS,aC,aZ]
                     refine wpList_nil ?_
                     go_upto_region 46 with fail
                     refine wp_region_lit ?_
                     refine wm 24 (.int .i64 (k:Nat)) ?_
                     simp only [Act.put,aS,aC,aZ]
                     refine wl rfl (.int .i64 ((k+1:Nat):Int)) _ (yC8 (.tmp 172) (.const (.int .i64 1)) rfl (k:Nat) 1 _ rfl rfl (by omega) (by omega) (by have:=HTL;omega)) ?_
                     simp only [Act.put,aS,aC,aZ]
                     refine wa (.tmp 173) (.int .i64 ((k+1:Nat):Int)) ?_
                     simp only [Act.put,aS,aC,aZ]
                     refine wpList_nil ?_
                     go_wp2_with fail
                     exact ⟨⟨k+1,rfl,by omega,HG.out.1⟩,by simp [intOf];omega⟩
                    | true =>
                     go_upto_region 49 with fail
                     refine wp_region_lit ?_
                     refine wm 10 u10 ?_
                     simp only [Act.put,aS,aC,aZ]
                     refine wm 24 (.int .i64 (k:Nat)) ?_
                     simp only [Act.put,aS,aC,aZ]
                     refine wl rfl (.pointer (some ⟨g2,k * 7,none⟩)) _ (yD5 (.tmp 207) (.tmp 208) rfl _ _ _ rfl rfl HX.out.1) ?_
                     simp only [Act.put,aS,aC,aZ]
                     refine wl rfl (.pointer (some ⟨g2,k * 7+6,none⟩)) _ (yA3 f48_3 (.tmp 209) rfl g2 (k * 7) rfl) ?_
                     simp only [Act.put,aS,aC,aZ]
                     refine wl rfl (.bool true) _ (yA7 o4 (.tmp 210) rfl g2 (k * 7+6) rfl (.bool true) (by have h9:=HX.out.2.1 _ HG.out.2.2 6 _ rfl;rw [hfl] at h9;exact h9)) ?_
                     simp only [Act.put,aS,aC,aZ]
                     refine wm 211 (.bool true) ?_
                     simp only [Act.put,aS,aC,aZ]
                     refine wl (by kernel_rfl) (.bool true) _ (yA4 (.tmp 28) rfl (.bool true) rfl) ?_
                     simp only [Act.put,aS,aC,aZ]
                     refine wl (by kernel_rfl) (.bool false) _ (yH3 (.tmp 213) 4 rfl true rfl) ?_
                     simp only [Act.put,aS,aC,aZ]
                     refine wl rfl (.bool false) _ (yA6 (.tmp 212) (.tmp 214) (.const (.bool false)) rfl true (.bool false) rfl rfl) ?_
                     simp only [Act.put,aS,aC,aZ]
                     refine wpList_nil ?_
                     go_upto_region 51 with fail
                     refine wp_region_lit ?_
                     refine wm 28 (.bool true) ?_
                     simp only [Act.put,aS,aC,aZ]
                     refine wm 216 (.bool true) ?_
                     simp only [Act.put,aS,aC,aZ]
                     with_reducible refine wpList_skip (by kernel_rfl) ?_
                     simp only [Act.put,aS,aC,aZ]
                     with_reducible refine wpList_skip (by kernel_rfl) ?_
                     simp only [Act.put,aS,aC,aZ]
                     refine wl rfl (.bool true) _ (yA6 (.tmp 217) (.const (.bool true)) (.tmp 219) rfl true (.bool true) rfl rfl) ?_
                     simp only [Act.put,aS,aC,aZ]
                     refine wpList_nil ?_
                     go_upto_region 46 with fail
                     refine wp_region_lit ?_
                     refine wm 24 (.int .i64 (k:Nat)) ?_
                     simp only [Act.put,aS,aC,aZ]
                     refine wl rfl (.int .i64 ((k+1:Nat):Int)) _ (yC8 (.tmp 172) (.const (.int .i64 1)) rfl (k:Nat) 1 _ rfl rfl (by omega) (by omega) (by have:=HTL;omega)) ?_
                     simp only [Act.put,aS,aC,aZ]
                     refine wa (.tmp 173) (.int .i64 ((k+1:Nat):Int)) ?_
                     simp only [Act.put,aS,aC,aZ]
                     refine wpList_nil ?_
                     go_wp2_with fail
                     exact ⟨⟨k+1,rfl,by omega,HG.out.1⟩,by simp [intOf];omega⟩
                  ·as_aux_lemma =>
                    have hfl:td.fl=false:=(by cases e:td.fl with|false=>rfl|true=>exact absurd (hflr e) hsm)
                    have hff:Hid (td.fl=false):=hfl
                    go_upto_region 48 with fail
                    go_cut [28] from 168 to 206 (fun v28 W=>v28 = .bool false∧Hid (((Jm w W c3 gp gw most m3 T u10 q5 [k0,k1] (16 * i))∧Cr (ctn m3 0) (m3.fl 0) P3 T∧m3.on=true)∧yA2 W vb1 bs1∧Below E0.heap.size E0 W))
                    case first =>
                     by_cases hq1:id1=td.id
                     ·as_aux_lemma =>
                       have hq2:¬ bs1=td.bs:=fun e=>hsm ⟨hq1,e⟩
                       go_upto_region 48 with fail
                       refine wp_region_held (S:=fun X=>Below E0.heap.size E0 X∧yA2 X vb1 bs1) (by kernel_rfl) ?_
                       show wpAnyH _ _ _ _ _ 23 (Array.replicate 23 false) _ _
                       obtain ⟨E2,hX⟩:∃E2:World,E2 = { E1 with drawn:=E1.drawn+1 }:=⟨_,rfl⟩
                       rw [←hX]
                       have HS_:Below E0.heap.size E0 E2∧yA2 E2 vb1 bs1:=(by rw [hX];exact ⟨HF.out.2.2.trans ⟨rfl,rfl,rfl,Nat.le_refl _,fun _ _=>rfl⟩,HF.out.2.1.later ⟨rfl,rfl,rfl,Nat.le_refl _,fun _ _=>rfl⟩⟩)
                       have HG:Hid (((Jm w E2 c3 gp gw most m3 T u10 q5 [k0,k1] (16 * i))∧Cr (ctn m3 0) (m3.fl 0) P3 T∧m3.on=true)∧yA2 E2 vb1 bs1∧Below E0.heap.size E0 E2):=(by rw [hX];exact ⟨⟨HF.out.1.1.bel ⟨rfl,rfl,rfl,Nat.le_refl _,fun _ _=>rfl⟩,HF.out.1.2⟩,HF.out.2.1.later ⟨rfl,rfl,rfl,Nat.le_refl _,fun _ _=>rfl⟩,HF.out.2.2.trans ⟨rfl,rfl,rfl,Nat.le_refl _,fun _ _=>rfl⟩⟩)
                       clear HF
                       clear hX
                       refine tH 0 185 rfl rfl (gRun rfl (.int .i64 0) fun _ h=>yA4 (.tmp 27) rfl (.int .i64 0) rfl) HS_ ?_
                       simp only [Act.put,aS,aC,aZ]
                       refine tH 1 186 rfl rfl (gRun rfl (.bool true) fun _ h=>yC6 (.tmp 185) (.const (.int .i64 0)) rfl 0 0 rfl rfl true rfl) HS_ ?_
                       simp only [Act.put,aS,aC,aZ]
                       refine tH 2 187 rfl rfl (gRun rfl (.bool true) fun _ h=>yA4 (.tmp 186) rfl (.bool true) rfl) HS_ ?_
                       simp only [Act.put,aS,aC,aZ]
                       refine tH 3 188 rfl rfl (gRun (by kernel_rfl) (str id1) fun _ h=>yA4 (.tmp 25) rfl (str id1) rfl) HS_ ?_
                       simp only [Act.put,aS,aC,aZ]
                       refine tH 4 189 rfl rfl (gRun (by kernel_rfl) u10 fun _ h=>yA4 (.tmp 10) rfl u10 rfl) HS_ ?_
                       simp only [Act.put,aS,aC,aZ]
                       refine tH 5 190 rfl rfl (gRun (by kernel_rfl) (.int .i64 (k:Nat)) fun _ h=>yA4 (.tmp 24) rfl (.int .i64 (k:Nat)) rfl) HS_ ?_
                       simp only [Act.put,aS,aC,aZ]
                       refine tH 6 191 rfl rfl (gRun (by kernel_rfl) (.pointer (some ⟨g2,k * 7,none⟩)) fun _ h=>yD5 (.tmp 189) (.tmp 190) rfl _ _ _ rfl rfl HX.out.1) HS_ ?_
                       simp only [Act.put,aS,aC,aZ]
                       refine tH 7 192 rfl rfl (gRun (by kernel_rfl) (.pointer (some ⟨g2,k * 7+0,none⟩)) fun _ h=>yA3 f48_0 (.tmp 191) rfl g2 (k * 7) rfl) HS_ ?_
                       simp only [Act.put,aS,aC,aZ]
                       refine tH 8 193 rfl rfl (gRun (by kernel_rfl) (str td.id) fun _ h=>yA7 o9 (.tmp 192) rfl g2 (k * 7+0) rfl (str td.id) (HX.out.2.1 _ h.1 0 _ rfl)) HS_ ?_
                       simp only [Act.put,aS,aC,aZ]
                       refine tH 9 194 rfl rfl (gRun (by kernel_rfl) (.bool true) fun _ h=>yI6 (.tmp 188) (.tmp 193) rfl id1 td.id hid1.out (nameB_lt HX.out.2.2.2.1.1) rfl rfl true (decide_eq_true hq1)) HS_ ?_
                       simp only [Act.put,aS,aC,aZ]
                       refine tH 10 195 rfl rfl (gRun rfl (.bool true) fun _ h=>yA6 (.tmp 187) (.tmp 194) (.const (.bool false)) rfl true (.bool true) rfl rfl) HS_ ?_
                       simp only [Act.put,aS,aC,aZ]
                       refine tH 11 196 rfl rfl (gRun rfl (.bool true) fun _ h=>yA4 (.tmp 195) rfl (.bool true) rfl) HS_ ?_
                       simp only [Act.put,aS,aC,aZ]
                       refine tH 12 197 rfl rfl (gRun (by kernel_rfl) vb1 fun _ h=>yA4 (.tmp 26) rfl vb1 rfl) HS_ ?_
                       simp only [Act.put,aS,aC,aZ]
                       refine tH 13 198 rfl rfl (gRun (by kernel_rfl) (str bs1) fun _ h=>yI3 (.tmp 197) rfl vb1 bs1 rfl h.2) HS_ ?_
                       simp only [Act.put,aS,aC,aZ]
                       refine tH 14 199 rfl rfl (gRun (by kernel_rfl) u10 fun _ h=>yA4 (.tmp 10) rfl u10 rfl) HS_ ?_
                       simp only [Act.put,aS,aC,aZ]
                       refine tH 15 200 rfl rfl (gRun (by kernel_rfl) (.int .i64 (k:Nat)) fun _ h=>yA4 (.tmp 24) rfl (.int .i64 (k:Nat)) rfl) HS_ ?_
                       simp only [Act.put,aS,aC,aZ]
                       refine tH 16 201 rfl rfl (gRun (by kernel_rfl) (.pointer (some ⟨g2,k * 7,none⟩)) fun _ h=>yD5 (.tmp 199) (.tmp 200) rfl _ _ _ rfl rfl HX.out.1) HS_ ?_
                       simp only [Act.put,aS,aC,aZ]
                       refine tH 17 202 rfl rfl (gRun (by kernel_rfl) (.pointer (some ⟨g2,k * 7+1,none⟩)) fun _ h=>yA3 f48_1 (.tmp 201) rfl g2 (k * 7) rfl) HS_ ?_
                       simp only [Act.put,aS,aC,aZ]
                       refine tH 18 203 rfl rfl (gRun (by kernel_rfl) vb fun _ h=>yA7 o38 (.tmp 202) rfl g2 (k * 7+1) rfl vb (HX.out.2.1 _ h.1 1 _ rfl)) HS_ ?_
                       simp only [Act.put,aS,aC,aZ]
                       refine tH 19 204 rfl rfl (gRun (by kernel_rfl) (str td.bs) fun _ h=>yI3 (.tmp 203) rfl vb td.bs rfl (HX.out.2.2.1.later h.1)) HS_ ?_
                       simp only [Act.put,aS,aC,aZ]
                       refine tH 20 205 rfl rfl (gRun (by kernel_rfl) (.bool false) fun _ h=>yI6 (.tmp 198) (.tmp 204) rfl bs1 td.bs hbs1.out HX.out.2.2.2.1.2.2 rfl rfl false (decide_eq_false hq2)) HS_ ?_
                       simp only [Act.put,aS,aC,aZ]
                       refine tH 21 206 rfl rfl (gRun rfl (.bool false) fun _ h=>yA6 (.tmp 196) (.tmp 205) (.const (.bool false)) rfl true (.bool false) rfl rfl) HS_ ?_
                       simp only [Act.put,aS,aC,aZ]
                       refine tH 22 28 rfl rfl (gRun rfl (.bool false) fun _ h=>yE7 (.tmp 206) rfl (.bool false) rfl) HS_ ?_
                       simp only [Act.put,aS,aC,aZ]
                       refine wpAnyH_done (by kernel_rfl) ?_ _
                       go_wp2_with fail
                       go_meet
                       case rel=>exact ⟨rfl,HG.out⟩
                     ·go_upto_region 48 with fail
                      refine wp_region_held (S:=fun X=>Below E0.heap.size E0 X∧yA2 X vb1 bs1) (by kernel_rfl) ?_
                      show wpAnyH _ _ _ _ _ 23 (Array.replicate 23 false) _ _
                      obtain ⟨E2,hX⟩:∃E2:World,E2 = { E1 with drawn:=E1.drawn+1 }:=⟨_,rfl⟩
                      rw [←hX]
                      have HS_:Below E0.heap.size E0 E2∧yA2 E2 vb1 bs1:=(by rw [hX];exact ⟨HF.out.2.2.trans ⟨rfl,rfl,rfl,Nat.le_refl _,fun _ _=>rfl⟩,HF.out.2.1.later ⟨rfl,rfl,rfl,Nat.le_refl _,fun _ _=>rfl⟩⟩)
                      have HG:Hid (((Jm w E2 c3 gp gw most m3 T u10 q5 [k0,k1] (16 * i))∧Cr (ctn m3 0) (m3.fl 0) P3 T∧m3.on=true)∧yA2 E2 vb1 bs1∧Below E0.heap.size E0 E2):=(by rw [hX];exact ⟨⟨HF.out.1.1.bel ⟨rfl,rfl,rfl,Nat.le_refl _,fun _ _=>rfl⟩,HF.out.1.2⟩,HF.out.2.1.later ⟨rfl,rfl,rfl,Nat.le_refl _,fun _ _=>rfl⟩,HF.out.2.2.trans ⟨rfl,rfl,rfl,Nat.le_refl _,fun _ _=>rfl⟩⟩)
                      clear HF
                      clear hX
                      refine tH 0 185 rfl rfl (gRun rfl (.int .i64 0) fun _ h=>yA4 (.tmp 27) rfl (.int .i64 0) rfl) HS_ ?_
                      simp only [Act.put,aS,aC,aZ]
                      refine tH 1 186 rfl rfl (gRun rfl (.bool true) fun _ h=>yC6 (.tmp 185) (.const (.int .i64 0)) rfl 0 0 rfl rfl true rfl) HS_ ?_
                      simp only [Act.put,aS,aC,aZ]
                      refine tH 2 187 rfl rfl (gRun rfl (.bool true) fun _ h=>yA4 (.tmp 186) rfl (.bool true) rfl) HS_ ?_
                      simp only [Act.put,aS,aC,aZ]
                      refine tH 3 188 rfl rfl (gRun (by kernel_rfl) (str id1) fun _ h=>yA4 (.tmp 25) rfl (str id1) rfl) HS_ ?_
                      simp only [Act.put,aS,aC,aZ]
                      refine tH 4 189 rfl rfl (gRun (by kernel_rfl) u10 fun _ h=>yA4 (.tmp 10) rfl u10 rfl) HS_ ?_
                      simp only [Act.put,aS,aC,aZ]
                      refine tH 5 190 rfl rfl (gRun (by kernel_rfl) (.int .i64 (k:Nat)) fun _ h=>yA4 (.tmp 24) rfl (.int .i64 (k:Nat)) rfl) HS_ ?_
                      simp only [Act.put,aS,aC,aZ]
                      refine tH 6 191 rfl rfl (gRun (by kernel_rfl) (.pointer (some ⟨g2,k * 7,none⟩)) fun _ h=>yD5 (.tmp 189) (.tmp 190) rfl _ _ _ rfl rfl HX.out.1) HS_ ?_
                      simp only [Act.put,aS,aC,aZ]
                      refine tH 7 192 rfl rfl (gRun (by kernel_rfl) (.pointer (some ⟨g2,k * 7+0,none⟩)) fun _ h=>yA3 f48_0 (.tmp 191) rfl g2 (k * 7) rfl) HS_ ?_
                      simp only [Act.put,aS,aC,aZ]
                      refine tH 8 193 rfl rfl (gRun (by kernel_rfl) (str td.id) fun _ h=>yA7 o9 (.tmp 192) rfl g2 (k * 7+0) rfl (str td.id) (HX.out.2.1 _ h.1 0 _ rfl)) HS_ ?_
                      simp only [Act.put,aS,aC,aZ]
                      refine tH 9 194 rfl rfl (gRun (by kernel_rfl) (.bool false) fun _ h=>yI6 (.tmp 188) (.tmp 193) rfl id1 td.id hid1.out (nameB_lt HX.out.2.2.2.1.1) rfl rfl false (decide_eq_false hq1)) HS_ ?_
                      simp only [Act.put,aS,aC,aZ]
                      refine tH 10 195 rfl rfl (gRun rfl (.bool false) fun _ h=>yA6 (.tmp 187) (.tmp 194) (.const (.bool false)) rfl true (.bool false) rfl rfl) HS_ ?_
                      simp only [Act.put,aS,aC,aZ]
                      refine tH 11 196 rfl rfl (gRun rfl (.bool false) fun _ h=>yA4 (.tmp 195) rfl (.bool false) rfl) HS_ ?_
                      simp only [Act.put,aS,aC,aZ]
                      refine tH 12 197 rfl rfl (Or.inr ⟨by kernel_rfl,rfl⟩) HS_ ?_
                      simp only [Act.put,aS,aC,aZ]
                      refine tH 13 198 rfl rfl (Or.inr ⟨by kernel_rfl,rfl⟩) HS_ ?_
                      simp only [Act.put,aS,aC,aZ]
                      refine tH 14 199 rfl rfl (Or.inr ⟨by kernel_rfl,rfl⟩) HS_ ?_
                      simp only [Act.put,aS,aC,aZ]
                      refine tH 15 200 rfl rfl (Or.inr ⟨by kernel_rfl,rfl⟩) HS_ ?_
                      simp only [Act.put,aS,aC,aZ]
                      refine tH 16 201 rfl rfl (Or.inr ⟨by kernel_rfl,rfl⟩) HS_ ?_
                      simp only [Act.put,aS,aC,aZ]
                      refine tH 17 202 rfl rfl (Or.inr ⟨by kernel_rfl,rfl⟩) HS_ ?_
                      simp only [Act.put,aS,aC,aZ]
                      refine tH 18 203 rfl rfl (Or.inr ⟨by kernel_rfl,rfl⟩) HS_ ?_
                      simp only [Act.put,aS,aC,aZ]
                      refine tH 19 204 rfl rfl (Or.inr ⟨by kernel_rfl,rfl⟩) HS_ ?_
                      simp only [Act.put,aS,aC,aZ]
                      refine tH 20 205 rfl rfl (Or.inr ⟨by kernel_rfl,rfl⟩) HS_ ?_
                      simp only [Act.put,aS,aC,aZ]
                      refine tH 21 206 rfl rfl (gRun rfl (.bool false) fun _ h=>yA6 (.tmp 196) (.tmp 205) (.const (.bool false)) rfl false (.bool false) rfl rfl) HS_ ?_
                      simp only [Act.put,aS,aC,aZ]
                      refine tH 22 28 rfl rfl (gRun rfl (.bool false) fun _ h=>yE7 (.tmp 206) rfl (.bool false) rfl) HS_ ?_
                      simp only [Act.put,aS,aC,aZ]
                      refine wpAnyH_done (by kernel_rfl) ?_ _
                      go_wp2_with fail
                      go_meet
                      case rel=>exact ⟨rfl,HG.out⟩
                    case rest =>
                     as_aux_lemma =>
                      obtain ⟨rfl,HI⟩:=hcut
                      obtain ⟨E2,hE2⟩:∃X,X=wc:=⟨_,rfl⟩
                      subst hE2
                      have HG:Hid (((Jm w E2 c3 gp gw most m3 T u10 q5 [k0,k1] (16 * i))∧Cr (ctn m3 0) (m3.fl 0) P3 T∧m3.on=true)∧yA2 E2 vb1 bs1∧Below E0.heap.size E0 E2):=HI.out
                      clear HI HF HE
                      go_upto_region 49 with fail
                      refine wp_region_lit ?_
                      refine wm 10 u10 ?_
                      simp only [Act.put,aS,aC,aZ]
                      refine wm 24 (.int .i64 (k:Nat)) ?_
                      simp only [Act.put,aS,aC,aZ]
                      refine wl rfl (.pointer (some ⟨g2,k * 7,none⟩)) _ (yD5 (.tmp 207) (.tmp 208) rfl _ _ _ rfl rfl HX.out.1) ?_
                      simp only [Act.put,aS,aC,aZ]
                      refine wl rfl (.pointer (some ⟨g2,k * 7+6,none⟩)) _ (yA3 f48_3 (.tmp 209) rfl g2 (k * 7) rfl) ?_
                      simp only [Act.put,aS,aC,aZ]
                      refine wl rfl (.bool false) _ (yA7 o4 (.tmp 210) rfl g2 (k * 7+6) rfl (.bool false) (by have h9:=HX.out.2.1 _ HG.out.2.2 6 _ rfl;rw [hfl] at h9;exact h9)) ?_
                      simp only [Act.put,aS,aC,aZ]
                      refine wm 211 (.bool false) ?_
                      simp only [Act.put,aS,aC,aZ]
                      with_reducible refine wpList_skip (by kernel_rfl) ?_
                      simp only [Act.put,aS,aC,aZ]
                      with_reducible refine wpList_skip (by kernel_rfl) ?_
                      simp only [Act.put,aS,aC,aZ]
                      refine wl rfl (.bool false) _ (yA6 (.tmp 212) (.tmp 214) (.const (.bool false)) rfl false (.bool false) rfl rfl) ?_
                      simp only [Act.put,aS,aC,aZ]
                      refine wpList_nil ?_
                      go_upto_region 51 with fail
                      refine wp_region_lit ?_
                      refine wm 28 (.bool false) ?_
                      simp only [Act.put,aS,aC,aZ]
                      refine wm 216 (.bool false) ?_
                      simp only [Act.put,aS,aC,aZ]
                      refine wl (by kernel_rfl) (.int .i64 0) _ (yA4 (.tmp 27) rfl (.int .i64 0) rfl) ?_
                      simp only [Act.put,aS,aC,aZ]
                      refine wl (by kernel_rfl) (.bool false) _ (yC6 (.tmp 218) (.const (.int .i64 4)) rfl 0 4 rfl rfl false rfl) ?_
                      simp only [Act.put,aS,aC,aZ]
                      refine wl rfl (.bool false) _ (yA6 (.tmp 217) (.const (.bool true)) (.tmp 219) rfl false (.bool false) rfl rfl) ?_
                      simp only [Act.put,aS,aC,aZ]
                      refine wpList_nil ?_
                      go_upto_region 52 with fail
                      refine wp_region_lit ?_
                      refine wa (.const (.bool false)) (.bool false) ?_
                      simp only [Act.put,aS,aC,aZ]
                      refine wpList_nil ?_
                      go_upto_region 53 with fail
                      refine wp_region_lit ?_
                      refine wa (.const (.int .i64 0)) (.int .i64 0) ?_
                      simp only [Act.put,aS,aC,aZ]
                      refine wpList_nil ?_
                      obtain ⟨Mt,hMt⟩:∃Mt:Nat→Prop,Mt=(fun j=>j≠k∧(T.getD j default).id=id1∧(T.getD j default).bs=bs1∧(T.getD j default).d=td.d∧(T.getD j default).a=td.a∧(T.getD j default).n=td.n):=⟨_,rfl⟩
                      have HMT:Hid (Mt=(fun j=>j≠k∧(T.getD j default).id=id1∧(T.getD j default).bs=bs1∧(T.getD j default).d=td.d∧(T.getD j default).a=td.a∧(T.getD j default).n=td.n)):=hMt
                      clear hMt
                      go_wp2_with fail
                      go_loopw [29,30] (fun v29 v30 W => ∃(j:Nat) (ob:Bool),v29 = .bool ob∧v30 = .int .i64 (j:Nat)∧j≤T.length∧((∃x,x<j∧Mt x)→ob=true)∧Hid (((Jm w W c3 gp gw most m3 T u10 q5 [k0,k1] (16 * i))∧Cr (ctn m3 0) (m3.fl 0) P3 T∧m3.on=true)∧yA2 W vb1 bs1∧Below E0.heap.size E0 W)) (fun _ v30 _=>T.length - (intOf v30).toNat)
                      case atStart=>exact ⟨0,false,rfl,rfl,Nat.zero_le _,fun ⟨x,hx,_⟩=>absurd hx (Nat.not_lt_zero _),HG.out⟩
                      case round =>
                       obtain ⟨j,ob,rfl,rfl,hjT,hmt,HI⟩:=hrel
                       obtain ⟨E3,hE3⟩:∃X,X=wr:=⟨_,rfl⟩
                       subst hE3
                       have HL:Hid (((Jm w E3 c3 gp gw most m3 T u10 q5 [k0,k1] (16 * i))∧Cr (ctn m3 0) (m3.fl 0) P3 T∧m3.on=true)∧yA2 E3 vb1 bs1∧Below E0.heap.size E0 E3):=HI.out
                       clear HI HG
                       by_cases hjl:j<T.length
                       ·as_aux_lemma =>
                         go_upto_region 54 with fail
                         refine wp_region_lit ?_
                         refine wm 30 (.int .i64 (j:Nat)) ?_
                         simp only [Act.put,aS,aC,aZ]
                         refine wm 10 u10 ?_
                         simp only [Act.put,aS,aC,aZ]
                         refine wl rfl (.int .i64 (T.length:Nat)) _ (run_lenT HL.out.1.1.t (.tmp 222) rfl rfl) ?_
                         simp only [Act.put,aS,aC,aZ]
                         refine wl rfl (.bool true) _ (yB8 (.tmp 221) (.tmp 223) rfl (j:Nat) (T.length:Nat) rfl rfl true (decide_eq_true (by omega))) ?_
                         simp only [Act.put,aS,aC,aZ]
                         refine wpList_nil ?_
                         obtain ⟨vj,gj,hx_,hc_,hsl_⟩:=HL.out.1.1.el j hjl
                         obtain ⟨tj,htj⟩:∃t,t=T.getD j default:=⟨_,rfl⟩
                         have htok_:=HL.out.1.2.1.td j hjl
                         rw [←htj] at hc_ hsl_ htok_
                         have HY:Hid ((∀w',(Instr.indexAt 35 u10 (.int .i64 (j:Nat))).run Tryd.prog w' = .ok (.pointer (some ⟨gj,j * 7,none⟩)) w')∧(∀W':World,Below E3.heap.size E3 W'→∀i u,(tdC tj vj)[i]? = some u→W'.cell? ⟨gj,j * 7+i,none⟩=some u)∧yA2 E3 vj tj.bs∧OkOb (tj.id,tj.bs)∧tj=T.getD j default):=⟨hx_,hc_,hsl_,htok_.1,htj⟩
                         clear hx_ hc_ hsl_ htok_ htj
                         cases ob with
                         | true =>
                          as_aux_lemma =>
                           go_upto_region 56 with fail
                           refine wp_region_held (S:=fun X=>Below E0.heap.size E0 X∧yA2 X vb1 bs1∧Below E3.heap.size E3 X) (by kernel_rfl) ?_
                           show wpAnyH _ _ _ _ _ 40 (Array.replicate 40 false) _ _
                           obtain ⟨E4,hX⟩:∃E4:World,E4 = { E3 with drawn:=E3.drawn+1 }:=⟨_,rfl⟩
                           rw [←hX]
                           have HS_:Below E0.heap.size E0 E4∧yA2 E4 vb1 bs1∧Below E3.heap.size E3 E4:=(by rw [hX];exact ⟨HL.out.2.2.trans ⟨rfl,rfl,rfl,Nat.le_refl _,fun _ _=>rfl⟩,HL.out.2.1.later ⟨rfl,rfl,rfl,Nat.le_refl _,fun _ _=>rfl⟩,⟨rfl,rfl,rfl,Nat.le_refl _,fun _ _=>rfl⟩⟩)
                           have HN:Hid (((Jm w E4 c3 gp gw most m3 T u10 q5 [k0,k1] (16 * i))∧Cr (ctn m3 0) (m3.fl 0) P3 T∧m3.on=true)∧yA2 E4 vb1 bs1∧Below E0.heap.size E0 E4):=(by rw [hX];exact ⟨⟨HL.out.1.1.bel ⟨rfl,rfl,rfl,Nat.le_refl _,fun _ _=>rfl⟩,HL.out.1.2⟩,HL.out.2.1.later ⟨rfl,rfl,rfl,Nat.le_refl _,fun _ _=>rfl⟩,HL.out.2.2.trans ⟨rfl,rfl,rfl,Nat.le_refl _,fun _ _=>rfl⟩⟩)
                           clear HL
                           clear hX
                           refine tH 0 227 rfl rfl (gRun rfl (.bool true) fun _ h=>yA4 (.tmp 29) rfl (.bool true) rfl) HS_ ?_
                           simp only [Act.put,aS,aC,aZ]
                           refine tH 1 228 rfl rfl (gRun rfl (.bool true) fun _ h=>yA4 (.tmp 227) rfl (.bool true) rfl) HS_ ?_
                           simp only [Act.put,aS,aC,aZ]
                           refine tH 2 229 rfl rfl (Or.inr ⟨by kernel_rfl,rfl⟩) HS_ ?_
                           simp only [Act.put,aS,aC,aZ]
                           refine tH 3 230 rfl rfl (Or.inr ⟨by kernel_rfl,rfl⟩) HS_ ?_
                           simp only [Act.put,aS,aC,aZ]
                           refine tH 4 231 rfl rfl (Or.inr ⟨by kernel_rfl,rfl⟩) HS_ ?_
                           simp only [Act.put,aS,aC,aZ]
                           refine tH 5 232 rfl rfl (Or.inr ⟨by kernel_rfl,rfl⟩) HS_ ?_
                           simp only [Act.put,aS,aC,aZ]
                           refine tH 6 233 rfl rfl (Or.inr ⟨by kernel_rfl,rfl⟩) HS_ ?_
                           simp only [Act.put,aS,aC,aZ]
                           refine tH 7 234 rfl rfl (Or.inr ⟨by kernel_rfl,rfl⟩) HS_ ?_
                           simp only [Act.put,aS,aC,aZ]
                           refine tH 8 235 rfl rfl (Or.inr ⟨by kernel_rfl,rfl⟩) HS_ ?_
                           simp only [Act.put,aS,aC,aZ]
                           refine tH 9 236 rfl rfl (Or.inr ⟨by kernel_rfl,rfl⟩) HS_ ?_
                           simp only [Act.put,aS,aC,aZ]
                           refine tH 10 237 rfl rfl (Or.inr ⟨by kernel_rfl,rfl⟩) HS_ ?_
                           simp only [Act.put,aS,aC,aZ]
                           refine tH 11 238 rfl rfl (Or.inr ⟨by kernel_rfl,rfl⟩) HS_ ?_
                           simp only [Act.put,aS,aC,aZ]
                           refine tH 12 239 rfl rfl (Or.inr ⟨by kernel_rfl,rfl⟩) HS_ ?_
                           simp only [Act.put,aS,aC,aZ]
                           refine tH 13 240 rfl rfl (Or.inr ⟨by kernel_rfl,rfl⟩) HS_ ?_
                           simp only [Act.put,aS,aC,aZ]
                           refine tH 14 241 rfl rfl (Or.inr ⟨by kernel_rfl,rfl⟩) HS_ ?_
                           simp only [Act.put,aS,aC,aZ]
                           refine tH 15 242 rfl rfl (Or.inr ⟨by kernel_rfl,rfl⟩) HS_ ?_
                           simp only [Act.put,aS,aC,aZ]
                           refine tH 16 243 rfl rfl (Or.inr ⟨by kernel_rfl,rfl⟩) HS_ ?_
                           simp only [Act.put,aS,aC,aZ]
                           refine tH 17 244 rfl rfl (Or.inr ⟨by kernel_rfl,rfl⟩) HS_ ?_
                           simp only [Act.put,aS,aC,aZ]
                           refine tH 18 245 rfl rfl (Or.inr ⟨by kernel_rfl,rfl⟩) HS_ ?_
                           simp only [Act.put,aS,aC,aZ]
                           refine tH 19 246 rfl rfl (Or.inr ⟨by kernel_rfl,rfl⟩) HS_ ?_
                           simp only [Act.put,aS,aC,aZ]
                           refine tH 20 247 rfl rfl (Or.inr ⟨by kernel_rfl,rfl⟩) HS_ ?_
                           simp only [Act.put,aS,aC,aZ]
                           refine tH 21 248 rfl rfl (Or.inr ⟨by kernel_rfl,rfl⟩) HS_ ?_
                           simp only [Act.put,aS,aC,aZ]
                           refine tH 22 249 rfl rfl (Or.inr ⟨by kernel_rfl,rfl⟩) HS_ ?_
                           simp only [Act.put,aS,aC,aZ]
                           refine tH 23 250 rfl rfl (Or.inr ⟨by kernel_rfl,rfl⟩) HS_ ?_
                           simp only [Act.put,aS,aC,aZ]
                           refine tH 24 251 rfl rfl (Or.inr ⟨by kernel_rfl,rfl⟩) HS_ ?_
                           simp only [Act.put,aS,aC,aZ]
                           refine tH 25 252 rfl rfl (Or.inr ⟨by kernel_rfl,rfl⟩) HS_ ?_
                           simp only [Act.put,aS,aC,aZ]
                           refine tH 26 253 rfl rfl (Or.inr ⟨by kernel_rfl,rfl⟩) HS_ ?_
                           simp only [Act.put,aS,aC,aZ]
                           refine tH 27 254 rfl rfl (Or.inr ⟨by kernel_rfl,rfl⟩) HS_ ?_
                           simp only [Act.put,aS,aC,aZ]
                           refine tH 28 255 rfl rfl (Or.inr ⟨by kernel_rfl,rfl⟩) HS_ ?_
                           simp only [Act.put,aS,aC,aZ]
                           refine tH 29 256 rfl rfl (Or.inr ⟨by kernel_rfl,rfl⟩) HS_ ?_
                           simp only [Act.put,aS,aC,aZ]
                           refine tH 30 257 rfl rfl (Or.inr ⟨by kernel_rfl,rfl⟩) HS_ ?_
                           simp only [Act.put,aS,aC,aZ]
                           refine tH 31 258 rfl rfl (Or.inr ⟨by kernel_rfl,rfl⟩) HS_ ?_
                           simp only [Act.put,aS,aC,aZ]
                           refine tH 32 259 rfl rfl (Or.inr ⟨by kernel_rfl,rfl⟩) HS_ ?_
                           simp only [Act.put,aS,aC,aZ]
                           refine tH 33 260 rfl rfl (Or.inr ⟨by kernel_rfl,rfl⟩) HS_ ?_
                           simp only [Act.put,aS,aC,aZ]
                           refine tH 34 261 rfl rfl (Or.inr ⟨by kernel_rfl,rfl⟩) HS_ ?_
                           simp only [Act.put,aS,aC,aZ]
                           refine tH 35 262 rfl rfl (Or.inr ⟨by kernel_rfl,rfl⟩) HS_ ?_
                           simp only [Act.put,aS,aC,aZ]
                           refine tH 36 263 rfl rfl (Or.inr ⟨by kernel_rfl,rfl⟩) HS_ ?_
                           simp only [Act.put,aS,aC,aZ]
                           refine tH 37 264 rfl rfl (Or.inr ⟨by kernel_rfl,rfl⟩) HS_ ?_
                           simp only [Act.put,aS,aC,aZ]
                           refine tH 38 265 rfl rfl (gRun rfl (.bool true) fun _ h=>yA6 (.tmp 228) (.const (.bool true)) (.tmp 264) rfl true (.bool true) rfl rfl) HS_ ?_
                           simp only [Act.put,aS,aC,aZ]
                           refine tH 39 29 rfl rfl (gRun rfl (.bool true) fun _ h=>yE7 (.tmp 265) rfl (.bool true) rfl) HS_ ?_
                           simp only [Act.put,aS,aC,aZ]
                           refine wpAnyH_done (by kernel_rfl) ?_ _
                           go_upto_region 55 with fail
                           refine wp_region_lit ?_
                           refine wm 30 (.int .i64 (j:Nat)) ?_
                           simp only [Act.put,aS,aC,aZ]
                           refine wl rfl (.int .i64 ((j+1:Nat):Int)) _ (yC8 (.tmp 225) (.const (.int .i64 1)) rfl (j:Nat) 1 _ rfl rfl (by omega) (by omega) (by have:=HTL;omega)) ?_
                           simp only [Act.put,aS,aC,aZ]
                           refine wa (.tmp 226) (.int .i64 ((j+1:Nat):Int)) ?_
                           simp only [Act.put,aS,aC,aZ]
                           refine wpList_nil ?_
                           go_wp2_with fail
                           exact ⟨⟨j+1,true,rfl,rfl,by omega,fun _=>rfl,HN⟩,by simp [intOf];omega⟩
                         | false =>
                          as_aux_lemma =>
                           by_cases hjk:j=k
                           ·as_aux_lemma =>
                             have hb1:(!decide (((j:Nat):Int)=((k:Nat):Int)))=false:=(by simp [hjk])
                             go_upto_region 56 with fail
                             refine wp_region_held (S:=fun X=>Below E0.heap.size E0 X∧yA2 X vb1 bs1∧Below E3.heap.size E3 X) (by kernel_rfl) ?_
                             show wpAnyH _ _ _ _ _ 40 (Array.replicate 40 false) _ _
                             obtain ⟨E4,hX⟩:∃E4:World,E4 = { E3 with drawn:=E3.drawn+1 }:=⟨_,rfl⟩
                             rw [←hX]
                             have HS_:Below E0.heap.size E0 E4∧yA2 E4 vb1 bs1∧Below E3.heap.size E3 E4:=(by rw [hX];exact ⟨HL.out.2.2.trans ⟨rfl,rfl,rfl,Nat.le_refl _,fun _ _=>rfl⟩,HL.out.2.1.later ⟨rfl,rfl,rfl,Nat.le_refl _,fun _ _=>rfl⟩,⟨rfl,rfl,rfl,Nat.le_refl _,fun _ _=>rfl⟩⟩)
                             have HN:Hid (((Jm w E4 c3 gp gw most m3 T u10 q5 [k0,k1] (16 * i))∧Cr (ctn m3 0) (m3.fl 0) P3 T∧m3.on=true)∧yA2 E4 vb1 bs1∧Below E0.heap.size E0 E4):=(by rw [hX];exact ⟨⟨HL.out.1.1.bel ⟨rfl,rfl,rfl,Nat.le_refl _,fun _ _=>rfl⟩,HL.out.1.2⟩,HL.out.2.1.later ⟨rfl,rfl,rfl,Nat.le_refl _,fun _ _=>rfl⟩,HL.out.2.2.trans ⟨rfl,rfl,rfl,Nat.le_refl _,fun _ _=>rfl⟩⟩)
                             clear HL
                             clear hX
                             refine tH 0 227 rfl rfl (gRun rfl (.bool false) fun _ h=>yA4 (.tmp 29) rfl (.bool false) rfl) HS_ ?_
                             simp only [Act.put,aS,aC,aZ]
                             refine tH 1 228 rfl rfl (gRun rfl (.bool false) fun _ h=>yA4 (.tmp 227) rfl (.bool false) rfl) HS_ ?_
                             simp only [Act.put,aS,aC,aZ]
                             refine tH 2 229 rfl rfl (gRun (by kernel_rfl) (.int .i64 (j:Nat)) fun _ h=>yA4 (.tmp 30) rfl (.int .i64 (j:Nat)) rfl) HS_ ?_
                             simp only [Act.put,aS,aC,aZ]
                             refine tH 3 230 rfl rfl (gRun (by kernel_rfl) (.int .i64 (k:Nat)) fun _ h=>yA4 (.tmp 24) rfl (.int .i64 (k:Nat)) rfl) HS_ ?_
                             simp only [Act.put,aS,aC,aZ]
                             refine tH 4 231 rfl rfl (gRun (by kernel_rfl) (.bool false) fun _ h=>yD1 (.tmp 229) (.tmp 230) rfl (j:Nat) (k:Nat) rfl rfl false hb1) HS_ ?_
                             simp only [Act.put,aS,aC,aZ]
                             refine tH 5 232 rfl rfl (gRun (by kernel_rfl) (.bool false) fun _ h=>yA4 (.tmp 231) rfl (.bool false) rfl) HS_ ?_
                             simp only [Act.put,aS,aC,aZ]
                             refine tH 6 233 rfl rfl (Or.inr ⟨by kernel_rfl,rfl⟩) HS_ ?_
                             simp only [Act.put,aS,aC,aZ]
                             refine tH 7 234 rfl rfl (Or.inr ⟨by kernel_rfl,rfl⟩) HS_ ?_
                             simp only [Act.put,aS,aC,aZ]
                             refine tH 8 235 rfl rfl (Or.inr ⟨by kernel_rfl,rfl⟩) HS_ ?_
                             simp only [Act.put,aS,aC,aZ]
                             refine tH 9 236 rfl rfl (Or.inr ⟨by kernel_rfl,rfl⟩) HS_ ?_
                             simp only [Act.put,aS,aC,aZ]
                             refine tH 10 237 rfl rfl (Or.inr ⟨by kernel_rfl,rfl⟩) HS_ ?_
                             simp only [Act.put,aS,aC,aZ]
                             refine tH 11 238 rfl rfl (Or.inr ⟨by kernel_rfl,rfl⟩) HS_ ?_
                             simp only [Act.put,aS,aC,aZ]
                             refine tH 12 239 rfl rfl (Or.inr ⟨by kernel_rfl,rfl⟩) HS_ ?_
                             simp only [Act.put,aS,aC,aZ]
                             refine tH 13 240 rfl rfl (Or.inr ⟨by kernel_rfl,rfl⟩) HS_ ?_
                             simp only [Act.put,aS,aC,aZ]
                             refine tH 14 241 rfl rfl (Or.inr ⟨by kernel_rfl,rfl⟩) HS_ ?_
                             simp only [Act.put,aS,aC,aZ]
                             refine tH 15 242 rfl rfl (Or.inr ⟨by kernel_rfl,rfl⟩) HS_ ?_
                             simp only [Act.put,aS,aC,aZ]
                             refine tH 16 243 rfl rfl (Or.inr ⟨by kernel_rfl,rfl⟩) HS_ ?_
                             simp only [Act.put,aS,aC,aZ]
                             refine tH 17 244 rfl rfl (gRun (by kernel_rfl) (.bool false) fun _ h=>yA6 (.tmp 232) (.tmp 243) (.const (.bool false)) rfl false (.bool false) rfl rfl) HS_ ?_
                             simp only [Act.put,aS,aC,aZ]
                             refine tH 18 245 rfl rfl (gRun (by kernel_rfl) (.bool false) fun _ h=>yA4 (.tmp 244) rfl (.bool false) rfl) HS_ ?_
                             simp only [Act.put,aS,aC,aZ]
                             refine tH 19 246 rfl rfl (Or.inr ⟨by kernel_rfl,rfl⟩) HS_ ?_
                             simp only [Act.put,aS,aC,aZ]
                             refine tH 20 247 rfl rfl (Or.inr ⟨by kernel_rfl,rfl⟩) HS_ ?_
                             simp only [Act.put,aS,aC,aZ]
                             refine tH 21 248 rfl rfl (Or.inr ⟨by kernel_rfl,rfl⟩) HS_ ?_
                             simp only [Act.put,aS,aC,aZ]
                             refine tH 22 249 rfl rfl (Or.inr ⟨by kernel_rfl,rfl⟩) HS_ ?_
                             simp only [Act.put,aS,aC,aZ]
                             refine tH 23 250 rfl rfl (Or.inr ⟨by kernel_rfl,rfl⟩) HS_ ?_
                             simp only [Act.put,aS,aC,aZ]
                             refine tH 24 251 rfl rfl (Or.inr ⟨by kernel_rfl,rfl⟩) HS_ ?_
                             simp only [Act.put,aS,aC,aZ]
                             refine tH 25 252 rfl rfl (Or.inr ⟨by kernel_rfl,rfl⟩) HS_ ?_
                             simp only [Act.put,aS,aC,aZ]
                             refine tH 26 253 rfl rfl (gRun (by kernel_rfl) (.bool false) fun _ h=>yA6 (.tmp 245) (.tmp 252) (.const (.bool false)) rfl false (.bool false) rfl rfl) HS_ ?_
                             simp only [Act.put,aS,aC,aZ]
                             refine tH 27 254 rfl rfl (gRun (by kernel_rfl) (.bool false) fun _ h=>yA4 (.tmp 253) rfl (.bool false) rfl) HS_ ?_
                             simp only [Act.put,aS,aC,aZ]
                             refine tH 28 255 rfl rfl (Or.inr ⟨by kernel_rfl,rfl⟩) HS_ ?_
                             simp only [Act.put,aS,aC,aZ]
                             refine tH 29 256 rfl rfl (Or.inr ⟨by kernel_rfl,rfl⟩) HS_ ?_
                             simp only [Act.put,aS,aC,aZ]
                             refine tH 30 257 rfl rfl (Or.inr ⟨by kernel_rfl,rfl⟩) HS_ ?_
                             simp only [Act.put,aS,aC,aZ]
                             refine tH 31 258 rfl rfl (Or.inr ⟨by kernel_rfl,rfl⟩) HS_ ?_
                             simp only [Act.put,aS,aC,aZ]
                             refine tH 32 259 rfl rfl (Or.inr ⟨by kernel_rfl,rfl⟩) HS_ ?_
                             simp only [Act.put,aS,aC,aZ]
                             refine tH 33 260 rfl rfl (Or.inr ⟨by kernel_rfl,rfl⟩) HS_ ?_
                             simp only [Act.put,aS,aC,aZ]
                             refine tH 34 261 rfl rfl (Or.inr ⟨by kernel_rfl,rfl⟩) HS_ ?_
                             simp only [Act.put,aS,aC,aZ]
                             refine tH 35 262 rfl rfl (Or.inr ⟨by kernel_rfl,rfl⟩) HS_ ?_
                             simp only [Act.put,aS,aC,aZ]
                             refine tH 36 263 rfl rfl (Or.inr ⟨by kernel_rfl,rfl⟩) HS_ ?_
                             simp only [Act.put,aS,aC,aZ]
                             refine tH 37 264 rfl rfl (gRun (by kernel_rfl) (.bool false) fun _ h=>yA6 (.tmp 254) (.tmp 263) (.const (.bool false)) rfl false (.bool false) rfl rfl) HS_ ?_
                             simp only [Act.put,aS,aC,aZ]
                             refine tH 38 265 rfl rfl (gRun rfl (.bool false) fun _ h=>yA6 (.tmp 228) (.const (.bool true)) (.tmp 264) rfl false (.bool false) rfl rfl) HS_ ?_
                             simp only [Act.put,aS,aC,aZ]
                             refine tH 39 29 rfl rfl (gRun rfl (.bool false) fun _ h=>yE7 (.tmp 265) rfl (.bool false) rfl) HS_ ?_
                             simp only [Act.put,aS,aC,aZ]
                             refine wpAnyH_done (by kernel_rfl) ?_ _
                             go_upto_region 55 with fail
                             refine wp_region_lit ?_
                             refine wm 30 (.int .i64 (j:Nat)) ?_
                             simp only [Act.put,aS,aC,aZ]
                             refine wl rfl (.int .i64 ((j+1:Nat):Int)) _ (yC8 (.tmp 225) (.const (.int .i64 1)) rfl (j:Nat) 1 _ rfl rfl (by omega) (by omega) (by have:=HTL;omega)) ?_
                             simp only [Act.put,aS,aC,aZ]
                             refine wa (.tmp 226) (.int .i64 ((j+1:Nat):Int)) ?_
                             simp only [Act.put,aS,aC,aZ]
                             refine wpList_nil ?_
                             go_wp2_with fail
                             exact ⟨⟨j+1,false,rfl,rfl,by omega,fun ⟨x,hx,hM⟩=>(by rcases Nat.lt_or_ge x j with q|q;exact hmt ⟨x,q,hM⟩;have e9:x=j:=(by omega);rw [HMT.out,e9] at hM;have hM2:j≠k∧(T.getD j default).id=id1∧(T.getD j default).bs=bs1∧(T.getD j default).d=td.d∧(T.getD j default).a=td.a∧(T.getD j default).n=td.n:=hM;rw [←HY.out.2.2.2.2] at hM2;exact absurd hM2 (fun hM=>hM.1 hjk)),HN⟩,by simp [intOf];omega⟩
                           have hb1:(!decide (((j:Nat):Int)=((k:Nat):Int)))=true:=(by simp;omega)
                           by_cases hpl:tj.d=td.d∧tj.a=td.a∧tj.n=td.n
                           ·as_aux_lemma =>
                             have hb2:decide (((tj.d:Nat):Int)=(td.d:Nat)∧((tj.a:Nat):Int)=(td.a:Nat)∧((tj.n:Nat):Int)=(td.n:Nat)∧false=false)=true:=decide_eq_true ⟨by rw [hpl.1],by rw [hpl.2.1],by rw [hpl.2.2],rfl⟩
                             by_cases hb3:id1=tj.id
                             ·as_aux_lemma =>
                               by_cases hb4:bs1=tj.bs
                               ·as_aux_lemma =>
                                 go_upto_region 56 with fail
                                 refine wp_region_held (S:=fun X=>Below E0.heap.size E0 X∧yA2 X vb1 bs1∧Below E3.heap.size E3 X) (by kernel_rfl) ?_
                                 show wpAnyH _ _ _ _ _ 40 (Array.replicate 40 false) _ _
                                 obtain ⟨E4,hX⟩:∃E4:World,E4 = { E3 with drawn:=E3.drawn+1 }:=⟨_,rfl⟩
                                 rw [←hX]
                                 have HS_:Below E0.heap.size E0 E4∧yA2 E4 vb1 bs1∧Below E3.heap.size E3 E4:=(by rw [hX];exact ⟨HL.out.2.2.trans ⟨rfl,rfl,rfl,Nat.le_refl _,fun _ _=>rfl⟩,HL.out.2.1.later ⟨rfl,rfl,rfl,Nat.le_refl _,fun _ _=>rfl⟩,⟨rfl,rfl,rfl,Nat.le_refl _,fun _ _=>rfl⟩⟩)
                                 have HN:Hid (((Jm w E4 c3 gp gw most m3 T u10 q5 [k0,k1] (16 * i))∧Cr (ctn m3 0) (m3.fl 0) P3 T∧m3.on=true)∧yA2 E4 vb1 bs1∧Below E0.heap.size E0 E4):=(by rw [hX];exact ⟨⟨HL.out.1.1.bel ⟨rfl,rfl,rfl,Nat.le_refl _,fun _ _=>rfl⟩,HL.out.1.2⟩,HL.out.2.1.later ⟨rfl,rfl,rfl,Nat.le_refl _,fun _ _=>rfl⟩,HL.out.2.2.trans ⟨rfl,rfl,rfl,Nat.le_refl _,fun _ _=>rfl⟩⟩)
                                 clear HL
                                 clear hX
                                 refine tH 0 227 rfl rfl (gRun rfl (.bool false) fun _ h=>yA4 (.tmp 29) rfl (.bool false) rfl) HS_ ?_
                                 simp only [Act.put,aS,aC,aZ]
                                 refine tH 1 228 rfl rfl (gRun rfl (.bool false) fun _ h=>yA4 (.tmp 227) rfl (.bool false) rfl) HS_ ?_
                                 simp only [Act.put,aS,aC,aZ]
                                 refine tH 2 229 rfl rfl (gRun (by kernel_rfl) (.int .i64 (j:Nat)) fun _ h=>yA4 (.tmp 30) rfl (.int .i64 (j:Nat)) rfl) HS_ ?_
                                 simp only [Act.put,aS,aC,aZ]
                                 refine tH 3 230 rfl rfl (gRun (by kernel_rfl) (.int .i64 (k:Nat)) fun _ h=>yA4 (.tmp 24) rfl (.int .i64 (k:Nat)) rfl) HS_ ?_
                                 simp only [Act.put,aS,aC,aZ]
                                 refine tH 4 231 rfl rfl (gRun (by kernel_rfl) (.bool true) fun _ h=>yD1 (.tmp 229) (.tmp 230) rfl (j:Nat) (k:Nat) rfl rfl true hb1) HS_ ?_
                                 simp only [Act.put,aS,aC,aZ]
                                 refine tH 5 232 rfl rfl (gRun (by kernel_rfl) (.bool true) fun _ h=>yA4 (.tmp 231) rfl (.bool true) rfl) HS_ ?_
                                 simp only [Act.put,aS,aC,aZ]
                                 refine tH 6 233 rfl rfl (gRun (by kernel_rfl) u10 fun _ h=>yA4 (.tmp 10) rfl u10 rfl) HS_ ?_
                                 simp only [Act.put,aS,aC,aZ]
                                 refine tH 7 234 rfl rfl (gRun (by kernel_rfl) (.int .i64 (j:Nat)) fun _ h=>yA4 (.tmp 30) rfl (.int .i64 (j:Nat)) rfl) HS_ ?_
                                 simp only [Act.put,aS,aC,aZ]
                                 refine tH 8 235 rfl rfl (gRun (by kernel_rfl) (.pointer (some ⟨gj,j * 7,none⟩)) fun _ h=>yD5 (.tmp 233) (.tmp 234) rfl _ _ _ rfl rfl HY.out.1) HS_ ?_
                                 simp only [Act.put,aS,aC,aZ]
                                 refine tH 9 236 rfl rfl (gRun (by kernel_rfl) (.pointer (some ⟨gj,j * 7+2,none⟩)) fun _ h=>yA3 f48_2 (.tmp 235) rfl gj (j * 7) rfl) HS_ ?_
                                 simp only [Act.put,aS,aC,aZ]
                                 refine tH 10 237 rfl rfl (gRun (by kernel_rfl) (.agg ((plC (tj.d:Nat) (tj.a:Nat) (tj.n:Nat) false)).toArray) fun _ h=>yA9 ag40 (.tmp 236) rfl gj (j * 7+2) rfl ((plC (tj.d:Nat) (tj.a:Nat) (tj.n:Nat) false)) rfl (fun i u hu=>by rw [Nat.add_assoc];exact HY.out.2.1 _ h.2.2 (2+i) u (tdC_pl tj vj i u hu))) HS_ ?_
                                 simp only [Act.put,aS,aC,aZ]
                                 refine tH 11 238 rfl rfl (gRun (by kernel_rfl) u10 fun _ h=>yA4 (.tmp 10) rfl u10 rfl) HS_ ?_
                                 simp only [Act.put,aS,aC,aZ]
                                 refine tH 12 239 rfl rfl (gRun (by kernel_rfl) (.int .i64 (k:Nat)) fun _ h=>yA4 (.tmp 24) rfl (.int .i64 (k:Nat)) rfl) HS_ ?_
                                 simp only [Act.put,aS,aC,aZ]
                                 refine tH 13 240 rfl rfl (gRun (by kernel_rfl) (.pointer (some ⟨g2,k * 7,none⟩)) fun _ h=>yD5 (.tmp 238) (.tmp 239) rfl _ _ _ rfl rfl HX.out.1) HS_ ?_
                                 simp only [Act.put,aS,aC,aZ]
                                 refine tH 14 241 rfl rfl (gRun (by kernel_rfl) (.pointer (some ⟨g2,k * 7+2,none⟩)) fun _ h=>yA3 f48_2 (.tmp 240) rfl g2 (k * 7) rfl) HS_ ?_
                                 simp only [Act.put,aS,aC,aZ]
                                 refine tH 15 242 rfl rfl (gRun (by kernel_rfl) (.agg ((plC (td.d:Nat) (td.a:Nat) (td.n:Nat) false)).toArray) fun _ h=>yA9 ag40 (.tmp 241) rfl g2 (k * 7+2) rfl ((plC (td.d:Nat) (td.a:Nat) (td.n:Nat) false)) rfl (fun i u hu=>by rw [Nat.add_assoc];exact HX.out.2.1 _ h.1 (2+i) u (tdC_pl td vb i u hu))) HS_ ?_
                                 simp only [Act.put,aS,aC,aZ]
                                 refine tH 16 243 rfl rfl (gRun (by kernel_rfl) (.bool true) fun _ h=>run_eqPl (.tmp 237) (.tmp 242) rfl (tj.d:Nat) (tj.a:Nat) (tj.n:Nat) (td.d:Nat) (td.a:Nat) (td.n:Nat) false false rfl rfl true hb2) HS_ ?_
                                 simp only [Act.put,aS,aC,aZ]
                                 refine tH 17 244 rfl rfl (gRun (by kernel_rfl) (.bool true) fun _ h=>yA6 (.tmp 232) (.tmp 243) (.const (.bool false)) rfl true (.bool true) rfl rfl) HS_ ?_
                                 simp only [Act.put,aS,aC,aZ]
                                 refine tH 18 245 rfl rfl (gRun (by kernel_rfl) (.bool true) fun _ h=>yA4 (.tmp 244) rfl (.bool true) rfl) HS_ ?_
                                 simp only [Act.put,aS,aC,aZ]
                                 refine tH 19 246 rfl rfl (gRun (by kernel_rfl) (str id1) fun _ h=>yA4 (.tmp 25) rfl (str id1) rfl) HS_ ?_
                                 simp only [Act.put,aS,aC,aZ]
                                 refine tH 20 247 rfl rfl (gRun (by kernel_rfl) u10 fun _ h=>yA4 (.tmp 10) rfl u10 rfl) HS_ ?_
                                 simp only [Act.put,aS,aC,aZ]
                                 refine tH 21 248 rfl rfl (gRun (by kernel_rfl) (.int .i64 (j:Nat)) fun _ h=>yA4 (.tmp 30) rfl (.int .i64 (j:Nat)) rfl) HS_ ?_
                                 simp only [Act.put,aS,aC,aZ]
                                 refine tH 22 249 rfl rfl (gRun (by kernel_rfl) (.pointer (some ⟨gj,j * 7,none⟩)) fun _ h=>yD5 (.tmp 247) (.tmp 248) rfl _ _ _ rfl rfl HY.out.1) HS_ ?_
                                 simp only [Act.put,aS,aC,aZ]
                                 refine tH 23 250 rfl rfl (gRun (by kernel_rfl) (.pointer (some ⟨gj,j * 7+0,none⟩)) fun _ h=>yA3 f48_0 (.tmp 249) rfl gj (j * 7) rfl) HS_ ?_
                                 simp only [Act.put,aS,aC,aZ]
                                 refine tH 24 251 rfl rfl (gRun (by kernel_rfl) (str tj.id) fun _ h=>yA7 o9 (.tmp 250) rfl gj (j * 7+0) rfl (str tj.id) (HY.out.2.1 _ h.2.2 0 _ rfl)) HS_ ?_
                                 simp only [Act.put,aS,aC,aZ]
                                 refine tH 25 252 rfl rfl (gRun (by kernel_rfl) (.bool true) fun _ h=>yI6 (.tmp 246) (.tmp 251) rfl id1 tj.id hid1.out (nameB_lt HY.out.2.2.2.1.1) rfl rfl true (decide_eq_true hb3)) HS_ ?_
                                 simp only [Act.put,aS,aC,aZ]
                                 refine tH 26 253 rfl rfl (gRun (by kernel_rfl) (.bool true) fun _ h=>yA6 (.tmp 245) (.tmp 252) (.const (.bool false)) rfl true (.bool true) rfl rfl) HS_ ?_
                                 simp only [Act.put,aS,aC,aZ]
                                 refine tH 27 254 rfl rfl (gRun (by kernel_rfl) (.bool true) fun _ h=>yA4 (.tmp 253) rfl (.bool true) rfl) HS_ ?_
                                 simp only [Act.put,aS,aC,aZ]
                                 refine tH 28 255 rfl rfl (gRun (by kernel_rfl) vb1 fun _ h=>yA4 (.tmp 26) rfl vb1 rfl) HS_ ?_
                                 simp only [Act.put,aS,aC,aZ]
                                 refine tH 29 256 rfl rfl (gRun (by kernel_rfl) (str bs1) fun _ h=>yI3 (.tmp 255) rfl vb1 bs1 rfl h.2.1) HS_ ?_
                                 simp only [Act.put,aS,aC,aZ]
                                 refine tH 30 257 rfl rfl (gRun (by kernel_rfl) u10 fun _ h=>yA4 (.tmp 10) rfl u10 rfl) HS_ ?_
                                 simp only [Act.put,aS,aC,aZ]
                                 refine tH 31 258 rfl rfl (gRun (by kernel_rfl) (.int .i64 (j:Nat)) fun _ h=>yA4 (.tmp 30) rfl (.int .i64 (j:Nat)) rfl) HS_ ?_
                                 simp only [Act.put,aS,aC,aZ]
                                 refine tH 32 259 rfl rfl (gRun (by kernel_rfl) (.pointer (some ⟨gj,j * 7,none⟩)) fun _ h=>yD5 (.tmp 257) (.tmp 258) rfl _ _ _ rfl rfl HY.out.1) HS_ ?_
                                 simp only [Act.put,aS,aC,aZ]
                                 refine tH 33 260 rfl rfl (gRun (by kernel_rfl) (.pointer (some ⟨gj,j * 7+1,none⟩)) fun _ h=>yA3 f48_1 (.tmp 259) rfl gj (j * 7) rfl) HS_ ?_
                                 simp only [Act.put,aS,aC,aZ]
                                 refine tH 34 261 rfl rfl (gRun (by kernel_rfl) vj fun _ h=>yA7 o38 (.tmp 260) rfl gj (j * 7+1) rfl vj (HY.out.2.1 _ h.2.2 1 _ rfl)) HS_ ?_
                                 simp only [Act.put,aS,aC,aZ]
                                 refine tH 35 262 rfl rfl (gRun (by kernel_rfl) (str tj.bs) fun _ h=>yI3 (.tmp 261) rfl vj tj.bs rfl (HY.out.2.2.1.later h.2.2)) HS_ ?_
                                 simp only [Act.put,aS,aC,aZ]
                                 refine tH 36 263 rfl rfl (gRun (by kernel_rfl) (.bool true) fun _ h=>yI6 (.tmp 256) (.tmp 262) rfl bs1 tj.bs hbs1.out HY.out.2.2.2.1.2.2 rfl rfl true (decide_eq_true hb4)) HS_ ?_
                                 simp only [Act.put,aS,aC,aZ]
                                 refine tH 37 264 rfl rfl (gRun (by kernel_rfl) (.bool true) fun _ h=>yA6 (.tmp 254) (.tmp 263) (.const (.bool false)) rfl true (.bool true) rfl rfl) HS_ ?_
                                 simp only [Act.put,aS,aC,aZ]
                                 refine tH 38 265 rfl rfl (gRun rfl (.bool true) fun _ h=>yA6 (.tmp 228) (.const (.bool true)) (.tmp 264) rfl false (.bool true) rfl rfl) HS_ ?_
                                 simp only [Act.put,aS,aC,aZ]
                                 refine tH 39 29 rfl rfl (gRun rfl (.bool true) fun _ h=>yE7 (.tmp 265) rfl (.bool true) rfl) HS_ ?_
                                 simp only [Act.put,aS,aC,aZ]
                                 refine wpAnyH_done (by kernel_rfl) ?_ _
                                 go_upto_region 55 with fail
                                 refine wp_region_lit ?_
                                 refine wm 30 (.int .i64 (j:Nat)) ?_
                                 simp only [Act.put,aS,aC,aZ]
                                 refine wl rfl (.int .i64 ((j+1:Nat):Int)) _ (yC8 (.tmp 225) (.const (.int .i64 1)) rfl (j:Nat) 1 _ rfl rfl (by omega) (by omega) (by have:=HTL;omega)) ?_
                                 simp only [Act.put,aS,aC,aZ]
                                 refine wa (.tmp 226) (.int .i64 ((j+1:Nat):Int)) ?_
                                 simp only [Act.put,aS,aC,aZ]
                                 refine wpList_nil ?_
                                 go_wp2_with fail
                                 exact ⟨⟨j+1,true,rfl,rfl,by omega,fun _=>rfl,HN⟩,by simp [intOf];omega⟩
                               ·as_aux_lemma =>
                                 go_upto_region 56 with fail
                                 refine wp_region_held (S:=fun X=>Below E0.heap.size E0 X∧yA2 X vb1 bs1∧Below E3.heap.size E3 X) (by kernel_rfl) ?_
                                 show wpAnyH _ _ _ _ _ 40 (Array.replicate 40 false) _ _
                                 obtain ⟨E4,hX⟩:∃E4:World,E4 = { E3 with drawn:=E3.drawn+1 }:=⟨_,rfl⟩
                                 rw [←hX]
                                 have HS_:Below E0.heap.size E0 E4∧yA2 E4 vb1 bs1∧Below E3.heap.size E3 E4:=(by rw [hX];exact ⟨HL.out.2.2.trans ⟨rfl,rfl,rfl,Nat.le_refl _,fun _ _=>rfl⟩,HL.out.2.1.later ⟨rfl,rfl,rfl,Nat.le_refl _,fun _ _=>rfl⟩,⟨rfl,rfl,rfl,Nat.le_refl _,fun _ _=>rfl⟩⟩)
                                 have HN:Hid (((Jm w E4 c3 gp gw most m3 T u10 q5 [k0,k1] (16 * i))∧Cr (ctn m3 0) (m3.fl 0) P3 T∧m3.on=true)∧yA2 E4 vb1 bs1∧Below E0.heap.size E0 E4):=(by rw [hX];exact ⟨⟨HL.out.1.1.bel ⟨rfl,rfl,rfl,Nat.le_refl _,fun _ _=>rfl⟩,HL.out.1.2⟩,HL.out.2.1.later ⟨rfl,rfl,rfl,Nat.le_refl _,fun _ _=>rfl⟩,HL.out.2.2.trans ⟨rfl,rfl,rfl,Nat.le_refl _,fun _ _=>rfl⟩⟩)
                                 clear HL
                                 clear hX
                                 refine tH 0 227 rfl rfl (gRun rfl (.bool false) fun _ h=>yA4 (.tmp 29) rfl (.bool false) rfl) HS_ ?_
                                 simp only [Act.put,aS,aC,aZ]
                                 refine tH 1 228 rfl rfl (gRun rfl (.bool false) fun _ h=>yA4 (.tmp 227) rfl (.bool false) rfl) HS_ ?_
                                 simp only [Act.put,aS,aC,aZ]
                                 refine tH 2 229 rfl rfl (gRun (by kernel_rfl) (.int .i64 (j:Nat)) fun _ h=>yA4 (.tmp 30) rfl (.int .i64 (j:Nat)) rfl) HS_ ?_
                                 simp only [Act.put,aS,aC,aZ]
                                 refine tH 3 230 rfl rfl (gRun (by kernel_rfl) (.int .i64 (k:Nat)) fun _ h=>yA4 (.tmp 24) rfl (.int .i64 (k:Nat)) rfl) HS_ ?_
                                 simp only [Act.put,aS,aC,aZ]
                                 refine tH 4 231 rfl rfl (gRun (by kernel_rfl) (.bool true) fun _ h=>yD1 (.tmp 229) (.tmp 230) rfl (j:Nat) (k:Nat) rfl rfl true hb1) HS_ ?_
                                 simp only [Act.put,aS,aC,aZ]
                                 refine tH 5 232 rfl rfl (gRun (by kernel_rfl) (.bool true) fun _ h=>yA4 (.tmp 231) rfl (.bool true) rfl) HS_ ?_
                                 simp only [Act.put,aS,aC,aZ]
                                 refine tH 6 233 rfl rfl (gRun (by kernel_rfl) u10 fun _ h=>yA4 (.tmp 10) rfl u10 rfl) HS_ ?_
                                 simp only [Act.put,aS,aC,aZ]
                                 refine tH 7 234 rfl rfl (gRun (by kernel_rfl) (.int .i64 (j:Nat)) fun _ h=>yA4 (.tmp 30) rfl (.int .i64 (j:Nat)) rfl) HS_ ?_
                                 simp only [Act.put,aS,aC,aZ]
                                 refine tH 8 235 rfl rfl (gRun (by kernel_rfl) (.pointer (some ⟨gj,j * 7,none⟩)) fun _ h=>yD5 (.tmp 233) (.tmp 234) rfl _ _ _ rfl rfl HY.out.1) HS_ ?_
                                 simp only [Act.put,aS,aC,aZ]
                                 refine tH 9 236 rfl rfl (gRun (by kernel_rfl) (.pointer (some ⟨gj,j * 7+2,none⟩)) fun _ h=>yA3 f48_2 (.tmp 235) rfl gj (j * 7) rfl) HS_ ?_
                                 simp only [Act.put,aS,aC,aZ]
                                 refine tH 10 237 rfl rfl (gRun (by kernel_rfl) (.agg ((plC (tj.d:Nat) (tj.a:Nat) (tj.n:Nat) false)).toArray) fun _ h=>yA9 ag40 (.tmp 236) rfl gj (j * 7+2) rfl ((plC (tj.d:Nat) (tj.a:Nat) (tj.n:Nat) false)) rfl (fun i u hu=>by rw [Nat.add_assoc];exact HY.out.2.1 _ h.2.2 (2+i) u (tdC_pl tj vj i u hu))) HS_ ?_
                                 simp only [Act.put,aS,aC,aZ]
                                 refine tH 11 238 rfl rfl (gRun (by kernel_rfl) u10 fun _ h=>yA4 (.tmp 10) rfl u10 rfl) HS_ ?_
                                 simp only [Act.put,aS,aC,aZ]
                                 refine tH 12 239 rfl rfl (gRun (by kernel_rfl) (.int .i64 (k:Nat)) fun _ h=>yA4 (.tmp 24) rfl (.int .i64 (k:Nat)) rfl) HS_ ?_
                                 simp only [Act.put,aS,aC,aZ]
                                 refine tH 13 240 rfl rfl (gRun (by kernel_rfl) (.pointer (some ⟨g2,k * 7,none⟩)) fun _ h=>yD5 (.tmp 238) (.tmp 239) rfl _ _ _ rfl rfl HX.out.1) HS_ ?_
                                 simp only [Act.put,aS,aC,aZ]
                                 refine tH 14 241 rfl rfl (gRun (by kernel_rfl) (.pointer (some ⟨g2,k * 7+2,none⟩)) fun _ h=>yA3 f48_2 (.tmp 240) rfl g2 (k * 7) rfl) HS_ ?_
                                 simp only [Act.put,aS,aC,aZ]
                                 refine tH 15 242 rfl rfl (gRun (by kernel_rfl) (.agg ((plC (td.d:Nat) (td.a:Nat) (td.n:Nat) false)).toArray) fun _ h=>yA9 ag40 (.tmp 241) rfl g2 (k * 7+2) rfl ((plC (td.d:Nat) (td.a:Nat) (td.n:Nat) false)) rfl (fun i u hu=>by rw [Nat.add_assoc];exact HX.out.2.1 _ h.1 (2+i) u (tdC_pl td vb i u hu))) HS_ ?_
                                 simp only [Act.put,aS,aC,aZ]
                                 refine tH 16 243 rfl rfl (gRun (by kernel_rfl) (.bool true) fun _ h=>run_eqPl (.tmp 237) (.tmp 242) rfl (tj.d:Nat) (tj.a:Nat) (tj.n:Nat) (td.d:Nat) (td.a:Nat) (td.n:Nat) false false rfl rfl true hb2) HS_ ?_
                                 simp only [Act.put,aS,aC,aZ]
                                 refine tH 17 244 rfl rfl (gRun (by kernel_rfl) (.bool true) fun _ h=>yA6 (.tmp 232) (.tmp 243) (.const (.bool false)) rfl true (.bool true) rfl rfl) HS_ ?_
                                 simp only [Act.put,aS,aC,aZ]
                                 refine tH 18 245 rfl rfl (gRun (by kernel_rfl) (.bool true) fun _ h=>yA4 (.tmp 244) rfl (.bool true) rfl) HS_ ?_
                                 simp only [Act.put,aS,aC,aZ]
                                 refine tH 19 246 rfl rfl (gRun (by kernel_rfl) (str id1) fun _ h=>yA4 (.tmp 25) rfl (str id1) rfl) HS_ ?_
                                 simp only [Act.put,aS,aC,aZ]
                                 refine tH 20 247 rfl rfl (gRun (by kernel_rfl) u10 fun _ h=>yA4 (.tmp 10) rfl u10 rfl) HS_ ?_
                                 simp only [Act.put,aS,aC,aZ]
                                 refine tH 21 248 rfl rfl (gRun (by kernel_rfl) (.int .i64 (j:Nat)) fun _ h=>yA4 (.tmp 30) rfl (.int .i64 (j:Nat)) rfl) HS_ ?_
                                 simp only [Act.put,aS,aC,aZ]
                                 refine tH 22 249 rfl rfl (gRun (by kernel_rfl) (.pointer (some ⟨gj,j * 7,none⟩)) fun _ h=>yD5 (.tmp 247) (.tmp 248) rfl _ _ _ rfl rfl HY.out.1) HS_ ?_
                                 simp only [Act.put,aS,aC,aZ]
                                 refine tH 23 250 rfl rfl (gRun (by kernel_rfl) (.pointer (some ⟨gj,j * 7+0,none⟩)) fun _ h=>yA3 f48_0 (.tmp 249) rfl gj (j * 7) rfl) HS_ ?_
                                 simp only [Act.put,aS,aC,aZ]
                                 refine tH 24 251 rfl rfl (gRun (by kernel_rfl) (str tj.id) fun _ h=>yA7 o9 (.tmp 250) rfl gj (j * 7+0) rfl (str tj.id) (HY.out.2.1 _ h.2.2 0 _ rfl)) HS_ ?_
                                 simp only [Act.put,aS,aC,aZ]
                                 refine tH 25 252 rfl rfl (gRun (by kernel_rfl) (.bool true) fun _ h=>yI6 (.tmp 246) (.tmp 251) rfl id1 tj.id hid1.out (nameB_lt HY.out.2.2.2.1.1) rfl rfl true (decide_eq_true hb3)) HS_ ?_
                                 simp only [Act.put,aS,aC,aZ]
                                 refine tH 26 253 rfl rfl (gRun (by kernel_rfl) (.bool true) fun _ h=>yA6 (.tmp 245) (.tmp 252) (.const (.bool false)) rfl true (.bool true) rfl rfl) HS_ ?_
                                 simp only [Act.put,aS,aC,aZ]
                                 refine tH 27 254 rfl rfl (gRun (by kernel_rfl) (.bool true) fun _ h=>yA4 (.tmp 253) rfl (.bool true) rfl) HS_ ?_
                                 simp only [Act.put,aS,aC,aZ]
                                 refine tH 28 255 rfl rfl (gRun (by kernel_rfl) vb1 fun _ h=>yA4 (.tmp 26) rfl vb1 rfl) HS_ ?_
                                 simp only [Act.put,aS,aC,aZ]
                                 refine tH 29 256 rfl rfl (gRun (by kernel_rfl) (str bs1) fun _ h=>yI3 (.tmp 255) rfl vb1 bs1 rfl h.2.1) HS_ ?_
                                 simp only [Act.put,aS,aC,aZ]
                                 refine tH 30 257 rfl rfl (gRun (by kernel_rfl) u10 fun _ h=>yA4 (.tmp 10) rfl u10 rfl) HS_ ?_
                                 simp only [Act.put,aS,aC,aZ]
                                 refine tH 31 258 rfl rfl (gRun (by kernel_rfl) (.int .i64 (j:Nat)) fun _ h=>yA4 (.tmp 30) rfl (.int .i64 (j:Nat)) rfl) HS_ ?_
                                 simp only [Act.put,aS,aC,aZ]
                                 refine tH 32 259 rfl rfl (gRun (by kernel_rfl) (.pointer (some ⟨gj,j * 7,none⟩)) fun _ h=>yD5 (.tmp 257) (.tmp 258) rfl _ _ _ rfl rfl HY.out.1) HS_ ?_
                                 simp only [Act.put,aS,aC,aZ]
                                 refine tH 33 260 rfl rfl (gRun (by kernel_rfl) (.pointer (some ⟨gj,j * 7+1,none⟩)) fun _ h=>yA3 f48_1 (.tmp 259) rfl gj (j * 7) rfl) HS_ ?_
                                 simp only [Act.put,aS,aC,aZ]
                                 refine tH 34 261 rfl rfl (gRun (by kernel_rfl) vj fun _ h=>yA7 o38 (.tmp 260) rfl gj (j * 7+1) rfl vj (HY.out.2.1 _ h.2.2 1 _ rfl)) HS_ ?_
                                 simp only [Act.put,aS,aC,aZ]
                                 refine tH 35 262 rfl rfl (gRun (by kernel_rfl) (str tj.bs) fun _ h=>yI3 (.tmp 261) rfl vj tj.bs rfl (HY.out.2.2.1.later h.2.2)) HS_ ?_
                                 simp only [Act.put,aS,aC,aZ]
                                 refine tH 36 263 rfl rfl (gRun (by kernel_rfl) (.bool false) fun _ h=>yI6 (.tmp 256) (.tmp 262) rfl bs1 tj.bs hbs1.out HY.out.2.2.2.1.2.2 rfl rfl false (decide_eq_false hb4)) HS_ ?_
                                 simp only [Act.put,aS,aC,aZ]
                                 refine tH 37 264 rfl rfl (gRun (by kernel_rfl) (.bool false) fun _ h=>yA6 (.tmp 254) (.tmp 263) (.const (.bool false)) rfl true (.bool false) rfl rfl) HS_ ?_
                                 simp only [Act.put,aS,aC,aZ]
                                 refine tH 38 265 rfl rfl (gRun rfl (.bool false) fun _ h=>yA6 (.tmp 228) (.const (.bool true)) (.tmp 264) rfl false (.bool false) rfl rfl) HS_ ?_
                                 simp only [Act.put,aS,aC,aZ]
                                 refine tH 39 29 rfl rfl (gRun rfl (.bool false) fun _ h=>yE7 (.tmp 265) rfl (.bool false) rfl) HS_ ?_
                                 simp only [Act.put,aS,aC,aZ]
                                 refine wpAnyH_done (by kernel_rfl) ?_ _
                                 go_upto_region 55 with fail
                                 refine wp_region_lit ?_
                                 refine wm 30 (.int .i64 (j:Nat)) ?_
                                 simp only [Act.put,aS,aC,aZ]
                                 refine wl rfl (.int .i64 ((j+1:Nat):Int)) _ (yC8 (.tmp 225) (.const (.int .i64 1)) rfl (j:Nat) 1 _ rfl rfl (by omega) (by omega) (by have:=HTL;omega)) ?_
                                 simp only [Act.put,aS,aC,aZ]
                                 refine wa (.tmp 226) (.int .i64 ((j+1:Nat):Int)) ?_
                                 simp only [Act.put,aS,aC,aZ]
                                 refine wpList_nil ?_
                                 go_wp2_with fail
                                 exact ⟨⟨j+1,false,rfl,rfl,by omega,fun ⟨x,hx,hM⟩=>(by rcases Nat.lt_or_ge x j with q|q;exact hmt ⟨x,q,hM⟩;have e9:x=j:=(by omega);rw [HMT.out,e9] at hM;have hM2:j≠k∧(T.getD j default).id=id1∧(T.getD j default).bs=bs1∧(T.getD j default).d=td.d∧(T.getD j default).a=td.a∧(T.getD j default).n=td.n:=hM;rw [←HY.out.2.2.2.2] at hM2;exact absurd hM2 (fun hM=>hb4 hM.2.2.1.symm)),HN⟩,by simp [intOf];omega⟩
                             ·as_aux_lemma =>
                               go_upto_region 56 with fail
                               refine wp_region_held (S:=fun X=>Below E0.heap.size E0 X∧yA2 X vb1 bs1∧Below E3.heap.size E3 X) (by kernel_rfl) ?_
                               show wpAnyH _ _ _ _ _ 40 (Array.replicate 40 false) _ _
                               obtain ⟨E4,hX⟩:∃E4:World,E4 = { E3 with drawn:=E3.drawn+1 }:=⟨_,rfl⟩
                               rw [←hX]
                               have HS_:Below E0.heap.size E0 E4∧yA2 E4 vb1 bs1∧Below E3.heap.size E3 E4:=(by rw [hX];exact ⟨HL.out.2.2.trans ⟨rfl,rfl,rfl,Nat.le_refl _,fun _ _=>rfl⟩,HL.out.2.1.later ⟨rfl,rfl,rfl,Nat.le_refl _,fun _ _=>rfl⟩,⟨rfl,rfl,rfl,Nat.le_refl _,fun _ _=>rfl⟩⟩)
                               have HN:Hid (((Jm w E4 c3 gp gw most m3 T u10 q5 [k0,k1] (16 * i))∧Cr (ctn m3 0) (m3.fl 0) P3 T∧m3.on=true)∧yA2 E4 vb1 bs1∧Below E0.heap.size E0 E4):=(by rw [hX];exact ⟨⟨HL.out.1.1.bel ⟨rfl,rfl,rfl,Nat.le_refl _,fun _ _=>rfl⟩,HL.out.1.2⟩,HL.out.2.1.later ⟨rfl,rfl,rfl,Nat.le_refl _,fun _ _=>rfl⟩,HL.out.2.2.trans ⟨rfl,rfl,rfl,Nat.le_refl _,fun _ _=>rfl⟩⟩)
                               clear HL
                               clear hX
                               refine tH 0 227 rfl rfl (gRun rfl (.bool false) fun _ h=>yA4 (.tmp 29) rfl (.bool false) rfl) HS_ ?_
                               simp only [Act.put,aS,aC,aZ]
                               refine tH 1 228 rfl rfl (gRun rfl (.bool false) fun _ h=>yA4 (.tmp 227) rfl (.bool false) rfl) HS_ ?_
                               simp only [Act.put,aS,aC,aZ]
                               refine tH 2 229 rfl rfl (gRun (by kernel_rfl) (.int .i64 (j:Nat)) fun _ h=>yA4 (.tmp 30) rfl (.int .i64 (j:Nat)) rfl) HS_ ?_
                               simp only [Act.put,aS,aC,aZ]
                               refine tH 3 230 rfl rfl (gRun (by kernel_rfl) (.int .i64 (k:Nat)) fun _ h=>yA4 (.tmp 24) rfl (.int .i64 (k:Nat)) rfl) HS_ ?_
                               simp only [Act.put,aS,aC,aZ]
                               refine tH 4 231 rfl rfl (gRun (by kernel_rfl) (.bool true) fun _ h=>yD1 (.tmp 229) (.tmp 230) rfl (j:Nat) (k:Nat) rfl rfl true hb1) HS_ ?_
                               simp only [Act.put,aS,aC,aZ]
                               refine tH 5 232 rfl rfl (gRun (by kernel_rfl) (.bool true) fun _ h=>yA4 (.tmp 231) rfl (.bool true) rfl) HS_ ?_
                               simp only [Act.put,aS,aC,aZ]
                               refine tH 6 233 rfl rfl (gRun (by kernel_rfl) u10 fun _ h=>yA4 (.tmp 10) rfl u10 rfl) HS_ ?_
                               simp only [Act.put,aS,aC,aZ]
                               refine tH 7 234 rfl rfl (gRun (by kernel_rfl) (.int .i64 (j:Nat)) fun _ h=>yA4 (.tmp 30) rfl (.int .i64 (j:Nat)) rfl) HS_ ?_
                               simp only [Act.put,aS,aC,aZ]
                               refine tH 8 235 rfl rfl (gRun (by kernel_rfl) (.pointer (some ⟨gj,j * 7,none⟩)) fun _ h=>yD5 (.tmp 233) (.tmp 234) rfl _ _ _ rfl rfl HY.out.1) HS_ ?_
                               simp only [Act.put,aS,aC,aZ]
                               refine tH 9 236 rfl rfl (gRun (by kernel_rfl) (.pointer (some ⟨gj,j * 7+2,none⟩)) fun _ h=>yA3 f48_2 (.tmp 235) rfl gj (j * 7) rfl) HS_ ?_
                               simp only [Act.put,aS,aC,aZ]
                               refine tH 10 237 rfl rfl (gRun (by kernel_rfl) (.agg ((plC (tj.d:Nat) (tj.a:Nat) (tj.n:Nat) false)).toArray) fun _ h=>yA9 ag40 (.tmp 236) rfl gj (j * 7+2) rfl ((plC (tj.d:Nat) (tj.a:Nat) (tj.n:Nat) false)) rfl (fun i u hu=>by rw [Nat.add_assoc];exact HY.out.2.1 _ h.2.2 (2+i) u (tdC_pl tj vj i u hu))) HS_ ?_
                               simp only [Act.put,aS,aC,aZ]
                               refine tH 11 238 rfl rfl (gRun (by kernel_rfl) u10 fun _ h=>yA4 (.tmp 10) rfl u10 rfl) HS_ ?_
                               simp only [Act.put,aS,aC,aZ]
                               refine tH 12 239 rfl rfl (gRun (by kernel_rfl) (.int .i64 (k:Nat)) fun _ h=>yA4 (.tmp 24) rfl (.int .i64 (k:Nat)) rfl) HS_ ?_
                               simp only [Act.put,aS,aC,aZ]
                               refine tH 13 240 rfl rfl (gRun (by kernel_rfl) (.pointer (some ⟨g2,k * 7,none⟩)) fun _ h=>yD5 (.tmp 238) (.tmp 239) rfl _ _ _ rfl rfl HX.out.1) HS_ ?_
                               simp only [Act.put,aS,aC,aZ]
                               refine tH 14 241 rfl rfl (gRun (by kernel_rfl) (.pointer (some ⟨g2,k * 7+2,none⟩)) fun _ h=>yA3 f48_2 (.tmp 240) rfl g2 (k * 7) rfl) HS_ ?_
                               simp only [Act.put,aS,aC,aZ]
                               refine tH 15 242 rfl rfl (gRun (by kernel_rfl) (.agg ((plC (td.d:Nat) (td.a:Nat) (td.n:Nat) false)).toArray) fun _ h=>yA9 ag40 (.tmp 241) rfl g2 (k * 7+2) rfl ((plC (td.d:Nat) (td.a:Nat) (td.n:Nat) false)) rfl (fun i u hu=>by rw [Nat.add_assoc];exact HX.out.2.1 _ h.1 (2+i) u (tdC_pl td vb i u hu))) HS_ ?_
                               simp only [Act.put,aS,aC,aZ]
                               refine tH 16 243 rfl rfl (gRun (by kernel_rfl) (.bool true) fun _ h=>run_eqPl (.tmp 237) (.tmp 242) rfl (tj.d:Nat) (tj.a:Nat) (tj.n:Nat) (td.d:Nat) (td.a:Nat) (td.n:Nat) false false rfl rfl true hb2) HS_ ?_
                               simp only [Act.put,aS,aC,aZ]
                               refine tH 17 244 rfl rfl (gRun (by kernel_rfl) (.bool true) fun _ h=>yA6 (.tmp 232) (.tmp 243) (.const (.bool false)) rfl true (.bool true) rfl rfl) HS_ ?_
                               simp only [Act.put,aS,aC,aZ]
                               refine tH 18 245 rfl rfl (gRun (by kernel_rfl) (.bool true) fun _ h=>yA4 (.tmp 244) rfl (.bool true) rfl) HS_ ?_
                               simp only [Act.put,aS,aC,aZ]
                               refine tH 19 246 rfl rfl (gRun (by kernel_rfl) (str id1) fun _ h=>yA4 (.tmp 25) rfl (str id1) rfl) HS_ ?_
                               simp only [Act.put,aS,aC,aZ]
                               refine tH 20 247 rfl rfl (gRun (by kernel_rfl) u10 fun _ h=>yA4 (.tmp 10) rfl u10 rfl) HS_ ?_
                               simp only [Act.put,aS,aC,aZ]
                               refine tH 21 248 rfl rfl (gRun (by kernel_rfl) (.int .i64 (j:Nat)) fun _ h=>yA4 (.tmp 30) rfl (.int .i64 (j:Nat)) rfl) HS_ ?_
                               simp only [Act.put,aS,aC,aZ]
                               refine tH 22 249 rfl rfl (gRun (by kernel_rfl) (.pointer (some ⟨gj,j * 7,none⟩)) fun _ h=>yD5 (.tmp 247) (.tmp 248) rfl _ _ _ rfl rfl HY.out.1) HS_ ?_
                               simp only [Act.put,aS,aC,aZ]
                               refine tH 23 250 rfl rfl (gRun (by kernel_rfl) (.pointer (some ⟨gj,j * 7+0,none⟩)) fun _ h=>yA3 f48_0 (.tmp 249) rfl gj (j * 7) rfl) HS_ ?_
                               simp only [Act.put,aS,aC,aZ]
                               refine tH 24 251 rfl rfl (gRun (by kernel_rfl) (str tj.id) fun _ h=>yA7 o9 (.tmp 250) rfl gj (j * 7+0) rfl (str tj.id) (HY.out.2.1 _ h.2.2 0 _ rfl)) HS_ ?_
                               simp only [Act.put,aS,aC,aZ]
                               refine tH 25 252 rfl rfl (gRun (by kernel_rfl) (.bool false) fun _ h=>yI6 (.tmp 246) (.tmp 251) rfl id1 tj.id hid1.out (nameB_lt HY.out.2.2.2.1.1) rfl rfl false (decide_eq_false hb3)) HS_ ?_
                               simp only [Act.put,aS,aC,aZ]
                               refine tH 26 253 rfl rfl (gRun (by kernel_rfl) (.bool false) fun _ h=>yA6 (.tmp 245) (.tmp 252) (.const (.bool false)) rfl true (.bool false) rfl rfl) HS_ ?_
                               simp only [Act.put,aS,aC,aZ]
                               refine tH 27 254 rfl rfl (gRun (by kernel_rfl) (.bool false) fun _ h=>yA4 (.tmp 253) rfl (.bool false) rfl) HS_ ?_
                               simp only [Act.put,aS,aC,aZ]
                               refine tH 28 255 rfl rfl (Or.inr ⟨by kernel_rfl,rfl⟩) HS_ ?_
                               simp only [Act.put,aS,aC,aZ]
                               refine tH 29 256 rfl rfl (Or.inr ⟨by kernel_rfl,rfl⟩) HS_ ?_
                               simp only [Act.put,aS,aC,aZ]
                               refine tH 30 257 rfl rfl (Or.inr ⟨by kernel_rfl,rfl⟩) HS_ ?_
                               simp only [Act.put,aS,aC,aZ]
                               refine tH 31 258 rfl rfl (Or.inr ⟨by kernel_rfl,rfl⟩) HS_ ?_
                               simp only [Act.put,aS,aC,aZ]
                               refine tH 32 259 rfl rfl (Or.inr ⟨by kernel_rfl,rfl⟩) HS_ ?_
                               simp only [Act.put,aS,aC,aZ]
                               refine tH 33 260 rfl rfl (Or.inr ⟨by kernel_rfl,rfl⟩) HS_ ?_
                               simp only [Act.put,aS,aC,aZ]
                               refine tH 34 261 rfl rfl (Or.inr ⟨by kernel_rfl,rfl⟩) HS_ ?_
                               simp only [Act.put,aS,aC,aZ]
                               refine tH 35 262 rfl rfl (Or.inr ⟨by kernel_rfl,rfl⟩) HS_ ?_
                               simp only [Act.put,aS,aC,aZ]
                               refine tH 36 263 rfl rfl (Or.inr ⟨by kernel_rfl,rfl⟩) HS_ ?_
                               simp only [Act.put,aS,aC,aZ]
                               refine tH 37 264 rfl rfl (gRun (by kernel_rfl) (.bool false) fun _ h=>yA6 (.tmp 254) (.tmp 263) (.const (.bool false)) rfl false (.bool false) rfl rfl) HS_ ?_
                               simp only [Act.put,aS,aC,aZ]
                               refine tH 38 265 rfl rfl (gRun rfl (.bool false) fun _ h=>yA6 (.tmp 228) (.const (.bool true)) (.tmp 264) rfl false (.bool false) rfl rfl) HS_ ?_
                               simp only [Act.put,aS,aC,aZ]
                               refine tH 39 29 rfl rfl (gRun rfl (.bool false) fun _ h=>yE7 (.tmp 265) rfl (.bool false) rfl) HS_ ?_
                               simp only [Act.put,aS,aC,aZ]
                               refine wpAnyH_done (by kernel_rfl) ?_ _
                               go_upto_region 55 with fail
                               refine wp_region_lit ?_
                               refine wm 30 (.int .i64 (j:Nat)) ?_
                               simp only [Act.put,aS,aC,aZ]
                               refine wl rfl (.int .i64 ((j+1:Nat):Int)) _ (yC8 (.tmp 225) (.const (.int .i64 1)) rfl (j:Nat) 1 _ rfl rfl (by omega) (by omega) (by have:=HTL;omega)) ?_
                               simp only [Act.put,aS,aC,aZ]
                               refine wa (.tmp 226) (.int .i64 ((j+1:Nat):Int)) ?_
                               simp only [Act.put,aS,aC,aZ]
                               refine wpList_nil ?_
                               go_wp2_with fail
                               exact ⟨⟨j+1,false,rfl,rfl,by omega,fun ⟨x,hx,hM⟩=>(by rcases Nat.lt_or_ge x j with q|q;exact hmt ⟨x,q,hM⟩;have e9:x=j:=(by omega);rw [HMT.out,e9] at hM;have hM2:j≠k∧(T.getD j default).id=id1∧(T.getD j default).bs=bs1∧(T.getD j default).d=td.d∧(T.getD j default).a=td.a∧(T.getD j default).n=td.n:=hM;rw [←HY.out.2.2.2.2] at hM2;exact absurd hM2 (fun hM=>hb3 hM.2.1.symm)),HN⟩,by simp [intOf];omega⟩
                           ·as_aux_lemma =>
                             have hb2:decide (((tj.d:Nat):Int)=(td.d:Nat)∧((tj.a:Nat):Int)=(td.a:Nat)∧((tj.n:Nat):Int)=(td.n:Nat)∧false=false)=false:=decide_eq_false (fun q=>hpl ⟨by have:=q.1;omega,by have:=q.2.1;omega,by have:=q.2.2.1;omega⟩)
                             go_upto_region 56 with fail
                             refine wp_region_held (S:=fun X=>Below E0.heap.size E0 X∧yA2 X vb1 bs1∧Below E3.heap.size E3 X) (by kernel_rfl) ?_
                             show wpAnyH _ _ _ _ _ 40 (Array.replicate 40 false) _ _
                             obtain ⟨E4,hX⟩:∃E4:World,E4 = { E3 with drawn:=E3.drawn+1 }:=⟨_,rfl⟩
                             rw [←hX]
                             have HS_:Below E0.heap.size E0 E4∧yA2 E4 vb1 bs1∧Below E3.heap.size E3 E4:=(by rw [hX];exact ⟨HL.out.2.2.trans ⟨rfl,rfl,rfl,Nat.le_refl _,fun _ _=>rfl⟩,HL.out.2.1.later ⟨rfl,rfl,rfl,Nat.le_refl _,fun _ _=>rfl⟩,⟨rfl,rfl,rfl,Nat.le_refl _,fun _ _=>rfl⟩⟩)
                             have HN:Hid (((Jm w E4 c3 gp gw most m3 T u10 q5 [k0,k1] (16 * i))∧Cr (ctn m3 0) (m3.fl 0) P3 T∧m3.on=true)∧yA2 E4 vb1 bs1∧Below E0.heap.size E0 E4):=(by rw [hX];exact ⟨⟨HL.out.1.1.bel ⟨rfl,rfl,rfl,Nat.le_refl _,fun _ _=>rfl⟩,HL.out.1.2⟩,HL.out.2.1.later ⟨rfl,rfl,rfl,Nat.le_refl _,fun _ _=>rfl⟩,HL.out.2.2.trans ⟨rfl,rfl,rfl,Nat.le_refl _,fun _ _=>rfl⟩⟩)
                             clear HL
                             clear hX
                             refine tH 0 227 rfl rfl (gRun rfl (.bool false) fun _ h=>yA4 (.tmp 29) rfl (.bool false) rfl) HS_ ?_
                             simp only [Act.put,aS,aC,aZ]
                             refine tH 1 228 rfl rfl (gRun rfl (.bool false) fun _ h=>yA4 (.tmp 227) rfl (.bool false) rfl) HS_ ?_
                             simp only [Act.put,aS,aC,aZ]
                             refine tH 2 229 rfl rfl (gRun (by kernel_rfl) (.int .i64 (j:Nat)) fun _ h=>yA4 (.tmp 30) rfl (.int .i64 (j:Nat)) rfl) HS_ ?_
                             simp only [Act.put,aS,aC,aZ]
                             refine tH 3 230 rfl rfl (gRun (by kernel_rfl) (.int .i64 (k:Nat)) fun _ h=>yA4 (.tmp 24) rfl (.int .i64 (k:Nat)) rfl) HS_ ?_
                             simp only [Act.put,aS,aC,aZ]
                             refine tH 4 231 rfl rfl (gRun (by kernel_rfl) (.bool true) fun _ h=>yD1 (.tmp 229) (.tmp 230) rfl (j:Nat) (k:Nat) rfl rfl true hb1) HS_ ?_
                             simp only [Act.put,aS,aC,aZ]
                             refine tH 5 232 rfl rfl (gRun (by kernel_rfl) (.bool true) fun _ h=>yA4 (.tmp 231) rfl (.bool true) rfl) HS_ ?_
                             simp only [Act.put,aS,aC,aZ]
                             refine tH 6 233 rfl rfl (gRun (by kernel_rfl) u10 fun _ h=>yA4 (.tmp 10) rfl u10 rfl) HS_ ?_
                             simp only [Act.put,aS,aC,aZ]
                             refine tH 7 234 rfl rfl (gRun (by kernel_rfl) (.int .i64 (j:Nat)) fun _ h=>yA4 (.tmp 30) rfl (.int .i64 (j:Nat)) rfl) HS_ ?_
                             simp only [Act.put,aS,aC,aZ]
                             refine tH 8 235 rfl rfl (gRun (by kernel_rfl) (.pointer (some ⟨gj,j * 7,none⟩)) fun _ h=>yD5 (.tmp 233) (.tmp 234) rfl _ _ _ rfl rfl HY.out.1) HS_ ?_
                             simp only [Act.put,aS,aC,aZ]
                             refine tH 9 236 rfl rfl (gRun (by kernel_rfl) (.pointer (some ⟨gj,j * 7+2,none⟩)) fun _ h=>yA3 f48_2 (.tmp 235) rfl gj (j * 7) rfl) HS_ ?_
                             simp only [Act.put,aS,aC,aZ]
                             refine tH 10 237 rfl rfl (gRun (by kernel_rfl) (.agg ((plC (tj.d:Nat) (tj.a:Nat) (tj.n:Nat) false)).toArray) fun _ h=>yA9 ag40 (.tmp 236) rfl gj (j * 7+2) rfl ((plC (tj.d:Nat) (tj.a:Nat) (tj.n:Nat) false)) rfl (fun i u hu=>by rw [Nat.add_assoc];exact HY.out.2.1 _ h.2.2 (2+i) u (tdC_pl tj vj i u hu))) HS_ ?_
                             simp only [Act.put,aS,aC,aZ]
                             refine tH 11 238 rfl rfl (gRun (by kernel_rfl) u10 fun _ h=>yA4 (.tmp 10) rfl u10 rfl) HS_ ?_
                             simp only [Act.put,aS,aC,aZ]
                             refine tH 12 239 rfl rfl (gRun (by kernel_rfl) (.int .i64 (k:Nat)) fun _ h=>yA4 (.tmp 24) rfl (.int .i64 (k:Nat)) rfl) HS_ ?_
                             simp only [Act.put,aS,aC,aZ]
                             refine tH 13 240 rfl rfl (gRun (by kernel_rfl) (.pointer (some ⟨g2,k * 7,none⟩)) fun _ h=>yD5 (.tmp 238) (.tmp 239) rfl _ _ _ rfl rfl HX.out.1) HS_ ?_
                             simp only [Act.put,aS,aC,aZ]
                             refine tH 14 241 rfl rfl (gRun (by kernel_rfl) (.pointer (some ⟨g2,k * 7+2,none⟩)) fun _ h=>yA3 f48_2 (.tmp 240) rfl g2 (k * 7) rfl) HS_ ?_
                             simp only [Act.put,aS,aC,aZ]
                             refine tH 15 242 rfl rfl (gRun (by kernel_rfl) (.agg ((plC (td.d:Nat) (td.a:Nat) (td.n:Nat) false)).toArray) fun _ h=>yA9 ag40 (.tmp 241) rfl g2 (k * 7+2) rfl ((plC (td.d:Nat) (td.a:Nat) (td.n:Nat) false)) rfl (fun i u hu=>by rw [Nat.add_assoc];exact HX.out.2.1 _ h.1 (2+i) u (tdC_pl td vb i u hu))) HS_ ?_
                             simp only [Act.put,aS,aC,aZ]
                             refine tH 16 243 rfl rfl (gRun (by kernel_rfl) (.bool false) fun _ h=>run_eqPl (.tmp 237) (.tmp 242) rfl (tj.d:Nat) (tj.a:Nat) (tj.n:Nat) (td.d:Nat) (td.a:Nat) (td.n:Nat) false false rfl rfl false hb2) HS_ ?_
                             simp only [Act.put,aS,aC,aZ]
                             refine tH 17 244 rfl rfl (gRun (by kernel_rfl) (.bool false) fun _ h=>yA6 (.tmp 232) (.tmp 243) (.const (.bool false)) rfl true (.bool false) rfl rfl) HS_ ?_
                             simp only [Act.put,aS,aC,aZ]
                             refine tH 18 245 rfl rfl (gRun (by kernel_rfl) (.bool false) fun _ h=>yA4 (.tmp 244) rfl (.bool false) rfl) HS_ ?_
                             simp only [Act.put,aS,aC,aZ]
                             refine tH 19 246 rfl rfl (Or.inr ⟨by kernel_rfl,rfl⟩) HS_ ?_
                             simp only [Act.put,aS,aC,aZ]
                             refine tH 20 247 rfl rfl (Or.inr ⟨by kernel_rfl,rfl⟩) HS_ ?_
                             simp only [Act.put,aS,aC,aZ]
                             refine tH 21 248 rfl rfl (Or.inr ⟨by kernel_rfl,rfl⟩) HS_ ?_
                             simp only [Act.put,aS,aC,aZ]
                             refine tH 22 249 rfl rfl (Or.inr ⟨by kernel_rfl,rfl⟩) HS_ ?_
                             simp only [Act.put,aS,aC,aZ]
                             refine tH 23 250 rfl rfl (Or.inr ⟨by kernel_rfl,rfl⟩) HS_ ?_
                             simp only [Act.put,aS,aC,aZ]
                             refine tH 24 251 rfl rfl (Or.inr ⟨by kernel_rfl,rfl⟩) HS_ ?_
                             simp only [Act.put,aS,aC,aZ]
                             refine tH 25 252 rfl rfl (Or.inr ⟨by kernel_rfl,rfl⟩) HS_ ?_
                             simp only [Act.put,aS,aC,aZ]
                             refine tH 26 253 rfl rfl (gRun (by kernel_rfl) (.bool false) fun _ h=>yA6 (.tmp 245) (.tmp 252) (.const (.bool false)) rfl false (.bool false) rfl rfl) HS_ ?_
                             simp only [Act.put,aS,aC,aZ]
                             refine tH 27 254 rfl rfl (gRun (by kernel_rfl) (.bool false) fun _ h=>yA4 (.tmp 253) rfl (.bool false) rfl) HS_ ?_
                             simp only [Act.put,aS,aC,aZ]
                             refine tH 28 255 rfl rfl (Or.inr ⟨by kernel_rfl,rfl⟩) HS_ ?_
                             simp only [Act.put,aS,aC,aZ]
                             refine tH 29 256 rfl rfl (Or.inr ⟨by kernel_rfl,rfl⟩) HS_ ?_
                             simp only [Act.put,aS,aC,aZ]
                             refine tH 30 257 rfl rfl (Or.inr ⟨by kernel_rfl,rfl⟩) HS_ ?_
                             simp only [Act.put,aS,aC,aZ]
                             refine tH 31 258 rfl rfl (Or.inr ⟨by kernel_rfl,rfl⟩) HS_ ?_
                             simp only [Act.put,aS,aC,aZ]
                             refine tH 32 259 rfl rfl (Or.inr ⟨by kernel_rfl,rfl⟩) HS_ ?_
                             simp only [Act.put,aS,aC,aZ]
                             refine tH 33 260 rfl rfl (Or.inr ⟨by kernel_rfl,rfl⟩) HS_ ?_
                             simp only [Act.put,aS,aC,aZ]
                             refine tH 34 261 rfl rfl (Or.inr ⟨by kernel_rfl,rfl⟩) HS_ ?_
                             simp only [Act.put,aS,aC,aZ]
                             refine tH 35 262 rfl rfl (Or.inr ⟨by kernel_rfl,rfl⟩) HS_ ?_
                             simp only [Act.put,aS,aC,aZ]
                             refine tH 36 263 rfl rfl (Or.inr ⟨by kernel_rfl,rfl⟩) HS_ ?_
                             simp only [Act.put,aS,aC,aZ]
                             refine tH 37 264 rfl rfl (gRun (by kernel_rfl) (.bool false) fun _ h=>yA6 (.tmp 254) (.tmp 263) (.const (.bool false)) rfl false (.bool false) rfl rfl) HS_ ?_
                             simp only [Act.put,aS,aC,aZ]
                             refine tH 38 265 rfl rfl (gRun rfl (.bool false) fun _ h=>yA6 (.tmp 228) (.const (.bool true)) (.tmp 264) rfl false (.bool false) rfl rfl) HS_ ?_
                             simp only [Act.put,aS,aC,aZ]
                             refine tH 39 29 rfl rfl (gRun rfl (.bool false) fun _ h=>yE7 (.tmp 265) rfl (.bool false) rfl) HS_ ?_
                             simp only [Act.put,aS,aC,aZ]
                             refine wpAnyH_done (by kernel_rfl) ?_ _
                             go_upto_region 55 with fail
                             refine wp_region_lit ?_
                             refine wm 30 (.int .i64 (j:Nat)) ?_
                             simp only [Act.put,aS,aC,aZ]
                             refine wl rfl (.int .i64 ((j+1:Nat):Int)) _ (yC8 (.tmp 225) (.const (.int .i64 1)) rfl (j:Nat) 1 _ rfl rfl (by omega) (by omega) (by have:=HTL;omega)) ?_
                             simp only [Act.put,aS,aC,aZ]
                             refine wa (.tmp 226) (.int .i64 ((j+1:Nat):Int)) ?_
                             simp only [Act.put,aS,aC,aZ]
                             refine wpList_nil ?_
                             go_wp2_with fail
                             exact ⟨⟨j+1,false,rfl,rfl,by omega,fun ⟨x,hx,hM⟩=>(by rcases Nat.lt_or_ge x j with q|q;exact hmt ⟨x,q,hM⟩;have e9:x=j:=(by omega);rw [HMT.out,e9] at hM;have hM2:j≠k∧(T.getD j default).id=id1∧(T.getD j default).bs=bs1∧(T.getD j default).d=td.d∧(T.getD j default).a=td.a∧(T.getD j default).n=td.n:=hM;rw [←HY.out.2.2.2.2] at hM2;exact absurd hM2 (fun hM=>hpl hM.2.2.2)),HN⟩,by simp [intOf];omega⟩
                       ·go_upto_region 54 with fail
                        refine wp_region_lit ?_
                        refine wm 30 (.int .i64 (j:Nat)) ?_
                        simp only [Act.put,aS,aC,aZ]
                        refine wm 10 u10 ?_
                        simp only [Act.put,aS,aC,aZ]
                        refine wl rfl (.int .i64 (T.length:Nat)) _ (run_lenT HL.out.1.1.t (.tmp 222) rfl rfl) ?_
                        simp only [Act.put,aS,aC,aZ]
                        refine wl rfl (.bool false) _ (yB8 (.tmp 221) (.tmp 223) rfl (j:Nat) (T.length:Nat) rfl rfl false (decide_eq_false (by omega))) ?_
                        simp only [Act.put,aS,aC,aZ]
                        refine wpList_nil ?_
                        obtain rfl:ob=true:=hmt (by obtain ⟨x,h1,h2⟩:=HEX.out;refine ⟨x,by omega,?_⟩;rw [HMT.out];exact ⟨fun e=>hsm (by rw [e,←HX.out.2.2.2.2] at h2;exact ⟨h2.1.symm,h2.2.1.symm⟩),h2⟩)
                        go_upto_region 57 with fail
                        refine wp_region_lit ?_
                        refine wm 29 (.bool true) ?_
                        simp only [Act.put,aS,aC,aZ]
                        refine wl rfl (.bool false) _ (yH3 (.tmp 266) 4 rfl true rfl) ?_
                        simp only [Act.put,aS,aC,aZ]
                        refine wpList_nil ?_
                        go_upto_region 46 with fail
                        refine wp_region_lit ?_
                        refine wm 24 (.int .i64 (k:Nat)) ?_
                        simp only [Act.put,aS,aC,aZ]
                        refine wl rfl (.int .i64 ((k+1:Nat):Int)) _ (yC8 (.tmp 172) (.const (.int .i64 1)) rfl (k:Nat) 1 _ rfl rfl (by omega) (by omega) (by have:=HTL;omega)) ?_
                        simp only [Act.put,aS,aC,aZ]
                        refine wa (.tmp 173) (.int .i64 ((k+1:Nat):Int)) ?_
                        simp only [Act.put,aS,aC,aZ]
                        refine wpList_nil ?_
                        go_wp2_with fail
                        exact ⟨⟨k+1,rfl,by omega,HL.out.1⟩,by simp [intOf];omega⟩
                ·as_aux_lemma =>
                  go_upto_region 48 with fail
                  refine wp_region_held (S:=fun X=>Below E0.heap.size E0 X∧yA2 X vb1 bs1) (by kernel_rfl) ?_
                  show wpAnyH _ _ _ _ _ 23 (Array.replicate 23 false) _ _
                  obtain ⟨E2,hX⟩:∃E2:World,E2 = { E1 with drawn:=E1.drawn+1 }:=⟨_,rfl⟩
                  rw [←hX]
                  have HS_:Below E0.heap.size E0 E2∧yA2 E2 vb1 bs1:=(by rw [hX];exact ⟨HF.out.2.2.trans ⟨rfl,rfl,rfl,Nat.le_refl _,fun _ _=>rfl⟩,HF.out.2.1.later ⟨rfl,rfl,rfl,Nat.le_refl _,fun _ _=>rfl⟩⟩)
                  have HG:Hid (((Jm w E2 c3 gp gw most m3 T u10 q5 [k0,k1] (16 * i))∧Cr (ctn m3 0) (m3.fl 0) P3 T∧m3.on=true)∧yA2 E2 vb1 bs1∧Below E0.heap.size E0 E2):=(by rw [hX];exact ⟨⟨HF.out.1.1.bel ⟨rfl,rfl,rfl,Nat.le_refl _,fun _ _=>rfl⟩,HF.out.1.2⟩,HF.out.2.1.later ⟨rfl,rfl,rfl,Nat.le_refl _,fun _ _=>rfl⟩,HF.out.2.2.trans ⟨rfl,rfl,rfl,Nat.le_refl _,fun _ _=>rfl⟩⟩)
                  clear HF
                  clear hX
                  refine tH 0 185 rfl rfl (gRun rfl (.int .i64 4) fun _ h=>yA4 (.tmp 27) rfl (.int .i64 4) rfl) HS_ ?_
                  simp only [Act.put,aS,aC,aZ]
                  refine tH 1 186 rfl rfl (gRun rfl (.bool false) fun _ h=>yC6 (.tmp 185) (.const (.int .i64 0)) rfl 4 0 rfl rfl false rfl) HS_ ?_
                  simp only [Act.put,aS,aC,aZ]
                  refine tH 2 187 rfl rfl (gRun rfl (.bool false) fun _ h=>yA4 (.tmp 186) rfl (.bool false) rfl) HS_ ?_
                  simp only [Act.put,aS,aC,aZ]
                  refine tH 3 188 rfl rfl (Or.inr ⟨by kernel_rfl,rfl⟩) HS_ ?_
                  simp only [Act.put,aS,aC,aZ]
                  refine tH 4 189 rfl rfl (Or.inr ⟨by kernel_rfl,rfl⟩) HS_ ?_
                  simp only [Act.put,aS,aC,aZ]
                  refine tH 5 190 rfl rfl (Or.inr ⟨by kernel_rfl,rfl⟩) HS_ ?_
                  simp only [Act.put,aS,aC,aZ]
                  refine tH 6 191 rfl rfl (Or.inr ⟨by kernel_rfl,rfl⟩) HS_ ?_
                  simp only [Act.put,aS,aC,aZ]
                  refine tH 7 192 rfl rfl (Or.inr ⟨by kernel_rfl,rfl⟩) HS_ ?_
                  simp only [Act.put,aS,aC,aZ]
                  refine tH 8 193 rfl rfl (Or.inr ⟨by kernel_rfl,rfl⟩) HS_ ?_
                  simp only [Act.put,aS,aC,aZ]
                  refine tH 9 194 rfl rfl (Or.inr ⟨by kernel_rfl,rfl⟩) HS_ ?_
                  simp only [Act.put,aS,aC,aZ]
                  refine tH 10 195 rfl rfl (gRun rfl (.bool false) fun _ h=>yA6 (.tmp 187) (.tmp 194) (.const (.bool false)) rfl false (.bool false) rfl rfl) HS_ ?_
                  simp only [Act.put,aS,aC,aZ]
                  refine tH 11 196 rfl rfl (gRun rfl (.bool false) fun _ h=>yA4 (.tmp 195) rfl (.bool false) rfl) HS_ ?_
                  simp only [Act.put,aS,aC,aZ]
                  refine tH 12 197 rfl rfl (Or.inr ⟨by kernel_rfl,rfl⟩) HS_ ?_
                  simp only [Act.put,aS,aC,aZ]
                  refine tH 13 198 rfl rfl (Or.inr ⟨by kernel_rfl,rfl⟩) HS_ ?_
                  simp only [Act.put,aS,aC,aZ]
                  refine tH 14 199 rfl rfl (Or.inr ⟨by kernel_rfl,rfl⟩) HS_ ?_
                  simp only [Act.put,aS,aC,aZ]
                  refine tH 15 200 rfl rfl (Or.inr ⟨by kernel_rfl,rfl⟩) HS_ ?_
                  simp only [Act.put,aS,aC,aZ]
                  refine tH 16 201 rfl rfl (Or.inr ⟨by kernel_rfl,rfl⟩) HS_ ?_
                  simp only [Act.put,aS,aC,aZ]
                  refine tH 17 202 rfl rfl (Or.inr ⟨by kernel_rfl,rfl⟩) HS_ ?_
                  simp only [Act.put,aS,aC,aZ]
                  refine tH 18 203 rfl rfl (Or.inr ⟨by kernel_rfl,rfl⟩) HS_ ?_
                  simp only [Act.put,aS,aC,aZ]
                  refine tH 19 204 rfl rfl (Or.inr ⟨by kernel_rfl,rfl⟩) HS_ ?_
                  simp only [Act.put,aS,aC,aZ]
                  refine tH 20 205 rfl rfl (Or.inr ⟨by kernel_rfl,rfl⟩) HS_ ?_
                  simp only [Act.put,aS,aC,aZ]
                  refine tH 21 206 rfl rfl (gRun rfl (.bool false) fun _ h=>yA6 (.tmp 196) (.tmp 205) (.const (.bool false)) rfl false (.bool false) rfl rfl) HS_ ?_
                  simp only [Act.put,aS,aC,aZ]
                  refine tH 22 28 rfl rfl (gRun rfl (.bool false) fun _ h=>yE7 (.tmp 206) rfl (.bool false) rfl) HS_ ?_
                  simp only [Act.put,aS,aC,aZ]
                  refine wpAnyH_done (by kernel_rfl) ?_ _
                  clear HE
                  go_upto_region 49 with fail
                  refine wp_region_lit ?_
                  refine wm 10 u10 ?_
                  simp only [Act.put,aS,aC,aZ]
                  refine wm 24 (.int .i64 (k:Nat)) ?_
                  simp only [Act.put,aS,aC,aZ]
                  refine wl rfl (.pointer (some ⟨g2,k * 7,none⟩)) _ (yD5 (.tmp 207) (.tmp 208) rfl _ _ _ rfl rfl HX.out.1) ?_
                  simp only [Act.put,aS,aC,aZ]
                  refine wl rfl (.pointer (some ⟨g2,k * 7+6,none⟩)) _ (yA3 f48_3 (.tmp 209) rfl g2 (k * 7) rfl) ?_
                  simp only [Act.put,aS,aC,aZ]
                  refine wl rfl (.bool false) _ (yA7 o4 (.tmp 210) rfl g2 (k * 7+6) rfl (.bool false) (by have h9:=HX.out.2.1 _ HG.out.2.2 6 _ rfl;rw [hfl] at h9;exact h9)) ?_
                  simp only [Act.put,aS,aC,aZ]
                  refine wm 211 (.bool false) ?_
                  simp only [Act.put,aS,aC,aZ]
                  with_reducible refine wpList_skip (by kernel_rfl) ?_
                  simp only [Act.put,aS,aC,aZ]
                  with_reducible refine wpList_skip (by kernel_rfl) ?_
                  simp only [Act.put,aS,aC,aZ]
                  refine wl rfl (.bool false) _ (yA6 (.tmp 212) (.tmp 214) (.const (.bool false)) rfl false (.bool false) rfl rfl) ?_
                  simp only [Act.put,aS,aC,aZ]
                  refine wpList_nil ?_
                  go_upto_region 51 with fail
                  refine wp_region_lit ?_
                  refine wm 28 (.bool false) ?_
                  simp only [Act.put,aS,aC,aZ]
                  refine wm 216 (.bool false) ?_
                  simp only [Act.put,aS,aC,aZ]
                  refine wl (by kernel_rfl) (.int .i64 4) _ (yA4 (.tmp 27) rfl (.int .i64 4) rfl) ?_
                  simp only [Act.put,aS,aC,aZ]
                  refine wl (by kernel_rfl) (.bool true) _ (yC6 (.tmp 218) (.const (.int .i64 4)) rfl 4 4 rfl rfl true rfl) ?_
                  simp only [Act.put,aS,aC,aZ]
                  refine wl rfl (.bool true) _ (yA6 (.tmp 217) (.const (.bool true)) (.tmp 219) rfl false (.bool true) rfl rfl) ?_
                  simp only [Act.put,aS,aC,aZ]
                  refine wpList_nil ?_
                  go_upto_region 46 with fail
                  refine wp_region_lit ?_
                  refine wm 24 (.int .i64 (k:Nat)) ?_
                  simp only [Act.put,aS,aC,aZ]
                  refine wl rfl (.int .i64 ((k+1:Nat):Int)) _ (yC8 (.tmp 172) (.const (.int .i64 1)) rfl (k:Nat) 1 _ rfl rfl (by omega) (by omega) (by have:=HTL;omega)) ?_
                  simp only [Act.put,aS,aC,aZ]
                  refine wa (.tmp 173) (.int .i64 ((k+1:Nat):Int)) ?_
                  simp only [Act.put,aS,aC,aZ]
                  refine wpList_nil ?_
                  go_wp2_with fail
                  exact ⟨⟨k+1,rfl,by omega,HG.out.1⟩,by simp [intOf];omega⟩
              ·go_upto_region 45 with fail
               refine wp_region_lit ?_
               refine wm 24 (.int .i64 (k:Nat)) ?_
               simp only [Act.put,aS,aC,aZ]
               refine wm 10 u10 ?_
               simp only [Act.put,aS,aC,aZ]
               refine wl rfl (.int .i64 (T.length:Nat)) _ (run_lenT HE.out.1.t (.tmp 169) rfl rfl) ?_
               simp only [Act.put,aS,aC,aZ]
               refine wl rfl (.bool false) _ (yB8 (.tmp 168) (.tmp 170) rfl (k:Nat) (T.length:Nat) rfl rfl false (decide_eq_false (by omega))) ?_
               simp only [Act.put,aS,aC,aZ]
               refine wpList_nil ?_
               go_upto_region 11 with fail
               refine wp_region_lit ?_
               refine wm 12 (.int .i64 (tn:Nat)) ?_
               simp only [Act.put,aS,aC,aZ]
               refine wl rfl (.int .i64 ((tn+1:Nat):Int)) _ (yC8 (.tmp 61) (.const (.int .i64 1)) rfl (tn:Nat) 1 _ rfl rfl (by omega) (by omega) (by omega)) ?_
               simp only [Act.put,aS,aC,aZ]
               refine wa (.tmp 62) (.int .i64 ((tn+1:Nat):Int)) ?_
               simp only [Act.put,aS,aC,aZ]
               refine wpList_nil ?_
               go_wp2_with fail
               exact ⟨⟨tn+1,rfl,by omega,c3,m3,T,P3,HE.out.1.jo (by rw [←hto2.out];omega),HE.out.2.1,hTB⟩,by simp [intOf];omega⟩
    ·go_upto_region 10 with fail
     refine wp_region_lit ?_
     refine wm 12 (.int .i64 (tn:Nat)) ?_
     simp only [Act.put,aS,aC,aZ]
     refine wl rfl (.bool false) _ (yB8 (.tmp 59) (.const (.int .i64 2)) rfl (tn:Nat) 2 rfl rfl false (decide_eq_false (by omega))) ?_
     simp only [Act.put,aS,aC,aZ]
     refine wpList_nil ?_
     go_upto_region 59 with fail
     refine wp_region_lit ?_
     refine wa (.const (.bool true)) (.bool true) ?_
     simp only [Act.put,aS,aC,aZ]
     refine wpList_nil ?_
     go_wp2_with fail
     rw [HPQ.out]
     exact ⟨rfl,HJ1.out.1.bel⟩
end Go.Proofs.YtpkkkkomdblpoaaDoor

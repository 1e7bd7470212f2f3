/- Layer 15: the law of a volume's calls. -/
import Derived.Test.YtpkkkkomdblpoaaDoorP38
import Derived.Deep.CutBlock
namespace Go.Proofs.YtpkkkkomdblpoaaDoor
open Go.RowKit Go.Maps
open Cold
theorem Jp.new {w W W':World} {c:Nat→Colour} {gp gv gy most:Nat} {m:Pl} {os:List Ob} {sd:Bool} {ol:List Ob} {sl:Bool} {vL:Value} {K q T:Nat} {cs:List Value} (h:Jp w W c gp gv gy most m os sd ol sl vL none K) (hc:Ch (· = q) W W') (ho:Out 2 gv c W q) (hw:w.heap.size≤q) (hne:gy≠q) (_:T≠48) (hr:Row W q T cs) (hb:∀vb bs,yA3 W vb bs→bs=[]∨∀b,vb.ownBlock=some b→b≠q):Jp w W' c gp gv gy most m os sd ol sl vL none K :=
 ⟨h.v.own hc (fun _ e=>e▸ho),h.f.own hc (fun _ e=>e▸hw),hc.row hne h.y,⟨Nat.lt_of_lt_of_le h.o.1 hc.size,h.o.2⟩,h.b,h.t.one hc (fun b e e2=>h.t.noR hr (by assumption) (by rw [←e2];exact e)) hb,(fun x e=>by cases e),h.s,h.k⟩
theorem run_lenOw {w w0:World} {a:Act} {o:Oper} {B:Nat} {v:Value} {cs:List Nat} (h:BOwn w0 B v cs) (x:Operand) (ho:o.op = .call { callee:=.builtin .len,args:=#[x],argTypes:=#[38] }) (hx:a.eval x=v):(execOp a.eval o).run Tryd.prog w = .ok (.value (.int .i64 (cs.length:Nat))) w:=by
 rcases h.2 with ⟨rfl,h0⟩|⟨g,cap,cur,rfl,_⟩
 ·rw [h0]
  exact yJ9 sl38 x ho _ _ _ hx
 ·exact yJ9 sl38 x ho _ _ _ hx
set_option maxHeartbeats 40000000 in
set_option maxRecDepth 2000000 in
theorem coldvolPlays_any (w:World) (he:Env w) (h3:3≤w.heap.size) (mi:Int) (hmi:I64 mi) (vl:Value) (us:List OpD) (hl:OpsIn w vl us) (hbl:∀o∈us,o.b.length≤140737488355328):Calls Tryd.prog 3 #[.int .i64 mi,vl] w fun e w'=>e = .returned (.bool true)∧Below w.heap.size w w':=by
 have HM:Hid (Env w∧3≤w.heap.size∧OpsIn w vl us∧(∀o∈us,o.b.length≤140737488355328)∧I64 mi):=⟨he,h3,hl,hbl,hmi⟩
 have hAl:us.length≤9223372036854775807:=hl.few
 clear he h3 hl hbl hmi
 obtain ⟨PQ,HPQ⟩:=exPQ fun (e:Ending) (w':World)=>e = .returned (.bool true)∧Below w.heap.size w w'
 rw [←HPQ.out]
 go_enter Tryd.func3,Tryd.ntmps3
 go_upto_region 0 with fail
 refine wp_region_lit ?_
 refine wa (.const (.bool false)) (.bool false) ?_
 simp only [Act.put,aS,aC,aZ]
 refine wpList_nil ?_
 go_upto_region 1 with fail
 refine wp_region_lit ?_
 refine yA5 eN8 [] _ rfl rfl [] rfl ?_
 refine (shown_any w HM.out.1 HM.out.2.1).mono ?_
 rintro e W1 ⟨rfl,hb_⟩
 refine ⟨_,rfl,?_⟩
 have H1:Hid (Below w.heap.size w W1):=hb_
 clear hb_
 simp only [Act.put,aS,aC,aZ]
 refine wa (.tmp 38) (.bool true) ?_
 simp only [Act.put,aS,aC,aZ]
 refine wpList_nil ?_
 by_cases hok:¬ yL1 [2] [3,mi]=true
 ·as_aux_lemma =>
   go_upto_region 2 with fail
   refine wp_region_lit ?_
   refine wl rfl _ _ (run_ints1 (.const (.int .i64 2)) rfl 2 rfl) ?_
   have hb_:=yB0 W1 (.cells ([(2:Int)].map (Value.int .i64)).toArray 3)
   have r_:=Row.new W1 3 ([(2:Int)].map (Value.int .i64))
   obtain ⟨W2,hW_⟩:∃U_:World,U_=W1.alloc (.cells ([(2:Int)].map (Value.int .i64)).toArray 3):=⟨_,rfl⟩
   obtain ⟨qd,hq_⟩:∃q,q=W1.heap.size:=⟨_,rfl⟩
   rw [←hW_] at hb_
   rw [←hW_,←hq_] at r_
   rw [←hW_,←hq_]
   have H2:Hid (Row W2 qd 3 ([(2:Int)].map (Value.int .i64))∧Below w.heap.size w W2):=⟨r_,H1.out.trans (hb_.mono H1.out.size)⟩
   clear r_ hb_ hW_ hq_ H1
   simp only [Act.put,aS,aC,aZ]
   refine wm 0 (.int .i64 mi) ?_
   refine wl rfl _ _ (run_ints2 (.const (.int .i64 3)) (.tmp 41) rfl 3 mi rfl rfl) ?_
   have hb_:=yB0 W2 (.cells ([(3:Int),mi].map (Value.int .i64)).toArray 3)
   have r_:=Row.new W2 3 ([(3:Int),mi].map (Value.int .i64))
   obtain ⟨W3,hW_⟩:∃U_:World,U_=W2.alloc (.cells ([(3:Int),mi].map (Value.int .i64)).toArray 3):=⟨_,rfl⟩
   obtain ⟨qt,hq_⟩:∃q,q=W2.heap.size:=⟨_,rfl⟩
   rw [←hW_] at hb_
   rw [←hW_,←hq_] at r_
   rw [←hW_,←hq_]
   have H3:Hid (IntsIn W3 (whole qd 1) [2]∧IntsIn W3 (whole qt 2) [3,mi]∧Below w.heap.size w W3):=⟨ints_row (l:=[2]) (H2.out.1.later hb_ H2.out.1.lt) (by decide),ints_row (l:=[3,mi]) r_ (by simp),H2.out.2.trans (hb_.mono H2.out.2.size)⟩
   clear r_ hb_ hW_ hq_ H2
   simp only [Act.put,aS,aC,aZ]
   refine wl rfl _ _ (run_build30d (.tmp 40) (.tmp 42) rfl qd 1 qt 2 rfl rfl) ?_
   simp only [Act.put,aS,aC,aZ]
   refine yA5 eN9 [.tmp 43] _ rfl rfl [(.agg #[whole qd 1,whole qt 2])] rfl ?_
   refine (newBad_any W3 (whole qd 1) (whole qt 2) [2] [3,mi] H3.out.1 H3.out.2.1 (by decide) (by simp) (by simpa using hok)).mono ?_
   rintro e W4 ⟨rfl,hb_⟩
   refine ⟨_,rfl,?_⟩
   have H4:Hid (Below w.heap.size w W4):=H3.out.2.2.trans (hb_.mono H3.out.2.2.size)
   clear hb_ H3
   simp only [Act.put,aS,aC,aZ]
   refine wm 44 (.tuple #[(.pointer none),(.int .i64 30)]) ?_
   refine wl rfl _ _ (yA7 (.tmp 39) 0 rfl #[(.pointer none),(.int .i64 30)] rfl (.pointer none) rfl) ?_
   refine wl rfl _ _ (yA7 (.tmp 39) 1 rfl #[(.pointer none),(.int .i64 30)] rfl (.int .i64 30) rfl) ?_
   simp only [Act.put,aS,aC,aZ]
   refine wa (.tmp 45) (.pointer none) ?_
   refine wa (.tmp 46) (.int .i64 30) ?_
   simp only [Act.put,aS,aC,aZ]
   refine wpList_nil ?_
   go_upto_region 3 with fail
   refine wp_region_lit ?_
   refine wm 5 (.bool true) ?_
   refine wl rfl _ _ (yG1 (.tmp 47) 4 rfl true rfl) ?_
   refine wm 48 (.bool false) ?_
   simp only [Act.put,aS,aC,aZ]
   refine wl (by kernel_rfl) _ _ (yA6 (.tmp 6) rfl (.pointer none) rfl) ?_
   refine wl (by kernel_rfl) (.bool true) _ (yH7 (.tmp 50) (.const (.pointer none)) rfl _ _ _ rfl rfl rfl (by kernel_rfl)) ?_
   refine wl (by kernel_rfl) _ _ (yA6 (.tmp 7) rfl (.int .i64 30) rfl) ?_
   simp only [Act.put,aS,aC,aZ]
   refine wl (by kernel_rfl) _ _ (yC5 (.tmp 52) (.const (.int .i64 0)) rfl 30 0 rfl rfl true rfl) ?_
   refine wl (by kernel_rfl) _ _ (run_neBo (.tmp 51) (.tmp 53) rfl true true rfl rfl false rfl) ?_
   refine wl rfl _ _ (yA8 (.tmp 49) (.const (.bool true)) (.tmp 54) rfl false (.bool false) rfl rfl) ?_
   simp only [Act.put,aS,aC,aZ]
   refine wpList_nil ?_
   go_upto_region 5 with fail
   refine wp_region_lit ?_
   refine wm 6 (.pointer none) ?_
   refine wl rfl (.bool true) _ (yH7 (.tmp 56) (.const (.pointer none)) rfl _ _ _ rfl rfl rfl (by kernel_rfl)) ?_
   simp only [Act.put,aS,aC,aZ]
   refine wpList_nil ?_
   go_upto_region 6 with fail
   refine wp_region_lit ?_
   refine wa (.const (.bool true)) (.bool true) ?_
   simp only [Act.put,aS,aC,aZ]
   refine wpList_nil ?_
   go_wp2_with fail
   rw [HPQ.out]
   exact ⟨rfl,H4.out⟩
 have hok2:yL1 [2] [3,mi]=true:=Decidable.not_not.1 hok
 obtain ⟨most,rfl,hm1,hm2⟩:=shape_most hok2
 clear hok
 go_upto_region 2 with fail
 refine wp_region_lit ?_
 refine wl rfl _ _ (run_ints1 (.const (.int .i64 2)) rfl 2 rfl) ?_
 have hb_:=yB0 W1 (.cells ([(2:Int)].map (Value.int .i64)).toArray 3)
 have r_:=Row.new W1 3 ([(2:Int)].map (Value.int .i64))
 obtain ⟨W2,hW_⟩:∃U_:World,U_=W1.alloc (.cells ([(2:Int)].map (Value.int .i64)).toArray 3):=⟨_,rfl⟩
 obtain ⟨qd,hq_⟩:∃q,q=W1.heap.size:=⟨_,rfl⟩
 rw [←hW_] at hb_
 rw [←hW_,←hq_] at r_
 rw [←hW_,←hq_]
 have H2:Hid (Row W2 qd 3 ([(2:Int)].map (Value.int .i64))∧Below w.heap.size w W2):=⟨r_,H1.out.trans (hb_.mono H1.out.size)⟩
 clear r_ hb_ hW_ hq_ H1
 simp only [Act.put,aS,aC,aZ]
 refine wm 0 (.int .i64 ((most:Nat):Int)) ?_
 refine wl rfl _ _ (run_ints2 (.const (.int .i64 3)) (.tmp 41) rfl 3 ((most:Nat):Int) rfl rfl) ?_
 have hb_:=yB0 W2 (.cells ([(3:Int),((most:Nat):Int)].map (Value.int .i64)).toArray 3)
 have r_:=Row.new W2 3 ([(3:Int),((most:Nat):Int)].map (Value.int .i64))
 obtain ⟨W3,hW_⟩:∃U_:World,U_=W2.alloc (.cells ([(3:Int),((most:Nat):Int)].map (Value.int .i64)).toArray 3):=⟨_,rfl⟩
 obtain ⟨qt,hq_⟩:∃q,q=W2.heap.size:=⟨_,rfl⟩
 rw [←hW_] at hb_
 rw [←hW_,←hq_] at r_
 rw [←hW_,←hq_]
 have H3:Hid (IntsIn W3 (whole qd 1) [2]∧IntsIn W3 (whole qt 2) [3,((most:Nat):Int)]∧Below w.heap.size w W3):=⟨ints_row (l:=[2]) (H2.out.1.later hb_ H2.out.1.lt) (by decide),ints_row (l:=[3,((most:Nat):Int)]) r_ (by simp),H2.out.2.trans (hb_.mono H2.out.2.size)⟩
 clear r_ hb_ hW_ hq_ H2
 simp only [Act.put,aS,aC,aZ]
 refine wl rfl _ _ (run_build30d (.tmp 40) (.tmp 42) rfl qd 1 qt 2 rfl rfl) ?_
 simp only [Act.put,aS,aC,aZ]
 refine yA5 eN9 [.tmp 43] _ rfl rfl [(.agg #[whole qd 1,whole qt 2])] rfl ?_
 refine (Live.new W3 (fun _=>(0,0)) 2 _ _ [2] [3,((most:Nat):Int)] H3.out.1 H3.out.2.1 hok2).mono ?_
 rintro e W4 ⟨gp,c1,rfl,_,hcc_,_,hl_,hb_⟩
 refine ⟨_,rfl,?_⟩
 have H4:Hid (Live W4 c1 2 gp (newPl [2] [3,(most:Nat)])∧Below w.heap.size w W4∧(∀b,b<w.heap.size→(c1 b).1≠2)∧yL1 [2] [3,((most:Nat):Int)]=true):=⟨hl_,H3.out.2.2.trans (hb_.mono H3.out.2.2.size),fun b hb=>by rw [hcc_ b (Nat.lt_of_lt_of_le hb H3.out.2.2.size)];decide,hok2⟩
 clear hl_ hb_ hcc_ H3 hok2
 simp only [Act.put,aS,aC,aZ]
 refine wm 44 (.tuple #[(ptr gp),(.int .i64 0)]) ?_
 refine wl rfl _ _ (yA7 (.tmp 39) 0 rfl #[(ptr gp),(.int .i64 0)] rfl (ptr gp) rfl) ?_
 refine wl rfl _ _ (yA7 (.tmp 39) 1 rfl #[(ptr gp),(.int .i64 0)] rfl (.int .i64 0) rfl) ?_
 simp only [Act.put,aS,aC,aZ]
 refine wa (.tmp 45) (ptr gp) ?_
 refine wa (.tmp 46) (.int .i64 0) ?_
 simp only [Act.put,aS,aC,aZ]
 refine wpList_nil ?_
 go_upto_region 3 with fail
 refine wp_region_lit ?_
 refine wm 5 (.bool true) ?_
 refine wl rfl _ _ (yG1 (.tmp 47) 4 rfl true rfl) ?_
 refine wm 48 (.bool false) ?_
 simp only [Act.put,aS,aC,aZ]
 refine wl (by kernel_rfl) _ _ (yA6 (.tmp 6) rfl (ptr gp) rfl) ?_
 refine wl (by kernel_rfl) (.bool false) _ (yH7 (.tmp 50) (.const (.pointer none)) rfl _ _ _ rfl rfl rfl (by kernel_rfl)) ?_
 refine wl (by kernel_rfl) _ _ (yA6 (.tmp 7) rfl (.int .i64 0) rfl) ?_
 simp only [Act.put,aS,aC,aZ]
 refine wl (by kernel_rfl) _ _ (yC5 (.tmp 52) (.const (.int .i64 0)) rfl 0 0 rfl rfl false rfl) ?_
 refine wl (by kernel_rfl) _ _ (run_neBo (.tmp 51) (.tmp 53) rfl false false rfl rfl false rfl) ?_
 refine wl rfl _ _ (yA8 (.tmp 49) (.const (.bool true)) (.tmp 54) rfl false (.bool false) rfl rfl) ?_
 simp only [Act.put,aS,aC,aZ]
 refine wpList_nil ?_
 go_upto_region 5 with fail
 refine wp_region_lit ?_
 refine wm 6 (ptr gp) ?_
 refine wl rfl (.bool false) _ (yH7 (.tmp 56) (.const (.pointer none)) rfl _ _ _ rfl rfl rfl (by kernel_rfl)) ?_
 simp only [Act.put,aS,aC,aZ]
 refine wpList_nil ?_
 go_upto_region 7 with fail
 refine wp_region_lit ?_
 refine wm 6 (ptr gp) ?_
 simp only [Act.put,aS,aC,aZ]
 refine yA5 eN10 [.tmp 59,.const (.int .i64 0)] _ rfl rfl [(ptr gp),(.int .i64 0)] rfl ?_
 refine (vopen_no H4.out.1 (ds:=[2]) (ts:=[3,most]) shape_of (HM.out.1.later H4.out.2.1) ⟨Nat.le_trans HM.out.2.1 H4.out.2.1.size,H4.out.2.2.1 0 (by have:=HM.out.2.1;omega),H4.out.2.2.1 1 (by have:=HM.out.2.1;omega),H4.out.2.2.1 2 (by have:=HM.out.2.1;omega)⟩ (show 3≤1000 by decide) 0 (by decide) (fun h=>absurd h.1 (by decide:¬ ((1:Nat):Int)≤0))).mono ?_
 rintro e W5 ⟨rfl,hb_⟩
 refine ⟨_,rfl,?_⟩
 have H5:Hid (Live W5 c1 2 gp (newPl [2] [3,(most:Nat)])∧Below w.heap.size w W5∧(∀b,b<w.heap.size→(c1 b).1≠2)∧yL1 [2] [3,((most:Nat):Int)]=true):=⟨H4.out.1.below hb_,H4.out.2.1.trans (hb_.mono H4.out.2.1.size),H4.out.2.2⟩
 clear hb_ H4
 simp only [Act.put,aS,aC,aZ]
 refine wm 60 (.tuple #[(.pointer none),(.int .i64 1)]) ?_
 refine wl rfl _ _ (yA7 (.tmp 58) 0 rfl #[(.pointer none),(.int .i64 1)] rfl (.pointer none) rfl) ?_
 refine wl rfl _ _ (yA7 (.tmp 58) 1 rfl #[(.pointer none),(.int .i64 1)] rfl (.int .i64 1) rfl) ?_
 simp only [Act.put,aS,aC,aZ]
 refine wa (.tmp 61) (.pointer none) ?_
 refine wa (.tmp 62) (.int .i64 1) ?_
 simp only [Act.put,aS,aC,aZ]
 refine wpList_nil ?_
 go_upto_region 8 with fail
 refine wp_region_lit ?_
 refine wm 6 (ptr gp) ?_
 simp only [Act.put,aS,aC,aZ]
 refine yA5 eN10 [.tmp 64,.const (.int .i64 2)] _ rfl rfl [(ptr gp),(.int .i64 2)] rfl ?_
 refine (vopen_s H5.out.1 (ds:=[2]) (ts:=[3,most]) shape_of (HM.out.1.later H5.out.2.1) ⟨Nat.le_trans HM.out.2.1 H5.out.2.1.size,H5.out.2.2.1 0 (by have:=HM.out.2.1;omega),H5.out.2.2.1 1 (by have:=HM.out.2.1;omega),H5.out.2.2.1 2 (by have:=HM.out.2.1;omega)⟩ (show 3≤1000 by decide) 1 (show 1<2 by decide) (new_onT [2] [3,((most:Nat):Int)] H5.out.2.2.2 1 (show 1<2 by decide))).mono ?_
 rintro e W6 ⟨gv,rfl,hg_,hb_,hv_⟩
 refine ⟨_,rfl,?_⟩
 have H6:Hid (VOn W6 c1 2 gp gv 2 (most:Nat) (newPl [2] [3,(most:Nat)]) [] false∧Fr0 w W6 c1 2 gv):=⟨hv_,⟨H5.out.2.1.trans (hb_.mono H5.out.2.1.size),Nat.le_trans H5.out.2.1.size hg_,H5.out.2.2.1⟩⟩
 clear hv_ hb_ hg_ H5
 simp only [Act.put,aS,aC,aZ]
 refine wm 65 (.tuple #[(ptr gv),(.int .i64 0)]) ?_
 refine wl rfl _ _ (yA7 (.tmp 63) 0 rfl #[(ptr gv),(.int .i64 0)] rfl (ptr gv) rfl) ?_
 refine wl rfl _ _ (yA7 (.tmp 63) 1 rfl #[(ptr gv),(.int .i64 0)] rfl (.int .i64 0) rfl) ?_
 simp only [Act.put,aS,aC,aZ]
 refine wa (.tmp 66) (ptr gv) ?_
 refine wa (.tmp 67) (.int .i64 0) ?_
 simp only [Act.put,aS,aC,aZ]
 refine wpList_nil ?_
 go_upto_region 9 with fail
 refine wp_region_lit ?_
 refine wm 9 (.int .i64 1) ?_
 refine wl rfl _ _ (yC5 (.tmp 68) (.const (.int .i64 1)) rfl 1 1 rfl rfl false rfl) ?_
 refine wm 69 (.bool false) ?_
 simp only [Act.put,aS,aC,aZ]
 refine wl (by kernel_rfl) _ _ (yA6 (.tmp 10) rfl (ptr gv) rfl) ?_
 refine wl (by kernel_rfl) (.bool false) _ (yH7 (.tmp 71) (.const (.pointer none)) rfl _ _ _ rfl rfl rfl (by kernel_rfl)) ?_
 refine wl rfl _ _ (yA8 (.tmp 70) (.const (.bool true)) (.tmp 72) rfl false (.bool false) rfl rfl) ?_
 simp only [Act.put,aS,aC,aZ]
 refine wm 73 (.bool false) ?_
 refine wl (by kernel_rfl) _ _ (yA6 (.tmp 11) rfl (.int .i64 0) rfl) ?_
 refine wl (by kernel_rfl) _ _ (yC5 (.tmp 75) (.const (.int .i64 0)) rfl 0 0 rfl rfl false rfl) ?_
 simp only [Act.put,aS,aC,aZ]
 refine wl rfl _ _ (yA8 (.tmp 74) (.const (.bool true)) (.tmp 76) rfl false (.bool false) rfl rfl) ?_
 simp only [Act.put,aS,aC,aZ]
 refine wpList_nil ?_
 go_upto_region 11 with fail
 refine wp_region_lit ?_
 refine wm 0 (.int .i64 ((most:Nat):Int)) ?_
 refine wl rfl _ _ (run_build37 (.tmp 78) rfl most rfl) ?_
 refine wl rfl _ _ (yG9 (.tmp 79) rfl (rvC 2 most 0 (.slice none 0 0) false) rfl) ?_
 have hb_:=yB0 W6 (.cells (rvC 2 most 0 (.slice none 0 0) false).toArray 37)
 have r_:=Row.new W6 37 (rvC 2 most 0 (.slice none 0 0) false)
 obtain ⟨W7,hW_⟩:∃U_:World,U_=W6.alloc (.cells (rvC 2 most 0 (.slice none 0 0) false).toArray 37):=⟨_,rfl⟩
 obtain ⟨gy,hq_⟩:∃q,q=W6.heap.size:=⟨_,rfl⟩
 rw [←hW_] at hb_
 rw [←hW_,←hq_] at r_
 rw [←hW_,←hq_]
 have HJ:Hid (Jp w W7 c1 gp gv gy most (newPl [2] [3,(most:Nat)]) [] false [] false (.slice none 0 0) none (0)):=⟨H6.out.1.below hb_,H6.out.2.sq (Sq.bel c1 hb_),r_,H6.out.1.outNew (Nat.le_of_eq hq_.symm) r_.lt,by rw [hq_];exact H6.out.2.bel.size,TdIn.nil _ _ _ _ _,(fun x e=>by cases e),shape_of,Nat.le_refl _⟩
 clear r_ hb_ hW_ hq_ H6
 simp only [Act.put,aS,aC,aZ]
 refine wa (.tmp 80) (ptr gy) ?_
 simp only [Act.put,aS,aC,aZ]
 refine wpList_nil ?_
 go_upto_region 12 with fail
 refine wp_region_lit ?_
 refine wa (.const (.int .i64 0)) (.int .i64 0) ?_
 simp only [Act.put,aS,aC,aZ]
 refine wpList_nil ?_
 clear hm1 hm2
 go_wp2_with fail
 go_loopw [10,11,13,14,15,16,17,18,19,20,21,22,23,24,25,26,27,28,29,30,31,32,33] (fun v10 _ vk _ _ _ _ _ _ _ _ _ _ _ _ _ _ _ _ _ _ _ _ W => ∃k:Nat,vk = .int .i64 (k:Nat)∧k≤us.length∧k≤60∧∃(gv:Nat) (c:Nat→Colour) (m:Pl) (os:List Ob) (sd:Bool) (vL:Value),v10=ptr gv∧Hid (Jp w W c gp gv gy most m os sd os sd vL none (32 * k))) (fun _ _ vk _ _ _ _ _ _ _ _ _ _ _ _ _ _ _ _ _ _ _ _ _=>60 - (intOf vk).toNat)
 case atStart=>exact ⟨0,rfl,Nat.zero_le _,by decide,gv,c1,_,[],false,_,rfl,HJ.out⟩
 case round =>
  obtain ⟨k,rfl,hkA,hk60,gv0,c0,m0,os,sd,vL,rfl,HI⟩:=hrel
  obtain ⟨W0,hW0⟩:∃X,X=wr:=⟨_,rfl⟩
  subst hW0
  have HJ0:Hid (Jp w W0 c0 gp gv0 gy most m0 os sd os sd vL none (32 * k)):=HI.out
  clear HI HJ
  by_cases h1:k<us.length∧k<60
  ·as_aux_lemma =>
    go_upto_region 13 with fail
    refine wp_region_lit ?_
    refine wm 13 (.int .i64 (k:Nat)) ?_
    refine wm 1 vl ?_
    refine wl rfl _ _ (run_lenOp HM.out.2.2.1 (.tmp 82) rfl rfl) ?_
    simp only [Act.put,aS,aC,aZ]
    refine wl rfl _ _ (yB5 (.tmp 81) (.tmp 83) rfl (k:Nat) (us.length:Nat) rfl rfl true (decide_eq_true (by omega))) ?_
    refine wm 84 (.bool true) ?_
    refine wl (by kernel_rfl) _ _ (yA6 (.tmp 13) rfl (.int .i64 (k:Nat)) rfl) ?_
    simp only [Act.put,aS,aC,aZ]
    refine wl (by kernel_rfl) _ _ (yB5 (.tmp 86) (.const (.int .i64 60)) rfl (k:Nat) 60 rfl rfl true (decide_eq_true (by omega))) ?_
    refine wl rfl _ _ (yA8 (.tmp 85) (.tmp 87) (.const (.bool false)) rfl true (.bool true) rfl rfl) ?_
    simp only [Act.put,aS,aC,aZ]
    refine wpList_nil ?_
    obtain ⟨ab,aj,hx_,ho_,hc_⟩:=ix_op HM.out.2.2.1 k h1.1
    have hol_:=HM.out.2.2.2.1 (us.getD k default) (by rw [List.getD_eq_getElem?_getD,List.getElem?_eq_getElem h1.1];exact List.getElem_mem h1.1)
    obtain ⟨o,hoe⟩:∃o,o=us.getD k default:=⟨_,rfl⟩
    rw [←hoe] at ho_ hc_ hol_
    have HXA:Hid ((∀w',(Instr.indexAt 22 vl (.int .i64 (k:Nat))).run Tryd.prog w' = .ok (.pointer (some ⟨ab,aj,none⟩)) w')∧(∀W,Below w.heap.size w W→∀(i:Nat) u,o.cells[i]? = some u→W.cell? ⟨ab,aj+i,none⟩=some u)):=⟨hx_,hc_⟩
    have HO:Hid (OpIn w o∧o.b.length≤140737488355328):=⟨ho_,hol_⟩
    clear hx_ hc_ ho_ hol_ hoe
    go_upto_region 15 with fail
    refine wp_region_lit ?_
    refine wm 1 vl ?_
    refine wm 13 (.int .i64 (k:Nat)) ?_
    refine wl rfl _ _ (yE9 (.tmp 91) (.tmp 92) rfl _ _ _ rfl rfl HXA.out.1) ?_
    simp only [Act.put,aS,aC,aZ]
    refine wl rfl _ _ (yA9 ag42 (.tmp 93) rfl ab (aj) rfl (o.cells) rfl (HXA.out.2 _ HJ0.out.f.bel)) ?_
    refine wl rfl _ _ (yB3 ((default:OpD).cells) zero42 rfl) ?_
    have hb_:=yB0 W0 (.cells ((default:OpD).cells).toArray 42)
    have r_:=Row.new W0 42 ((default:OpD).cells)
    obtain ⟨W1,hW_⟩:∃U_:World,U_=W0.alloc (.cells ((default:OpD).cells).toArray 42):=⟨_,rfl⟩
    obtain ⟨q14,hq_⟩:∃q,q=W0.heap.size:=⟨_,rfl⟩
    rw [←hW_] at hb_
    rw [←hW_,←hq_] at r_
    rw [←hW_,←hq_]
    have HQ:Hid (Row W1 q14 42 ((default:OpD).cells)∧Below W0.heap.size W0 W1∧W0.heap.size≤q14):=⟨r_,hb_,Nat.le_of_eq hq_.symm⟩
    clear r_ hb_ hW_ hq_
    simp only [Act.put,aS,aC,aZ]
    refine wlS rfl rfl _ (yD0 ag42 (.tmp 14) (.tmp 94) rfl q14 42 rfl o.cells _ rfl rfl HQ.out.1 rfl HO.out.1.one) ?_
    have hb_:=(Ch.setRow (S:=(· = q14)) (Ch.refl _ W1) (Or.inl rfl) o.cells.toArray)
    have r_:=HQ.out.1.setRow o.cells
    obtain ⟨W2,hW_⟩:∃U_:World,U_=W1.setRow q14 o.cells.toArray:=⟨_,rfl⟩
    rw [←hW_] at hb_ r_ ⊢
    have hbb:=HQ.out.2.1.trans (hb_.below HQ.out.2.1.size fun k hk e=>by have:=HQ.out.2.2;omega)
    have hge:=HQ.out.2.2
    have HJ2:Hid (Jp w W2 c0 gp gv0 gy most m0 os sd os sd vL none (32 * k)):=HJ0.out.bel hbb
    have H14:Hid (Row W2 q14 42 o.cells∧Out 2 gv0 c0 W2 q14):=⟨r_,HJ0.out.v.outNew hge r_.lt⟩
    clear HJ0
    clear hW_ r_ hb_ hbb hge HQ
    refine wpList_nil ?_
    go_upto_region 16 with fail
    refine wp_region_lit ?_
    refine wl rfl _ _ (yA2 f42_0 (.tmp 14) rfl q14 (0) rfl) ?_
    refine wl rfl _ _ (yA4 o3 (.tmp 95) rfl q14 (0+0) rfl (.int .i64 o.k) (H14.out.1.at (0+0) _ rfl)) ?_
    simp only [Act.put,aS,aC,aZ]
    refine yA5 eN11 [.tmp 96] _ rfl rfl [(.int .i64 o.k)] rfl ?_
    refine (kindT_any o.k HO.out.1.k W2).mono ?_
    rintro e W2 ⟨rfl,rfl⟩
    refine ⟨_,rfl,?_⟩
    obtain ⟨kd,hkd⟩:∃kd,kd=kindT o.k:=⟨_,rfl⟩
    rw [←hkd]
    have hk0:0≤kd∧kd<10:=(by rw [hkd];unfold kindT;omega)
    clear hkd
    simp only [Act.put,aS,aC,aZ]
    refine wpList_nil ?_
    go_upto_block 2 with fail
    go_cut [10] from 81 to 315 (fun v10 W => ∃(gv:Nat) (c:Nat→Colour) (m:Pl) (os:List Ob) (sd:Bool) (vL:Value),v10=ptr gv∧Hid (Jp w W c gp gv gy most m os sd os sd vL none (32 * k+16)))
    case first =>
     by_cases h4:kd≤4
     ·as_aux_lemma =>
       refine wp_block ?_
       refine wp_seq_k fun K98 hK98 => ?_
       go_cut [98] from 99 to 103 (fun v98 W=>v98 = .bool true∧W2=W)
       case first =>
        have hcase:kd=0∨kd=1∨kd=2∨kd=3∨kd=4:=(by omega)
        clear hk0 h4
        rcases hcase with rfl|rfl|rfl|rfl|rfl
        ·go_upto_region 17 with fail
         refine wp_region_lit ?_
         refine wl rfl _ _ (yC3 (.tmp 97) (.const (.int .i64 0)) rfl (0) (0) rfl rfl true rfl) ?_
         refine wa (.tmp 99) (.bool true) ?_
         simp only [Act.put,aS,aC,aZ]
         refine wpList_nil ?_
         go_wp2_with fail
         go_meet
         case rel=>exact ⟨rfl,rfl⟩
        ·go_upto_region 17 with fail
         refine wp_region_lit ?_
         refine wl rfl _ _ (yC3 (.tmp 97) (.const (.int .i64 0)) rfl (1) (0) rfl rfl false rfl) ?_
         refine wa (.tmp 99) (.bool false) ?_
         simp only [Act.put,aS,aC,aZ]
         refine wpList_nil ?_
         go_upto_region 18 with fail
         refine wp_region_lit ?_
         refine wl rfl _ _ (yC3 (.tmp 97) (.const (.int .i64 1)) rfl (1) (1) rfl rfl true rfl) ?_
         refine wa (.tmp 100) (.bool true) ?_
         simp only [Act.put,aS,aC,aZ]
         refine wpList_nil ?_
         go_wp2_with fail
         go_meet
         case rel=>exact ⟨rfl,rfl⟩
        ·go_upto_region 17 with fail
         refine wp_region_lit ?_
         refine wl rfl _ _ (yC3 (.tmp 97) (.const (.int .i64 0)) rfl (2) (0) rfl rfl false rfl) ?_
         refine wa (.tmp 99) (.bool false) ?_
         simp only [Act.put,aS,aC,aZ]
         refine wpList_nil ?_
         go_upto_region 18 with fail
         refine wp_region_lit ?_
         refine wl rfl _ _ (yC3 (.tmp 97) (.const (.int .i64 1)) rfl (2) (1) rfl rfl false rfl) ?_
         refine wa (.tmp 100) (.bool false) ?_
         simp only [Act.put,aS,aC,aZ]
         refine wpList_nil ?_
         go_upto_region 19 with fail
         refine wp_region_lit ?_
         refine wl rfl _ _ (yC3 (.tmp 97) (.const (.int .i64 2)) rfl (2) (2) rfl rfl true rfl) ?_
         refine wa (.tmp 101) (.bool true) ?_
         simp only [Act.put,aS,aC,aZ]
         refine wpList_nil ?_
         go_wp2_with fail
         go_meet
         case rel=>exact ⟨rfl,rfl⟩
        ·go_upto_region 17 with fail
         refine wp_region_lit ?_
         refine wl rfl _ _ (yC3 (.tmp 97) (.const (.int .i64 0)) rfl (3) (0) rfl rfl false rfl) ?_
         refine wa (.tmp 99) (.bool false) ?_
         simp only [Act.put,aS,aC,aZ]
         refine wpList_nil ?_
         go_upto_region 18 with fail
         refine wp_region_lit ?_
         refine wl rfl _ _ (yC3 (.tmp 97) (.const (.int .i64 1)) rfl (3) (1) rfl rfl false rfl) ?_
         refine wa (.tmp 100) (.bool false) ?_
         simp only [Act.put,aS,aC,aZ]
         refine wpList_nil ?_
         go_upto_region 19 with fail
         refine wp_region_lit ?_
         refine wl rfl _ _ (yC3 (.tmp 97) (.const (.int .i64 2)) rfl (3) (2) rfl rfl false rfl) ?_
         refine wa (.tmp 101) (.bool false) ?_
         simp only [Act.put,aS,aC,aZ]
         refine wpList_nil ?_
         go_upto_region 20 with fail
         refine wp_region_lit ?_
         refine wl rfl _ _ (yC3 (.tmp 97) (.const (.int .i64 3)) rfl (3) (3) rfl rfl true rfl) ?_
         refine wa (.tmp 102) (.bool true) ?_
         simp only [Act.put,aS,aC,aZ]
         refine wpList_nil ?_
         go_wp2_with fail
         go_meet
         case rel=>exact ⟨rfl,rfl⟩
        ·go_upto_region 17 with fail
         refine wp_region_lit ?_
         refine wl rfl _ _ (yC3 (.tmp 97) (.const (.int .i64 0)) rfl (4) (0) rfl rfl false rfl) ?_
         refine wa (.tmp 99) (.bool false) ?_
         simp only [Act.put,aS,aC,aZ]
         refine wpList_nil ?_
         go_upto_region 18 with fail
         refine wp_region_lit ?_
         refine wl rfl _ _ (yC3 (.tmp 97) (.const (.int .i64 1)) rfl (4) (1) rfl rfl false rfl) ?_
         refine wa (.tmp 100) (.bool false) ?_
         simp only [Act.put,aS,aC,aZ]
         refine wpList_nil ?_
         go_upto_region 19 with fail
         refine wp_region_lit ?_
         refine wl rfl _ _ (yC3 (.tmp 97) (.const (.int .i64 2)) rfl (4) (2) rfl rfl false rfl) ?_
         refine wa (.tmp 101) (.bool false) ?_
         simp only [Act.put,aS,aC,aZ]
         refine wpList_nil ?_
         go_upto_region 20 with fail
         refine wp_region_lit ?_
         refine wl rfl _ _ (yC3 (.tmp 97) (.const (.int .i64 3)) rfl (4) (3) rfl rfl false rfl) ?_
         refine wa (.tmp 102) (.bool false) ?_
         simp only [Act.put,aS,aC,aZ]
         refine wpList_nil ?_
         go_upto_region 21 with fail
         refine wp_region_lit ?_
         refine wl rfl _ _ (yC3 (.tmp 97) (.const (.int .i64 4)) rfl (4) (4) rfl rfl true rfl) ?_
         refine wa (.tmp 103) (.bool true) ?_
         simp only [Act.put,aS,aC,aZ]
         refine wpList_nil ?_
         go_wp2_with fail
         go_meet
         case rel=>exact ⟨rfl,rfl⟩
       case rest =>
        as_aux_lemma =>
         obtain ⟨rfl,rfl⟩:=hcut
         clear hk0 h4
         go_upto_region 22 with fail
         refine wp_region_lit ?_
         refine wl rfl _ _ (run_lit38 rfl) ?_
         have hb_:=yB0 W2 (.cells #[] 5)
         have ho_:=BOwn.new W2 W2.heap.size (Nat.le_refl _)
         have hlt_:W2.heap.size<(W2.alloc (.cells #[] 5)).heap.size:=(Row.new W2 5 []).lt
         obtain ⟨A1,hW_⟩:∃U_:World,U_=W2.alloc (.cells #[] 5):=⟨_,rfl⟩
         obtain ⟨vz,hv_⟩:∃v:Value,v = .slice (some ⟨W2.heap.size,0,none⟩) 0 0:=⟨_,rfl⟩
         rw [←hW_] at hb_ ho_ hlt_ ⊢
         rw [←hv_] at ho_ ⊢
         have HA1:Hid (Below W2.heap.size W2 A1∧BOwn A1 W2.heap.size vz []∧W2.heap.size<A1.heap.size∧Row A1 q14 42 o.cells):=⟨hb_,ho_,hlt_,H14.out.1.later hb_ H14.out.1.lt⟩
         clear hb_ ho_ hlt_ hW_ hv_
         simp only [Act.put,aS,aC,aZ]
         refine wl rfl _ _ (yA2 f42_3 (.tmp 14) rfl q14 (0) rfl) ?_
         refine wl rfl _ _ (yA4 o38 (.tmp 105) rfl q14 (0+3) rfl o.bv (HA1.out.2.2.2.at (0+3) _ rfl)) ?_
         simp only [Act.put,aS,aC,aZ]
         have hvb_:=HO.out.1.b.later (HJ2.out.f.bel.trans (HA1.out.1.mono HJ2.out.f.bel.size))
         obtain ⟨v15,A2,hr_,ho2_,hb_⟩:=run_bappU W2.heap.size vz o.bv [] o.b HA1.out.2.1 hvb_ (by have:=HO.out.2;simp only [List.length_nil];omega) (Nat.le_of_lt HA1.out.2.2.1)
         refine wl rfl v15 A2 (yH8 (.tmp 104) (.tmp 106) rfl _ _ _ rfl rfl hr_) ?_
         rw [List.nil_append] at ho2_
         have hb2_:=HA1.out.1.trans hb_
         obtain ⟨x,hx1_,hx2_,hx3_⟩:=own_blk ho2_ (Nat.lt_of_lt_of_le HA1.out.2.2.1 hb_.size)
         have HA2:Hid ((Jp w A2 c0 gp gv0 gy most m0 os sd os sd vL (some x) (32 * k))∧Ow w A2 c0 gv0 gy W2.heap.size v15 o.b x∧yA3 A2 v15 o.b∧Row A2 q14 42 o.cells∧Out 2 gv0 c0 A2 q14):=⟨HJ2.out.own hb2_ hx1_ hx2_,⟨ho2_,hx3_,HJ2.out.v.outNew hx1_ hx2_,Nat.le_trans HJ2.out.f.bel.size hx1_,fun e=>by have:=HJ2.out.y.lt;omega⟩,BOwn.slice ho2_ (yA3.lt256 hvb_) (by have:=HO.out.2;omega),H14.out.1.later hb2_ H14.out.1.lt,⟨Nat.lt_of_lt_of_le H14.out.2.1 hb2_.size,H14.out.2.2⟩⟩
         clear hvb_ hr_ ho2_ hb_ hb2_ hx1_ hx2_ hx3_ HA1 H14 HJ2
         simp only [Act.put,aS,aC,aZ]
         refine wa (.tmp 107) v15 ?_
         simp only [Act.put,aS,aC,aZ]
         refine wpList_nil ?_
         go_upto_region 23 with fail
         refine wp_region_lit ?_
         refine wm 10 (ptr gv0) ?_
         refine wl rfl _ _ (yA2 f42_2 (.tmp 14) rfl q14 (0) rfl) ?_
         refine wl rfl _ _ (yA4 o9 (.tmp 110) rfl q14 (0+2) rfl (str o.id) (HA2.out.2.2.2.1.at (0+2) _ rfl)) ?_
         simp only [Act.put,aS,aC,aZ]
         refine wm 15 v15 ?_
         simp only [Act.put,aS,aC,aZ]
         refine yA5 eN12 [.tmp 109,.tmp 111,.tmp 112] _ rfl rfl [(ptr gv0),(str o.id),v15] rfl ?_
         refine (vapp_x HA2.out.1.v (by have:=HA2.out.1.k;omega) o.id o.b v15 HO.out.1.id HA2.out.2.2.1 (Or.inr fun b e=>by rw [HA2.out.2.1.is b e];exact HA2.out.2.1.out.2.1)).mono ?_
         rintro e A3 ⟨c3,m3,er,her_,rfl,s_,v_,hm_,_⟩
         obtain ⟨p1,p2,p3,hp_⟩:∃p1 p2 p3,plA 2 os o.b er=plC p1 p2 p3 false:=(by unfold plA;split;exact ⟨_,_,_,rfl⟩;exact ⟨_,_,_,rfl⟩)
         rw [hp_]
         refine ⟨_,rfl,?_⟩
         rw [may_eq HA2.out.1.few.2.1] at her_
         have HA3:Hid ((Jp w A3 c3 gp gv0 gy most m3 (osA os o.id o.b er) sd os sd vL (some x) (32 * k+16))∧Ow w A3 c3 gv0 gy W2.heap.size v15 o.b x∧Row A3 q14 42 o.cells∧er=mayT most (wide os) sd o.id o.b∧plA 2 os o.b er=(plC p1 p2 p3 false)):=⟨HA2.out.1.turn s_ v_ hm_,HA2.out.2.1.sq s_,s_.row HA2.out.2.2.2.2 HA2.out.2.2.2.1,her_,hp_⟩
         clear her_ s_ v_ hm_ hp_ HA2
         simp only [Act.put,aS,aC,aZ]
         refine wm 113 (.tuple #[(.agg (plC p1 p2 p3 false).toArray),(.int .i64 er)]) ?_
         refine wl rfl _ _ (yA7 (.tmp 108) 0 rfl #[(.agg (plC p1 p2 p3 false).toArray),(.int .i64 er)] rfl (.agg (plC p1 p2 p3 false).toArray) rfl) ?_
         refine wl rfl _ _ (yA7 (.tmp 108) 1 rfl #[(.agg (plC p1 p2 p3 false).toArray),(.int .i64 er)] rfl (.int .i64 er) rfl) ?_
         simp only [Act.put,aS,aC,aZ]
         refine wl rfl _ _ (yB3 ((plC 0 0 0 false)) zero40 rfl) ?_
         have hb_:=yB0 A3 (.cells ((plC 0 0 0 false)).toArray 40)
         have r_:=Row.new A3 40 ((plC 0 0 0 false))
         obtain ⟨A4,hW_⟩:∃U_:World,U_=A3.alloc (.cells ((plC 0 0 0 false)).toArray 40):=⟨_,rfl⟩
         obtain ⟨q16,hq_⟩:∃q,q=A3.heap.size:=⟨_,rfl⟩
         rw [←hW_] at hb_
         rw [←hW_,←hq_] at r_
         rw [←hW_,←hq_]
         have HQ:Hid (Row A4 q16 40 ((plC 0 0 0 false))∧Below A3.heap.size A3 A4∧A3.heap.size≤q16):=⟨r_,hb_,Nat.le_of_eq hq_.symm⟩
         clear r_ hb_ hW_ hq_
         simp only [Act.put,aS,aC,aZ]
         refine wlS rfl rfl _ (yD0 ag40 (.tmp 16) (.tmp 114) rfl q16 40 rfl (plC p1 p2 p3 false) _ rfl rfl HQ.out.1 rfl (yF7 _ _ _ _)) ?_
         have hb_:=(Ch.setRow (S:=(· = q16)) (Ch.refl _ A4) (Or.inl rfl) (plC p1 p2 p3 false).toArray)
         have r_:=HQ.out.1.setRow (plC p1 p2 p3 false)
         obtain ⟨A5,hW_⟩:∃U_:World,U_=A4.setRow q16 (plC p1 p2 p3 false).toArray:=⟨_,rfl⟩
         rw [←hW_] at hb_ r_ ⊢
         have hbb:=HQ.out.2.1.trans (hb_.below HQ.out.2.1.size fun k hk e=>by have:=HQ.out.2.2;omega)
         have hge:=HQ.out.2.2
         have HA5:Hid ((Jp w A5 c3 gp gv0 gy most m3 (osA os o.id o.b er) sd os sd vL (some x) (32 * k+16))∧Ow w A5 c3 gv0 gy W2.heap.size v15 o.b x∧Row A5 q14 42 o.cells∧Row A5 q16 40 (plC p1 p2 p3 false)∧er=mayT most (wide os) sd o.id o.b∧plA 2 os o.b er=(plC p1 p2 p3 false)):=⟨HA3.out.1.bel hbb,HA3.out.2.1.bel hbb,HA3.out.2.2.1.later hbb HA3.out.2.2.1.lt,r_,HA3.out.2.2.2⟩
         clear HA3
         clear hW_ r_ hb_ hbb hge HQ
         refine wa (.tmp 115) (.int .i64 er) ?_
         simp only [Act.put,aS,aC,aZ]
         refine wpList_nil ?_
         go_upto_region 24 with fail
         refine wp_region_lit ?_
         refine wm 12 (ptr gy) ?_
         refine wl rfl _ _ (yA2 f42_2 (.tmp 14) rfl q14 (0) rfl) ?_
         refine wl rfl _ _ (yA4 o9 (.tmp 118) rfl q14 (0+2) rfl (str o.id) (HA5.out.2.2.1.at (0+2) _ rfl)) ?_
         simp only [Act.put,aS,aC,aZ]
         refine wl rfl _ _ (yA2 f42_3 (.tmp 14) rfl q14 (0) rfl) ?_
         refine wl rfl _ _ (yA4 o38 (.tmp 120) rfl q14 (0+3) rfl o.bv (HA5.out.2.2.1.at (0+3) _ rfl)) ?_
         simp only [Act.put,aS,aC,aZ]
         refine yA5 eN13 [.tmp 117,.tmp 119,.tmp 121] _ rfl rfl [(ptr gy),(str o.id),o.bv] rfl ?_
         refine (doc_app HA5.out.2.2.2.2.1 HA5.out.1 o.bv HO.out.1.id (HO.out.1.b.later HA5.out.1.f.bel)).mono ?_
         rintro e A6 ⟨vM,rfl,hj_,hc_⟩
         rw [HA5.out.2.2.2.2.2]
         refine ⟨_,rfl,?_⟩
         have HA6:Hid ((Jp w A6 c3 gp gv0 gy most m3 (osA os o.id o.b er) sd (osA os o.id o.b er) sd vM (some x) (32 * k+16))∧Ow w A6 c3 gv0 gy W2.heap.size v15 o.b x∧Row A6 q14 42 o.cells∧Row A6 q16 40 (plC p1 p2 p3 false)):=⟨hj_,HA5.out.2.1.ch hc_ (fun e=>e.elim (fun e=>HA5.out.2.1.ne e.symm) fun e=>(stq_ne (HA5.out.1.t.1 x e).2.2.1).2 rfl),hc_.row (fun e=>e.elim (row_ne HA5.out.2.2.1 HA5.out.1.y (by decide)) fun e=>HA5.out.1.t.noR HA5.out.2.2.1 (by decide) e) HA5.out.2.2.1,hc_.row (fun e=>e.elim (row_ne HA5.out.2.2.2.1 HA5.out.1.y (by decide)) fun e=>HA5.out.1.t.noR HA5.out.2.2.2.1 (by decide) e) HA5.out.2.2.2.1⟩
         clear hj_ hc_ HA5
         simp only [Act.put,aS,aC,aZ]
         refine wm 122 (.tuple #[(.agg (plC p1 p2 p3 false).toArray),(.int .i64 er)]) ?_
         refine wl rfl _ _ (yA7 (.tmp 116) 0 rfl #[(.agg (plC p1 p2 p3 false).toArray),(.int .i64 er)] rfl (.agg (plC p1 p2 p3 false).toArray) rfl) ?_
         refine wl rfl _ _ (yA7 (.tmp 116) 1 rfl #[(.agg (plC p1 p2 p3 false).toArray),(.int .i64 er)] rfl (.int .i64 er) rfl) ?_
         simp only [Act.put,aS,aC,aZ]
         refine wl rfl _ _ (yB3 ((plC 0 0 0 false)) zero40 rfl) ?_
         have hb_:=yB0 A6 (.cells ((plC 0 0 0 false)).toArray 40)
         have r_:=Row.new A6 40 ((plC 0 0 0 false))
         obtain ⟨A7,hW_⟩:∃U_:World,U_=A6.alloc (.cells ((plC 0 0 0 false)).toArray 40):=⟨_,rfl⟩
         obtain ⟨q18,hq_⟩:∃q,q=A6.heap.size:=⟨_,rfl⟩
         rw [←hW_] at hb_
         rw [←hW_,←hq_] at r_
         rw [←hW_,←hq_]
         have HQ:Hid (Row A7 q18 40 ((plC 0 0 0 false))∧Below A6.heap.size A6 A7∧A6.heap.size≤q18):=⟨r_,hb_,Nat.le_of_eq hq_.symm⟩
         clear r_ hb_ hW_ hq_
         simp only [Act.put,aS,aC,aZ]
         refine wlS rfl rfl _ (yD0 ag40 (.tmp 18) (.tmp 123) rfl q18 40 rfl (plC p1 p2 p3 false) _ rfl rfl HQ.out.1 rfl (yF7 _ _ _ _)) ?_
         have hb_:=(Ch.setRow (S:=(· = q18)) (Ch.refl _ A7) (Or.inl rfl) (plC p1 p2 p3 false).toArray)
         have r_:=HQ.out.1.setRow (plC p1 p2 p3 false)
         obtain ⟨A8,hW_⟩:∃U_:World,U_=A7.setRow q18 (plC p1 p2 p3 false).toArray:=⟨_,rfl⟩
         rw [←hW_] at hb_ r_ ⊢
         have hbb:=HQ.out.2.1.trans (hb_.below HQ.out.2.1.size fun k hk e=>by have:=HQ.out.2.2;omega)
         have hge:=HQ.out.2.2
         have HA8:Hid ((Jp w A8 c3 gp gv0 gy most m3 (osA os o.id o.b er) sd (osA os o.id o.b er) sd vM (some x) (32 * k+16))∧Ow w A8 c3 gv0 gy W2.heap.size v15 o.b x∧Row A8 q14 42 o.cells∧Row A8 q16 40 (plC p1 p2 p3 false)∧Row A8 q18 40 (plC p1 p2 p3 false)):=⟨HA6.out.1.bel hbb,HA6.out.2.1.bel hbb,HA6.out.2.2.1.later hbb HA6.out.2.2.1.lt,HA6.out.2.2.2.later hbb HA6.out.2.2.2.lt,r_⟩
         clear HA6
         clear hW_ r_ hb_ hbb hge HQ
         refine wa (.tmp 124) (.int .i64 er) ?_
         simp only [Act.put,aS,aC,aZ]
         refine wpList_nil ?_
         go_upto_region 25 with fail
         refine wp_region_lit ?_
         refine wa (.const (.int .i64 0)) (.int .i64 0) ?_
         simp only [Act.put,aS,aC,aZ]
         refine wpList_nil ?_
         have hob:=HO.out.2
         go_wp2_with fail
         go_loopw [20] (fun vj W => ∃(j:Nat) (cs:List Nat),vj = .int .i64 (j:Nat)∧j≤o.b.length∧cs.length=o.b.length∧Hid ((Jp w W c3 gp gv0 gy most m3 (osA os o.id o.b er) sd (osA os o.id o.b er) sd vM (some x) (32 * k+16))∧Ow w W c3 gv0 gy W2.heap.size v15 cs x∧Row W q14 42 o.cells∧Row W q16 40 (plC p1 p2 p3 false)∧Row W q18 40 (plC p1 p2 p3 false))) (fun vj _=>o.b.length - (intOf vj).toNat)
         case atStart=>exact ⟨0,o.b,rfl,Nat.zero_le _,rfl,HA8.out⟩
         case round =>
          obtain ⟨j,cs,rfl,hj,hcl,HI⟩:=hrel
          obtain ⟨A9,hA9⟩:∃X,X=wr:=⟨_,rfl⟩
          subst hA9
          have H9:Hid ((Jp w A9 c3 gp gv0 gy most m3 (osA os o.id o.b er) sd (osA os o.id o.b er) sd vM (some x) (32 * k+16))∧Ow w A9 c3 gv0 gy W2.heap.size v15 cs x∧Row A9 q14 42 o.cells∧Row A9 q16 40 (plC p1 p2 p3 false)∧Row A9 q18 40 (plC p1 p2 p3 false)):=HI.out
          clear HI HA8
          by_cases hjl:j<o.b.length
          ·go_upto_region 26 with fail
           refine wp_region_lit ?_
           refine wm 20 (.int .i64 (j:Nat)) ?_
           refine wm 15 v15 ?_
           refine wl rfl (.int .i64 (o.b.length:Nat)) _ ((by rw [←hcl];exact run_lenOw H9.out.2.1.own (.tmp 126) rfl rfl)) ?_
           simp only [Act.put,aS,aC,aZ]
           refine wl rfl _ _ (yB5 (.tmp 125) (.tmp 127) rfl (j:Nat) (o.b.length:Nat) rfl rfl true (decide_eq_true (by omega))) ?_
           simp only [Act.put,aS,aC,aZ]
           refine wpList_nil ?_
           obtain ⟨cur,hx_,hr_,hl_,hs_⟩:=H9.out.1.spoils H9.out.2.1 j (by omega)
           obtain ⟨ho_,hj_,hc_⟩:=hs_ 99
           have HX:Hid ((∀w',(Instr.indexAt 38 v15 (.int .i64 (j:Nat))).run Tryd.prog w' = .ok (.pointer (some ⟨x,j,none⟩)) w')∧Row A9 x 5 cur∧j<cur.length):=⟨hx_,hr_,hl_⟩
           clear hs_ hx_ hr_ hl_
           go_upto_region 28 with fail
           refine wp_region_lit ?_
           refine wm 15 v15 ?_
           refine wm 20 (.int .i64 (j:Nat)) ?_
           refine wl rfl _ _ (yE9 (.tmp 131) (.tmp 132) rfl _ _ _ rfl rfl HX.out.1) ?_
           simp only [Act.put,aS,aC,aZ]
           refine wlS rfl rfl _ (yH1 (t:=5) Fr.size5 (.tmp 133) (.const (.int .u8 99)) rfl x j 5 cur rfl (.int .u8 99) rfl ⟨rfl,rfl⟩ HX.out.2.1 HX.out.2.2) ?_
           obtain ⟨AA,hW_⟩:∃U_:World,U_=A9.setCell ⟨x,j,none⟩ (.int .u8 99):=⟨_,rfl⟩
           rw [show (((99:Nat):Int))=99 from rfl,←hW_] at ho_ hj_ hc_
           rw [←hW_]
           have HAA:Hid ((Jp w AA c3 gp gv0 gy most m3 (osA os o.id o.b er) sd (osA os o.id o.b er) sd vM (some x) (32 * k+16))∧Ow w AA c3 gv0 gy W2.heap.size v15 (cs.set j 99) x∧Row AA q14 42 o.cells∧Row AA q16 40 (plC p1 p2 p3 false)∧Row AA q18 40 (plC p1 p2 p3 false)):=⟨hj_,ho_,hc_.row (row_ne H9.out.2.2.1 HX.out.2.1 (by decide)) H9.out.2.2.1,hc_.row (row_ne H9.out.2.2.2.1 HX.out.2.1 (by decide)) H9.out.2.2.2.1,hc_.row (row_ne H9.out.2.2.2.2 HX.out.2.1 (by decide)) H9.out.2.2.2.2⟩
           clear hW_ ho_ hj_ hc_ HX H9
           refine wpList_nil ?_
           go_upto_region 27 with fail
           refine wp_region_lit ?_
           refine wm 20 (.int .i64 (j:Nat)) ?_
           refine wl rfl (.int .i64 ((j+1:Nat):Int)) _ (yD6 (.tmp 129) (.const (.int .i64 1)) rfl (j:Nat) 1 _ rfl rfl (by omega) (by omega) (by omega)) ?_
           refine wa (.tmp 130) (.int .i64 ((j+1:Nat):Int)) ?_
           simp only [Act.put,aS,aC,aZ]
           refine wpList_nil ?_
           go_wp2_with fail
           exact ⟨⟨j+1,_,rfl,by omega,by rw [List.length_set];exact hcl,HAA⟩,by simp [intOf];omega⟩
          ·as_aux_lemma =>
            go_upto_region 26 with fail
            refine wp_region_lit ?_
            refine wm 20 (.int .i64 (j:Nat)) ?_
            refine wm 15 v15 ?_
            refine wl rfl (.int .i64 (o.b.length:Nat)) _ ((by rw [←hcl];exact run_lenOw H9.out.2.1.own (.tmp 126) rfl rfl)) ?_
            simp only [Act.put,aS,aC,aZ]
            refine wl rfl _ _ (yB5 (.tmp 125) (.tmp 127) rfl (j:Nat) (o.b.length:Nat) rfl rfl false (decide_eq_false (by omega))) ?_
            simp only [Act.put,aS,aC,aZ]
            refine wpList_nil ?_
            go_upto_region 29 with fail
            refine wp_region_held (S:=fun X=>Row X q14 42 o.cells∧Row X q16 40 (plC p1 p2 p3 false)∧Row X q18 40 (plC p1 p2 p3 false)) (by kernel_rfl) ?_
            show wpAnyH _ _ _ _ _ 19 (Array.replicate 19 false) _ _
            obtain ⟨X,hX⟩:∃X:World,X = { A9 with drawn:=A9.drawn+1 }:=⟨_,rfl⟩
            rw [←hX]
            have HS_:Row X q14 42 o.cells∧Row X q16 40 (plC p1 p2 p3 false)∧Row X q18 40 (plC p1 p2 p3 false):=(by rw [hX];exact ⟨H9.out.2.2.1.later ⟨rfl,rfl,rfl,Nat.le_refl _,fun _ _=>rfl⟩ H9.out.2.2.1.lt,H9.out.2.2.2.1.later ⟨rfl,rfl,rfl,Nat.le_refl _,fun _ _=>rfl⟩ H9.out.2.2.2.1.lt,H9.out.2.2.2.2.later ⟨rfl,rfl,rfl,Nat.le_refl _,fun _ _=>rfl⟩ H9.out.2.2.2.2.lt⟩)
            have HJX:Hid (Jp w X c3 gp gv0 gy most m3 (osA os o.id o.b er) sd (osA os o.id o.b er) sd vM (some x) (32 * k+16)):=(by rw [hX];exact H9.out.1.bel ⟨rfl,rfl,rfl,Nat.le_refl _,fun _ _=>rfl⟩)
            clear hX
            refine tH 0 134 rfl rfl (gRun rfl _ fun _ h=>yA9 ag40 (.tmp 16) rfl q16 (0) rfl ((plC p1 p2 p3 false)) rfl (yE7 h.2.1)) HS_ ?_
            refine tH 1 135 rfl rfl (gRun rfl _ fun _ h=>yA9 ag40 (.tmp 18) rfl q18 (0) rfl ((plC p1 p2 p3 false)) rfl (yE7 h.2.2)) HS_ ?_
            refine tH 2 136 rfl rfl (gRun rfl _ fun _ h=>run_nePl (.tmp 134) (.tmp 135) rfl p1 p2 p3 p1 p2 p3 false false rfl rfl false (by simp)) HS_ ?_
            simp only [Act.put,aS,aC,aZ]
            refine tH 3 137 rfl rfl (gRun rfl _ fun _ h=>yA6 (.tmp 136) rfl (.bool false) rfl) HS_ ?_
            refine tH 4 138 rfl rfl (gRun (by kernel_rfl) _ fun _ h=>yA6 (.tmp 17) rfl (.int .i64 er) rfl) HS_ ?_
            refine tH 5 139 rfl rfl (gRun (by kernel_rfl) _ fun _ h=>yA6 (.tmp 19) rfl (.int .i64 er) rfl) HS_ ?_
            simp only [Act.put,aS,aC,aZ]
            refine tH 6 140 rfl rfl (gRun (by kernel_rfl) _ fun _ h=>yC5 (.tmp 138) (.tmp 139) rfl er er rfl rfl false (by simp)) HS_ ?_
            refine tH 7 141 rfl rfl (gRun rfl _ fun _ h=>yA8 (.tmp 137) (.const (.bool true)) (.tmp 140) rfl false (.bool false) rfl rfl) HS_ ?_
            refine tH 8 142 rfl rfl (gRun rfl _ fun _ h=>yA6 (.tmp 141) rfl (.bool false) rfl) HS_ ?_
            simp only [Act.put,aS,aC,aZ]
            refine tH 9 143 rfl rfl (gRun (by kernel_rfl) _ fun _ h=>yA2 f42_3 (.tmp 14) rfl q14 (0) rfl) HS_ ?_
            refine tH 10 144 rfl rfl (gRun (by kernel_rfl) _ fun _ h=>yA4 o38 (.tmp 143) rfl q14 (0+3) rfl o.bv (h.1.at (0+3) _ rfl)) HS_ ?_
            refine tH 11 145 rfl rfl (gRun (by kernel_rfl) _ fun _ h=>yF3 HO.out.1.b (.tmp 144) rfl rfl) HS_ ?_
            simp only [Act.put,aS,aC,aZ]
            refine tH 13 147 rfl rfl (gRun (by kernel_rfl) _ fun _ h=>yA2 f42_3 (.tmp 14) rfl q14 (0) rfl) HS_ ?_
            refine tH 14 148 rfl rfl (gRun (by kernel_rfl) _ fun _ h=>yA4 o38 (.tmp 147) rfl q14 (0+3) rfl o.bv (h.1.at (0+3) _ rfl)) HS_ ?_
            refine tH 15 149 rfl rfl (gRun (by kernel_rfl) _ fun _ h=>yF3 HO.out.1.b (.tmp 148) rfl rfl) HS_ ?_
            simp only [Act.put,aS,aC,aZ]
            refine oneH (i:=12) (by kernel_rfl) ?_
            refine yE0 (some 146) rfl rfl (by kernel_rfl) 14 _ (yC0 eN14 [.tmp 145] _ rfl [(.int .i64 (o.b.length:Nat))] rfl) ?_
            refine (yI4 o.b.length (by omega) X).mono ?_
            rintro e X ⟨rfl,rfl⟩
            refine ⟨_,rfl,?_⟩
            refine ⟨HS_,?_⟩
            simp only [Act.put,aS,aC,aZ]
            refine oneH (i:=16) (by kernel_rfl) ?_
            refine yE0 (some 150) rfl rfl (by kernel_rfl) 15 _ (yC0 eN15 [.tmp 149] _ rfl [(.int .i64 (o.b.length:Nat))] rfl) ?_
            refine (rblocks_any o.b.length (by omega) X).mono ?_
            rintro e X ⟨rfl,rfl⟩
            refine ⟨_,rfl,?_⟩
            refine ⟨HS_,?_⟩
            simp only [Act.put,aS,aC,aZ]
            refine tH 17 151 rfl rfl (gRun (by kernel_rfl) _ fun _ h=>yC5 (.tmp 146) (.tmp 150) rfl (nbP o.b.length:Nat) (nbP o.b.length:Nat) rfl rfl false (by simp)) HS_ ?_
            refine tH 18 152 rfl rfl (gRun rfl _ fun _ h=>yA8 (.tmp 142) (.const (.bool true)) (.tmp 151) rfl false (.bool false) rfl rfl) HS_ ?_
            simp only [Act.put,aS,aC,aZ]
            refine wpAnyH_done (by kernel_rfl) ?_ _
            go_wp2_with fail
            go_meet
            case rel=>exact ⟨_,_,_,_,_,_,rfl,HJX.out.drop⟩
     ·as_aux_lemma =>
       go_upto_region 17 with fail
       refine wp_region_lit ?_
       refine wl rfl _ _ (yC3 (.tmp 97) (.const (.int .i64 0)) rfl kd 0 rfl rfl false (decide_eq_false (by omega))) ?_
       refine wa (.tmp 99) (.bool false) ?_
       simp only [Act.put,aS,aC,aZ]
       refine wpList_nil ?_
       go_upto_region 18 with fail
       refine wp_region_lit ?_
       refine wl rfl _ _ (yC3 (.tmp 97) (.const (.int .i64 1)) rfl kd 1 rfl rfl false (decide_eq_false (by omega))) ?_
       refine wa (.tmp 100) (.bool false) ?_
       simp only [Act.put,aS,aC,aZ]
       refine wpList_nil ?_
       go_upto_region 19 with fail
       refine wp_region_lit ?_
       refine wl rfl _ _ (yC3 (.tmp 97) (.const (.int .i64 2)) rfl kd 2 rfl rfl false (decide_eq_false (by omega))) ?_
       refine wa (.tmp 101) (.bool false) ?_
       simp only [Act.put,aS,aC,aZ]
       refine wpList_nil ?_
       go_upto_region 20 with fail
       refine wp_region_lit ?_
       refine wl rfl _ _ (yC3 (.tmp 97) (.const (.int .i64 3)) rfl kd 3 rfl rfl false (decide_eq_false (by omega))) ?_
       refine wa (.tmp 102) (.bool false) ?_
       simp only [Act.put,aS,aC,aZ]
       refine wpList_nil ?_
       go_upto_region 21 with fail
       refine wp_region_lit ?_
       refine wl rfl _ _ (yC3 (.tmp 97) (.const (.int .i64 4)) rfl kd 4 rfl rfl false (decide_eq_false (by omega))) ?_
       refine wa (.tmp 103) (.bool false) ?_
       simp only [Act.put,aS,aC,aZ]
       refine wpList_nil ?_
       have hcase:kd=5∨kd=6∨kd=7∨kd=8∨kd=9:=(by omega)
       clear hk0 h4
       rcases hcase with rfl|rfl|rfl|rfl|rfl
       ·go_upto_region 31 with fail
        refine wp_region_lit ?_
        refine wl rfl _ _ (yC3 (.tmp 97) (.const (.int .i64 5)) rfl (5) (5) rfl rfl true rfl) ?_
        refine wa (.tmp 154) (.bool true) ?_
        simp only [Act.put,aS,aC,aZ]
        refine wpList_nil ?_
        go_upto_region 32 with fail
        refine wp_region_lit ?_
        refine wm 10 (ptr gv0) ?_
        simp only [Act.put,aS,aC,aZ]
        refine yA5 eN16 [.tmp 155] _ rfl rfl [(ptr gv0)] rfl ?_
        refine (vflush_s HJ2.out.v (by have:=HJ2.out.k;omega)).mono ?_
        rintro e A3 ⟨c3,m3,rfl,s_,v_,o_⟩
        refine ⟨_,rfl,?_⟩
        have HA3:Hid (Jp w A3 c3 gp gv0 gy most m3 os sd os sd vL none (32 * k+16)):=HJ2.out.turn s_ v_ (Or.inr o_)
        clear s_ v_ o_ HJ2 H14
        simp only [Act.put,aS,aC,aZ]
        refine wa (.tmp 156) (.int .i64 0) ?_
        simp only [Act.put,aS,aC,aZ]
        refine wpList_nil ?_
        go_upto_region 33 with fail
        refine wp_region_lit ?_
        refine wm 21 (.int .i64 0) ?_
        refine wl rfl _ _ (yC5 (.tmp 157) (.const (.int .i64 0)) rfl 0 0 rfl rfl false rfl) ?_
        simp only [Act.put,aS,aC,aZ]
        refine wpList_nil ?_
        go_wp2_with fail
        go_meet
        case rel=>exact ⟨_,_,_,_,_,_,rfl,HA3⟩
       ·go_upto_region 31 with fail
        refine wp_region_lit ?_
        refine wl rfl _ _ (yC3 (.tmp 97) (.const (.int .i64 5)) rfl (6) (5) rfl rfl false rfl) ?_
        refine wa (.tmp 154) (.bool false) ?_
        simp only [Act.put,aS,aC,aZ]
        refine wpList_nil ?_
        go_upto_region 35 with fail
        refine wp_region_lit ?_
        refine wl rfl _ _ (yC3 (.tmp 97) (.const (.int .i64 6)) rfl (6) (6) rfl rfl true rfl) ?_
        refine wa (.tmp 160) (.bool true) ?_
        simp only [Act.put,aS,aC,aZ]
        refine wpList_nil ?_
        go_upto_region 36 with fail
        refine wp_region_lit ?_
        refine wm 6 (ptr gp) ?_
        simp only [Act.put,aS,aC,aZ]
        refine yA5 eN10 [.tmp 162,.const (.int .i64 2)] _ rfl rfl [(ptr gp),(.int .i64 2)] rfl ?_
        refine (vopen_s HJ2.out.v.live (ds:=[2]) (ts:=[3,most]) HJ2.out.s HJ2.out.env HJ2.out.v.far0 (show 3≤1000 by decide) 1 (show 1<2 by decide) HJ2.out.v.tape).mono ?_
        rintro e A3 ⟨gw,rfl,hg_,hb_,hv_⟩
        refine ⟨_,rfl,?_⟩
        have HA3:Hid (Jp w A3 c0 gp gw gy most m0 os sd os sd vL none (32 * k+16)):=(HJ2.out.reopen hb_ hg_ hv_).le (by omega)
        clear hg_ hb_ hv_ HJ2 H14
        simp only [Act.put,aS,aC,aZ]
        refine wm 163 (.tuple #[(ptr gw),(.int .i64 0)]) ?_
        refine wl rfl _ _ (yA7 (.tmp 161) 0 rfl #[(ptr gw),(.int .i64 0)] rfl (ptr gw) rfl) ?_
        refine wl rfl _ _ (yA7 (.tmp 161) 1 rfl #[(ptr gw),(.int .i64 0)] rfl (.int .i64 0) rfl) ?_
        simp only [Act.put,aS,aC,aZ]
        refine wa (.tmp 164) (ptr gw) ?_
        refine wa (.tmp 165) (.int .i64 0) ?_
        simp only [Act.put,aS,aC,aZ]
        refine wpList_nil ?_
        go_upto_region 37 with fail
        refine wp_region_lit ?_
        refine wm 10 (ptr gw) ?_
        refine wl rfl (.bool false) _ (yH7 (.tmp 166) (.const (.pointer none)) rfl _ _ _ rfl rfl rfl (by kernel_rfl)) ?_
        refine wm 167 (.bool false) ?_
        simp only [Act.put,aS,aC,aZ]
        refine wl (by kernel_rfl) _ _ (yA6 (.tmp 11) rfl (.int .i64 0) rfl) ?_
        refine wl (by kernel_rfl) _ _ (yC5 (.tmp 169) (.const (.int .i64 0)) rfl 0 0 rfl rfl false rfl) ?_
        refine wl rfl _ _ (yA8 (.tmp 168) (.const (.bool true)) (.tmp 170) rfl false (.bool false) rfl rfl) ?_
        simp only [Act.put,aS,aC,aZ]
        refine wpList_nil ?_
        go_wp2_with fail
        go_meet
        case rel=>exact ⟨_,_,_,_,_,_,rfl,HA3⟩
       ·as_aux_lemma =>
         go_upto_region 31 with fail
         refine wp_region_lit ?_
         refine wl rfl _ _ (yC3 (.tmp 97) (.const (.int .i64 5)) rfl (7) (5) rfl rfl false rfl) ?_
         refine wa (.tmp 154) (.bool false) ?_
         simp only [Act.put,aS,aC,aZ]
         refine wpList_nil ?_
         go_upto_region 35 with fail
         refine wp_region_lit ?_
         refine wl rfl _ _ (yC3 (.tmp 97) (.const (.int .i64 6)) rfl (7) (6) rfl rfl false rfl) ?_
         refine wa (.tmp 160) (.bool false) ?_
         simp only [Act.put,aS,aC,aZ]
         refine wpList_nil ?_
         go_upto_region 39 with fail
         refine wp_region_lit ?_
         refine wl rfl _ _ (yC3 (.tmp 97) (.const (.int .i64 7)) rfl (7) (7) rfl rfl true rfl) ?_
         refine wa (.tmp 173) (.bool true) ?_
         simp only [Act.put,aS,aC,aZ]
         refine wpList_nil ?_
         go_upto_region 40 with fail
         refine wp_region_lit ?_
         refine wl rfl _ _ (yA2 f42_4 (.tmp 14) rfl q14 (0) rfl) ?_
         refine wl rfl _ _ (yA9 ag40 (.tmp 174) rfl q14 (0+4) rfl (o.x.cells) rfl (fun j v hj=>H14.out.1.at (0+4+j) v (by rw [show 0+4+j=4+j by omega];exact o.pl j v hj))) ?_
         refine wl rfl _ _ (yB3 ((plC 0 0 0 false)) zero40 rfl) ?_
         have hb_:=yB0 W2 (.cells ((plC 0 0 0 false)).toArray 40)
         have r_:=Row.new W2 40 ((plC 0 0 0 false))
         obtain ⟨A3,hW_⟩:∃U_:World,U_=W2.alloc (.cells ((plC 0 0 0 false)).toArray 40):=⟨_,rfl⟩
         obtain ⟨q22,hq_⟩:∃q,q=W2.heap.size:=⟨_,rfl⟩
         rw [←hW_] at hb_
         rw [←hW_,←hq_] at r_
         rw [←hW_,←hq_]
         have HQ:Hid (Row A3 q22 40 ((plC 0 0 0 false))∧Below W2.heap.size W2 A3∧W2.heap.size≤q22):=⟨r_,hb_,Nat.le_of_eq hq_.symm⟩
         clear r_ hb_ hW_ hq_
         simp only [Act.put,aS,aC,aZ]
         refine wlS rfl rfl _ (yD0 ag40 (.tmp 22) (.tmp 175) rfl q22 40 rfl o.x.cells _ rfl rfl HQ.out.1 rfl (yF7 _ _ _ _)) ?_
         have hb_:=(Ch.setRow (S:=(· = q22)) (Ch.refl _ A3) (Or.inl rfl) o.x.cells.toArray)
         have r_:=HQ.out.1.setRow o.x.cells
         obtain ⟨A4,hW_⟩:∃U_:World,U_=A3.setRow q22 o.x.cells.toArray:=⟨_,rfl⟩
         rw [←hW_] at hb_ r_ ⊢
         have hbb:=HQ.out.2.1.trans (hb_.below HQ.out.2.1.size fun k hk e=>by have:=HQ.out.2.2;omega)
         have hge:=HQ.out.2.2
         have HA4:Hid ((Jp w A4 c0 gp gv0 gy most m0 os sd os sd vL none (32 * k))∧Row A4 q14 42 o.cells∧Row A4 q22 40 o.x.cells):=⟨HJ2.out.bel hbb,H14.out.1.later hbb H14.out.1.lt,r_⟩
         have HG22:Hid (w.heap.size≤q22∧gy≠q22∧Out 2 gv0 c0 A4 q22):=⟨Nat.le_trans HJ2.out.f.bel.size hge,fun e=>by have:=HJ2.out.y.lt;omega,HJ2.out.v.outNew hge r_.lt⟩
         clear HJ2 H14
         clear hW_ r_ hb_ hbb hge HQ
         refine wpList_nil ?_
         by_cases hn0:0≤o.n
         ·as_aux_lemma =>
           by_cases hnl:o.n<((os.length:Nat):Int)
           ·as_aux_lemma =>
             go_upto_region 41 with fail
             refine wp_region_held (S:=fun X=>Row X q14 42 o.cells∧Row X gy 37 (rvC 2 most (wide os) vL sd)) (by kernel_rfl) ?_
             show wpAnyH _ _ _ _ _ 13 (Array.replicate 13 false) _ _
             obtain ⟨X,hX⟩:∃X:World,X = { A4 with drawn:=A4.drawn+1 }:=⟨_,rfl⟩
             rw [←hX]
             have HS_:Row X q14 42 o.cells∧Row X gy 37 (rvC 2 most (wide os) vL sd):=(by rw [hX];exact ⟨HA4.out.2.1.later ⟨rfl,rfl,rfl,Nat.le_refl _,fun _ _=>rfl⟩ HA4.out.2.1.lt,HA4.out.1.y.later ⟨rfl,rfl,rfl,Nat.le_refl _,fun _ _=>rfl⟩ HA4.out.1.y.lt⟩)
             have HX4:Hid ((Jp w X c0 gp gv0 gy most m0 os sd os sd vL none (32 * k))∧Row X q14 42 o.cells∧Row X q22 40 o.x.cells∧Below A4.heap.size A4 X):=(by rw [hX];exact ⟨HA4.out.1.bel ⟨rfl,rfl,rfl,Nat.le_refl _,fun _ _=>rfl⟩,HA4.out.2.1.later ⟨rfl,rfl,rfl,Nat.le_refl _,fun _ _=>rfl⟩ HA4.out.2.1.lt,HA4.out.2.2.later ⟨rfl,rfl,rfl,Nat.le_refl _,fun _ _=>rfl⟩ HA4.out.2.2.lt,⟨rfl,rfl,rfl,Nat.le_refl _,fun _ _=>rfl⟩⟩)
             clear hX
             refine tH 0 176 rfl rfl (gRun rfl _ fun _ h=>yA2 f42_1 (.tmp 14) rfl q14 (0) rfl) HS_ ?_
             refine tH 1 177 rfl rfl (gRun rfl _ fun _ h=>yA4 o3 (.tmp 176) rfl q14 (0+1) rfl (.int .i64 o.n) (h.1.at (0+1) _ rfl)) HS_ ?_
             refine tH 2 178 rfl rfl (gRun rfl _ fun _ h=>run_geqZ (.tmp 177) (.const (.int .i64 0)) rfl o.n 0 rfl rfl true (decide_eq_true (by omega))) HS_ ?_
             simp only [Act.put,aS,aC,aZ]
             refine tH 3 179 rfl rfl (gRun rfl _ fun _ h=>yA6 (.tmp 178) rfl (.bool true) rfl) HS_ ?_
             refine tH 4 180 rfl rfl (gRun (by kernel_rfl) _ fun _ h=>yA2 f42_1 (.tmp 14) rfl q14 (0) rfl) HS_ ?_
             refine tH 5 181 rfl rfl (gRun (by kernel_rfl) _ fun _ h=>yA4 o3 (.tmp 180) rfl q14 (0+1) rfl (.int .i64 o.n) (h.1.at (0+1) _ rfl)) HS_ ?_
             simp only [Act.put,aS,aC,aZ]
             refine tH 6 182 rfl rfl (gRun (by kernel_rfl) _ fun _ h=>yA6 (.tmp 12) rfl (ptr gy) rfl) HS_ ?_
             refine tH 7 183 rfl rfl (gRun (by kernel_rfl) _ fun _ h=>yC1 (.tmp 182) rfl ⟨gy,0,none⟩ rfl) HS_ ?_
             refine tH 8 184 rfl rfl (gRun (by kernel_rfl) _ fun _ h=>yA2 f37_3 (.tmp 183) rfl gy (0) rfl) HS_ ?_
             simp only [Act.put,aS,aC,aZ]
             refine tH 9 185 rfl rfl (gRun (by kernel_rfl) _ fun _ h=>yA4 o35 (.tmp 184) rfl gy (0+3) rfl vL (h.2.at (0+3) _ rfl)) HS_ ?_
             refine tH 10 186 rfl rfl (gRun (by kernel_rfl) _ fun _ h=>run_lenJ HA4.out.1 (.tmp 185) rfl rfl) HS_ ?_
             refine tH 11 187 rfl rfl (gRun (by kernel_rfl) _ fun _ h=>yB5 (.tmp 181) (.tmp 186) rfl o.n (os.length:Nat) rfl rfl true (decide_eq_true (by omega))) HS_ ?_
             simp only [Act.put,aS,aC,aZ]
             refine tH 12 188 rfl rfl (gRun rfl _ fun _ h=>yA8 (.tmp 179) (.tmp 187) (.const (.bool false)) rfl true (.bool true) rfl rfl) HS_ ?_
             simp only [Act.put,aS,aC,aZ]
             refine wpAnyH_done (by kernel_rfl) ?_ _
             obtain ⟨j,hj⟩:∃j:Nat,o.n=(j:Nat):=⟨o.n.toNat,by omega⟩
             have hjl:j<os.length:=(by omega)
             obtain ⟨vb,g2,hx_,hc_,_⟩:=HX4.out.1.el j hjl
             have HX:Hid ((∀w',(Instr.indexAt 35 vL (.int .i64 o.n)).run Tryd.prog w' = .ok (.pointer (some ⟨g2,j * 7,none⟩)) w')∧(∀W':World,Below X.heap.size X W'→∀i u,(tdC (tdAt 2 os j) vb)[i]? = some u→W'.cell? ⟨g2,j * 7+i,none⟩=some u)∧j<os.length):=⟨by rw [hj];exact hx_,hc_,hjl⟩
             clear hx_ hc_
             obtain ⟨XA,hXA⟩:∃U,U=X:=⟨_,rfl⟩
             subst hXA
             go_upto_region 42 with fail
             refine yG4 (S:=fun X=>Row X q14 42 o.cells∧Row X gy 37 (rvC 2 most (wide os) vL sd)∧Below XA.heap.size XA X) 9 (by kernel_rfl) ?_
             show yK8 _ _ _ _ _ _ 10 (Array.replicate 10 false) _ _
             obtain ⟨Y,hX⟩:∃Y:World,Y = { XA with drawn:=XA.drawn+1 }:=⟨_,rfl⟩
             rw [←hX]
             have HS_:Row Y q14 42 o.cells∧Row Y gy 37 (rvC 2 most (wide os) vL sd)∧Below XA.heap.size XA Y:=(by rw [hX];exact ⟨HX4.out.2.1.later ⟨rfl,rfl,rfl,Nat.le_refl _,fun _ _=>rfl⟩ HX4.out.2.1.lt,HX4.out.1.y.later ⟨rfl,rfl,rfl,Nat.le_refl _,fun _ _=>rfl⟩ HX4.out.1.y.lt,⟨rfl,rfl,rfl,Nat.le_refl _,fun _ _=>rfl⟩⟩)
             have HXY:Hid ((Jp w Y c0 gp gv0 gy most m0 os sd os sd vL none (32 * k))∧Row Y q14 42 o.cells∧Row Y q22 40 o.x.cells∧Out 2 gv0 c0 Y q22):=⟨HX4.out.1.bel HS_.2.2,HS_.1,HX4.out.2.2.1.later HS_.2.2 HX4.out.2.2.1.lt,⟨Nat.lt_of_lt_of_le HG22.out.2.2.1 (Nat.le_trans HX4.out.2.2.2.size HS_.2.2.size),HG22.out.2.2.2⟩⟩
             clear hX
             refine tV 0 [9] 189 rfl rfl (gRun rfl _ fun _ h=>yA6 (.tmp 12) rfl (ptr gy) rfl) HS_ ?_
             refine tV 1 [9] 190 rfl rfl (gRun rfl _ fun _ h=>yC1 (.tmp 189) rfl ⟨gy,0,none⟩ rfl) HS_ ?_
             refine tV 2 [9] 191 rfl rfl (gRun rfl _ fun _ h=>yA2 f37_3 (.tmp 190) rfl gy (0) rfl) HS_ ?_
             simp only [Act.put,aS,aC,aZ]
             refine tV 3 [9] 192 rfl rfl (gRun rfl _ fun _ h=>yA4 o35 (.tmp 191) rfl gy (0+3) rfl vL (h.2.1.at (0+3) _ rfl)) HS_ ?_
             refine tV 4 [9] 193 rfl rfl (gRun rfl _ fun _ h=>yA2 f42_1 (.tmp 14) rfl q14 (0) rfl) HS_ ?_
             refine tV 5 [9] 194 rfl rfl (gRun rfl _ fun _ h=>yA4 o3 (.tmp 193) rfl q14 (0+1) rfl (.int .i64 o.n) (h.1.at (0+1) _ rfl)) HS_ ?_
             simp only [Act.put,aS,aC,aZ]
             refine tV 6 [9] 195 rfl rfl (gRun rfl _ fun _ h=>yE9 (.tmp 192) (.tmp 194) rfl _ _ _ rfl rfl HX.out.1) HS_ ?_
             refine tV 7 [9] 196 rfl rfl (gRun rfl _ fun _ h=>yA2 f48_2 (.tmp 195) rfl g2 (j * 7) rfl) HS_ ?_
             refine tV 8 [9] 197 rfl rfl (gRun rfl _ fun _ h=>yA9 ag40 (.tmp 196) rfl g2 (j * 7+2) rfl ((plC ((2:Nat):Int) ((offO os j:Nat):Int) ((nb (os.getD j ([],[])).2.length:Nat):Int) false)) rfl (fun i u hu=>by rw [Nat.add_assoc];exact HX.out.2.1 _ h.2.2 (2+i) u (tdC_pl (tdAt 2 os j) vb i u hu))) HS_ ?_
             simp only [Act.put,aS,aC,aZ]
             refine oneU (i:=9) (by kernel_rfl) ?_
             refine opSkipZ rfl rfl rfl _ (yD0 ag40 (.tmp 22) (.tmp 197) rfl q22 40 rfl (plC ((2:Nat):Int) ((offO os j:Nat):Int) ((nb (os.getD j ([],[])).2.length:Nat):Int) false) _ rfl rfl HXY.out.2.2.1 rfl (yF7 _ _ _ _)) ?_
             have r_:=HXY.out.2.2.1.setRow (plC ((2:Nat):Int) ((offO os j:Nat):Int) ((nb (os.getD j ([],[])).2.length:Nat):Int) false)
             have c_:=(Ch.setRow (S:=(· = q22)) (Ch.refl _ Y) (Or.inl rfl) (plC ((2:Nat):Int) ((offO os j:Nat):Int) ((nb (os.getD j ([],[])).2.length:Nat):Int) false).toArray)
             obtain ⟨Y2,hW_⟩:∃U_:World,U_=Y.setRow q22 (plC ((2:Nat):Int) ((offO os j:Nat):Int) ((nb (os.getD j ([],[])).2.length:Nat):Int) false).toArray:=⟨_,rfl⟩
             rw [←hW_] at r_ c_ ⊢
             have HY2:Hid ((Jp w Y2 c0 gp gv0 gy most m0 os sd os sd vL none (32 * k))∧Row Y2 q14 42 o.cells∧Row Y2 q22 40 (plC ((2:Nat):Int) ((offO os j:Nat):Int) ((nb (os.getD j ([],[])).2.length:Nat):Int) false)):=⟨HXY.out.1.new c_ HXY.out.2.2.2 HG22.out.1 HG22.out.2.1 (by decide:40≠48) HXY.out.2.2.1 (fun _ _ hs=>bytes_no40 hs HXY.out.2.2.1),c_.row (row_ne HXY.out.2.1 HXY.out.2.2.1 (by decide)) HXY.out.2.1,r_⟩
             clear r_ c_ hW_ HXY HS_
             refine ⟨fun h=>absurd (show true=false from h) (by decide),?_⟩
             refine yK1 (by kernel_rfl) ?_ _
             go_upto_region 43 with fail
             refine wp_region_lit ?_
             refine wl rfl _ _ (yA2 f42_4 (.tmp 14) rfl q14 (0) rfl) ?_
             refine wl rfl _ _ (yA2 f40_3 (.tmp 198) rfl q14 (0+4) rfl) ?_
             refine wl rfl _ _ (yA4 o4 (.tmp 199) rfl q14 (0+4+3) rfl (.bool o.x.bd) (HY2.out.2.1.at (0+4+3) _ rfl)) ?_
             simp only [Act.put,aS,aC,aZ]
             refine wl rfl _ _ (yA2 f40_3 (.tmp 22) rfl q22 (0) rfl) ?_
             simp only [Act.put,aS,aC,aZ]
             refine wlS rfl rfl _ (yH1 (t:=4) sz4p (.tmp 201) (.tmp 200) rfl q22 (0+3) 40 (plC ((2:Nat):Int) ((offO os j:Nat):Int) ((nb (os.getD j ([],[])).2.length:Nat):Int) false) rfl (.bool o.x.bd) rfl ⟨rfl,rfl⟩ HY2.out.2.2 (show 3<4 by decide)) ?_
             have r_:=yJ4 (i:=0+3) HY2.out.2.2 (.bool o.x.bd)
             have c_:=(Ch.refl (· = q22) Y2).setCell (g:=q22) (Or.inl rfl) (0+3) (.bool o.x.bd)
             obtain ⟨Y3,hW_⟩:∃U_:World,U_=Y2.setCell ⟨q22,0+3,none⟩ (.bool o.x.bd):=⟨_,rfl⟩
             rw [←hW_] at r_ c_ ⊢
             have r2_:Row Y3 q22 40 (plC ((2:Nat):Int) ((offO os j:Nat):Int) ((nb (os.getD j ([],[])).2.length:Nat):Int) o.x.bd):=r_
             have hf_:=HY2.out.1.few
             have hw1_:=offO_le os j
             have hw2_:=getD_all hf_.2.2.2.2 j HX.out.2.2
             have hw3_:=nb_le hw2_.2.1
             have HC:Hid ((Jp w Y3 c0 gp gv0 gy most m0 os sd os sd vL none (32 * k))∧Row Y3 q22 40 (⟨((2:Nat):Int),((offO os j:Nat):Int),((nb (os.getD j ([],[])).2.length:Nat):Int),o.x.bd⟩:Pq).cells∧(⟨((2:Nat):Int),((offO os j:Nat):Int),((nb (os.getD j ([],[])).2.length:Nat):Int),o.x.bd⟩:Pq).ok):=⟨HY2.out.1.new c_ ⟨HY2.out.2.2.lt,HG22.out.2.2.2⟩ HG22.out.1 HG22.out.2.1 (by decide:40≠48) HY2.out.2.2 (fun _ _ hs=>bytes_no40 hs HY2.out.2.2),r2_,⟨(by unfold I64;decide:I64 ((2:Nat):Int)),by unfold I64;show -9223372036854775808≤((offO os j:Nat):Int)∧((offO os j:Nat):Int)≤9223372036854775807;omega,by unfold I64;show -9223372036854775808≤((nb (os.getD j ([],[])).2.length:Nat):Int)∧((nb (os.getD j ([],[])).2.length:Nat):Int)≤9223372036854775807;omega⟩⟩
             clear r_ r2_ c_ hW_ hf_ hw1_ hw2_ hw3_ HY2
             obtain ⟨px,hpx⟩:∃p:Pq,p=⟨((2:Nat):Int),((offO os j:Nat):Int),((nb (os.getD j ([],[])).2.length:Nat):Int),o.x.bd⟩:=⟨_,rfl⟩
             rw [←hpx] at HC
             clear hpx
             refine wpList_nil ?_
             go_upto_region 44 with fail
             refine wp_region_lit ?_
             refine wm 10 (ptr gv0) ?_
             refine wl rfl _ _ (yA9 ag40 (.tmp 22) rfl q22 (0) rfl (px.cells) rfl (yE7 HC.out.2.1)) ?_
             simp only [Act.put,aS,aC,aZ]
             refine yA5 eN17 [.tmp 203,.tmp 204] _ rfl rfl [(ptr gv0),(.agg px.cells.toArray)] rfl ?_
             refine (vol_read HC.out.1 (by omega) px HC.out.2.2).mono ?_
             rintro e B1 ⟨id1,bs1,vb1,er1,rfl,hr1_,hs1_,hb_⟩
             refine ⟨_,rfl,?_⟩
             have HB1:Hid ((Jp w B1 c0 gp gv0 gy most m0 os sd os sd vL none (32 * k))∧Row B1 q22 40 px.cells∧RdR os px id1 bs1 er1∧yA3 B1 vb1 bs1):=⟨HC.out.1.bel hb_,HC.out.2.1.later hb_ HC.out.2.1.lt,hr1_,hs1_⟩
             clear hr1_ hs1_ hb_ HC
             simp only [Act.put,aS,aC,aZ]
             refine wm 205 (.tuple #[(str id1),vb1,(.int .i64 er1)]) ?_
             refine wl rfl _ _ (yA7 (.tmp 202) 0 rfl #[(str id1),vb1,(.int .i64 er1)] rfl (str id1) rfl) ?_
             refine wl rfl _ _ (yA7 (.tmp 202) 1 rfl #[(str id1),vb1,(.int .i64 er1)] rfl vb1 rfl) ?_
             simp only [Act.put,aS,aC,aZ]
             refine wl rfl _ _ (yA7 (.tmp 202) 2 rfl #[(str id1),vb1,(.int .i64 er1)] rfl (.int .i64 er1) rfl) ?_
             refine wa (.tmp 206) (str id1) ?_
             refine wa (.tmp 207) vb1 ?_
             simp only [Act.put,aS,aC,aZ]
             refine wa (.tmp 208) (.int .i64 er1) ?_
             simp only [Act.put,aS,aC,aZ]
             refine wpList_nil ?_
             go_upto_region 45 with fail
             refine wp_region_lit ?_
             refine wm 12 (ptr gy) ?_
             refine wl rfl _ _ (yA9 ag40 (.tmp 22) rfl q22 (0) rfl (px.cells) rfl (yE7 HB1.out.2.1)) ?_
             simp only [Act.put,aS,aC,aZ]
             refine yA5 eN18 [.tmp 210,.tmp 211] _ rfl rfl [(ptr gy),(.agg px.cells.toArray)] rfl ?_
             refine (doc_read HB1.out.1 px).mono ?_
             rintro e B2 ⟨id2,bs2,vb2,er2,rfl,hr2_,hs2_,hb_⟩
             obtain ⟨rfl,rfl,rfl⟩:=HB1.out.2.2.1.one hr2_
             refine ⟨_,rfl,?_⟩
             have HB2:Hid ((Jp w B2 c0 gp gv0 gy most m0 os sd os sd vL none (32 * k))∧yA3 B2 vb1 bs1∧yA3 B2 vb2 bs1):=⟨HB1.out.1.bel hb_,HB1.out.2.2.2.later hb_,hs2_⟩
             clear hr2_ hs2_ hb_ HB1
             simp only [Act.put,aS,aC,aZ]
             refine wm 212 (.tuple #[(str id1),vb2,(.int .i64 er1)]) ?_
             refine wl rfl _ _ (yA7 (.tmp 209) 0 rfl #[(str id1),vb2,(.int .i64 er1)] rfl (str id1) rfl) ?_
             refine wl rfl _ _ (yA7 (.tmp 209) 1 rfl #[(str id1),vb2,(.int .i64 er1)] rfl vb2 rfl) ?_
             simp only [Act.put,aS,aC,aZ]
             refine wl rfl _ _ (yA7 (.tmp 209) 2 rfl #[(str id1),vb2,(.int .i64 er1)] rfl (.int .i64 er1) rfl) ?_
             refine wa (.tmp 213) (str id1) ?_
             refine wa (.tmp 214) vb2 ?_
             simp only [Act.put,aS,aC,aZ]
             refine wa (.tmp 215) (.int .i64 er1) ?_
             simp only [Act.put,aS,aC,aZ]
             refine wpList_nil ?_
             go_upto_region 46 with fail
             refine wp_region_lit ?_
             refine wm 23 (str id1) ?_
             refine wm 26 (str id1) ?_
             refine wl rfl _ _ (run_neS (.tmp 216) (.tmp 217) rfl _ rfl rfl) ?_
             simp only [Act.put,aS,aC,aZ]
             refine wm 218 (.bool false) ?_
             refine wl (by kernel_rfl) _ _ (yA6 (.tmp 24) rfl vb1 rfl) ?_
             refine wl (by kernel_rfl) _ _ (yJ2 (.tmp 220) rfl vb1 bs1 rfl HB2.out.2.1) ?_
             simp only [Act.put,aS,aC,aZ]
             refine wl (by kernel_rfl) _ _ (yA6 (.tmp 27) rfl vb2 rfl) ?_
             refine wl (by kernel_rfl) _ _ (yJ2 (.tmp 222) rfl vb2 bs1 rfl HB2.out.2.2) ?_
             refine wl (by kernel_rfl) _ _ (run_neS (.tmp 221) (.tmp 223) rfl _ rfl rfl) ?_
             simp only [Act.put,aS,aC,aZ]
             refine wl rfl _ _ (yA8 (.tmp 219) (.const (.bool true)) (.tmp 224) rfl false (.bool false) rfl rfl) ?_
             refine wm 225 (.bool false) ?_
             refine wl (by kernel_rfl) _ _ (yA6 (.tmp 25) rfl (.int .i64 er1) rfl) ?_
             simp only [Act.put,aS,aC,aZ]
             refine wl (by kernel_rfl) _ _ (yA6 (.tmp 28) rfl (.int .i64 er1) rfl) ?_
             refine wl (by kernel_rfl) _ _ (yC5 (.tmp 227) (.tmp 228) rfl er1 er1 rfl rfl false (by simp)) ?_
             refine wl rfl _ _ (yA8 (.tmp 226) (.const (.bool true)) (.tmp 229) rfl false (.bool false) rfl rfl) ?_
             simp only [Act.put,aS,aC,aZ]
             refine wpList_nil ?_
             go_wp2_with fail
             go_meet
             case rel=>exact ⟨_,_,_,_,_,_,rfl,HB2.out.1.le (by omega)⟩
           ·as_aux_lemma =>
             go_upto_region 41 with fail
             refine wp_region_held (S:=fun X=>Row X q14 42 o.cells∧Row X gy 37 (rvC 2 most (wide os) vL sd)) (by kernel_rfl) ?_
             show wpAnyH _ _ _ _ _ 13 (Array.replicate 13 false) _ _
             obtain ⟨X,hX⟩:∃X:World,X = { A4 with drawn:=A4.drawn+1 }:=⟨_,rfl⟩
             rw [←hX]
             have HS_:Row X q14 42 o.cells∧Row X gy 37 (rvC 2 most (wide os) vL sd):=(by rw [hX];exact ⟨HA4.out.2.1.later ⟨rfl,rfl,rfl,Nat.le_refl _,fun _ _=>rfl⟩ HA4.out.2.1.lt,HA4.out.1.y.later ⟨rfl,rfl,rfl,Nat.le_refl _,fun _ _=>rfl⟩ HA4.out.1.y.lt⟩)
             have HX4:Hid ((Jp w X c0 gp gv0 gy most m0 os sd os sd vL none (32 * k))∧Row X q14 42 o.cells∧Row X q22 40 o.x.cells∧Below A4.heap.size A4 X):=(by rw [hX];exact ⟨HA4.out.1.bel ⟨rfl,rfl,rfl,Nat.le_refl _,fun _ _=>rfl⟩,HA4.out.2.1.later ⟨rfl,rfl,rfl,Nat.le_refl _,fun _ _=>rfl⟩ HA4.out.2.1.lt,HA4.out.2.2.later ⟨rfl,rfl,rfl,Nat.le_refl _,fun _ _=>rfl⟩ HA4.out.2.2.lt,⟨rfl,rfl,rfl,Nat.le_refl _,fun _ _=>rfl⟩⟩)
             clear hX
             refine tH 0 176 rfl rfl (gRun rfl _ fun _ h=>yA2 f42_1 (.tmp 14) rfl q14 (0) rfl) HS_ ?_
             refine tH 1 177 rfl rfl (gRun rfl _ fun _ h=>yA4 o3 (.tmp 176) rfl q14 (0+1) rfl (.int .i64 o.n) (h.1.at (0+1) _ rfl)) HS_ ?_
             refine tH 2 178 rfl rfl (gRun rfl _ fun _ h=>run_geqZ (.tmp 177) (.const (.int .i64 0)) rfl o.n 0 rfl rfl true (decide_eq_true (by omega))) HS_ ?_
             simp only [Act.put,aS,aC,aZ]
             refine tH 3 179 rfl rfl (gRun rfl _ fun _ h=>yA6 (.tmp 178) rfl (.bool true) rfl) HS_ ?_
             refine tH 4 180 rfl rfl (gRun (by kernel_rfl) _ fun _ h=>yA2 f42_1 (.tmp 14) rfl q14 (0) rfl) HS_ ?_
             refine tH 5 181 rfl rfl (gRun (by kernel_rfl) _ fun _ h=>yA4 o3 (.tmp 180) rfl q14 (0+1) rfl (.int .i64 o.n) (h.1.at (0+1) _ rfl)) HS_ ?_
             simp only [Act.put,aS,aC,aZ]
             refine tH 6 182 rfl rfl (gRun (by kernel_rfl) _ fun _ h=>yA6 (.tmp 12) rfl (ptr gy) rfl) HS_ ?_
             refine tH 7 183 rfl rfl (gRun (by kernel_rfl) _ fun _ h=>yC1 (.tmp 182) rfl ⟨gy,0,none⟩ rfl) HS_ ?_
             refine tH 8 184 rfl rfl (gRun (by kernel_rfl) _ fun _ h=>yA2 f37_3 (.tmp 183) rfl gy (0) rfl) HS_ ?_
             simp only [Act.put,aS,aC,aZ]
             refine tH 9 185 rfl rfl (gRun (by kernel_rfl) _ fun _ h=>yA4 o35 (.tmp 184) rfl gy (0+3) rfl vL (h.2.at (0+3) _ rfl)) HS_ ?_
             refine tH 10 186 rfl rfl (gRun (by kernel_rfl) _ fun _ h=>run_lenJ HA4.out.1 (.tmp 185) rfl rfl) HS_ ?_
             refine tH 11 187 rfl rfl (gRun (by kernel_rfl) _ fun _ h=>yB5 (.tmp 181) (.tmp 186) rfl o.n (os.length:Nat) rfl rfl false (decide_eq_false (by omega))) HS_ ?_
             simp only [Act.put,aS,aC,aZ]
             refine tH 12 188 rfl rfl (gRun rfl _ fun _ h=>yA8 (.tmp 179) (.tmp 187) (.const (.bool false)) rfl true (.bool false) rfl rfl) HS_ ?_
             simp only [Act.put,aS,aC,aZ]
             refine wpAnyH_done (by kernel_rfl) ?_ _
             have HC:Hid ((Jp w X c0 gp gv0 gy most m0 os sd os sd vL none (32 * k))∧Row X q22 40 o.x.cells∧o.x.ok):=⟨HX4.out.1,HX4.out.2.2.1,HO.out.1.x⟩
             clear HX4 HA4 HG22
             go_upto_region 44 with fail
             refine wp_region_lit ?_
             refine wm 10 (ptr gv0) ?_
             refine wl rfl _ _ (yA9 ag40 (.tmp 22) rfl q22 (0) rfl (o.x.cells) rfl (yE7 HC.out.2.1)) ?_
             simp only [Act.put,aS,aC,aZ]
             refine yA5 eN17 [.tmp 203,.tmp 204] _ rfl rfl [(ptr gv0),(.agg o.x.cells.toArray)] rfl ?_
             refine (vol_read HC.out.1 (by omega) o.x HC.out.2.2).mono ?_
             rintro e B1 ⟨id1,bs1,vb1,er1,rfl,hr1_,hs1_,hb_⟩
             refine ⟨_,rfl,?_⟩
             have HB1:Hid ((Jp w B1 c0 gp gv0 gy most m0 os sd os sd vL none (32 * k))∧Row B1 q22 40 o.x.cells∧RdR os o.x id1 bs1 er1∧yA3 B1 vb1 bs1):=⟨HC.out.1.bel hb_,HC.out.2.1.later hb_ HC.out.2.1.lt,hr1_,hs1_⟩
             clear hr1_ hs1_ hb_ HC
             simp only [Act.put,aS,aC,aZ]
             refine wm 205 (.tuple #[(str id1),vb1,(.int .i64 er1)]) ?_
             refine wl rfl _ _ (yA7 (.tmp 202) 0 rfl #[(str id1),vb1,(.int .i64 er1)] rfl (str id1) rfl) ?_
             refine wl rfl _ _ (yA7 (.tmp 202) 1 rfl #[(str id1),vb1,(.int .i64 er1)] rfl vb1 rfl) ?_
             simp only [Act.put,aS,aC,aZ]
             refine wl rfl _ _ (yA7 (.tmp 202) 2 rfl #[(str id1),vb1,(.int .i64 er1)] rfl (.int .i64 er1) rfl) ?_
             refine wa (.tmp 206) (str id1) ?_
             refine wa (.tmp 207) vb1 ?_
             simp only [Act.put,aS,aC,aZ]
             refine wa (.tmp 208) (.int .i64 er1) ?_
             simp only [Act.put,aS,aC,aZ]
             refine wpList_nil ?_
             go_upto_region 45 with fail
             refine wp_region_lit ?_
             refine wm 12 (ptr gy) ?_
             refine wl rfl _ _ (yA9 ag40 (.tmp 22) rfl q22 (0) rfl (o.x.cells) rfl (yE7 HB1.out.2.1)) ?_
             simp only [Act.put,aS,aC,aZ]
             refine yA5 eN18 [.tmp 210,.tmp 211] _ rfl rfl [(ptr gy),(.agg o.x.cells.toArray)] rfl ?_
             refine (doc_read HB1.out.1 o.x).mono ?_
             rintro e B2 ⟨id2,bs2,vb2,er2,rfl,hr2_,hs2_,hb_⟩
             obtain ⟨rfl,rfl,rfl⟩:=HB1.out.2.2.1.one hr2_
             refine ⟨_,rfl,?_⟩
             have HB2:Hid ((Jp w B2 c0 gp gv0 gy most m0 os sd os sd vL none (32 * k))∧yA3 B2 vb1 bs1∧yA3 B2 vb2 bs1):=⟨HB1.out.1.bel hb_,HB1.out.2.2.2.later hb_,hs2_⟩
             clear hr2_ hs2_ hb_ HB1
             simp only [Act.put,aS,aC,aZ]
             refine wm 212 (.tuple #[(str id1),vb2,(.int .i64 er1)]) ?_
             refine wl rfl _ _ (yA7 (.tmp 209) 0 rfl #[(str id1),vb2,(.int .i64 er1)] rfl (str id1) rfl) ?_
             refine wl rfl _ _ (yA7 (.tmp 209) 1 rfl #[(str id1),vb2,(.int .i64 er1)] rfl vb2 rfl) ?_
             simp only [Act.put,aS,aC,aZ]
             refine wl rfl _ _ (yA7 (.tmp 209) 2 rfl #[(str id1),vb2,(.int .i64 er1)] rfl (.int .i64 er1) rfl) ?_
             refine wa (.tmp 213) (str id1) ?_
             refine wa (.tmp 214) vb2 ?_
             simp only [Act.put,aS,aC,aZ]
             refine wa (.tmp 215) (.int .i64 er1) ?_
             simp only [Act.put,aS,aC,aZ]
             refine wpList_nil ?_
             go_upto_region 46 with fail
             refine wp_region_lit ?_
             refine wm 23 (str id1) ?_
             refine wm 26 (str id1) ?_
             refine wl rfl _ _ (run_neS (.tmp 216) (.tmp 217) rfl _ rfl rfl) ?_
             simp only [Act.put,aS,aC,aZ]
             refine wm 218 (.bool false) ?_
             refine wl (by kernel_rfl) _ _ (yA6 (.tmp 24) rfl vb1 rfl) ?_
             refine wl (by kernel_rfl) _ _ (yJ2 (.tmp 220) rfl vb1 bs1 rfl HB2.out.2.1) ?_
             simp only [Act.put,aS,aC,aZ]
             refine wl (by kernel_rfl) _ _ (yA6 (.tmp 27) rfl vb2 rfl) ?_
             refine wl (by kernel_rfl) _ _ (yJ2 (.tmp 222) rfl vb2 bs1 rfl HB2.out.2.2) ?_
             refine wl (by kernel_rfl) _ _ (run_neS (.tmp 221) (.tmp 223) rfl _ rfl rfl) ?_
             simp only [Act.put,aS,aC,aZ]
             refine wl rfl _ _ (yA8 (.tmp 219) (.const (.bool true)) (.tmp 224) rfl false (.bool false) rfl rfl) ?_
             refine wm 225 (.bool false) ?_
             refine wl (by kernel_rfl) _ _ (yA6 (.tmp 25) rfl (.int .i64 er1) rfl) ?_
             simp only [Act.put,aS,aC,aZ]
             refine wl (by kernel_rfl) _ _ (yA6 (.tmp 28) rfl (.int .i64 er1) rfl) ?_
             refine wl (by kernel_rfl) _ _ (yC5 (.tmp 227) (.tmp 228) rfl er1 er1 rfl rfl false (by simp)) ?_
             refine wl rfl _ _ (yA8 (.tmp 226) (.const (.bool true)) (.tmp 229) rfl false (.bool false) rfl rfl) ?_
             simp only [Act.put,aS,aC,aZ]
             refine wpList_nil ?_
             go_wp2_with fail
             go_meet
             case rel=>exact ⟨_,_,_,_,_,_,rfl,HB2.out.1.le (by omega)⟩
         ·as_aux_lemma =>
           go_upto_region 41 with fail
           refine wp_region_held (S:=fun X=>Row X q14 42 o.cells∧Row X gy 37 (rvC 2 most (wide os) vL sd)) (by kernel_rfl) ?_
           show wpAnyH _ _ _ _ _ 13 (Array.replicate 13 false) _ _
           obtain ⟨X,hX⟩:∃X:World,X = { A4 with drawn:=A4.drawn+1 }:=⟨_,rfl⟩
           rw [←hX]
           have HS_:Row X q14 42 o.cells∧Row X gy 37 (rvC 2 most (wide os) vL sd):=(by rw [hX];exact ⟨HA4.out.2.1.later ⟨rfl,rfl,rfl,Nat.le_refl _,fun _ _=>rfl⟩ HA4.out.2.1.lt,HA4.out.1.y.later ⟨rfl,rfl,rfl,Nat.le_refl _,fun _ _=>rfl⟩ HA4.out.1.y.lt⟩)
           have HX4:Hid ((Jp w X c0 gp gv0 gy most m0 os sd os sd vL none (32 * k))∧Row X q14 42 o.cells∧Row X q22 40 o.x.cells∧Below A4.heap.size A4 X):=(by rw [hX];exact ⟨HA4.out.1.bel ⟨rfl,rfl,rfl,Nat.le_refl _,fun _ _=>rfl⟩,HA4.out.2.1.later ⟨rfl,rfl,rfl,Nat.le_refl _,fun _ _=>rfl⟩ HA4.out.2.1.lt,HA4.out.2.2.later ⟨rfl,rfl,rfl,Nat.le_refl _,fun _ _=>rfl⟩ HA4.out.2.2.lt,⟨rfl,rfl,rfl,Nat.le_refl _,fun _ _=>rfl⟩⟩)
           clear hX
           refine tH 0 176 rfl rfl (gRun rfl _ fun _ h=>yA2 f42_1 (.tmp 14) rfl q14 (0) rfl) HS_ ?_
           refine tH 1 177 rfl rfl (gRun rfl _ fun _ h=>yA4 o3 (.tmp 176) rfl q14 (0+1) rfl (.int .i64 o.n) (h.1.at (0+1) _ rfl)) HS_ ?_
           refine tH 2 178 rfl rfl (gRun rfl _ fun _ h=>run_geqZ (.tmp 177) (.const (.int .i64 0)) rfl o.n 0 rfl rfl false (decide_eq_false (by omega))) HS_ ?_
           simp only [Act.put,aS,aC,aZ]
           refine tH 3 179 rfl rfl (gRun rfl _ fun _ h=>yA6 (.tmp 178) rfl (.bool false) rfl) HS_ ?_
           refine tH 4 180 rfl rfl (Or.inr ⟨by kernel_rfl,rfl⟩) HS_ ?_
           refine tH 5 181 rfl rfl (Or.inr ⟨by kernel_rfl,rfl⟩) HS_ ?_
           simp only [Act.put,aS,aC,aZ]
           refine tH 6 182 rfl rfl (Or.inr ⟨by kernel_rfl,rfl⟩) HS_ ?_
           refine tH 7 183 rfl rfl (Or.inr ⟨by kernel_rfl,rfl⟩) HS_ ?_
           refine tH 8 184 rfl rfl (Or.inr ⟨by kernel_rfl,rfl⟩) HS_ ?_
           simp only [Act.put,aS,aC,aZ]
           refine tH 9 185 rfl rfl (Or.inr ⟨by kernel_rfl,rfl⟩) HS_ ?_
           refine tH 10 186 rfl rfl (Or.inr ⟨by kernel_rfl,rfl⟩) HS_ ?_
           refine tH 11 187 rfl rfl (Or.inr ⟨by kernel_rfl,rfl⟩) HS_ ?_
           simp only [Act.put,aS,aC,aZ]
           refine tH 12 188 rfl rfl (gRun rfl _ fun _ h=>yA8 (.tmp 179) (.tmp 187) (.const (.bool false)) rfl false (.bool false) rfl rfl) HS_ ?_
           simp only [Act.put,aS,aC,aZ]
           refine wpAnyH_done (by kernel_rfl) ?_ _
           have HC:Hid ((Jp w X c0 gp gv0 gy most m0 os sd os sd vL none (32 * k))∧Row X q22 40 o.x.cells∧o.x.ok):=⟨HX4.out.1,HX4.out.2.2.1,HO.out.1.x⟩
           clear HX4 HA4 HG22
           go_upto_region 44 with fail
           refine wp_region_lit ?_
           refine wm 10 (ptr gv0) ?_
           refine wl rfl _ _ (yA9 ag40 (.tmp 22) rfl q22 (0) rfl (o.x.cells) rfl (yE7 HC.out.2.1)) ?_
           simp only [Act.put,aS,aC,aZ]
           refine yA5 eN17 [.tmp 203,.tmp 204] _ rfl rfl [(ptr gv0),(.agg o.x.cells.toArray)] rfl ?_
           refine (vol_read HC.out.1 (by omega) o.x HC.out.2.2).mono ?_
           rintro e B1 ⟨id1,bs1,vb1,er1,rfl,hr1_,hs1_,hb_⟩
           refine ⟨_,rfl,?_⟩
           have HB1:Hid ((Jp w B1 c0 gp gv0 gy most m0 os sd os sd vL none (32 * k))∧Row B1 q22 40 o.x.cells∧RdR os o.x id1 bs1 er1∧yA3 B1 vb1 bs1):=⟨HC.out.1.bel hb_,HC.out.2.1.later hb_ HC.out.2.1.lt,hr1_,hs1_⟩
           clear hr1_ hs1_ hb_ HC
           simp only [Act.put,aS,aC,aZ]
           refine wm 205 (.tuple #[(str id1),vb1,(.int .i64 er1)]) ?_
           refine wl rfl _ _ (yA7 (.tmp 202) 0 rfl #[(str id1),vb1,(.int .i64 er1)] rfl (str id1) rfl) ?_
           refine wl rfl _ _ (yA7 (.tmp 202) 1 rfl #[(str id1),vb1,(.int .i64 er1)] rfl vb1 rfl) ?_
           simp only [Act.put,aS,aC,aZ]
           refine wl rfl _ _ (yA7 (.tmp 202) 2 rfl #[(str id1),vb1,(.int .i64 er1)] rfl (.int .i64 er1) rfl) ?_
           refine wa (.tmp 206) (str id1) ?_
           refine wa (.tmp 207) vb1 ?_
           simp only [Act.put,aS,aC,aZ]
           refine wa (.tmp 208) (.int .i64 er1) ?_
           simp only [Act.put,aS,aC,aZ]
           refine wpList_nil ?_
           go_upto_region 45 with fail
           refine wp_region_lit ?_
           refine wm 12 (ptr gy) ?_
           refine wl rfl _ _ (yA9 ag40 (.tmp 22) rfl q22 (0) rfl (o.x.cells) rfl (yE7 HB1.out.2.1)) ?_
           simp only [Act.put,aS,aC,aZ]
           refine yA5 eN18 [.tmp 210,.tmp 211] _ rfl rfl [(ptr gy),(.agg o.x.cells.toArray)] rfl ?_
           refine (doc_read HB1.out.1 o.x).mono ?_
           rintro e B2 ⟨id2,bs2,vb2,er2,rfl,hr2_,hs2_,hb_⟩
           obtain ⟨rfl,rfl,rfl⟩:=HB1.out.2.2.1.one hr2_
           refine ⟨_,rfl,?_⟩
           have HB2:Hid ((Jp w B2 c0 gp gv0 gy most m0 os sd os sd vL none (32 * k))∧yA3 B2 vb1 bs1∧yA3 B2 vb2 bs1):=⟨HB1.out.1.bel hb_,HB1.out.2.2.2.later hb_,hs2_⟩
           clear hr2_ hs2_ hb_ HB1
           simp only [Act.put,aS,aC,aZ]
           refine wm 212 (.tuple #[(str id1),vb2,(.int .i64 er1)]) ?_
           refine wl rfl _ _ (yA7 (.tmp 209) 0 rfl #[(str id1),vb2,(.int .i64 er1)] rfl (str id1) rfl) ?_
           refine wl rfl _ _ (yA7 (.tmp 209) 1 rfl #[(str id1),vb2,(.int .i64 er1)] rfl vb2 rfl) ?_
           simp only [Act.put,aS,aC,aZ]
           refine wl rfl _ _ (yA7 (.tmp 209) 2 rfl #[(str id1),vb2,(.int .i64 er1)] rfl (.int .i64 er1) rfl) ?_
           refine wa (.tmp 213) (str id1) ?_
           refine wa (.tmp 214) vb2 ?_
           simp only [Act.put,aS,aC,aZ]
           refine wa (.tmp 215) (.int .i64 er1) ?_
           simp only [Act.put,aS,aC,aZ]
           refine wpList_nil ?_
           go_upto_region 46 with fail
           refine wp_region_lit ?_
           refine wm 23 (str id1) ?_
           refine wm 26 (str id1) ?_
           refine wl rfl _ _ (run_neS (.tmp 216) (.tmp 217) rfl _ rfl rfl) ?_
           simp only [Act.put,aS,aC,aZ]
           refine wm 218 (.bool false) ?_
           refine wl (by kernel_rfl) _ _ (yA6 (.tmp 24) rfl vb1 rfl) ?_
           refine wl (by kernel_rfl) _ _ (yJ2 (.tmp 220) rfl vb1 bs1 rfl HB2.out.2.1) ?_
           simp only [Act.put,aS,aC,aZ]
           refine wl (by kernel_rfl) _ _ (yA6 (.tmp 27) rfl vb2 rfl) ?_
           refine wl (by kernel_rfl) _ _ (yJ2 (.tmp 222) rfl vb2 bs1 rfl HB2.out.2.2) ?_
           refine wl (by kernel_rfl) _ _ (run_neS (.tmp 221) (.tmp 223) rfl _ rfl rfl) ?_
           simp only [Act.put,aS,aC,aZ]
           refine wl rfl _ _ (yA8 (.tmp 219) (.const (.bool true)) (.tmp 224) rfl false (.bool false) rfl rfl) ?_
           refine wm 225 (.bool false) ?_
           refine wl (by kernel_rfl) _ _ (yA6 (.tmp 25) rfl (.int .i64 er1) rfl) ?_
           simp only [Act.put,aS,aC,aZ]
           refine wl (by kernel_rfl) _ _ (yA6 (.tmp 28) rfl (.int .i64 er1) rfl) ?_
           refine wl (by kernel_rfl) _ _ (yC5 (.tmp 227) (.tmp 228) rfl er1 er1 rfl rfl false (by simp)) ?_
           refine wl rfl _ _ (yA8 (.tmp 226) (.const (.bool true)) (.tmp 229) rfl false (.bool false) rfl rfl) ?_
           simp only [Act.put,aS,aC,aZ]
           refine wpList_nil ?_
           go_wp2_with fail
           go_meet
           case rel=>exact ⟨_,_,_,_,_,_,rfl,HB2.out.1.le (by omega)⟩
       ·as_aux_lemma =>
         go_upto_region 31 with fail
         refine wp_region_lit ?_
         refine wl rfl _ _ (yC3 (.tmp 97) (.const (.int .i64 5)) rfl (8) (5) rfl rfl false rfl) ?_
         refine wa (.tmp 154) (.bool false) ?_
         simp only [Act.put,aS,aC,aZ]
         refine wpList_nil ?_
         go_upto_region 35 with fail
         refine wp_region_lit ?_
         refine wl rfl _ _ (yC3 (.tmp 97) (.const (.int .i64 6)) rfl (8) (6) rfl rfl false rfl) ?_
         refine wa (.tmp 160) (.bool false) ?_
         simp only [Act.put,aS,aC,aZ]
         refine wpList_nil ?_
         go_upto_region 39 with fail
         refine wp_region_lit ?_
         refine wl rfl _ _ (yC3 (.tmp 97) (.const (.int .i64 7)) rfl (8) (7) rfl rfl false rfl) ?_
         refine wa (.tmp 173) (.bool false) ?_
         simp only [Act.put,aS,aC,aZ]
         refine wpList_nil ?_
         go_upto_region 48 with fail
         refine wp_region_lit ?_
         refine wl rfl _ _ (yC3 (.tmp 97) (.const (.int .i64 8)) rfl (8) (8) rfl rfl true rfl) ?_
         refine wa (.tmp 232) (.bool true) ?_
         simp only [Act.put,aS,aC,aZ]
         refine wpList_nil ?_
         by_cases hev:Int.tmod o.n 2=0
         ·go_upto_region 49 with fail
          refine wp_region_lit ?_
          refine wl rfl _ _ (yA2 f42_1 (.tmp 14) rfl q14 (0) rfl) ?_
          refine wl rfl _ _ (yA4 o3 (.tmp 233) rfl q14 (0+1) rfl (.int .i64 o.n) (H14.out.1.at (0+1) _ rfl)) ?_
          refine wl rfl _ _ (run_rem2 (.tmp 234) rfl o.n rfl) ?_
          simp only [Act.put,aS,aC,aZ]
          refine wl rfl _ _ (yC3 (.tmp 235) (.const (.int .i64 0)) rfl (Int.tmod o.n 2) 0 rfl rfl true (decide_eq_true hev)) ?_
          simp only [Act.put,aS,aC,aZ]
          refine wpList_nil ?_
          go_wp2_with fail
          go_meet
          case rel=>exact ⟨_,_,_,_,_,_,rfl,HJ2.out.le (by omega)⟩
         ·as_aux_lemma =>
           go_upto_region 49 with fail
           refine wp_region_lit ?_
           refine wl rfl _ _ (yA2 f42_1 (.tmp 14) rfl q14 (0) rfl) ?_
           refine wl rfl _ _ (yA4 o3 (.tmp 233) rfl q14 (0+1) rfl (.int .i64 o.n) (H14.out.1.at (0+1) _ rfl)) ?_
           refine wl rfl _ _ (run_rem2 (.tmp 234) rfl o.n rfl) ?_
           simp only [Act.put,aS,aC,aZ]
           refine wl rfl _ _ (yC3 (.tmp 235) (.const (.int .i64 0)) rfl (Int.tmod o.n 2) 0 rfl rfl false (decide_eq_false hev)) ?_
           simp only [Act.put,aS,aC,aZ]
           refine wpList_nil ?_
           go_upto_region 50 with fail
           refine wp_region_lit ?_
           refine wm 10 (ptr gv0) ?_
           simp only [Act.put,aS,aC,aZ]
           refine yA5 eN19 [.tmp 237] _ rfl rfl [(ptr gv0)] rfl ?_
           refine (vseal_s HJ2.out.v (by have:=HJ2.out.k;omega)).mono ?_
           rintro e A3 ⟨c3,m3,er,sd3,rfl,s_,v_,hm_,hcase_⟩
           refine ⟨_,rfl,?_⟩
           have HA3:Hid (Jp w A3 c3 gp gv0 gy most m3 os sd3 os sd vL none (32 * k+16)):=HJ2.out.turn s_ v_ hm_
           have hfew:=HJ2.out.few
           clear s_ v_ hm_ HJ2 H14
           simp only [Act.put,aS,aC,aZ]
           refine wa (.tmp 238) (.int .i64 er) ?_
           simp only [Act.put,aS,aC,aZ]
           refine wpList_nil ?_
           go_upto_region 51 with fail
           refine wp_region_lit ?_
           refine wa (.const (.int .i64 0)) (.int .i64 0) ?_
           simp only [Act.put,aS,aC,aZ]
           refine wpList_nil ?_
           rcases hcase_ with ⟨hful_,rfl,rfl⟩|⟨rfl,hnf_,rfl,rfl⟩
           ·as_aux_lemma =>
             cases sd3 with
             | false =>
              as_aux_lemma =>
               have hfl_:(most:Int) - (wide os:Int)<2:=(by rcases hful_ with h|h;cases h;exact h)
               go_upto_region 52 with fail
               refine wp_region_held (S:=fun X=>Row X gy 37 (rvC 2 most (wide os) vL false)) (by kernel_rfl) ?_
               show wpAnyH _ _ _ _ _ 16 (Array.replicate 16 false) _ _
               obtain ⟨X,hX⟩:∃X:World,X = { A3 with drawn:=A3.drawn+1 }:=⟨_,rfl⟩
               rw [←hX]
               have HS_:Row X gy 37 (rvC 2 most (wide os) vL false):=(by rw [hX];exact HA3.out.y.later ⟨rfl,rfl,rfl,Nat.le_refl _,fun _ _=>rfl⟩ HA3.out.y.lt)
               have HXB:Hid (Jp w X c3 gp gv0 gy most m3 os false os false vL none (32 * k+16)):=(by rw [hX];exact HA3.out.bel ⟨rfl,rfl,rfl,Nat.le_refl _,fun _ _=>rfl⟩)
               clear HA3
               clear hX
               refine tH 0 239 rfl rfl (gRun rfl _ fun _ h=>yA6 (.tmp 12) rfl (ptr gy) rfl) HS_ ?_
               refine tH 1 240 rfl rfl (gRun rfl _ fun _ h=>yC1 (.tmp 239) rfl ⟨gy,0,none⟩ rfl) HS_ ?_
               refine tH 2 241 rfl rfl (gRun rfl _ fun _ h=>yA2 f37_4 (.tmp 240) rfl gy (0) rfl) HS_ ?_
               simp only [Act.put,aS,aC,aZ]
               refine tH 3 242 rfl rfl (gRun rfl _ fun _ h=>yA4 o4 (.tmp 241) rfl gy (0+4) rfl (.bool false) (h.at (0+4) _ rfl)) HS_ ?_
               refine tH 4 243 rfl rfl (gRun rfl _ fun _ h=>yA6 (.tmp 242) rfl (.bool false) rfl) HS_ ?_
               refine tH 5 244 rfl rfl (gRun (by kernel_rfl) _ fun _ h=>yA6 (.tmp 12) rfl (ptr gy) rfl) HS_ ?_
               simp only [Act.put,aS,aC,aZ]
               refine tH 6 245 rfl rfl (gRun (by kernel_rfl) _ fun _ h=>yC1 (.tmp 244) rfl ⟨gy,0,none⟩ rfl) HS_ ?_
               refine tH 7 246 rfl rfl (gRun (by kernel_rfl) _ fun _ h=>yA2 f37_1 (.tmp 245) rfl gy (0) rfl) HS_ ?_
               refine tH 8 247 rfl rfl (gRun (by kernel_rfl) _ fun _ h=>yA4 o3 (.tmp 246) rfl gy (0+1) rfl (.int .i64 (most:Nat)) (h.at (0+1) _ rfl)) HS_ ?_
               simp only [Act.put,aS,aC,aZ]
               refine tH 9 248 rfl rfl (gRun (by kernel_rfl) _ fun _ h=>yA6 (.tmp 12) rfl (ptr gy) rfl) HS_ ?_
               refine tH 10 249 rfl rfl (gRun (by kernel_rfl) _ fun _ h=>yC1 (.tmp 248) rfl ⟨gy,0,none⟩ rfl) HS_ ?_
               refine tH 11 250 rfl rfl (gRun (by kernel_rfl) _ fun _ h=>yA2 f37_2 (.tmp 249) rfl gy (0) rfl) HS_ ?_
               simp only [Act.put,aS,aC,aZ]
               refine tH 12 251 rfl rfl (gRun (by kernel_rfl) _ fun _ h=>yA4 o3 (.tmp 250) rfl gy (0+2) rfl (.int .i64 (wide os:Nat)) (h.at (0+2) _ rfl)) HS_ ?_
               refine tH 13 252 rfl rfl (gRun (by kernel_rfl) (.int .i64 ((most:Int) - (wide os:Int))) fun _ h=>yJ8 (.tmp 247) (.tmp 251) rfl (most:Nat) (wide os:Nat) _ rfl rfl rfl (by omega) (by omega)) HS_ ?_
               refine tH 14 253 rfl rfl (gRun (by kernel_rfl) _ fun _ h=>yB5 (.tmp 252) (.const (.int .i64 2)) rfl ((most:Int) - (wide os:Int)) 2 rfl rfl true (decide_eq_true (by omega))) HS_ ?_
               simp only [Act.put,aS,aC,aZ]
               refine tH 15 254 rfl rfl (gRun rfl _ fun _ h=>yA8 (.tmp 243) (.const (.bool true)) (.tmp 253) rfl false (.bool true) rfl rfl) HS_ ?_
               simp only [Act.put,aS,aC,aZ]
               refine wpAnyH_done (by kernel_rfl) ?_ _
               go_upto_region 53 with fail
               refine wp_region_lit ?_
               refine wa (.const (.int .i64 3)) (.int .i64 3) ?_
               simp only [Act.put,aS,aC,aZ]
               refine wpList_nil ?_
               go_upto_region 54 with fail
               refine wp_region_lit ?_
               refine wm 29 (.int .i64 3) ?_
               refine wm 30 (.int .i64 3) ?_
               refine wl rfl _ _ (yC5 (.tmp 255) (.tmp 256) rfl 3 3 rfl rfl false rfl) ?_
               simp only [Act.put,aS,aC,aZ]
               refine wpList_nil ?_
               go_upto_region 56 with fail
               refine wp_region_lit ?_
               refine wm 12 (ptr gy) ?_
               refine wm 12 (ptr gy) ?_
               refine wl rfl _ _ (yC1 (.tmp 259) rfl ⟨gy,0,none⟩ rfl) ?_
               simp only [Act.put,aS,aC,aZ]
               refine wl rfl _ _ (yA2 f37_4 (.tmp 260) rfl gy (0) rfl) ?_
               refine wl rfl _ _ (yA4 o4 (.tmp 261) rfl gy (0+4) rfl (.bool false) (HXB.out.y.at (0+4) _ rfl)) ?_
               refine wm 262 (.bool false) ?_
               simp only [Act.put,aS,aC,aZ]
               refine wl (by kernel_rfl) _ _ (yA6 (.tmp 29) rfl (.int .i64 3) rfl) ?_
               refine wl (by kernel_rfl) _ _ (yC3 (.tmp 264) (.const (.int .i64 0)) rfl 3 0 rfl rfl false rfl) ?_
               refine wl rfl _ _ (yA8 (.tmp 263) (.const (.bool true)) (.tmp 265) rfl false (.bool false) rfl rfl) ?_
               simp only [Act.put,aS,aC,aZ]
               refine wl rfl _ _ (yC1 (.tmp 258) rfl ⟨gy,0,none⟩ rfl) ?_
               refine wl rfl _ _ (yA2 f37_4 (.tmp 267) rfl gy (0) rfl) ?_
               simp only [Act.put,aS,aC,aZ]
               refine wlS rfl rfl _ (yH1 (t:=4) sz4p (.tmp 268) (.tmp 266) rfl gy (0+4) 37 (rvC 2 most (wide os) vL false) rfl (.bool false) rfl ⟨rfl,rfl⟩ HXB.out.y (show 4<5 by decide)) ?_
               have r_:=yJ4 (i:=0+4) HXB.out.y (.bool false)
               have c_:=(Ch.refl (· = gy) X).setCell (g:=gy) (Or.inl rfl) (0+4) (.bool false)
               obtain ⟨A5,hW_⟩:∃U_:World,U_=X.setCell ⟨gy,0+4,none⟩ (.bool false):=⟨_,rfl⟩
               rw [←hW_] at r_ c_ ⊢
               have r2_:Row A5 gy 37 (rvC 2 most (wide os) vL false):=r_
               have HA5:Hid (Jp w A5 c3 gp gv0 gy most m3 os false os false vL none (32 * k+16)):=HXB.out.docS c_ r2_
               clear r_ r2_ c_ hW_ HXB
               refine wpList_nil ?_
               go_wp2_with fail
               go_meet
               case rel=>exact ⟨_,_,_,_,_,_,rfl,HA5⟩
             | true =>
              as_aux_lemma =>
               go_upto_region 52 with fail
               refine wp_region_held (S:=fun X=>Row X gy 37 (rvC 2 most (wide os) vL true)) (by kernel_rfl) ?_
               show wpAnyH _ _ _ _ _ 16 (Array.replicate 16 false) _ _
               obtain ⟨X,hX⟩:∃X:World,X = { A3 with drawn:=A3.drawn+1 }:=⟨_,rfl⟩
               rw [←hX]
               have HS_:Row X gy 37 (rvC 2 most (wide os) vL true):=(by rw [hX];exact HA3.out.y.later ⟨rfl,rfl,rfl,Nat.le_refl _,fun _ _=>rfl⟩ HA3.out.y.lt)
               have HXB:Hid (Jp w X c3 gp gv0 gy most m3 os true os true vL none (32 * k+16)):=(by rw [hX];exact HA3.out.bel ⟨rfl,rfl,rfl,Nat.le_refl _,fun _ _=>rfl⟩)
               clear HA3
               clear hX
               refine tH 0 239 rfl rfl (gRun rfl _ fun _ h=>yA6 (.tmp 12) rfl (ptr gy) rfl) HS_ ?_
               refine tH 1 240 rfl rfl (gRun rfl _ fun _ h=>yC1 (.tmp 239) rfl ⟨gy,0,none⟩ rfl) HS_ ?_
               refine tH 2 241 rfl rfl (gRun rfl _ fun _ h=>yA2 f37_4 (.tmp 240) rfl gy (0) rfl) HS_ ?_
               simp only [Act.put,aS,aC,aZ]
               refine tH 3 242 rfl rfl (gRun rfl _ fun _ h=>yA4 o4 (.tmp 241) rfl gy (0+4) rfl (.bool true) (h.at (0+4) _ rfl)) HS_ ?_
               refine tH 4 243 rfl rfl (gRun rfl _ fun _ h=>yA6 (.tmp 242) rfl (.bool true) rfl) HS_ ?_
               refine tH 5 244 rfl rfl (Or.inr ⟨by kernel_rfl,rfl⟩) HS_ ?_
               simp only [Act.put,aS,aC,aZ]
               refine tH 6 245 rfl rfl (Or.inr ⟨by kernel_rfl,rfl⟩) HS_ ?_
               refine tH 7 246 rfl rfl (Or.inr ⟨by kernel_rfl,rfl⟩) HS_ ?_
               refine tH 8 247 rfl rfl (Or.inr ⟨by kernel_rfl,rfl⟩) HS_ ?_
               simp only [Act.put,aS,aC,aZ]
               refine tH 9 248 rfl rfl (Or.inr ⟨by kernel_rfl,rfl⟩) HS_ ?_
               refine tH 10 249 rfl rfl (Or.inr ⟨by kernel_rfl,rfl⟩) HS_ ?_
               refine tH 11 250 rfl rfl (Or.inr ⟨by kernel_rfl,rfl⟩) HS_ ?_
               simp only [Act.put,aS,aC,aZ]
               refine tH 12 251 rfl rfl (Or.inr ⟨by kernel_rfl,rfl⟩) HS_ ?_
               refine tH 13 252 rfl rfl (Or.inr ⟨by kernel_rfl,rfl⟩) HS_ ?_
               refine tH 14 253 rfl rfl (Or.inr ⟨by kernel_rfl,rfl⟩) HS_ ?_
               simp only [Act.put,aS,aC,aZ]
               refine tH 15 254 rfl rfl (gRun rfl _ fun _ h=>yA8 (.tmp 243) (.const (.bool true)) (.tmp 253) rfl true (.bool true) rfl rfl) HS_ ?_
               simp only [Act.put,aS,aC,aZ]
               refine wpAnyH_done (by kernel_rfl) ?_ _
               go_upto_region 53 with fail
               refine wp_region_lit ?_
               refine wa (.const (.int .i64 3)) (.int .i64 3) ?_
               simp only [Act.put,aS,aC,aZ]
               refine wpList_nil ?_
               go_upto_region 54 with fail
               refine wp_region_lit ?_
               refine wm 29 (.int .i64 3) ?_
               refine wm 30 (.int .i64 3) ?_
               refine wl rfl _ _ (yC5 (.tmp 255) (.tmp 256) rfl 3 3 rfl rfl false rfl) ?_
               simp only [Act.put,aS,aC,aZ]
               refine wpList_nil ?_
               go_upto_region 56 with fail
               refine wp_region_lit ?_
               refine wm 12 (ptr gy) ?_
               refine wm 12 (ptr gy) ?_
               refine wl rfl _ _ (yC1 (.tmp 259) rfl ⟨gy,0,none⟩ rfl) ?_
               simp only [Act.put,aS,aC,aZ]
               refine wl rfl _ _ (yA2 f37_4 (.tmp 260) rfl gy (0) rfl) ?_
               refine wl rfl _ _ (yA4 o4 (.tmp 261) rfl gy (0+4) rfl (.bool true) (HXB.out.y.at (0+4) _ rfl)) ?_
               refine wm 262 (.bool true) ?_
               simp only [Act.put,aS,aC,aZ]
               with_reducible refine wpList_skip (by kernel_rfl) ?_
               simp only [Act.put,aS,aC,aZ]
               with_reducible refine wpList_skip (by kernel_rfl) ?_
               simp only [Act.put,aS,aC,aZ]
               refine wl rfl _ _ (yA8 (.tmp 263) (.const (.bool true)) (.tmp 265) rfl true (.bool true) rfl rfl) ?_
               refine wl rfl _ _ (yC1 (.tmp 258) rfl ⟨gy,0,none⟩ rfl) ?_
               refine wl rfl _ _ (yA2 f37_4 (.tmp 267) rfl gy (0) rfl) ?_
               simp only [Act.put,aS,aC,aZ]
               refine wlS rfl rfl _ (yH1 (t:=4) sz4p (.tmp 268) (.tmp 266) rfl gy (0+4) 37 (rvC 2 most (wide os) vL true) rfl (.bool true) rfl ⟨rfl,rfl⟩ HXB.out.y (show 4<5 by decide)) ?_
               have r_:=yJ4 (i:=0+4) HXB.out.y (.bool true)
               have c_:=(Ch.refl (· = gy) X).setCell (g:=gy) (Or.inl rfl) (0+4) (.bool true)
               obtain ⟨A5,hW_⟩:∃U_:World,U_=X.setCell ⟨gy,0+4,none⟩ (.bool true):=⟨_,rfl⟩
               rw [←hW_] at r_ c_ ⊢
               have r2_:Row A5 gy 37 (rvC 2 most (wide os) vL true):=r_
               have HA5:Hid (Jp w A5 c3 gp gv0 gy most m3 os true os true vL none (32 * k+16)):=HXB.out.docS c_ r2_
               clear r_ r2_ c_ hW_ HXB
               refine wpList_nil ?_
               go_wp2_with fail
               go_meet
               case rel=>exact ⟨_,_,_,_,_,_,rfl,HA5⟩
           ·as_aux_lemma =>
             go_upto_region 52 with fail
             refine wp_region_held (S:=fun X=>Row X gy 37 (rvC 2 most (wide os) vL false)) (by kernel_rfl) ?_
             show wpAnyH _ _ _ _ _ 16 (Array.replicate 16 false) _ _
             obtain ⟨X,hX⟩:∃X:World,X = { A3 with drawn:=A3.drawn+1 }:=⟨_,rfl⟩
             rw [←hX]
             have HS_:Row X gy 37 (rvC 2 most (wide os) vL false):=(by rw [hX];exact HA3.out.y.later ⟨rfl,rfl,rfl,Nat.le_refl _,fun _ _=>rfl⟩ HA3.out.y.lt)
             have HXB:Hid (Jp w X c3 gp gv0 gy most m3 os true os false vL none (32 * k+16)):=(by rw [hX];exact HA3.out.bel ⟨rfl,rfl,rfl,Nat.le_refl _,fun _ _=>rfl⟩)
             clear HA3
             clear hX
             refine tH 0 239 rfl rfl (gRun rfl _ fun _ h=>yA6 (.tmp 12) rfl (ptr gy) rfl) HS_ ?_
             refine tH 1 240 rfl rfl (gRun rfl _ fun _ h=>yC1 (.tmp 239) rfl ⟨gy,0,none⟩ rfl) HS_ ?_
             refine tH 2 241 rfl rfl (gRun rfl _ fun _ h=>yA2 f37_4 (.tmp 240) rfl gy (0) rfl) HS_ ?_
             simp only [Act.put,aS,aC,aZ]
             refine tH 3 242 rfl rfl (gRun rfl _ fun _ h=>yA4 o4 (.tmp 241) rfl gy (0+4) rfl (.bool false) (h.at (0+4) _ rfl)) HS_ ?_
             refine tH 4 243 rfl rfl (gRun rfl _ fun _ h=>yA6 (.tmp 242) rfl (.bool false) rfl) HS_ ?_
             refine tH 5 244 rfl rfl (gRun (by kernel_rfl) _ fun _ h=>yA6 (.tmp 12) rfl (ptr gy) rfl) HS_ ?_
             simp only [Act.put,aS,aC,aZ]
             refine tH 6 245 rfl rfl (gRun (by kernel_rfl) _ fun _ h=>yC1 (.tmp 244) rfl ⟨gy,0,none⟩ rfl) HS_ ?_
             refine tH 7 246 rfl rfl (gRun (by kernel_rfl) _ fun _ h=>yA2 f37_1 (.tmp 245) rfl gy (0) rfl) HS_ ?_
             refine tH 8 247 rfl rfl (gRun (by kernel_rfl) _ fun _ h=>yA4 o3 (.tmp 246) rfl gy (0+1) rfl (.int .i64 (most:Nat)) (h.at (0+1) _ rfl)) HS_ ?_
             simp only [Act.put,aS,aC,aZ]
             refine tH 9 248 rfl rfl (gRun (by kernel_rfl) _ fun _ h=>yA6 (.tmp 12) rfl (ptr gy) rfl) HS_ ?_
             refine tH 10 249 rfl rfl (gRun (by kernel_rfl) _ fun _ h=>yC1 (.tmp 248) rfl ⟨gy,0,none⟩ rfl) HS_ ?_
             refine tH 11 250 rfl rfl (gRun (by kernel_rfl) _ fun _ h=>yA2 f37_2 (.tmp 249) rfl gy (0) rfl) HS_ ?_
             simp only [Act.put,aS,aC,aZ]
             refine tH 12 251 rfl rfl (gRun (by kernel_rfl) _ fun _ h=>yA4 o3 (.tmp 250) rfl gy (0+2) rfl (.int .i64 (wide os:Nat)) (h.at (0+2) _ rfl)) HS_ ?_
             refine tH 13 252 rfl rfl (gRun (by kernel_rfl) (.int .i64 ((most:Int) - (wide os:Int))) fun _ h=>yJ8 (.tmp 247) (.tmp 251) rfl (most:Nat) (wide os:Nat) _ rfl rfl rfl (by omega) (by omega)) HS_ ?_
             refine tH 14 253 rfl rfl (gRun (by kernel_rfl) _ fun _ h=>yB5 (.tmp 252) (.const (.int .i64 2)) rfl ((most:Int) - (wide os:Int)) 2 rfl rfl false (decide_eq_false (by omega))) HS_ ?_
             simp only [Act.put,aS,aC,aZ]
             refine tH 15 254 rfl rfl (gRun rfl _ fun _ h=>yA8 (.tmp 243) (.const (.bool true)) (.tmp 253) rfl false (.bool false) rfl rfl) HS_ ?_
             simp only [Act.put,aS,aC,aZ]
             refine wpAnyH_done (by kernel_rfl) ?_ _
             go_upto_region 54 with fail
             refine wp_region_lit ?_
             refine wm 29 (.int .i64 0) ?_
             refine wm 30 (.int .i64 0) ?_
             refine wl rfl _ _ (yC5 (.tmp 255) (.tmp 256) rfl 0 0 rfl rfl false rfl) ?_
             simp only [Act.put,aS,aC,aZ]
             refine wpList_nil ?_
             go_upto_region 56 with fail
             refine wp_region_lit ?_
             refine wm 12 (ptr gy) ?_
             refine wm 12 (ptr gy) ?_
             refine wl rfl _ _ (yC1 (.tmp 259) rfl ⟨gy,0,none⟩ rfl) ?_
             simp only [Act.put,aS,aC,aZ]
             refine wl rfl _ _ (yA2 f37_4 (.tmp 260) rfl gy (0) rfl) ?_
             refine wl rfl _ _ (yA4 o4 (.tmp 261) rfl gy (0+4) rfl (.bool false) (HXB.out.y.at (0+4) _ rfl)) ?_
             refine wm 262 (.bool false) ?_
             simp only [Act.put,aS,aC,aZ]
             refine wl (by kernel_rfl) _ _ (yA6 (.tmp 29) rfl (.int .i64 0) rfl) ?_
             refine wl (by kernel_rfl) _ _ (yC3 (.tmp 264) (.const (.int .i64 0)) rfl 0 0 rfl rfl true rfl) ?_
             refine wl rfl _ _ (yA8 (.tmp 263) (.const (.bool true)) (.tmp 265) rfl false (.bool true) rfl rfl) ?_
             simp only [Act.put,aS,aC,aZ]
             refine wl rfl _ _ (yC1 (.tmp 258) rfl ⟨gy,0,none⟩ rfl) ?_
             refine wl rfl _ _ (yA2 f37_4 (.tmp 267) rfl gy (0) rfl) ?_
             simp only [Act.put,aS,aC,aZ]
             refine wlS rfl rfl _ (yH1 (t:=4) sz4p (.tmp 268) (.tmp 266) rfl gy (0+4) 37 (rvC 2 most (wide os) vL false) rfl (.bool true) rfl ⟨rfl,rfl⟩ HXB.out.y (show 4<5 by decide)) ?_
             have r_:=yJ4 (i:=0+4) HXB.out.y (.bool true)
             have c_:=(Ch.refl (· = gy) X).setCell (g:=gy) (Or.inl rfl) (0+4) (.bool true)
             obtain ⟨A5,hW_⟩:∃U_:World,U_=X.setCell ⟨gy,0+4,none⟩ (.bool true):=⟨_,rfl⟩
             rw [←hW_] at r_ c_ ⊢
             have r2_:Row A5 gy 37 (rvC 2 most (wide os) vL true):=r_
             have HA5:Hid (Jp w A5 c3 gp gv0 gy most m3 os true os true vL none (32 * k+16)):=HXB.out.docS c_ r2_
             clear r_ r2_ c_ hW_ HXB
             refine wpList_nil ?_
             go_wp2_with fail
             go_meet
             case rel=>exact ⟨_,_,_,_,_,_,rfl,HA5⟩
       ·go_upto_region 31 with fail
        refine wp_region_lit ?_
        refine wl rfl _ _ (yC3 (.tmp 97) (.const (.int .i64 5)) rfl (9) (5) rfl rfl false rfl) ?_
        refine wa (.tmp 154) (.bool false) ?_
        simp only [Act.put,aS,aC,aZ]
        refine wpList_nil ?_
        go_upto_region 35 with fail
        refine wp_region_lit ?_
        refine wl rfl _ _ (yC3 (.tmp 97) (.const (.int .i64 6)) rfl (9) (6) rfl rfl false rfl) ?_
        refine wa (.tmp 160) (.bool false) ?_
        simp only [Act.put,aS,aC,aZ]
        refine wpList_nil ?_
        go_upto_region 39 with fail
        refine wp_region_lit ?_
        refine wl rfl _ _ (yC3 (.tmp 97) (.const (.int .i64 7)) rfl (9) (7) rfl rfl false rfl) ?_
        refine wa (.tmp 173) (.bool false) ?_
        simp only [Act.put,aS,aC,aZ]
        refine wpList_nil ?_
        go_upto_region 48 with fail
        refine wp_region_lit ?_
        refine wl rfl _ _ (yC3 (.tmp 97) (.const (.int .i64 8)) rfl (9) (8) rfl rfl false rfl) ?_
        refine wa (.tmp 232) (.bool false) ?_
        simp only [Act.put,aS,aC,aZ]
        refine wpList_nil ?_
        go_wp2_with fail
        go_meet
        case rel=>exact ⟨_,_,_,_,_,_,rfl,HJ2.out.le (by omega)⟩
    case rest =>
     as_aux_lemma =>
      clear hk0 HJ2 H14
      obtain ⟨gv,c,m,os1,sd1,vM,hu10,HC⟩:=hcut
      subst hu10
      have HD:Hid (Jp w wc c gp gv gy most m os1 sd1 os1 sd1 vM none (32 * k+16)):=HC.out
      clear HC
      obtain ⟨D0,hD0⟩:∃X,X=wc:=⟨_,rfl⟩
      subst hD0
      go_upto_region 57 with fail
      refine wp_region_lit ?_
      refine wm 10 (ptr gv) ?_
      simp only [Act.put,aS,aC,aZ]
      refine yA5 eN20 [.tmp 270] _ rfl rfl [(ptr gv)] rfl ?_
      refine (vroot_s HD.out.v (by have:=HD.out.k;omega)).mono ?_
      rintro e D1 ⟨rfl,s_,v_⟩
      obtain ⟨R,hR_⟩:∃R,R=(if sd1 then rootO os1 else Zs 32):=⟨_,rfl⟩
      rw [←hR_]
      refine ⟨_,rfl,?_⟩
      have HD1:Hid (Jp w D1 c gp gv gy most m os1 sd1 os1 sd1 vM none (32 * k+16)):=HD.out.seen s_ v_
      have HR:Hid (R.length=32∧R=(if sd1 then rootO os1 else Zs 32)):=⟨by rw [hR_];split;exact (yK0 os1).1;exact yH4 32,hR_⟩
      clear s_ v_ hR_ HD
      simp only [Act.put,aS,aC,aZ]
      refine wm 271 (.tuple #[(av R),(.bool sd1)]) ?_
      refine wl rfl _ _ (yA7 (.tmp 269) 0 rfl #[(av R),(.bool sd1)] rfl (av R) rfl) ?_
      refine wl rfl _ _ (yA7 (.tmp 269) 1 rfl #[(av R),(.bool sd1)] rfl (.bool sd1) rfl) ?_
      simp only [Act.put,aS,aC,aZ]
      refine wl rfl _ _ (yB3 (yA0 (Zs 32)) zero52 rfl) ?_
      have hb_:=yB0 D1 (.cells (yA0 (Zs 32)).toArray 52)
      have r_:=Row.new D1 52 (yA0 (Zs 32))
      obtain ⟨D2,hW_⟩:∃U_:World,U_=D1.alloc (.cells (yA0 (Zs 32)).toArray 52):=⟨_,rfl⟩
      obtain ⟨q31,hq_⟩:∃q,q=D1.heap.size:=⟨_,rfl⟩
      rw [←hW_] at hb_
      rw [←hW_,←hq_] at r_
      rw [←hW_,←hq_]
      have HQ:Hid (Row D2 q31 52 (yA0 (Zs 32))∧Below D1.heap.size D1 D2∧D1.heap.size≤q31):=⟨r_,hb_,Nat.le_of_eq hq_.symm⟩
      clear r_ hb_ hW_ hq_
      simp only [Act.put,aS,aC,aZ]
      refine wlS rfl rfl _ (yD0 ag52 (.tmp 31) (.tmp 272) rfl q31 52 rfl (yA0 R) _ rfl (by rw [yA1];exact HR.out.1) HQ.out.1 (by rw [yA1,bz];exact HR.out.1) (yB2 _)) ?_
      have hb_:=(Ch.setRow (S:=(· = q31)) (Ch.refl _ D2) (Or.inl rfl) (yA0 R).toArray)
      have r_:=HQ.out.1.setRow (yA0 R)
      obtain ⟨D3,hW_⟩:∃U_:World,U_=D2.setRow q31 (yA0 R).toArray:=⟨_,rfl⟩
      rw [←hW_] at hb_ r_ ⊢
      have hbb:=HQ.out.2.1.trans (hb_.below HQ.out.2.1.size fun k hk e=>by have:=HQ.out.2.2;omega)
      have hge:=HQ.out.2.2
      have HD3:Hid ((Jp w D3 c gp gv gy most m os1 sd1 os1 sd1 vM none (32 * k+16))∧Row D3 q31 52 (yA0 R)∧Out 2 gv c D3 q31):=⟨HD1.out.bel hbb,r_,HD1.out.v.outNew hge r_.lt⟩
      clear HD1
      clear hW_ r_ hb_ hbb hge HQ
      refine wa (.tmp 273) (.bool sd1) ?_
      simp only [Act.put,aS,aC,aZ]
      refine wpList_nil ?_
      go_upto_region 58 with fail
      refine wp_region_held (S:=fun X=>Row X gy 37 (rvC 2 most (wide os1) vM sd1)) (by kernel_rfl) ?_
      show wpAnyH _ _ _ _ _ 8 (Array.replicate 8 false) _ _
      obtain ⟨X,hX⟩:∃X:World,X = { D3 with drawn:=D3.drawn+1 }:=⟨_,rfl⟩
      rw [←hX]
      have HX1:Hid ((Jp w X c gp gv gy most m os1 sd1 os1 sd1 vM none (32 * k+16))∧Row X q31 52 (yA0 R)∧Out 2 gv c X q31):=(by rw [hX];exact ⟨HD3.out.1.bel ⟨rfl,rfl,rfl,Nat.le_refl _,fun _ _=>rfl⟩,HD3.out.2.1.later ⟨rfl,rfl,rfl,Nat.le_refl _,fun _ _=>rfl⟩ HD3.out.2.1.lt,⟨HD3.out.2.2.1,HD3.out.2.2.2⟩⟩)
      have HS_:Row X gy 37 (rvC 2 most (wide os1) vM sd1):=HX1.out.1.y
      clear hX
      refine tH 0 274 rfl rfl (gRun rfl _ fun _ h=>yA6 (.tmp 10) rfl (ptr gv) rfl) HS_ ?_
      refine tH 2 276 rfl rfl (gRun rfl _ fun _ h=>yA6 (.tmp 12) rfl (ptr gy) rfl) HS_ ?_
      refine tH 3 277 rfl rfl (gRun rfl _ fun _ h=>yC1 (.tmp 276) rfl ⟨gy,0,none⟩ rfl) HS_ ?_
      simp only [Act.put,aS,aC,aZ]
      refine tH 4 278 rfl rfl (gRun rfl _ fun _ h=>yA2 f37_3 (.tmp 277) rfl gy (0) rfl) HS_ ?_
      refine tH 5 279 rfl rfl (gRun rfl _ fun _ h=>yA4 o35 (.tmp 278) rfl gy (0+3) rfl vM (h.at (0+3) _ rfl)) HS_ ?_
      simp only [Act.put,aS,aC,aZ]
      refine oneH (i:=1) (by kernel_rfl) ?_
      refine yE0 (some 275) rfl rfl rfl 22 _ (yC0 eN22 [.tmp 274] _ rfl [(ptr gv)] rfl) ?_
      refine (vlist_s HX1.out.1.v (by have:=HX1.out.1.k;omega)).mono ?_
      rintro e X2 ⟨vq,rfl,hc_,hb_,v_⟩
      refine ⟨_,rfl,?_⟩
      have HX2:Hid ((Jp w X2 c gp gv gy most m os1 sd1 os1 sd1 vM none (32 * k+16))∧Row X2 q31 52 (yA0 R)∧Out 2 gv c X2 q31∧COwn 40 4 X2 X.heap.size vq (plcs 2 os1)):=⟨HX1.out.1.bel hb_,HX1.out.2.1.later hb_ HX1.out.2.1.lt,⟨Nat.lt_of_lt_of_le HX1.out.2.2.1 hb_.size,HX1.out.2.2.2⟩,hc_⟩
      replace HS_:Row X2 gy 37 (rvC 2 most (wide os1) vM sd1):=HX2.out.1.y
      clear hc_ hb_ v_ HX1
      refine ⟨HS_,?_⟩
      simp only [Act.put,aS,aC,aZ]
      refine oneH (i:=6) (by kernel_rfl) ?_
      refine yE0 (some 280) rfl rfl rfl 21 _ (yC0 eN21 [.tmp 275,.tmp 279] _ rfl [vq,vM] rfl) ?_
      refine (same_any HX2.out.2.2.2 HX2.out.1.t (by rw [plcs_length,yE5]) (by rw [yE5];have:=HX2.out.1.few;omega) (fun i hi=>by rw [yE5] at hi;rw [plcs_at 2 os1 i hi,tdsOf_at 2 os1 i hi];rfl)).mono ?_
      rintro e X3 ⟨rfl,hb_⟩
      refine ⟨_,rfl,?_⟩
      have HX3:Hid ((Jp w X3 c gp gv gy most m os1 sd1 os1 sd1 vM none (32 * k+16))∧Row X3 q31 52 (yA0 R)∧Out 2 gv c X3 q31):=⟨HX2.out.1.bel hb_,HX2.out.2.1.later hb_ HX2.out.2.1.lt,⟨Nat.lt_of_lt_of_le HX2.out.2.2.1.1 hb_.size,HX2.out.2.2.1.2⟩⟩
      replace HS_:Row X3 gy 37 (rvC 2 most (wide os1) vM sd1):=HX3.out.1.y
      clear hb_ HX2
      refine ⟨HS_,?_⟩
      simp only [Act.put,aS,aC,aZ]
      refine tH 7 33 rfl rfl (gRun rfl _ fun _ h=>yG0 (.tmp 280) rfl (.bool true) rfl) HS_ ?_
      simp only [Act.put,aS,aC,aZ]
      refine wpAnyH_done (by kernel_rfl) ?_ _
      cases sd1 with
      | false =>
       as_aux_lemma =>
        have HRR:Hid (R=Zs 32):=HR.out.2
        go_upto_region 59 with fail
        refine wp_region_held (S:=fun X=>Row X gy 37 (rvC 2 most (wide os1) vM false)∧Row X q31 52 (yA0 R)) (by kernel_rfl) ?_
        show wpAnyH _ _ _ _ _ 35 (Array.replicate 35 false) _ _
        obtain ⟨Q,hX⟩:∃Q:World,Q = { X3 with drawn:=X3.drawn+1 }:=⟨_,rfl⟩
        rw [←hX]
        have HZ:Hid ((Jp w Q c gp gv gy most m os1 false os1 false vM none (32 * k+16))∧Row Q q31 52 (yA0 R)∧Out 2 gv c Q q31):=(by rw [hX];exact ⟨HX3.out.1.bel ⟨rfl,rfl,rfl,Nat.le_refl _,fun _ _=>rfl⟩,HX3.out.2.1.later ⟨rfl,rfl,rfl,Nat.le_refl _,fun _ _=>rfl⟩ HX3.out.2.1.lt,⟨HX3.out.2.2.1,HX3.out.2.2.2⟩⟩)
        have HS_:Row Q gy 37 (rvC 2 most (wide os1) vM false)∧Row Q q31 52 (yA0 R):=⟨HZ.out.1.y,HZ.out.2.1⟩
        clear hX
        refine tH 0 281 rfl rfl (gRun rfl _ fun _ h=>yA6 (.tmp 33) rfl (.bool true) rfl) HS_ ?_
        refine tH 1 282 rfl rfl (gRun rfl _ fun _ h=>yG1 (.tmp 281) 4 rfl true rfl) HS_ ?_
        refine tH 2 283 rfl rfl (gRun rfl _ fun _ h=>yA6 (.tmp 282) rfl (.bool false) rfl) HS_ ?_
        simp only [Act.put,aS,aC,aZ]
        refine tH 3 284 rfl rfl (gRun (by kernel_rfl) _ fun _ h=>yA6 (.tmp 10) rfl (ptr gv) rfl) HS_ ?_
        refine tH 5 286 rfl rfl (gRun (by kernel_rfl) _ fun _ h=>yA6 (.tmp 12) rfl (ptr gy) rfl) HS_ ?_
        simp only [Act.put,aS,aC,aZ]
        refine oneH (i:=4) (by kernel_rfl) ?_
        refine yE0 (some 285) rfl rfl (by kernel_rfl) 23 _ (yC0 eN23 [.tmp 284] _ rfl [(ptr gv)] rfl) ?_
        refine (vroom_s HZ.out.1.v (by have:=HZ.out.1.k;omega)).mono ?_
        rintro e Q1 ⟨rfl,s_,v_⟩
        refine ⟨_,rfl,?_⟩
        replace HZ:Hid ((Jp w Q1 c gp gv gy most m os1 false os1 false vM none (32 * k+16))∧Row Q1 q31 52 (yA0 R)∧Out 2 gv c Q1 q31):=⟨HZ.out.1.seen s_ v_,s_.row HZ.out.2.2 HZ.out.2.1,(s_.out HZ.out.2.2).1⟩
        replace HS_:Row Q1 gy 37 (rvC 2 most (wide os1) vM false)∧Row Q1 q31 52 (yA0 R):=⟨HZ.out.1.y,HZ.out.2.1⟩
        clear s_ v_
        refine ⟨HS_,?_⟩
        simp only [Act.put,aS,aC,aZ]
        refine oneH (i:=6) (by kernel_rfl) ?_
        refine yE0 (some 287) rfl rfl (by kernel_rfl) 24 _ (yC0 eN24 [.tmp 286] _ rfl [(ptr gy)] rfl) ?_
        refine (rroom_any gy 2 most (wide os1) vM false Q1 HZ.out.1.y HZ.out.1.few.2.1 HZ.out.1.few.2.2.1).mono ?_
        rintro e Q2 ⟨rfl,n9_,hn9_⟩
        refine ⟨_,rfl,?_⟩
        have hb_:Below Q1.heap.size Q1 Q2:=(by rw [hn9_];exact Below.drewN (Below.refl _ _) n9_)
        replace HZ:Hid ((Jp w Q2 c gp gv gy most m os1 false os1 false vM none (32 * k+16))∧Row Q2 q31 52 (yA0 R)∧Out 2 gv c Q2 q31):=⟨HZ.out.1.bel hb_,HZ.out.2.1.later hb_ HZ.out.2.1.lt,((Sq.bel c hb_).out HZ.out.2.2).1⟩
        replace HS_:Row Q2 gy 37 (rvC 2 most (wide os1) vM false)∧Row Q2 q31 52 (yA0 R):=⟨HZ.out.1.y,HZ.out.2.1⟩
        clear hb_ hn9_
        refine ⟨HS_,?_⟩
        simp only [Act.put,aS,aC,aZ]
        refine tH 7 288 rfl rfl (gRun (by kernel_rfl) _ fun _ h=>yC5 (.tmp 285) (.tmp 287) rfl (roomP (most:Nat) (wide os1) false:Nat) (roomT most (wide os1) false:Nat) rfl rfl false (by rw [room_eq];simp)) HS_ ?_
        refine tH 8 289 rfl rfl (gRun rfl _ fun _ h=>yA8 (.tmp 283) (.const (.bool true)) (.tmp 288) rfl false (.bool false) rfl rfl) HS_ ?_
        refine tH 9 290 rfl rfl (gRun rfl _ fun _ h=>yA6 (.tmp 289) rfl (.bool false) rfl) HS_ ?_
        simp only [Act.put,aS,aC,aZ]
        refine tH 10 291 rfl rfl (gRun (by kernel_rfl) _ fun _ h=>yA6 (.tmp 32) rfl (.bool false) rfl) HS_ ?_
        refine tH 11 292 rfl rfl (gRun (by kernel_rfl) _ fun _ h=>yA6 (.tmp 12) rfl (ptr gy) rfl) HS_ ?_
        refine tH 12 293 rfl rfl (gRun (by kernel_rfl) _ fun _ h=>yC1 (.tmp 292) rfl ⟨gy,0,none⟩ rfl) HS_ ?_
        simp only [Act.put,aS,aC,aZ]
        refine tH 13 294 rfl rfl (gRun (by kernel_rfl) _ fun _ h=>yA2 f37_4 (.tmp 293) rfl gy (0) rfl) HS_ ?_
        refine tH 14 295 rfl rfl (gRun (by kernel_rfl) _ fun _ h=>yA4 o4 (.tmp 294) rfl gy (0+4) rfl (.bool false) (h.1.at (0+4) _ rfl)) HS_ ?_
        refine tH 15 296 rfl rfl (gRun (by kernel_rfl) _ fun _ h=>run_neBo (.tmp 291) (.tmp 295) rfl false false rfl rfl false rfl) HS_ ?_
        simp only [Act.put,aS,aC,aZ]
        refine tH 16 297 rfl rfl (gRun rfl _ fun _ h=>yA8 (.tmp 290) (.const (.bool true)) (.tmp 296) rfl false (.bool false) rfl rfl) HS_ ?_
        refine tH 17 298 rfl rfl (gRun rfl _ fun _ h=>yA6 (.tmp 297) rfl (.bool false) rfl) HS_ ?_
        refine tH 18 299 rfl rfl (gRun (by kernel_rfl) _ fun _ h=>yA6 (.tmp 32) rfl (.bool false) rfl) HS_ ?_
        simp only [Act.put,aS,aC,aZ]
        refine tH 19 300 rfl rfl (gRun (by kernel_rfl) _ fun _ h=>yA6 (.tmp 299) rfl (.bool false) rfl) HS_ ?_
        refine tH 20 301 rfl rfl (Or.inr ⟨by kernel_rfl,rfl⟩) HS_ ?_
        refine tH 21 302 rfl rfl (Or.inr ⟨by kernel_rfl,rfl⟩) HS_ ?_
        simp only [Act.put,aS,aC,aZ]
        refine tH 22 303 rfl rfl (Or.inr ⟨by kernel_rfl,rfl⟩) HS_ ?_
        refine tH 23 304 rfl rfl (Or.inr ⟨by kernel_rfl,rfl⟩) HS_ ?_
        refine tH 24 305 rfl rfl (gRun (by kernel_rfl) _ fun _ h=>yA8 (.tmp 300) (.tmp 304) (.const (.bool false)) rfl false (.bool false) rfl rfl) HS_ ?_
        simp only [Act.put,aS,aC,aZ]
        refine tH 25 306 rfl rfl (gRun rfl _ fun _ h=>yA8 (.tmp 298) (.const (.bool true)) (.tmp 305) rfl false (.bool false) rfl rfl) HS_ ?_
        refine tH 26 307 rfl rfl (gRun rfl _ fun _ h=>yA6 (.tmp 306) rfl (.bool false) rfl) HS_ ?_
        refine tH 27 308 rfl rfl (gRun (by kernel_rfl) _ fun _ h=>yA6 (.tmp 32) rfl (.bool false) rfl) HS_ ?_
        simp only [Act.put,aS,aC,aZ]
        refine tH 28 309 rfl rfl (gRun (by kernel_rfl) _ fun _ h=>yG1 (.tmp 308) 4 rfl false rfl) HS_ ?_
        refine tH 29 310 rfl rfl (gRun (by kernel_rfl) _ fun _ h=>yA6 (.tmp 309) rfl (.bool true) rfl) HS_ ?_
        refine tH 30 311 rfl rfl (gRun (by kernel_rfl) _ fun _ h=>yA9 ag52 (.tmp 31) rfl q31 (0) rfl (yA0 R) (by rw [yA1];exact HR.out.1) (yE7 h.2)) HS_ ?_
        simp only [Act.put,aS,aC,aZ]
        refine tH 31 312 rfl rfl (gRun (by kernel_rfl) _ fun _ h=>run_build52z rfl) HS_ ?_
        refine tH 32 313 rfl rfl (gRun (by kernel_rfl) _ fun _ h=>run_neArr 52 32 Tryd.underlying52 (by kernel_rfl) (.tmp 311) (.tmp 312) rfl R (Zs 32) HR.out.1 (yH4 32) rfl rfl false (by rw [HRR.out];simp)) HS_ ?_
        refine tH 33 314 rfl rfl (gRun (by kernel_rfl) _ fun _ h=>yA8 (.tmp 310) (.tmp 313) (.const (.bool false)) rfl true (.bool false) rfl rfl) HS_ ?_
        simp only [Act.put,aS,aC,aZ]
        refine tH 34 315 rfl rfl (gRun rfl _ fun _ h=>yA8 (.tmp 307) (.const (.bool true)) (.tmp 314) rfl false (.bool false) rfl rfl) HS_ ?_
        simp only [Act.put,aS,aC,aZ]
        refine wpAnyH_done (by kernel_rfl) ?_ _
        have HE9:Hid (Jp w Q2 c gp gv gy most m os1 false os1 false vM none (32 * (k+1))):=HZ.out.1.le (by omega)
        clear HZ HS_
        go_upto_region 14 with fail
        refine wp_region_lit ?_
        refine wm 13 (.int .i64 (k:Nat)) ?_
        refine wl rfl (.int .i64 ((k+1:Nat):Int)) _ (yD6 (.tmp 89) (.const (.int .i64 1)) rfl (k:Nat) 1 _ rfl rfl (by omega) (by omega) (by omega)) ?_
        refine wa (.tmp 90) (.int .i64 ((k+1:Nat):Int)) ?_
        simp only [Act.put,aS,aC,aZ]
        refine wpList_nil ?_
        go_wp2_with fail
        exact ⟨⟨k+1,rfl,by omega,by omega,_,_,_,_,_,_,rfl,HE9⟩,by simp [intOf];omega⟩
      | true =>
       as_aux_lemma =>
        have HRR:Hid (R=rootO os1):=HR.out.2
        go_upto_region 59 with fail
        refine wp_region_held (S:=fun X=>Row X gy 37 (rvC 2 most (wide os1) vM true)∧Row X q31 52 (yA0 R)) (by kernel_rfl) ?_
        show wpAnyH _ _ _ _ _ 35 (Array.replicate 35 false) _ _
        obtain ⟨Q,hX⟩:∃Q:World,Q = { X3 with drawn:=X3.drawn+1 }:=⟨_,rfl⟩
        rw [←hX]
        have HZ:Hid ((Jp w Q c gp gv gy most m os1 true os1 true vM none (32 * k+16))∧Row Q q31 52 (yA0 R)∧Out 2 gv c Q q31):=(by rw [hX];exact ⟨HX3.out.1.bel ⟨rfl,rfl,rfl,Nat.le_refl _,fun _ _=>rfl⟩,HX3.out.2.1.later ⟨rfl,rfl,rfl,Nat.le_refl _,fun _ _=>rfl⟩ HX3.out.2.1.lt,⟨HX3.out.2.2.1,HX3.out.2.2.2⟩⟩)
        have HS_:Row Q gy 37 (rvC 2 most (wide os1) vM true)∧Row Q q31 52 (yA0 R):=⟨HZ.out.1.y,HZ.out.2.1⟩
        clear hX
        refine tH 0 281 rfl rfl (gRun rfl _ fun _ h=>yA6 (.tmp 33) rfl (.bool true) rfl) HS_ ?_
        refine tH 1 282 rfl rfl (gRun rfl _ fun _ h=>yG1 (.tmp 281) 4 rfl true rfl) HS_ ?_
        refine tH 2 283 rfl rfl (gRun rfl _ fun _ h=>yA6 (.tmp 282) rfl (.bool false) rfl) HS_ ?_
        simp only [Act.put,aS,aC,aZ]
        refine tH 3 284 rfl rfl (gRun (by kernel_rfl) _ fun _ h=>yA6 (.tmp 10) rfl (ptr gv) rfl) HS_ ?_
        refine tH 5 286 rfl rfl (gRun (by kernel_rfl) _ fun _ h=>yA6 (.tmp 12) rfl (ptr gy) rfl) HS_ ?_
        simp only [Act.put,aS,aC,aZ]
        refine oneH (i:=4) (by kernel_rfl) ?_
        refine yE0 (some 285) rfl rfl (by kernel_rfl) 23 _ (yC0 eN23 [.tmp 284] _ rfl [(ptr gv)] rfl) ?_
        refine (vroom_s HZ.out.1.v (by have:=HZ.out.1.k;omega)).mono ?_
        rintro e Q1 ⟨rfl,s_,v_⟩
        refine ⟨_,rfl,?_⟩
        replace HZ:Hid ((Jp w Q1 c gp gv gy most m os1 true os1 true vM none (32 * k+16))∧Row Q1 q31 52 (yA0 R)∧Out 2 gv c Q1 q31):=⟨HZ.out.1.seen s_ v_,s_.row HZ.out.2.2 HZ.out.2.1,(s_.out HZ.out.2.2).1⟩
        replace HS_:Row Q1 gy 37 (rvC 2 most (wide os1) vM true)∧Row Q1 q31 52 (yA0 R):=⟨HZ.out.1.y,HZ.out.2.1⟩
        clear s_ v_
        refine ⟨HS_,?_⟩
        simp only [Act.put,aS,aC,aZ]
        refine oneH (i:=6) (by kernel_rfl) ?_
        refine yE0 (some 287) rfl rfl (by kernel_rfl) 24 _ (yC0 eN24 [.tmp 286] _ rfl [(ptr gy)] rfl) ?_
        refine (rroom_any gy 2 most (wide os1) vM true Q1 HZ.out.1.y HZ.out.1.few.2.1 HZ.out.1.few.2.2.1).mono ?_
        rintro e Q2 ⟨rfl,n9_,hn9_⟩
        refine ⟨_,rfl,?_⟩
        have hb_:Below Q1.heap.size Q1 Q2:=(by rw [hn9_];exact Below.drewN (Below.refl _ _) n9_)
        replace HZ:Hid ((Jp w Q2 c gp gv gy most m os1 true os1 true vM none (32 * k+16))∧Row Q2 q31 52 (yA0 R)∧Out 2 gv c Q2 q31):=⟨HZ.out.1.bel hb_,HZ.out.2.1.later hb_ HZ.out.2.1.lt,((Sq.bel c hb_).out HZ.out.2.2).1⟩
        replace HS_:Row Q2 gy 37 (rvC 2 most (wide os1) vM true)∧Row Q2 q31 52 (yA0 R):=⟨HZ.out.1.y,HZ.out.2.1⟩
        clear hb_ hn9_
        refine ⟨HS_,?_⟩
        simp only [Act.put,aS,aC,aZ]
        refine tH 7 288 rfl rfl (gRun (by kernel_rfl) _ fun _ h=>yC5 (.tmp 285) (.tmp 287) rfl (roomP (most:Nat) (wide os1) true:Nat) (roomT most (wide os1) true:Nat) rfl rfl false (by rw [room_eq];simp)) HS_ ?_
        refine tH 8 289 rfl rfl (gRun rfl _ fun _ h=>yA8 (.tmp 283) (.const (.bool true)) (.tmp 288) rfl false (.bool false) rfl rfl) HS_ ?_
        refine tH 9 290 rfl rfl (gRun rfl _ fun _ h=>yA6 (.tmp 289) rfl (.bool false) rfl) HS_ ?_
        simp only [Act.put,aS,aC,aZ]
        refine tH 10 291 rfl rfl (gRun (by kernel_rfl) _ fun _ h=>yA6 (.tmp 32) rfl (.bool true) rfl) HS_ ?_
        refine tH 11 292 rfl rfl (gRun (by kernel_rfl) _ fun _ h=>yA6 (.tmp 12) rfl (ptr gy) rfl) HS_ ?_
        refine tH 12 293 rfl rfl (gRun (by kernel_rfl) _ fun _ h=>yC1 (.tmp 292) rfl ⟨gy,0,none⟩ rfl) HS_ ?_
        simp only [Act.put,aS,aC,aZ]
        refine tH 13 294 rfl rfl (gRun (by kernel_rfl) _ fun _ h=>yA2 f37_4 (.tmp 293) rfl gy (0) rfl) HS_ ?_
        refine tH 14 295 rfl rfl (gRun (by kernel_rfl) _ fun _ h=>yA4 o4 (.tmp 294) rfl gy (0+4) rfl (.bool true) (h.1.at (0+4) _ rfl)) HS_ ?_
        refine tH 15 296 rfl rfl (gRun (by kernel_rfl) _ fun _ h=>run_neBo (.tmp 291) (.tmp 295) rfl true true rfl rfl false rfl) HS_ ?_
        simp only [Act.put,aS,aC,aZ]
        refine tH 16 297 rfl rfl (gRun rfl _ fun _ h=>yA8 (.tmp 290) (.const (.bool true)) (.tmp 296) rfl false (.bool false) rfl rfl) HS_ ?_
        refine tH 17 298 rfl rfl (gRun rfl _ fun _ h=>yA6 (.tmp 297) rfl (.bool false) rfl) HS_ ?_
        refine tH 18 299 rfl rfl (gRun (by kernel_rfl) _ fun _ h=>yA6 (.tmp 32) rfl (.bool true) rfl) HS_ ?_
        simp only [Act.put,aS,aC,aZ]
        refine tH 19 300 rfl rfl (gRun (by kernel_rfl) _ fun _ h=>yA6 (.tmp 299) rfl (.bool true) rfl) HS_ ?_
        refine tH 20 301 rfl rfl (gRun (by kernel_rfl) _ fun _ h=>yA9 ag52 (.tmp 31) rfl q31 (0) rfl (yA0 R) (by rw [yA1];exact HR.out.1) (yE7 h.2)) HS_ ?_
        refine tH 21 302 rfl rfl (gRun (by kernel_rfl) _ fun _ h=>yA6 (.tmp 12) rfl (ptr gy) rfl) HS_ ?_
        simp only [Act.put,aS,aC,aZ]
        refine oneH (i:=22) (by kernel_rfl) ?_
        refine yE0 (some 303) rfl rfl (by kernel_rfl) 25 _ (yC0 eN25 [.tmp 302] _ rfl [(ptr gy)] rfl) ?_
        refine (doc_root HZ.out.1).mono ?_
        rintro e Q3 ⟨rfl,hb_⟩
        refine ⟨_,rfl,?_⟩
        replace HZ:Hid ((Jp w Q3 c gp gv gy most m os1 true os1 true vM none (32 * k+16))∧Row Q3 q31 52 (yA0 R)∧Out 2 gv c Q3 q31):=⟨HZ.out.1.bel hb_,HZ.out.2.1.later hb_ HZ.out.2.1.lt,((Sq.bel c hb_).out HZ.out.2.2).1⟩
        replace HS_:Row Q3 gy 37 (rvC 2 most (wide os1) vM true)∧Row Q3 q31 52 (yA0 R):=⟨HZ.out.1.y,HZ.out.2.1⟩
        clear hb_
        refine ⟨HS_,?_⟩
        simp only [Act.put,aS,aC,aZ]
        refine tH 23 304 rfl rfl (gRun (by kernel_rfl) _ fun _ h=>run_neArr 52 32 Tryd.underlying52 (by kernel_rfl) (.tmp 301) (.tmp 303) rfl R (rootO os1) HR.out.1 (yK0 os1).1 rfl rfl false (by rw [HRR.out];simp)) HS_ ?_
        refine tH 24 305 rfl rfl (gRun (by kernel_rfl) _ fun _ h=>yA8 (.tmp 300) (.tmp 304) (.const (.bool false)) rfl true (.bool false) rfl rfl) HS_ ?_
        refine tH 25 306 rfl rfl (gRun rfl _ fun _ h=>yA8 (.tmp 298) (.const (.bool true)) (.tmp 305) rfl false (.bool false) rfl rfl) HS_ ?_
        simp only [Act.put,aS,aC,aZ]
        refine tH 26 307 rfl rfl (gRun rfl _ fun _ h=>yA6 (.tmp 306) rfl (.bool false) rfl) HS_ ?_
        refine tH 27 308 rfl rfl (gRun (by kernel_rfl) _ fun _ h=>yA6 (.tmp 32) rfl (.bool true) rfl) HS_ ?_
        refine tH 28 309 rfl rfl (gRun (by kernel_rfl) _ fun _ h=>yG1 (.tmp 308) 4 rfl true rfl) HS_ ?_
        simp only [Act.put,aS,aC,aZ]
        refine tH 29 310 rfl rfl (gRun (by kernel_rfl) _ fun _ h=>yA6 (.tmp 309) rfl (.bool false) rfl) HS_ ?_
        refine tH 30 311 rfl rfl (Or.inr ⟨by kernel_rfl,rfl⟩) HS_ ?_
        refine tH 31 312 rfl rfl (Or.inr ⟨by kernel_rfl,rfl⟩) HS_ ?_
        simp only [Act.put,aS,aC,aZ]
        refine tH 32 313 rfl rfl (Or.inr ⟨by kernel_rfl,rfl⟩) HS_ ?_
        refine tH 33 314 rfl rfl (gRun (by kernel_rfl) _ fun _ h=>yA8 (.tmp 310) (.tmp 313) (.const (.bool false)) rfl false (.bool false) rfl rfl) HS_ ?_
        refine tH 34 315 rfl rfl (gRun rfl _ fun _ h=>yA8 (.tmp 307) (.const (.bool true)) (.tmp 314) rfl false (.bool false) rfl rfl) HS_ ?_
        simp only [Act.put,aS,aC,aZ]
        refine wpAnyH_done (by kernel_rfl) ?_ _
        have HE9:Hid (Jp w Q3 c gp gv gy most m os1 true os1 true vM none (32 * (k+1))):=HZ.out.1.le (by omega)
        clear HZ HS_
        go_upto_region 14 with fail
        refine wp_region_lit ?_
        refine wm 13 (.int .i64 (k:Nat)) ?_
        refine wl rfl (.int .i64 ((k+1:Nat):Int)) _ (yD6 (.tmp 89) (.const (.int .i64 1)) rfl (k:Nat) 1 _ rfl rfl (by omega) (by omega) (by omega)) ?_
        refine wa (.tmp 90) (.int .i64 ((k+1:Nat):Int)) ?_
        simp only [Act.put,aS,aC,aZ]
        refine wpList_nil ?_
        go_wp2_with fail
        exact ⟨⟨k+1,rfl,by omega,by omega,_,_,_,_,_,_,rfl,HE9⟩,by simp [intOf];omega⟩
  ·as_aux_lemma =>
    go_upto_region 13 with fail
    go_cut [88] from 81 to 88 (fun v88 W=>v88 = .bool false∧W0=W)
    case first =>
     by_cases h2:k<us.length
     ·go_upto_region 13 with fail
      refine wp_region_lit ?_
      refine wm 13 (.int .i64 (k:Nat)) ?_
      refine wm 1 vl ?_
      refine wl rfl _ _ (run_lenOp HM.out.2.2.1 (.tmp 82) rfl rfl) ?_
      simp only [Act.put,aS,aC,aZ]
      refine wl rfl _ _ (yB5 (.tmp 81) (.tmp 83) rfl (k:Nat) (us.length:Nat) rfl rfl true (decide_eq_true (by omega))) ?_
      refine wm 84 (.bool true) ?_
      refine wl (by kernel_rfl) _ _ (yA6 (.tmp 13) rfl (.int .i64 (k:Nat)) rfl) ?_
      simp only [Act.put,aS,aC,aZ]
      refine wl (by kernel_rfl) _ _ (yB5 (.tmp 86) (.const (.int .i64 60)) rfl (k:Nat) 60 rfl rfl false (decide_eq_false (by omega))) ?_
      refine wl rfl _ _ (yA8 (.tmp 85) (.tmp 87) (.const (.bool false)) rfl true (.bool false) rfl rfl) ?_
      simp only [Act.put,aS,aC,aZ]
      refine wpList_nil ?_
      go_wp2_with fail
      go_meet
      case rel=>exact ⟨rfl,rfl⟩
     ·go_upto_region 13 with fail
      refine wp_region_lit ?_
      refine wm 13 (.int .i64 (k:Nat)) ?_
      refine wm 1 vl ?_
      refine wl rfl _ _ (run_lenOp HM.out.2.2.1 (.tmp 82) rfl rfl) ?_
      simp only [Act.put,aS,aC,aZ]
      refine wl rfl _ _ (yB5 (.tmp 81) (.tmp 83) rfl (k:Nat) (us.length:Nat) rfl rfl false (decide_eq_false (by omega))) ?_
      refine wm 84 (.bool false) ?_
      simp only [Act.put,aS,aC,aZ]
      with_reducible refine wpList_skip (by kernel_rfl) ?_
      simp only [Act.put,aS,aC,aZ]
      with_reducible refine wpList_skip (by kernel_rfl) ?_
      simp only [Act.put,aS,aC,aZ]
      refine wl rfl _ _ (yA8 (.tmp 85) (.tmp 87) (.const (.bool false)) rfl false (.bool false) rfl rfl) ?_
      simp only [Act.put,aS,aC,aZ]
      refine wpList_nil ?_
      go_wp2_with fail
      go_meet
      case rel=>exact ⟨rfl,rfl⟩
    case rest =>
     as_aux_lemma =>
      obtain ⟨rfl,rfl⟩:=hcut
      go_upto_region 61 with fail
      refine wp_region_lit ?_
      refine wa (.const (.int .i64 0)) (.int .i64 0) ?_
      simp only [Act.put,aS,aC,aZ]
      refine wpList_nil ?_
      go_wp2_with fail
      go_loopw [34,35,36,37] (fun vk _ _ _ W => ∃i:Nat,vk = .int .i64 (i:Nat)∧i≤os.length∧Hid (Jp w W c0 gp gv0 gy most m0 os sd os sd vL none (32 * k))) (fun vk _ _ _ _=>os.length - (intOf vk).toNat)
      case atStart=>exact ⟨0,rfl,Nat.zero_le _,HJ0⟩
      case round =>
       obtain ⟨i,rfl,hi,HI⟩:=hrel
       obtain ⟨E0,hE0⟩:∃X,X=wr:=⟨_,rfl⟩
       subst hE0
       have HE:Hid (Jp w E0 c0 gp gv0 gy most m0 os sd os sd vL none (32 * k)):=HI.out
       clear HI HJ0
       have hfew:=HE.out.few
       by_cases hil:i<os.length
       ·as_aux_lemma =>
         go_upto_region 62 with fail
         refine wp_region_lit ?_
         refine wm 34 (.int .i64 (i:Nat)) ?_
         refine wm 12 (ptr gy) ?_
         refine wl rfl _ _ (yC1 (.tmp 317) rfl ⟨gy,0,none⟩ rfl) ?_
         simp only [Act.put,aS,aC,aZ]
         refine wl rfl _ _ (yA2 f37_3 (.tmp 318) rfl gy (0) rfl) ?_
         refine wl rfl _ _ (yA4 o35 (.tmp 319) rfl gy (0+3) rfl vL (HE.out.y.at (0+3) _ rfl)) ?_
         refine wl rfl _ _ (run_lenJ HE.out (.tmp 320) rfl rfl) ?_
         simp only [Act.put,aS,aC,aZ]
         refine wl rfl _ _ (yB5 (.tmp 316) (.tmp 321) rfl (i:Nat) (os.length:Nat) rfl rfl true (decide_eq_true (by omega))) ?_
         simp only [Act.put,aS,aC,aZ]
         refine wpList_nil ?_
         obtain ⟨vb,g2,hx_,hc_,hsl_⟩:=HE.out.el i hil
         have HX:Hid ((∀w',(Instr.indexAt 35 vL (.int .i64 (i:Nat))).run Tryd.prog w' = .ok (.pointer (some ⟨g2,i * 7,none⟩)) w')∧(∀W':World,Below E0.heap.size E0 W'→∀j u,(tdC (tdAt 2 os i) vb)[j]? = some u→W'.cell? ⟨g2,i * 7+j,none⟩=some u)∧yA3 E0 vb (os.getD i ([],[])).2):=⟨hx_,hc_,hsl_⟩
         clear hx_ hc_ hsl_
         go_upto_region 64 with fail
         refine wp_region_lit ?_
         refine wm 10 (ptr gv0) ?_
         refine wm 12 (ptr gy) ?_
         refine wl rfl _ _ (yC1 (.tmp 327) rfl ⟨gy,0,none⟩ rfl) ?_
         simp only [Act.put,aS,aC,aZ]
         refine wl rfl _ _ (yA2 f37_3 (.tmp 328) rfl gy (0) rfl) ?_
         refine wl rfl _ _ (yA4 o35 (.tmp 329) rfl gy (0+3) rfl vL (HE.out.y.at (0+3) _ rfl)) ?_
         refine wm 34 (.int .i64 (i:Nat)) ?_
         simp only [Act.put,aS,aC,aZ]
         refine wl rfl _ _ (yE9 (.tmp 330) (.tmp 331) rfl _ _ _ rfl rfl HX.out.1) ?_
         refine wl rfl _ _ (yA2 f48_2 (.tmp 332) rfl g2 (i * 7) rfl) ?_
         refine wl rfl _ _ (yA9 ag40 (.tmp 333) rfl g2 (i * 7+2) rfl ((plC ((2:Nat):Int) ((offO os i:Nat):Int) ((nb (os.getD i ([],[])).2.length:Nat):Int) false)) rfl (fun j u hu=>by rw [Nat.add_assoc];exact HX.out.2.1 _ (Below.refl _ _) (2+j) u (tdC_pl (tdAt 2 os i) vb j u hu))) ?_
         simp only [Act.put,aS,aC,aZ]
         have hw1_:=offO_le os i
         have hw2_:=getD_all hfew.2.2.2.2 i hil
         have hw3_:=nb_le hw2_.2.1
         have hok_:(⟨((2:Nat):Int),((offO os i:Nat):Int),((nb (os.getD i ([],[])).2.length:Nat):Int),false⟩:Pq).ok:=⟨(by unfold I64;decide:I64 ((2:Nat):Int)),by unfold I64;show -9223372036854775808≤((offO os i:Nat):Int)∧((offO os i:Nat):Int)≤9223372036854775807;omega,by unfold I64;show -9223372036854775808≤((nb (os.getD i ([],[])).2.length:Nat):Int)∧((nb (os.getD i ([],[])).2.length:Nat):Int)≤9223372036854775807;omega⟩
         refine yA5 eN17 [.tmp 326,.tmp 334] _ rfl rfl [(ptr gv0),(.agg (⟨((2:Nat):Int),((offO os i:Nat):Int),((nb (os.getD i ([],[])).2.length:Nat):Int),false⟩:Pq).cells.toArray)] rfl ?_
         refine (vol_read HE.out (by omega) (⟨((2:Nat):Int),((offO os i:Nat):Int),((nb (os.getD i ([],[])).2.length:Nat):Int),false⟩:Pq) hok_).mono ?_
         rintro e E1 ⟨id1,bs1,vb1,er1,rfl,hr1_,hs1_,hb_⟩
         obtain ⟨rfl,rfl,rfl⟩:=hr1_.one (Or.inl ⟨i,hil,rfl,rfl,rfl,rfl,rfl,rfl⟩)
         refine ⟨_,rfl,?_⟩
         have HE1:Hid ((Jp w E1 c0 gp gv0 gy most m0 os sd os sd vL none (32 * k))∧yA3 E1 vb1 (os.getD i ([],[])).2∧Below E0.heap.size E0 E1):=⟨HE.out.bel hb_,hs1_,hb_⟩
         clear hw1_ hw2_ hw3_ hok_ hr1_ hs1_ hb_
         simp only [Act.put,aS,aC,aZ]
         refine wm 335 (.tuple #[(str (os.getD i ([],[])).1),vb1,(.int .i64 0)]) ?_
         refine wl rfl _ _ (yA7 (.tmp 325) 0 rfl #[(str (os.getD i ([],[])).1),vb1,(.int .i64 0)] rfl (str (os.getD i ([],[])).1) rfl) ?_
         refine wl rfl _ _ (yA7 (.tmp 325) 1 rfl #[(str (os.getD i ([],[])).1),vb1,(.int .i64 0)] rfl vb1 rfl) ?_
         simp only [Act.put,aS,aC,aZ]
         refine wl rfl _ _ (yA7 (.tmp 325) 2 rfl #[(str (os.getD i ([],[])).1),vb1,(.int .i64 0)] rfl (.int .i64 0) rfl) ?_
         refine wa (.tmp 336) (str (os.getD i ([],[])).1) ?_
         refine wa (.tmp 337) vb1 ?_
         simp only [Act.put,aS,aC,aZ]
         refine wa (.tmp 338) (.int .i64 0) ?_
         simp only [Act.put,aS,aC,aZ]
         refine wpList_nil ?_
         go_upto_region 65 with fail
         refine wp_region_held (S:=fun X=>Row X gy 37 (rvC 2 most (wide os) vL sd)∧Below E0.heap.size E0 X∧yA3 X vb1 (os.getD i ([],[])).2) (by kernel_rfl) ?_
         show wpAnyH _ _ _ _ _ 28 (Array.replicate 28 false) _ _
         obtain ⟨X,hX⟩:∃X:World,X = { E1 with drawn:=E1.drawn+1 }:=⟨_,rfl⟩
         rw [←hX]
         have HJX:Hid (Jp w X c0 gp gv0 gy most m0 os sd os sd vL none (32 * k)):=(by rw [hX];exact HE1.out.1.bel ⟨rfl,rfl,rfl,Nat.le_refl _,fun _ _=>rfl⟩)
         have HS_:Row X gy 37 (rvC 2 most (wide os) vL sd)∧Below E0.heap.size E0 X∧yA3 X vb1 (os.getD i ([],[])).2:=(by rw [hX];exact ⟨HE1.out.1.y.later ⟨rfl,rfl,rfl,Nat.le_refl _,fun _ _=>rfl⟩ HE1.out.1.y.lt,HE1.out.2.2.trans ⟨rfl,rfl,rfl,Nat.le_refl _,fun _ _=>rfl⟩,HE1.out.2.1.later ⟨rfl,rfl,rfl,Nat.le_refl _,fun _ _=>rfl⟩⟩)
         clear hX
         refine tH 0 339 rfl rfl (gRun rfl _ fun _ h=>yA6 (.tmp 37) rfl (.int .i64 0) rfl) HS_ ?_
         refine tH 1 340 rfl rfl (gRun rfl _ fun _ h=>yC5 (.tmp 339) (.const (.int .i64 0)) rfl 0 0 rfl rfl false rfl) HS_ ?_
         refine tH 2 341 rfl rfl (gRun rfl _ fun _ h=>yA6 (.tmp 340) rfl (.bool false) rfl) HS_ ?_
         simp only [Act.put,aS,aC,aZ]
         refine tH 3 342 rfl rfl (gRun (by kernel_rfl) _ fun _ h=>yA6 (.tmp 35) rfl (str (os.getD i ([],[])).1) rfl) HS_ ?_
         refine tH 4 343 rfl rfl (gRun (by kernel_rfl) _ fun _ h=>yA6 (.tmp 12) rfl (ptr gy) rfl) HS_ ?_
         refine tH 5 344 rfl rfl (gRun (by kernel_rfl) _ fun _ h=>yC1 (.tmp 343) rfl ⟨gy,0,none⟩ rfl) HS_ ?_
         simp only [Act.put,aS,aC,aZ]
         refine tH 6 345 rfl rfl (gRun (by kernel_rfl) _ fun _ h=>yA2 f37_3 (.tmp 344) rfl gy (0) rfl) HS_ ?_
         refine tH 7 346 rfl rfl (gRun (by kernel_rfl) _ fun _ h=>yA4 o35 (.tmp 345) rfl gy (0+3) rfl vL (h.1.at (0+3) _ rfl)) HS_ ?_
         refine tH 8 347 rfl rfl (gRun (by kernel_rfl) _ fun _ h=>yA6 (.tmp 34) rfl (.int .i64 (i:Nat)) rfl) HS_ ?_
         simp only [Act.put,aS,aC,aZ]
         refine tH 9 348 rfl rfl (gRun (by kernel_rfl) _ fun _ h=>yE9 (.tmp 346) (.tmp 347) rfl _ _ _ rfl rfl HX.out.1) HS_ ?_
         refine tH 10 349 rfl rfl (gRun (by kernel_rfl) _ fun _ h=>yA2 f48_0 (.tmp 348) rfl g2 (i * 7) rfl) HS_ ?_
         refine tH 11 350 rfl rfl (gRun (by kernel_rfl) _ fun _ h=>yA4 o9 (.tmp 349) rfl g2 (i * 7+0) rfl (str (os.getD i ([],[])).1) (HX.out.2.1 _ h.2.1 0 _ rfl)) HS_ ?_
         simp only [Act.put,aS,aC,aZ]
         refine tH 12 351 rfl rfl (gRun (by kernel_rfl) _ fun _ h=>run_neS (.tmp 342) (.tmp 350) rfl _ rfl rfl) HS_ ?_
         refine tH 13 352 rfl rfl (gRun rfl _ fun _ h=>yA8 (.tmp 341) (.const (.bool true)) (.tmp 351) rfl false (.bool false) rfl rfl) HS_ ?_
         refine tH 14 353 rfl rfl (gRun rfl _ fun _ h=>yA6 (.tmp 352) rfl (.bool false) rfl) HS_ ?_
         simp only [Act.put,aS,aC,aZ]
         refine tH 15 354 rfl rfl (gRun (by kernel_rfl) _ fun _ h=>yA6 (.tmp 36) rfl vb1 rfl) HS_ ?_
         refine tH 16 355 rfl rfl (gRun (by kernel_rfl) _ fun _ h=>yJ2 (.tmp 354) rfl vb1 _ rfl h.2.2) HS_ ?_
         refine tH 17 356 rfl rfl (gRun (by kernel_rfl) _ fun _ h=>yA6 (.tmp 12) rfl (ptr gy) rfl) HS_ ?_
         simp only [Act.put,aS,aC,aZ]
         refine tH 18 357 rfl rfl (gRun (by kernel_rfl) _ fun _ h=>yC1 (.tmp 356) rfl ⟨gy,0,none⟩ rfl) HS_ ?_
         refine tH 19 358 rfl rfl (gRun (by kernel_rfl) _ fun _ h=>yA2 f37_3 (.tmp 357) rfl gy (0) rfl) HS_ ?_
         refine tH 20 359 rfl rfl (gRun (by kernel_rfl) _ fun _ h=>yA4 o35 (.tmp 358) rfl gy (0+3) rfl vL (h.1.at (0+3) _ rfl)) HS_ ?_
         simp only [Act.put,aS,aC,aZ]
         refine tH 21 360 rfl rfl (gRun (by kernel_rfl) _ fun _ h=>yA6 (.tmp 34) rfl (.int .i64 (i:Nat)) rfl) HS_ ?_
         refine tH 22 361 rfl rfl (gRun (by kernel_rfl) _ fun _ h=>yE9 (.tmp 359) (.tmp 360) rfl _ _ _ rfl rfl HX.out.1) HS_ ?_
         refine tH 23 362 rfl rfl (gRun (by kernel_rfl) _ fun _ h=>yA2 f48_1 (.tmp 361) rfl g2 (i * 7) rfl) HS_ ?_
         simp only [Act.put,aS,aC,aZ]
         refine tH 24 363 rfl rfl (gRun (by kernel_rfl) _ fun _ h=>yA4 o38 (.tmp 362) rfl g2 (i * 7+1) rfl vb (HX.out.2.1 _ h.2.1 1 _ rfl)) HS_ ?_
         refine tH 25 364 rfl rfl (gRun (by kernel_rfl) _ fun _ h=>yJ2 (.tmp 363) rfl vb _ rfl (HX.out.2.2.later h.2.1)) HS_ ?_
         refine tH 26 365 rfl rfl (gRun (by kernel_rfl) _ fun _ h=>run_neS (.tmp 355) (.tmp 364) rfl _ rfl rfl) HS_ ?_
         simp only [Act.put,aS,aC,aZ]
         refine tH 27 366 rfl rfl (gRun rfl _ fun _ h=>yA8 (.tmp 353) (.const (.bool true)) (.tmp 365) rfl false (.bool false) rfl rfl) HS_ ?_
         simp only [Act.put,aS,aC,aZ]
         refine wpAnyH_done (by kernel_rfl) ?_ _
         go_upto_region 63 with fail
         refine wp_region_lit ?_
         refine wm 34 (.int .i64 (i:Nat)) ?_
         refine wl rfl (.int .i64 ((i+1:Nat):Int)) _ (yD6 (.tmp 323) (.const (.int .i64 1)) rfl (i:Nat) 1 _ rfl rfl (by omega) (by omega) (by omega)) ?_
         refine wa (.tmp 324) (.int .i64 ((i+1:Nat):Int)) ?_
         simp only [Act.put,aS,aC,aZ]
         refine wpList_nil ?_
         go_wp2_with fail
         exact ⟨⟨i+1,rfl,by omega,HJX⟩,by simp [intOf];omega⟩
       ·go_upto_region 62 with fail
        refine wp_region_lit ?_
        refine wm 34 (.int .i64 (i:Nat)) ?_
        refine wm 12 (ptr gy) ?_
        refine wl rfl _ _ (yC1 (.tmp 317) rfl ⟨gy,0,none⟩ rfl) ?_
        simp only [Act.put,aS,aC,aZ]
        refine wl rfl _ _ (yA2 f37_3 (.tmp 318) rfl gy (0) rfl) ?_
        refine wl rfl _ _ (yA4 o35 (.tmp 319) rfl gy (0+3) rfl vL (HE.out.y.at (0+3) _ rfl)) ?_
        refine wl rfl _ _ (run_lenJ HE.out (.tmp 320) rfl rfl) ?_
        simp only [Act.put,aS,aC,aZ]
        refine wl rfl _ _ (yB5 (.tmp 316) (.tmp 321) rfl (i:Nat) (os.length:Nat) rfl rfl false (decide_eq_false (by omega))) ?_
        simp only [Act.put,aS,aC,aZ]
        refine wpList_nil ?_
        go_upto_region 67 with fail
        refine wp_region_lit ?_
        refine wa (.const (.bool true)) (.bool true) ?_
        simp only [Act.put,aS,aC,aZ]
        refine wpList_nil ?_
        go_wp2_with fail
        rw [HPQ.out]
        exact ⟨rfl,HE.out.f.bel⟩
end Go.Proofs.YtpkkkkomdblpoaaDoor

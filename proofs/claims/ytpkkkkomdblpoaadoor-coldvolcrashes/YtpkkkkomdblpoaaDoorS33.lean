/- Layer 15: the document's examples. -/
import Derived.Test.YtpkkkkomdblpoaaDoorS32
namespace Go.Proofs.YtpkkkkomdblpoaaDoor
open Go.RowKit Go.Maps
open Cold
theorem zr_slB {w:World} {g:Nat} (h:Row w g 5 (yA0 ((zr 64).set 5 7))):yA2 w (whole g 64) ((zr 64).set 5 7) :=
 whole_slice h (by decide) (by decide)
set_option maxHeartbeats 4000000 in
set_option maxRecDepth 100000 in
theorem shown_any (w:World) (he:Env w) (h3:3≤w.heap.size):Calls Tryd.prog 8 #[] w fun e w'=>e = .returned (.bool true)∧Below w.heap.size w w':=by
 have HM:Hid (Env w∧3≤w.heap.size):=⟨he,h3⟩
 clear he h3
 obtain ⟨bf,hbf⟩:∃b,b=false:=⟨_,rfl⟩
 obtain ⟨bt,hbt⟩:∃b,b=true:=⟨_,rfl⟩
 have HBF:Hid (bf=false):=hbf
 have HBT:Hid (bt=true):=hbt
 clear hbf hbt
 obtain ⟨PQ,HPQ⟩:=exPQ fun (e:Ending) (w':World)=>e = .returned (.bool true)∧Below w.heap.size w w'
 rw [←HPQ.out]
 go_enter Tryd.func8,Tryd.ntmps8
 go_upto_region 0 with fail
 refine wp_region_lit ?_
 refine wa (.const (.bool false)) (.bool false) ?_
 simp only [Act.put,aS,aZ]
 refine wpList_nil ?_
 go_upto_region 1 with fail
 refine wp_region_lit ?_
 refine wl rfl _ _ (run_ints1 (.const (.int .i64 16)) rfl 16 rfl) ?_
 have hb_:=yB2 w (.cells ([(16:Int)].map (Value.int .i64)).toArray 3)
 have r_:=Row.new w 3 ([(16:Int)].map (Value.int .i64))
 obtain ⟨w1,hW_⟩:∃U_:World,U_=w.alloc (.cells ([(16:Int)].map (Value.int .i64)).toArray 3):=⟨_,rfl⟩
 obtain ⟨ql,hq_⟩:∃q,q=w.heap.size:=⟨_,rfl⟩
 rw [←hW_] at hb_
 rw [←hW_,←hq_] at r_
 rw [←hW_,←hq_]
 have H1:Hid (IntsIn w1 (whole ql 1) [16]∧Below w.heap.size w w1):=⟨ints_row (l:=[16]) r_ (by decide),hb_⟩
 clear r_ hb_ hW_ hq_
 simp only [Act.put,aS,aC,aZ]
 refine wl rfl _ _ (run_build30t (.tmp 24) rfl ql 1 rfl) ?_
 simp only [Act.put,aS,aC,aZ]
 refine yA5 eN9 [.tmp 25] _ rfl rfl [(.agg #[.slice none 0 0,whole ql 1])] rfl ?_
 refine (Live.new w1 (fun _=>(0,0)) 2 _ _ [] [16] (ints_nil w1) H1.out.1 (by decide) rfl).mono ?_
 rintro e w2 ⟨gp,c1,rfl,_,hcc_,_,hl_,hb_⟩
 refine ⟨_,rfl,?_⟩
 have H2:Hid (Live w2 c1 2 gp (newPl [] [16])∧Below w.heap.size w w2∧∀b,b<w.heap.size→(c1 b).1≠2):=⟨hl_,H1.out.2.trans (hb_.mono H1.out.2.size),fun b hb=>by rw [hcc_ b (Nat.lt_of_lt_of_le hb H1.out.2.size)];decide⟩
 clear hl_ hb_ hcc_ H1
 simp only [Act.put,aS,aC,aZ]
 refine wm 26 (.tuple #[(ptr gp),(.int .i64 0)]) ?_
 simp only [Act.put,aS,aC,aZ]
 refine wl rfl _ _ (yA8 (.tmp 23) 0 rfl #[(ptr gp),(.int .i64 0)] rfl (ptr gp) rfl) ?_
 simp only [Act.put,aS,aC,aZ]
 refine wl rfl _ _ (yA8 (.tmp 23) 1 rfl #[(ptr gp),(.int .i64 0)] rfl (.int .i64 0) rfl) ?_
 simp only [Act.put,aS,aC,aZ]
 refine wa (.tmp 27) (ptr gp) ?_
 simp only [Act.put,aS,aC,aZ]
 refine wa (.tmp 28) (.int .i64 0) ?_
 simp only [Act.put,aS,aC,aZ]
 refine wpList_nil ?_
 go_upto_region 2 with fail
 refine wp_region_lit ?_
 refine wm 1 (ptr gp) ?_
 simp only [Act.put,aS,aC,aZ]
 refine wl rfl (.bool false) _ (run_binOp' (.tmp 29) (.const (.pointer none)) rfl _ _ _ rfl rfl rfl (by kernel_rfl)) ?_
 simp only [Act.put,aS,aC,aZ]
 refine wm 30 (.bool false) ?_
 simp only [Act.put,aS,aC,aZ]
 refine wl (by kernel_rfl) _ _ (yA4 (.tmp 2) rfl (.int .i64 0) rfl) ?_
 simp only [Act.put,aS,aC,aZ]
 refine wl (by kernel_rfl) _ _ (yD1 (.tmp 32) (.const (.int .i64 0)) rfl (0) (0) rfl rfl false rfl) ?_
 simp only [Act.put,aS,aC,aZ]
 refine wl rfl _ _ (yA6 (.tmp 31) (.const (.bool true)) (.tmp 33) rfl false (.bool false) rfl rfl) ?_
 simp only [Act.put,aS,aC,aZ]
 refine wpList_nil ?_
 go_upto_region 4 with fail
 refine wp_region_lit ?_
 refine wm 1 (ptr gp) ?_
 simp only [Act.put,aS,aC,aZ]
 have HF0:Far0 w2 c1 2:=⟨Nat.le_trans HM.out.2 H2.out.2.1.size,H2.out.2.2 0 (by have:=HM.out.2;omega),H2.out.2.2 1 (by have:=HM.out.2;omega),H2.out.2.2 2 (by have:=HM.out.2;omega)⟩
 refine yA5 eN10 [.tmp 36,.const (.int .i64 0)] _ rfl rfl [(ptr gp),(.int .i64 0)] rfl ?_
 refine (vopen_s H2.out.1 (ds:=[]) (ts:=[16]) rfl (HM.out.1.later H2.out.2.1) HF0 (by decide) 0 (by decide) (new_onT [] [16] (by decide) rfl 0 (by decide))).mono ?_
 rintro e W10 ⟨gv,rfl,hg_,hb_,hv_⟩
 refine ⟨_,rfl,?_⟩
 have HS:Hid (Wk w W10 c1 2 gp gv 0 ((16:Nat):Int) (newPl [] [16]) [] false [] (0)):=⟨hv_,⟨H2.out.2.1.trans (hb_.mono H2.out.2.1.size),Nat.le_trans H2.out.2.1.size hg_,H2.out.2.2⟩,Mine.nil _ _ _ _ _,Nat.le_refl _⟩
 clear hv_ hb_ hg_ HF0 H2
 simp only [Act.put,aS,aC,aZ]
 refine wm 37 (.tuple #[(ptr gv),(.int .i64 0)]) ?_
 simp only [Act.put,aS,aC,aZ]
 refine wl rfl _ _ (yA8 (.tmp 35) 0 rfl #[(ptr gv),(.int .i64 0)] rfl (ptr gv) rfl) ?_
 simp only [Act.put,aS,aC,aZ]
 refine wl rfl _ _ (yA8 (.tmp 35) 1 rfl #[(ptr gv),(.int .i64 0)] rfl (.int .i64 0) rfl) ?_
 simp only [Act.put,aS,aC,aZ]
 refine wa (.tmp 38) (ptr gv) ?_
 simp only [Act.put,aS,aC,aZ]
 refine wa (.tmp 39) (.int .i64 0) ?_
 simp only [Act.put,aS,aC,aZ]
 refine wpList_nil ?_
 go_upto_region 5 with fail
 refine wp_region_lit ?_
 refine wm 1 (ptr gp) ?_
 simp only [Act.put,aS,aC,aZ]
 refine yA5 eN10 [.tmp 41,.const (.int .i64 1)] _ rfl rfl [(ptr gp),(.int .i64 1)] rfl ?_
 refine (vopen_no HS.out.v.live (ds:=[]) (ts:=[16]) rfl HS.out.v.env HS.out.v.far0 (by decide) 1 (by decide) (by decide)).mono ?_
 rintro e W11 ⟨rfl,hb_⟩
 refine ⟨_,rfl,?_⟩
 replace HS:Hid (Wk w W11 c1 2 gp gv 0 ((16:Nat):Int) (newPl [] [16]) [] false [] (0)):=HS.out.bel hb_
 clear hb_
 simp only [Act.put,aS,aC,aZ]
 refine wm 42 (.tuple #[(.pointer none),(.int .i64 1)]) ?_
 simp only [Act.put,aS,aC,aZ]
 refine wl rfl _ _ (yA8 (.tmp 40) 0 rfl #[(.pointer none),(.int .i64 1)] rfl (.pointer none) rfl) ?_
 simp only [Act.put,aS,aC,aZ]
 refine wl rfl _ _ (yA8 (.tmp 40) 1 rfl #[(.pointer none),(.int .i64 1)] rfl (.int .i64 1) rfl) ?_
 simp only [Act.put,aS,aC,aZ]
 refine wa (.tmp 43) (.pointer none) ?_
 simp only [Act.put,aS,aC,aZ]
 refine wa (.tmp 44) (.int .i64 1) ?_
 simp only [Act.put,aS,aC,aZ]
 refine wpList_nil ?_
 go_upto_region 6 with fail
 refine wp_region_lit ?_
 refine wm 3 (ptr gv) ?_
 simp only [Act.put,aS,aC,aZ]
 refine wl rfl (.bool false) _ (run_binOp' (.tmp 45) (.const (.pointer none)) rfl _ _ _ rfl rfl rfl (by kernel_rfl)) ?_
 simp only [Act.put,aS,aC,aZ]
 refine wm 46 (.bool false) ?_
 simp only [Act.put,aS,aC,aZ]
 refine wl (by kernel_rfl) _ _ (yA4 (.tmp 4) rfl (.int .i64 0) rfl) ?_
 simp only [Act.put,aS,aC,aZ]
 refine wl (by kernel_rfl) (.bool bf) _ ((by rw [HBF.out];exact yD1 (.tmp 48) (.const (.int .i64 0)) rfl 0 0 rfl rfl false (by decide))) ?_
 simp only [Act.put,aS,aC,aZ]
 refine wl rfl _ _ (yA6 (.tmp 47) (.const (.bool true)) (.tmp 49) rfl false (.bool bf) rfl rfl) ?_
 simp only [Act.put,aS,aC,aZ]
 refine wm 50 (.bool bf) ?_
 simp only [Act.put,aS,aC,aZ]
 refine wl (by rw [HBF.out];kernel_rfl) (.int .i64 1) _ (yA4 (.tmp 6) rfl (.int .i64 1) rfl) ?_
 simp only [Act.put,aS,aC,aZ]
 refine wl (by rw [HBF.out];kernel_rfl) (.bool bf) _ ((by rw [HBF.out];exact yD1 (.tmp 52) (.const (.int .i64 1)) rfl 1 1 rfl rfl false (by decide))) ?_
 simp only [Act.put,aS,aC,aZ]
 refine wl rfl _ _ (yA6 (.tmp 51) (.const (.bool true)) (.tmp 53) rfl bf (.bool bf) rfl (by rw [HBF.out];rfl)) ?_
 simp only [Act.put,aS,aC,aZ]
 refine wm 54 (.bool bf) ?_
 simp only [Act.put,aS,aC,aZ]
 refine wl (by rw [HBF.out];kernel_rfl) (ptr gv) _ (yA4 (.tmp 3) rfl (ptr gv) rfl) ?_
 simp only [Act.put,aS,aC,aZ]
 refine yA5 eN23 [.tmp 56] _ (by rw [HBF.out];kernel_rfl) rfl [(ptr gv)] rfl ?_
 refine (vroom_s HS.out.v (by have:=HS.out.k;omega)).mono ?_
 rintro e W12 ⟨rfl,s_,v_⟩
 refine ⟨_,rfl,?_⟩
 replace HS:Hid (Wk w W12 c1 2 gp gv 0 ((16:Nat):Int) (newPl [] [16]) [] false [] (0)):=HS.out.sq s_ v_ HS.out.k
 clear s_ v_
 simp only [Act.put,aS,aC,aZ]
 refine wl (by rw [HBF.out];kernel_rfl) (.bool bf) _ ((by rw [HBF.out];exact yD1 (.tmp 57) (.const (.int .i64 14)) rfl ((14:Nat):Int) 14 rfl rfl false (by decide))) ?_
 simp only [Act.put,aS,aC,aZ]
 refine wl rfl _ _ (yA6 (.tmp 55) (.const (.bool true)) (.tmp 58) rfl bf (.bool bf) rfl (by rw [HBF.out];rfl)) ?_
 simp only [Act.put,aS,aC,aZ]
 refine wpList_nil ?_
 obtain rfl:bf=false:=HBF.out
 go_upto_region 8 with fail
 refine wp_region_lit ?_
 refine wl_make (.const (.int .i64 64)) (.const (.int .i64 64)) 38 5 (.int .u8 0) 1 1 rfl rfl Tryd.underlying38 info5z 64 rfl rfl (by decide) (by decide) ?_
 intro W13 r_ z_ b_
 rw [made5] at r_
 obtain ⟨qb,hqb⟩:∃g,g=W12.heap.size:=⟨_,rfl⟩
 rw [←hqb] at r_ z_ ⊢
 have r2_:Row W13 qb 5 (yA0 (zr 64)):=r_
 replace HS:Hid (Wk w W13 c1 2 gp gv 0 ((16:Nat):Int) (newPl [] [16]) [] false [(qb,5,(yA0 (zr 64)))] (0)):=HS.out.add b_ (Nat.le_of_eq hqb.symm) r2_
 clear r_ r2_ z_ b_ hqb
 simp only [Act.put,aS,aC,aZ]
 refine wa (.tmp 60) (whole qb 64) ?_
 simp only [Act.put,aS,aC,aZ]
 refine wpList_nil ?_
 go_upto_region 9 with fail
 refine wp_region_lit ?_
 refine wm 7 (whole qb 64) ?_
 simp only [Act.put,aS,aC,aZ]
 refine wl rfl _ _ (run_wholeIx (.tmp 61) (.const (.int .i64 5)) rfl qb 64 5 (by decide) rfl rfl) ?_
 simp only [Act.put,aS,aC,aZ]
 refine wlS rfl rfl _ (run_putRow (t:=5) Fr.size5 (.tmp 62) (.const (.int .u8 7)) rfl qb 5 5 _ rfl (.int .u8 7) rfl ⟨rfl,rfl⟩ (HS.out.at 0 rfl) (by rw [yA1,zr_length];decide)) ?_
 have r_:=row_cell' (i:=5) (HS.out.at 0 rfl) (.int .u8 7)
 have c_:=(Ch.refl (· = qb) W13).setCell (g:=qb) (Or.inl rfl) 5 (.int .u8 7)
 obtain ⟨W14,hW_⟩:∃U_:World,U_=W13.setCell ⟨qb,5,none⟩ (.int .u8 7):=⟨_,rfl⟩
 rw [←hW_] at r_ c_ ⊢
 have e9:=bcells_set (zr 64) 5 7
 have r2_:Row W14 qb 5 (yA0 ((zr 64).set 5 7)):=(by rw [←e9];exact r_)
 replace HS:Hid (Wk w W14 c1 2 gp gv 0 ((16:Nat):Int) (newPl [] [16]) [] false [(qb,5,(yA0 ((zr 64).set 5 7)))] (0)):=HS.out.put 0 rfl (fun j x hj hn=>by rcases j with _|j;exact absurd rfl hn;simp at hj) c_ r2_
 clear r_ r2_ c_ hW_ e9
 refine wpList_nil ?_
 go_upto_region 10 with fail
 refine wp_region_lit ?_
 refine wm 3 (ptr gv) ?_
 simp only [Act.put,aS,aC,aZ]
 refine wm 7 (whole qb 64) ?_
 simp only [Act.put,aS,aC,aZ]
 refine yA5 eN12 [.tmp 64,.const (.string { data:=#[97] }),.tmp 65] _ rfl rfl [(ptr gv),(str [97]),(whole qb 64)] rfl ?_
 have hp_:=vapp_s HS.out.v (by have:=HS.out.k;omega) [97] ((zr 64).set 5 7) (whole qb 64) (by decide) (by decide) (zr_slB (HS.out.at 0 rfl)) (Or.inr fun b e=>by have:=(HS.out.l.at 0 rfl).2.1.2.1;have e2:qb=b:=Option.some.inj e;rw [←e2];exact this)
 refine hp_.mono ?_
 rintro e W15 ⟨c15,m15,er,her_,he_,s_,v_,hm_,_⟩
 obtain rfl:er=0:=her_.trans (by decide)
 have he2_:e = .returned (.tuple #[.agg (plC ((0:Nat):Int) ((0:Nat):Int) ((4:Nat):Int) false).toArray,.int .i64 0]):=he_
 clear he_
 subst he2_
 refine ⟨_,rfl,?_⟩
 replace HS:Hid (Wk w W15 c15 2 gp gv 0 ((16:Nat):Int) m15 ([]++[([97],((zr 64).set 5 7))]) false [(qb,5,(yA0 ((zr 64).set 5 7)))] (0+16)):=HS.out.sq1 s_ v_ hm_
 clear s_ v_ hm_ her_ hp_
 simp only [Act.put,aS,aC,aZ]
 refine wm 66 (.tuple #[(.agg (plC ((0:Nat):Int) ((0:Nat):Int) ((4:Nat):Int) false).toArray),(.int .i64 0)]) ?_
 simp only [Act.put,aS,aC,aZ]
 refine wl rfl _ _ (yA8 (.tmp 63) 0 rfl #[(.agg (plC ((0:Nat):Int) ((0:Nat):Int) ((4:Nat):Int) false).toArray),(.int .i64 0)] rfl (.agg (plC ((0:Nat):Int) ((0:Nat):Int) ((4:Nat):Int) false).toArray) rfl) ?_
 simp only [Act.put,aS,aC,aZ]
 refine wl rfl _ _ (yA8 (.tmp 63) 1 rfl #[(.agg (plC ((0:Nat):Int) ((0:Nat):Int) ((4:Nat):Int) false).toArray),(.int .i64 0)] rfl (.int .i64 0) rfl) ?_
 simp only [Act.put,aS,aC,aZ]
 refine wl rfl _ _ (yB6 ((plC 0 0 0 false)) zero40 rfl) ?_
 have hb_:=yB2 W15 (.cells ((plC 0 0 0 false)).toArray 40)
 have r_:=Row.new W15 40 ((plC 0 0 0 false))
 obtain ⟨W16,hW_⟩:∃U_:World,U_=W15.alloc (.cells ((plC 0 0 0 false)).toArray 40):=⟨_,rfl⟩
 obtain ⟨q8,hq_⟩:∃q,q=W15.heap.size:=⟨_,rfl⟩
 rw [←hW_] at hb_
 rw [←hW_,←hq_] at r_
 rw [←hW_,←hq_]
 have HQ:Hid (Row W16 q8 40 ((plC 0 0 0 false))∧Below W15.heap.size W15 W16∧W15.heap.size≤q8):=⟨r_,hb_,Nat.le_of_eq hq_.symm⟩
 clear r_ hb_ hW_ hq_
 simp only [Act.put,aS,aC,aZ]
 refine wlS rfl rfl _ (yE6 ag40 (.tmp 8) (.tmp 67) rfl q8 40 rfl ((plC ((0:Nat):Int) ((0:Nat):Int) ((4:Nat):Int) false)) _ rfl rfl HQ.out.1 rfl (yJ2 _ _ _ _)) ?_
 have hb_:=(Ch.setRow (S:=(· = q8)) (Ch.refl _ W16) (Or.inl rfl) ((plC ((0:Nat):Int) ((0:Nat):Int) ((4:Nat):Int) false)).toArray)
 have r_:=HQ.out.1.setRow ((plC ((0:Nat):Int) ((0:Nat):Int) ((4:Nat):Int) false))
 obtain ⟨W17,hW_⟩:∃U_:World,U_=W16.setRow q8 ((plC ((0:Nat):Int) ((0:Nat):Int) ((4:Nat):Int) false)).toArray:=⟨_,rfl⟩
 rw [←hW_] at hb_ r_ ⊢
 have hbb:=HQ.out.2.1.trans (hb_.below HQ.out.2.1.size fun k hk e=>by have:=HQ.out.2.2;omega)
 replace HS:Hid (Wk w W17 c15 2 gp gv 0 ((16:Nat):Int) m15 ([]++[([97],((zr 64).set 5 7))]) false [(qb,5,(yA0 ((zr 64).set 5 7))),(q8,40,((plC ((0:Nat):Int) ((0:Nat):Int) ((4:Nat):Int) false)))] (0+16)):=HS.out.add hbb HQ.out.2.2 r_
 clear hW_ r_ hb_ hbb HQ
 refine wa (.tmp 68) (.int .i64 0) ?_
 simp only [Act.put,aS,aC,aZ]
 refine wpList_nil ?_
 go_upto_region 11 with fail
 refine wp_region_lit ?_
 refine wm 3 (ptr gv) ?_
 simp only [Act.put,aS,aC,aZ]
 refine wl_make (.const (.int .i64 512)) (.const (.int .i64 512)) 38 5 (.int .u8 0) 1 1 rfl rfl Tryd.underlying38 info5z 512 rfl rfl (by decide) (by decide) ?_
 intro W18 r_ z_ b_
 rw [made5] at r_
 obtain ⟨qc,hqb⟩:∃g,g=W17.heap.size:=⟨_,rfl⟩
 rw [←hqb] at r_ z_ ⊢
 have r2_:Row W18 qc 5 (yA0 (zr 512)):=r_
 replace HS:Hid (Wk w W18 c15 2 gp gv 0 ((16:Nat):Int) m15 ([]++[([97],((zr 64).set 5 7))]) false [(qb,5,(yA0 ((zr 64).set 5 7))),(q8,40,((plC ((0:Nat):Int) ((0:Nat):Int) ((4:Nat):Int) false))),(qc,5,(yA0 (zr 512)))] (0+16)):=HS.out.add b_ (Nat.le_of_eq hqb.symm) r2_
 clear r_ r2_ z_ b_ hqb
 simp only [Act.put,aS,aC,aZ]
 refine yA5 eN12 [.tmp 70,.const (.string { data:=#[98] }),.tmp 71] _ rfl rfl [(ptr gv),(str [98]),(whole qc 512)] rfl ?_
 have hp_:=vapp_s HS.out.v (by have:=HS.out.k;omega) [98] (zr 512) (whole qc 512) (by decide) (by decide) (zr_slice (HS.out.at 2 rfl) (by decide)) (Or.inr fun b e=>by have:=(HS.out.l.at 2 rfl).2.1.2.1;have e2:qc=b:=Option.some.inj e;rw [←e2];exact this)
 refine hp_.mono ?_
 rintro e W19 ⟨c19,m19,er,her_,he_,s_,v_,hm_,_⟩
 obtain rfl:er=3:=her_.trans (by decide)
 have he2_:e = .returned (.tuple #[.agg (plC 0 0 0 false).toArray,.int .i64 3]):=he_
 clear he_
 subst he2_
 refine ⟨_,rfl,?_⟩
 replace HS:Hid (Wk w W19 c19 2 gp gv 0 ((16:Nat):Int) m19 ([]++[([97],((zr 64).set 5 7))]) false [(qb,5,(yA0 ((zr 64).set 5 7))),(q8,40,((plC ((0:Nat):Int) ((0:Nat):Int) ((4:Nat):Int) false))),(qc,5,(yA0 (zr 512)))] (0+16+16)):=HS.out.sq1 s_ v_ hm_
 clear s_ v_ hm_ her_ hp_
 simp only [Act.put,aS,aC,aZ]
 refine wm 72 (.tuple #[(.agg (plC 0 0 0 false).toArray),(.int .i64 3)]) ?_
 simp only [Act.put,aS,aC,aZ]
 refine wl rfl _ _ (yA8 (.tmp 69) 0 rfl #[(.agg (plC 0 0 0 false).toArray),(.int .i64 3)] rfl (.agg (plC 0 0 0 false).toArray) rfl) ?_
 simp only [Act.put,aS,aC,aZ]
 refine wl rfl _ _ (yA8 (.tmp 69) 1 rfl #[(.agg (plC 0 0 0 false).toArray),(.int .i64 3)] rfl (.int .i64 3) rfl) ?_
 simp only [Act.put,aS,aC,aZ]
 refine wl rfl _ _ (yB6 ((plC 0 0 0 false)) zero40 rfl) ?_
 have hb_:=yB2 W19 (.cells ((plC 0 0 0 false)).toArray 40)
 have r_:=Row.new W19 40 ((plC 0 0 0 false))
 obtain ⟨W20,hW_⟩:∃U_:World,U_=W19.alloc (.cells ((plC 0 0 0 false)).toArray 40):=⟨_,rfl⟩
 obtain ⟨q10,hq_⟩:∃q,q=W19.heap.size:=⟨_,rfl⟩
 rw [←hW_] at hb_
 rw [←hW_,←hq_] at r_
 rw [←hW_,←hq_]
 have HQ:Hid (Row W20 q10 40 ((plC 0 0 0 false))∧Below W19.heap.size W19 W20∧W19.heap.size≤q10):=⟨r_,hb_,Nat.le_of_eq hq_.symm⟩
 clear r_ hb_ hW_ hq_
 simp only [Act.put,aS,aC,aZ]
 refine wlS rfl rfl _ (yE6 ag40 (.tmp 10) (.tmp 73) rfl q10 40 rfl ((plC 0 0 0 false)) _ rfl rfl HQ.out.1 rfl (yJ2 _ _ _ _)) ?_
 have hb_:=(Ch.setRow (S:=(· = q10)) (Ch.refl _ W20) (Or.inl rfl) ((plC 0 0 0 false)).toArray)
 have r_:=HQ.out.1.setRow ((plC 0 0 0 false))
 obtain ⟨W21,hW_⟩:∃U_:World,U_=W20.setRow q10 ((plC 0 0 0 false)).toArray:=⟨_,rfl⟩
 rw [←hW_] at hb_ r_ ⊢
 have hbb:=HQ.out.2.1.trans (hb_.below HQ.out.2.1.size fun k hk e=>by have:=HQ.out.2.2;omega)
 replace HS:Hid (Wk w W21 c19 2 gp gv 0 ((16:Nat):Int) m19 ([]++[([97],((zr 64).set 5 7))]) false [(qb,5,(yA0 ((zr 64).set 5 7))),(q8,40,((plC ((0:Nat):Int) ((0:Nat):Int) ((4:Nat):Int) false))),(qc,5,(yA0 (zr 512))),(q10,40,((plC 0 0 0 false)))] (0+16+16)):=HS.out.add hbb HQ.out.2.2 r_
 clear hW_ r_ hb_ hbb HQ
 refine wa (.tmp 74) (.int .i64 3) ?_
 simp only [Act.put,aS,aC,aZ]
 refine wpList_nil ?_
 go_upto_region 12 with fail
 refine wp_region_lit ?_
 refine wm 3 (ptr gv) ?_
 simp only [Act.put,aS,aC,aZ]
 refine wl rfl _ _ (yA9 ag40 (.tmp 8) rfl q8 (0) rfl (((plC ((0:Nat):Int) ((0:Nat):Int) ((4:Nat):Int) false))) rfl (yJ0 (HS.out.at 1 rfl))) ?_
 simp only [Act.put,aS,aC,aZ]
 refine yA5 eN17 [.tmp 76,.tmp 77] _ rfl rfl [(ptr gv),(.agg (plC ((0:Nat):Int) ((0:Nat):Int) ((4:Nat):Int) false).toArray)] rfl ?_
 refine (vread_s HS.out.v (by have:=HS.out.k;omega) ((0:Nat):Int) ((0:Nat):Int) ((4:Nat):Int) false (by decide) (by decide)).mono ?_
 rintro e W22 ⟨hb_,_,hcase_⟩
 obtain ⟨vy,rfl,hn_,hfr_⟩:∃vy,e = .returned (.tuple #[str [97],vy,.int .i64 0])∧yA2 W22 vy ((zr 64).set 5 7)∧∀b,vy.ownBlock=some b→W21.heap.size≤b:=(by
  rcases hcase_ with ⟨k,vy,hk_,_,_,_,he_,hn_,hfr_⟩|⟨_,hno_⟩
  ·obtain rfl:k=0:=(by have h9:k<1:=hk_;omega)
   exact ⟨vy,he_,hn_,hfr_⟩
  ·exact absurd ⟨rfl,by decide,by decide⟩ (hno_ 0 (by decide)))
 refine ⟨_,rfl,?_⟩
 have HY:Hid (Sl 2 gv c19 W22 vy ((zr 64).set 5 7)):=HS.out.v.slNew hn_ hfr_
 replace HS:Hid (Wk w W22 c19 2 gp gv 0 ((16:Nat):Int) m19 ([]++[([97],((zr 64).set 5 7))]) false [(qb,5,(yA0 ((zr 64).set 5 7))),(q8,40,((plC ((0:Nat):Int) ((0:Nat):Int) ((4:Nat):Int) false))),(qc,5,(yA0 (zr 512))),(q10,40,((plC 0 0 0 false)))] (0+16+16)):=HS.out.bel hb_
 clear hb_ hn_ hcase_ hfr_
 simp only [Act.put,aS,aC,aZ]
 refine wm 78 (.tuple #[(str [97]),vy,(.int .i64 0)]) ?_
 simp only [Act.put,aS,aC,aZ]
 refine wl rfl _ _ (yA8 (.tmp 75) 0 rfl #[(str [97]),vy,(.int .i64 0)] rfl (str [97]) rfl) ?_
 simp only [Act.put,aS,aC,aZ]
 refine wl rfl _ _ (yA8 (.tmp 75) 1 rfl #[(str [97]),vy,(.int .i64 0)] rfl vy rfl) ?_
 simp only [Act.put,aS,aC,aZ]
 refine wl rfl _ _ (yA8 (.tmp 75) 2 rfl #[(str [97]),vy,(.int .i64 0)] rfl (.int .i64 0) rfl) ?_
 simp only [Act.put,aS,aC,aZ]
 refine wa (.tmp 79) (str [97]) ?_
 simp only [Act.put,aS,aC,aZ]
 refine wa (.tmp 80) vy ?_
 simp only [Act.put,aS,aC,aZ]
 refine wa (.tmp 81) (.int .i64 0) ?_
 simp only [Act.put,aS,aC,aZ]
 refine wpList_nil ?_
 go_upto_region 13 with fail
 refine wp_region_lit ?_
 refine wm 3 (ptr gv) ?_
 simp only [Act.put,aS,aC,aZ]
 refine wl rfl _ _ (run_build40c (.const (.int .i64 1)) (.const (.int .i64 4)) rfl 1 4 rfl rfl) ?_
 simp only [Act.put,aS,aC,aZ]
 refine yA5 eN17 [.tmp 83,.tmp 84] _ rfl rfl [(ptr gv),(.agg (plC 0 1 4 false).toArray)] rfl ?_
 refine (vread_s HS.out.v (by have:=HS.out.k;omega) 0 1 4 false (by decide) (by decide)).mono ?_
 rintro e W23 ⟨hb_,_,⟨k,vy,hk_,_,ha_,_⟩|⟨rfl,_⟩⟩
 ·exfalso
  obtain rfl:k=0:=(by have h9:k<1:=hk_;omega)
  exact absurd ha_ (by decide)
 refine ⟨_,rfl,?_⟩
 replace HY:Hid (Sl 2 gv c19 W23 vy ((zr 64).set 5 7)):=HY.out.sq (Sq.bel _ hb_)
 replace HS:Hid (Wk w W23 c19 2 gp gv 0 ((16:Nat):Int) m19 ([]++[([97],((zr 64).set 5 7))]) false [(qb,5,(yA0 ((zr 64).set 5 7))),(q8,40,((plC ((0:Nat):Int) ((0:Nat):Int) ((4:Nat):Int) false))),(qc,5,(yA0 (zr 512))),(q10,40,((plC 0 0 0 false)))] (0+16+16)):=HS.out.bel hb_
 clear hb_
 simp only [Act.put,aS,aC,aZ]
 refine wm 85 (.tuple #[(str []),(.slice none 0 0),(.int .i64 4)]) ?_
 simp only [Act.put,aS,aC,aZ]
 refine wl rfl _ _ (yA8 (.tmp 82) 0 rfl #[(str []),(.slice none 0 0),(.int .i64 4)] rfl (str []) rfl) ?_
 simp only [Act.put,aS,aC,aZ]
 refine wl rfl _ _ (yA8 (.tmp 82) 1 rfl #[(str []),(.slice none 0 0),(.int .i64 4)] rfl (.slice none 0 0) rfl) ?_
 simp only [Act.put,aS,aC,aZ]
 refine wl rfl _ _ (yA8 (.tmp 82) 2 rfl #[(str []),(.slice none 0 0),(.int .i64 4)] rfl (.int .i64 4) rfl) ?_
 simp only [Act.put,aS,aC,aZ]
 refine wa (.tmp 86) (str []) ?_
 simp only [Act.put,aS,aC,aZ]
 refine wa (.tmp 87) (.slice none 0 0) ?_
 simp only [Act.put,aS,aC,aZ]
 refine wa (.tmp 88) (.int .i64 4) ?_
 simp only [Act.put,aS,aC,aZ]
 refine wpList_nil ?_
 go_upto_region 14 with fail
 refine wp_region_lit ?_
 refine wm 3 (ptr gv) ?_
 simp only [Act.put,aS,aC,aZ]
 refine yA5 eN19 [.tmp 89] _ rfl rfl [(ptr gv)] rfl ?_
 refine (vseal_s HS.out.v (by have:=HS.out.k;omega)).mono ?_
 rintro e W24 ⟨c24,m24,er,sd2,rfl,s_,v_,hm_,⟨h_,_⟩|⟨_,_,rfl,rfl⟩⟩
 ·exfalso
  rcases h_ with h_|h_
  ·cases h_
  ·exact absurd h_ (by decide)
 refine ⟨_,rfl,?_⟩
 skip
 replace HY:Hid (Sl 2 gv c24 W24 vy ((zr 64).set 5 7)):=HY.out.sq s_
 replace HS:Hid (Wk w W24 c24 2 gp gv 0 ((16:Nat):Int) m24 ([]++[([97],((zr 64).set 5 7))]) true [(qb,5,(yA0 ((zr 64).set 5 7))),(q8,40,((plC ((0:Nat):Int) ((0:Nat):Int) ((4:Nat):Int) false))),(qc,5,(yA0 (zr 512))),(q10,40,((plC 0 0 0 false)))] (0+16+16+16)):=HS.out.sq1 s_ v_ hm_
 clear s_ v_ hm_
 simp only [Act.put,aS,aC,aZ]
 refine wa (.tmp 90) (.int .i64 0) ?_
 simp only [Act.put,aS,aC,aZ]
 refine wpList_nil ?_
 go_upto_region 15 with fail
 refine wp_region_lit ?_
 refine wm 3 (ptr gv) ?_
 simp only [Act.put,aS,aC,aZ]
 refine yA5 eN12 [.tmp 92,.const (.string { data:=#[99] }),.const (.slice none 0 0)] _ rfl rfl [(ptr gv),(str [99]),(.slice none 0 0)] rfl ?_
 have hp_:=vapp_s HS.out.v (by have:=HS.out.k;omega) [99] [] (.slice none 0 0) (by decide) (by decide) (yA2.nilV _) (Or.inl rfl)
 refine hp_.mono ?_
 rintro e W25 ⟨c25,m25,er,her_,he_,s_,v_,hm_,_⟩
 obtain rfl:er=3:=her_.trans (by decide)
 have he2_:e = .returned (.tuple #[.agg (plC 0 0 0 false).toArray,.int .i64 3]):=he_
 clear he_
 subst he2_
 refine ⟨_,rfl,?_⟩
 replace HY:Hid (Sl 2 gv c25 W25 vy ((zr 64).set 5 7)):=HY.out.sq s_
 replace HS:Hid (Wk w W25 c25 2 gp gv 0 ((16:Nat):Int) m25 ([]++[([97],((zr 64).set 5 7))]) true [(qb,5,(yA0 ((zr 64).set 5 7))),(q8,40,((plC ((0:Nat):Int) ((0:Nat):Int) ((4:Nat):Int) false))),(qc,5,(yA0 (zr 512))),(q10,40,((plC 0 0 0 false)))] (0+16+16+16+16)):=HS.out.sq1 s_ v_ hm_
 clear s_ v_ hm_ her_ hp_
 simp only [Act.put,aS,aC,aZ]
 refine wm 93 (.tuple #[(.agg (plC 0 0 0 false).toArray),(.int .i64 3)]) ?_
 simp only [Act.put,aS,aC,aZ]
 refine wl rfl _ _ (yA8 (.tmp 91) 0 rfl #[(.agg (plC 0 0 0 false).toArray),(.int .i64 3)] rfl (.agg (plC 0 0 0 false).toArray) rfl) ?_
 simp only [Act.put,aS,aC,aZ]
 refine wl rfl _ _ (yA8 (.tmp 91) 1 rfl #[(.agg (plC 0 0 0 false).toArray),(.int .i64 3)] rfl (.int .i64 3) rfl) ?_
 simp only [Act.put,aS,aC,aZ]
 refine wl rfl _ _ (yB6 ((plC 0 0 0 false)) zero40 rfl) ?_
 have hb_:=yB2 W25 (.cells ((plC 0 0 0 false)).toArray 40)
 have r_:=Row.new W25 40 ((plC 0 0 0 false))
 obtain ⟨W26,hW_⟩:∃U_:World,U_=W25.alloc (.cells ((plC 0 0 0 false)).toArray 40):=⟨_,rfl⟩
 obtain ⟨q19,hq_⟩:∃q,q=W25.heap.size:=⟨_,rfl⟩
 rw [←hW_] at hb_
 rw [←hW_,←hq_] at r_
 rw [←hW_,←hq_]
 have HQ:Hid (Row W26 q19 40 ((plC 0 0 0 false))∧Below W25.heap.size W25 W26∧W25.heap.size≤q19):=⟨r_,hb_,Nat.le_of_eq hq_.symm⟩
 clear r_ hb_ hW_ hq_
 simp only [Act.put,aS,aC,aZ]
 refine wlS rfl rfl _ (yE6 ag40 (.tmp 19) (.tmp 94) rfl q19 40 rfl ((plC 0 0 0 false)) _ rfl rfl HQ.out.1 rfl (yJ2 _ _ _ _)) ?_
 have hb_:=(Ch.setRow (S:=(· = q19)) (Ch.refl _ W26) (Or.inl rfl) ((plC 0 0 0 false)).toArray)
 have r_:=HQ.out.1.setRow ((plC 0 0 0 false))
 obtain ⟨W27,hW_⟩:∃U_:World,U_=W26.setRow q19 ((plC 0 0 0 false)).toArray:=⟨_,rfl⟩
 rw [←hW_] at hb_ r_ ⊢
 have hbb:=HQ.out.2.1.trans (hb_.below HQ.out.2.1.size fun k hk e=>by have:=HQ.out.2.2;omega)
 replace HY:Hid (Sl 2 gv c25 W27 vy ((zr 64).set 5 7)):=HY.out.sq (Sq.bel _ hbb)
 replace HS:Hid (Wk w W27 c25 2 gp gv 0 ((16:Nat):Int) m25 ([]++[([97],((zr 64).set 5 7))]) true [(qb,5,(yA0 ((zr 64).set 5 7))),(q8,40,((plC ((0:Nat):Int) ((0:Nat):Int) ((4:Nat):Int) false))),(qc,5,(yA0 (zr 512))),(q10,40,((plC 0 0 0 false))),(q19,40,((plC 0 0 0 false)))] (0+16+16+16+16)):=HS.out.add hbb HQ.out.2.2 r_
 clear hW_ r_ hb_ hbb HQ
 refine wa (.tmp 95) (.int .i64 3) ?_
 simp only [Act.put,aS,aC,aZ]
 refine wpList_nil ?_
 go_upto_region 16 with fail
 refine wp_region_lit ?_
 refine wm 3 (ptr gv) ?_
 simp only [Act.put,aS,aC,aZ]
 refine yA5 eN20 [.tmp 97] _ rfl rfl [(ptr gv)] rfl ?_
 refine (vroot_s HS.out.v (by have:=HS.out.k;omega)).mono ?_
 rintro e W28 ⟨rfl,s_,v_⟩
 have hR_:=rootO_is ([]++[([97],((zr 64).set 5 7))])
 obtain ⟨R,hRe_⟩:∃R,R=rootO ([]++[([97],((zr 64).set 5 7))]):=⟨_,rfl⟩
 rw [←hRe_] at hR_
 refine ⟨_,rfl,?_⟩
 rw [if_pos rfl,←hRe_]
 have HR:Hid (R.length=32∧∀c∈R,c<256):=hR_
 replace HY:Hid (Sl 2 gv c25 W28 vy ((zr 64).set 5 7)):=HY.out.sq s_
 replace HS:Hid (Wk w W28 c25 2 gp gv 0 ((16:Nat):Int) m25 ([]++[([97],((zr 64).set 5 7))]) true [(qb,5,(yA0 ((zr 64).set 5 7))),(q8,40,((plC ((0:Nat):Int) ((0:Nat):Int) ((4:Nat):Int) false))),(qc,5,(yA0 (zr 512))),(q10,40,((plC 0 0 0 false))),(q19,40,((plC 0 0 0 false)))] (0+16+16+16+16)):=HS.out.sq s_ v_ HS.out.k
 clear s_ v_ hR_ hRe_
 simp only [Act.put,aS,aC,aZ]
 refine wm 98 (.tuple #[(av R),(.bool true)]) ?_
 simp only [Act.put,aS,aC,aZ]
 refine wl rfl _ _ (yA8 (.tmp 96) 0 rfl #[(av R),(.bool true)] rfl (av R) rfl) ?_
 simp only [Act.put,aS,aC,aZ]
 refine wl rfl _ _ (yA8 (.tmp 96) 1 rfl #[(av R),(.bool true)] rfl (.bool true) rfl) ?_
 simp only [Act.put,aS,aC,aZ]
 refine wl rfl _ _ (yB6 (yA0 (Zs 32)) zero52 rfl) ?_
 have hb_:=yB2 W28 (.cells (yA0 (Zs 32)).toArray 52)
 have r_:=Row.new W28 52 (yA0 (Zs 32))
 obtain ⟨W29,hW_⟩:∃U_:World,U_=W28.alloc (.cells (yA0 (Zs 32)).toArray 52):=⟨_,rfl⟩
 obtain ⟨q21,hq_⟩:∃q,q=W28.heap.size:=⟨_,rfl⟩
 rw [←hW_] at hb_
 rw [←hW_,←hq_] at r_
 rw [←hW_,←hq_]
 have HQ:Hid (Row W29 q21 52 (yA0 (Zs 32))∧Below W28.heap.size W28 W29∧W28.heap.size≤q21):=⟨r_,hb_,Nat.le_of_eq hq_.symm⟩
 clear r_ hb_ hW_ hq_
 simp only [Act.put,aS,aC,aZ]
 refine wlS rfl rfl _ (yE6 ag52 (.tmp 21) (.tmp 99) rfl q21 52 rfl (yA0 R) _ rfl (by rw [yA1];exact HR.out.1) HQ.out.1 (by rw [yA1,bz];exact HR.out.1) (yB0 _)) ?_
 have hb_:=(Ch.setRow (S:=(· = q21)) (Ch.refl _ W29) (Or.inl rfl) (yA0 R).toArray)
 have r_:=HQ.out.1.setRow (yA0 R)
 obtain ⟨W30,hW_⟩:∃U_:World,U_=W29.setRow q21 (yA0 R).toArray:=⟨_,rfl⟩
 rw [←hW_] at hb_ r_ ⊢
 have hbb:=HQ.out.2.1.trans (hb_.below HQ.out.2.1.size fun k hk e=>by have:=HQ.out.2.2;omega)
 replace HY:Hid (Sl 2 gv c25 W30 vy ((zr 64).set 5 7)):=HY.out.sq (Sq.bel _ hbb)
 replace HS:Hid (Wk w W30 c25 2 gp gv 0 ((16:Nat):Int) m25 ([]++[([97],((zr 64).set 5 7))]) true [(qb,5,(yA0 ((zr 64).set 5 7))),(q8,40,((plC ((0:Nat):Int) ((0:Nat):Int) ((4:Nat):Int) false))),(qc,5,(yA0 (zr 512))),(q10,40,((plC 0 0 0 false))),(q19,40,((plC 0 0 0 false))),(q21,52,(yA0 R))] (0+16+16+16+16)):=HS.out.add hbb HQ.out.2.2 r_
 clear hW_ r_ hb_ hbb HQ
 refine wa (.tmp 100) (.bool true) ?_
 simp only [Act.put,aS,aC,aZ]
 refine wpList_nil ?_
 go_upto_region 17 with fail
 refine wp_region_lit ?_
 refine wl rfl _ _ (yA9 ag40 (.tmp 8) rfl q8 (0) rfl (((plC ((0:Nat):Int) ((0:Nat):Int) ((4:Nat):Int) false))) rfl (yJ0 (HS.out.at 1 rfl))) ?_
 simp only [Act.put,aS,aC,aZ]
 refine wl rfl _ _ (run_build40e (.const (.int .i64 4)) rfl 4 rfl) ?_
 simp only [Act.put,aS,aC,aZ]
 refine wl rfl (.bool bt) _ ((by rw [HBT.out];exact run_eqPl (.tmp 101) (.tmp 102) rfl _ _ _ _ _ _ _ _ rfl rfl true (by decide))) ?_
 simp only [Act.put,aS,aC,aZ]
 refine wm 103 (.bool bt) ?_
 simp only [Act.put,aS,aC,aZ]
 refine wl (by rw [HBT.out];kernel_rfl) (.int .i64 0) _ (yA4 (.tmp 9) rfl (.int .i64 0) rfl) ?_
 simp only [Act.put,aS,aC,aZ]
 refine wl (by rw [HBT.out];kernel_rfl) (.bool bt) _ ((by rw [HBT.out];exact yC6 (.tmp 105) (.const (.int .i64 0)) rfl 0 0 rfl rfl true rfl)) ?_
 simp only [Act.put,aS,aC,aZ]
 refine wl rfl _ _ (yA6 (.tmp 104) (.tmp 106) (.const (.bool false)) rfl bt (.bool bt) rfl (by rw [HBT.out];rfl)) ?_
 simp only [Act.put,aS,aC,aZ]
 refine wm 107 (.bool bt) ?_
 simp only [Act.put,aS,aC,aZ]
 refine wl (by rw [HBT.out];kernel_rfl) (.int .i64 3) _ (yA4 (.tmp 11) rfl (.int .i64 3) rfl) ?_
 simp only [Act.put,aS,aC,aZ]
 refine wl (by rw [HBT.out];kernel_rfl) (.bool bt) _ ((by rw [HBT.out];exact yC6 (.tmp 109) (.const (.int .i64 3)) rfl 3 3 rfl rfl true rfl)) ?_
 simp only [Act.put,aS,aC,aZ]
 refine wl rfl _ _ (yA6 (.tmp 108) (.tmp 110) (.const (.bool false)) rfl bt (.bool bt) rfl (by rw [HBT.out];rfl)) ?_
 simp only [Act.put,aS,aC,aZ]
 refine wm 111 (.bool bt) ?_
 simp only [Act.put,aS,aC,aZ]
 refine wl (by rw [HBT.out];kernel_rfl) (str [97]) _ (yA4 (.tmp 12) rfl (str [97]) rfl) ?_
 simp only [Act.put,aS,aC,aZ]
 refine wl (by rw [HBT.out];kernel_rfl) (.bool bt) _ ((by rw [HBT.out];exact run_eqS (.tmp 113) (.const (.string { data:=#[97] })) rfl _ rfl rfl)) ?_
 simp only [Act.put,aS,aC,aZ]
 refine wl rfl _ _ (yA6 (.tmp 112) (.tmp 114) (.const (.bool false)) rfl bt (.bool bt) rfl (by rw [HBT.out];rfl)) ?_
 simp only [Act.put,aS,aC,aZ]
 refine wm 115 (.bool bt) ?_
 simp only [Act.put,aS,aC,aZ]
 refine wl (by rw [HBT.out];kernel_rfl) vy _ (yA4 (.tmp 13) rfl vy rfl) ?_
 simp only [Act.put,aS,aC,aZ]
 refine wl (by rw [HBT.out];kernel_rfl) (str ((zr 64).set 5 7)) _ (yI3 (.tmp 117) rfl vy ((zr 64).set 5 7) rfl HY.out.1) ?_
 simp only [Act.put,aS,aC,aZ]
 refine wl (by rw [HBT.out];kernel_rfl) (whole qb 64) _ (yA4 (.tmp 7) rfl (whole qb 64) rfl) ?_
 simp only [Act.put,aS,aC,aZ]
 refine wl (by rw [HBT.out];kernel_rfl) (str ((zr 64).set 5 7)) _ (yI3 (.tmp 119) rfl (whole qb 64) ((zr 64).set 5 7) rfl (zr_slB (HS.out.at 0 rfl))) ?_
 simp only [Act.put,aS,aC,aZ]
 refine wl (by rw [HBT.out];kernel_rfl) (.bool bt) _ ((by rw [HBT.out];exact run_eqS (.tmp 118) (.tmp 120) rfl _ rfl rfl)) ?_
 simp only [Act.put,aS,aC,aZ]
 refine wl rfl _ _ (yA6 (.tmp 116) (.tmp 121) (.const (.bool false)) rfl bt (.bool bt) rfl (by rw [HBT.out];rfl)) ?_
 simp only [Act.put,aS,aC,aZ]
 refine wm 122 (.bool bt) ?_
 simp only [Act.put,aS,aC,aZ]
 refine wl (by rw [HBT.out];kernel_rfl) (.int .i64 0) _ (yA4 (.tmp 14) rfl (.int .i64 0) rfl) ?_
 simp only [Act.put,aS,aC,aZ]
 refine wl (by rw [HBT.out];kernel_rfl) (.bool bt) _ ((by rw [HBT.out];exact yC6 (.tmp 124) (.const (.int .i64 0)) rfl 0 0 rfl rfl true rfl)) ?_
 simp only [Act.put,aS,aC,aZ]
 refine wl rfl _ _ (yA6 (.tmp 123) (.tmp 125) (.const (.bool false)) rfl bt (.bool bt) rfl (by rw [HBT.out];rfl)) ?_
 simp only [Act.put,aS,aC,aZ]
 refine wm 126 (.bool bt) ?_
 simp only [Act.put,aS,aC,aZ]
 refine wl (by rw [HBT.out];kernel_rfl) (.int .i64 4) _ (yA4 (.tmp 17) rfl (.int .i64 4) rfl) ?_
 simp only [Act.put,aS,aC,aZ]
 refine wl (by rw [HBT.out];kernel_rfl) (.bool bt) _ ((by rw [HBT.out];exact yC6 (.tmp 128) (.const (.int .i64 4)) rfl 4 4 rfl rfl true rfl)) ?_
 simp only [Act.put,aS,aC,aZ]
 refine wl rfl _ _ (yA6 (.tmp 127) (.tmp 129) (.const (.bool false)) rfl bt (.bool bt) rfl (by rw [HBT.out];rfl)) ?_
 simp only [Act.put,aS,aC,aZ]
 refine wm 130 (.bool bt) ?_
 simp only [Act.put,aS,aC,aZ]
 refine wl (by rw [HBT.out];kernel_rfl) (.int .i64 0) _ (yA4 (.tmp 18) rfl (.int .i64 0) rfl) ?_
 simp only [Act.put,aS,aC,aZ]
 refine wl (by rw [HBT.out];kernel_rfl) (.bool bt) _ ((by rw [HBT.out];exact yC6 (.tmp 132) (.const (.int .i64 0)) rfl 0 0 rfl rfl true rfl)) ?_
 simp only [Act.put,aS,aC,aZ]
 refine wl rfl _ _ (yA6 (.tmp 131) (.tmp 133) (.const (.bool false)) rfl bt (.bool bt) rfl (by rw [HBT.out];rfl)) ?_
 simp only [Act.put,aS,aC,aZ]
 refine wm 134 (.bool bt) ?_
 simp only [Act.put,aS,aC,aZ]
 refine wl (by rw [HBT.out];kernel_rfl) (.int .i64 3) _ (yA4 (.tmp 20) rfl (.int .i64 3) rfl) ?_
 simp only [Act.put,aS,aC,aZ]
 refine wl (by rw [HBT.out];kernel_rfl) (.bool bt) _ ((by rw [HBT.out];exact yC6 (.tmp 136) (.const (.int .i64 3)) rfl 3 3 rfl rfl true rfl)) ?_
 simp only [Act.put,aS,aC,aZ]
 refine wl rfl _ _ (yA6 (.tmp 135) (.tmp 137) (.const (.bool false)) rfl bt (.bool bt) rfl (by rw [HBT.out];rfl)) ?_
 simp only [Act.put,aS,aC,aZ]
 refine wm 138 (.bool bt) ?_
 simp only [Act.put,aS,aC,aZ]
 refine wl (by rw [HBT.out];kernel_rfl) (.bool true) _ (yA4 (.tmp 22) rfl (.bool true) rfl) ?_
 simp only [Act.put,aS,aC,aZ]
 refine wl rfl _ _ (yA6 (.tmp 139) (.tmp 140) (.const (.bool false)) rfl bt (.bool bt) rfl (by rw [HBT.out];rfl)) ?_
 simp only [Act.put,aS,aC,aZ]
 refine wm 141 (.bool bt) ?_
 simp only [Act.put,aS,aC,aZ]
 refine yA5 eN14 [.const (.int .i64 512)] _ (by rw [HBT.out];kernel_rfl) rfl [(.int .i64 512)] rfl ?_
 refine (yI4 512 (by decide) W30).mono ?_
 rintro e w_ ⟨rfl,rfl⟩
 refine ⟨_,rfl,?_⟩
 simp only [Act.put,aS,aC,aZ]
 refine wl (by rw [HBT.out];kernel_rfl) (.bool bt) _ ((by rw [HBT.out];exact yC6 (.tmp 143) (.const (.int .i64 12)) rfl (nbP 512:Nat) 12 rfl rfl true (by decide))) ?_
 simp only [Act.put,aS,aC,aZ]
 refine wl rfl _ _ (yA6 (.tmp 142) (.tmp 144) (.const (.bool false)) rfl bt (.bool bt) rfl (by rw [HBT.out];rfl)) ?_
 simp only [Act.put,aS,aC,aZ]
 refine wa (.tmp 145) (.bool bt) ?_
 simp only [Act.put,aS,aZ]
 refine wpList_nil ?_
 obtain rfl:bt=true:=HBT.out
 go_wp2_with fail
 rw [HPQ.out]
 exact ⟨rfl,HS.out.f.bel⟩
end Go.Proofs.YtpkkkkomdblpoaaDoor



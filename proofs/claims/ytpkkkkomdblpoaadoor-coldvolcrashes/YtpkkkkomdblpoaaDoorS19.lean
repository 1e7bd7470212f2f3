/- Layer 15: names, tags, pieces, how many blocks. Layer 15: what the document says of a name, of blocks; which operation. -/
import Derived.Test.YtpkkkkomdblpoaaDoorS18
namespace Go.Proofs.YtpkkkkomdblpoaaDoor
open Go.RowKit Go.Maps
theorem yK1 {fn:Func} {p:Tmp} {t n:Nat} (ht:AggT t n) (h:fn.results=#[.cell p t]) (tmps:Array Value) (w:World) (g T:Nat) (hp:tmps.getD p undef = .pointer (some ⟨g,0,none⟩)) (cs:List Value) (hn:cs.length=n) (hr:Row w g T cs) :
  (results fn tmps).run Tryd.prog w = .ok (.agg cs.toArray) w:=by
 have hl:=yF9 ht w g 0 cs hn (fun j v hv=>by rw [Nat.zero_add];exact hr.at j v hv)
 have hp':tmps[p]?.getD undef = .pointer (some ⟨g,0,none⟩):=by simpa using hp
 simp [results,h,hp',asAddr,hl]
theorem run_quo56 {w:World} {a:Act} {o:Oper} (x:Operand) (ho:o.op = .binOp .quo 3 x (.const (.int .i64 56)) 3) (n:Nat) (hn:n≤1000000) (hx:a.eval x = .int .i64 ((n+55:Nat):Int)):(execOp a.eval o).run Tryd.prog w = .ok (.value (.int .i64 (Cold.np n:Nat))) w:=by
 have e:((n:Int)+55).tdiv 56=((n+55) / 56:Nat):=by
  rw [Int.tdiv_eq_ediv_of_nonneg (by omega)]
  omega
 have e2:IntKind.i64.wrap (((n+55) / 56:Nat):Int)=(((n+55) / 56:Nat):Int):=wrap_i64 _ (by omega) (by omega)
 have e3:((n:Int)+55) / 56=(((n+55) / 56:Nat):Int):=(by omega)
 simp only [execOp,ho,hx]
 simp [go_sem,e]
 rw [e3,e2]
 rfl
open Cold
theorem yF4 {n:Nat} (cs:List Nat) (h:cs.length=n):splice (yA0 (Zs n)) 0 (yA0 cs)=yA0 cs:=yB5 _ _ (by rw [yA1,bz];exact h)
theorem splice_pc (cs:List Nat):splice (yA0 (Zs 56)) 0 (yA0 (cs.take (min cs.length 56)))=yA0 (pc cs):=by
 have e:cs.take (min cs.length 56)=cs.take 56:=by
  rcases Nat.le_total cs.length 56 with h|h
  ·rw [Nat.min_eq_left h,List.take_of_length_le (Nat.le_refl _),List.take_of_length_le h]
  ·rw [Nat.min_eq_right h]
 rw [e]
 unfold splice pc
 rw [List.take_zero,List.nil_append,yD0,yA1,List.length_take,Nat.zero_add]
 congr 1
 unfold Zs yA0
 rw [List.map_replicate,List.map_replicate,List.drop_replicate]
 congr 1
 omega
theorem all_snoc (id:List Nat) (k:Nat) (h:k<id.length):(id.take (k+1)).all sign=((id.take k).all sign && sign (id.getD k 0)):=by
 have e:id.take (k+1)=id.take k++[id.getD k 0]:=by
  rw [List.take_add_one]
  simp [h]
 rw [e,List.all_append]
 simp
theorem name_not (id:List Nat) (k:Nat) (h:k<id.length) (hs:sign (id.getD k 0)=false):nameB id=false:=by
 unfold nameB
 have:id.all sign=false:=by
  rw [List.all_eq_false]
  exact ⟨id[k],List.getElem_mem h,by simpa [h] using hs⟩
 rw [this,Bool.and_false]
set_option maxHeartbeats 4000000 in
set_option maxRecDepth 100000 in
theorem isName_any (id:List Nat) (hb:∀c∈id,c<256) (w:World):Calls Tryd.prog 37 #[str id] w fun e w'=>e = .returned (.bool (nameB id))∧Below w.heap.size w w':=by
 have HB:Hid (∀c∈id,c<256):=hb
 clear hb
 obtain ⟨PQ,HPQ⟩:=exPQ fun (e:Ending) (w':World)=>e = .returned (.bool (nameB id))∧Below w.heap.size w w'
 rw [←HPQ.out]
 go_enter Tryd.func37,Tryd.ntmps37
 go_upto_region 0 with fail
 refine wp_region_lit ?_
 refine wa (.const (.bool false)) (.bool false) ?_
 simp only [Act.put,aS,aC,aZ]
 refine wpList_nil ?_
 by_cases h0:id.length<1
 ·go_upto_region 1 with fail
  refine wp_region_lit ?_
  refine wm 0 (str id) ?_
  refine wl rfl _ _ (run_lenStr id (.tmp 5) rfl rfl) ?_
  refine wl rfl _ _ (yB8 (.tmp 6) (.const (.int .i64 1)) rfl (id.length:Nat) 1 rfl rfl true (decide_eq_true (by omega))) ?_
  simp only [Act.put,aS,aC,aZ]
  refine wm 7 (.bool true) ?_
  simp only [Act.put,aS,aC,aZ]
  refine wpList_skip (by kernel_rfl) ?_
  simp only [Act.put,aS,aC,aZ]
  refine wpList_skip (by kernel_rfl) ?_
  simp only [Act.put,aS,aC,aZ]
  refine wpList_skip (by kernel_rfl) ?_
  simp only [Act.put,aS,aC,aZ]
  refine wl rfl _ _ (yA6 (.tmp 8) (.const (.bool true)) (.tmp 11) rfl true (.bool true) rfl rfl) ?_
  simp only [Act.put,aS,aC,aZ]
  refine wpList_nil ?_
  go_upto_region 2 with fail
  refine wp_region_lit ?_
  refine wa (.const (.bool false)) (.bool false) ?_
  simp only [Act.put,aS,aC,aZ]
  refine wpList_nil ?_
  go_wp2_with fail
  rw [HPQ.out]
  refine ⟨?_,Below.refl _ _⟩
  have:nameB id=false:=(by unfold nameB;simp;omega)
  rw [this] <;> rfl
 by_cases h1:16<id.length
 ·go_upto_region 1 with fail
  refine wp_region_lit ?_
  refine wm 0 (str id) ?_
  refine wl rfl _ _ (run_lenStr id (.tmp 5) rfl rfl) ?_
  refine wl rfl _ _ (yB8 (.tmp 6) (.const (.int .i64 1)) rfl (id.length:Nat) 1 rfl rfl false (decide_eq_false (by omega))) ?_
  simp only [Act.put,aS,aC,aZ]
  refine wm 7 (.bool false) ?_
  refine wl (by kernel_rfl) _ _ (yA4 (.tmp 0) rfl (str id) rfl) ?_
  refine wl (by kernel_rfl) _ _ (run_lenStr id (.tmp 9) rfl rfl) ?_
  simp only [Act.put,aS,aC,aZ]
  refine wl (by kernel_rfl) _ _ (yH6 (.tmp 10) (.const (.int .i64 16)) rfl (id.length:Nat) 16 rfl rfl true (decide_eq_true (by omega))) ?_
  refine wl rfl _ _ (yA6 (.tmp 8) (.const (.bool true)) (.tmp 11) rfl false (.bool true) rfl rfl) ?_
  simp only [Act.put,aS,aC,aZ]
  refine wpList_nil ?_
  go_upto_region 2 with fail
  refine wp_region_lit ?_
  refine wa (.const (.bool false)) (.bool false) ?_
  simp only [Act.put,aS,aC,aZ]
  refine wpList_nil ?_
  go_wp2_with fail
  rw [HPQ.out]
  refine ⟨?_,Below.refl _ _⟩
  have:nameB id=false:=(by unfold nameB;simp;omega)
  rw [this] <;> rfl
 go_upto_region 1 with fail
 refine wp_region_lit ?_
 refine wm 0 (str id) ?_
 refine wl rfl _ _ (run_lenStr id (.tmp 5) rfl rfl) ?_
 refine wl rfl _ _ (yB8 (.tmp 6) (.const (.int .i64 1)) rfl (id.length:Nat) 1 rfl rfl false (decide_eq_false (by omega))) ?_
 simp only [Act.put,aS,aC,aZ]
 refine wm 7 (.bool false) ?_
 refine wl (by kernel_rfl) _ _ (yA4 (.tmp 0) rfl (str id) rfl) ?_
 refine wl (by kernel_rfl) _ _ (run_lenStr id (.tmp 9) rfl rfl) ?_
 simp only [Act.put,aS,aC,aZ]
 refine wl (by kernel_rfl) _ _ (yH6 (.tmp 10) (.const (.int .i64 16)) rfl (id.length:Nat) 16 rfl rfl false (decide_eq_false (by omega))) ?_
 refine wl rfl _ _ (yA6 (.tmp 8) (.const (.bool true)) (.tmp 11) rfl false (.bool false) rfl rfl) ?_
 simp only [Act.put,aS,aC,aZ]
 refine wpList_nil ?_
 have H16:Hid (1≤id.length∧id.length≤16):=⟨by omega,by omega⟩
 go_upto_region 3 with fail
 refine wp_region_lit ?_
 refine wm 0 (str id) ?_
 simp only [Act.put,aS,aC,aZ]
 obtain ⟨vb,w1,hr_,ho_,hb_⟩:=run_strBs w id HB.out (by omega)
 refine wl rfl vb w1 (hr_ _ _ (.tmp 13) rfl rfl) ?_
 have H1:Hid (yA2 w1 vb id∧Below w.heap.size w w1):=⟨ho_.slice,hb_⟩
 clear ho_ hb_ hr_
 simp only [Act.put,aS,aC,aZ]
 refine wl rfl _ _ (yI9 H1.out.1 (.tmp 14) rfl rfl) ?_
 refine wl rfl _ _ (yA4 (.const (.int .i64 0)) rfl (.int .i64 0) rfl) ?_
 simp only [Act.put,aS,aC,aZ]
 refine wpList_nil ?_
 go_wp2_with fail
 go_loopw [4,16] (fun _ vk W => ∃k:Nat,vk = .int .i64 (k:Nat)∧k≤id.length∧Hid ((id.take k).all sign=true)∧w1=W) (fun _ vk _=>id.length - (intOf vk).toNat)
 case atStart=>exact ⟨0,rfl,Nat.zero_le _,rfl,rfl⟩
 case round =>
  obtain ⟨k,rfl,hk,HA,hw⟩:=hrel
  subst hw
  by_cases hlt:k<id.length
  ·go_upto_region 4 with fail
   refine wp_region_lit ?_
   refine wl rfl _ _ (yB8 (.tmp 16) (.tmp 15) rfl (k:Nat) (id.length:Nat) rfl rfl true (decide_eq_true (by omega))) ?_
   simp only [Act.put,aS,aC,aZ]
   refine wpList_nil ?_
   obtain ⟨bi,ji,hx_,hc_⟩:=H1.out.1.ix k hlt
   obtain ⟨c,hc⟩:∃c,c=id.getD k 0:=⟨_,rfl⟩
   rw [←hc] at hc_
   have HX:Hid ((∀w',(Instr.indexAt 38 vb (.int .i64 (k:Nat))).run Tryd.prog w' = .ok (.pointer (some ⟨bi,ji,none⟩)) w')∧w1.cell? ⟨bi,ji,none⟩=some (.int .u8 (c:Nat))∧c=id.getD k 0):=⟨hx_,hc_,hc⟩
   clear hx_ hc_ hc
   go_upto_region 5 with fail
   refine wp_region_lit ?_
   refine wl rfl _ _ (yD5 (.tmp 14) (.tmp 16) rfl _ _ _ rfl rfl HX.out.1) ?_
   refine wl rfl _ _ (yA7 o5 (.tmp 18) rfl bi (ji) rfl (.int .u8 (c:Nat)) HX.out.2.1) ?_
   refine wa (.tmp 19) (.int .u8 (c:Nat)) ?_
   simp only [Act.put,aS,aC,aZ]
   refine wpList_nil ?_
   have HK:Hid (k<id.length):=hlt
   clear hlt hk
   have HSG:Hid (sign c=((decide (97≤c) && decide (c≤122)) || (decide (48≤c) && decide (c≤57)) || decide (c=45) || decide (c=46))):=rfl
   have HN:=H16.out
   have hkb:k<16:=(by have:=HK.out;omega)
   go_wp2_with fail
   all_goals (try (rename_i q1 q2 q3 q4;simp at q1 q2 q3 q4))
   all_goals first
    | (rw [HPQ.out];refine ⟨?_,H1.out.2⟩;rw [name_not id k HK.out (by rw [←HX.out.2.2,HSG.out];simp <;> omega)] <;> rfl)
    | (refine ⟨⟨k+1,by go_num,HK.out,by show _=true;rw [all_snoc id k HK.out,HA.out,←HX.out.2.2,HSG.out];simp <;> omega,trivial⟩,?_⟩;have:=HK.out;simp [intOf];omega)
  ·go_upto_region 4 with fail
   refine wp_region_lit ?_
   refine wl rfl _ _ (yB8 (.tmp 16) (.tmp 15) rfl (k:Nat) (id.length:Nat) rfl rfl false (decide_eq_false (by omega))) ?_
   simp only [Act.put,aS,aC,aZ]
   refine wpList_nil ?_
   go_upto_region 9 with fail
   refine wp_region_lit ?_
   refine wa (.const (.bool true)) (.bool true) ?_
   simp only [Act.put,aS,aC,aZ]
   refine wpList_nil ?_
   go_wp2_with fail
   rw [HPQ.out]
   refine ⟨?_,H1.out.2⟩
   have hh:=HA.out
   rw [show k=id.length by omega,List.take_length] at hh
   have h16:=H16.out
   have:nameB id=true:=(by unfold nameB;rw [hh];simp;omega)
   rw [this] <;> rfl
set_option maxHeartbeats 4000000 in
set_option maxRecDepth 100000 in
theorem tagOf_any (k d a i:Nat) (hk:k<256) (w:World):Calls Tryd.prog 70 #[.int .u8 (k:Nat),.int .i64 (d:Nat),.int .i64 (a:Nat),.int .i64 (i:Nat)] w fun e w'=>e = .returned (av (tg k d a i))∧Below w.heap.size w w':=by
 have HT:Hid (tg k d a i=[k,d % 256,a / 256 % 256,a % 256,i % 256,0,0,0]):=(by show _=_;unfold tg;rw [Nat.mod_eq_of_lt hk])
 have H0:Hid (Loc w w []):=Loc.nil (Below.refl _ _)
 obtain ⟨PQ,HPQ⟩:=exPQ fun (e:Ending) (w':World)=>e = .returned (av (tg k d a i))∧Below w.heap.size w w'
 rw [←HPQ.out]
 go_enter Tryd.func70,Tryd.ntmps70
 go_upto_region 0 with fail
 refine wp_region_lit ?_
 refine wl rfl _ _ (yB6 (yA0 (Zs 8)) zero131 rfl) ?_
 have k_:=H0.out.box 131 (yA0 (Zs 8))
 obtain ⟨w1,hW_⟩:∃W,W=w.alloc (.cells (yA0 (Zs 8)).toArray 131):=⟨_,rfl⟩
 obtain ⟨q1,hq_⟩:∃q,q=w.heap.size:=⟨_,rfl⟩
 rw [←hW_,←hq_] at k_
 rw [←hW_,←hq_]
 clear hq_
 have Rw1:Hid (Loc w w1 [(q1,131,yA0 (Zs 8))]):=k_
 clear k_ hW_ H0
 simp only [Act.put,aS,aC,aZ]
 refine wpList_nil ?_
 go_upto_region 1 with fail
 refine wp_region_lit ?_
 refine wm 0 (.int .u8 (k:Nat)) ?_
 refine wm 1 (.int .i64 (d:Nat)) ?_
 refine wl rfl _ _ (run_toU8 (.tmp 10) rfl d rfl) ?_
 simp only [Act.put,aS,aC,aZ]
 refine wm 2 (.int .i64 (a:Nat)) ?_
 refine wl rfl _ _ (run_shr8 (.tmp 12) rfl a rfl) ?_
 refine wl rfl _ _ (run_toU8 (.tmp 13) rfl (a / 256) rfl) ?_
 simp only [Act.put,aS,aC,aZ]
 refine wm 2 (.int .i64 (a:Nat)) ?_
 refine wl rfl _ _ (run_toU8 (.tmp 15) rfl a rfl) ?_
 refine wm 3 (.int .i64 (i:Nat)) ?_
 simp only [Act.put,aS,aC,aZ]
 refine wl rfl _ _ (run_toU8 (.tmp 17) rfl i rfl) ?_
 refine wl rfl _ _ (run_build131 (.tmp 9) (.tmp 11) (.tmp 14) (.tmp 16) (.tmp 18) rfl k (d % 256) (a / 256 % 256) (a % 256) (i % 256) rfl rfl rfl rfl rfl) ?_
 rw [←HT.out]
 simp only [Act.put,aS,aC,aZ]
 refine wlS rfl rfl _ (yB3 ag131 (.tmp 8) (.tmp 19) rfl Rw1.out 0 rfl (0) rfl (yA0 (tg k d a i)) rfl (by rw [yA1];rfl) (by rw [yA1,bz,tg_length];decide) (yB0 _)).1 ?_
 have k_:=Rw1.out.lay 0 rfl (0) (yA0 (tg k d a i))
 rw [yF4 (n:=8) _ (tg_length k d a i)] at k_ ⊢
 obtain ⟨w2,hW_⟩:∃W,W=w1.setRow q1 (yA0 (tg k d a i)).toArray:=⟨_,rfl⟩
 rw [←hW_] at k_ ⊢
 have Rw2:Hid (Loc w w2 [(q1,131,yA0 (tg k d a i))]):=k_
 clear k_ hW_ Rw1
 refine wpList_nil ?_
 go_wp2_with fail
 rw [HPQ.out]
 exact bodyPost_ret (yK1 ag131 Tryd.results70 _ _ q1 131 rfl _ (by rw [yA1];rfl) (Rw2.out.at 0 rfl)) rfl ⟨rfl,Rw2.out.below⟩
set_option maxHeartbeats 4000000 in
set_option maxRecDepth 100000 in
theorem yK2 (v:Value) (cs:List Nat) (w:World) (h:yA2 w v cs):Calls Tryd.prog 63 #[v] w fun e w'=>e = .returned (av (pc cs))∧Below w.heap.size w w':=by
 have HIN:Hid (yA2 w v cs):=h
 have H0:Hid (Loc w w []):=Loc.nil (Below.refl _ _)
 clear h
 obtain ⟨PQ,HPQ⟩:=exPQ fun (e:Ending) (w':World)=>e = .returned (av (pc cs))∧Below w.heap.size w w'
 rw [←HPQ.out]
 go_enter Tryd.func63,Tryd.ntmps63
 go_upto_region 0 with fail
 refine wp_region_lit ?_
 refine wl rfl _ _ (yB6 (yA0 (Zs 56)) zero129 rfl) ?_
 have k_:=H0.out.box 129 (yA0 (Zs 56))
 obtain ⟨w1,hW_⟩:∃W,W=w.alloc (.cells (yA0 (Zs 56)).toArray 129):=⟨_,rfl⟩
 obtain ⟨q1,hq_⟩:∃q,q=w.heap.size:=⟨_,rfl⟩
 rw [←hW_,←hq_] at k_
 rw [←hW_,←hq_]
 clear hq_
 have Rw1:Hid (Loc w w1 [(q1,129,yA0 (Zs 56))]):=k_
 clear k_ hW_ H0
 simp only [Act.put,aS,aC,aZ]
 refine wpList_nil ?_
 go_upto_region 1 with fail
 refine wp_region_lit ?_
 refine wl rfl _ _ (yB6 (yA0 (Zs 56)) zero129 rfl) ?_
 have k_:=Rw1.out.box 129 (yA0 (Zs 56))
 obtain ⟨w2,hW_⟩:∃W,W=w1.alloc (.cells (yA0 (Zs 56)).toArray 129):=⟨_,rfl⟩
 obtain ⟨q2,hq_⟩:∃q,q=w1.heap.size:=⟨_,rfl⟩
 rw [←hW_,←hq_] at k_
 rw [←hW_,←hq_]
 clear hq_
 have Rw2:Hid (Loc w w2 [(q1,129,yA0 (Zs 56)),(q2,129,yA0 (Zs 56))]):=k_
 clear k_ hW_ Rw1
 simp only [Act.put,aS,aC,aZ]
 refine wpList_nil ?_
 go_upto_region 2 with fail
 refine wp_region_lit ?_
 refine wl rfl _ _ (run_slA arr129 (.tmp 3) none none rfl q2 0 0 56 rfl ⟨Or.inl ⟨rfl,rfl⟩,Or.inl ⟨rfl,rfl⟩,by omega,by omega,by omega⟩) ?_
 refine wm 0 v ?_
 simp only [Act.put,aS,aC,aZ]
 obtain ⟨w3,hr_,hrow_,hch_,hsz_⟩:=copyS (g:=q2) (off:=0) (dLen:=56) (dCap:=56) (HIN.out.later Rw2.out.below) (Rw2.out.at 1 rfl) (min cs.length 56) rfl (by rw [bz];omega)
 rw [splice_pc] at hrow_
 refine wl rfl (.int .i64 ((min cs.length 56:Nat):Int)) w3 (run_copyOp (.tmp 4) (.tmp 5) rfl (.slice (some ⟨q2,0,none⟩) 56 56) v _ rfl rfl hr_) ?_
 have k_:=Rw2.out.set 1 rfl hrow_ hch_
 have Rw3:Hid (Loc w w3 [(q1,129,yA0 (Zs 56)),(q2,129,yA0 (pc cs))]):=k_
 clear hr_ hrow_ hch_ hsz_ k_ Rw2
 simp only [Act.put,aS,aC,aZ]
 refine wpList_nil ?_
 go_upto_region 3 with fail
 refine wp_region_lit ?_
 refine wl rfl _ _ (yA9 ag129 (.tmp 3) rfl q2 (0) rfl (yA0 (pc cs)) (by rw [yA1,yF5]) (yF0 Rw3.out 1 rfl)) ?_
 simp only [Act.put,aS,aC,aZ]
 refine wlS rfl rfl _ (yB3 ag129 (.tmp 2) (.tmp 7) rfl Rw3.out 0 rfl (0) rfl (yA0 (pc cs)) rfl (by rw [yA1,yF5]) (by rw [yA1,yF5,bz];decide) (yB0 _)).1 ?_
 have k_:=Rw3.out.lay 0 rfl (0) (yA0 (pc cs))
 rw [yF4 _ (yF5 cs)] at k_ ⊢
 obtain ⟨w4,hW_⟩:∃W,W=w3.setRow q1 (yA0 (pc cs)).toArray:=⟨_,rfl⟩
 rw [←hW_] at k_ ⊢
 have Rw4:Hid (Loc w w4 [(q1,129,yA0 (pc cs)),(q2,129,yA0 (pc cs))]):=k_
 clear k_ hW_ Rw3
 refine wpList_nil ?_
 go_wp2_with fail
 rw [HPQ.out]
 exact bodyPost_ret (yK1 ag129 Tryd.results63 _ _ q1 129 rfl _ (by rw [yA1,yF5]) (Rw4.out.at 0 rfl)) rfl ⟨rfl,Rw4.out.below⟩
set_option maxHeartbeats 4000000 in
set_option maxRecDepth 100000 in
theorem yI4 (n:Nat) (hn:n≤9223372036854775807) (w:World):Calls Tryd.prog 14 #[.int .i64 (n:Nat)] w fun e w'=>e = .returned (.int .i64 (nbP n:Nat))∧w=w':=by
 obtain ⟨PQ,HPQ⟩:=exPQ fun (e:Ending) (w':World)=>e = .returned (.int .i64 (nbP n:Nat))∧w=w'
 rw [←HPQ.out]
 go_enter Tryd.func14,Tryd.ntmps14
 by_cases h:512<n
 ·go_upto_region 0 with fail
  refine wp_region_lit ?_
  refine wa (.const (.int .i64 0)) (.int .i64 0) ?_
  simp only [Act.put,aS,aC,aZ]
  refine wpList_nil ?_
  go_upto_region 1 with fail
  refine wp_region_lit ?_
  refine wm 0 (.int .i64 (n:Nat)) ?_
  refine wl rfl _ _ (yB8 (.tmp 3) (.const (.int .i64 0)) rfl (n:Nat) 0 rfl rfl false (decide_eq_false (by omega))) ?_
  refine wm 4 (.bool false) ?_
  simp only [Act.put,aS,aC,aZ]
  refine wl (by kernel_rfl) _ _ (yA4 (.tmp 0) rfl (.int .i64 (n:Nat)) rfl) ?_
  refine wl (by kernel_rfl) _ _ (yH6 (.tmp 6) (.const (.int .i64 512)) rfl (n:Nat) 512 rfl rfl true (decide_eq_true (by omega))) ?_
  refine wl rfl _ _ (yA6 (.tmp 5) (.const (.bool true)) (.tmp 7) rfl false (.bool true) rfl rfl) ?_
  simp only [Act.put,aS,aC,aZ]
  refine wpList_nil ?_
  go_upto_region 2 with fail
  refine wp_region_lit ?_
  refine wa (.const (.int .i64 0)) (.int .i64 0) ?_
  simp only [Act.put,aS,aC,aZ]
  refine wpList_nil ?_
  go_wp2_with fail
  rw [HPQ.out]
  exact ⟨by unfold nbP;rw [if_neg (by omega)];rfl,rfl⟩
 ·go_upto_region 0 with fail
  refine wp_region_lit ?_
  refine wa (.const (.int .i64 0)) (.int .i64 0) ?_
  simp only [Act.put,aS,aC,aZ]
  refine wpList_nil ?_
  go_upto_region 1 with fail
  refine wp_region_lit ?_
  refine wm 0 (.int .i64 (n:Nat)) ?_
  refine wl rfl _ _ (yB8 (.tmp 3) (.const (.int .i64 0)) rfl (n:Nat) 0 rfl rfl false (decide_eq_false (by omega))) ?_
  refine wm 4 (.bool false) ?_
  simp only [Act.put,aS,aC,aZ]
  refine wl (by kernel_rfl) _ _ (yA4 (.tmp 0) rfl (.int .i64 (n:Nat)) rfl) ?_
  refine wl (by kernel_rfl) _ _ (yH6 (.tmp 6) (.const (.int .i64 512)) rfl (n:Nat) 512 rfl rfl false (decide_eq_false (by omega))) ?_
  refine wl rfl _ _ (yA6 (.tmp 5) (.const (.bool true)) (.tmp 7) rfl false (.bool false) rfl rfl) ?_
  simp only [Act.put,aS,aC,aZ]
  refine wpList_nil ?_
  go_upto_region 3 with fail
  refine wp_region_lit ?_
  refine wm 0 (.int .i64 (n:Nat)) ?_
  refine wl rfl (.int .i64 ((n+56:Nat):Int)) _ (yC8 (.tmp 9) (.const (.int .i64 56)) rfl (n:Nat) 56 _ rfl rfl (by omega) (by omega) (by omega)) ?_
  refine wl rfl (.int .i64 ((n+55:Nat):Int)) _ (run_subZ (.tmp 10) (.const (.int .i64 1)) rfl ((n+56:Nat):Int) 1 _ rfl rfl (by omega) (by omega) (by omega)) ?_
  simp only [Act.put,aS,aC,aZ]
  refine wl rfl _ _ (run_quo56 (.tmp 11) rfl n (by omega) rfl) ?_
  refine wl rfl (.int .i64 (nb n:Nat)) _ (yC8 (.const (.int .i64 2)) (.tmp 12) rfl 2 (np n:Nat) _ rfl rfl (by unfold nb;omega) (by omega) (by unfold nb np;omega)) ?_
  refine wa (.tmp 13) (.int .i64 (nb n:Nat)) ?_
  simp only [Act.put,aS,aC,aZ]
  refine wpList_nil ?_
  go_wp2_with fail
  rw [HPQ.out]
  exact ⟨by unfold nbP;rw [if_pos (by omega)];rfl,rfl⟩
end Go.Proofs.YtpkkkkomdblpoaaDoor

namespace Go.Proofs.YtpkkkkomdblpoaaDoor
open Go.RowKit Go.Maps
open Cold
def kindT (n:Int):Int:=(if n<0 then -(n+1) else n) % 10
theorem kindT_any (n:Int) (hn : -9223372036854775808≤n∧n≤9223372036854775807) (w:World):Calls Tryd.prog 11 #[.int .i64 n] w fun e w'=>e = .returned (.int .i64 (kindT n))∧w=w':=by
 have HK:Hid (kindT n=(if n<0 then -(n+1) else n) % 10):=rfl
 generalize kindT n=k at *
 obtain ⟨h1,h2⟩:=hn
 go_enter Tryd.func11,Tryd.ntmps11
 by_cases h:n<0
 ·have HK2:Hid (k = -(n+1) % 10):=by rw [HK.out,if_pos h];exact rfl
  clear HK
  have hd:decide (n<0)=true:=decide_eq_true h
  go_wp2
  all_goals (go_ret;rw [HK2.out];refine ⟨congrArg (fun b=>Ending.returned (Value.int .i64 b)) ?_,rfl⟩;first|omega|(rw [←Int.neg_tmod,Int.tmod_eq_emod_of_nonneg (by omega)]))
 ·have HK2:Hid (k=n % 10):=by rw [HK.out,if_neg h];exact rfl
  clear HK
  have hd:decide (n<0)=false:=decide_eq_false h
  go_wp2
  all_goals (go_ret;rw [HK2.out];refine ⟨congrArg (fun b=>Ending.returned (Value.int .i64 b)) ?_,rfl⟩;first|omega|(rw [←Int.neg_tmod,Int.tmod_eq_emod_of_nonneg (by omega)]))
end Go.Proofs.YtpkkkkomdblpoaaDoor

/- Layer 15: the document's volume: Read. -/
import Derived.Test.YtpkkkkomdblpoaaDoorP35
namespace Go.Proofs.YtpkkkkomdblpoaaDoor
open Go.RowKit Go.Maps
open Cold
theorem run_bappU {w:World} (base:Nat) (v vx:Value) (cs ys:List Nat) (hown:BOwn w base v cs) (hin:yA3 w vx ys) (hsz:cs.length+ys.length≤140737488355328) (hbase:base≤w.heap.size) :
  ∃v' w',(∀ty,(Builtin.append_ #[38,38] ty #[v,vx]).run Tryd.prog w = .ok v' w')∧BOwn w' base v' (cs++ys)∧Below base w w':=by
 obtain ⟨v',w',hr,ho,hg⟩:=run_bappend base 0 v vx cs ys hown hin hsz hbase
 exact ⟨v',w',fun ty=>hr,ho,hown.belowG hg hbase⟩
def Hit (x:Pq) (y:Td):Prop:=x.dv=(y.d:Nat)∧x.at_=(y.a:Nat)∧x.ln=(y.n:Nat)
instance (x:Pq) (y:Td):Decidable (Hit x y):=by unfold Hit;infer_instance
set_option maxHeartbeats 4000000 in
set_option maxRecDepth 100000 in
theorem rread_any {w:World} {B t gv:Nat} {c:Nat→Colour} (gy d most len:Nat) (vL:Value) (sd:Bool) (l:List Td) (hr:Row w gy 37 (rvC d most len vL sd)) (hT:TdIn B t gv c w vL l) (hsz:l.length≤1000000) (hbs:∀k,k<l.length→(l.getD k default).bs.length≤512) (x:Pq):Calls Tryd.prog 18 #[ptr gy,.agg x.cells.toArray] w fun e w'=>Below w.heap.size w w'∧((∃k,k<l.length∧Hit x (l.getD k default)∧(∀j,j<k→¬ Hit x (l.getD j default))∧∃vb,e = .returned (.tuple #[str (l.getD k default).id,vb,.int .i64 0])∧BOwn w' w.heap.size vb (l.getD k default).bs)∨((∀j,j<l.length→¬ Hit x (l.getD j default))∧e = .returned (.tuple #[str [],.slice none 0 0,.int .i64 4]))):=by
 obtain ⟨n,hn⟩:∃n,n=l.length:=⟨_,rfl⟩
 obtain ⟨_,M,hM1,hM2,hM3⟩:=hT
 have HM:Hid (Row w gy 37 (rvC d most len vL sd)∧COwn 48 7 w B vL M∧M.length=n∧n=l.length∧(∀k,k<n→∃vb,M.getD k []=tdC (l.getD k default) vb∧yA3 w vb (l.getD k default).bs)∧(∀k,k<n→(l.getD k default).bs.length≤512)):=⟨hr,hM1,by rw [hM2,hn],hn,fun k hk=>(by obtain ⟨vb,e,h,_⟩:=hM3 k (by rw [←hn];exact hk);exact ⟨vb,e,h.1⟩),fun k hk=>hbs k (by rw [←hn];exact hk)⟩
 rw [←hn] at hsz
 clear hr hM1 hM2 hM3 hbs
 have HK0:Hid (Loc w w []):=Loc.nil (Below.refl _ _)
 rw [←hn]
 obtain ⟨PQ,HPQ⟩:=exPQ fun (e:Ending) (w':World)=>Below w.heap.size w w'∧((∃k,k<n∧Hit x (l.getD k default)∧(∀j,j<k→¬ Hit x (l.getD j default))∧∃vb,e = .returned (.tuple #[str (l.getD k default).id,vb,.int .i64 0])∧BOwn w' w.heap.size vb (l.getD k default).bs)∨((∀j,j<n→¬ Hit x (l.getD j default))∧e = .returned (.tuple #[str [],.slice none 0 0,.int .i64 4])))
 rw [←HPQ.out]
 clear hn
 go_enter Tryd.func18,Tryd.ntmps18
 go_upto_region 0 with fail
 refine wp_region_lit ?_
 refine wl rfl _ _ (yG9 (.tmp 1) rfl ((plC x.dv x.at_ x.ln x.bd)) rfl) ?_
 have k_:=HK0.out.box 40 ((plC x.dv x.at_ x.ln x.bd))
 obtain ⟨w1,hW_⟩:∃W,W=w.alloc (.cells ((plC x.dv x.at_ x.ln x.bd)).toArray 40):=⟨_,rfl⟩
 obtain ⟨q3,hq_⟩:∃q,q=w.heap.size:=⟨_,rfl⟩
 rw [←hW_,←hq_] at k_
 rw [←hW_,←hq_]
 clear hq_
 have Rw1:Hid (Loc w w1 [(q3,40,(plC x.dv x.at_ x.ln x.bd))]):=k_
 clear k_ hW_ HK0
 simp only [Act.put,aS,aC,aZ]
 refine wa (.const (.string { data:=#[] })) (.string { data:=#[] }) ?_
 refine wa (.const (.slice none 0 0)) (.slice none 0 0) ?_
 refine wa (.const (.int .i64 0)) (.int .i64 0) ?_
 simp only [Act.put,aS,aC,aZ]
 refine wpList_nil ?_
 go_upto_region 1 with fail
 refine wp_region_lit ?_
 refine wa (.const (.int .i64 0)) (.int .i64 0) ?_
 simp only [Act.put,aS,aC,aZ]
 refine wpList_nil ?_
 go_wp2_with fail
 go_loopw [7] (fun vk W => ∃k:Nat,vk = .int .i64 (k:Nat)∧k≤n∧Hid (Loc w W [(q3,40,(plC x.dv x.at_ x.ln x.bd))]∧∀j,j<k→¬ Hit x (l.getD j default))) (fun vk _=>n - (intOf vk).toNat)
 case atStart=>exact ⟨0,rfl,Nat.zero_le _,Rw1.out,fun j hj=>absurd hj (Nat.not_lt_zero _)⟩
 case round =>
  obtain ⟨k,rfl,hk,HI⟩:=hrel
  have HLO:Hid (Loc w wr [(q3,40,(plC x.dv x.at_ x.ln x.bd))]):=HI.out.1
  have HNH:Hid (∀j,j<k→¬ Hit x (l.getD j default)):=HI.out.2
  clear HI
  by_cases hlt:k<n
  ·go_upto_region 2 with fail
   refine wp_region_lit ?_
   refine wm 7 (.int .i64 (k:Nat)) ?_
   refine wm 0 (ptr gy) ?_
   refine wl rfl _ _ (yC1 (.tmp 10) rfl ⟨gy,0,none⟩ rfl) ?_
   refine wl rfl _ _ (yA2 f37_3 (.tmp 11) rfl gy (0) rfl) ?_
   refine wl rfl _ _ (yA4 o35 (.tmp 12) rfl gy (0+3) rfl vL ((HM.out.1.later HLO.out.below HM.out.1.lt).at (0+3) _ rfl)) ?_
   refine wl rfl (.int .i64 (n:Nat)) _ ((by rw [←HM.out.2.2.1];exact yJ1 el35 HM.out.2.1 (.tmp 13) rfl rfl)) ?_
   simp only [Act.put,aS,aC,aZ]
   refine wl rfl _ _ (yB5 (.tmp 9) (.tmp 14) rfl (k:Nat) (n:Nat) rfl rfl true (decide_eq_true (by omega))) ?_
   simp only [Act.put,aS,aC,aZ]
   refine wpList_nil ?_
   obtain ⟨vb,hMk,hsl⟩:=HM.out.2.2.2.2.1 k hlt
   obtain ⟨g2,_,_,hx2_,hc2_⟩:=HM.out.2.1.ix el35 k (by rw [HM.out.2.2.1];exact hlt)
   rw [hMk] at hc2_
   have hbl:=HM.out.2.2.2.2.2 k hlt
   obtain ⟨td,htd⟩:∃x,x=l.getD k default:=⟨_,rfl⟩
   rw [←htd] at hc2_ hsl hbl
   have HX:Hid ((∀w',(Instr.indexAt 35 vL (.int .i64 (k:Nat))).run Tryd.prog w' = .ok (.pointer (some ⟨g2,k * 7,none⟩)) w')∧(∀W':World,Below w.heap.size w W'→∀j u,(tdC td vb)[j]? = some u→W'.cell? ⟨g2,k * 7+j,none⟩=some u)∧yA3 w vb td.bs∧td.bs.length≤512∧td=l.getD k default):=⟨hx2_,fun W' hb=>hc2_ W' ⟨HM.out.2.1.1,yI7 HM.out.2.1.2 hb⟩,hsl,hbl,htd⟩
   clear hx2_ hc2_ hsl hbl hMk htd
   go_upto_region 4 with fail
   refine wp_region_lit ?_
   refine wm 0 (ptr gy) ?_
   refine wl rfl _ _ (yC1 (.tmp 18) rfl ⟨gy,0,none⟩ rfl) ?_
   refine wl rfl _ _ (yA2 f37_3 (.tmp 19) rfl gy (0) rfl) ?_
   refine wl rfl _ _ (yA4 o35 (.tmp 20) rfl gy (0+3) rfl vL ((HM.out.1.later HLO.out.below HM.out.1.lt).at (0+3) _ rfl)) ?_
   refine wm 7 (.int .i64 (k:Nat)) ?_
   refine wl rfl _ _ (yE9 (.tmp 21) (.tmp 22) rfl _ _ _ rfl rfl HX.out.1) ?_
   simp only [Act.put,aS,aC,aZ]
   refine wl rfl _ _ (yA2 f48_2 (.tmp 23) rfl g2 (k * 7) rfl) ?_
   refine wl rfl _ _ (yA9 ag40 (.tmp 24) rfl g2 (k * 7+2) rfl ((plC (td.d:Nat) (td.a:Nat) (td.n:Nat) false)) rfl (fun j u hu=>by rw [Nat.add_assoc];exact HX.out.2.1 _ HLO.out.below (2+j) u (tdC_pl td vb j u hu))) ?_
   refine wl rfl _ _ (yB3 ((plC 0 0 0 false)) zero40 rfl) ?_
   have k_:=HLO.out.box 40 ((plC 0 0 0 false))
   obtain ⟨w2,hW_⟩:∃W,W=wr.alloc (.cells ((plC 0 0 0 false)).toArray 40):=⟨_,rfl⟩
   obtain ⟨q8,hq_⟩:∃q,q=wr.heap.size:=⟨_,rfl⟩
   rw [←hW_,←hq_] at k_
   rw [←hW_,←hq_]
   clear hq_
   have Rw2:Hid (Loc w w2 [(q3,40,(plC x.dv x.at_ x.ln x.bd)),(q8,40,(plC 0 0 0 false))]):=k_
   clear k_ hW_ HLO
   simp only [Act.put,aS,aC,aZ]
   refine wlS rfl rfl _ (yB6 ag40 (.tmp 8) (.tmp 25) rfl Rw2.out 1 rfl (0) rfl ((plC (td.d:Nat) (td.a:Nat) (td.n:Nat) false)) rfl rfl (Nat.le_refl 4) (yF7 _ _ _ _)).1 ?_
   have k_:=Rw2.out.lay 1 rfl (0) ((plC (td.d:Nat) (td.a:Nat) (td.n:Nat) false))
   rw [yB7 (plC 0 0 0 false) (plC (td.d:Nat) (td.a:Nat) (td.n:Nat) false) rfl] at k_ ⊢
   obtain ⟨w3,hW_⟩:∃W,W=w2.setRow q8 ((plC (td.d:Nat) (td.a:Nat) (td.n:Nat) false)).toArray:=⟨_,rfl⟩
   rw [←hW_] at k_ ⊢
   have Rw3:Hid (Loc w w3 [(q3,40,(plC x.dv x.at_ x.ln x.bd)),(q8,40,(plC (td.d:Nat) (td.a:Nat) (td.n:Nat) false))]):=k_
   clear k_ hW_ Rw2
   refine wpList_nil ?_
   by_cases h1_:¬ x.dv=((td.d:Nat):Int)
   ·have h1:=h1_
    go_upto_region 5 with fail
    refine wp_region_lit ?_
    refine wl rfl _ _ (yA2 f40_0 (.tmp 3) rfl q3 (0) rfl) ?_
    refine wl rfl _ _ (yA4 o3 (.tmp 26) rfl q3 (0+0) rfl (.int .i64 x.dv) ((Rw3.out.at 0 rfl).at (0+0) _ rfl)) ?_
    refine wl rfl _ _ (yA2 f40_0 (.tmp 8) rfl q8 (0) rfl) ?_
    refine wl rfl _ _ (yA4 o3 (.tmp 28) rfl q8 (0+0) rfl (.int .i64 (td.d:Nat)) ((Rw3.out.at 1 rfl).at (0+0) _ rfl)) ?_
    refine wl rfl _ _ (yC3 (.tmp 27) (.tmp 29) rfl x.dv (td.d:Nat) rfl rfl false (decide_eq_false h1)) ?_
    refine wm 30 (.bool false) ?_
    simp only [Act.put,aS,aC,aZ]
    with_reducible refine wpList_skip (by kernel_rfl) ?_
    simp only [Act.put,aS,aC,aZ]
    with_reducible refine wpList_skip (by kernel_rfl) ?_
    simp only [Act.put,aS,aC,aZ]
    with_reducible refine wpList_skip (by kernel_rfl) ?_
    simp only [Act.put,aS,aC,aZ]
    with_reducible refine wpList_skip (by kernel_rfl) ?_
    simp only [Act.put,aS,aC,aZ]
    with_reducible refine wpList_skip (by kernel_rfl) ?_
    simp only [Act.put,aS,aC,aZ]
    refine wl rfl _ _ (yA8 (.tmp 31) (.tmp 36) (.const (.bool false)) rfl false (.bool false) rfl rfl) ?_
    refine wm 37 (.bool false) ?_
    simp only [Act.put,aS,aC,aZ]
    with_reducible refine wpList_skip (by kernel_rfl) ?_
    simp only [Act.put,aS,aC,aZ]
    with_reducible refine wpList_skip (by kernel_rfl) ?_
    simp only [Act.put,aS,aC,aZ]
    with_reducible refine wpList_skip (by kernel_rfl) ?_
    simp only [Act.put,aS,aC,aZ]
    with_reducible refine wpList_skip (by kernel_rfl) ?_
    simp only [Act.put,aS,aC,aZ]
    with_reducible refine wpList_skip (by kernel_rfl) ?_
    simp only [Act.put,aS,aC,aZ]
    refine wl rfl _ _ (yA8 (.tmp 38) (.tmp 43) (.const (.bool false)) rfl false (.bool false) rfl rfl) ?_
    simp only [Act.put,aS,aC,aZ]
    refine wpList_nil ?_
    have HNk:Hid (¬ Hit x td):=fun hh=>h1 hh.1
    go_upto_region 3 with fail
    refine wp_region_lit ?_
    refine wm 7 (.int .i64 (k:Nat)) ?_
    refine wl rfl (.int .i64 ((k+1:Nat):Int)) _ (yD6 (.tmp 16) (.const (.int .i64 1)) rfl (k:Nat) 1 _ rfl rfl (by omega) (by omega) (by omega)) ?_
    refine wa (.tmp 17) (.int .i64 ((k+1:Nat):Int)) ?_
    simp only [Act.put,aS,aC,aZ]
    refine wpList_nil ?_
    go_wp2_with fail
    exact ⟨⟨k+1,rfl,by omega,Rw3.out.take 1,fun j hj=>by by_cases ej:j=k;subst ej;rw [←HX.out.2.2.2.2];exact HNk.out;exact HNH.out j (by omega)⟩,by simp [intOf];omega⟩
   have h1:=Decidable.not_not.1 h1_
   clear h1_
   by_cases h2_:¬ x.at_=((td.a:Nat):Int)
   ·have h2:=h2_
    go_upto_region 5 with fail
    refine wp_region_lit ?_
    refine wl rfl _ _ (yA2 f40_0 (.tmp 3) rfl q3 (0) rfl) ?_
    refine wl rfl _ _ (yA4 o3 (.tmp 26) rfl q3 (0+0) rfl (.int .i64 x.dv) ((Rw3.out.at 0 rfl).at (0+0) _ rfl)) ?_
    refine wl rfl _ _ (yA2 f40_0 (.tmp 8) rfl q8 (0) rfl) ?_
    refine wl rfl _ _ (yA4 o3 (.tmp 28) rfl q8 (0+0) rfl (.int .i64 (td.d:Nat)) ((Rw3.out.at 1 rfl).at (0+0) _ rfl)) ?_
    refine wl rfl _ _ (yC3 (.tmp 27) (.tmp 29) rfl x.dv (td.d:Nat) rfl rfl true (decide_eq_true h1)) ?_
    refine wm 30 (.bool true) ?_
    simp only [Act.put,aS,aC,aZ]
    refine wl (by kernel_rfl) _ _ (yA2 f40_1 (.tmp 3) rfl q3 (0) rfl) ?_
    refine wl (by kernel_rfl) _ _ (yA4 o3 (.tmp 32) rfl q3 (0+1) rfl (.int .i64 x.at_) ((Rw3.out.at 0 rfl).at (0+1) _ rfl)) ?_
    refine wl (by kernel_rfl) _ _ (yA2 f40_1 (.tmp 8) rfl q8 (0) rfl) ?_
    refine wl (by kernel_rfl) _ _ (yA4 o3 (.tmp 34) rfl q8 (0+1) rfl (.int .i64 (td.a:Nat)) ((Rw3.out.at 1 rfl).at (0+1) _ rfl)) ?_
    refine wl (by kernel_rfl) _ _ (yC3 (.tmp 33) (.tmp 35) rfl x.at_ (td.a:Nat) rfl rfl false (decide_eq_false h2)) ?_
    refine wl rfl _ _ (yA8 (.tmp 31) (.tmp 36) (.const (.bool false)) rfl true (.bool false) rfl rfl) ?_
    simp only [Act.put,aS,aC,aZ]
    refine wm 37 (.bool false) ?_
    simp only [Act.put,aS,aC,aZ]
    with_reducible refine wpList_skip (by kernel_rfl) ?_
    simp only [Act.put,aS,aC,aZ]
    with_reducible refine wpList_skip (by kernel_rfl) ?_
    simp only [Act.put,aS,aC,aZ]
    with_reducible refine wpList_skip (by kernel_rfl) ?_
    simp only [Act.put,aS,aC,aZ]
    with_reducible refine wpList_skip (by kernel_rfl) ?_
    simp only [Act.put,aS,aC,aZ]
    with_reducible refine wpList_skip (by kernel_rfl) ?_
    simp only [Act.put,aS,aC,aZ]
    refine wl rfl _ _ (yA8 (.tmp 38) (.tmp 43) (.const (.bool false)) rfl false (.bool false) rfl rfl) ?_
    simp only [Act.put,aS,aC,aZ]
    refine wpList_nil ?_
    have HNk:Hid (¬ Hit x td):=fun hh=>h2 hh.2.1
    go_upto_region 3 with fail
    refine wp_region_lit ?_
    refine wm 7 (.int .i64 (k:Nat)) ?_
    refine wl rfl (.int .i64 ((k+1:Nat):Int)) _ (yD6 (.tmp 16) (.const (.int .i64 1)) rfl (k:Nat) 1 _ rfl rfl (by omega) (by omega) (by omega)) ?_
    refine wa (.tmp 17) (.int .i64 ((k+1:Nat):Int)) ?_
    simp only [Act.put,aS,aC,aZ]
    refine wpList_nil ?_
    go_wp2_with fail
    exact ⟨⟨k+1,rfl,by omega,Rw3.out.take 1,fun j hj=>by by_cases ej:j=k;subst ej;rw [←HX.out.2.2.2.2];exact HNk.out;exact HNH.out j (by omega)⟩,by simp [intOf];omega⟩
   have h2:=Decidable.not_not.1 h2_
   clear h2_
   by_cases h3_:¬ x.ln=((td.n:Nat):Int)
   ·have h3:=h3_
    go_upto_region 5 with fail
    refine wp_region_lit ?_
    refine wl rfl _ _ (yA2 f40_0 (.tmp 3) rfl q3 (0) rfl) ?_
    refine wl rfl _ _ (yA4 o3 (.tmp 26) rfl q3 (0+0) rfl (.int .i64 x.dv) ((Rw3.out.at 0 rfl).at (0+0) _ rfl)) ?_
    refine wl rfl _ _ (yA2 f40_0 (.tmp 8) rfl q8 (0) rfl) ?_
    refine wl rfl _ _ (yA4 o3 (.tmp 28) rfl q8 (0+0) rfl (.int .i64 (td.d:Nat)) ((Rw3.out.at 1 rfl).at (0+0) _ rfl)) ?_
    refine wl rfl _ _ (yC3 (.tmp 27) (.tmp 29) rfl x.dv (td.d:Nat) rfl rfl true (decide_eq_true h1)) ?_
    refine wm 30 (.bool true) ?_
    simp only [Act.put,aS,aC,aZ]
    refine wl (by kernel_rfl) _ _ (yA2 f40_1 (.tmp 3) rfl q3 (0) rfl) ?_
    refine wl (by kernel_rfl) _ _ (yA4 o3 (.tmp 32) rfl q3 (0+1) rfl (.int .i64 x.at_) ((Rw3.out.at 0 rfl).at (0+1) _ rfl)) ?_
    refine wl (by kernel_rfl) _ _ (yA2 f40_1 (.tmp 8) rfl q8 (0) rfl) ?_
    refine wl (by kernel_rfl) _ _ (yA4 o3 (.tmp 34) rfl q8 (0+1) rfl (.int .i64 (td.a:Nat)) ((Rw3.out.at 1 rfl).at (0+1) _ rfl)) ?_
    refine wl (by kernel_rfl) _ _ (yC3 (.tmp 33) (.tmp 35) rfl x.at_ (td.a:Nat) rfl rfl true (decide_eq_true h2)) ?_
    refine wl rfl _ _ (yA8 (.tmp 31) (.tmp 36) (.const (.bool false)) rfl true (.bool true) rfl rfl) ?_
    simp only [Act.put,aS,aC,aZ]
    refine wm 37 (.bool true) ?_
    refine wl (by kernel_rfl) _ _ (yA2 f40_2 (.tmp 3) rfl q3 (0) rfl) ?_
    refine wl (by kernel_rfl) _ _ (yA4 o3 (.tmp 39) rfl q3 (0+2) rfl (.int .i64 x.ln) ((Rw3.out.at 0 rfl).at (0+2) _ rfl)) ?_
    refine wl (by kernel_rfl) _ _ (yA2 f40_2 (.tmp 8) rfl q8 (0) rfl) ?_
    refine wl (by kernel_rfl) _ _ (yA4 o3 (.tmp 41) rfl q8 (0+2) rfl (.int .i64 (td.n:Nat)) ((Rw3.out.at 1 rfl).at (0+2) _ rfl)) ?_
    refine wl (by kernel_rfl) _ _ (yC3 (.tmp 40) (.tmp 42) rfl x.ln (td.n:Nat) rfl rfl false (decide_eq_false h3)) ?_
    simp only [Act.put,aS,aC,aZ]
    refine wl rfl _ _ (yA8 (.tmp 38) (.tmp 43) (.const (.bool false)) rfl true (.bool false) rfl rfl) ?_
    simp only [Act.put,aS,aC,aZ]
    refine wpList_nil ?_
    have HNk:Hid (¬ Hit x td):=fun hh=>h3 hh.2.2
    go_upto_region 3 with fail
    refine wp_region_lit ?_
    refine wm 7 (.int .i64 (k:Nat)) ?_
    refine wl rfl (.int .i64 ((k+1:Nat):Int)) _ (yD6 (.tmp 16) (.const (.int .i64 1)) rfl (k:Nat) 1 _ rfl rfl (by omega) (by omega) (by omega)) ?_
    refine wa (.tmp 17) (.int .i64 ((k+1:Nat):Int)) ?_
    simp only [Act.put,aS,aC,aZ]
    refine wpList_nil ?_
    go_wp2_with fail
    exact ⟨⟨k+1,rfl,by omega,Rw3.out.take 1,fun j hj=>by by_cases ej:j=k;subst ej;rw [←HX.out.2.2.2.2];exact HNk.out;exact HNH.out j (by omega)⟩,by simp [intOf];omega⟩
   have h3:=Decidable.not_not.1 h3_
   clear h3_
   go_upto_region 5 with fail
   refine wp_region_lit ?_
   refine wl rfl _ _ (yA2 f40_0 (.tmp 3) rfl q3 (0) rfl) ?_
   refine wl rfl _ _ (yA4 o3 (.tmp 26) rfl q3 (0+0) rfl (.int .i64 x.dv) ((Rw3.out.at 0 rfl).at (0+0) _ rfl)) ?_
   refine wl rfl _ _ (yA2 f40_0 (.tmp 8) rfl q8 (0) rfl) ?_
   refine wl rfl _ _ (yA4 o3 (.tmp 28) rfl q8 (0+0) rfl (.int .i64 (td.d:Nat)) ((Rw3.out.at 1 rfl).at (0+0) _ rfl)) ?_
   refine wl rfl _ _ (yC3 (.tmp 27) (.tmp 29) rfl x.dv (td.d:Nat) rfl rfl true (decide_eq_true h1)) ?_
   refine wm 30 (.bool true) ?_
   simp only [Act.put,aS,aC,aZ]
   refine wl (by kernel_rfl) _ _ (yA2 f40_1 (.tmp 3) rfl q3 (0) rfl) ?_
   refine wl (by kernel_rfl) _ _ (yA4 o3 (.tmp 32) rfl q3 (0+1) rfl (.int .i64 x.at_) ((Rw3.out.at 0 rfl).at (0+1) _ rfl)) ?_
   refine wl (by kernel_rfl) _ _ (yA2 f40_1 (.tmp 8) rfl q8 (0) rfl) ?_
   refine wl (by kernel_rfl) _ _ (yA4 o3 (.tmp 34) rfl q8 (0+1) rfl (.int .i64 (td.a:Nat)) ((Rw3.out.at 1 rfl).at (0+1) _ rfl)) ?_
   refine wl (by kernel_rfl) _ _ (yC3 (.tmp 33) (.tmp 35) rfl x.at_ (td.a:Nat) rfl rfl true (decide_eq_true h2)) ?_
   refine wl rfl _ _ (yA8 (.tmp 31) (.tmp 36) (.const (.bool false)) rfl true (.bool true) rfl rfl) ?_
   simp only [Act.put,aS,aC,aZ]
   refine wm 37 (.bool true) ?_
   refine wl (by kernel_rfl) _ _ (yA2 f40_2 (.tmp 3) rfl q3 (0) rfl) ?_
   refine wl (by kernel_rfl) _ _ (yA4 o3 (.tmp 39) rfl q3 (0+2) rfl (.int .i64 x.ln) ((Rw3.out.at 0 rfl).at (0+2) _ rfl)) ?_
   refine wl (by kernel_rfl) _ _ (yA2 f40_2 (.tmp 8) rfl q8 (0) rfl) ?_
   refine wl (by kernel_rfl) _ _ (yA4 o3 (.tmp 41) rfl q8 (0+2) rfl (.int .i64 (td.n:Nat)) ((Rw3.out.at 1 rfl).at (0+2) _ rfl)) ?_
   refine wl (by kernel_rfl) _ _ (yC3 (.tmp 40) (.tmp 42) rfl x.ln (td.n:Nat) rfl rfl true (decide_eq_true h3)) ?_
   simp only [Act.put,aS,aC,aZ]
   refine wl rfl _ _ (yA8 (.tmp 38) (.tmp 43) (.const (.bool false)) rfl true (.bool true) rfl rfl) ?_
   simp only [Act.put,aS,aC,aZ]
   refine wpList_nil ?_
   go_upto_region 6 with fail
   refine wp_region_held (S:=fun X=>Below w.heap.size w X) (by kernel_rfl) ?_
   show wpAnyH _ _ _ _ _ 21 (Array.replicate 21 false) _ _
   obtain ⟨X,hX⟩:∃X:World,X = { w3 with drawn:=w3.drawn+1 }:=⟨_,rfl⟩
   rw [←hX]
   have HS_:Below w.heap.size w X:=(by rw [hX];exact Below.drewN Rw3.out.below 1)
   clear hX
   refine tH 0 45 rfl rfl (gRun rfl _ fun _ h=>yA6 (.tmp 0) rfl (ptr gy) rfl) HS_ ?_
   refine tH 1 46 rfl rfl (gRun rfl _ fun _ h=>yC1 (.tmp 45) rfl ⟨gy,0,none⟩ rfl) HS_ ?_
   refine tH 2 47 rfl rfl (gRun rfl _ fun _ h=>yA2 f37_3 (.tmp 46) rfl gy (0) rfl) HS_ ?_
   refine tH 3 48 rfl rfl (gRun rfl _ fun _ h=>yA4 o35 (.tmp 47) rfl gy (0+3) rfl vL ((HM.out.1.later h HM.out.1.lt).at (0+3) _ rfl)) HS_ ?_
   refine tH 4 49 rfl rfl (gRun rfl _ fun _ h=>yA6 (.tmp 7) rfl (.int .i64 (k:Nat)) rfl) HS_ ?_
   refine tH 5 50 rfl rfl (gRun rfl _ fun _ h=>yE9 (.tmp 48) (.tmp 49) rfl _ _ _ rfl rfl HX.out.1) HS_ ?_
   simp only [Act.put,aS,aC,aZ]
   refine tH 6 51 rfl rfl (gRun rfl _ fun _ h=>yA2 f48_0 (.tmp 50) rfl g2 (k * 7) rfl) HS_ ?_
   refine tH 7 52 rfl rfl (gRun rfl _ fun _ h=>yA4 o9 (.tmp 51) rfl g2 (k * 7+0) rfl (str td.id) (HX.out.2.1 _ h 0 _ rfl)) HS_ ?_
   refine tH 9 54 rfl rfl (gRun rfl _ fun _ h=>yA6 (.tmp 0) rfl (ptr gy) rfl) HS_ ?_
   refine tH 10 55 rfl rfl (gRun rfl _ fun _ h=>yC1 (.tmp 54) rfl ⟨gy,0,none⟩ rfl) HS_ ?_
   refine tH 11 56 rfl rfl (gRun rfl _ fun _ h=>yA2 f37_3 (.tmp 55) rfl gy (0) rfl) HS_ ?_
   refine tH 12 57 rfl rfl (gRun rfl _ fun _ h=>yA4 o35 (.tmp 56) rfl gy (0+3) rfl vL ((HM.out.1.later h HM.out.1.lt).at (0+3) _ rfl)) HS_ ?_
   simp only [Act.put,aS,aC,aZ]
   refine tH 13 58 rfl rfl (gRun rfl _ fun _ h=>yA6 (.tmp 7) rfl (.int .i64 (k:Nat)) rfl) HS_ ?_
   refine tH 14 59 rfl rfl (gRun rfl _ fun _ h=>yE9 (.tmp 57) (.tmp 58) rfl _ _ _ rfl rfl HX.out.1) HS_ ?_
   refine tH 15 60 rfl rfl (gRun rfl _ fun _ h=>yA2 f48_1 (.tmp 59) rfl g2 (k * 7) rfl) HS_ ?_
   refine tH 16 61 rfl rfl (gRun rfl _ fun _ h=>yA4 o38 (.tmp 60) rfl g2 (k * 7+1) rfl vb (HX.out.2.1 _ h 1 _ rfl)) HS_ ?_
   simp only [Act.put,aS,aC,aZ]
   refine oneH (i:=8) (by kernel_rfl) ?_
   refine yF4 (some 53) rfl rfl rfl (.slice (some ⟨X.heap.size,0,none⟩) 0 0) _ (run_lit38 rfl) ?_
   have hb_:=yB0 X (.cells #[] 5)
   have ho_:BOwn (X.alloc (.cells #[] 5)) w.heap.size (.slice (some ⟨X.heap.size,0,none⟩) 0 0) []:=by
    refine ⟨rfl,Or.inr ⟨X.heap.size,0,#[],rfl,HS_.size,?_,Nat.le_refl _,Nat.zero_le _,rfl,rfl⟩⟩
    show (X.heap.push _)[X.heap.size]? = _
    simp
   obtain ⟨X1,hW_⟩:∃U_:World,U_=X.alloc (.cells #[] 5):=⟨_,rfl⟩
   obtain ⟨vz,hv_⟩:∃v:Value,v = .slice (some ⟨X.heap.size,0,none⟩) 0 0:=⟨_,rfl⟩
   rw [←hW_] at hb_ ho_ ⊢
   rw [←hv_] at ho_ ⊢
   clear hW_ hv_
   replace HS_:=HS_.trans (hb_.mono HS_.size)
   clear hb_
   refine ⟨HS_,?_⟩
   simp only [Act.put,aS,aC,aZ]
   obtain ⟨v9,X2,hr_,ho2_,hb_⟩:=run_bappU w.heap.size vz vb [] td.bs ho_ (HX.out.2.2.1.later HS_) (by have:=HX.out.2.2.2.1;simp only [List.length_nil];omega) HS_.size
   refine oneH (i:=17) (by kernel_rfl) ?_
   refine yF4 (some 62) rfl rfl rfl v9 X2 (yH8 (.tmp 53) (.tmp 61) rfl _ _ _ rfl rfl hr_) ?_
   rw [List.nil_append] at ho2_
   have HE:Hid (BOwn X2 w.heap.size v9 td.bs∧Below w.heap.size w X2):=⟨ho2_,HS_.trans (hb_.mono (Nat.le_refl _))⟩
   replace HS_:=HE.out.2
   clear ho2_ hb_ ho_ hr_
   refine ⟨HS_,?_⟩
   simp only [Act.put,aS,aC,aZ]
   refine tH 18 4 rfl rfl (gRun rfl _ fun _ h=>yG0 (.tmp 52) rfl (str td.id) rfl) HS_ ?_
   refine tH 19 5 rfl rfl (gRun rfl _ fun _ h=>yG0 (.tmp 62) rfl v9 rfl) HS_ ?_
   refine tH 20 6 rfl rfl (gRun rfl _ fun _ h=>yG0 (.const (.int .i64 0)) rfl (.int .i64 0) rfl) HS_ ?_
   simp only [Act.put,aS,aC,aZ]
   refine wpAnyH_done (by kernel_rfl) ?_ _
   go_wp2_with fail
   rw [HPQ.out]
   exact ⟨HE.out.2,Or.inl ⟨k,hlt,by rw [←HX.out.2.2.2.2];exact ⟨h1,h2,h3⟩,HNH.out,v9,by rw [←HX.out.2.2.2.2];exact rfl,by rw [←HX.out.2.2.2.2];exact HE.out.1⟩⟩
  ·go_upto_region 2 with fail
   refine wp_region_lit ?_
   refine wm 7 (.int .i64 (k:Nat)) ?_
   refine wm 0 (ptr gy) ?_
   refine wl rfl _ _ (yC1 (.tmp 10) rfl ⟨gy,0,none⟩ rfl) ?_
   refine wl rfl _ _ (yA2 f37_3 (.tmp 11) rfl gy (0) rfl) ?_
   refine wl rfl _ _ (yA4 o35 (.tmp 12) rfl gy (0+3) rfl vL ((HM.out.1.later HLO.out.below HM.out.1.lt).at (0+3) _ rfl)) ?_
   refine wl rfl (.int .i64 (n:Nat)) _ ((by rw [←HM.out.2.2.1];exact yJ1 el35 HM.out.2.1 (.tmp 13) rfl rfl)) ?_
   simp only [Act.put,aS,aC,aZ]
   refine wl rfl _ _ (yB5 (.tmp 9) (.tmp 14) rfl (k:Nat) (n:Nat) rfl rfl false (decide_eq_false (by omega))) ?_
   simp only [Act.put,aS,aC,aZ]
   refine wpList_nil ?_
   have hkn:k=n:=by omega
   subst hkn
   go_upto_region 7 with fail
   refine wp_region_lit ?_
   refine wa (.const (.string { data:=#[] })) (.string { data:=#[] }) ?_
   refine wa (.const (.slice none 0 0)) (.slice none 0 0) ?_
   refine wa (.const (.int .i64 4)) (.int .i64 4) ?_
   simp only [Act.put,aS,aC,aZ]
   refine wpList_nil ?_
   go_wp2_with fail
   rw [HPQ.out]
   exact ⟨HLO.out.below,Or.inr ⟨HNH.out,rfl⟩⟩
end Go.Proofs.YtpkkkkomdblpoaaDoor

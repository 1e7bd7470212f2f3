/- Layer 15: Open. Layer 15: what stands on a tape, plain. Layer 15: what a tape of the plant has, behind appends, flushes and boots. Layer 15: a volume whose tape no crash met. -/
import Derived.Test.YtpkkkkomdblpoaaDoorS30
namespace Go.Proofs.YtpkkkkomdblpoaaDoor
open Go.RowKit Go.Maps
open Cold
theorem sized_part {m:Pl} {ds ts:List Nat} (h:yK7 m ds ts):sized false m.sh=ds.map (fun x=>Value.int .i64 (x:Nat))∧sized true m.sh=ts.map (fun x=>Value.int .i64 (x:Nat)):=by
 have e1:∀(b b':Bool) (l:List Nat),(l.map fun n=>(b,n)).filter (fun x=>x.1 == b')=if b=b' then l.map (fun n=>(b,n)) else []:=by
  intro b b' l
  induction l with
  | nil=>split <;> rfl
  | cons x l ih =>
   rw [List.map_cons,List.filter_cons,ih]
   by_cases q:b=b'
   ·subst q;simp
   ·rw [if_neg q]
    have:(b == b')=false:=by simpa using q
    simp [this,q]
 unfold sized
 rw [h,List.filter_append,List.filter_append,e1,e1,e1,e1]
 simp [List.map_map,Function.comp_def]
theorem yK7.tapeAt {m:Pl} {ds ts:List Nat} (h:yK7 m ds ts) (i:Nat) (hi:i<ts.length):m.tape (ds.length+i)=true∧m.size (ds.length+i)=ts.getD i 0:=by
 unfold Pl.tape Pl.size
 rw [h]
 simp [hi]
theorem shape15 {w:World} {c:Nat→Colour} {t gp:Nat} {m:Pl} {ds ts:List Nat} (h:Live w c t gp m) (hs:yK7 m ds ts):Calls Tryd.prog 36 #[ptr gp] w fun e w' => ∃vd vt,e = .returned (.agg ([vd,vt]:List Value).toArray)∧w'.ownsRow w.heap.size 3 1 vd ds.length (ds.map fun x=>Value.int .i64 (x:Nat))∧w'.ownsRow w.heap.size 3 1 vt ts.length (ts.map fun x=>Value.int .i64 (x:Nat))∧Below w.heap.size w w':=by
 obtain ⟨⟨db,cap,gs,hP⟩,hwf,_⟩:=h
 refine (shape_any hP hwf).mono ?_
 rintro e w' ⟨vd,vt,he,h1,h2,hb⟩
 rw [(sized_part hs).1,List.length_map] at h1
 rw [(sized_part hs).2,List.length_map] at h2
 exact ⟨vd,vt,he,h1,h2,hb⟩
theorem run_lenO28 {w w0:World} {a:Act} {o:Oper} {v:Value} {n:Nat} {xs:List Value} {base:Nat} (h:w0.ownsRow base 3 1 v n xs) (x:Operand) (ho:o.op = .call { callee:=.builtin .len,args:=#[x],argTypes:=#[28] }) (hx:a.eval x=v):(execOp a.eval o).run Tryd.prog w = .ok (.value (.int .i64 (n:Nat))) w:=by
 rcases h.2 with ⟨rfl,rfl⟩|⟨g,cap,cur,rfl,_⟩
 ·exact run_lenZ sl28 x ho none 0 0 hx
 ·exact run_lenZ sl28 x ho _ _ _ hx
theorem run_build86 {w:World} {a:Act} {o:Oper} (x y z:Operand) (ho:o.op = .build 86 #[(0,x),(1,y),(2,z)]) (gp:Nat) (d sz:Int) (hx:a.eval x=ptr gp) (hy:a.eval y = .int .i64 d) (hz:a.eval z = .int .i64 sz):(execOp a.eval o).run Tryd.prog w = .ok (.value (.agg (tpC gp d sz).toArray)) w:=by
 have hr:(Instr.build 86 #[(0,ptr gp),(1,.int .i64 d),(2,.int .i64 sz)]).run Tryd.prog w = .ok (.agg (tpC gp d sz).toArray) w:=by kernel_rfl
 simp only [execOp,ho,List.map_toArray,List.map_cons,List.map_nil,hx,hy,hz,hr,Sem.run_bind,Sem.run_pure,Result.andThen_ok]
theorem run_build88 {w:World} {a:Act} {o:Oper} (x:Operand) (ho:o.op = .build 88 #[(0,x)]) (gp:Nat) (d sz:Int) (hx:a.eval x = .agg (tpC gp d sz).toArray):(execOp a.eval o).run Tryd.prog w = .ok (.value (.agg (vC gp d sz (Zs 32) false).toArray)) w:=by
 have hr:(Instr.build 88 #[(0,.agg (tpC gp d sz).toArray)]).run Tryd.prog w = .ok (.agg (vC gp d sz (Zs 32) false).toArray) w:=by kernel_rfl
 simp only [execOp,ho,List.map_toArray,List.map_cons,List.map_nil,hx,hr,Sem.run_bind,Sem.run_pure,Result.andThen_ok]
def Far0 (w:World) (c:Nat→Colour) (t:Nat):Prop:=3≤w.heap.size∧(c 0).1≠t∧(c 1).1≠t∧(c 2).1≠t
set_option maxHeartbeats 4000000 in
set_option maxRecDepth 100000 in
theorem vopen_any {w:World} {c:Nat→Colour} {t gp:Nat} {m:Pl} {ds ts:List Nat} (h:Live w c t gp m) (hs:yK7 m ds ts) (he:Env w) (hf:Far0 w c t) (hn:ds.length+ts.length≤1000) (dv:Int) (hd : -9223372036854775808≤dv∧dv≤9223372036854775807):Calls Tryd.prog 10 #[ptr gp,.int .i64 dv] w fun e w'=>Below w.heap.size w w'∧((¬ ((ds.length:Int)≤dv∧dv<ds.length+ts.length)∧e = .returned (.tuple #[.pointer none,.int .i64 1]))∨∃i gv:Nat,i<ts.length∧dv=((ds.length+i:Nat):Int)∧e = .returned (.tuple #[ptr gv,.int .i64 0])∧w.heap.size≤gv∧VolW w' c t gp gv (ds.length+i) (ts.getD i 0:Nat) m (Zs 32) false):=by
 have HM:Hid (Live w c t gp m∧yK7 m ds ts∧Env w∧Far0 w c t):=⟨h,hs,he,hf⟩
 obtain ⟨nd,hnd⟩:∃n,n=ds.length:=⟨_,rfl⟩
 obtain ⟨nt,hnt⟩:∃n,n=ts.length:=⟨_,rfl⟩
 have HN:Hid (nd=ds.length∧nt=ts.length):=⟨hnd,hnt⟩
 rw [←hnd,←hnt] at hn ⊢
 clear h hs he hf hnd hnt
 obtain ⟨PQ,HPQ⟩:=exPQ fun (e:Ending) (w':World)=>Below w.heap.size w w'∧((¬ ((nd:Int)≤dv∧dv<nd+nt)∧e = .returned (.tuple #[.pointer none,.int .i64 1]))∨∃i gv:Nat,i<nt∧dv=((nd+i:Nat):Int)∧e = .returned (.tuple #[ptr gv,.int .i64 0])∧w.heap.size≤gv∧VolW w' c t gp gv (nd+i) (ts.getD i 0:Nat) m (Zs 32) false)
 rw [←HPQ.out]
 go_enter Tryd.func10,Tryd.ntmps10
 go_upto_region 0 with fail
 refine wp_region_lit ?_
 refine wa (.const (.pointer none)) (.pointer none) ?_
 refine wa (.const (.int .i64 0)) (.int .i64 0) ?_
 simp only [Act.put,aS,aC,aZ]
 refine wpList_nil ?_
 go_upto_region 1 with fail
 refine wp_region_lit ?_
 refine wm 0 (ptr gp) ?_
 simp only [Act.put,aS,aC,aZ]
 refine yA5 eN36 [.tmp 8] _ rfl rfl [(ptr gp)] rfl ?_
 refine (shape15 HM.out.1 HM.out.2.1).mono ?_
 rintro e w1 ⟨vd,vt,rfl,od_,ot_,hb_⟩
 refine ⟨_,rfl,?_⟩
 rw [←HN.out.1] at od_
 rw [←HN.out.2] at ot_
 have H1:Hid (w1.ownsRow w.heap.size 3 1 vd nd (ds.map fun x=>Value.int .i64 (x:Nat))∧w1.ownsRow w.heap.size 3 1 vt nt (ts.map fun x=>Value.int .i64 (x:Nat))∧Below w.heap.size w w1):=⟨od_,ot_,hb_⟩
 have HL1:Hid (Loc w1 w1 []):=Loc.nil (Below.refl _ _)
 clear od_ ot_ hb_
 simp only [Act.put,aS,aC,aZ]
 refine wl rfl _ _ (yB6 (([.slice none 0 0,.slice none 0 0]:List Value)) zero24 rfl) ?_
 have k_:=HL1.out.box 30 (([.slice none 0 0,.slice none 0 0]:List Value))
 obtain ⟨w2,hW_⟩:∃W,W=w1.alloc (.cells (([.slice none 0 0,.slice none 0 0]:List Value)).toArray 30):=⟨_,rfl⟩
 obtain ⟨q6,hq_⟩:∃q,q=w1.heap.size:=⟨_,rfl⟩
 rw [←hW_,←hq_] at k_
 rw [←hW_,←hq_]
 clear hq_
 have Rw2:Hid (Loc w1 w2 [(q6,30,([.slice none 0 0,.slice none 0 0]:List Value))]):=k_
 clear k_ hW_ HL1
 simp only [Act.put,aS,aC,aZ]
 refine wlS rfl rfl _ (yB3 ag30 (.tmp 6) (.tmp 9) rfl Rw2.out 0 rfl (0) rfl (([vd,vt]:List Value)) rfl rfl (Nat.le_refl _) (fun v hv=>by simp only [List.mem_cons,List.not_mem_nil,or_false] at hv;rcases hv with rfl|rfl;exact (yJ4 H1.out.1).2;exact (yJ4 H1.out.2.1).2)).1 ?_
 have k_:=Rw2.out.lay 0 rfl (0) (([vd,vt]:List Value))
 rw [yB5 ([.slice none 0 0,.slice none 0 0]:List Value) ([vd,vt]:List Value) rfl] at k_ ⊢
 obtain ⟨w3,hW_⟩:∃W,W=w2.setRow q6 (([vd,vt]:List Value)).toArray:=⟨_,rfl⟩
 rw [←hW_] at k_ ⊢
 have Rw3:Hid (Loc w1 w3 [(q6,30,([vd,vt]:List Value))]):=k_
 clear k_ hW_ Rw2
 refine wpList_nil ?_
 have HB3:Hid (Below w.heap.size w w3):=H1.out.2.2.trans (Rw3.out.below.mono H1.out.2.2.size)
 go_upto_region 2 with fail
 refine wp_region_lit ?_
 refine wl rfl _ _ (yA3 f30_0 (.tmp 6) rfl q6 (0) rfl) ?_
 refine wl rfl _ _ (yA7 o28 (.tmp 10) rfl q6 (0+0) rfl vd ((Rw3.out.at 0 rfl).at (0+0) _ rfl)) ?_
 refine wl rfl _ _ (run_lenO28 H1.out.1 (.tmp 11) rfl rfl) ?_
 simp only [Act.put,aS,aC,aZ]
 refine wa (.tmp 12) (.int .i64 (nd:Nat)) ?_
 simp only [Act.put,aS,aC,aZ]
 refine wpList_nil ?_
 by_cases h0:dv<(nd:Nat)
 ·go_upto_region 3 with fail
  refine wp_region_lit ?_
  refine wm 1 (.int .i64 dv) ?_
  refine wm 7 (.int .i64 (nd:Nat)) ?_
  refine wl rfl _ _ (yB8 (.tmp 13) (.tmp 14) rfl dv (nd:Nat) rfl rfl true (decide_eq_true h0)) ?_
  simp only [Act.put,aS,aC,aZ]
  refine wm 15 (.bool true) ?_
  simp only [Act.put,aS,aC,aZ]
  refine wpList_skip (by kernel_rfl) ?_
  simp only [Act.put,aS,aC,aZ]
  refine wpList_skip (by kernel_rfl) ?_
  simp only [Act.put,aS,aC,aZ]
  refine wpList_skip (by kernel_rfl) ?_
  simp only [Act.put,aS,aC,aZ]
  refine wpList_skip (by kernel_rfl) ?_
  simp only [Act.put,aS,aC,aZ]
  refine wpList_skip (by kernel_rfl) ?_
  simp only [Act.put,aS,aC,aZ]
  refine wpList_skip (by kernel_rfl) ?_
  simp only [Act.put,aS,aC,aZ]
  refine wpList_skip (by kernel_rfl) ?_
  simp only [Act.put,aS,aC,aZ]
  refine wl rfl _ _ (yA6 (.tmp 16) (.const (.bool true)) (.tmp 23) rfl true (.bool true) rfl rfl) ?_
  simp only [Act.put,aS,aC,aZ]
  refine wpList_nil ?_
  go_upto_region 4 with fail
  refine wp_region_lit ?_
  refine wa (.const (.pointer none)) (.pointer none) ?_
  refine wa (.const (.int .i64 1)) (.int .i64 1) ?_
  simp only [Act.put,aS,aC,aZ]
  refine wpList_nil ?_
  go_wp2_with fail
  rw [HPQ.out]
  exact ⟨HB3.out,Or.inl ⟨by omega,rfl⟩⟩
 by_cases h1:dv<((nd+nt:Nat):Int)
 ·go_upto_region 3 with fail
  refine wp_region_lit ?_
  refine wm 1 (.int .i64 dv) ?_
  refine wm 7 (.int .i64 (nd:Nat)) ?_
  refine wl rfl _ _ (yB8 (.tmp 13) (.tmp 14) rfl dv (nd:Nat) rfl rfl false (decide_eq_false h0)) ?_
  simp only [Act.put,aS,aC,aZ]
  refine wm 15 (.bool false) ?_
  refine wl (by kernel_rfl) _ _ (yA4 (.tmp 1) rfl (.int .i64 dv) rfl) ?_
  refine wl (by kernel_rfl) _ _ (yA4 (.tmp 7) rfl (.int .i64 (nd:Nat)) rfl) ?_
  simp only [Act.put,aS,aC,aZ]
  refine wl (by kernel_rfl) _ _ (yA3 f30_1 (.tmp 6) rfl q6 (0) rfl) ?_
  refine wl (by kernel_rfl) _ _ (yA7 o28 (.tmp 19) rfl q6 (0+1) rfl vt ((Rw3.out.at 0 rfl).at (0+1) _ rfl)) ?_
  refine wl (by kernel_rfl) _ _ (run_lenO28 H1.out.2.1 (.tmp 20) rfl rfl) ?_
  simp only [Act.put,aS,aC,aZ]
  refine wl (by kernel_rfl) (.int .i64 ((nd+nt:Nat):Int)) _ (yC8 (.tmp 18) (.tmp 21) rfl (nd:Nat) (nt:Nat) _ rfl rfl (by omega) (by omega) (by omega)) ?_
  refine wl (by kernel_rfl) _ _ (run_geqZ (.tmp 17) (.tmp 22) rfl dv ((nd+nt:Nat):Int) rfl rfl false (decide_eq_false (by omega))) ?_
  refine wl rfl _ _ (yA6 (.tmp 16) (.const (.bool true)) (.tmp 23) rfl false (.bool false) rfl rfl) ?_
  simp only [Act.put,aS,aC,aZ]
  refine wpList_nil ?_
  obtain ⟨i,hi⟩:∃i:Nat,dv=((nd+i:Nat):Int):=⟨(dv - nd).toNat,by omega⟩
  have hi2:i<nt:=by omega
  obtain ⟨g,hx_,hc_⟩:∃g,(∀w',(Instr.indexAt 28 vt (.int .i64 (i:Nat))).run Tryd.prog w' = .ok (.pointer (some ⟨g,i,none⟩)) w')∧w1.cell? ⟨g,i,none⟩=some (.int .i64 (ts.getD i 0:Nat)):=(by
   obtain ⟨b,_,hx,hc⟩:=own_index H1.out.2.1 und22 (by kernel_rfl:(Tryd.prog.info? 3).map (·.size)=some 1) i hi2
   refine ⟨b,fun w'=>by have:=hx w';rwa [Nat.mul_one] at this,?_⟩
   have:=hc 0 (by decide)
   rw [Nat.mul_one,Nat.add_zero] at this
   rw [this]
   have:i<ts.length:=by rw [←HN.out.2];exact hi2
   simp [this])
  obtain ⟨sz,hsz⟩:∃z:Nat,z=ts.getD i 0:=⟨_,rfl⟩
  rw [←hsz] at hc_
  have HX:Hid ((∀w',(Instr.indexAt 28 vt (.int .i64 (i:Nat))).run Tryd.prog w' = .ok (.pointer (some ⟨g,i,none⟩)) w')∧w1.cell? ⟨g,i,none⟩=some (.int .i64 (sz:Nat))∧sz=ts.getD i 0):=⟨hx_,hc_,hsz⟩
  clear hx_ hc_ hsz
  go_upto_region 5 with fail
  refine wp_region_lit ?_
  refine wm 0 (ptr gp) ?_
  refine wm 1 (.int .i64 dv) ?_
  refine wl rfl _ _ (yA3 f30_1 (.tmp 6) rfl q6 (0) rfl) ?_
  simp only [Act.put,aS,aC,aZ]
  refine wl rfl _ _ (yA7 o28 (.tmp 27) rfl q6 (0+1) rfl vt ((Rw3.out.at 0 rfl).at (0+1) _ rfl)) ?_
  refine wm 1 (.int .i64 dv) ?_
  refine wm 7 (.int .i64 (nd:Nat)) ?_
  simp only [Act.put,aS,aC,aZ]
  refine wl rfl (.int .i64 (i:Nat)) _ (run_subZ (.tmp 29) (.tmp 30) rfl dv (nd:Nat) _ rfl rfl (by omega) (by omega) (by omega)) ?_
  refine wl rfl _ _ (yD5 (.tmp 28) (.tmp 31) rfl _ _ _ rfl rfl HX.out.1) ?_
  refine wl rfl _ _ (yA7 o3 (.tmp 32) rfl g (i) rfl (.int .i64 (sz:Nat)) (cell_later Rw3.out.below HX.out.2.1)) ?_
  simp only [Act.put,aS,aC,aZ]
  refine wl rfl _ _ (run_build86 (.tmp 25) (.tmp 26) (.tmp 33) rfl gp dv (sz:Nat) rfl rfl rfl) ?_
  refine wl rfl _ _ (run_build88 (.tmp 34) rfl gp dv (sz:Nat) rfl) ?_
  refine wl rfl _ _ (yG2 (.tmp 35) rfl (vC gp dv (sz:Nat) (Zs 32) false) rfl) ?_
  have hb_:=yB2 w3 (.cells (vC gp dv (sz:Nat) (Zs 32) false).toArray 88)
  have r_:=Row.new w3 88 (vC gp dv (sz:Nat) (Zs 32) false)
  obtain ⟨w4,hW_⟩:∃W,W=w3.alloc (.cells (vC gp dv (sz:Nat) (Zs 32) false).toArray 88):=⟨_,rfl⟩
  obtain ⟨q8,hq_⟩:∃q,q=w3.heap.size:=⟨_,rfl⟩
  rw [←hW_] at hb_
  rw [←hW_,←hq_] at r_
  rw [←hW_,←hq_]
  have H4:Hid (Row w4 q8 88 (vC gp dv (sz:Nat) (Zs 32) false)∧Below w.heap.size w w4∧w.heap.size≤q8):=⟨r_,HB3.out.trans (hb_.mono HB3.out.size),by rw [hq_];exact HB3.out.size⟩
  clear r_ hb_ hW_ hq_
  simp only [Act.put,aS,aC,aZ]
  refine wa (.tmp 36) (ptr q8) ?_
  refine wa (.const (.int .i64 0)) (.int .i64 0) ?_
  simp only [Act.put,aS,aC,aZ]
  refine wpList_nil ?_
  have ht:=HM.out.2.1.tapeAt i (by rw [←HN.out.2];exact hi2)
  have hn9:=HM.out.2.1.n
  rw [←HN.out.1] at ht hn9
  rw [←HN.out.2] at hn9
  go_wp2_with fail
  rw [HPQ.out]
  exact ⟨H4.out.2.1,Or.inr ⟨i,q8,hi2,hi,rfl,H4.out.2.2,by rw [←HX.out.2.2];exact ⟨hi▸H4.out.1,yH2 32,HM.out.1.2.2 q8 H4.out.2.2,HM.out.1.below H4.out.2.1,HM.out.2.2.1.later H4.out.2.1,by rw [hn9];omega,ht.1,by rw [ht.2,HX.out.2.2],Nat.le_trans HM.out.2.2.2.1 H4.out.2.2,HM.out.2.2.2.2⟩⟩⟩
 ·go_upto_region 3 with fail
  refine wp_region_lit ?_
  refine wm 1 (.int .i64 dv) ?_
  refine wm 7 (.int .i64 (nd:Nat)) ?_
  refine wl rfl _ _ (yB8 (.tmp 13) (.tmp 14) rfl dv (nd:Nat) rfl rfl false (decide_eq_false h0)) ?_
  simp only [Act.put,aS,aC,aZ]
  refine wm 15 (.bool false) ?_
  refine wl (by kernel_rfl) _ _ (yA4 (.tmp 1) rfl (.int .i64 dv) rfl) ?_
  refine wl (by kernel_rfl) _ _ (yA4 (.tmp 7) rfl (.int .i64 (nd:Nat)) rfl) ?_
  simp only [Act.put,aS,aC,aZ]
  refine wl (by kernel_rfl) _ _ (yA3 f30_1 (.tmp 6) rfl q6 (0) rfl) ?_
  refine wl (by kernel_rfl) _ _ (yA7 o28 (.tmp 19) rfl q6 (0+1) rfl vt ((Rw3.out.at 0 rfl).at (0+1) _ rfl)) ?_
  refine wl (by kernel_rfl) _ _ (run_lenO28 H1.out.2.1 (.tmp 20) rfl rfl) ?_
  simp only [Act.put,aS,aC,aZ]
  refine wl (by kernel_rfl) (.int .i64 ((nd+nt:Nat):Int)) _ (yC8 (.tmp 18) (.tmp 21) rfl (nd:Nat) (nt:Nat) _ rfl rfl (by omega) (by omega) (by omega)) ?_
  refine wl (by kernel_rfl) _ _ (run_geqZ (.tmp 17) (.tmp 22) rfl dv ((nd+nt:Nat):Int) rfl rfl true (decide_eq_true (by omega))) ?_
  refine wl rfl _ _ (yA6 (.tmp 16) (.const (.bool true)) (.tmp 23) rfl false (.bool true) rfl rfl) ?_
  simp only [Act.put,aS,aC,aZ]
  refine wpList_nil ?_
  go_upto_region 4 with fail
  refine wp_region_lit ?_
  refine wa (.const (.pointer none)) (.pointer none) ?_
  refine wa (.const (.int .i64 1)) (.int .i64 1) ?_
  simp only [Act.put,aS,aC,aZ]
  refine wpList_nil ?_
  go_wp2_with fail
  rw [HPQ.out]
  exact ⟨HB3.out,Or.inl ⟨by omega,rfl⟩⟩
end Go.Proofs.YtpkkkkomdblpoaaDoor

namespace Go.Proofs.YtpkkkkomdblpoaaDoor
open Go.RowKit Go.Maps
open Cold
def OkOb (o:Ob):Prop:=nameB o.1=true∧o.2.length≤512∧∀c∈o.2,c<256
def layO (d:Nat):Nat→List Ob→List (List Nat)
 | _,[]=>[]
 | a,o :: r=>blks d a o.1 o.2++layO d (a+nb o.2.length) r
theorem layO_length (d:Nat):∀(os:List Ob) (a:Nat),(layO d a os).length=wide os
 | [],_=>rfl
 | o :: r,a=>by rw [layO,List.length_append,yC1,layO_length d r,wide]
theorem layO_append (d:Nat):∀(l r:List Ob) (a:Nat),layO d a (l++r)=layO d a l++layO d (a+wide l) r
 | [],r,a=>by simp [layO,wide]
 | o :: l,r,a=>by
  rw [List.cons_append,layO,layO,layO_append d l r,wide,List.append_assoc,Nat.add_assoc]
theorem layO_one (d a:Nat) (o:Ob):layO d a [o]=blks d a o.1 o.2:=by simp [layO]
theorem objAt_mid {d a:Nat} {ct X Y:List (List Nat)} {id bs:List Nat} (h:ct=X++(blks d a id bs++Y)) (hx:X.length=a) (ho:OkOb (id,bs)):ObjAt d a ct id bs:=by
 have e:(ct.drop a).take (nb bs.length)=blks d a id bs:=by
  rw [h,←hx,List.drop_left,←yC1 d X.length id bs,List.take_left]
 exact ⟨by rw [h,List.length_append,List.length_append,yC1,hx];omega,⟨e,ho.1,ho.2.1,ho.2.2⟩⟩
theorem chn_lay {d:Nat}:∀(os:List Ob) (a:Nat) (ct X Y:List (List Nat)),ct=X++(layO d a os++Y)→X.length=a→(∀o∈os,OkOb o)→Chn d ct a os (a+wide os)
 | [],a,_,_,_,_,_,_=>rfl
 | o :: r,a,ct,X,Y,h,hx,ho=>by
  have h2:ct=X++(blks d a o.1 o.2++(layO d (a+nb o.2.length) r++Y)):=by rw [h,layO,List.append_assoc]
  refine ⟨objAt_mid h2 hx (ho o (List.mem_cons_self ..)),?_⟩
  have:=chn_lay r (a+nb o.2.length) ct (X++blks d a o.1 o.2) Y (by rw [h2,List.append_assoc]) (by rw [List.length_append,yC1,hx]) (fun x hx=>ho x (List.mem_cons_of_mem _ hx))
  have e9:a+wide (o :: r)=a+nb o.2.length+wide r:=by rw [wide,Nat.add_assoc]
  rw [e9]
  exact this
def OwnP (d:Nat) (ct:List (List Nat)) (P:Nat→Ob→Prop):Prop :=
 ∀p,p<ct.length→(∀a i,a<65536→i<256→(ct.getD p []).drop 56≠tg 111 d a i)∨∃s o,P s o∧s≤p∧p - s<nb o.2.length∧ct.getD p []=bk d s o.1 o.2 (p - s)
structure OkP (P:Nat→Ob→Prop):Prop where
 one:∀s o o',P s o→P s o'→o=o'
 ok:∀s o,P s o→OkOb o
theorem okA:OkOb ([97],[]):=⟨by decide,by decide,fun c hc=>by cases hc⟩
theorem OwnP.read {d:Nat} {ct:List (List Nat)} {P:Nat→Ob→Prop} (h:OwnP d ct P) (hO:OkP P) {a n:Nat} (hn:a+n≤ct.length) (hc:ct.length≤65536) {id bs:List Nat} (hi:IsObj d a ((ct.drop a).take n) id bs) :
  P a (id,bs)∧n=nb bs.length:=by
 classical
 obtain ⟨O,hOd⟩:∃O:Nat→Ob,O=fun s=>if hs:∃o,P s o then hs.choose else ([97],[]):=⟨_,rfl⟩
 have hOs:∀s o,P s o→O s=o:=fun s o hp=>by
  have hs:∃o,P s o:=⟨o,hp⟩
  rw [hOd]
  show (if hs:∃o,P s o then hs.choose else _)=o
  rw [dif_pos hs]
  exact hO.one s _ _ hs.choose_spec hp
 have hOk:OkO O:=fun s=>by
  rw [hOd]
  show OkOb (if hs:∃o,P s o then hs.choose else ([97],[]))
  by_cases hs:∃o,P s o
  ·rw [dif_pos hs];exact hO.ok s _ hs.choose_spec
  ·rw [dif_neg hs];exact okA
 have hOwn:Own d ct O:=fun p hp=>by
  rcases h p hp with q|⟨s,o,hP,h1,h2,h3⟩
  ·exact Or.inl q
  ·refine Or.inr ⟨s,h1,?_,?_⟩
   ·rw [hOs s o hP];exact h2
   ·rw [hOs s o hP];exact h3
 have hr:=hOwn.read hOk hn hc hi
 refine ⟨?_,hr.2⟩
 have hp:=nb_pos bs.length
 have hlen:((ct.drop a).take n).length=n:=by simp;omega
 have hnn:=hr.2
 have e:=hi.at 0 (by rw [hlen];omega)
 rw [cutD ct a n 0 (by omega),Nat.add_zero] at e
 have et:(ct.getD a []).drop 56=tg 111 d a 0:=by rw [e,bk_drop _ _ _ _ _ (by omega)]
 rcases h a (by omega) with q|⟨s,o,hP,h1,h2,h3⟩
 ·exact absurd et (q a 0 (by omega) (by decide))
 ·have hsl:=nb_le (hO.ok s o hP).2.1
  have et2:(ct.getD a []).drop 56=tg 111 d s (a - s):=by rw [h3,bk_drop _ _ _ _ _ h2]
  obtain ⟨_,e1,_⟩:=tg_inj (et.symm.trans et2) (by decide) (by decide) (by omega) (by omega) (by omega) (by omega)
  subst e1
  have:=hOs a o hP
  rw [hr.1] at this
  rw [this]
  exact hP
theorem OwnP.mono {d:Nat} {ct:List (List Nat)} {P P':Nat→Ob→Prop} (h:OwnP d ct P) (hp:∀s o,P s o→P' s o):OwnP d ct P':=fun p q=>(h p q).imp id fun ⟨s,o,h1,h2⟩=>⟨s,o,hp s o h1,h2⟩
theorem getD_app1 {α:Type} (l r:List α) (k:Nat) (z:α) (h:k<l.length):(l++r).getD k z=l.getD k z:=yG6 l r k z h
theorem getD_app2 {α:Type} (l r:List α) (k:Nat) (z:α) (h:l.length≤k):(l++r).getD k z=r.getD (k - l.length) z:=by
 rw [List.getD_eq_getElem?_getD,List.getElem?_append_right h,←List.getD_eq_getElem?_getD]
theorem OwnP.app {d:Nat} {ct:List (List Nat)} {P:Nat→Ob→Prop} (h:OwnP d ct P) (o:Ob) (k:Nat) (hk:k≤nb o.2.length):OwnP d (ct++(blks d ct.length o.1 o.2).take k) (fun s x=>P s x∨(s=ct.length∧x=o)):=fun p hp=>by
 rw [List.length_append,List.length_take,yC1] at hp
 rcases Nat.lt_or_ge p ct.length with q|q
 ·rw [getD_app1 _ _ _ _ q]
  exact (h p q).imp id fun ⟨s,x,h1,h2⟩=>⟨s,x,Or.inl h1,h2⟩
 ·rw [getD_app2 _ _ _ _ q]
  refine Or.inr ⟨ct.length,o,Or.inr ⟨rfl,rfl⟩,q,by omega,?_⟩
  have e:((blks d ct.length o.1 o.2).take k).getD (p - ct.length) []=(blks d ct.length o.1 o.2).getD (p - ct.length) []:=by
   rw [List.getD_eq_getElem?_getD,List.getElem?_take,if_pos (by omega),←List.getD_eq_getElem?_getD]
  rw [e,blks_at _ _ _ _ _ (by omega)]
theorem OwnP.appNo {d:Nat} {ct:List (List Nat)} {P:Nat→Ob→Prop} (h:OwnP d ct P) (L:List (List Nat)) (hL:∀b∈L,∀a i,a<65536→i<256→b.drop 56≠tg 111 d a i):OwnP d (ct++L) P:=fun p hp=>by
 rcases Nat.lt_or_ge p ct.length with q|q
 ·rw [getD_app1 _ _ _ _ q]
  exact h p q
 ·rw [getD_app2 _ _ _ _ q]
  rw [List.length_append] at hp
  refine Or.inl (hL _ ?_)
  rw [List.getD_eq_getElem?_getD,List.getElem?_eq_getElem (by omega),Option.getD_some]
  exact List.getElem_mem _
theorem OwnP.take {d:Nat} {ct:List (List Nat)} {P:Nat→Ob→Prop} (h:OwnP d ct P) (n:Nat):OwnP d (ct.take n) (fun s o=>P s o∧s<n):=fun p hp=>by
 rw [List.length_take] at hp
 have e:(ct.take n).getD p []=ct.getD p []:=by rw [List.getD_eq_getElem?_getD,List.getElem?_take,if_pos (by omega),←List.getD_eq_getElem?_getD]
 rw [e]
 exact (h p (by omega)).imp id fun ⟨s,o,h1,h2,h3⟩=>⟨s,o,⟨h1,by omega⟩,h2,h3⟩
def NoTag (d:Nat) (ct:List (List Nat)):Prop := ∀b∈ct,∀a i,b.drop 56≠tg 101 d a i
theorem rtAt_eq {d a i:Nat} {b rt:List Nat} (h:rtAt d a i b=some rt):eb d a rt i=b:=by
 unfold rtAt at h
 split at h
 ·rename_i hc
  have e:=Option.some.inj h
  rw [e] at hc
  exact hc.2.2
 ·cases h
theorem eb_drop (d a:Nat) (rt:List Nat) (i:Nat):(eb d a rt i).drop 56=tg 101 d a i:=by
 unfold eb
 rw [List.drop_append_of_le_length (by rw [yF5];exact Nat.le_refl _),List.drop_eq_nil_of_le (by rw [yF5];exact Nat.le_refl _)]
 rfl
theorem eb_take (d a:Nat) (rt:List Nat) (i:Nat):(eb d a rt i).take 56=pc (Fr.Frame.pack 101 rt):=by
 unfold eb
 rw [List.take_append_of_le_length (by rw [yF5];exact Nat.le_refl _),List.take_of_length_le (by rw [yF5];exact Nat.le_refl _)]
theorem bk_no101 {d a:Nat} {id bs:List Nat} {j:Nat} (h:j<nb bs.length) (a' i':Nat):(bk d a id bs j).drop 56≠tg 101 d a' i':=by
 rw [bk_drop _ _ _ _ _ h]
 intro e
 simp [tg] at e
theorem eb_no111 (d a:Nat) (rt:List Nat) (i a' i':Nat):(eb d a rt i).drop 56≠tg 111 d a' i':=by
 rw [eb_drop]
 intro e
 simp [tg] at e
theorem blks_noTag (d a:Nat) (id bs:List Nat):NoTag d (blks d a id bs):=fun b hb a' i'=>by
 obtain ⟨j,hj,rfl⟩:=List.mem_map.1 hb
 exact bk_no101 (List.mem_range.1 hj) a' i'
theorem NoTag.append {d:Nat} {A B:List (List Nat)} (h:NoTag d A) (k:NoTag d B):NoTag d (A++B):=fun b hb=>(List.mem_append.1 hb).elim (h b) (k b)
theorem layO_noTag (d:Nat):∀(os:List Ob) (a:Nat),NoTag d (layO d a os)
 | [],_=>fun b hb=>by cases hb
 | o :: r,a=>(blks_noTag d a o.1 o.2).append (layO_noTag d r _)
theorem NoTag.sub {d:Nat} {A B:List (List Nat)} (h:NoTag d A) (hs:∀b∈B,b∈A):NoTag d B:=fun b hb=>h b (hs b hb)
theorem getD_mem {α:Type} (l:List α) (k:Nat) (z:α) (h:k<l.length):l.getD k z∈l:=by
 rw [List.getD_eq_getElem?_getD,List.getElem?_eq_getElem h,Option.getD_some]
 exact List.getElem_mem h
theorem NoTag.noRt {d:Nat} {ct:List (List Nat)} (h:NoTag d ct) (a:Nat):NoRt d a ct:=fun j hj=>by
 cases e:rtAt d a j (ct.getD j []) with
 | none=>rfl
 | some rt =>
  have e2:=rtAt_eq e
  have:=h _ (getD_mem ct j [] hj) a j
  rw [←e2,eb_drop] at this
  exact absurd rfl this
theorem NoTag.noEnd {d:Nat} {ct:List (List Nat)} (h:NoTag d ct):NoEnd d ct:=fun j _ _=>(h.sub fun _ hb=>List.mem_of_mem_drop hb:NoTag d (ct.drop j)).noRt j
theorem rtAt_eb {d a i:Nat} {rt:List Nat} (hl:rt.length=32):rtAt d a i (eb d a rt i)=some rt:=by
 have hb:=Fr.Frame.back 101 rt (List.replicate (56 - (Fr.Frame.pack 101 rt).length) 0) (by omega)
 have ho:=(Fr.Frame.okB_pack 101 rt (List.replicate (56 - (Fr.Frame.pack 101 rt).length) 0) (by omega)).1
 rw [←pc_short (by rw [Fr.Frame.yG4];omega)] at hb ho
 unfold rtAt
 rw [eb_take,hb.2.1,if_pos ⟨ho,hl,rfl⟩]
theorem endAt_ends {d:Nat} {L ct:List (List Nat)} {R:List Nat} (hc:ct=L++ends d L.length R) (hl:R.length=32):¬ NoEnd d ct∧∀a rt,EndAt d ct a rt→rt=R:=by
 have hlen:ct.length=L.length+2:=by rw [hc,List.length_append];rfl
 have hd:ct.drop L.length=ends d L.length R:=by rw [hc,List.drop_left]
 have h0:rtAt d L.length 0 ((ct.drop L.length).getD 0 [])=some R:=by rw [hd];exact rtAt_eb hl
 constructor
 ·intro h
  have:=h L.length (by omega) (by omega) 0 (by rw [hd];exact Nat.zero_lt_succ 1)
  rw [h0] at this
  cases this
 ·rintro a rt ⟨h1,h2,⟨i,h3,h4,h5⟩,h6⟩
  have ha:a=L.length:=by
   rcases Nat.lt_or_ge L.length a with q|q
   ·have:=h6 L.length (by omega) q 0 (by rw [hd];exact Nat.zero_lt_succ 1)
    rw [h0] at this
    cases this
   ·omega
  subst ha
  have hi:i=0:=by
   rcases Nat.eq_zero_or_pos i with q|q
   ·exact q
   ·have:=h5 0 q
    rw [h0] at this
    cases this
  subst hi
  rw [h0] at h4
  exact (Option.some.inj h4).symm
theorem noAt_ends {d:Nat} {L ct:List (List Nat)} {R:List Nat} (hc:ct=L++ends d L.length R):NoAt d L.length ct:=fun id bs h=>by
 have hp:=nb_pos bs.length
 have e:=h.2.at 0 (by rw [h.2.num];omega)
 rw [cutD ct L.length _ 0 (by omega),Nat.add_zero] at e
 have e2:ct.getD L.length []=eb d L.length R 0:=by rw [hc,getD_app2 _ _ _ _ (Nat.le_refl _),Nat.sub_self];rfl
 have:=eb_no111 d L.length R 0 L.length 0
 rw [←e2,e,bk_drop _ _ _ _ _ (by omega)] at this
 exact this rfl
end Go.Proofs.YtpkkkkomdblpoaaDoor

namespace Go.Proofs.YtpkkkkomdblpoaaDoor
open Go.RowKit Go.Maps
open Cold
structure Tv (m:Pl) (d:Nat):Prop where
 wf:m.WF
 on:m.on=true
 lt:d<m.n
 tape:m.tape d=true
theorem Tv.step {m:Pl} {d:Nat} (h:Tv m d) (hf:m.fuse≠0):Tv m.step d:=⟨Pl.step_wf h.wf,by rw [m.step_on hf];exact h.on,by rw [m.step_n];exact h.lt,by rw [m.step_tape];exact h.tape⟩
theorem ctn_wait (m:Pl) (d p:Nat) (b:List Nat):ctn (m.wait d p b) d=ctn m d++[b]:=by
 unfold ctn
 rw [Pl.wt_wait,if_pos rfl,List.map_append,←List.append_assoc]
 rfl
theorem ctn_step (m:Pl) (d:Nat):ctn m.step d=ctn m d:=by unfold ctn;rw [m.step_fl,m.step_wt]
theorem Tv.append {m:Pl} {d:Nat} (h:Tv m d) (b:List Nat) (hb:b.length=64) (hr:(ctn m d).length<m.size d):m.append (d:Int) b=if m.fuse=0 then (0,2,m.step) else ((ctn m d).length,0,m.step.wait d (ctn m d).length b):=by
 have hlt:=h.lt
 have hl:=ctn_len (m:=m) h.tape
 unfold Pl.append
 rw [if_neg (by rw [h.on];decide),if_neg (by
  rw [Int.toNat_natCast]
  exact fun hn=>hn ⟨⟨by omega,by omega⟩,h.tape⟩),if_neg (fun hn=>hn hb),Int.toNat_natCast,if_neg (by rw [hl];omega),hl]
theorem Tv.flush {m:Pl} {d:Nat} (h:Tv m d):m.flush (d:Int)=if m.fuse=0 then (2,m.step) else (0,m.step.flushed d):=by
 have hlt:=h.lt
 unfold Pl.flush
 rw [if_neg (by rw [h.on];decide),if_neg (fun hn=>hn ⟨by omega,by omega⟩),Int.toNat_natCast]
theorem lays_run (d:Nat):∀(L:List (List Nat)) (m:Pl),Tv m d→(∀b∈L,b.length=64∧∀c∈b,c<256)→(ctn m d).length+L.length≤m.size d →
  ∃k,k≤L.length∧ctn (m.lays (d:Int) L).2 d=ctn m d++L.take k∧(m.lays (d:Int) L).2.fl d=m.fl d∧Oth m (m.lays (d:Int) L).2 d∧(m.lays (d:Int) L).2.WF ∧
   ((k=L.length∧(m.lays (d:Int) L).1=0∧(m.lays (d:Int) L).2.on=true∧(m.fuse<0→(m.lays (d:Int) L).2.fuse<0))∨(k<L.length∧(m.lays (d:Int) L).1=2∧(m.lays (d:Int) L).2.on=false∧¬ m.fuse<0))
 | [],m,h,_,_=>⟨0,Nat.le_refl _,by simp [Pl.lays],rfl,Oth.refl _ _,h.wf,Or.inl ⟨rfl,rfl,h.on,fun h=>h⟩⟩
 | b :: r,m,h,hL,hr=>by
  have hb:=hL b (List.mem_cons_self ..)
  rw [List.length_cons] at hr
  have e:=h.append b hb.1 (by omega)
  have hw:=Pl.append_wf h.wf (d:Int) b hb.2
  by_cases hf:m.fuse=0
  ·rw [if_pos hf] at e
   rw [e] at hw
   have e2:m.lays (d:Int) (b :: r)=(2,m.step):=by
    rw [Pl.lays,e]
    rfl
   rw [e2]
   exact ⟨0,Nat.zero_le _,by rw [ctn_step];simp,by rw [m.step_fl],Oth.step m d,hw,Or.inr ⟨by simp,rfl,m.step_off hf,by omega⟩⟩
  ·rw [if_neg hf] at e
   rw [e] at hw
   have e2:m.lays (d:Int) (b :: r)=(m.step.wait d (ctn m d).length b).lays (d:Int) r:=by
    rw [Pl.lays,e]
    rfl
   have hs:=h.step hf
   have hT:Tv (m.step.wait d (ctn m d).length b) d:=⟨hw,hs.on,hs.lt,hs.tape⟩
   have hc:ctn (m.step.wait d (ctn m d).length b) d=ctn m d++[b]:=by rw [ctn_wait,ctn_step]
   obtain ⟨k,h1,h2,h3,h4,h5,h6⟩:=lays_run d r _ hT (fun x hx=>hL x (List.mem_cons_of_mem _ hx)) (by rw [hc,List.length_append];show _≤m.step.size d;rw [m.step_size];simp only [List.length_cons,List.length_nil];omega)
   rw [e2]
   refine ⟨k+1,by simp;omega,by rw [h2,hc,List.take_succ_cons,List.append_assoc];rfl,by rw [h3];exact congrFun m.step_fl d,(Oth.step m d).trans ((Oth.wait m.step d _ b).trans h4),h5,?_⟩
   rcases h6 with ⟨q1,q2,q3,q4⟩|⟨q1,q2,q3,q4⟩
   ·exact Or.inl ⟨by simp [q1],q2,q3,fun hn=>q4 (m.step_neg hn)⟩
   ·exact Or.inr ⟨by simp;exact q1,q2,q3,fun hn=>q4 (m.step_neg hn)⟩
theorem layAll_tape (fl:List (List Nat)) (l:List Wr):layAll true fl l=fl++l.map (·.b):=by
 unfold layAll
 induction l generalizing fl with
 | nil=>simp
 | cons x l ih =>
  rw [List.foldl_cons,ih]
  simp [lay]
theorem ctn_flushed (m:Pl) (d:Nat) (h:m.tape d=true):ctn (m.flushed d) d=ctn m d∧(m.flushed d).fl d=ctn m d:=by
 have e:(m.flushed d).fl d=ctn m d:=by
  show upd m.fl d (layAll (m.tape d) (m.fl d) (m.wt d)) d=_
  unfold upd
  rw [if_pos rfl,h,layAll_tape]
  rfl
 refine ⟨?_,e⟩
 unfold ctn at e ⊢
 rw [e,Pl.wt_flushed,if_pos rfl]
 simp
theorem flush_run {m:Pl} {d:Nat} (h:Tv m d):ctn (m.flush (d:Int)).2 d=ctn m d∧Oth m (m.flush (d:Int)).2 d∧(m.flush (d:Int)).2.WF ∧
  (((m.flush (d:Int)).1=0∧(m.flush (d:Int)).2.on=true∧(m.flush (d:Int)).2.fl d=ctn m d∧(m.fuse<0→(m.flush (d:Int)).2.fuse<0))∨((m.flush (d:Int)).1=2∧(m.flush (d:Int)).2.on=false∧(m.flush (d:Int)).2.fl d=m.fl d∧¬ m.fuse<0)):=by
 have hw:=Pl.flush_wf h.wf (d:Int)
 have e:=h.flush
 by_cases hf:m.fuse=0
 ·rw [if_pos hf] at e
  rw [e] at hw ⊢
  exact ⟨ctn_step m d,Oth.step m d,hw,Or.inr ⟨rfl,m.step_off hf,congrFun m.step_fl d,by omega⟩⟩
 ·rw [if_neg hf] at e
  rw [e] at hw ⊢
  have hs:=h.step hf
  have hc:=ctn_flushed m.step d hs.tape
  exact ⟨by rw [hc.1,ctn_step],(Oth.step m d).trans (Oth.flushed m.step d),hw,Or.inl ⟨rfl,hs.on,by rw [hc.2,ctn_step],fun hn=>m.step_neg hn⟩⟩
theorem getD_lastQ {α:Type} (l:List α) (x z:α) (k:Nat) (h:k=l.length):(l++[x]).getD k z=x:=by
 subst h
 rw [List.getD_eq_getElem?_getD,List.getElem?_append_right (Nat.le_refl _)]
 simp
def Kept (F W fl:List (List Nat)) (n:Nat):Prop:=fl=F++W.take n∨(n<W.length∧fl=F++(W.take n++[torn (W.getD n [])]))
theorem bootTo_tape (m:Pl) (keep:List Int) (d:Nat) (ht:m.tape d=true):∀n,n≤m.wts.length →
  ∃k,k≤((m.wts.take n).filter fun x=>x.dev == d).length∧Kept (m.fl d) (((m.wts.take n).filter fun x=>x.dev == d).map (·.b)) ((yC4 m keep n).1 d) k∧((yC4 m keep n).2 d=false→(yC4 m keep n).1 d=m.fl d++((m.wts.take n).filter fun x=>x.dev == d).map (·.b)):=by
 intro n
 induction n with
 | zero=>intro _;exact ⟨0,Nat.zero_le _,Or.inl (by simp [yC4]),fun _=>by simp [yC4]⟩
 | succ n ih =>
  intro hn
  obtain ⟨k,h1,h2,h3⟩:=ih (by omega)
  have hx:m.wts[n]? = some m.wts[n]:=List.getElem?_eq_getElem (by omega)
  rw [bootTo_succ m keep n _ hx,List.take_succ_eq_append_getElem (by omega),List.filter_append]
  obtain ⟨x,hxe⟩:∃x,x=m.wts[n]:=⟨_,rfl⟩
  rw [←hxe]
  obtain ⟨A,hA⟩:∃A,A=(m.wts.take n).filter fun x=>x.dev == d:=⟨_,rfl⟩
  rw [←hA] at h1 h2 h3 ⊢
  by_cases hd:x.dev=d
  ·have e1:([x].filter fun x=>x.dev == d)=[x]:=by simp [hd]
   rw [e1,List.map_append,List.length_append]
   have more:∀fl,Kept (m.fl d) (A.map (·.b)) fl k→k≤A.length→Kept (m.fl d) (A.map (·.b)++[x].map (·.b)) fl k:=fun fl hk hl=>by
    rcases hk with q|⟨q1,q2⟩
    ·left;rw [q,List.take_append_of_le_length (by simpa using hl)]
    ·right
     refine ⟨by simp at q1 ⊢;omega,?_⟩
     rw [q2,List.take_append_of_le_length (by simpa using hl),List.getD_eq_getElem?_getD,List.getD_eq_getElem?_getD,List.getElem?_append_left q1]
   unfold yK6
   rw [hd]
   by_cases hend:(yC4 m keep n).2 d=true
   ·rw [if_pos hend]
    exact ⟨k,by simp;omega,more _ h2 h1,fun h=>by rw [hend] at h;cases h⟩
   ·rw [if_neg hend]
    have h3:=h3 (by simpa using hend)
    have hu:upd (yC4 m keep n).1 d (settled (m.tape d) ((yC4 m keep n).1 d) x.place x.b (bootK keep n)) d=settled true (m.fl d++A.map (·.b)) x.place x.b (bootK keep n):=by
     unfold upd
     rw [if_pos rfl,ht,h3]
    show ∃k,_∧Kept _ _ (upd _ d _ d) k∧((if d=d then _ else _)=false→upd _ d _ d=_)
    rw [hu,if_pos rfl,ht]
    unfold settled yK5
    by_cases k1:bootK keep n % 2=1
    ·rw [if_pos k1]
     refine ⟨A.length+1,by simp,Or.inl ?_,fun _ => ?_⟩
     ·rw [List.take_of_length_le (by simp)];simp [lay]
     ·simp [lay]
    ·rw [if_neg k1]
     have hgo:(!(decide (bootK keep n % 2=1) || !true))=true:=by simp [k1]
     rw [hgo]
     by_cases k2:bootK keep n % 4=2
     ·rw [if_pos ⟨rfl,k2⟩]
      refine ⟨A.length,by simp,Or.inr ⟨by simp,?_⟩,fun h=>by cases h⟩
      rw [List.take_append_of_le_length (by simp),List.take_of_length_le (by simp),show ([x].map (·.b))=[x.b] from rfl,getD_lastQ _ _ _ _ (by simp)]
      simp [lay]
     ·rw [if_neg (fun q=>k2 q.2)]
      refine ⟨A.length,by simp,Or.inl ?_,fun h=>by cases h⟩
      rw [List.take_append_of_le_length (by simp),List.take_of_length_le (by simp)]
  ·have e1:([x].filter fun x=>x.dev == d)=[]:=by simp [hd]
   rw [e1,List.append_nil]
   have e2:(yK6 m keep (yC4 m keep n) n x).1 d=(yC4 m keep n).1 d∧(yK6 m keep (yC4 m keep n) n x).2 d=(yC4 m keep n).2 d:=by
    unfold yK6
    split
    ·exact ⟨rfl,rfl⟩
    ·have hne:¬ d=x.dev:=fun q=>hd q.symm
     constructor
     ·show upd _ x.dev _ d=_
      unfold upd
      rw [if_neg hne]
     ·show (if d=x.dev then _ else _)=_
      rw [if_neg hne]
   rw [e2.1,e2.2]
   exact ⟨k,h1,h2,h3⟩
theorem boot_run (m:Pl) (d:Nat) (hwf:m.WF) (hd:d<m.n) (ht:m.tape d=true) (keep:List Int):Tv (m.boot keep) d∧(m.boot keep).fuse = -1∧(m.boot keep).sh=m.sh∧(m.boot keep).steps=m.steps ∧
  ctn (m.boot keep) d=(m.boot keep).fl d∧∃n,(m.fl d).length≤n∧n≤(ctn m d).length∧(ctn (m.boot keep) d=(ctn m d).take n∨(n<(ctn m d).length∧ctn (m.boot keep) d=(ctn m d).take n++[torn ((ctn m d).getD n [])])):=by
 have hc:ctn (m.boot keep) d=(m.boot keep).fl d:=by
  unfold ctn
  have e:(m.boot keep).wt d=[]:=rfl
  rw [e]
  simp
 refine ⟨⟨Pl.boot_wf hwf keep,rfl,hd,ht⟩,rfl,rfl,rfl,hc,?_⟩
 obtain ⟨k,h1,h2,_⟩:=bootTo_tape m keep d ht m.wts.length (Nat.le_refl _)
 rw [List.take_length] at h1 h2
 rw [hc]
 have hcl:(ctn m d).length=(m.fl d).length+(m.wt d).length:=by unfold ctn;rw [List.length_append,List.length_map]
 have hk:k≤(m.wt d).length:=h1
 refine ⟨(m.fl d).length+k,by omega,by omega,?_⟩
 have e1:(ctn m d).take ((m.fl d).length+k)=m.fl d++((m.wt d).map (·.b)).take k:=by
  unfold ctn
  rw [List.take_append,List.take_of_length_le (by omega),Nat.add_sub_cancel_left]
 rw [e1]
 rcases h2 with q|⟨q1,q2⟩
 ·exact Or.inl q
 ·refine Or.inr ⟨by rw [List.length_map] at q1;have:k<(m.wt d).length:=q1;omega,?_⟩
  have e2:(ctn m d).getD ((m.fl d).length+k) []=((m.wt d).map (·.b)).getD k []:=by
   unfold ctn
   rw [List.getD_eq_getElem?_getD,List.getElem?_append_right (by omega),Nat.add_sub_cancel_left,←List.getD_eq_getElem?_getD]
  rw [e2,List.append_assoc]
  exact q2
theorem torn_drop {b:List Nat} (h:b.length=64):(torn b).drop 56=List.replicate 8 0:=by
 unfold torn
 have h1:(b.take 32).length=32:=by simp [h]
 rw [List.drop_append,List.drop_eq_nil_of_le (by omega),h1,List.nil_append]
 rfl
theorem torn_tag {b:List Nat} (h:b.length=64) (k d a i:Nat) (hk:k % 256≠0):(torn b).drop 56≠tg k d a i:=by
 rw [torn_drop h]
 intro e
 simp [tg,List.replicate] at e
 omega
end Go.Proofs.YtpkkkkomdblpoaaDoor

namespace Go.Proofs.YtpkkkkomdblpoaaDoor
open Go.RowKit Go.Maps
open Cold
structure OnT (m:Pl) (d:Nat) (os:List Ob) (sd:Bool):Prop where
 tv:Tv m d
 fuse:m.fuse<0
 ok:∀o∈os,OkOb o
 ct:ctn m d=layO d 0 os++(if sd then ends d (wide os) (rootO os) else [])
theorem yK4 (d:Nat) (os:List Ob):(layO d 0 os).length=wide os:=layO_length d os 0
section
variable {m m':Pl} {d:Nat} {os:List Ob} {sd:Bool}
theorem OnT.len (h:OnT m d os sd):(ctn m d).length=wide os+(if sd then 2 else 0):=by
 rw [h.ct,List.length_append,layO_length]
 cases sd <;> rfl
theorem OnT.chn (h:OnT m d os sd):Chn d (ctn m d) 0 os (wide os)∧NoAt d (wide os) (ctn m d):=by
 have h1:=chn_lay os 0 (ctn m d) [] (if sd then ends d (wide os) (rootO os) else []) (by rw [h.ct];rfl) rfl h.ok
 rw [Nat.zero_add] at h1
 refine ⟨h1,?_⟩
 cases sd with
 | false=>exact noAt_len (by have:=h.len;simp at this;omega)
 | true =>
  have h2:=noAt_ends (d:=d) (L:=layO d 0 os) (ct:=ctn m d) (R:=rootO os) (by rw [h.ct,yK4];rfl)
  rwa [yK4] at h2
theorem OnT.slr (h:OnT m d os sd) {rt rt2:List Nat} {sl sl2:Bool} {er:Int} (hk:sl=true→sd=true∧rt=rootO os) (s:SlR m.on d (ctn m d) rt sl rt2 sl2 er):er=0∧sl2=sd∧(sd=true→rt2=rootO os):=by
 rcases s with ⟨h1,h2,h3,h4⟩|⟨_,⟨h1,h2,_,a,h4⟩|⟨h1,h2,_,h4⟩|⟨_,_,h3,_⟩⟩
 ·exact ⟨h4,by rw [h3,(hk h1).1],fun _=>by rw [h2,(hk h1).2]⟩
 ·cases sd with
  | true =>
   have h5:=endAt_ends (d:=d) (L:=layO d 0 os) (ct:=ctn m d) (R:=rootO os) (by rw [h.ct,yK4];rfl) (rootO_is os).1
   exact ⟨h2,h1,fun _=>h5.2 a rt2 h4⟩
  | false =>
   have hn:NoEnd d (ctn m d):=(by rw [h.ct];simp;exact layO_noTag d os 0:NoTag d (ctn m d)).noEnd
   obtain ⟨a1,a2,⟨i,a3,a4,_⟩,_⟩:=h4
   have:=hn a a1 a2 i a3
   rw [a4] at this
   cases this
 ·cases sd with
  | true =>
   have h5:=endAt_ends (d:=d) (L:=layO d 0 os) (ct:=ctn m d) (R:=rootO os) (by rw [h.ct,yK4];rfl) (rootO_is os).1
   exact absurd h4 h5.1
  | false=>exact ⟨h2,h1,fun h=>by cases h⟩
 ·rw [h.tv.on] at h3
  cases h3
theorem offO_succ (os:List Ob) (k:Nat) (h:k<os.length):offO os (k+1)=offO os k+nb (os.getD k ([],[])).2.length:=by
 unfold offO
 rw [List.take_succ_eq_append_getElem h,wide_append]
 simp [wide,h]
theorem offO_mono (os:List Ob):∀(k j:Nat),k<j→j≤os.length→offO os k+2≤offO os j:=by
 intro k j
 induction j with
 | zero=>intro h;exact absurd h (Nat.not_lt_zero _)
 | succ j ih =>
  intro h hj
  have h1:=offO_succ os j (by omega)
  have h2:=nb_pos (os.getD j ([],[])).2.length
  rcases Nat.lt_or_ge k j with q|q
  ·have:=ih q (by omega)
   omega
  ·rw [show k=j by omega]
   omega
theorem offO_inj (os:List Ob) (k j:Nat) (hk:k<os.length) (hj:j<os.length) (h:offO os k=offO os j):k=j:=by
 rcases Nat.lt_trichotomy k j with q|q|q
 ·have:=offO_mono os k j q (Nat.le_of_lt hj);omega
 ·exact q
 ·have:=offO_mono os j k q (Nat.le_of_lt hk);omega
def BegO (os:List Ob) (s:Nat) (o:Ob):Prop := ∃k,k<os.length∧s=offO os k∧o=os.getD k ([],[])
theorem getD_all {os:List Ob} (h:∀o∈os,OkOb o) (k:Nat) (hk:k<os.length):OkOb (os.getD k ([],[])):=h _ (getD_mem os k _ hk)
theorem begO_ok (h:∀o∈os,OkOb o):OkP (BegO os) :=
 ⟨fun s o o' ⟨k,h1,h2,h3⟩ ⟨j,h4,h5,h6⟩=>by
  have:=offO_inj os k j h1 h4 (h2.symm.trans h5)
  rw [h3,h6,this],fun s o ⟨k,h1,_,h3⟩=>by rw [h3];exact getD_all h k h1⟩
theorem begO_snoc (os:List Ob) (o:Ob) (s:Nat) (x:Ob) (h:BegO os s x∨(s=wide os∧x=o)):BegO (os++[o]) s x:=by
 rcases h with ⟨k,h1,h2,h3⟩|⟨h1,h2⟩
 ·exact ⟨k,by simp;omega,by rw [offO_snoc os o k (Nat.le_of_lt h1)];exact h2,by rw [yG6 _ _ _ _ h1];exact h3⟩
 ·exact ⟨os.length,by simp,by rw [offO_snoc os o _ (Nat.le_refl _),offO_end];exact h1,by rw [yH1 _ _ _ _ rfl];exact h2⟩
theorem own_lay (d:Nat) (os:List Ob):OwnP d (layO d 0 os) (BegO os):=by
 obtain ⟨r,rfl⟩:∃r,os=r.reverse:=⟨os.reverse,os.reverse_reverse.symm⟩
 induction r with
 | nil=>intro p hp;exact absurd hp (by simp [layO])
 | cons o r ih =>
  rw [List.reverse_cons,layO_append,layO_one,Nat.zero_add]
  have h1:=ih.app o (nb o.2.length) (Nat.le_refl _)
  rw [yK4,←yC1 d (wide r.reverse) o.1 o.2,List.take_length] at h1
  exact h1.mono fun s x hx=>begO_snoc _ _ _ _ hx
theorem OnT.own (h:OnT m d os sd):OwnP d (ctn m d) (BegO os):=by
 rw [h.ct]
 cases sd with
 | false=>simpa using own_lay d os
 | true =>
  refine (own_lay d os).appNo _ fun b hb a i _ _ => ?_
  have hb:b∈ends d (wide os) (rootO os):=hb
  rcases List.mem_cons.1 hb with rfl|hb
  ·exact eb_no111 _ _ _ _ _ _
  ·rw [List.mem_singleton.1 hb]
   exact eb_no111 _ _ _ _ _ _
theorem chn_at {d:Nat} {ct:List (List Nat)}:∀{os:List Ob} {a b:Nat},Chn d ct a os b→∀k,k<os.length→ObjAt d (a+offO os k) ct (os.getD k ([],[])).1 (os.getD k ([],[])).2
 | [],_,_,_,k,hk=>absurd hk (Nat.not_lt_zero _)
 | o :: r,a,b,h,k,hk=>by
  cases k with
  | zero=>exact h.1
  | succ k =>
   have h1:=chn_at h.2 k (by simpa using hk)
   have e:offO (o :: r) (k+1)=nb o.2.length+offO r k:=by simp [offO,wide]
   rw [e,←Nat.add_assoc]
   exact h1
theorem OnT.obj (h:OnT m d os sd) (k:Nat) (hk:k<os.length):ObjAt d (offO os k) (ctn m d) (os.getD k ([],[])).1 (os.getD k ([],[])).2:=by
 have:=chn_at h.chn.1 k hk
 rwa [Nat.zero_add] at this
theorem OnT.read (h:OnT m d os sd) (hc:(ctn m d).length≤65536) {a n:Nat} (hn:a+n≤(ctn m d).length) {id bs:List Nat} (hi:IsObj d a (((ctn m d).drop a).take n) id bs):∃k,k<os.length∧a=offO os k∧(id,bs)=os.getD k ([],[])∧n=nb (os.getD k ([],[])).2.length:=by
 obtain ⟨⟨k,h1,h2,h3⟩,h4⟩:=h.own.read (begO_ok h.ok) hn hc hi
 exact ⟨k,h1,h2,h3,by rw [←h3];exact h4⟩
theorem blks_all (d a:Nat) {id bs:List Nat} (h:OkOb (id,bs)):∀b∈blks d a id bs,b.length=64∧∀c∈b,c<256:=by
 intro b hb
 obtain ⟨j,hj,rfl⟩:=List.mem_map.1 hb
 have hj:=List.mem_range.1 hj
 refine ⟨bk_length _ _ _ _ _ hj,fun c hc => ?_⟩
 rcases List.mem_append.1 hc with hc|hc
 ·have hp:∀p∈pcs id bs,∀c∈p,c<256:=fun p hp=>by
   unfold pcs at hp
   simp only [List.mem_cons,List.mem_append,List.not_mem_nil,or_false] at hp
   rcases hp with rfl|hp|rfl
   ·exact pc_lt (Fr.Frame.pack_lt 111 _ (by decide) (lb_lt _ (nameB_lt h.1)))
   ·obtain ⟨j,_,rfl⟩:=List.mem_map.1 hp
    exact pc_lt fun c hc=>h.2.2 c (List.mem_of_mem_drop hc)
   ·exact pc_lt (hsh_ok _ _).2
  exact hp _ (getD_mem _ _ _ (by rw [pcs_length];exact hj)) c hc
 ·exact tg_lt _ _ _ _ c hc
end
end Go.Proofs.YtpkkkkomdblpoaaDoor

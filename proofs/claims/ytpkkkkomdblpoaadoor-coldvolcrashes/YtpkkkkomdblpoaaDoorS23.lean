/- Layer 15: a tape's content; blocks read. -/
import Derived.Test.YtpkkkkomdblpoaaDoorS22
namespace Go.Proofs.YtpkkkkomdblpoaaDoor
open Go.RowKit Go.Maps
open Cold
theorem lastAt_run (F:Nat) (p:Nat):∀(n:Nat) (l:List Wr),l.length=n→(∀j x,l[j]? = some x→x.place=F+j)→lastAt l p=if F≤p then (l[p - F]?).map (·.b) else none:=by
 intro n
 induction n with
 | zero =>
  intro l hl _
  rw [List.length_eq_zero_iff.1 hl,lastAt_nil]
  split <;> simp
 | succ n ih =>
  intro l hl h
  have hne:l≠[]:=fun e=>by rw [e] at hl;cases hl
  obtain ⟨r,x,rfl⟩:∃r x,l=r++[x]:=⟨_,_,(List.dropLast_concat_getLast hne).symm⟩
  clear hne
  have hr:r.length=n:=by rw [List.length_append,List.length_singleton] at hl;omega
  have hx:=h r.length x (by simp)
  have ih':=ih r hr fun j y hy=>h j y (by rw [List.getElem?_append_left ((List.getElem?_eq_some_iff.1 hy).1)];exact hy)
  rw [lastAt_snoc,ih',hx]
  by_cases h1:F+r.length=p
  ·rw [if_pos h1,if_pos (by omega),show p - F=r.length by omega]
   simp
  ·rw [if_neg h1]
   by_cases h2:F≤p
   ·rw [if_pos h2,if_pos h2]
    rcases Nat.lt_or_ge (p - F) r.length with q|q
    ·rw [List.getElem?_append_left q]
    ·rw [List.getElem?_eq_none q,List.getElem?_append_right q,List.getElem?_eq_none (by simp;omega)]
   ·rw [if_neg h2,if_neg h2]
theorem ctn_rd {m:Pl} (h:m.WF) {d:Nat} (hd:d<m.n) (ht:m.tape d=true) {p:Nat} (hp:p<m.len d):m.rd d p=(ctn m d).getD p []:=by
 have hk:=(h.tapes d hd ht).2
 have hl:=lastAt_run (m.fl d).length p _ (m.wt d) rfl hk
 rw [ctn_len ht] at hp
 unfold Pl.rd
 rw [hl]
 unfold ctn at *
 rw [List.length_append,List.length_map] at hp
 by_cases h1:(m.fl d).length≤p
 ·have h2:p - (m.fl d).length<(m.wt d).length:=by omega
  have e9:(m.fl d++(m.wt d).map Wr.b)[p]? = some ((m.wt d)[p - (m.fl d).length]'h2).b:=by rw [List.getElem?_append_right h1,List.getElem?_map,List.getElem?_eq_getElem h2];rfl
  rw [if_pos h1,List.getElem?_eq_getElem h2,List.getD_eq_getElem?_getD (l:=m.fl d++_),e9]
  rfl
 ·have h2:p<(m.fl d).length:=by omega
  have e9:(m.fl d++(m.wt d).map Wr.b)[p]? = some ((m.fl d)[p]'h2):=by rw [List.getElem?_append_left h2,List.getElem?_eq_getElem h2]
  rw [if_neg h1,List.getD_eq_getElem?_getD (l:=m.fl d++_),e9]
  simp [List.getD_eq_getElem?_getD,List.getElem?_eq_getElem h2]
theorem ctn_all {m:Pl} (h:m.WF) (d:Nat):AllN 64 (ctn m d):=fun b hb=>by
 rcases List.mem_append.1 hb with hb|hb
 ·exact h.secs d b hb
 ·obtain ⟨x,hx,rfl⟩:=List.mem_map.1 hb
  exact h.wsec x (Pl.wt_mem hx).1
theorem ctn_le {m:Pl} (h:m.WF) {d:Nat} (hd:d<m.n) (ht:m.tape d=true):(ctn m d).length≤4096∧(ctn m d).length≤m.size d:=by
 have h1:=(h.tapes d hd ht).1
 have h2:=(h.sizes d hd).2
 unfold ctn
 rw [List.length_append,List.length_map]
 omega
theorem pc_64 {b:List Nat} (h:b.length=64):pc b=b.take 56:=by
 unfold pc
 rw [h]
 simp
theorem run_sub56 (w:World) (b:Nat):(Instr.slice 38 (.slice (some ⟨b,0,none⟩) 64 64) (some (.int .i64 56)) none none).run Tryd.prog w = .ok (.slice (some ⟨b,0+56,none⟩) 8 8) w:=by kernel_rfl
theorem take_one {α:Type} (L:List α) (k:Nat) (dflt:α) (hk:k<L.length):L.take (k+1)=L.take k++[L.getD k dflt]:=by
 rw [List.take_succ_eq_append_getElem hk]
 simp [hk]
theorem make_blocks (w:World) (k:Nat) (hk:k≤1000000):∃w',(∀(a:Act) (o:Oper) (l c:Operand),o.op = .makeSlice 93 l c→a.eval l = .int .i64 (k:Nat)→a.eval c = .int .i64 (k:Nat)→(execOp a.eval o).run Tryd.prog w = .ok (.value (whole w.heap.size k)) w')∧ALine 133 64 w' w.heap.size (List.replicate k (Zs 64))∧Below w.heap.size w w':=by
 obtain ⟨i,hi,hz0,hz1,hz2⟩:=info_parts el93.info
 have hr:=run_make (P:=Tryd.prog) (w:=w) 93 133 i _ el93.sl hi hz0 .i64 .i64 (k:Nat) (k:Nat) (by omega) (Int.le_refl _) (by rw [hz2];omega) (by omega)
 rw [Int.toNat_natCast,hz1] at hr
 refine ⟨_,fun a o l c ho hl hc=>by simp only [execOp,ho,hl,hc,hr,Sem.run_bind,Sem.run_pure,Result.andThen_ok];rfl,⟨allZ 64 k,?_⟩,yB2 w _⟩
 rw [←madeN 64 k (by decide)]
 exact Row.new' w 133 _
theorem fill_next (ct:List (List Nat)) (a N k:Nat) (hk:k<N) (h:a+N≤ct.length):((ct.drop a).take k++List.replicate (N - k) (Zs 64)).set k (ct.getD (a+k) [])=(ct.drop a).take (k+1)++List.replicate (N - (k+1)) (Zs 64):=by
 have h1:((ct.drop a).take k).length=k:=by simp;omega
 rw [List.set_append_right _ _ (by omega),h1,Nat.sub_self,show N - k=(N - (k+1))+1 by omega,List.replicate_succ,List.set_cons_zero,take_one _ k [] (by simp;omega),List.append_assoc]
 congr 2
 simp
theorem ix_whole {S E n:Nat} (he:ElT S E n) (g N k:Nat) (hk:k<N):∀w',(Instr.indexAt S (whole g N) (.int .i64 (k:Nat))).run Tryd.prog w' = .ok (.pointer (some ⟨g,k * n,none⟩)) w':=fun w'=>by
 obtain ⟨i,hi,hz0,hz1,hz2⟩:=info_parts he.info
 simp [whole,Instr.indexAt,asIntOf,run_underlying he.sl,hk,sizeOf,typeInfo,hi,hz1,yB7]
theorem run_blk2 {w:World} {a:Act} {o:Oper} (x y:Operand) (ho:o.op = .build 133 #[(0,x),(1,y)]) (b:List Nat) (hb:b.length=64) (hx:a.eval x=av (b.take 56)) (hy:a.eval y=av (b.drop 56)):(execOp a.eval o).run Tryd.prog w = .ok (.value (av b)) w:=by
 have:=run_blkOp (w:=w) x y ho (b.take 56) (b.drop 56) (by rw [List.length_take,hb];rfl) (by rw [List.length_drop,hb]) hx hy
 rw [List.take_append_drop] at this
 exact this
structure SpT (t:Nat) (w w':World) (c c':Nat→Colour):Prop where
 cc:∀b,b<w.heap.size→c' b=c b
 ch:Ch (fun b=>(c b).1=t) w w'
theorem SpT.bel {t:Nat} {w w':World} (c:Nat→Colour) (hb:Below w.heap.size w w'):SpT t w w' c c:=⟨fun _ _=>rfl,Ch.of_below hb⟩
theorem SpT.trans {t:Nat} {w w1 w2:World} {c c1 c2:Nat→Colour} (h:SpT t w w1 c c1) (k:SpT t w1 w2 c1 c2):SpT t w w2 c c2 :=
 ⟨fun b hb=>(k.cc b (Nat.lt_of_lt_of_le hb h.ch.size)).trans (h.cc b hb),h.ch.trans' k.ch fun b hb hs=>by rw [h.cc b hb] at hs;exact hs⟩
theorem Next.spT {w w':World} {c:Nat→Colour} {t g:Nat} {m':Pl} (h:Next w c t g m' w'):∃c',SpT t w w' c c'∧Live w' c' t g m':=by
 obtain ⟨c',h1,_,h3,h4⟩:=h
 exact ⟨c',⟨h1,h4⟩,h3⟩
theorem SpT.row {t:Nat} {w w':World} {c c':Nat→Colour} (h:SpT t w w' c c') {g T:Nat} {cs:List Value} (hr:Row w g T cs) (hg:(c g).1≠t):Row w' g T cs∧(c' g).1≠t:=⟨h.ch.row hg hr,by rw [h.cc g hr.lt];exact hg⟩
def Pl.lays (m:Pl) (d:Int):List (List Nat)→Int×Pl
 | []=>(0,m)
 | b :: r=>if (m.append d b).2.1=0 then (m.append d b).2.2.lays d r else ((m.append d b).2.1,(m.append d b).2.2)
theorem append_steps (m:Pl) (d:Int) (b:List Nat):(m.append d b).2.2.steps≤m.steps+1∧(m.append d b).2.2.sh=m.sh:=by
 unfold Pl.append
 have e1:m.step.steps≤m.steps+1:=by unfold Pl.step;split <;> simp
 split
 ·exact ⟨Nat.le_succ _,rfl⟩
 ·split
  ·exact ⟨Nat.le_succ _,rfl⟩
  ·split
   ·exact ⟨Nat.le_succ _,rfl⟩
   ·split
    ·exact ⟨Nat.le_succ _,rfl⟩
    ·split
     ·exact ⟨e1,m.step_sh⟩
     ·exact ⟨e1,m.step_sh⟩
theorem yJ5 (d:Int):∀(L:List (List Nat)) (m:Pl),(m.lays d L).2.steps≤m.steps+L.length∧(m.lays d L).2.sh=m.sh
 | [],m=>⟨Nat.le_refl _,rfl⟩
 | b :: r,m=>by
  have h1:=append_steps m d b
  rw [Pl.lays]
  split
  ·have h2:=yJ5 d r (m.append d b).2.2
   exact ⟨by rw [List.length_cons];omega,h2.2.trans h1.2⟩
  ·exact ⟨by rw [List.length_cons];dsimp only;omega,h1.2⟩
theorem run_appCut {W:World} {g off:Nat} {xs ys:List Nat} {vy:Value} (hx:∀j u,(yA0 xs)[j]? = some u→W.cell? ⟨g,off+j,none⟩=some u) (hxb:∀c∈xs,c<256) (hin:yA2 W vy ys) (hy:ys≠[]) (hl:xs.length+ys.length≤1000):∃v' w',(∀ty,(Builtin.append_ #[38,38] ty #[.slice (some ⟨g,off,none⟩) xs.length xs.length,vy]).run Tryd.prog W = .ok v' w')∧yA2 w' v' (xs++ys)∧Below W.heap.size W w'∧v'.ownBlock=some W.heap.size:=by
 obtain ⟨i,hi,hz0,hz1,hz2⟩:=info_parts info5z
 have hbytes:=hin.lt256
 obtain ⟨p,cp,rfl,hlc,hy2⟩:=hin
 rcases hy2 with rfl|⟨b,o,rfl,hc,_⟩
 ·exact absurd rfl hy
 have hpos:0<ys.length:=List.length_pos_iff.2 hy
 have hall:∀c∈xs++ys,c<256:=fun c hc=>(List.mem_append.1 hc).elim (hxb c) (hbytes c)
 have hr:=fun ty=>run_append_grow (P:=Tryd.prog) (w:=W) 38 ty 5 i (.int .u8 0) Tryd.underlying38 hi hz0 ⟨g,off,none⟩ xs.length xs.length (yA0 xs) (by rw [yA1,hz1];simp) (fun j u hu=>by rw [yB7];exact hx j u hu) ⟨b,o,none⟩ ys.length cp (yA0 ys) (by rw [yA1,hz1];simp) (fun j u hu=>by
  have hj:j<ys.length:=by
   have:=(List.getElem?_eq_some_iff.1 hu).1
   rwa [yA1] at this
  rw [yB7,hc j hj,←hu,yC3 ys j hj]) (by omega) (by omega) (by
  rw [hz2]
  have:=nextslicecap_le (need:=xs.length+ys.length) (old:=xs.length) (by omega)
  omega)
 refine ⟨_,_,hr,?_,(Below.drew (Below.refl _ W)).alloc (Nat.le_refl _) _,rfl⟩
 refine ⟨_,_,by rw [List.length_append],⟨by rw [List.length_append];exact grownCap_ge _ _ _ _,by rw [List.length_append];omega⟩,Or.inr ⟨W.heap.size,0,rfl,fun j hj => ?_,lt256 _ hall⟩⟩
 rw [Nat.zero_add]
 have e2:((yA0 xs).toArray++(yA0 ys).toArray)=(yA0 (xs++ys)).toArray:=by rw [yD0];simp
 rw [e2]
 have hb_:=yC3 (xs++ys) j hj
 simp only [World.cell?,World.alloc,World.drew]
 rw [List.length_append] at hj
 simp [Array.getElem?_append,hj,yA0]
 simp only [←List.map_append,List.getElem_map]
set_option maxHeartbeats 4000000 in
set_option maxRecDepth 100000 in
theorem tread_any {w:World} {c:Nat→Colour} {t gp:Nat} {m:Pl} (h:Live w c t gp m) (hst:m.steps<35184372088831) (d:Nat) (hd:d<m.n) (htp:m.tape d=true) (sz at_ n:Int) (hat : -9223372036854775808≤at_∧at_≤9223372036854775807) (hn : -9223372036854775808≤n∧n≤9223372036854775807):Calls Tryd.prog 42 #[.agg (tpC gp (d:Nat) sz).toArray,.int .i64 at_,.int .i64 n] w fun e w'=>Below w.heap.size w w'∧(((at_<0∨n<0∨((ctn m d).length:Int)<at_+n)∧e = .returned (.tuple #[.slice none 0 0,.int .i64 4]))∨(∃a N:Nat,at_=(a:Nat)∧n=(N:Nat)∧a+N≤(ctn m d).length∧∃v,e = .returned (.tuple #[v,.int .i64 0])∧AOwn 133 64 w' w.heap.size v (((ctn m d).drop a).take N)∧(N=0∨m.on=true))∨(∃a N:Nat,at_=(a:Nat)∧n=(N:Nat)∧a+N≤(ctn m d).length∧0<N∧m.on=false∧e = .returned (.tuple #[.slice none 0 0,.int .i64 2]))):=by
 obtain ⟨ct,hct⟩:∃x,x=ctn m d:=⟨_,rfl⟩
 have hlen:m.len d=ct.length:=by rw [hct];exact ctn_len htp
 have HM:Hid (Live w c t gp m∧m.steps<35184372088831∧True∧d<m.n∧m.len d=ct.length∧AllN 64 ct∧∀p,p<ct.length→m.rd d p=ct.getD p []):=⟨h,hst,trivial,hd,hlen,hct▸ctn_all h.2.1 d,fun p hp=>by rw [hct];exact ctn_rd h.2.1 hd htp (by rw [hlen];exact hp)⟩
 have hcl:ct.length≤4096:=by rw [hct];exact (ctn_le h.2.1 hd htp).1
 rw [←hct]
 clear h hst hd htp hct hlen
 obtain ⟨PQ,HPQ⟩:=exPQ fun (e:Ending) (w':World)=>Below w.heap.size w w'∧(((at_<0∨n<0∨((ct).length:Int)<at_+n)∧e = .returned (.tuple #[.slice none 0 0,.int .i64 4]))∨(∃a N:Nat,at_=(a:Nat)∧n=(N:Nat)∧a+N≤(ct).length∧∃v,e = .returned (.tuple #[v,.int .i64 0])∧AOwn 133 64 w' w.heap.size v (((ct).drop a).take N)∧(N=0∨m.on=true))∨(∃a N:Nat,at_=(a:Nat)∧n=(N:Nat)∧a+N≤(ct).length∧0<N∧m.on=false∧e = .returned (.tuple #[.slice none 0 0,.int .i64 2])))
 rw [←HPQ.out]
 go_enter Tryd.func42,Tryd.ntmps42
 go_upto_region 0 with fail
 refine wp_region_lit ?_
 refine wl rfl _ _ (yG2 (.tmp 0) rfl (tpC gp (d:Nat) sz) rfl) ?_
 have hb_:=yB2 w (.cells (tpC gp (d:Nat) sz).toArray 86)
 have r_:=Row.new w 86 (tpC gp (d:Nat) sz)
 obtain ⟨w1,hW_⟩:∃U_:World,U_=w.alloc (.cells (tpC gp (d:Nat) sz).toArray 86):=⟨_,rfl⟩
 obtain ⟨q,hq_⟩:∃q,q=w.heap.size:=⟨_,rfl⟩
 rw [←hW_] at hb_
 rw [←hW_,←hq_] at r_
 rw [←hW_,←hq_]
 have HA:Hid (Row w1 q 86 (tpC gp (d:Nat) sz)∧Below w.heap.size w w1∧w.heap.size≤q):=⟨r_,hb_,by omega⟩
 clear r_ hb_ hW_ hq_
 simp only [Act.put,aS,aC,aZ]
 refine wa (.const (.slice none 0 0)) (.slice none 0 0) ?_
 refine wa (.const (.int .i64 0)) (.int .i64 0) ?_
 simp only [Act.put,aS,aC,aZ]
 refine wpList_nil ?_
 by_cases h1:at_<0
 ·go_upto_region 1 with fail
  refine wp_region_lit ?_
  refine wm 1 (.int .i64 at_) ?_
  refine wl rfl _ _ (yB8 (.tmp 12) (.const (.int .i64 0)) rfl at_ 0 rfl rfl true (decide_eq_true h1)) ?_
  refine wm 13 (.bool true) ?_
  simp only [Act.put,aS,aC,aZ]
  refine wpList_skip (by kernel_rfl) ?_
  simp only [Act.put,aS,aC,aZ]
  refine wpList_skip (by kernel_rfl) ?_
  simp only [Act.put,aS,aC,aZ]
  refine wl rfl _ _ (yA6 (.tmp 14) (.const (.bool true)) (.tmp 16) rfl true (.bool true) rfl rfl) ?_
  refine wm 17 (.bool true) ?_
  simp only [Act.put,aS,aC,aZ]
  refine wpList_skip (by kernel_rfl) ?_
  simp only [Act.put,aS,aC,aZ]
  refine wpList_skip (by kernel_rfl) ?_
  simp only [Act.put,aS,aC,aZ]
  refine wpList_skip (by kernel_rfl) ?_
  simp only [Act.put,aS,aC,aZ]
  refine wpList_skip (by kernel_rfl) ?_
  simp only [Act.put,aS,aC,aZ]
  refine wpList_skip (by kernel_rfl) ?_
  simp only [Act.put,aS,aC,aZ]
  refine wpList_skip (by kernel_rfl) ?_
  simp only [Act.put,aS,aC,aZ]
  refine wl rfl _ _ (yA6 (.tmp 18) (.const (.bool true)) (.tmp 24) rfl true (.bool true) rfl rfl) ?_
  simp only [Act.put,aS,aC,aZ]
  refine wpList_nil ?_
  go_upto_region 2 with fail
  refine wp_region_lit ?_
  refine wa (.const (.slice none 0 0)) (.slice none 0 0) ?_
  refine wa (.const (.int .i64 4)) (.int .i64 4) ?_
  simp only [Act.put,aS,aC,aZ]
  refine wpList_nil ?_
  go_wp2_with fail
  rw [HPQ.out]
  exact ⟨HA.out.2.1,Or.inl ⟨Or.inl h1,rfl⟩⟩
 by_cases h2:n<0
 ·go_upto_region 1 with fail
  refine wp_region_lit ?_
  refine wm 1 (.int .i64 at_) ?_
  refine wl rfl _ _ (yB8 (.tmp 12) (.const (.int .i64 0)) rfl at_ 0 rfl rfl false (decide_eq_false h1)) ?_
  refine wm 13 (.bool false) ?_
  simp only [Act.put,aS,aC,aZ]
  refine wl (by kernel_rfl) _ _ (yA4 (.tmp 2) rfl (.int .i64 n) rfl) ?_
  refine wl (by kernel_rfl) _ _ (yB8 (.tmp 15) (.const (.int .i64 0)) rfl n 0 rfl rfl true (decide_eq_true h2)) ?_
  refine wl rfl _ _ (yA6 (.tmp 14) (.const (.bool true)) (.tmp 16) rfl false (.bool true) rfl rfl) ?_
  simp only [Act.put,aS,aC,aZ]
  refine wm 17 (.bool true) ?_
  simp only [Act.put,aS,aC,aZ]
  refine wpList_skip (by kernel_rfl) ?_
  simp only [Act.put,aS,aC,aZ]
  refine wpList_skip (by kernel_rfl) ?_
  simp only [Act.put,aS,aC,aZ]
  refine wpList_skip (by kernel_rfl) ?_
  simp only [Act.put,aS,aC,aZ]
  refine wpList_skip (by kernel_rfl) ?_
  simp only [Act.put,aS,aC,aZ]
  refine wpList_skip (by kernel_rfl) ?_
  simp only [Act.put,aS,aC,aZ]
  refine wpList_skip (by kernel_rfl) ?_
  simp only [Act.put,aS,aC,aZ]
  refine wl rfl _ _ (yA6 (.tmp 18) (.const (.bool true)) (.tmp 24) rfl true (.bool true) rfl rfl) ?_
  simp only [Act.put,aS,aC,aZ]
  refine wpList_nil ?_
  go_upto_region 2 with fail
  refine wp_region_lit ?_
  refine wa (.const (.slice none 0 0)) (.slice none 0 0) ?_
  refine wa (.const (.int .i64 4)) (.int .i64 4) ?_
  simp only [Act.put,aS,aC,aZ]
  refine wpList_nil ?_
  go_wp2_with fail
  rw [HPQ.out]
  exact ⟨HA.out.2.1,Or.inl ⟨Or.inr (Or.inl h2),rfl⟩⟩
 by_cases h3:((ct.length:Nat):Int) - n<at_
 ·go_upto_region 1 with fail
  refine wp_region_lit ?_
  refine wm 1 (.int .i64 at_) ?_
  refine wl rfl _ _ (yB8 (.tmp 12) (.const (.int .i64 0)) rfl at_ 0 rfl rfl false (decide_eq_false h1)) ?_
  refine wm 13 (.bool false) ?_
  simp only [Act.put,aS,aC,aZ]
  refine wl (by kernel_rfl) _ _ (yA4 (.tmp 2) rfl (.int .i64 n) rfl) ?_
  refine wl (by kernel_rfl) _ _ (yB8 (.tmp 15) (.const (.int .i64 0)) rfl n 0 rfl rfl false (decide_eq_false h2)) ?_
  refine wl rfl _ _ (yA6 (.tmp 14) (.const (.bool true)) (.tmp 16) rfl false (.bool false) rfl rfl) ?_
  simp only [Act.put,aS,aC,aZ]
  refine wm 17 (.bool false) ?_
  refine wl (by kernel_rfl) _ _ (yA4 (.tmp 1) rfl (.int .i64 at_) rfl) ?_
  refine wl (by kernel_rfl) _ _ (yA9 ag86 (.tmp 3) rfl q (0) rfl ((tpC gp (d:Nat) sz)) rfl (yJ0 HA.out.1)) ?_
  simp only [Act.put,aS,aC,aZ]
  refine yA5 eN38 [.tmp 20] _ (by kernel_rfl) rfl [(.agg ((tpC gp (d:Nat) sz)).toArray)] rfl ?_
  refine (tlen_any (HM.out.1.below HA.out.2.1) HM.out.2.1 d HM.out.2.2.2.1 sz).mono ?_
  rintro e w2 ⟨rfl,hb_⟩
  refine ⟨_,rfl,?_⟩
  rw [HM.out.2.2.2.2.1]
  have H2:Hid (Row w2 q 86 (tpC gp (d:Nat) sz)∧Below w.heap.size w w2):=⟨HA.out.1.later hb_ HA.out.1.lt,HA.out.2.1.trans (hb_.mono HA.out.2.1.size)⟩
  clear hb_
  simp only [Act.put,aS,aC,aZ]
  refine wl (by kernel_rfl) _ _ (yA4 (.tmp 2) rfl (.int .i64 n) rfl) ?_
  refine wl (by kernel_rfl) (.int .i64 ((ct.length:Nat) - n)) _ (run_subZ (.tmp 21) (.tmp 22) rfl (ct.length:Nat) n _ rfl rfl rfl (by omega) (by omega)) ?_
  refine wl (by kernel_rfl) _ _ (yH6 (.tmp 19) (.tmp 23) rfl at_ ((ct.length:Nat) - n) rfl rfl true (decide_eq_true h3)) ?_
  simp only [Act.put,aS,aC,aZ]
  refine wl rfl _ _ (yA6 (.tmp 18) (.const (.bool true)) (.tmp 24) rfl false (.bool true) rfl rfl) ?_
  simp only [Act.put,aS,aC,aZ]
  refine wpList_nil ?_
  go_upto_region 2 with fail
  refine wp_region_lit ?_
  refine wa (.const (.slice none 0 0)) (.slice none 0 0) ?_
  refine wa (.const (.int .i64 4)) (.int .i64 4) ?_
  simp only [Act.put,aS,aC,aZ]
  refine wpList_nil ?_
  go_wp2_with fail
  rw [HPQ.out]
  exact ⟨H2.out.2,Or.inl ⟨Or.inr (Or.inr (by omega)),rfl⟩⟩
 go_upto_region 1 with fail
 refine wp_region_lit ?_
 refine wm 1 (.int .i64 at_) ?_
 refine wl rfl _ _ (yB8 (.tmp 12) (.const (.int .i64 0)) rfl at_ 0 rfl rfl false (decide_eq_false h1)) ?_
 refine wm 13 (.bool false) ?_
 simp only [Act.put,aS,aC,aZ]
 refine wl (by kernel_rfl) _ _ (yA4 (.tmp 2) rfl (.int .i64 n) rfl) ?_
 refine wl (by kernel_rfl) _ _ (yB8 (.tmp 15) (.const (.int .i64 0)) rfl n 0 rfl rfl false (decide_eq_false h2)) ?_
 refine wl rfl _ _ (yA6 (.tmp 14) (.const (.bool true)) (.tmp 16) rfl false (.bool false) rfl rfl) ?_
 simp only [Act.put,aS,aC,aZ]
 refine wm 17 (.bool false) ?_
 refine wl (by kernel_rfl) _ _ (yA4 (.tmp 1) rfl (.int .i64 at_) rfl) ?_
 refine wl (by kernel_rfl) _ _ (yA9 ag86 (.tmp 3) rfl q (0) rfl ((tpC gp (d:Nat) sz)) rfl (yJ0 HA.out.1)) ?_
 simp only [Act.put,aS,aC,aZ]
 refine yA5 eN38 [.tmp 20] _ (by kernel_rfl) rfl [(.agg ((tpC gp (d:Nat) sz)).toArray)] rfl ?_
 refine (tlen_any (HM.out.1.below HA.out.2.1) HM.out.2.1 d HM.out.2.2.2.1 sz).mono ?_
 rintro e w2 ⟨rfl,hb_⟩
 refine ⟨_,rfl,?_⟩
 rw [HM.out.2.2.2.2.1]
 have H2:Hid (Row w2 q 86 (tpC gp (d:Nat) sz)∧Below w.heap.size w w2):=⟨HA.out.1.later hb_ HA.out.1.lt,HA.out.2.1.trans (hb_.mono HA.out.2.1.size)⟩
 clear hb_
 simp only [Act.put,aS,aC,aZ]
 refine wl (by kernel_rfl) _ _ (yA4 (.tmp 2) rfl (.int .i64 n) rfl) ?_
 refine wl (by kernel_rfl) (.int .i64 ((ct.length:Nat) - n)) _ (run_subZ (.tmp 21) (.tmp 22) rfl (ct.length:Nat) n _ rfl rfl rfl (by omega) (by omega)) ?_
 refine wl (by kernel_rfl) _ _ (yH6 (.tmp 19) (.tmp 23) rfl at_ ((ct.length:Nat) - n) rfl rfl false (decide_eq_false h3)) ?_
 simp only [Act.put,aS,aC,aZ]
 refine wl rfl _ _ (yA6 (.tmp 18) (.const (.bool true)) (.tmp 24) rfl false (.bool false) rfl rfl) ?_
 simp only [Act.put,aS,aC,aZ]
 refine wpList_nil ?_
 obtain ⟨a,rfl⟩:∃a:Nat,at_=(a:Nat):=⟨at_.toNat,by omega⟩
 obtain ⟨N,rfl⟩:∃N:Nat,n=(N:Nat):=⟨n.toNat,by omega⟩
 have haN:a+N≤ct.length:=(by omega)
 have HNN:Hid (a+N≤ct.length):=haN
 clear h1 h2 h3 hat hn
 go_upto_region 3 with fail
 refine wp_region_lit ?_
 refine wm 2 (.int .i64 (N:Nat)) ?_
 simp only [Act.put,aS,aC,aZ]
 obtain ⟨w3,hr_,hline_,hb_⟩:=make_blocks w2 N (by omega)
 obtain ⟨gv,hgv⟩:∃g,g=w2.heap.size:=⟨_,rfl⟩
 rw [←hgv] at hr_ hline_
 refine wl rfl (whole gv N) w3 (hr_ _ _ (.tmp 26) (.tmp 26) rfl rfl rfl) ?_
 have H3:Hid (Row w3 q 86 (tpC gp (d:Nat) sz)∧Below w.heap.size w w3∧ALine 133 64 w3 gv (List.replicate N (Zs 64))∧w.heap.size≤gv∧q<gv):=⟨H2.out.1.later hb_ H2.out.1.lt,H2.out.2.trans (hb_.mono H2.out.2.size),hline_,by rw [hgv];exact H2.out.2.size,by rw [hgv];exact H2.out.1.lt⟩
 clear hr_ hline_ hb_ hgv H2
 simp only [Act.put,aS,aC,aZ]
 refine wa (.tmp 27) (whole gv N) ?_
 simp only [Act.put,aS,aC,aZ]
 refine wpList_nil ?_
 go_upto_region 4 with fail
 refine wp_region_lit ?_
 refine wm 8 (whole gv N) ?_
 refine wl rfl _ _ (run_lenZ sl93 (.tmp 28) rfl (some ⟨gv,0,none⟩) N N rfl) ?_
 refine wl rfl _ _ (yA4 (.const (.int .i64 0)) rfl (.int .i64 0) rfl) ?_
 simp only [Act.put,aS,aC,aZ]
 refine wpList_nil ?_
 obtain ⟨fn,hfn⟩:∃f:Nat→List (List Nat),f=fun k=>(ct.drop a).take k++List.replicate (N - k) (Zs 64):=⟨_,rfl⟩
 have HF:Hid (fn=fun k=>(ct.drop a).take k++List.replicate (N - k) (Zs 64)):=hfn
 have HFL:Hid (∀k,k≤N→(fn k).length=N):=fun k hk=>(by rw [HF.out];simp;have:=HNN.out;omega)
 have HFS:Hid (∀k,k<N→(fn k).set k (ct.getD (a+k) [])=fn (k+1)):=fun k hk=>(by rw [HF.out];exact fill_next ct a N k hk HNN.out)
 clear hfn
 go_wp2_with fail
 go_loopw [9,10,11,30] (fun _ _ _ vk W => ∃k:Nat,vk = .int .i64 (k:Nat)∧k≤N∧(k=0∨m.on=true)∧Hid (Row W q 86 (tpC gp (d:Nat) sz)∧Below w.heap.size w W∧ALine 133 64 W gv (fn k))) (fun _ _ _ vk _=>N - (intOf vk).toNat)
 case atStart=>exact ⟨0,rfl,Nat.zero_le _,Or.inl rfl,H3.out.1,H3.out.2.1,by rw [HF.out];simpa using H3.out.2.2.1⟩
 case round =>
  obtain ⟨k,rfl,hk,hko,HI⟩:=hrel
  by_cases hlt:k<N
  ·go_upto_region 5 with fail
   refine wp_region_lit ?_
   refine wl rfl _ _ (yB8 (.tmp 30) (.tmp 29) rfl (k:Nat) (N:Nat) rfl rfl true (decide_eq_true (by omega))) ?_
   simp only [Act.put,aS,aC,aZ]
   refine wpList_nil ?_
   go_upto_region 6 with fail
   refine wp_region_lit ?_
   refine wm 30 (.int .i64 (k:Nat)) ?_
   refine wa (.tmp 32) (.int .i64 (k:Nat)) ?_
   simp only [Act.put,aS,aC,aZ]
   refine wpList_nil ?_
   by_cases hon:m.on=true
   ·have HON:Hid (m.on=true):=hon
    go_upto_region 7 with fail
    refine wp_region_lit ?_
    refine wl rfl _ _ (yA3 f86_0 (.tmp 3) rfl q (0) rfl) ?_
    refine wl rfl _ _ (yA7 o24 (.tmp 34) rfl q (0+0) rfl (ptr gp) (HI.out.1.at 0 _ rfl)) ?_
    refine wl rfl _ _ (yA3 f86_1 (.tmp 3) rfl q (0) rfl) ?_
    simp only [Act.put,aS,aC,aZ]
    refine wl rfl _ _ (yA7 o3 (.tmp 36) rfl q (0+1) rfl (.int .i64 (d:Nat)) (HI.out.1.at 1 _ rfl)) ?_
    refine wm 1 (.int .i64 (a:Nat)) ?_
    refine wm 9 (.int .i64 (k:Nat)) ?_
    simp only [Act.put,aS,aC,aZ]
    refine wl rfl (.int .i64 ((a+k:Nat):Int)) _ (yC8 (.tmp 38) (.tmp 39) rfl (a:Nat) (k:Nat) _ rfl rfl (by omega) (by omega) (by omega)) ?_
    simp only [Act.put,aS,aC,aZ]
    obtain ⟨bl,hbl⟩:∃x,x=ct.getD (a+k) []:=⟨_,rfl⟩
    have HB:Hid (bl=ct.getD (a+k) []∧bl.length=64∧∀c∈bl,c<256):=⟨hbl,by rw [hbl];exact HM.out.2.2.2.2.2.1.at (a+k) (by omega)⟩
    clear hbl
    have hh_:=(HM.out.1.below HI.out.2.1).read HM.out.2.1 HON.out d (a+k) HM.out.2.2.2.1 (by rw [HM.out.2.2.2.2.1];omega)
    rw [HM.out.2.2.2.2.2.2 (a+k) (by omega),←HB.out.1] at hh_
    refine yA5 eN32 [.tmp 35,.tmp 37,.tmp 40] _ rfl rfl [(ptr gp),(.int .i64 (d:Nat)),(.int .i64 ((a+k:Nat):Int))] rfl ?_
    refine hh_.mono ?_
    rintro e y1 ⟨gb,rfl,hgb_,hrow_,hb_⟩
    refine ⟨_,rfl,?_⟩
    have Q1:Hid ((Row y1 q 86 (tpC gp (d:Nat) sz)∧Below w.heap.size w y1∧ALine 133 64 y1 gv (fn k))∧Row y1 gb 5 (yA0 bl)∧gv<gb):=⟨⟨HI.out.1.later hb_ HI.out.1.lt,HI.out.2.1.trans (hb_.mono HI.out.2.1.size),HI.out.2.2.later hb_⟩,hrow_,Nat.lt_of_lt_of_le HI.out.2.2.2.lt hgb_⟩
    clear hgb_ hrow_ hb_
    simp only [Act.put,aS,aC,aZ]
    refine wm 41 (.tuple #[(.slice (some ⟨gb,0,none⟩) 64 64),(.int .i64 0)]) ?_
    refine wl rfl _ _ (yA8 (.tmp 33) 0 rfl #[(.slice (some ⟨gb,0,none⟩) 64 64),(.int .i64 0)] rfl (.slice (some ⟨gb,0,none⟩) 64 64) rfl) ?_
    refine wl rfl _ _ (yA8 (.tmp 33) 1 rfl #[(.slice (some ⟨gb,0,none⟩) 64 64),(.int .i64 0)] rfl (.int .i64 0) rfl) ?_
    simp only [Act.put,aS,aC,aZ]
    refine wa (.tmp 42) (.slice (some ⟨gb,0,none⟩) 64 64) ?_
    refine wa (.tmp 43) (.int .i64 0) ?_
    simp only [Act.put,aS,aC,aZ]
    refine wpList_nil ?_
    go_upto_region 8 with fail
    refine wp_region_lit ?_
    refine wm 11 (.int .i64 0) ?_
    refine wl rfl _ _ (yD1 (.tmp 44) (.const (.int .i64 0)) rfl (0) (0) rfl rfl false rfl) ?_
    simp only [Act.put,aS,aC,aZ]
    refine wpList_nil ?_
    have HQG:Hid (w.heap.size≤gv∧q<gv):=⟨H3.out.2.2.2.1,H3.out.2.2.2.2⟩
    go_upto_region 10 with fail
    refine yJ7 (S:=fun X=>(Row X q 86 (tpC gp (d:Nat) sz)∧Below w.heap.size w X∧ALine 133 64 X gv (fn k))∧Row X gb 5 (yA0 bl)) 10 (by kernel_rfl) ?_
    show wpAnyU _ _ _ _ _ _ 11 (Array.replicate 11 false) _ _
    obtain ⟨X,hX⟩:∃X:World,X = { y1 with drawn:=y1.drawn+1 }:=⟨_,rfl⟩
    rw [←hX]
    have HS_:(Row X q 86 (tpC gp (d:Nat) sz)∧Below w.heap.size w X∧ALine 133 64 X gv (fn k))∧Row X gb 5 (yA0 bl):=(by rw [hX];exact ⟨⟨Q1.out.1.1.later ⟨rfl,rfl,rfl,Nat.le_refl _,fun _ _=>rfl⟩ Q1.out.1.1.lt,Q1.out.1.2.1.trans ⟨rfl,rfl,rfl,Nat.le_refl _,fun _ _=>rfl⟩,Q1.out.1.2.2.later ⟨rfl,rfl,rfl,Nat.le_refl _,fun _ _=>rfl⟩⟩,Q1.out.2.1.later ⟨rfl,rfl,rfl,Nat.le_refl _,fun _ _=>rfl⟩ Q1.out.2.1.lt⟩)
    clear hX
    refine tV 0 [10] 47 rfl rfl (gRun rfl _ fun _ h=>yA4 (.tmp 8) rfl (whole gv N) rfl) HS_ ?_
    refine tV 1 [10] 48 rfl rfl (gRun rfl _ fun _ h=>yA4 (.tmp 9) rfl (.int .i64 (k:Nat)) rfl) HS_ ?_
    refine tV 2 [10] 49 rfl rfl (gRun rfl _ fun _ h=>yA4 (.tmp 10) rfl (.slice (some ⟨gb,0,none⟩) 64 64) rfl) HS_ ?_
    simp only [Act.put,aS,aC,aZ]
    refine tV 4 [10] 51 rfl rfl (gRun rfl _ fun _ h=>yA4 (.tmp 10) rfl (.slice (some ⟨gb,0,none⟩) 64 64) rfl) HS_ ?_
    refine tV 5 [10] 52 rfl rfl (gRun rfl (.slice (some ⟨gb,0+56,none⟩) 8 8) fun _ h=>run_subB (.tmp 51) (some (.const (.int .i64 56))) none none rfl (.slice (some ⟨gb,0,none⟩) 64 64) _ rfl (fun w9=>run_sub56 w9 gb)) HS_ ?_
    refine tV 6 [10] 53 rfl rfl (gRun rfl _ fun _ h=>run_toArr 131 8 arr131 (.tmp 52) rfl gb (0+56) 8 8 (Nat.le_refl _) rfl) HS_ ?_
    simp only [Act.put,aS,aC,aZ]
    refine tV 7 [10] 54 rfl rfl (gRun rfl _ fun _ h=>yA9 ag131 (.tmp 53) rfl gb (0+56) rfl (yA0 (bl.drop 56)) (by rw [yA1,List.length_drop,HB.out.2.1]) (fun j v hj=>h.2.at (0+56+j) v (by rw [bcells_drop,List.getElem?_drop] at hj;rw [Nat.zero_add];exact hj))) HS_ ?_
    simp only [Act.put,aS,aC,aZ]
    refine oneU (i:=3) (by kernel_rfl) ?_
    refine yF6 (some 50) rfl rfl rfl 63 _ (yC2 eN63 [.tmp 49] _ rfl [(.slice (some ⟨gb,0,none⟩) 64 64)] rfl) ?_
    refine (yK2 (.slice (some ⟨gb,0,none⟩) 64 64) bl X ⟨_,64,by rw [HB.out.2.1],⟨by rw [HB.out.2.1];decide,by rw [HB.out.2.1];decide⟩,Or.inr ⟨gb,0,rfl,fun j hj=>by rw [Nat.zero_add];exact HS_.2.at j _ (yC3 bl j hj),lt256 bl HB.out.2.2⟩⟩).mono ?_
    rintro e Y1 ⟨rfl,hb_⟩
    refine ⟨_,rfl,?_⟩
    rw [pc_64 HB.out.2.1]
    replace HS_:(Row Y1 q 86 (tpC gp (d:Nat) sz)∧Below w.heap.size w Y1∧ALine 133 64 Y1 gv (fn k))∧Row Y1 gb 5 (yA0 bl):=⟨⟨HS_.1.1.later hb_ HS_.1.1.lt,HS_.1.2.1.trans (hb_.mono HS_.1.2.1.size),HS_.1.2.2.later hb_⟩,HS_.2.later hb_ HS_.2.lt⟩
    clear hb_
    refine ⟨fun _=>HS_,?_⟩
    simp only [Act.put,aS,aC,aZ]
    refine tV 8 [10] 55 rfl rfl (gRun rfl _ fun _ h=>run_blk2 (.tmp 50) (.tmp 54) rfl bl HB.out.2.1 rfl rfl) HS_ ?_
    refine tV 9 [10] 56 rfl rfl (gRun rfl _ fun _ h=>yD5 (.tmp 47) (.tmp 48) rfl (whole gv N) _ _ rfl rfl (ix_whole el93 gv N k hlt)) HS_ ?_
    simp only [Act.put,aS,aC,aZ]
    refine oneU (i:=10) (by kernel_rfl) ?_
    obtain ⟨Y2,hst_,hline_,hch_,hsz_⟩:=HS_.1.2.2.put el93 k (by rw [HFL.out k (by omega)];exact hlt) bl HB.out.2
    rw [HB.out.1,HFS.out k hlt] at hline_
    refine opSkipZ rfl rfl rfl Y2 (hst_ _ _ (.tmp 56) (.tmp 55) rfl rfl rfl) ?_
    have Q2:Hid (Row Y2 q 86 (tpC gp (d:Nat) sz)∧Below w.heap.size w Y2∧ALine 133 64 Y2 gv (fn (k+1))):=⟨hch_.row (fun e=>absurd e (Nat.ne_of_lt HQG.out.2)) HS_.1.1,HS_.1.2.1.trans (hch_.below HS_.1.2.1.size fun b hb e=>by have:=HQG.out.1;omega),hline_⟩
    clear hst_ hline_ hch_ hsz_ HS_
    refine ⟨fun h=>absurd (show true=false from h) (by decide),?_⟩
    refine wpAnyU_done (by kernel_rfl) ?_ _
    go_upto_region 11 with fail
    refine wp_region_lit ?_
    refine wl rfl (.int .i64 ((k+1:Nat):Int)) _ (yC8 (.tmp 30) (.const (.int .i64 1)) rfl (k:Nat) 1 _ rfl rfl (by omega) (by omega) (by omega)) ?_
    refine wm 57 (.int .i64 ((k+1:Nat):Int)) ?_
    simp only [Act.put,aS,aC,aZ]
    refine wpList_nil ?_
    go_wp2_with fail
    exact ⟨⟨k+1,rfl,by omega,Or.inr HON.out,Q2.out⟩,by simp [intOf];omega⟩
   ·go_upto_region 7 with fail
    refine wp_region_lit ?_
    refine wl rfl _ _ (yA3 f86_0 (.tmp 3) rfl q (0) rfl) ?_
    refine wl rfl _ _ (yA7 o24 (.tmp 34) rfl q (0+0) rfl (ptr gp) (HI.out.1.at 0 _ rfl)) ?_
    refine wl rfl _ _ (yA3 f86_1 (.tmp 3) rfl q (0) rfl) ?_
    simp only [Act.put,aS,aC,aZ]
    refine wl rfl _ _ (yA7 o3 (.tmp 36) rfl q (0+1) rfl (.int .i64 (d:Nat)) (HI.out.1.at 1 _ rfl)) ?_
    refine wm 1 (.int .i64 (a:Nat)) ?_
    refine wm 9 (.int .i64 (k:Nat)) ?_
    simp only [Act.put,aS,aC,aZ]
    refine wl rfl (.int .i64 ((a+k:Nat):Int)) _ (yC8 (.tmp 38) (.tmp 39) rfl (a:Nat) (k:Nat) _ rfl rfl (by omega) (by omega) (by omega)) ?_
    simp only [Act.put,aS,aC,aZ]
    have hh_:=(HM.out.1.below HI.out.2.1).readN HM.out.2.1 (d:Nat) ((a+k:Nat):Int) (fun h=>hon h.1)
    rw [if_neg hon] at hh_
    refine yA5 eN32 [.tmp 35,.tmp 37,.tmp 40] _ rfl rfl [(ptr gp),(.int .i64 (d:Nat)),(.int .i64 ((a+k:Nat):Int))] rfl ?_
    refine hh_.mono ?_
    rintro e y1 ⟨rfl,nn,hn_⟩
    refine ⟨_,rfl,?_⟩
    have hb_:Below w.heap.size w y1:=(by rw [hn_];exact HI.out.2.1.trans (Below.drewN (Below.refl _ _) nn))
    clear hn_
    simp only [Act.put,aS,aC,aZ]
    refine wm 41 (.tuple #[(.slice none 0 0),(.int .i64 2)]) ?_
    refine wl rfl _ _ (yA8 (.tmp 33) 0 rfl #[(.slice none 0 0),(.int .i64 2)] rfl (.slice none 0 0) rfl) ?_
    refine wl rfl _ _ (yA8 (.tmp 33) 1 rfl #[(.slice none 0 0),(.int .i64 2)] rfl (.int .i64 2) rfl) ?_
    simp only [Act.put,aS,aC,aZ]
    refine wa (.tmp 42) (.slice none 0 0) ?_
    refine wa (.tmp 43) (.int .i64 2) ?_
    simp only [Act.put,aS,aC,aZ]
    refine wpList_nil ?_
    go_upto_region 8 with fail
    refine wp_region_lit ?_
    refine wm 11 (.int .i64 2) ?_
    refine wl rfl _ _ (yD1 (.tmp 44) (.const (.int .i64 0)) rfl (2) (0) rfl rfl true rfl) ?_
    simp only [Act.put,aS,aC,aZ]
    refine wpList_nil ?_
    go_upto_region 9 with fail
    refine wp_region_lit ?_
    refine wm 11 (.int .i64 2) ?_
    refine wa (.const (.slice none 0 0)) (.slice none 0 0) ?_
    refine wa (.tmp 46) (.int .i64 2) ?_
    simp only [Act.put,aS,aC,aZ]
    refine wpList_nil ?_
    go_wp2_with fail
    rw [HPQ.out]
    exact ⟨hb_,Or.inr (Or.inr ⟨a,N,rfl,rfl,haN,by omega,by simpa using hon,rfl⟩)⟩
  ·go_upto_region 5 with fail
   refine wp_region_lit ?_
   refine wl rfl _ _ (yB8 (.tmp 30) (.tmp 29) rfl (k:Nat) (N:Nat) rfl rfl false (decide_eq_false (by omega))) ?_
   simp only [Act.put,aS,aC,aZ]
   refine wpList_nil ?_
   go_upto_region 12 with fail
   refine wp_region_lit ?_
   refine wm 8 (whole gv N) ?_
   refine wa (.tmp 58) (whole gv N) ?_
   refine wa (.const (.int .i64 0)) (.int .i64 0) ?_
   simp only [Act.put,aS,aC,aZ]
   refine wpList_nil ?_
   go_wp2_with fail
   rw [HPQ.out]
   have h9:=HI.out.2.2
   rw [show k=N by omega,HF.out] at h9
   simp only [Nat.sub_self,List.replicate_zero,List.append_nil] at h9
   have e9:((ct.drop a).take N).length=N:=(by simp;omega)
   refine ⟨HI.out.2.1,Or.inr (Or.inl ⟨a,N,rfl,rfl,haN,whole gv N,rfl,?_,(by rcases hko with h|h;exact Or.inl (by omega);exact Or.inr h)⟩)⟩
   have h8:=h9.own (base:=w.heap.size) H3.out.2.2.2.1 (by rw [e9];omega)
   rw [e9] at h8
   exact h8
end Go.Proofs.YtpkkkkomdblpoaaDoor

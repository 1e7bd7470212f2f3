/- The operations on hashes and rows of hashes, in a row and in regions that draw their order. The walks of tree.Leaf and of the document's Leaf. The walks of tree.Node and of the document's Node. The greatest power of two below a number: tree.split, and the document's half. -/
import Derived.Test.YtpkkkkomdblpoaaDoorS06
import Derived.Test.YtpkkkkomdblpoaaDoorS07
namespace Go.Proofs.YtpkkkkomdblpoaaDoor.Sh
open Go.RowKit
section
variable {w w0:World} {ops:Array Oper} {rest:List Oper} {o:Oper} {a:Act} {Q:Exit→Act→World→Prop}
theorem wl (hgd:Region.wanted o (yielded ops a.tmps)=true) (v:Value) (w':World) (hrun:(execOp a.eval o).run Tryd.prog w = .ok (.value v) w') (h:wpList Tryd.prog ops Q rest (a.put o.dst v) w'):wpList Tryd.prog ops Q (o :: rest) a w :=
 BigFrame.wpList_want hgd fun K hK=>by
  unfold Oper.wp
  rw [hrun]
  exact hK _ _ h
theorem wlSkip (hgd:Region.wanted o (yielded ops a.tmps)=true) (hdst:o.dst=none) (w':World) (hrun:(execOp a.eval o).run Tryd.prog w = .ok .skip w') (h:wpList Tryd.prog ops Q rest a w'):wpList Tryd.prog ops Q (o :: rest) a w :=
 BigFrame.wpList_want hgd fun K hK=>by
  unfold Oper.wp
  rw [hrun]
  refine hK _ _ ?_
  rw [hdst]
  exact h
theorem rx_len (x:Operand) (ho:o.op = .call { callee:=.builtin .len,args:=#[x],argTypes:=#[107] }) (v:Value) (hs:List (List Nat)) (hx:a.eval x=v) (hin:HIn w0 v hs):(execOp a.eval o).run Tryd.prog w = .ok (.value (.int .i64 (hs.length:Nat))) w:=by
 obtain ⟨_,p,cap,rfl,hl,_⟩:=hin
 have hr:(Builtin.len_ #[107] o.type #[.slice p hs.length cap]).run Tryd.prog w = .ok (goInt hs.length) w:=run_len_slice w _ _ _ _ _ under24
 simp only [execOp,ho,resolve,invoke,builtin,Sem.run_bind,Sem.run_pure,Result.andThen_ok,List.map_toArray,List.map_cons,List.map_nil,hx,hr]
 rfl
theorem rx_sub (x:Operand) (lo hi:Option Operand) (ho:o.op = .slice 107 x lo hi none) (v v':Value) (hx:a.eval x=v) (hr:∀w',(Instr.slice 107 v (lo.map a.eval) (hi.map a.eval) none).run Tryd.prog w' = .ok v' w'):(execOp a.eval o).run Tryd.prog w = .ok (.value v') w:=by
 simp [execOp,ho,hx,run_sliceAt_slice _ _ _ _ _ _ under24,hr]
theorem rx_index (x i:Operand) (ho:o.op = .indexAddr 107 x i) (v p:Value) (hx:a.eval x=v) (I:Value) (hi:a.eval i=I) (hr:∀w',(Instr.indexAt 107 v I).run Tryd.prog w' = .ok p w'):(execOp a.eval o).run Tryd.prog w = .ok (.value p) w:=by
 simp only [execOp,ho,hx,hi,hr,Sem.run_bind,Sem.run_pure,Result.andThen_ok]
theorem rx_load (x:Operand) (ho:o.op = .load 52 x) (p:Value) (hx:a.eval x=p) (h:List Nat) (hp:HAt w p h):(execOp a.eval o).run Tryd.prog w = .ok (.value (hv h)) w:=by
 simp only [execOp,ho,hx,run_hload hp,Sem.run_bind,Sem.run_pure,Result.andThen_ok]
theorem rx_store (x y:Operand) (ho:o.op = .store 52 x y) (g:Nat) (hx:a.eval x = .pointer (some ⟨g,0,none⟩)) (h h':List Nat) (hh:IsH h') (hy:a.eval y=hv h') (hr:HIs w g h):(execOp a.eval o).run Tryd.prog w = .ok .skip (w.setRow g (yA0 h').toArray):=by
 have hl:(yA0 h').length=32:=by rw [yA1];exact hh.1
 have hr':=yG1 agg25 w g 0 52 (yA0 h) (yA0 h') hl hr.2 (by rw [hl,hr.len];decide) (yB0 _)
 rw [yB5 _ _ (by rw [hl,hr.len])] at hr'
 simp only [execOp,ho,hx,hy,hv,Instr.storeAt,Instr.sureAddr,hr',Sem.run_bind,Sem.run_pure,Result.andThen_ok]
theorem his_store {g:Nat} {h h':List Nat} (hh:IsH h') (hr:HIs w g h):HIs (w.setRow g (yA0 h').toArray) g h':=⟨hh,hr.2.setRow _⟩
theorem sliceAt_all {g:Nat} (w:World):(Instr.sliceAt 52 (.pointer (some ⟨g,0,none⟩)) none none none).run Tryd.prog w = .ok (.slice (some ⟨g,0,none⟩) 32 32) w:=by
 obtain ⟨i,hi,_⟩:=Option.map_eq_some_iff.1 info5
 simp [Instr.sliceAt,run_underlying Tryd.underlying52,Instr.sureAddr,Instr.sliceBounds,sizeOf,typeInfo,hi,yB7]
theorem rx_bytes (x:Operand) (ho:o.op = .slice 52 x none none none) (g:Nat) (hx:a.eval x = .pointer (some ⟨g,0,none⟩)):(execOp a.eval o).run Tryd.prog w = .ok (.value (.slice (some ⟨g,0,none⟩) 32 32)) w:=by
 simp [execOp,ho,hx,sliceAt_all]
theorem wl_index (x i:Operand) (hgd:Region.wanted o (yielded ops a.tmps)=true) (ho:o.op = .indexAddr 107 x i) (v:Value) (hs:List (List Nat)) (hx:a.eval x=v) (hin:HIn w v hs) (K:Int) (k:Nat) (hi:a.eval i = .int .i64 K) (hK:K=(k:Int)) (hk:k<hs.length)
  (h:∀p,HAt w p (hs.getD k [])→wpList Tryd.prog ops Q rest (a.put o.dst p) w):wpList Tryd.prog ops Q (o :: rest) a w:=by
 obtain ⟨p,hr,hp⟩:=run_hindex hin k hk
 subst hK
 exact wl hgd _ _ (rx_index x i ho v p hx _ hi hr) (h p hp)
theorem wl_load (x:Operand) (hgd:Region.wanted o (yielded ops a.tmps)=true) (ho:o.op = .load 52 x) (p:Value) (hx:a.eval x=p) (h':List Nat) (hp:HAt w p h') (h:wpList Tryd.prog ops Q rest (a.put o.dst (hv h')) w):wpList Tryd.prog ops Q (o :: rest) a w:=wl hgd _ _ (rx_load x ho p hx h' hp) h
theorem wl_box (x:Operand) (hgd:o.guard=none) (ho:o.op = .box 52 x) (h':List Nat) (hh:IsH h') (hx:a.eval x=hv h')
  (h:∀w',HIs w' w.heap.size h'→w'.heap.size=w.heap.size+1→Below w.heap.size w w'→wpList Tryd.prog ops Q rest (a.put o.dst (.pointer (some ⟨w.heap.size,0,none⟩))) w'):wpList Tryd.prog ops Q (o :: rest) a w :=
 yI2 x hgd ho (yA0 h') hx fun w' r s b=>h w' ⟨hh,r⟩ s b
theorem wl_alloc (hgd:o.guard=none) (ho:o.op = .alloc 52)
  (h:∀w',HIs w' w.heap.size noH→w'.heap.size=w.heap.size+1→Below w.heap.size w w'→wpList Tryd.prog ops Q rest (a.put o.dst (.pointer (some ⟨w.heap.size,0,none⟩))) w'):wpList Tryd.prog ops Q (o :: rest) a w :=
 yD3 (yB4 32) zero25 hgd ho fun w' r s b=>h w' ⟨noH_isH,by rw [←noH_cells];exact r⟩ s b
theorem wl_store (x y:Operand) (hgd:Region.wanted o (yielded ops a.tmps)=true) (hdst:o.dst=none) (ho:o.op = .store 52 x y) (g:Nat) (hx:a.eval x = .pointer (some ⟨g,0,none⟩)) (h0 h':List Nat) (hh:IsH h') (hy:a.eval y=hv h') (hr:HIs w g h0)
  (h:∀w',HIs w' g h'→Only g w w'→w'.heap.size=w.heap.size→wpList Tryd.prog ops Q rest a w'):wpList Tryd.prog ops Q (o :: rest) a w :=
 wlSkip hgd hdst _ (rx_store x y ho g hx h0 h' hh hy hr) (h _ (his_store hh hr) ((Only.refl g w).setRow _) (by simp [World.setRow]))
end
theorem results_H {fn:Func} {p:Tmp} (h:fn.results=#[.cell p 52]) (tmps:Array Value) (w:World) (g:Nat) (hp:tmps.getD p undef = .pointer (some ⟨g,0,none⟩)) (h':List Nat) (hr:HIs w g h'):(results fn tmps).run Tryd.prog w = .ok (hv h') w :=
 yG3 agg25 h tmps w g 52 hp (yA0 h') hr.len hr.2
section
variable {ops:Array Oper} {Q:Exit→Act→World→Prop} {a:Act} {w:World} {listed:Array Bool} {fuel:Nat} {S:World→Prop} {o:Oper}
theorem takeH {i:Nat} (d:Option Tmp) {oi:Oper} {v:Value} (hi:ops[i]? = some oi) (hd:oi.dst=d)
  (hs:Region.noSelect ops=true) (hf:Region.free .any ops listed i=true) (hr:(Region.ready .any ops listed).contains i=true)
  (hQ:∀c a w,Q (.panic c) (a.put d v) w→Q (.panic c) a w) (hy:YieldsIf Tryd.prog ops S oi v a) (hS:S w)
  (h:wpAnyH Tryd.prog .any ops Q S fuel (listed.setIfInBounds i true) (a.put d v) w):wpAnyH Tryd.prog .any ops Q S (fuel+1) listed a w:=by
 subst hd
 exact wpAnyH_take hi hs hf hr hQ hy hS h
theorem oneH {i:Nat} (hr:Region.ready .any ops listed=[i]) (h:wpOp Tryd.prog ops Q i (fun a' w'=>S w'∧wpAnyH Tryd.prog .any ops Q S fuel (listed.setIfInBounds i true) a' w') a w):wpAnyH Tryd.prog .any ops Q S (fuel+1) listed a w :=
 wpAnyH_all (rs:=[i]) hr (by simp) fun j hj=>by obtain rfl:=List.mem_singleton.1 hj;exact h
theorem yG9 {i:Nat} (d:Option Tmp) {K:Act→World→Prop} (hi:ops[i]? = some o) (hd:o.dst=d) (hgd:o.guard=none) (f:Nat) (args:Array Value) (hrun:(execOp a.eval o).run Tryd.prog w = .ok (.enter f args) w) (h:Calls Tryd.prog f args w fun e w' => ∃v,e = .returned v∧K (a.put d v) w'):wpOp Tryd.prog ops Q i K a w:=by
 subst hd
 unfold wpOp
 have hw:Region.wanted o (yielded ops a.tmps)=true:=by simp [Region.wanted,hgd]
 simp only [hi,hw,if_true,Oper.wp,hrun,Oper.upon]
 refine .inl (Calls.mono h fun e w' he => ?_)
 obtain ⟨v,rfl,hK⟩:=he
 exact hK
theorem opVal {i:Nat} (d:Option Tmp) {K:Act→World→Prop} (hi:ops[i]? = some o) (hd:o.dst=d) (hgd:o.guard=none) (v:Value) (w':World) (hrun:(execOp a.eval o).run Tryd.prog w = .ok (.value v) w') (h:K (a.put d v) w'):wpOp Tryd.prog ops Q i K a w:=by
 subst hd
 unfold wpOp
 have hw:Region.wanted o (yielded ops a.tmps)=true:=by simp [Region.wanted,hgd]
 simp only [hi,hw,if_true,Oper.wp,hrun,Oper.upon]
 exact .inl h
theorem opSkip {i:Nat} {K:Act→World→Prop} (hi:ops[i]? = some o) (hd:o.dst=none) (hgd:o.guard=none) (w':World) (hrun:(execOp a.eval o).run Tryd.prog w = .ok .skip w') (h:K a w'):wpOp Tryd.prog ops Q i K a w:=by
 unfold wpOp
 have hw:Region.wanted o (yielded ops a.tmps)=true:=by simp [Region.wanted,hgd]
 simp only [hi,hw,if_true,Oper.wp,hrun,Oper.upon,hd]
 exact .inl h
theorem yRun (hgd:o.guard=none) (v:Value) (hr:∀w,S w→(execOp a.eval o).run Tryd.prog w = .ok (.value v) w):YieldsIf Tryd.prog ops S o v a :=
 Or.inl ⟨by simp [Region.wanted,hgd],hr⟩
theorem yMove (hgd:o.guard=none) (x:Operand) (ho:o.op = .move x) (v:Value) (hv:a.eval x=v):YieldsIf Tryd.prog ops S o v a :=
 yRun hgd v fun w _=>by simp [execOp,ho,hv]
theorem ySub (hgd:o.guard=none) (x:Operand) (lo hi:Option Operand) (ho:o.op = .slice 107 x lo hi none) (v v':Value) (hx:a.eval x=v) (hr:∀w',(Instr.slice 107 v (lo.map a.eval) (hi.map a.eval) none).run Tryd.prog w' = .ok v' w'):YieldsIf Tryd.prog ops S o v' a :=
 yRun hgd v' fun _ _=>rx_sub x lo hi ho v v' hx hr
def yB9 (f:Nat):Prop := ∀args w,(callFunc f args).run Tryd.prog w = .ok (.enter f args) w
theorem enters {f:Nat} {fn:Func} (hf:Tryd.prog.funcs[f]? = some fn) (hn:(fn.name == "runtime.NumGoroutine")=false) (hb:fn.body.isNone=false):yB9 f:=by
 intro args w
 have h1:fn.name ≠ "runtime.NumGoroutine":=by simpa using hn
 have hb':fn.body≠none:=by intro hn;rw [hn] at hb;cases hb
 simp [callFunc,hf,h1,hb',mark]
theorem en12:yB9 68:=enters Tryd.func68 (by kernel_rfl) (by kernel_rfl)
theorem en14:yB9 86:=enters Tryd.func86 (by kernel_rfl) (by kernel_rfl)
theorem yC2 {f:Nat} (ef:yB9 f) (xs:List Operand) (ts:Array TypeId) (ho:o.op = .call { callee:=.value (.func f),args:=xs.toArray,argTypes:=ts }) (vs:List Value) (hv:xs.map a.eval=vs):(execOp a.eval o).run Tryd.prog w = .ok (.enter f vs.toArray) w:=by
 subst hv
 have hen:=ef (xs.map a.eval).toArray w
 simp [execOp,ho,resolve,BigFrame.eval_func,Deferred.ofValue,invoke,hen]
end
theorem yD9 (w:World) (n:Nat):Below w.heap.size w { w with drawn:=n }:=⟨rfl,rfl,rfl,Nat.le_refl _,fun _ _=>rfl⟩
end Go.Proofs.YtpkkkkomdblpoaaDoor.Sh



namespace Go.Proofs.YtpkkkkomdblpoaaDoor.Sh
open Go.RowKit
theorem lt256 (cs:List Nat) (h:∀c∈cs,c<256) (j:Nat):cs.getD j 0<256:=by
 by_cases hj:j<cs.length
 ·simpa [hj] using h _ (List.getElem_mem hj)
 ·simp [hj]
theorem lit_slice (w:World) (cs:List Nat) (h:∀c∈cs,c<256) (hl:cs.length<100):yA2 (w.alloc (.cells (yA0 cs).toArray 5)) (.slice (some ⟨w.heap.size,0,none⟩) cs.length cs.length) cs :=
 ⟨_,_,rfl,⟨Nat.le_refl _,by omega⟩,Or.inr ⟨w.heap.size,0,rfl,fun j hj=>by rw [Nat.zero_add];exact (Row.new w 5 (yA0 cs)).at j _ (yC3 cs j hj),lt256 cs h⟩⟩
theorem run_blit1 (y:Nat) (w:World):(Instr.buildSlice 38 1 #[(0,.int .u8 (y:Nat))]).run Tryd.prog w = .ok (.slice (some ⟨w.heap.size,0,none⟩) 1 1) (w.alloc (.cells (yA0 [y]).toArray 5)):=by kernel_rfl
theorem blit_own (w:World) (base:Nat) (hb:base≤w.heap.size) (cs:List Nat) (hl:cs.length<100):BOwn (w.alloc (.cells (yA0 cs).toArray 5)) base (.slice (some ⟨w.heap.size,0,none⟩) cs.length cs.length) cs:=by
 refine ⟨by rw [yA1,Nat.mul_one],Or.inr ⟨w.heap.size,cs.length,(yA0 cs).toArray,rfl,hb,?_,Nat.le_refl _,by unfold maxLen;omega,by simp [yA1],?_⟩⟩
 ·show (w.heap.push _)[w.heap.size]? = _
  simp
 ·rw [List.take_of_length_le (by simp [yA1])]
section
variable {w:World} {ops:Array Oper} {rest:List Oper} {o:Oper} {a:Act} {Q:Exit→Act→World→Prop}
theorem wl_blit1 (x:Operand) (hgd:Region.wanted o (yielded ops a.tmps)=true) (ho:o.op = .buildSlice 38 1 #[(0,x)]) (y:Nat) (hy:y<256) (X:Int) (hx:a.eval x = .int .u8 X) (hX:X=(y:Int))
  (h:∀w',yA2 w' (.slice (some ⟨w.heap.size,0,none⟩) 1 1) [y]→BOwn w' w.heap.size (.slice (some ⟨w.heap.size,0,none⟩) 1 1) [y]→Below w.heap.size w w'→wpList Tryd.prog ops Q rest (a.put o.dst (.slice (some ⟨w.heap.size,0,none⟩) 1 1)) w'):wpList Tryd.prog ops Q (o :: rest) a w:=by
 subst hX
 refine wl hgd _ _ (by simp only [execOp,ho,List.map_toArray,List.map_cons,List.map_nil,hx,run_blit1,Sem.run_bind,Sem.run_pure,Result.andThen_ok]) (h _ (lit_slice w [y] (by simpa using hy) (by simp)) (blit_own w _ (Nat.le_refl _) [y] (by simp)) (yB2 w _))
end
set_option maxHeartbeats 1000000 in
set_option maxRecDepth 100000 in
theorem leaf_any (v:Value) (cs:List Nat) (w:World) (h:yA2 w v cs) (ht:TabIn w) (hst:yJ3 w) (hlen:cs.length<1152921504606846000) :
  Calls Tryd.prog 67 #[v] w fun e w'=>e = .returned (hv (Tree.leaf cs))∧Below w.heap.size w w':=by
 have h1lt:=ht.lt
 obtain ⟨g0,hg0⟩:∃g0,g0=w.heap.size:=⟨_,rfl⟩
 have G0:Hid (g0=w.heap.size):=hg0
 go_enter Tryd.func67,Tryd.ntmps67
 go_upto_region 0 with fail
 refine wp_region_lit ?_
 refine wl_alloc rfl rfl ?_
 rw [←hg0]
 intro w1 r1 s1 b1
 refine wpList_nil ?_
 have R1:Hid (HIs w1 g0 noH∧w1.heap.size=g0+1∧Below g0 w w1):=⟨r1,s1,b1⟩
 clear r1 s1 b1 hg0
 go_wp2_with fail
 refine (new_any w1 (hst.later (G0.out▸R1.out.2.2))).mono ?_
 rintro e w2 ⟨rfl,st2,b2⟩
 obtain ⟨gs,hgs⟩:∃gs,gs=w1.heap.size:=⟨_,rfl⟩
 have R2:Hid (HIs w2 g0 noH∧StIn w2 gs []∧gs=g0+1∧Below w.heap.size w w2):=by
  refine ⟨R1.out.1.next b2,hgs▸st2,by rw [hgs,R1.out.2.1],?_⟩
  have:=R1.out.2.2
  rw [G0.out] at this
  exact yE1 this b2
 rw [←hgs]
 clear st2 b2 hgs R1
 go_wp2_with (first
  | (refine wl_blit1 (.const (.int .u8 0)) rfl rfl 0 (by decide) _ rfl rfl ?_;intro w3 s3 _ b3;have R3:Hid (HIs w3 g0 noH∧StIn w3 gs []∧gs=g0+1∧Below w.heap.size w w3∧SliceOff w3 gs (.slice (some ⟨w2.heap.size,0,none⟩) 1 1) [0]):=⟨R2.out.1.next b3,R2.out.2.1.later b3 R2.out.2.1.lt,R2.out.2.2.1,yE1 R2.out.2.2.2 b3,(by obtain ⟨p,cap,he,hl,hh⟩:=s3;cases he;rcases hh with hh|⟨b,off,hp,hb⟩;(cases hh);(cases hp;exact ⟨_,_,rfl,by decide,Or.inr ⟨_,_,rfl,Nat.ne_of_gt R2.out.2.1.lt,hb⟩⟩))⟩;clear s3 b3 R2))
 refine (write_any gs _ [] [0] w3 R3.out.2.1 R3.out.2.2.2.2 (ht.later R3.out.2.2.2.1) (by have:=R3.out.2.2.1;have:=G0.out;omega) (by simp)).mono ?_
 rintro e w4 ⟨rfl,st4,o4⟩
 have R4:Hid (HIs w4 g0 noH∧StIn w4 gs [0]∧gs=g0+1∧Below w.heap.size w w4):=by
  have hne:g0≠gs:=by have:=R3.out.2.2.1;omega
  refine ⟨R3.out.1.other o4 hne,st4,R3.out.2.2.1,R3.out.2.2.2.1.trans (o4.below (by have:=R3.out.2.2.1;have:=G0.out;omega) R3.out.2.2.2.1.size)⟩
 clear st4 o4 R3
 go_wp2_with fail
 refine (write_any gs v [0] cs w4 R4.out.2.1 (h.off (by have:=R4.out.2.2.1;have:=G0.out;omega) R4.out.2.2.2) (ht.later R4.out.2.2.2) (by have:=R4.out.2.2.1;have:=G0.out;omega) (by simp;omega)).mono ?_
 rintro e w5 ⟨rfl,st5,o5⟩
 have R5:Hid (HIs w5 g0 noH∧StIn w5 gs ([0]++cs)∧gs=g0+1∧Below w.heap.size w w5):=by
  have hne:g0≠gs:=by have:=R4.out.2.2.1;omega
  refine ⟨R4.out.1.other o5 hne,st5,R4.out.2.2.1,R4.out.2.2.2.trans (o5.below (by have:=R4.out.2.2.1;have:=G0.out;omega) R4.out.2.2.2.size)⟩
 clear st5 o5 R4
 go_wp2_with fail
 refine (stateSum_any gs ([0]++cs) w5 R5.out.2.1 (ht.later R5.out.2.2.2) (by have:=R5.out.2.2.1;have:=G0.out;omega) (by simp;omega)).mono ?_
 rintro e w6 ⟨rfl,b6⟩
 rw [show (Value.agg (yA0 (Sha.sha ([0]++cs))).toArray)=hv (Tree.leaf cs) from rfl]
 have R6:Hid (HIs w6 g0 noH∧Below w.heap.size w w6):=⟨R5.out.1.next b6,yE1 R5.out.2.2.2 b6⟩
 clear b6 R5
 go_wp2_with (first
  | (refine wl_store (.tmp 2) (.tmp 12) rfl rfl rfl g0 rfl noH (Tree.leaf cs) (leaf_isH _) rfl R6.out.1 ?_;intro w7 r7 o7 s7;have R7:Hid (HIs w7 g0 (Tree.leaf cs)∧Below w.heap.size w w7):=⟨r7,R6.out.2.trans (o7.below (Nat.le_of_eq G0.out.symm) R6.out.2.size)⟩;clear r7 o7 s7 R6))
 exact bodyPost_ret (results_H Tryd.results67 _ _ g0 rfl _ R7.out.1) rfl ⟨rfl,R7.out.2⟩
end Go.Proofs.YtpkkkkomdblpoaaDoor.Sh

namespace Go.Proofs.YtpkkkkomdblpoaaDoor.Sh
open Go.RowKit
theorem agg47:AggT 178 65:=⟨Or.inr ⟨_,_,Tryd.underlying178⟩,by kernel_rfl⟩
theorem zero47:(Tryd.prog.info? 178).map (·.zero)=some (some (.agg (yB4 65).toArray)):=by kernel_rfl
def text0:List Nat:=1 :: List.replicate 64 0
theorem run_text0 (w:World):(Instr.build 178 #[(0,.int .u8 1)]).run Tryd.prog w = .ok (.agg (yA0 text0).toArray) w:=by kernel_rfl
theorem slice47_from (g r:Nat) (hr:r<65) (W:World):(Instr.sliceAt 178 (.pointer (some ⟨g,0,none⟩)) (some (.int .i64 (r:Nat))) none none).run Tryd.prog W = .ok (.slice (some ⟨g,r,none⟩) (65 - r) (65 - r)) W:=by
 obtain ⟨i,hi,hsz⟩:=Option.map_eq_some_iff.1 info5
 have h1:(r:Int)≤65:=by omega
 have h2:¬ 65=r:=by omega
 have h3:r≤65:=by omega
 simp [Instr.sliceAt,run_underlying Tryd.underlying178,Instr.sureAddr,Instr.sliceBounds,Instr.sliceBound,asIntOf,sizeOf,typeInfo,hi,hsz,h2,h3,yB7]
theorem slice47_all (g:Nat) (W:World):(Instr.sliceAt 178 (.pointer (some ⟨g,0,none⟩)) none none none).run Tryd.prog W = .ok (.slice (some ⟨g,0,none⟩) 65 65) W:=by
 obtain ⟨i,hi,_⟩:=Option.map_eq_some_iff.1 info5
 simp [Instr.sliceAt,run_underlying Tryd.underlying178,Instr.sureAddr,Instr.sliceBounds,sizeOf,typeInfo,hi,yB7]
section
variable {w:World} {ops:Array Oper} {rest:List Oper} {o:Oper} {a:Act} {Q:Exit→Act→World→Prop}
theorem rx_from47 (x y:Operand) (ho:o.op = .slice 178 x (some y) none none) (g r:Nat) (hr:r<65) (hx:a.eval x = .pointer (some ⟨g,0,none⟩)) (R:Int) (hy:a.eval y = .int .i64 R) (hR:R=(r:Int)):(execOp a.eval o).run Tryd.prog w = .ok (.value (.slice (some ⟨g,r,none⟩) (65 - r) (65 - r))) w:=by
 subst hR
 simp [execOp,ho,hx,hy,slice47_from g r hr]
theorem rx_all47 (x:Operand) (ho:o.op = .slice 178 x none none none) (g:Nat) (hx:a.eval x = .pointer (some ⟨g,0,none⟩)):(execOp a.eval o).run Tryd.prog w = .ok (.value (.slice (some ⟨g,0,none⟩) 65 65)) w:=by
 simp [execOp,ho,hx,slice47_all]
theorem wl_text0 (hgd:Region.wanted o (yielded ops a.tmps)=true) (ho:o.op = .build 178 #[(0,.const (.int .u8 1))]) (h:wpList Tryd.prog ops Q rest (a.put o.dst (.agg (yA0 text0).toArray)) w):wpList Tryd.prog ops Q (o :: rest) a w :=
 wl hgd _ w (by simp [execOp,ho,Act.eval,run_text0]) h
theorem rx_copy (d s:Operand) (ho:o.op = .call { callee:=.builtin .copy,args:=#[d,s],argTypes:=#[38,38] }) (g off n b:Nat) (hd:a.eval d = .slice (some ⟨g,off,none⟩) n n) (hs:a.eval s = .slice (some ⟨b,0,none⟩) 32 32)
  (T:List Nat) (hT:Row w g 178 (yA0 T)) (h:List Nat) (hh:HIs w b h) (hn:32≤n) (hfit:off+32≤T.length):(execOp a.eval o).run Tryd.prog w = .ok (.value (goInt 32)) (w.setRow g (yA0 (splice T off h)).toArray):=by
 have hl:(yA0 h).length=32:=hh.len
 have hrun:=run_copy_row (P:=Tryd.prog) w 38 38 o.type 5 g off n n ⟨b,0,none⟩ 32 32 (yA0 T).toArray 178 (yA0 h) Tryd.underlying38 info5 hT (by rw [hl];exact (Nat.min_eq_left hn).symm) (fun j v hv=>by
  have hj:j<h.length:=by
   have:=(List.getElem?_eq_some_iff.1 hv).1
   rwa [yA1] at this
  rw [yB7,Nat.zero_add,hh.2.at j _ (yC3 h j hj),←hv,yC3 h j hj]) (by rw [hl];simpa [yA1] using hfit) (yB0 h)
 have e:((yA0 T).toArray.toList.take off++(yA0 h++(yA0 T).toArray.toList.drop (off+(yA0 h).length)))=yA0 (splice T off h):=by
  unfold splice
  simp [yA0]
 rw [List.append_assoc,e,hl] at hrun
 simp only [execOp,ho,resolve,invoke,builtin,Sem.run_bind,Sem.run_pure,Result.andThen_ok,List.map_toArray,List.map_cons,List.map_nil,hd,hs,hrun]
 rfl
end
theorem text_done (l r:List Nat) (hl:l.length=32) (hr:r.length=32):splice (splice text0 1 l) 33 r=1 :: (l++r):=by
 unfold splice text0
 have e1:(1 :: List.replicate 64 0:List Nat).take 1=[1]:=rfl
 have e2:(1 :: List.replicate 64 0:List Nat).drop (1+l.length)=List.replicate 32 0:=by rw [hl];rfl
 rw [e1,e2,hr]
 have e3:([1]++(l++List.replicate 32 0):List Nat).take 33=[1]++l:=by
  rw [←List.append_assoc,List.take_append_of_le_length (by simp [hl]),List.take_of_length_le (by simp [hl])]
 have e4:([1]++(l++List.replicate 32 0):List Nat).drop (33+32)=[]:=by
  rw [List.drop_of_length_le (by simp [hl])]
 rw [e3,e4]
 simp
theorem text1_length (l:List Nat) (hl:l.length=32):(splice text0 1 l).length=65:=by rw [length_splice _ _ _ (by rw [hl];decide)];rfl
set_option maxHeartbeats 1000000 in
set_option maxRecDepth 100000 in
theorem node_any (l r:List Nat) (hl:IsH l) (hr:IsH r) (w:World) (ht:TabIn w) (hst:yJ3 w) :
  Calls Tryd.prog 86 #[hv l,hv r] w fun e w'=>e = .returned (hv (Tree.node l r))∧Below w.heap.size w w':=by
 obtain ⟨B,hB⟩:∃B,B=w.heap.size:=⟨_,rfl⟩
 go_enter Tryd.func86,Tryd.ntmps86
 go_upto_region 0 with fail
 refine wp_region_lit ?_
 refine wl_box (.tmp 0) rfl rfl l hl rfl ?_
 rw [←hB]
 intro w1 r1 s1 b1
 refine wl_box (.tmp 1) rfl rfl r hr rfl ?_
 rw [s1]
 intro w2 r2 s2 b2
 refine wl_alloc rfl rfl ?_
 rw [s2]
 intro w3 r3 s3 b3
 refine wpList_nil ?_
 have hR3:HIs w3 B l∧HIs w3 (B+1) r∧HIs w3 (B+1+1) noH∧w3.heap.size=B+3∧Below B w w3:=⟨(r1.later b2 (by omega)).later b3 (by omega),r2.later b3 (by omega),r3,s3,(b1.trans (b2.mono (by omega))).trans (b3.mono (by omega))⟩
 clear r1 s1 b1 r2 s2 b2 r3 s3 b3
 go_upto_region 1 with fail
 refine wp_region_lit ?_
 refine wl_text0 rfl rfl ?_
 refine yD3 (yB4 65) zero47 rfl rfl ?_
 rw [hR3.2.2.2.1]
 intro w4 r4 s4 b4
 have hlt0:(yA0 text0).length=65:=rfl
 refine yE2 agg47 (.tmp 5) (.tmp 6) rfl rfl rfl (B+3) 0 178 rfl (yA0 text0) (yB4 65) rfl hlt0 r4 (by decide) (yB0 _) ?_
 refine wpList_nil ?_
 rw [yB5 _ _ (by rw [hlt0];rfl)]
 have hR5:HIs (w4.setRow (B+3) (yA0 text0).toArray) B l∧HIs (w4.setRow (B+3) (yA0 text0).toArray) (B+1) r∧HIs (w4.setRow (B+3) (yA0 text0).toArray) (B+1+1) noH∧Row (w4.setRow (B+3) (yA0 text0).toArray) (B+3) 178 (yA0 text0)∧Below B w (w4.setRow (B+3) (yA0 text0).toArray) :=
  ⟨⟨hl,(hR3.1.2.later b4 (by omega)).setRow_other (by omega) _⟩,⟨hr,(hR3.2.1.2.later b4 (by omega)).setRow_other (by omega) _⟩,⟨noH_isH,(hR3.2.2.1.2.later b4 (by omega)).setRow_other (by omega) _⟩,r4.setRow _,below_setRow (hR3.2.2.2.2.trans (b4.mono (by omega))) (by omega) _⟩
 generalize w4.setRow (B+3) (yA0 text0).toArray=w5 at hR5 ⊢
 have R5:Hid (HIs w5 B l∧HIs w5 (B+1) r∧HIs w5 (B+1+1) noH∧Row w5 (B+3) 178 (yA0 text0)∧Below B w w5):=hR5
 have HB:Hid (B=w.heap.size):=hB
 clear hR5 hR3 r4 s4 b4 hB hlt0
 go_wp2_with fail
 refine wp_region_held (S:=fun _=>True) (by kernel_rfl) ?_
 show wpAnyH _ _ _ _ _ 3 (Array.replicate 3 false) _ _
 refine takeH (i:=0) (some 7) rfl rfl (by kernel_rfl) (by kernel_rfl) (by kernel_rfl) (fun _ _ _ h=>h) (yRun rfl _ fun _ _=>rx_from47 (.tmp 5) (.const (.int .i64 1)) rfl (B+3) 1 (by decide) rfl _ rfl rfl) trivial ?_
 simp only [Act.put,List.setIfInBounds_toArray,List.set_cons_succ,List.set_cons_zero]
 refine takeH (i:=1) (some 8) rfl rfl (by kernel_rfl) (by kernel_rfl) (by kernel_rfl) (fun _ _ _ h=>h) (yRun rfl _ fun _ _=>rx_bytes (.tmp 2) rfl B rfl) trivial ?_
 simp only [Act.put,List.setIfInBounds_toArray,List.set_cons_succ,List.set_cons_zero]
 refine oneH (i:=2) (by kernel_rfl) ?_
 have D5:HIs { w5 with drawn:=w5.drawn+1 } B l∧Row { w5 with drawn:=w5.drawn+1 } (B+3) 178 (yA0 text0):=⟨R5.out.1,R5.out.2.2.2.1⟩
 refine opVal (some 9) rfl rfl rfl _ _ (rx_copy (.tmp 7) (.tmp 8) rfl (B+3) 1 64 B rfl rfl text0 D5.2 l D5.1 (by decide) (by decide)) ?_
 refine ⟨trivial,?_⟩
 simp only [Act.put,List.setIfInBounds_toArray,List.set_cons_succ,List.set_cons_zero]
 refine wpAnyH_done (by kernel_rfl) ?_ _
 have R6:Hid (HIs (World.setRow { w5 with drawn:=w5.drawn+1 } (B+3) (yA0 (splice text0 1 l)).toArray) (B+1) r∧HIs (World.setRow { w5 with drawn:=w5.drawn+1 } (B+3) (yA0 (splice text0 1 l)).toArray) (B+1+1) noH∧Row (World.setRow { w5 with drawn:=w5.drawn+1 } (B+3) (yA0 (splice text0 1 l)).toArray) (B+3) 178 (yA0 (splice text0 1 l))∧Below B w (World.setRow { w5 with drawn:=w5.drawn+1 } (B+3) (yA0 (splice text0 1 l)).toArray)) :=
  ⟨⟨hr,Row.setRow_other (w:={ w5 with drawn:=w5.drawn+1 }) R5.out.2.1.2 (by omega) _⟩,⟨noH_isH,Row.setRow_other (w:={ w5 with drawn:=w5.drawn+1 }) R5.out.2.2.1.2 (by omega) _⟩,D5.2.setRow _,below_setRow (w:={ w5 with drawn:=w5.drawn+1 }) ⟨R5.out.2.2.2.2.os,R5.out.2.2.2.2.tape,R5.out.2.2.2.2.output,R5.out.2.2.2.2.size,R5.out.2.2.2.2.block⟩ (by omega) _⟩
 generalize World.setRow { w5 with drawn:=w5.drawn+1 } (B+3) (yA0 (splice text0 1 l)).toArray=w6 at R6 ⊢
 clear D5 R5
 go_wp2_with fail
 refine wp_region_held (S:=fun _=>True) (by kernel_rfl) ?_
 show wpAnyH _ _ _ _ _ 3 (Array.replicate 3 false) _ _
 refine takeH (i:=0) (some 10) rfl rfl (by kernel_rfl) (by kernel_rfl) (by kernel_rfl) (fun _ _ _ h=>h) (yRun rfl _ fun _ _=>rx_from47 (.tmp 5) (.const (.int .i64 33)) rfl (B+3) 33 (by decide) rfl _ rfl rfl) trivial ?_
 simp only [Act.put,List.setIfInBounds_toArray,List.set_cons_succ,List.set_cons_zero]
 refine takeH (i:=1) (some 11) rfl rfl (by kernel_rfl) (by kernel_rfl) (by kernel_rfl) (fun _ _ _ h=>h) (yRun rfl _ fun _ _=>rx_bytes (.tmp 3) rfl (B+1) rfl) trivial ?_
 simp only [Act.put,List.setIfInBounds_toArray,List.set_cons_succ,List.set_cons_zero]
 refine oneH (i:=2) (by kernel_rfl) ?_
 have D6:HIs { w6 with drawn:=w6.drawn+1 } (B+1) r∧Row { w6 with drawn:=w6.drawn+1 } (B+3) 178 (yA0 (splice text0 1 l)):=⟨R6.out.1,R6.out.2.2.1⟩
 refine opVal (some 12) rfl rfl rfl _ _ (rx_copy (.tmp 10) (.tmp 11) rfl (B+3) 33 32 (B+1) rfl rfl (splice text0 1 l) D6.2 r D6.1 (by decide) (by rw [text1_length l hl.1];decide)) ?_
 refine ⟨trivial,?_⟩
 simp only [Act.put,List.setIfInBounds_toArray,List.set_cons_succ,List.set_cons_zero]
 refine wpAnyH_done (by kernel_rfl) ?_ _
 rw [text_done l r hl.1 hr.1]
 have R7:Hid (HIs (World.setRow { w6 with drawn:=w6.drawn+1 } (B+3) (yA0 (1 :: (l++r))).toArray) (B+1+1) noH∧Row (World.setRow { w6 with drawn:=w6.drawn+1 } (B+3) (yA0 (1 :: (l++r))).toArray) (B+3) 178 (yA0 (1 :: (l++r)))∧Below B w (World.setRow { w6 with drawn:=w6.drawn+1 } (B+3) (yA0 (1 :: (l++r))).toArray)) :=
  ⟨⟨noH_isH,Row.setRow_other (w:={ w6 with drawn:=w6.drawn+1 }) R6.out.2.1.2 (by omega) _⟩,D6.2.setRow _,below_setRow (w:={ w6 with drawn:=w6.drawn+1 }) ⟨R6.out.2.2.2.os,R6.out.2.2.2.tape,R6.out.2.2.2.output,R6.out.2.2.2.size,R6.out.2.2.2.block⟩ (by omega) _⟩
 generalize World.setRow { w6 with drawn:=w6.drawn+1 } (B+3) (yA0 (1 :: (l++r))).toArray=w7 at R7 ⊢
 clear D6 R6
 have S7:Hid (yA2 w7 (.slice (some ⟨B+3,0,none⟩) 65 65) (1 :: (l++r))):=by
  have hlen:(1 :: (l++r)).length=65:=by simp [hl.1,hr.1]
  exact ⟨_,65,by rw [hlen],⟨by rw [hlen];decide,by rw [hlen];decide⟩,Or.inr ⟨B+3,0,rfl,fun j hj=>by rw [Nat.zero_add];exact R7.out.2.1.at j _ (yC3 _ j hj),lt256 _ (fun c hc=>by
   rcases List.mem_cons.1 hc with rfl|hc
   ·decide
   ·rcases List.mem_append.1 hc with hc|hc
    ·exact hl.2 c hc
    ·exact hr.2 c hc)⟩⟩
 go_wp2_with (first
  | (refine wl rfl _ _ (rx_all47 (.tmp 5) rfl (B+3) rfl) ?_)
  | (go_at_call 84;refine (sum_any _ (1 :: (l++r)) w7 S7.out (ht.later (HB.out▸R7.out.2.2)) (hst.later (HB.out▸R7.out.2.2)) (by simp [hl.1,hr.1])).mono ?_;rintro e w8 ⟨rfl,b8⟩;rw [show (Value.agg (yA0 (Sha.sha (1 :: (l++r)))).toArray)=hv (Tree.node l r) from rfl];have R8:Hid (HIs w8 (B+1+1) noH∧Below B w w8):=⟨R7.out.1.next b8,R7.out.2.2.trans (b8.mono (HB.out▸(HB.out▸R7.out.2.2).size))⟩;clear b8 R7 S7)
  | (refine wl_store (.tmp 4) (.tmp 14) rfl rfl rfl (B+1+1) rfl noH (Tree.node l r) (node_isH _ _) rfl R8.out.1 ?_;intro w9 r9 o9 s9;have R9:Hid (HIs w9 (B+1+1) (Tree.node l r)∧Below B w w9):=⟨r9,R8.out.2.trans (o9.below (by omega) (HB.out▸(HB.out▸R8.out.2).size))⟩;clear r9 o9 s9 R8))
 exact bodyPost_ret (results_H Tryd.results86 _ _ (B+1+1) rfl _ R9.out.1) rfl ⟨rfl,HB.out▸R9.out.2⟩
end Go.Proofs.YtpkkkkomdblpoaaDoor.Sh

namespace Go.Proofs.YtpkkkkomdblpoaaDoor.Sh
open Go.RowKit
theorem pow_lt_62 (K:Nat) (h:K≤61):2 ^ K≤2305843009213693952:=Nat.pow_le_pow_right (n:=2) (by decide) h
set_option maxHeartbeats 400000 in
theorem split_any (n:Nat) (w:World) (h:2≤n) (hn:n≤4611686018427387904) :
  Calls Tryd.prog 85 #[.int .i64 (n:Nat)] w fun e w'=>e = .returned (.int .i64 (Tree.half n:Nat))∧w=w':=by
 obtain ⟨K,hK⟩:∃K,K=Nat.log2 (n - 1):=⟨_,rfl⟩
 have h61:K≤61:=by
  have:=(Nat.log2_lt (n:=n - 1) (k:=62) (by omega)).2 (by omega)
  omega
 have HB:Hid (Lib.bitLen (n - 1)=K+1):=by
  rw [hK]
  exact bitLen_log2 (n - 1+1) (n - 1) (by omega) (by omega) (by omega)
 have HP:Hid (Tree.half n=2 ^ K):=by rw [hK];exact rfl
 clear hK
 go_enter Tryd.func85,Tryd.ntmps85
 go_wp2_with (first
  | (go_at_call 91;refine (len_any ((n:Int) - 1) w (by omega) (by omega)).mono ?_;rintro e w' ⟨rfl,rfl⟩;rw [show ((n:Int) - 1).toNat=n - 1 by omega,HB.out,show ((K+1:Nat):Int)=(K:Int)+1 by omega]))
 go_ret
 refine ⟨?_,rfl⟩
 have e:(2:Int) ^ K=((2 ^ K:Nat):Int):=by rw [Int.natCast_pow];rfl
 have h2:=pow_lt_62 K h61
 have e2:wrap64 ((2:Int) ^ K)=(Tree.half n:Nat):=by
  rw [e,HP.out]
  generalize (2:Nat) ^ K=P at h2 ⊢
  unfold wrap64
  omega
 exact congrArg (fun z=>Ending.returned (.int .i64 z)) e2
end Go.Proofs.YtpkkkkomdblpoaaDoor.Sh

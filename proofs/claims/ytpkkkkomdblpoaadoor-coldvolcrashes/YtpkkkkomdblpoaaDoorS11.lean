/- More operations on blocks that are known whole. Structs, slices of structs, bytes: made, looked at, copied. The calls of one device: read, wait, waitNoMore, settle. Regions that draw their order, taken by hand: what is pure comes first, then the few orders that are left. The walk of device.wait: a write is taken. What the calls make of a plant. -/
import Derived.Test.YtpkkkkomdblpoaaDoorS10
import Derived.Deep.Cut
namespace Go.Proofs.YtpkkkkomdblpoaaDoor
open Go.RowKit Go.Maps
section
variable {w:World} {ops:Array Oper} {rest:List Oper} {o:Oper} {a:Act} {Q:Exit→Act→World→Prop}
theorem yI2 {t:Nat} (x:Operand) (hgd:o.guard=none) (ho:o.op = .box t x) (cs:List Value) (hx:a.eval x = .agg cs.toArray)
  (h:∀w',Row w' w.heap.size t cs→w'.heap.size=w.heap.size+1→Below w.heap.size w w'→wpList Tryd.prog ops Q rest (a.put o.dst (.pointer (some ⟨w.heap.size,0,none⟩))) w'):wpList Tryd.prog ops Q (o :: rest) a w :=
 yB1 hgd _ _ (by simp [execOp,ho,hx,Instr.box,newVar,newRow,Value.cells]) (h (w.alloc (.cells cs.toArray t)) (Row.new w t cs) (by simp) ((Below.refl _ _).alloc (Nat.le_refl _) _))
theorem yD3 {t:Nat} (zs:List Value) (hz:(Tryd.prog.info? t).map (·.zero)=some (some (.agg zs.toArray))) (hgd:o.guard=none) (ho:o.op = .alloc t)
  (h:∀w',Row w' w.heap.size t zs→w'.heap.size=w.heap.size+1→Below w.heap.size w w'→wpList Tryd.prog ops Q rest (a.put o.dst (.pointer (some ⟨w.heap.size,0,none⟩))) w'):wpList Tryd.prog ops Q (o :: rest) a w :=
 wpList_alloc zs hz hgd ho (h (w.alloc (.cells zs.toArray t)) (Row.new w t zs) (by simp) ((Below.refl _ _).alloc (Nat.le_refl _) _))
theorem yE2 {t n:Nat} (ht:AggT t n) (x y:Operand) (hgd:o.guard=none) (hdst:o.dst=none) (ho:o.op = .store t x y) (g off T:Nat) (hx:a.eval x = .pointer (some ⟨g,off,none⟩)) (cs cur:List Value) (hy:a.eval y = .agg cs.toArray) (hn:cs.length=n)
  (hr:Row w g T cur) (hfit:off+cs.length≤cur.length) (h1:∀v∈cs,v.oneCell'=true) (h:wpList Tryd.prog ops Q rest a (w.setRow g (splice cur off cs).toArray)):wpList Tryd.prog ops Q (o :: rest) a w :=
 wpList_store ht x y hgd ho g off T hx cs cur hy hn hr hfit h1 (by rw [hdst];exact h)
theorem yE8 (x:Operand) (hgd:o.guard=none) (ho:o.op = .nilCheck x) (p:Addr) (hx:a.eval x = .pointer (some p))
  (h:wpList Tryd.prog ops Q rest (a.put o.dst (.pointer (some p))) w):wpList Tryd.prog ops Q (o :: rest) a w :=
 yB1 hgd _ w (by simp [execOp,ho,hx]) h
def yD7 (T i k:Nat):Prop := ∀(w:World) (g off:Nat),(Instr.fieldAt T (.pointer (some ⟨g,off,none⟩)) i).run Tryd.prog w = .ok (.pointer (some ⟨g,off+k,none⟩)) w
theorem yF3 {T i k:Nat} (hf:yD7 T i k) (x:Operand) (hgd:o.guard=none) (ho:o.op = .fieldAddr T x i) (g off:Nat) (hx:a.eval x = .pointer (some ⟨g,off,none⟩))
  (h:wpList Tryd.prog ops Q rest (a.put o.dst (.pointer (some ⟨g,off+k,none⟩))) w):wpList Tryd.prog ops Q (o :: rest) a w :=
 yB1 hgd _ w (by simp [execOp,ho,hx,hf w g off]) h
theorem yB5 {α:Type} (zs cs:List α) (h:cs.length=zs.length):splice zs 0 cs=cs:=by
 unfold splice
 simp [h]
theorem yH5 {t n:Nat} (ht:AggT t n) (zs:List Value) (hz:(Tryd.prog.info? t).map (·.zero)=some (some (.agg zs.toArray))) {o1 o2:Oper} {d:Tmp} (hgd1:o1.guard=none) (hgd2:o2.guard=none) (hd1:o1.dst=some d) (hd2:o2.dst=none) (ho1:o1.op = .alloc t) (y:Operand) (ho2:o2.op = .store t (.tmp d) y)
  (cs:List Value) (hl:cs.length=n) (hzl:zs.length=n) (h1:∀v∈cs,v.oneCell'=true)
  (hx:∀v,(a.put (some d) v).eval (.tmp d)=v) (hy:∀v,(a.put (some d) v).eval y = .agg cs.toArray)
  (h:∀w',Row w' w.heap.size t cs→w'.heap.size=w.heap.size+1→Below w.heap.size w w'→wpList Tryd.prog ops Q rest (a.put (some d) (.pointer (some ⟨w.heap.size,0,none⟩))) w'):wpList Tryd.prog ops Q (o1 :: o2 :: rest) a w:=by
 refine yD3 zs hz hgd1 ho1 ?_
 intro w1 r1 s1 b1
 rw [hd1]
 refine yE2 ht (.tmp d) y hgd2 hd2 ho2 w.heap.size 0 t (hx _) cs zs (hy _) hl r1 (by omega) h1 ?_
 rw [yB5 _ _ (by omega)]
 refine h _ (r1.setRow cs) (by simp [World.setRow,s1]) ?_
 exact b1.trans ⟨rfl,rfl,rfl,by simp [World.setRow],fun k hk=>Go.setRow_other w1 _ k _ (by omega)⟩
end
section
variable {P:Program} {ops:Array Oper} {C:World→Prop} {R:Act→Prop} {o:Oper} {rest:List Oper} {a:Act}
theorem wpQuiet_value (hgd:o.guard=none) (v:Value) (hrun:∀w,C w→(execOp a.eval o).run P w = .ok (.value v) w) (h:wpQuiet P ops C R rest (a.put o.dst v)):wpQuiet P ops C R (o :: rest) a:=by
 have hw:Region.wanted o (yielded ops a.tmps)=true:=by simp [Region.wanted,hgd]
 simp only [wpQuiet,hw,if_true]
 exact ⟨v,fun w hC=>by unfold Oper.quietAt;rw [hrun w hC];exact ⟨rfl,rfl⟩,h⟩
end
theorem wpQuiet_load {ops:Array Oper} {C:World→Prop} {R:Act→Prop} {o:Oper} {rest:List Oper} {a:Act} {t n:Nat} (ht:AggT t n) (x:Operand) (hgd:o.guard=none) (ho:o.op = .load t x) (g off:Nat) (hx:a.eval x = .pointer (some ⟨g,off,none⟩)) (cs:List Value) (hn:cs.length=n)
  (hc:∀w,C w→∀j v,cs[j]? = some v→w.cell? ⟨g,off+j,none⟩=some v) (h:wpQuiet Tryd.prog ops C R rest (a.put o.dst (.agg cs.toArray))):wpQuiet Tryd.prog ops C R (o :: rest) a :=
 wpQuiet_value hgd _ (fun w hw=>by simp [execOp,ho,hx,Instr.loadAt,Instr.sureAddr,yF9 ht w g off cs hn (hc w hw)]) h
theorem f87_2:yD7 116 2 2:=fun w g off=>by kernel_rfl
theorem f93_1:yD7 118 1 1:=fun w g off=>by kernel_rfl
theorem f76_2:yD7 125 2 2:=fun w g off=>by kernel_rfl
section
variable {w:World} {c:Nat→Colour} {k:Colour} {g:Nat} {tape:Bool} {size:Nat} {fl:List (List Nat)} {wt:List Wr}
theorem WtIn.shape {v:Value} (h:WtIn w c k v wt):∃p cap,v = .slice p wt.length cap:=by
 obtain ⟨⟨hl,h1⟩,h2⟩:=h
 rcases h1 with ⟨rfl,hn⟩|⟨g,cap,cur,rfl,h0,hg,h3⟩
 ·exact ⟨none,0,by rw [hn]⟩
 ·exact ⟨_,cap,rfl⟩
theorem length_any (h:DevIn w c k g tape size fl wt) (hw:wt.length<35184372088832) :
  Calls Tryd.prog 55 #[ptr g] w fun e w'=>e = .returned (.int .i64 ((if tape then fl.length+wt.length else size:Nat):Int))∧∃n,w'=w.drewN n:=by
 obtain ⟨bm,bl,v,hr,_,_,_,_,⟨f,n,hm,_,hft⟩,hwt,_⟩:=h
 have c0:=hr.at 0 _ rfl
 have c1:=hr.at 1 _ rfl
 have c2:=hr.at 2 _ rfl
 have c3:=hr.at 3 _ rfl
 obtain ⟨p,cap,rfl⟩:=hwt.shape
 clear hwt hr
 cases tape with
 | false =>
  go_enter Tryd.func55,Tryd.ntmps55
  go_wp2
  go_ret
  exact ⟨rfl,0,rfl⟩
 | true =>
  have hb:=hm.bound
  obtain ⟨hn,_⟩:=hft rfl
  have hl:∀q ty,(Builtin.len_ #[121] ty #[.map (some bm)]).run Tryd.prog (w.drewN q) = .ok (.int .i64 (n:Nat)) (w.drewN q):=fun q ty=>(hm.drewN q).len Tryd.underlying121 ty
  clear hft hm
  generalize wt.length=L at *
  go_enter Tryd.func55,Tryd.ntmps55
  go_wp2
  go_quiet (fail)
  go_wp2
  go_ret
  exact ⟨rfl,_,rfl⟩
end
end Go.Proofs.YtpkkkkomdblpoaaDoor

namespace Go.Proofs.YtpkkkkomdblpoaaDoor
open Go.RowKit Go.Maps
theorem splice_cons {α:Type} (A:List α) (o:Nat) (c:α) (r:List α) (h:o+(r.length+1)≤A.length):splice (A.set o c) (o+1) r=splice A o (c :: r):=by
 unfold splice
 rw [List.take_succ_eq_append_getElem (by simp;omega),List.take_set_of_le (Nat.le_refl _),List.getElem_set_self,List.drop_set_of_lt (by omega),List.append_assoc]
 simp [show o+1+r.length=o+(r.length+1) by omega]
theorem splice_nil {α:Type} (A:List α) (o:Nat):splice A o []=A:=by simp [splice]
theorem fold_set:∀(cs:List Value) (off s:Nat) (A:Array Value),off+s+cs.length≤A.size→(cs.zipIdx s).foldl (fun a x=>a.setIfInBounds (off+x.2) x.1) A=(splice A.toList (off+s) cs).toArray
 | [],off,s,A,_=>by simp [splice_nil]
 | c :: r,off,s,A,h=>by
  simp only [List.length_cons] at h
  rw [List.zipIdx_cons,List.foldl_cons,fold_set r off (s+1) _ (by simp;omega)]
  have:=splice_cons A.toList (off+s) c r (by simp;omega)
  rw [←this]
  simp [Nat.add_assoc]
theorem fold_arr (cs:List Value) (off:Nat) (A:Array Value) (h:off+cs.length≤A.size):cs.toArray.zipIdx.foldl (fun a x=>a.setIfInBounds (off+x.2) x.1) A=(splice A.toList off cs).toArray:=by
 have:=fold_set cs off 0 A (by omega)
 rw [Nat.add_zero] at this
 rw [←this]
 simp
theorem info87:(Tryd.prog.info? 116).map (fun i=>(i.zero,i.size,i.bytes))=some (some (.agg (Value.int .i64 0 :: Value.int .i64 0 :: yB4 64).toArray),66,80):=by kernel_rfl
theorem info93:(Tryd.prog.info? 118).map (fun i=>(i.zero,i.size,i.bytes))=some (some (.agg (Value.int .i64 0 :: Value.int .i64 0 :: Value.int .i64 0 :: yB4 64).toArray),67,88):=by kernel_rfl
theorem info5:(Tryd.prog.info? 5).map (·.size)=some 1:=by kernel_rfl
theorem fill_step (place:Nat→Option (Nat×Nat)) (A:Array Value) (i:Nat) (v:Value) (rest:List (Nat×Value)) (off size:Nat) (cs:List Value) (hp:place i=some (off,size)) (hv:v.cells=cs.toArray) (hl:cs.length=size) (hfit:off+cs.length≤A.size) :
  Instr.fill place A ((i,v) :: rest)=Instr.fill place (splice A.toList off cs).toArray rest:=by
 have h1:(decide (v.cells.size≠size) || decide (off+v.cells.size > A.size))=false:=by
  rw [hv]
  simp [hl]
  omega
 have h2:=fold_arr cs off A hfit
 rw [←hv] at h2
 rw [Instr.fill,hp]
 simp only [h1]
 rw [←h2]
 rfl
theorem run_one {t e n bytes:Nat} {zs:List Value} (ht:Tryd.prog.underlying t=some (.slice e)) (hi:(Tryd.prog.info? e).map (fun i=>(i.zero,i.size,i.bytes))=some (some (.agg zs.toArray),n,bytes)) (hn:0<n) (hn':n≤100)
  (w:World) (cs:List Value) (hc:cs.length=n):(Instr.buildSlice t 1 #[(0,.agg cs.toArray)]).run Tryd.prog w = .ok (.slice (some ⟨w.heap.size,0,none⟩) 1 1) (w.alloc (.cells cs.toArray e)):=by
 obtain ⟨i,hi,h0,h1,h2⟩:=info_parts hi
 have e1:¬ n=0:=by omega
 have e2:¬ 16777216<n:=by omega
 have hf:∀A:Array Value,A.size=n→Instr.fill (fun i=>some (i * n,n)) A [(0,.agg cs.toArray)]=some cs.toArray:=fun A hA=>by
  rw [fill_step _ A 0 (.agg cs.toArray) [] 0 n cs (by simp) rfl hc (by omega),yB5 _ _ (by simp;omega)]
  rfl
 have hf':=hf ((Array.range n).map (zs.toArray[· % zs.toArray.size]!)) (by simp)
 simp only [List.size_toArray,List.getElem!_toArray] at hf'
 simp [Instr.buildSlice,run_underlying ht,sizeOf,typeInfo,hi,h1,e1,e2,zeroValue,h0,Value.cells,newRow]
 simp at hf'
 rw [hf']
 rfl
theorem und73:Tryd.prog.underlying 122=some (.slice 116):=Tryd.underlying122
theorem und90:Tryd.prog.underlying 111=some (.slice 118):=Tryd.underlying111
theorem run_build93 (w:World) (d:Int) (cs:List Value) (hc:cs.length=66):(Instr.build 118 #[(0,.int .i64 d),(1,.agg cs.toArray)]).run Tryd.prog w = .ok (.agg (Value.int .i64 d :: cs).toArray) w:=by
 have hf:Instr.fill (fun i=>#[(0,1),(1,66)][i]?) (Value.int .i64 0 :: Value.int .i64 0 :: Value.int .i64 0 :: yB4 64).toArray [(0,.int .i64 d),(1,.agg cs.toArray)]=some (Value.int .i64 d :: cs).toArray:=by
  rw [fill_step _ _ 0 (.int .i64 d) _ 0 1 [.int .i64 d] rfl rfl rfl (by simp),fill_step _ _ 1 (.agg cs.toArray) _ 1 66 cs rfl rfl hc (by simp [splice,yB4,hc])]
  simp [splice,yB4,hc,Instr.fill]
 have hz:(zeroValue 118).run Tryd.prog w = .ok (.agg (Value.int .i64 0 :: Value.int .i64 0 :: Value.int .i64 0 :: yB4 64).toArray) w:=by kernel_rfl
 simp [Instr.build,hz,run_underlying Tryd.underlying118,Value.cells]
 simp at hf
 rw [hf]
 rfl
theorem run_build87 (w:World) (x y:Int):(Instr.build 116 #[(0,.int .i64 x),(1,.int .i64 y)]).run Tryd.prog w = .ok (.agg (Value.int .i64 x :: Value.int .i64 y :: yB4 64).toArray) w:=by kernel_rfl
theorem slice84 (g o:Nat) (W:World):(Instr.sliceAt 114 (.pointer (some ⟨g,o,none⟩)) none none none).run Tryd.prog W = .ok (.slice (some ⟨g,o,none⟩) 64 64) W:=by
 obtain ⟨i,hi,_⟩:=Option.map_eq_some_iff.1 info5
 simp [Instr.sliceAt,run_underlying Tryd.underlying114,Instr.sureAddr,Instr.sliceBounds,sizeOf,typeInfo,hi,yB7]
theorem slice84_32 (g o:Nat) (W:World):(Instr.sliceAt 114 (.pointer (some ⟨g,o,none⟩)) none (some (.int .i64 32)) none).run Tryd.prog W = .ok (.slice (some ⟨g,o,none⟩) 32 64) W:=by
 obtain ⟨i,hi,_⟩:=Option.map_eq_some_iff.1 info5
 simp [Instr.sliceAt,run_underlying Tryd.underlying114,Instr.sureAddr,Instr.sliceBounds,Instr.sliceBound,asIntOf,sizeOf,typeInfo,hi,yB7]
section
variable {w:World} {ops:Array Oper} {rest:List Oper} {o:Oper} {a:Act} {Q:Exit→Act→World→Prop}
theorem yH8 (d s:Operand) (hgd:o.guard=none) (ho:o.op = .call { callee:=.builtin .copy,args:=#[d,s],argTypes:=#[38,38] })
  (g off dLen dCap b so sLen sCap T k:Nat) (hd:a.eval d = .slice (some ⟨g,off,none⟩) dLen dCap) (hs:a.eval s = .slice (some ⟨b,so,none⟩) sLen sCap)
  (cur:List Value) (hr:Row w g T cur) (c:List Nat) (hk:c.length=k) (hn:k=Nat.min sLen dLen) (hsrc:∀j,j<c.length→w.cell? ⟨b,so+j,none⟩=some (.int .u8 (c.getD j 0:Nat))) (hfit:off+k≤cur.length)
  (h:∀w',Row w' g T (splice cur off (yA0 c))→w'.heap.size=w.heap.size→Ch (· = g) w w'→wpList Tryd.prog ops Q rest (a.put o.dst (.int .i64 (k:Nat))) w'):wpList Tryd.prog ops Q (o :: rest) a w:=by
 have hbl:(yA0 c).length=k:=by rw [yA1];exact hk
 refine wpList_copy_own hgd d s 38 38 ho 5 Tryd.underlying38 info5 g off dLen dCap ⟨b,so,none⟩ sLen sCap hd hs cur.toArray T hr (yA0 c) (by rw [hbl];exact hn) ?_ (by rw [hbl];simpa using hfit) (yB0 c) ?_
 ·intro j v hv
  have hj:j<c.length:=by
   have:=(List.getElem?_eq_some_iff.1 hv).1
   rwa [yA1] at this
  rw [yB7,hsrc j hj,←hv,yC3 c j hj]
 ·have hh:=h (w.setRow g (splice cur off (yA0 c)).toArray) (hr.setRow _) (by simp [World.setRow]) ((Ch.refl (· = g) w).setRow (g:=g) (Or.inl rfl) _)
  rw [←hbl] at hh
  exact hh
theorem yI8 {t e n:Nat} (ht:Tryd.prog.underlying t=some (.slice e)) (hs:(Tryd.prog.info? e).map (·.size)=some n) (x ix:Operand) (hgd:o.guard=none) (ho:o.op = .indexAddr t x ix) (b off len cap j:Nat) (hx:a.eval x = .slice (some ⟨b,off,none⟩) len cap)
  (hix:a.eval ix = .int .i64 (j:Nat)) (hj:j<len) (h:wpList Tryd.prog ops Q rest (a.put o.dst (.pointer (some ⟨b,off+j * n,none⟩))) w):wpList Tryd.prog ops Q (o :: rest) a w:=by
 obtain ⟨i,hi,hsz⟩:=Option.map_eq_some_iff.1 hs
 refine yB1 hgd _ w ?_ h
 simp [execOp,ho,hx,hix,Instr.indexAt,asIntOf,run_underlying ht,sizeOf,typeInfo,hi,hsz,hj,yB7]
end
theorem size87:(Tryd.prog.info? 116).map (·.size)=some 66:=by kernel_rfl
theorem size93:(Tryd.prog.info? 118).map (·.size)=some 67:=by kernel_rfl
def BytesIn (w:World) (b off:Nat) (cs:List Nat):Prop:=(∀j,j<cs.length→w.cell? ⟨b,off+j,none⟩=some (.int .u8 (cs.getD j 0:Nat)))∧∀j,cs.getD j 0<256
def yA2 (w:World) (v:Value) (cs:List Nat):Prop :=
 ∃p cap,v = .slice p cs.length cap∧(cs.length≤cap∧cs.length≤9223372036854775807)∧(cs=[]∨∃b off,p=some ⟨b,off,none⟩∧BytesIn w b off cs)
theorem BytesIn.lt {w:World} {b off:Nat} {cs:List Nat} (h:BytesIn w b off cs) (hne:cs≠[]):b<w.heap.size :=
 block_lt_of_cell (h.1 0 (by cases cs <;> simp_all))
theorem BytesIn.later {w wx:World} {b off:Nat} {cs:List Nat} (h:BytesIn w b off cs) (hb:Below w.heap.size w wx):BytesIn wx b off cs :=
 ⟨fun j hj=>by
  rw [←h.1 j hj]
  exact World.cell?_of_block (hb.block b (block_lt_of_cell (h.1 j hj))),h.2⟩
theorem yA2.later {w wx:World} {v:Value} {cs:List Nat} (hb:Below w.heap.size w wx) (h:yA2 w v cs):yA2 wx v cs:=by
 obtain ⟨p,cap,rfl,hl,h⟩:=h
 refine ⟨p,cap,rfl,hl,?_⟩
 rcases h with h|⟨b,off,rfl,h⟩
 ·exact Or.inl h
 ·exact Or.inr ⟨b,off,rfl,h.later hb⟩
end Go.Proofs.YtpkkkkomdblpoaaDoor

namespace Go.Proofs.YtpkkkkomdblpoaaDoor
open Go.RowKit Go.Maps
def OneT (t:Nat):Prop := ∀(w:World) (g o:Nat) (v:Value),w.cell? ⟨g,o,none⟩=some v→(loadVar t ⟨g,o,none⟩).run Tryd.prog w = .ok v w
theorem one3:OneT 3:=fun w g o v h=>by simp [loadVar,isAgg,run_underlying Tryd.underlying3,h]
theorem one70:OneT 82:=fun w g o v h=>by simp [loadVar,isAgg,run_underlying Tryd.underlying82,h]
theorem one72:OneT 121:=fun w g o v h=>by simp [loadVar,isAgg,run_underlying Tryd.underlying121,h]
theorem one73:OneT 122:=fun w g o v h=>by simp [loadVar,isAgg,run_underlying Tryd.underlying122,h]
theorem f76_3:yD7 125 3 3:=fun w g off=>by kernel_rfl
theorem f76_4:yD7 125 4 4:=fun w g off=>by kernel_rfl
section
variable {w:World} {ops:Array Oper} {rest:List Oper} {o:Oper} {a:Act} {Q:Exit→Act→World→Prop}
theorem wpList_load1 {t:Nat} (ht:OneT t) (x:Operand) (hgd:o.guard=none) (ho:o.op = .load t x) (g off:Nat) (hx:a.eval x = .pointer (some ⟨g,off,none⟩)) (v:Value) (hc:w.cell? ⟨g,off,none⟩=some v)
  (h:wpList Tryd.prog ops Q rest (a.put o.dst v) w):wpList Tryd.prog ops Q (o :: rest) a w :=
 yB1 hgd _ w (by simp [execOp,ho,hx,Instr.loadAt,Instr.sureAddr,ht w g off v hc]) h
theorem wpList_lookMapOk' {α:Type} {E:Elem α} {b n:Nat} {f:Nat→Option α} (h:MapAt E w b n f) (m x:Operand) (t e:TypeId) (hgd:o.guard=none) (ho:o.op = .lookup t m x true) (ht:Tryd.prog.underlying t=some (.map 3 e)) (z:α) (hz:(zeroValue e).run Tryd.prog w = .ok (E.enc z) w) (hzo:E.ok z)
  (p:Nat) (hp:p<4611686018427387904) (hm:a.eval m = .map (some b)) (hx:a.eval x = .int .i64 (p:Int)) (u:Value) (y:Bool) (hu:E.enc ((f p).getD z)=u) (hy:(f p).isSome=y) (hK:wpList Tryd.prog ops Q rest (a.put o.dst (.tuple #[u,.bool y])) w):wpList Tryd.prog ops Q (o :: rest) a w:=by
 subst hu hy
 exact wpList_lookMapOk h m x t e hgd ho ht z hz hzo p hp hm hx hK
end
theorem yD2 (x:Wr) (h:x.b.length=64):(yC5 x).length=66:=by simp [yC5,yA1,h]
theorem yJ8 (l:List Wr) (h:∀x∈l,x.b.length=64) (j i:Nat) (x:Wr) (hj:l[j]? = some x) (hi:i<66):(yC0 l)[j * 66+i]? = (yC5 x)[i]?:=by
 induction l generalizing j with
 | nil=>simp at hj
 | cons y l ih =>
  have hy:=yD2 y (h y (by simp))
  unfold yC0 at *
  rw [List.flatMap_cons]
  cases j with
  | zero =>
   simp at hj
   subst hj
   rw [List.getElem?_append_left (by omega)]
   simp
  | succ j =>
   rw [List.getElem?_append_right (by omega),hy,show (j+1) * 66+i - 66=j * 66+i by omega]
   exact ih (fun z hz=>h z (by simp [hz])) j (by simpa using hj)
theorem ok0:ints.ok 0:=(by decide:(Lit.int .i64 0).wf=true)
theorem WtIn.cells {w:World} {c:Nat→Colour} {k:Colour} {v:Value} {wt:List Wr} (h:WtIn w c k v wt) (hw:∀x∈wt,x.b.length=64) (hne:wt≠[]) :
  ∃b cap,v = .slice (some ⟨b,0,none⟩) wt.length cap∧c b=k∧∀j x,wt[j]? = some x→∀i u,(yC5 x)[i]? = some u→w.cell? ⟨b,j * 66+i,none⟩=some u:=by
 obtain ⟨⟨hl,h1⟩,h2⟩:=h
 rcases h1 with ⟨rfl,hn⟩|⟨g,cap,cur,rfl,h0,hg,hc1,hc2,hc3,hc4⟩
 ·exact absurd (List.length_eq_zero_iff.1 hn) hne
 ·refine ⟨g,cap,rfl,h2 g rfl,fun j x hj i u hu => ?_⟩
  have hjl:j<wt.length:=(List.getElem?_eq_some_iff.1 hj).1
  have hx:=yD2 x (hw x (List.mem_of_getElem? hj))
  have hi:i<66:=by have:=(List.getElem?_eq_some_iff.1 hu).1;omega
  have e:(yC0 wt)[j * 66+i]? = some u:=by rw [yJ8 wt hw j i x hj hi];exact hu
  rw [←hc4] at e
  rw [List.getElem?_take] at e
  split at e
  ·simp [World.cell?,hg]
   simpa using e
  ·cases e
set_option maxHeartbeats 1000000 in
set_option maxRecDepth 100000 in
theorem read_any {w:World} {c:Nat→Colour} {k:Colour} {g:Nat} {tape:Bool} {size:Nat} {fl:List (List Nat)} {wt:List Wr} (h:DevIn w c k g tape size fl wt) (p:Nat) (hp:p<4096) (hwt:∀x∈wt,x.b.length=64) (hfl:p<fl.length∨(lastIdx wt p).isSome=true) (hfs:∀s∈fl,s.length=64) (s:List Nat) (hs:(lastAt wt p).getD (fl.getD p zeros)=s) :
  Calls Tryd.prog 59 #[ptr g,.int .i64 (p:Int)] w fun e w'=>e = .returned (secV s)∧Below w.heap.size w w':=by
 go_enter Tryd.func59,Tryd.ntmps59
 go_upto_region 0 with fail
 refine wp_region_lit ?_
 refine yD3 (yB4 64) zero84 rfl rfl ?_
 intro w1 r1 s1 b1
 refine wpList_nil ?_
 obtain ⟨q,hq⟩:∃q,q=w.heap.size:=⟨_,rfl⟩
 rw [←hq] at r1 s1 b1 ⊢
 have h1:DevIn w1 c k g tape size fl wt:=h.kept fun b hb hk=>⟨b1.block b (by omega),hk⟩
 obtain ⟨bm,bl,v,hr,_,_,_,_,⟨f,n,hm,hff,hft⟩,hwi,⟨nl,hl⟩⟩:=h1
 have c2:=hr.at 2 _ rfl
 have c3:=hr.at 3 _ rfl
 have c4:=hr.at 4 _ rfl
 have HB:Hid (Below q w w1):=b1
 have HQ:Hid (q=w.heap.size):=hq
 have HS:Hid (w1.heap.size=q+1):=s1
 clear h hft b1 hq s1
 cases hi:lastIdx wt p with
 | none =>
  have hpl:p<fl.length:=by rw [hi] at hfl;simpa using hfl
  have hla:lastAt wt p=none:=by simp [lastAt,hi]
  rw [hla,Option.getD_none] at hs
  have hv:(f p).getD (List.replicate 64 0)=fl.getD p zeros:=hff p hpl
  have hlen:((fl.getD p zeros).map fun c:Nat=>c).length=64:=by
   simp only [List.length_map]
   rw [List.getD_eq_getElem?_getD,List.getElem?_eq_getElem hpl]
   exact hfs _ (List.getElem_mem hpl)
  simp only [List.length_map] at hlen
  rw [hs] at hlen hv
  clear hwi hff hfl hr hs
  go_upto_region 4 with (at_lookup;refine wpList_lookMapOk' hl _ _ 123 3 rfl rfl Tryd.underlying123 (0:Int) (zeroInt _) ok0 p (by omega) rfl rfl (.int .i64 0) false (by rw [hi];rfl) (by rw [hi];rfl) ?_)
  refine wp_region_lit ?_
  refine yC7 (.tmp 0) rfl rfl _ rfl ?_
  simp only [Act.put,aS,aC,aZ]
  refine yE8 (.tmp 25) rfl rfl _ rfl ?_
  simp only [Act.put,aS,aC,aZ]
  refine yF3 f76_2 (.tmp 26) rfl rfl g 0 rfl ?_
  simp only [Act.put,aS,aC,aZ]
  refine wpList_load1 (by first|exact one72|exact one73|exact one74|exact one67) (.tmp 27) rfl rfl g (0+2) rfl _ c2 ?_
  simp only [Act.put,aS,aC,aZ]
  refine yC7 (.tmp 1) rfl rfl _ rfl ?_
  simp only [Act.put,aS,aC,aZ]
  refine wpList_lookMap hm (.tmp 28) (.tmp 29) 121 114 rfl rfl Tryd.underlying121 (List.replicate 64 0) (zeroSec _) sec_zero p (by omega) rfl rfl ?_
  simp only [Act.put,aS,aC,aZ]
  rw [hv]
  refine yE2 agg84 (.tmp 4) (.tmp 30) rfl rfl rfl q 0 114 rfl (yA0 s) (yB4 64) rfl (by rw [yA1,hlen]) r1 (by rw [yA1,hlen];simp [yB4]) (yB0 _) ?_
  refine wpList_nil ?_
  have r2:=r1.setRow (yA0 s)
  rw [yB5 _ _ (by rw [yA1,hlen];simp [yB4])]
  have HB2:Hid (Below w.heap.size w (w1.setRow q (yA0 s).toArray)):=by
   rw [←HQ.out]
   exact HB.out.trans ⟨rfl,rfl,rfl,by simp [World.setRow],fun k hk=>Go.setRow_other w1 _ k _ (by omega)⟩
  go_wp2
  exact bodyPost_ret (yG3 agg84 Tryd.results59 _ _ q 114 rfl _ (by rw [yA1,hlen]) r2) rfl ⟨rfl,HB2.out⟩
 | some j =>
  have hjl:=lastIdx_lt hi
  obtain ⟨x,hx⟩:∃x,wt[j]? = some x:=⟨_,List.getElem?_eq_getElem hjl⟩
  have hla:lastAt wt p=some x.b:=by simp [lastAt,hi,hx]
  have hlen:x.b.length=64:=hwt x (List.mem_of_getElem? hx)
  rw [hla,Option.getD_some] at hs
  obtain ⟨b,cap,rfl,_,hc⟩:=hwi.cells hwt (by rintro rfl;simp at hjl)
  have hcx:∀i u,(yA0 x.b)[i]? = some u→w1.cell? ⟨b,0+j * 66+2+i,none⟩=some u:=by
   intro i u hu
   have:=hc j x hx (i+2) u (by simpa [yC5] using hu)
   rw [show 0+j * 66+2+i=j * 66+(i+2) by omega]
   exact this
  rw [hs] at hlen hcx
  clear hwi hff hfl hc hm hs
  generalize wt.length=L at *
  go_upto_region 3 with (at_lookup;refine wpList_lookMapOk' hl _ _ 123 3 rfl rfl Tryd.underlying123 (0:Int) (zeroInt _) ok0 p (by omega) rfl rfl (.int .i64 (j:Int)) true (by rw [hi];rfl) (by rw [hi];rfl) ?_)
  refine wp_region_lit ?_
  refine yC7 (.tmp 0) rfl rfl _ rfl ?_
  simp only [Act.put,aS,aC,aZ]
  refine yE8 (.tmp 17) rfl rfl _ rfl ?_
  simp only [Act.put,aS,aC,aZ]
  refine yF3 f76_3 (.tmp 18) rfl rfl g 0 rfl ?_
  simp only [Act.put,aS,aC,aZ]
  refine wpList_load1 (by first|exact one72|exact one73|exact one74|exact one67) (.tmp 19) rfl rfl g (0+3) rfl _ c3 ?_
  simp only [Act.put,aS,aC,aZ]
  refine yC7 (.tmp 5) rfl rfl _ rfl ?_
  simp only [Act.put,aS,aC,aZ]
  refine yI8 und73 size87 (.tmp 20) (.tmp 21) rfl rfl b 0 L cap j rfl rfl hjl ?_
  simp only [Act.put,aS,aC,aZ]
  refine yF3 f87_2 (.tmp 22) rfl rfl b (0+j * 66) rfl ?_
  simp only [Act.put,aS,aC,aZ]
  refine yF1 agg84 (.tmp 23) rfl rfl b (0+j * 66+2) rfl (yA0 s) (by rw [yA1,hlen]) hcx ?_
  simp only [Act.put,aS,aC,aZ]
  refine yE2 agg84 (.tmp 4) (.tmp 24) rfl rfl rfl q 0 114 rfl (yA0 s) (yB4 64) rfl (by rw [yA1,hlen]) r1 (by rw [yA1,hlen];simp [yB4]) (yB0 _) ?_
  refine wpList_nil ?_
  have r2:=r1.setRow (yA0 s)
  rw [yB5 _ _ (by rw [yA1,hlen];simp [yB4])]
  have HB2:Hid (Below w.heap.size w (w1.setRow q (yA0 s).toArray)):=by
   rw [←HQ.out]
   exact HB.out.trans ⟨rfl,rfl,rfl,by simp [World.setRow],fun k hk=>Go.setRow_other w1 _ k _ (by omega)⟩
  go_wp2
  exact bodyPost_ret (yG3 agg84 Tryd.results59 _ _ q 114 rfl _ (by rw [yA1,hlen]) r2) rfl ⟨rfl,HB2.out⟩
end Go.Proofs.YtpkkkkomdblpoaaDoor

namespace Go.Proofs.YtpkkkkomdblpoaaDoor
open Go.RowKit Go.Maps
section
variable {ops:Array Oper} {Q:Exit→Act→World→Prop} {a:Act} {w:World} {listed:Array Bool} {fuel:Nat}
theorem takeA {i:Nat} (d:Option Tmp) {oi:Oper} {v:Value} (hi:ops[i]? = some oi) (hd:oi.dst=d)
  (hs:Region.noSelect ops=true) (hf:Region.free .any ops listed i=true) (hr:(Region.ready .any ops listed).contains i=true)
  (hQ:∀c a w,Q (.panic c) (a.put d v) w→Q (.panic c) a w) (hy:Yields Tryd.prog ops oi v a)
  (h:wpAny Tryd.prog .any ops Q fuel (listed.setIfInBounds i true) (a.put d v) w):wpAny Tryd.prog .any ops Q (fuel+1) listed a w:=by
 subst hd
 exact wpAny_take hi hs hf hr hQ hy h
theorem anyOne {i:Nat} (hr:Region.ready .any ops listed=[i]) (h:wpOp Tryd.prog ops Q i (wpAny Tryd.prog .any ops Q fuel (listed.setIfInBounds i true)) a w):wpAny Tryd.prog .any ops Q (fuel+1) listed a w :=
 ⟨fun h0=>(by rw [hr] at h0;cases h0),fun j hj=>by rw [hr] at hj;obtain rfl:=List.mem_singleton.1 hj;exact h⟩
theorem anyTwo {i j:Nat} (hr:Region.ready .any ops listed=[i,j]) (h:wpOp Tryd.prog ops Q i (wpAny Tryd.prog .any ops Q fuel (listed.setIfInBounds i true)) a w) (h':wpOp Tryd.prog ops Q j (wpAny Tryd.prog .any ops Q fuel (listed.setIfInBounds j true)) a w):wpAny Tryd.prog .any ops Q (fuel+1) listed a w :=
 ⟨fun h0=>(by rw [hr] at h0;cases h0),fun k hk=>by
  rw [hr] at hk
  rcases List.mem_cons.1 hk with rfl|hk
  ·exact h
  ·obtain rfl:=List.mem_singleton.1 hk
   exact h'⟩
theorem yG0 {i:Nat} (d:Option Tmp) {o:Oper} {K:Act→World→Prop} (hi:ops[i]? = some o) (hd:o.dst=d) (hgd:o.guard=none) (v:Value) (w':World) (hrun:(execOp a.eval o).run Tryd.prog w = .ok (.value v) w') (h:K (a.put d v) w'):wpOp Tryd.prog ops Q i K a w:=by
 subst hd
 unfold wpOp
 have hw:Region.wanted o (yielded ops a.tmps)=true:=by simp [Region.wanted,hgd]
 simp only [hi,hw,if_true,Oper.wp,hrun,Oper.upon]
 exact .inl h
theorem yG9 {i:Nat} (d:Option Tmp) {o:Oper} {K:Act→World→Prop} (hi:ops[i]? = some o) (hd:o.dst=d) (hgd:o.guard=none) (f:Nat) (args:Array Value) (hrun:(execOp a.eval o).run Tryd.prog w = .ok (.enter f args) w) (h:Calls Tryd.prog f args w fun e w' => ∃v,e = .returned v∧K (a.put d v) w'):wpOp Tryd.prog ops Q i K a w:=by
 subst hd
 unfold wpOp
 have hw:Region.wanted o (yielded ops a.tmps)=true:=by simp [Region.wanted,hgd]
 simp only [hi,hw,if_true,Oper.wp,hrun,Oper.upon]
 refine .inl (Calls.mono h fun e w' he => ?_)
 obtain ⟨v,rfl,hK⟩:=he
 exact hK
theorem yMove {o:Oper} (hgd:o.guard=none) (x:Operand) (ho:o.op = .move x) (v:Value) (hv:a.eval x=v):Yields Tryd.prog ops o v a :=
 Or.inl ⟨by simp [Region.wanted,hgd],fun w=>by simp [execOp,ho,hv]⟩
theorem yNil {o:Oper} (hgd:o.guard=none) (x:Operand) (ho:o.op = .nilCheck x) (p:Addr) (hv:a.eval x = .pointer (some p)):Yields Tryd.prog ops o (.pointer (some p)) a :=
 Or.inl ⟨by simp [Region.wanted,hgd],fun w=>by simp [execOp,ho,hv]⟩
theorem yField {o:Oper} {T i k:Nat} (hf:yD7 T i k) (hgd:o.guard=none) (x:Operand) (ho:o.op = .fieldAddr T x i) (g off:Nat) (hv:a.eval x = .pointer (some ⟨g,off,none⟩)):Yields Tryd.prog ops o (.pointer (some ⟨g,off+k,none⟩)) a :=
 Or.inl ⟨by simp [Region.wanted,hgd],fun w=>by simp [execOp,ho,hv,hf w g off]⟩
theorem anySeq (l:List Oper) (n:Nat) (hl:∀j,l[j]? = ops[n+j]?) (hB:Region.seqB .any ops fuel n listed=true) (hf:fuel=l.length) (h:wpList Tryd.prog ops Q l a w):wpAny Tryd.prog .any ops Q fuel listed a w:=by
 subst hf
 exact wpAny_of_seq (md:=.any) (Q':=Q) l n listed a w hl hB h
theorem anySeqD {l:List Oper} (n:Nat) (hB:Region.seqB .any l.toArray fuel n listed=true) (hf:fuel=l.length - n) (h:wpList Tryd.prog l.toArray Q (l.drop n) a w):wpAny Tryd.prog .any l.toArray Q fuel listed a w :=
 anySeq (l.drop n) n (fun j=>by simp [List.getElem?_drop]) hB (by simpa using hf) h
theorem anyThree {i j k:Nat} {oi:Oper} (di dj dk:Tmp) (hi:ops[i]? = some oi) (hdi:oi.dst=some di) (gi:oi.guard=none) (hij:di≠dj) (hik:di≠dk) (nij:i≠j) (nik:i≠k)
  (r0:Region.ready .any ops listed=[i,j]) (r1:Region.ready .any ops (listed.setIfInBounds i true)=[j]) (r2:Region.ready .any ops ((listed.setIfInBounds i true).setIfInBounds j true)=[k])
  (r3:Region.ready .any ops (listed.setIfInBounds j true)=[i,k]) (r5:Region.ready .any ops ((listed.setIfInBounds j true).setIfInBounds k true)=[i])
  (vi:Value) (J:Value→World→Prop) (K:Value→Value→World→Prop)
  (ei:(execOp a.eval oi).run Tryd.prog w = .ok (.value vi) w)
  (ei1:∀v w',J v w'→(execOp (a.put (some dj) v).eval oi).run Tryd.prog w' = .ok (.value vi) w')
  (ei2:∀v w' u w'',J v w'→K v u w''→(execOp ((a.put (some dj) v).put (some dk) u).eval oi).run Tryd.prog w'' = .ok (.value vi) w'')
  (hj:∀R:Act→World→Prop,(∀v w',J v w'→R (a.put (some dj) v) w')→wpOp Tryd.prog ops Q j R a w)
  (hj':∀R:Act→World→Prop,(∀v w',J v w'→R ((a.put (some di) vi).put (some dj) v) w')→wpOp Tryd.prog ops Q j R (a.put (some di) vi) w)
  (hk:∀v w',J v w'→∀R:Act→World→Prop,(∀u w'',K v u w''→R ((a.put (some dj) v).put (some dk) u) w'')→wpOp Tryd.prog ops Q k R (a.put (some dj) v) w')
  (hk':∀v w',J v w'→∀R:Act→World→Prop,(∀u w'',K v u w''→R (((a.put (some di) vi).put (some dj) v).put (some dk) u) w'')→wpOp Tryd.prog ops Q k R ((a.put (some di) vi).put (some dj) v) w')
  (tail:∀v w' u w'',J v w'→K v u w''→wpAny Tryd.prog .any ops Q fuel (((listed.setIfInBounds i true).setIfInBounds j true).setIfInBounds k true) (((a.put (some di) vi).put (some dj) v).put (some dk) u) w'') :
  wpAny Tryd.prog .any ops Q (fuel+3) listed a w:=by
 have cij:∀(b:Act) (u v:Value),(b.put (some dj) u).put (some di) v=(b.put (some di) v).put (some dj) u:=fun b u v=>by
  unfold Act.put
  simp [Array.setIfInBounds_comm _ _ hij]
 have cik:∀(b:Act) (u v:Value),(b.put (some dk) u).put (some di) v=(b.put (some di) v).put (some dk) u:=fun b u v=>by
  unfold Act.put
  simp [Array.setIfInBounds_comm _ _ hik]
 have sij:(listed.setIfInBounds j true).setIfInBounds i true=(listed.setIfInBounds i true).setIfInBounds j true:=Array.setIfInBounds_comm _ _ (Ne.symm nij)
 refine anyTwo r0 ?_ ?_
 ·refine yG0 (some di) hi hdi gi vi w ei (anyOne r1 (hj' _ fun v w' hJ=>anyOne r2 (hk' v w' hJ _ fun u w'' hK=>tail v w' u w'' hJ hK)))
 ·refine hj _ fun v w' hJ=>anyTwo r3 ?_ ?_
  ·refine yG0 (some di) hi hdi gi vi w' (ei1 v w' hJ) ?_
   rw [sij,cij]
   exact anyOne r2 (hk' v w' hJ _ fun u w'' hK=>tail v w' u w'' hJ hK)
  ·refine hk v w' hJ _ fun u w'' hK=>anyOne r5 (yG0 (some di) hi hdi gi vi w'' (ei2 v w' u w'' hJ hK) ?_)
   rw [cik,cij,Array.setIfInBounds_comm _ _ (Ne.symm nik),sij]
   exact tail v w' u w'' hJ hK
theorem run_oneOp {o:Oper} {t e n bytes:Nat} {zs:List Value} (ht:Tryd.prog.underlying t=some (.slice e)) (hi:(Tryd.prog.info? e).map (fun i=>(i.zero,i.size,i.bytes))=some (some (.agg zs.toArray),n,bytes)) (hn:0<n) (hn':n≤100) (x:Operand) (ho:o.op = .buildSlice t 1 #[(0,x)]) (cs:List Value) (hc:cs.length=n) (hx:a.eval x = .agg cs.toArray) :
  (execOp a.eval o).run Tryd.prog w = .ok (.value (.slice (some ⟨w.heap.size,0,none⟩) 1 1)) (w.alloc (.cells cs.toArray e)):=by
 simp [execOp,ho,hx,run_one ht hi hn hn' w cs hc]
theorem yA7 {o:Oper} {t:Nat} (ht:OneT t) (x:Operand) (ho:o.op = .load t x) (g off:Nat) (hx:a.eval x = .pointer (some ⟨g,off,none⟩)) (v:Value) (hc:w.cell? ⟨g,off,none⟩=some v):(execOp a.eval o).run Tryd.prog w = .ok (.value v) w:=by
 simp [execOp,ho,hx,Instr.loadAt,Instr.sureAddr,ht w g off v hc]
theorem yA9 {o:Oper} {t n:Nat} (ht:AggT t n) (x:Operand) (ho:o.op = .load t x) (g off:Nat) (hx:a.eval x = .pointer (some ⟨g,off,none⟩)) (cs:List Value) (hn:cs.length=n) (hc:∀j v,cs[j]? = some v→w.cell? ⟨g,off+j,none⟩=some v):(execOp a.eval o).run Tryd.prog w = .ok (.value (.agg cs.toArray)) w:=by
 simp [execOp,ho,hx,Instr.loadAt,Instr.sureAddr,yF9 ht w g off cs hn hc]
end
end Go.Proofs.YtpkkkkomdblpoaaDoor

namespace Go.Proofs.YtpkkkkomdblpoaaDoor
open Go.RowKit Go.Maps
section
variable {w:World} {ops:Array Oper} {rest:List Oper} {o:Oper} {a:Act} {Q:Exit→Act→World→Prop}
theorem splice_one {α:Type} (cur:List α) (i:Nat) (v:α) (h:i<cur.length):splice cur i [v]=cur.set i v:=by
 unfold splice
 rw [List.set_eq_take_append_cons_drop,if_pos h]
 rfl
theorem run_store1 {t:Nat} (ht:(Tryd.prog.info? t).map (·.size)=some 1) (w:World) (g off T:Nat) (cur:List Value) (v:Value) (hv:v.cells=#[v]) (h1:v.oneCell'=true) (hr:Row w g T cur) (hfit:off<cur.length) :
  (storeVar t ⟨g,off,none⟩ v).run Tryd.prog w = .ok () (w.setRow g (cur.set off v).toArray):=by
 obtain ⟨i,hi,hsz⟩:=Option.map_eq_some_iff.1 ht
 have hst:=run_storeCells_at (P:=Tryd.prog) g off T [v] 0 cur.toArray w hr (by simp;omega) (by simpa using h1)
 simp only [Nat.add_zero] at hst
 rw [←splice_one cur off v hfit]
 simp [storeVar,sizeOf,typeInfo,hi,hsz,hv]
 simpa [splice] using hst
theorem yG7 {t:Nat} (ht:(Tryd.prog.info? t).map (·.size)=some 1) (x y:Operand) (hgd:o.guard=none) (hdst:o.dst=none) (ho:o.op = .store t x y) (g off T:Nat) (hx:a.eval x = .pointer (some ⟨g,off,none⟩)) (v:Value) (cur:List Value) (hy:a.eval y=v) (hv:v.cells=#[v]) (h1:v.oneCell'=true)
  (hr:Row w g T cur) (hfit:off<cur.length) (h:wpList Tryd.prog ops Q rest a (w.setRow g (cur.set off v).toArray)):wpList Tryd.prog ops Q (o :: rest) a w :=
 wpList_skip' hgd (w.setRow g (cur.set off v).toArray) (by simp [execOp,ho,hx,hy,Instr.storeAt,Instr.sureAddr,run_store1 ht w g off T cur v hv h1 hr hfit]) (by rw [hdst];exact h)
theorem wpList_build87 (x y:Operand) (hgd:o.guard=none) (ho:o.op = .build 116 #[(0,x),(1,y)]) (i j:Int) (hx:a.eval x = .int .i64 i) (hy:a.eval y = .int .i64 j)
  (h:wpList Tryd.prog ops Q rest (a.put o.dst (.agg (Value.int .i64 i :: Value.int .i64 j :: yB4 64).toArray)) w):wpList Tryd.prog ops Q (o :: rest) a w :=
 yB1 hgd _ w (by simp [execOp,ho,hx,hy,run_build87]) h
theorem wpList_slice84 (x:Operand) (hgd:o.guard=none) (ho:o.op = .slice 114 x none none none) (g off:Nat) (hx:a.eval x = .pointer (some ⟨g,off,none⟩))
  (h:wpList Tryd.prog ops Q rest (a.put o.dst (.slice (some ⟨g,off,none⟩) 64 64)) w):wpList Tryd.prog ops Q (o :: rest) a w :=
 yB1 hgd _ w (by simp [execOp,ho,hx,slice84]) h
theorem wpList_one {t e n bytes:Nat} {zs:List Value} (ht:Tryd.prog.underlying t=some (.slice e)) (hi:(Tryd.prog.info? e).map (fun i=>(i.zero,i.size,i.bytes))=some (some (.agg zs.toArray),n,bytes)) (hn:0<n) (hn':n≤100)
  (x:Operand) (hgd:o.guard=none) (ho:o.op = .buildSlice t 1 #[(0,x)]) (cs:List Value) (hc:cs.length=n) (hx:a.eval x = .agg cs.toArray)
  (h:∀w',Row w' w.heap.size e cs→w'.heap.size=w.heap.size+1→Below w.heap.size w w'→wpList Tryd.prog ops Q rest (a.put o.dst (.slice (some ⟨w.heap.size,0,none⟩) 1 1)) w'):wpList Tryd.prog ops Q (o :: rest) a w :=
 yB1 hgd _ _ (by simp [execOp,ho,hx,run_one ht hi hn hn' w cs hc]) (h (w.alloc (.cells cs.toArray e)) (Row.new w e cs) (by simp) ((Below.refl _ _).alloc (Nat.le_refl _) _))
end
theorem ownBlock_lt {w:World} {e n k:Nat} {v:Value} {xs:List Value} (h:w.ownsRow 0 e n v k xs) {b:Nat} (hb:v.ownBlock=some b):b<w.heap.size∧∃cur,w.heap[b]? = some (.cells cur e (0,0)):=by
 obtain ⟨_,h⟩:=h
 rcases h with ⟨rfl,_⟩|⟨g,cap,cur,rfl,_,hg,_⟩
 ·cases hb
 ·cases hb
  exact ⟨(Array.getElem?_eq_some_iff.1 hg).1,cur,hg⟩
theorem ownsRow_kept {w w':World} {e n k:Nat} {v:Value} {xs:List Value} (h:w.ownsRow 0 e n v k xs) (hb:∀b,v.ownBlock=some b→w'.heap[b]? = w.heap[b]?):w'.ownsRow 0 e n v k xs:=by
 obtain ⟨hl,h⟩:=h
 refine ⟨hl,?_⟩
 rcases h with ⟨rfl,h⟩|⟨g,cap,cur,rfl,h0,hg,h⟩
 ·exact Or.inl ⟨rfl,h⟩
 ·exact Or.inr ⟨g,cap,cur,rfl,h0,(hb g rfl).trans hg,h⟩
theorem size73:(Tryd.prog.info? 122).map (·.size)=some 1:=by kernel_rfl
theorem size74:(Tryd.prog.info? 123).map (·.size)=some 1:=by kernel_rfl
theorem wcells_snoc (l:List Wr) (x:Wr):yC0 (l++[x])=yC0 l++yC5 x:=by simp [yC0]
theorem wrCells_one (x:Wr):∀v∈yC5 x,v.oneCell'=true:=by
 intro v hv
 simp only [yC5,List.mem_cons] at hv
 rcases hv with rfl|rfl|hv
 ·rfl
 ·rfl
 ·exact yB0 _ v hv
def paint (c:Nat→Colour) (n:Nat) (k:Colour):Nat→Colour:=fun b=>if b<n then c b else k
theorem yH9 (c:Nat→Colour) (n:Nat) (k:Colour) (b:Nat) (h:b<n):paint c n k b=c b:=if_pos h
theorem paint_new (c:Nat→Colour) (n:Nat) (k:Colour) (b:Nat) (h:n≤b):paint c n k b=k:=if_neg (by omega)
set_option maxHeartbeats 1000000 in
set_option maxRecDepth 100000 in
theorem wait_any {w:World} {c:Nat→Colour} {k:Colour} {g:Nat} {tape:Bool} {size:Nat} {fl:List (List Nat)} {wt:List Wr} (h:DevIn w c k g tape size fl wt) (d step p:Nat) (hp:p<4096) (hwl:wt.length<1099511627776) (s:List Nat) (hs:Sec s) (v:Value) (hv:yA2 w v s) :
  Calls Tryd.prog 57 #[ptr g,.int .i64 (step:Int),.int .i64 (p:Int),v] w fun e w'=>e = .returned noResult∧∃c',(∀b,b<w.heap.size→c' b=c b)∧DevIn w' c' k g tape size fl (wt++[⟨d,step,p,s⟩])∧Ch (fun b=>c b=k) w w':=by
 obtain ⟨pb,capb,rfl,_,hb⟩:=hv
 have hs64:=hs.1
 rcases hb with rfl|⟨bb,off,rfl,hby⟩
 ·simp at hs64
 have hbb:bb<w.heap.size:=hby.lt (by rintro rfl;simp at hs64)
 obtain ⟨q,hq⟩:∃q,q=w.heap.size:=⟨_,rfl⟩
 have HQ:Hid (q=w.heap.size):=hq
 have HH:Hid (DevIn w c k g tape size fl wt):=h
 have HBY:Hid (BytesIn w bb off s):=hby
 rw [hs64]
 clear h hby
 go_enter Tryd.func57,Tryd.ntmps57
 go_upto_region 0 with fail
 refine wp_region_lit ?_
 refine yC7 (.tmp 1) rfl rfl _ rfl ?_
 refine yC7 (.tmp 2) rfl rfl _ rfl ?_
 simp only [Act.put,aS,aC,aZ]
 refine wpList_build87 (.tmp 9) (.tmp 10) rfl rfl _ _ rfl rfl ?_
 simp only [Act.put,aS,aC,aZ]
 refine yH5 agg87 _ zero87 rfl rfl rfl rfl rfl (.tmp 11) rfl (Value.int .i64 (step:Int) :: Value.int .i64 (p:Int) :: yB4 64) rfl rfl ?ones (fun _=>rfl) (fun _=>rfl) ?_
 case ones =>
  intro u hu
  simp only [List.mem_cons] at hu
  rcases hu with rfl|rfl|hu
  ·rfl
  ·rfl
  ·obtain rfl:=(List.mem_replicate.1 hu).2
   rfl
 intro w1 r1 s1 b1
 refine wpList_nil ?_
 simp only [Act.put,aS,aC,aZ]
 rw [←hq] at r1 s1 b1 ⊢
 have HB1:Hid (Below q w w1):=b1
 have HS1:Hid (w1.heap.size=q+1):=s1
 clear b1 s1 hq
 go_upto_region 1 with fail
 refine wp_region_lit ?_
 refine yF3 f87_2 (.tmp 8) rfl rfl q 0 rfl ?_
 refine wpList_slice84 (.tmp 12) rfl rfl q (0+2) rfl ?_
 simp only [Act.put,aS,aC,aZ]
 refine yC7 (.tmp 3) rfl rfl _ rfl ?_
 refine yH8 (.tmp 13) (.tmp 14) rfl rfl q (0+2) 64 64 bb off 64 capb 116 64 rfl rfl _ r1 s hs64 rfl ?cp (by simp [yB4]) ?_
 case cp =>
  intro j hj
  have hbl:Below w.heap.size w w1:=by rw [←HQ.out];exact HB1.out
  exact (HBY.out.later hbl).1 j hj
 intro w2 r2 s2 ch2
 refine wpList_nil ?_
 simp only [Act.put,aS,aC,aZ]
 obtain ⟨x,hx⟩:∃x:Wr,x=⟨d,step,p,s⟩:=⟨_,rfl⟩
 have r2':Row w2 q 116 (yC5 x):=by
  rw [hx]
  have e:splice (Value.int .i64 (step:Int) :: Value.int .i64 (p:Int) :: yB4 64) (0+2) (yA0 s)=yC5 ⟨d,step,p,s⟩:=by
   have hbl:(yA0 s).length=64:=by rw [yA1,hs64]
   simp [splice,yC5,hbl,yB4]
  rw [←e]
  exact r2
 have HB2:Hid (Below q w w2):=HB1.out.trans (ch2.below (by have:=HS1.out;omega) (fun i hi e=>by omega))
 have HS2:Hid (w2.heap.size=q+1):=by rw [s2];exact HS1.out
 have HX:Hid (x=⟨d,step,p,s⟩):=hx
 have hxl:x.b.length=64:=by rw [hx];exact hs64
 clear r1 r2 s2 ch2 HB1 HS1 HBY hx
 have h2:DevIn w2 c k g tape size fl wt:=HH.out.kept fun b hb hk=>⟨HB2.out.block b (by rw [HQ.out];exact hb),hk⟩
 obtain ⟨bm,bl,v,hr,cg,cm,cl,hne,hfl,hwi,⟨nl,hl⟩⟩:=h2
 have c3:=hr.at 3 _ rfl
 have c4:=hr.at 4 _ rfl
 obtain ⟨pv,cap,rfl⟩:=hwi.shape
 obtain ⟨L,hL⟩:∃L,L=wt.length:=⟨_,rfl⟩
 have HL:Hid (L=wt.length):=hL
 rw [←hL] at c3
 have hwl':L<1099511627776:=by omega
 have HWI:Hid (WtIn w2 c k (.slice pv L cap) wt):=by rw [HL.out];exact hwi
 have HCB:Hid (∀b,(Value.slice pv L cap).ownBlock=some b→c b=k):=by rw [HL.out];exact hwi.2
 have HR:Hid (Row w2 g 125 [.bool tape,.int .i64 (size:Nat),.map (some bm),.slice pv L cap,.map (some bl)]):=by rw [HL.out];exact hr
 have HF:Hid (FlIn w2 bm tape fl):=hfl
 clear hwi hr hL hfl
 go_upto_region 2 with fail
 refine yD4 10 (by kernel_rfl) (by kernel_rfl) ?_
 simp only [List.take_succ_cons,List.take_zero,List.drop_succ_cons,List.drop_zero]
 repeat (go_big_quiet_step (fail))
 refine wpQuiet_nil ?_
 intro _ hw'
 obtain ⟨nq,hw''⟩:=hw'
 subst hw''
 refine wpList_putMap0 (hl.drewN nq) (.tmp 19) (.tmp 20) (.tmp 25) 123 3 rfl rfl rfl Tryd.underlying123 p hp (L:Int) (wf_nat L (by omega)) rfl rfl rfl ?_
 intro w3 hl3 t3
 refine wpList_nil ?_
 -- what has turned since
 have hbne:bl≠g:=fun e=>(hl.ne_row HR.out) e
 have hbm:bm≠g:=by
  obtain ⟨f,n,hm,_⟩:=HF.out
  exact hm.ne_row HR.out
 have hblk:∀b,b<w2.heap.size→b≠bl→w3.heap[b]? = w2.heap[b]?:=fun b hb hne=>t3.grown.block b hb (by simpa using hne)
 have HS3:Hid (w3.heap.size=q+1):=(mapTurned_size t3).trans HS2.out
 have hgl:g<w2.heap.size:=HR.out.lt
 have hql:q<w2.heap.size:=r2'.lt
 have hblq:bl≠q:=hl.ne_row r2'
 have HR3:Hid (Row w3 g 125 [.bool tape,.int .i64 (size:Nat),.map (some bm),.slice pv L cap,.map (some bl)]):=by
  show w3.heap[g]? = _
  rw [hblk g hgl (Ne.symm hbne)]
  exact HR.out
 have r3:Row w3 q 116 (yC5 x):=by
  show w3.heap[q]? = _
  rw [hblk q hql (Ne.symm hblq)]
  exact r2'
 have hob:∀b,(Value.slice pv L cap).ownBlock=some b→w3.heap[b]? = w2.heap[b]?:=fun b hb=>by
  obtain ⟨hlt,cur,hc⟩:=ownBlock_lt HWI.out.1 hb
  refine hblk b hlt ?_
  rintro rfl
  obtain ⟨D,⟨es,clock,h1,_⟩,_⟩:=hl
  rw [show w2.heap[b]? = _ from h1] at hc
  cases hc
 have HO3:Hid (w3.ownsRow 0 116 66 (.slice pv L cap) L (yC0 wt)):=by
  have:=ownsRow_kept HWI.out.1 hob
  rw [←HL.out] at this
  exact this
 have HF3:Hid (FlIn w3 bm tape fl):=HF.out.kept (hblk bm HF.out.lt hne)
 have HL3:Hid (LtIn w3 bl (wt++[x])):=by
  refine ⟨if ((lastIdx wt p).map fun j=>(j:Int)).isSome then nl else nl+1,?_⟩
  ·have e:(fun q=>(lastIdx (wt++[x]) q).map fun j=>(j:Int))=fun q=>if q=p then some (L:Int) else (lastIdx wt q).map fun j=>(j:Int):=by
    funext q'
    rw [lastIdx_snoc,HX.out]
    by_cases e:p=q'
    ·simp [e,HL.out]
    ·simp [e,Ne.symm e]
   rw [e]
   exact hl3
 have HC3:Hid (Ch (fun b=>c b=k) w w3):=by
  have h1:Ch (fun b=>c b=k) w (w2.drewN nq):=(Ch.of_below (by rw [←HQ.out];exact HB2.out):Ch (fun b=>c b=k) w w2).drewN nq
  exact h1.grown t3.grown (fun b hb=>by cases hb;exact Or.inl cl)
 have c3':=HR3.out.at 3 _ rfl
 have hcx:∀j v,(yC5 x)[j]? = some v→w3.cell? ⟨q,0+j,none⟩=some v:=fun j v hv=>by rw [Nat.zero_add];exact r3.at j v hv
 clear hl hl3 t3 hblk hob HF HWI HR HB2 HS2 c3 c4 r2' HH
 go_upto_region 3 with fail
 refine wp_region_any (by kernel_rfl) ?_
 show wpAny _ _ _ _ 11 (Array.replicate 11 false) _ (w3.drewN 1)
 refine takeA (i:=0) (some 26) rfl rfl (by kernel_rfl) (by kernel_rfl) (by kernel_rfl) (fun _ _ _ h=>h) (yMove rfl (.tmp 0) rfl _ rfl) ?_
 simp only [Act.put,aS,aC,aZ]
 refine takeA (i:=1) (some 27) rfl rfl (by kernel_rfl) (by kernel_rfl) (by kernel_rfl) (fun _ _ _ h=>h) (yMove rfl (.tmp 0) rfl _ rfl) ?_
 simp only [Act.put,aS,aC,aZ]
 refine takeA (i:=2) (some 28) rfl rfl (by kernel_rfl) (by kernel_rfl) (by kernel_rfl) (fun _ _ _ h=>h) (yNil rfl (.tmp 27) rfl _ rfl) ?_
 simp only [Act.put,aS,aC,aZ]
 refine takeA (i:=3) (some 29) rfl rfl (by kernel_rfl) (by kernel_rfl) (by kernel_rfl) (fun _ _ _ h=>h) (yField f76_3 rfl (.tmp 28) rfl g 0 rfl) ?_
 simp only [Act.put,aS,aC,aZ]
 have hcb3:∀(o:Obj),Below w3.heap.size w3 ((w3.drewN 1).alloc o):=fun o=>(Below.drewN (Below.refl w3.heap.size w3) 1).alloc (Nat.le_refl _) o
 refine anyThree (i:=4) (j:=5) (k:=6) 30 31 32 rfl rfl rfl (by decide) (by decide) (by decide) (by decide) (by kernel_rfl) (by kernel_rfl) (by kernel_rfl) (by kernel_rfl) (by kernel_rfl)
  (.slice pv L cap) (fun v w'=>v = .agg (yC5 x).toArray∧w'=w3.drewN 1) (fun _ u w''=>u = .slice (some ⟨w3.heap.size,0,none⟩) 1 1∧w''=(w3.drewN 1).alloc (.cells (yC5 x).toArray 116)) ?_ ?_ ?_ ?_ ?_ ?_ ?_ ?_
 ·exact yA7 one73 (.tmp 29) rfl g (0+3) rfl _ c3'
 ·rintro v w' ⟨rfl,rfl⟩
  exact yA7 one73 (.tmp 29) rfl g (0+3) rfl _ c3'
 ·rintro v w' u w'' ⟨rfl,rfl⟩ ⟨rfl,rfl⟩
  exact yA7 one73 (.tmp 29) rfl g (0+3) rfl _ (cell_later (hcb3 _) c3')
 ·intro R hR
  exact yG0 (some 31) rfl rfl rfl _ _ (yA9 agg87 (.tmp 8) rfl q 0 rfl (yC5 x) (yD2 x hxl) hcx) (hR _ _ ⟨rfl,rfl⟩)
 ·intro R hR
  exact yG0 (some 31) rfl rfl rfl _ _ (yA9 agg87 (.tmp 8) rfl q 0 rfl (yC5 x) (yD2 x hxl) hcx) (hR _ _ ⟨rfl,rfl⟩)
 ·rintro v w' ⟨rfl,rfl⟩ R hR
  exact yG0 (some 32) rfl rfl rfl _ _ (run_oneOp und73 info87 (by decide) (by decide) (.tmp 31) rfl (yC5 x) (yD2 x hxl) rfl) (hR _ _ ⟨rfl,rfl⟩)
 ·rintro v w' ⟨rfl,rfl⟩ R hR
  exact yG0 (some 32) rfl rfl rfl _ _ (run_oneOp und73 info87 (by decide) (by decide) (.tmp 31) rfl (yC5 x) (yD2 x hxl) rfl) (hR _ _ ⟨rfl,rfl⟩)
 rintro v w' u w4 ⟨rfl,rfl⟩ ⟨rfl,hw4⟩
 have r4:Row w4 w3.heap.size 116 (yC5 x):=by rw [hw4];exact Row.new (w3.drewN 1) 116 (yC5 x)
 have s4:w4.heap.size=w3.heap.size+1:=by rw [hw4];simp
 have b4:Below w3.heap.size w3 w4:=by rw [hw4];exact hcb3 _
 clear hw4 hcb3
 simp only [Act.put,aS,aC,aZ]
 refine anySeqD 7 (by kernel_rfl) rfl ?_
 simp only [List.drop_succ_cons,List.drop_zero]
 obtain ⟨i0,hi,hz0,hz1,hz2⟩:=info_parts info87
 have ho4:w4.ownsRow 0 116 66 (.slice pv L cap) L (yC0 wt):=ownsRow_kept (HO3.out) (fun b hb=>b4.block b (ownBlock_lt HO3.out hb).1)
 refine wpList_append_own_at _ rfl (.tmp 30) (.tmp 32) 122 rfl 0 116 i0 _ 66 80 und73 hi hz0 hz1 hz2 rfl (by decide) _ L (yC0 wt) rfl ho4 ⟨w3.heap.size,0,none⟩ 1 1 (yC5 x) rfl (by rw [yD2 x hxl]) ?cells (wrCells_one x) (by unfold maxLen;omega) (by omega) (Nat.zero_le _) ?_
 case cells =>
  intro j u hu
  rw [yB7,Nat.zero_add]
  exact r4.at j u hu
 intro v5 w5 o5 g5 n5 l5
 simp only [Act.put,aS,aC,aZ]
 have hkind:∀b,(Value.slice pv L cap).ownBlock=some b→b≠g∧b≠bm∧b≠bl:=fun b hb=>by
  obtain ⟨_,cur,hc⟩:=ownBlock_lt HO3.out hb
  refine ⟨?_,?_,?_⟩
  ·rintro rfl
   rw [show w3.heap[b]? = _ from HR3.out] at hc
   cases hc
  ·rintro rfl
   obtain ⟨f,n,⟨D,⟨es,clock,h1,_⟩,_⟩,_⟩:=HF3.out
   rw [h1] at hc
   cases hc
  ·rintro rfl
   obtain ⟨n,⟨D,⟨es,clock,h1,_⟩,_⟩⟩:=HL3.out
   rw [h1] at hc
   cases hc
 have hk45:∀b,b<w3.heap.size→(Value.slice pv L cap).ownBlock≠some b→w5.heap[b]? = w3.heap[b]?:=fun b hb hne =>
  (g5.block b (by omega) (fun e=>hne e.symm)).trans (b4.block b hb)
 have HR5:Row w5 g 125 [.bool tape,.int .i64 (size:Nat),.map (some bm),.slice pv L cap,.map (some bl)]:=by
  show w5.heap[g]? = _
  rw [hk45 g HR3.out.lt (fun e=>(hkind g e).1 rfl)]
  exact HR3.out
 have hv5:v5.cells=#[v5]∧v5.oneCell'=true:=by
  obtain ⟨_,h⟩:=o5
  rcases h with ⟨rfl,_⟩|⟨_,_,_,rfl,_⟩
  ·exact ⟨rfl,rfl⟩
  ·exact ⟨rfl,rfl⟩
 refine yE8 (.tmp 26) rfl rfl _ rfl ?_
 simp only [Act.put,aS,aC,aZ]
 refine yF3 f76_3 (.tmp 34) rfl rfl g 0 rfl ?_
 simp only [Act.put,aS,aC,aZ]
 refine yG7 size73 (.tmp 35) (.tmp 33) rfl rfl rfl g (0+3) 125 rfl v5 _ rfl hv5.1 hv5.2 HR5 (by simp) ?_
 refine wpList_nil ?_
 have r6:=HR5.setRow (([.bool tape,.int .i64 (size:Nat),.map (some bm),.slice pv L cap,.map (some bl)]:List Value).set (0+3) v5)
 have hk6:∀b,b≠g→(w5.setRow g (([.bool tape,.int .i64 (size:Nat),.map (some bm),.slice pv L cap,.map (some bl)]:List Value).set (0+3) v5).toArray).heap[b]? = w5.heap[b]?:=fun b hb=>Go.setRow_other w5 g b _ hb
 have hcb:∀b,(Value.slice pv L cap).ownBlock=some b→c b=k:=HCB.out
 have HE:Hid (∃c',(∀b,b<w.heap.size→c' b=c b)∧DevIn (w5.setRow g (([.bool tape,.int .i64 (size:Nat),.map (some bm),.slice pv L cap,.map (some bl)]:List Value).set (0+3) v5).toArray) c' k g tape size fl (wt++[⟨d,step,p,s⟩])∧Ch (fun b=>c b=k) w (w5.setRow g (([.bool tape,.int .i64 (size:Nat),.map (some bm),.slice pv L cap,.map (some bl)]:List Value).set (0+3) v5).toArray)):=by
  have hq:=HQ.out
  have hpc:∀b,c b=k→paint c q k b=k:=fun b hb=>by
   unfold paint
   split
   ·exact hb
   ·rfl
  refine ⟨paint c q k,fun b hb=>yH9 c q k b (by omega),⟨bm,bl,v5,r6,hpc g cg,hpc bm cm,hpc bl cl,hne,?_,⟨?_,?_⟩,?_⟩,?_⟩
  ·refine HF3.out.kept ?_
   rw [hk6 bm hbm,hk45 bm HF3.out.lt (fun e=>(hkind bm e).2.1 rfl)]
  ·rw [←HX.out,wcells_snoc,List.length_append,←HL.out]
   refine ownsRow_kept o5 (fun b hb=>hk6 b ?_)
   rcases l5 with l5|l5
   ·exact (hkind b (l5▸hb)).1
   ·rw [l5] at hb
    cases hb
    have:=HR3.out.lt
    omega
  ·intro b hb
   rcases l5 with l5|l5
   ·exact hpc b (hcb b (l5▸hb))
   ·rw [l5] at hb
    cases hb
    refine paint_new c q k _ ?_
    have:=HS3.out
    omega
  ·rw [←HX.out]
   refine HL3.out.kept ?_
   rw [hk6 bl hbne,hk45 bl HL3.out.lt (fun e=>(hkind bl e).2.2 rfl)]
  ·refine ((HC3.out.trans (Ch.of_below b4)).grown g5 (fun b hb=>Or.inl (hcb b hb))).setRow (Or.inl cg) _
 clear hk6 r6 hcb HR5 hk45 hkind o5 g5 n5 l5 b4 r4 s4 ho4
 go_wp2
 go_end0
 exact ⟨rfl,HE.out⟩
end Go.Proofs.YtpkkkkomdblpoaaDoor

namespace Go.Proofs.YtpkkkkomdblpoaaDoor
def Pl.has (m:Pl) (d:Int):Prop:=0≤d∧d<(m.n:Int)
instance (m:Pl) (d:Int):Decidable (m.has d):=inferInstanceAs (Decidable (_∧_))
def Pl.append (m:Pl) (d:Int) (s:List Nat):Nat×Int×Pl :=
 if m.on=false then (0,2,m)
 else if ¬ (m.has d∧m.tape d.toNat=true) then (0,31,m)
 else if s.length≠64 then (0,32,m)
 else if m.size d.toNat≤m.len d.toNat then (0,3,m)
 else if m.fuse=0 then (0,2,m.step)
 else (m.len d.toNat,0,m.step.wait d.toNat (m.len d.toNat) s)
def Pl.flush (m:Pl) (d:Int):Int×Pl :=
 if m.on=false then (2,m) else if ¬ m.has d then (31,m) else if m.fuse=0 then (2,m.step) else (0,m.step.flushed d.toNat)
theorem Pl.step_sh (m:Pl):m.step.sh=m.sh:=by unfold Pl.step;split <;> rfl
theorem Pl.step_fl (m:Pl):m.step.fl=m.fl:=by unfold Pl.step;split <;> rfl
theorem Pl.step_wts (m:Pl):m.step.wts=m.wts:=by unfold Pl.step;split <;> rfl
theorem Pl.step_n (m:Pl):m.step.n=m.n:=by unfold Pl.n;rw [m.step_sh]
theorem Pl.step_tape (m:Pl) (i:Nat):m.step.tape i=m.tape i:=by unfold Pl.tape;rw [m.step_sh]
theorem Pl.step_size (m:Pl) (i:Nat):m.step.size i=m.size i:=by unfold Pl.size;rw [m.step_sh]
theorem Pl.step_wt (m:Pl) (i:Nat):m.step.wt i=m.wt i:=by unfold Pl.wt;rw [m.step_wts]
theorem Pl.step_len (m:Pl) (i:Nat):m.step.len i=m.len i:=by unfold Pl.len;rw [m.step_tape,m.step_fl,m.step_wt,m.step_size]
theorem Pl.step_steps (m:Pl) (h:m.fuse≠0):m.step.steps=m.steps+1:=by unfold Pl.step;rw [if_neg h]
theorem Pl.step_wf {m:Pl} (h:m.WF):m.step.WF:=by
 have e:=m.step_sh
 have e1:=m.step_fl
 have e2:=m.step_wts
 have hs:m.steps≤m.step.steps:=by unfold Pl.step;split <;> simp
 refine ⟨by rw [e];exact h.few,by rw [e];exact h.pos,fun i hi=>by rw [m.step_size];exact h.sizes i (by rwa [e] at hi),fun i=>by rw [e1];exact h.secs i,fun i hi ht=>by rw [e1,m.step_size];exact h.disk i (by rwa [e] at hi) (by rwa [m.step_tape] at ht),
  fun i hi ht=>by rw [e1,m.step_size,m.step_wt];exact h.tapes i (by rwa [e] at hi) (by rwa [m.step_tape] at ht),by rw [e2];exact h.wsec,?_,by rw [e2];exact h.order,fun i hi=>by rw [m.step_tape];exact h.count i (by rwa [e] at hi),?_,?_,?_,?_⟩
 ·rw [e2]
  intro x hx
  have:=h.wdev x hx
  rw [e,m.step_size]
  exact ⟨this.1,this.2.1,by omega⟩
 ·have:=h.fuse0
  unfold Pl.step
  split
  ·simp
  ·dsimp only
   split <;> omega
 ·have:=h.fuse1
  unfold Pl.step
  split
  ·simp
  ·dsimp only
   split <;> omega
 ·have:=h.clock0
  unfold Pl.step
  split <;> simpa using this
 ·have:=h.clock1
  unfold Pl.step
  split <;> simpa using this
theorem Pl.wt_mem {m:Pl} {i:Nat} {x:Wr} (h:x∈m.wt i):x∈m.wts∧x.dev=i:=by
 unfold Pl.wt at h
 simpa using h
theorem Pl.wt_len (m:Pl) (i:Nat):(m.wt i).length≤m.wts.length:=by unfold Pl.wt;exact List.length_filter_le _ _
theorem Pl.WF.few_wts {m:Pl} (h:m.WF):m.wts.length≤49152:=by
 have key:∀(n:Nat) (l:List Wr),(∀x∈l,x.dev<n)→(∀i,i<n→(l.filter fun x=>x.dev==i).length≤4096)→l.length≤n*4096:=by
  intro n
  induction n with
  |zero=>
   intro l hl _
   cases l with
   |nil=>simp
   |cons a r=>exact absurd (hl a (by simp)) (by omega)
  |succ n ih=>
   intro l hl hf
   have h1:=ih (l.filter fun x=>!(x.dev==n)) (fun x hx=>by
    obtain ⟨hx1,hx2⟩:=List.mem_filter.1 hx
    have h3:=hl x hx1
    have h4:x.dev≠n:=by simpa using hx2
    omega) (fun i hi=>Nat.le_trans (List.Sublist.length_le (List.filter_sublist.filter _)) (hf i (by omega)))
   have h2:=hf n (by omega)
   have h3:∀l:List Wr,l.length=(l.filter fun x=>x.dev==n).length+(l.filter fun x=>!(x.dev==n)).length:=by
    intro l
    induction l with
    |nil=>rfl
    |cons a r ih2=>
     simp only [List.filter_cons,List.length_cons]
     cases hb:(a.dev==n)
     all_goals
      simp only [Bool.not_false,Bool.not_true,Bool.false_eq_true,↓reduceIte,List.length_cons]
      omega
   have h4:=h3 l
   omega
 have h1:=key m.sh.length m.wts (fun x hx=>(h.wdev x hx).1) (fun i hi=>by
  have h2:=(h.tapes i hi (h.count i hi)).1
  have h3:=(h.sizes i hi).2
  show (m.wt i).length≤4096
  omega)
 have h2:=h.few
 have h3:m.sh.length*4096≤12*4096:=Nat.mul_le_mul_right _ h2
 omega
theorem Pl.wait_wf {m:Pl} (h:m.WF) (hf:m.fuse≠0) (i p:Nat) (s:List Nat) (hi:i<m.n) (hp:p<m.size i) (hs:s.length=64∧∀c∈s,c<256) (ht:m.tape i=true→p=m.len i∧m.len i<m.size i):(m.step.wait i p s).WF:=by
 have H:=Pl.step_wf h
 have hst:=m.step_steps hf
 have hn:m.step.sh.length=m.n:=by rw [m.step_sh];rfl
 refine ⟨H.few,H.pos,H.sizes,H.secs,H.disk,?_,?_,?_,?_,?_,H.fuse0,H.fuse1,H.clock0,H.clock1⟩
 ·intro j hj htj
  have hj2:m.step.tape j=true:=htj
  obtain ⟨h1,h2⟩:=H.tapes j hj hj2
  rw [Pl.wt_wait]
  by_cases hij:i=j
  ·subst hij
   rw [if_pos rfl]
   have htm:m.tape i=true:=by rwa [m.step_tape] at hj2
   obtain ⟨hp1,hp2⟩:=ht htm
   have hlen:m.len i=(m.fl i).length+(m.wt i).length:=by unfold Pl.len;rw [if_pos htm]
   have e1:(m.step.wait i p s).fl i=m.fl i:=by show m.step.fl i=_;rw [m.step_fl]
   have e2:(m.step.wait i p s).size i=m.size i:=m.step_size i
   rw [e1,e2,m.step_wt]
   refine ⟨by simp;omega,fun k x hx => ?_⟩
   rw [m.step_fl,m.step_wt] at h2
   rcases Nat.lt_or_ge k (m.wt i).length with hk|hk
   ·rw [List.getElem?_append_left hk] at hx
    exact h2 k x hx
   ·rw [List.getElem?_append_right hk] at hx
    have hk0:k - (m.wt i).length=0:=by
     have:=(List.getElem?_eq_some_iff.1 hx).1
     simp at this
     omega
    rw [hk0] at hx
    simp at hx
    subst hx
    simp only
    omega
  ·rw [if_neg hij]
   exact ⟨h1,h2⟩
 ·intro x hx
  rcases List.mem_append.1 hx with hx|hx
  ·exact H.wsec x hx
  ·obtain rfl:=List.mem_singleton.1 hx
   exact hs
 ·intro x hx
  rcases List.mem_append.1 hx with hx|hx
  ·exact H.wdev x hx
  ·obtain rfl:=List.mem_singleton.1 hx
   exact ⟨by show i<m.step.sh.length;omega,by show p<m.step.size i;rw [m.step_size];exact hp,Nat.le_refl _⟩
 ·show (m.step.wts++[_]).Pairwise _
  rw [List.pairwise_append]
  refine ⟨H.order,by simp,fun x hx y hy => ?_⟩
  obtain rfl:=List.mem_singleton.1 hy
  rw [m.step_wts] at hx
  have:=(h.wdev x hx).2.2
  show x.step<m.step.steps
  omega
 ·exact fun j hj=>H.count j hj
end Go.Proofs.YtpkkkkomdblpoaaDoor

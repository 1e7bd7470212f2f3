/- Laws for walks of one operation, of blocks of one's own. Layer 15: what all walks lean on. Regions that draw their order and end in one operation that waits for all looks: what the looks read is held until that operation. -/
import Derived.Test.YtpkkkkomdblpoaaDoorS16
import Derived.Test.YtpkkkkomdblpoaaDoorS01
import Derived.Laws.StructEq
namespace Go.Proofs.YtpkkkkomdblpoaaDoor
open Go.RowKit Go.Maps
theorem sl38:Tryd.prog.underlying 38=some (.slice (Tryd.prog.elem 38)):=by kernel_rfl
def BOwn (w:World) (base:Nat) (v:Value) (cs:List Nat):Prop:=w.ownsRow base 5 1 v cs.length (yA0 cs)
theorem info5z:(Tryd.prog.info? 5).map (fun i=>(i.zero,i.size,i.bytes))=some (some (.int .u8 0),1,1):=by kernel_rfl
theorem lt256 (cs:List Nat) (h:∀c∈cs,c<256) (j:Nat):cs.getD j 0<256:=by
 by_cases hj:j<cs.length
 ·simpa [hj] using h _ (List.getElem_mem hj)
 ·simp [hj]
theorem elem51:Tryd.prog.elem 38=5:=by kernel_rfl
theorem yB2 (w:World) (o:Obj):Below w.heap.size w (w.alloc o):=(Below.refl _ _).alloc (Nat.le_refl _) _
theorem BOwn.slice {w:World} {base:Nat} {v:Value} {cs:List Nat} (h:BOwn w base v cs) (hb:∀c∈cs,c<256) (hl:cs.length≤9223372036854775807):yA2 w v cs:=by
 rcases h.2 with ⟨rfl,h0⟩|⟨g,cap,cur,rfl,_,hg,hcap,hmax,hsz,htake⟩
 ·obtain rfl:cs=[]:=List.length_eq_zero_iff.1 h0
  exact ⟨none,0,rfl,⟨Nat.le_refl _,by decide⟩,Or.inl rfl⟩
 ·refine ⟨_,cap,rfl,⟨hcap,hl⟩,Or.inr ⟨g,0,rfl,fun j hj => ?_,fun j => ?_⟩⟩
  ·have h2:=h.cells (g:=g) rfl j (.int .u8 (cs.getD j 0:Nat)) (by simp [yA0,hj])
   rw [yB7] at h2
   exact h2
  ·by_cases hj:j<cs.length
   ·rw [List.getD_eq_getElem?_getD,List.getElem?_eq_getElem hj]
    exact hb _ (List.getElem_mem hj)
   ·rw [List.getD_eq_getElem?_getD,List.getElem?_eq_none (by omega)]
    decide
theorem mem_lt' {cs:List Nat} (h:∀j:Nat,cs.getD j 0<256):∀c∈cs,c<256:=by
 intro c hc
 obtain ⟨j,hj,rfl⟩:=List.getElem_of_mem hc
 simpa [hj] using h j
theorem sub_in {w:World} {cs:List Nat} {p:Option Addr} {cap:Nat} (hl:cs.length≤cap∧cs.length≤9223372036854775807) (hin:cs=[]∨∃b off,p=some ⟨b,off,none⟩∧BytesIn w b off cs)
  (l h m:Nat) (h1:l≤h) (h2:h≤cs.length) (h3:h≤m):yA2 w (sliced p l h m 1) ((cs.take h).drop l):=by
 have hlen:((cs.take h).drop l).length=h - l:=by simp;omega
 unfold sliced
 by_cases hz:h=l
 ·have e:(cs.take h).drop l=[]:=List.length_eq_zero_iff.1 (by omega)
  rw [e]
  refine ⟨if m=l then p else p.map (·.add (l * 1)),m - l,?_,⟨by simp,by simp⟩,Or.inl rfl⟩
  rw [show h - l=([]:List Nat).length by simp;omega]
 ·rcases hin with rfl|⟨b,off,rfl,hc,hb⟩
  ·simp at h2
   omega
  ·refine ⟨_,m - l,by rw [hlen],⟨by omega,by omega⟩,Or.inr ⟨b,off+l,?_,fun j hj => ?_,fun j => ?_⟩⟩
   ·rw [if_neg (by omega),Option.map_some,Nat.mul_one,yB7]
   ·rw [hlen] at hj
    have e:((cs.take h).drop l).getD j 0=cs.getD (l+j) 0:=by simp [show l+j<h by omega]
    rw [e,Nat.add_assoc]
    exact hc (l+j) (by omega)
   ·refine lt256 _ (fun c hc' => ?_) j
    exact mem_lt' hb c (List.mem_of_mem_take (List.mem_of_mem_drop hc'))
def SubOf (lo hi mx:Option Value) (n l h:Nat):Prop :=
 ((lo=none∧l=0)∨∃L:Int,lo=some (.int .i64 L)∧L=(l:Int))∧((hi=none∧mx=none∧h=n)∨∃H:Int,hi=some (.int .i64 H)∧H=(h:Int)∧(mx=none∨mx=some (.int .i64 H)))∧l≤h∧h≤n
theorem run_bsub {w:World} {v:Value} {cs:List Nat} (hin:yA2 w v cs) {lo hi mx:Option Value} {l h:Nat} (hs:SubOf lo hi mx cs.length l h) :
  ∃v',(∀w',(Instr.slice 38 v lo hi mx).run Tryd.prog w' = .ok v' w')∧yA2 w v' ((cs.take h).drop l):=by
 obtain ⟨p,cap,rfl,hl,hin⟩:=hin
 obtain ⟨hlo,hhi,h1,h2⟩:=hs
 obtain ⟨i,hi5,hsz⟩:=Option.map_eq_some_iff.1 info5
 have hsize:∀w':World,(sizeOf 5).run Tryd.prog w' = .ok 1 w':=fun w'=>by simp [sizeOf,typeInfo,hi5,hsz]
 have key:∀m:Nat,h≤m→((∀w',(Instr.slice 38 (.slice p cs.length cap) lo hi mx).run Tryd.prog w' = .ok (sliced p l h m 1) w')→∃v',(∀w',(Instr.slice 38 (.slice p cs.length cap) lo hi mx).run Tryd.prog w' = .ok v' w')∧yA2 w v' ((cs.take h).drop l)) :=
  fun m hm hr=>⟨_,hr,sub_in hl hin l h m h1 h2 hm⟩
 have hu':=sl38
 rcases hlo with ⟨rfl,rfl⟩|⟨L,rfl,rfl⟩
 ·rcases hhi with ⟨rfl,rfl,rfl⟩|⟨H,rfl,rfl,rfl|rfl⟩
  ·exact key cap hl.1 fun w'=>by rw [run_slice_all _ _ _ _ _ hu',elem51,hsize];rfl
  ·exact key cap (by omega) fun w'=>by rw [run_slice_h _ _ _ _ _ hu' _ _ (by omega) (by omega),elem51,hsize];rfl
  ·exact key h (Nat.le_refl _) fun w'=>by rw [run_slice_hm _ _ _ _ _ hu' _ _ _ _ (by omega) (by omega) (by omega),elem51,hsize];rfl
 ·rcases hhi with ⟨rfl,rfl,rfl⟩|⟨H,rfl,rfl,rfl|rfl⟩
  ·exact key cap hl.1 fun w'=>by rw [run_slice_l _ _ _ _ _ hu' _ _ (by omega) (by omega),elem51,hsize];rfl
  ·exact key cap (by omega) fun w'=>by rw [run_slice_lh _ _ _ _ _ hu' _ _ _ _ (by omega) (by omega) (by omega),elem51,hsize];rfl
  ·exact key h (Nat.le_refl _) fun w'=>by rw [run_slice_lhm _ _ _ _ _ hu' _ _ _ _ _ _ (by omega) (by omega) (by omega) (by omega),elem51,hsize];rfl
theorem run_bstring {w:World} {v:Value} {cs:List Nat} (hin:yA2 w v cs):(convert 38 9 v).run Tryd.prog w = .ok (.string (strOfNums (cs.map Int.ofNat))) w:=by
 obtain ⟨p,cap,rfl,hl,hin⟩:=hin
 rcases hin with rfl|⟨b,off,rfl,hc,_⟩
 ·cases p with
  | none=>exact run_convert_bytes_nil w 38 5 Tryd.underlying38 Tryd.underlying5 _ _ 9 Tryd.underlying9
  | some ad =>
   rw [run_convert_bytes_string w 38 9 5 (some ad) _ cap Tryd.underlying38 Tryd.underlying5 Tryd.underlying9]
   simp [Conv.bytesToString,strOfNums,loadCells]
   rfl
 ·refine run_convert_bytes_arg w 38 5 Tryd.underlying38 Tryd.underlying5 b off cs.length cap (cs.map Int.ofNat) (by simp) (fun i hi => ?_) 9 Tryd.underlying9
  rw [hc i hi]
  simp [hi]
theorem run_bappend {w:World} (base:Nat) (ty:TypeId) (v vx:Value) (cs ys:List Nat) (hown:BOwn w base v cs) (hin:yA2 w vx ys) (hsz:cs.length+ys.length≤140737488355328) (hbase:base≤w.heap.size) :
  ∃v' w',(Builtin.append_ #[38,38] ty #[v,vx]).run Tryd.prog w = .ok v' w'∧BOwn w' base v' (cs++ys)∧w.grownBy w' v.ownBlock:=by
 obtain ⟨i,hi,hz0,hz1,hz2⟩:=info_parts info5z
 obtain ⟨p,cap,rfl,hl,hin⟩:=hin
 have hgo:∀ad:Addr,(∀j u,(yA0 ys)[j]? = some u→w.cell? (ad.add j)=some u)→p=some ad→∃v' w',(Builtin.append_ #[38,38] ty #[v,.slice p ys.length cap]).run Tryd.prog w = .ok v' w'∧BOwn w' base v' (cs++ys)∧w.grownBy w' v.ownBlock:=by
  rintro ad hnews rfl
  obtain ⟨v',w',hr,ho',hg,_⟩:=run_append_own (P:=Tryd.prog) (w:=w) base 38 ty 5 i (.int .u8 0) 1 1 Tryd.underlying38 hi hz0 hz1 hz2 rfl (by decide) v cs.length (yA0 cs) hown
   ad ys.length cap (yA0 ys) (by simp [yA1]) hnews (yB0 ys) (by unfold maxLen;omega) (by omega) hbase
  refine ⟨v',w',hr,?_,hg⟩
  unfold BOwn
  rw [yD0,List.length_append]
  exact ho'
 rcases hin with rfl|⟨b,off,rfl,hc,_⟩
 ·cases p with
  | none =>
   refine ⟨v,w,?_,?_,World.grownBy.refl w _⟩
   ·rcases hown.2 with ⟨rfl,h0⟩|⟨g,cap',cur,rfl,_,hg,hcap,hmax,hsz,htake⟩
    ·simp [Builtin.append_,run_underlying Tryd.underlying38,sizeOf,typeInfo,hi,Builtin.lenOf,Builtin.firstCells]
    ·simp [Builtin.append_,run_underlying Tryd.underlying38,sizeOf,typeInfo,hi,Builtin.lenOf,Builtin.firstCells,hcap,storeCells]
   ·rw [List.append_nil]
    exact hown
  | some ad=>exact hgo ad (by intro j u hu;simp [yA0] at hu) rfl
 ·refine hgo ⟨b,off,none⟩ (fun j u hu => ?_) rfl
  have hj:j<ys.length:=by
   have:=(List.getElem?_eq_some_iff.1 hu).1
   rwa [yA1] at this
  rw [yB7,hc j hj,←hu,yC3 ys j hj]
theorem BOwn.belowG {w w':World} {base:Nat} {v:Value} {cs:List Nat} (h:BOwn w base v cs) (hg:w.grownBy w' v.ownBlock) (hb:base≤w.heap.size):Below base w w' :=
 (Below.refl base w).grown hg hb fun k hk=>(h.lt k hk).1
def whole (g n:Nat):Value:=.slice (some ⟨g,0,none⟩) n n
theorem whole_slice {w:World} {g:Nat} {cs:List Nat} (h:Row w g 5 (yA0 cs)) (hb:∀c∈cs,c<256) (hl:cs.length≤9223372036854775807):yA2 w (whole g cs.length) cs :=
 ⟨_,_,rfl,⟨Nat.le_refl _,hl⟩,Or.inr ⟨g,0,rfl,fun j hj=>by rw [Nat.zero_add];exact h.at j _ (yC3 cs j hj),lt256 cs hb⟩⟩
section
variable {w w0:World} {ops:Array Oper} {rest:List Oper} {o:Oper} {a:Act} {Q:Exit→Act→World→Prop}
theorem wl_make (l c:Operand) (t e:TypeId) (z:Value) (sz bts:Nat) (hgd:Region.wanted o (yielded ops a.tmps)=true) (ho:o.op = .makeSlice t l c) (hu:Tryd.prog.underlying t=some (.slice e)) (hinfo:(Tryd.prog.info? e).map (fun i=>(i.zero,i.size,i.bytes))=some (some z,sz,bts))
  (n:Nat) (hl:a.eval l = .int .i64 (n:Nat)) (hc:a.eval c = .int .i64 (n:Nat)) (hb:bts * n≤281474976710656) (hn:n≤9223372036854775807)
  (h:∀w',Row w' w.heap.size e (madeCells z.cells (n * sz)).toList→w'.heap.size=w.heap.size+1→Below w.heap.size w w'→wpList Tryd.prog ops Q rest (a.put o.dst (whole w.heap.size n)) w'):wpList Tryd.prog ops Q (o :: rest) a w:=by
 obtain ⟨i,hi,hz0,hz1,hz2⟩:=info_parts hinfo
 have hr:=run_make (P:=Tryd.prog) (w:=w) t e i z hu hi hz0 .i64 .i64 (n:Nat) (n:Nat) (by omega) (Int.le_refl _) (by rw [hz2];omega) (by omega)
 rw [Int.toNat_natCast,hz1] at hr
 exact wl hgd _ _ (by simp only [execOp,ho,hl,hc,hr,Sem.run_bind,Sem.run_pure,Result.andThen_ok];rfl) (h _ (Row.new' w e _) (by show (w.heap.push _).size=_;simp) (yB2 w _))
end
theorem made5 (n:Nat):(madeCells (Value.int IntKind.u8 0).cells (n * 1)).toList=yA0 (List.replicate n 0):=by
 apply List.ext_getElem
 ·rw [yA1]
  simp [madeCells,Value.cells]
 ·intro j h1 h2
  simp [yA0,madeCells,Value.cells,Nat.mod_one]
theorem results_cell_tmp {fn:Func} {p u:Tmp} {t n:Nat} (ht:AggT t n) (h:fn.results=#[.cell p t,.tmp u]) (tmps:Array Value) (w:World) (g T:Nat) (hp:tmps.getD p undef = .pointer (some ⟨g,0,none⟩)) (cs:List Value) (hn:cs.length=n) (hr:Row w g T cs) :
  (results fn tmps).run Tryd.prog w = .ok (.tuple #[.agg cs.toArray,tmps.getD u undef]) w:=by
 have hl:=yF9 ht w g 0 cs hn (fun j v hv=>by rw [Nat.zero_add];exact hr.at j v hv)
 have hp':tmps[p]?.getD undef = .pointer (some ⟨g,0,none⟩):=by simpa using hp
 simp [results,h,hp',asAddr,hl]
section
variable {ops:Array Oper} {Q:Exit→Act→World→Prop} {a:Act} {w:World} {listed:Array Bool} {fuel:Nat} {S:World→Prop} {o:Oper}
theorem gRun (hw:Region.wanted o (yielded ops a.tmps)=true) (v:Value) (hr:∀w,S w→(execOp a.eval o).run Tryd.prog w = .ok (.value v) w):YieldsIf Tryd.prog ops S o v a:=Or.inl ⟨hw,hr⟩
end
theorem yE6 {w:World} {a:Act} {o:Oper} {t n:Nat} (ht:AggT t n) (x y:Operand) (ho:o.op = .store t x y) (g T:Nat) (hx:a.eval x = .pointer (some ⟨g,0,none⟩)) (cs cur:List Value) (hy:a.eval y = .agg cs.toArray) (hn:cs.length=n) (hr:Row w g T cur) (hfit:cs.length=cur.length) (h1:∀v∈cs,v.oneCell'=true):(execOp a.eval o).run Tryd.prog w = .ok .skip (w.setRow g cs.toArray):=by
 have e:splice cur 0 cs=cs:=yB5 cur cs hfit
 have:=yG1 ht w g 0 T cur cs hn hr (by omega) h1
 rw [e] at this
 simp [execOp,ho,hx,hy,Instr.storeAt,Instr.sureAddr,this]
theorem yF6 {ops:Array Oper} {Q:Exit→Act→World→Prop} {a:Act} {w:World} {i:Nat} (d:Option Tmp) {o:Oper} {K:Act→World→Prop} (hi:ops[i]? = some o) (hd:o.dst=d) (hw:Region.wanted o (yielded ops a.tmps)=true) (f:Nat) (args:Array Value) (hrun:(execOp a.eval o).run Tryd.prog w = .ok (.enter f args) w) (h:Calls Tryd.prog f args w fun e w' => ∃v,e = .returned v∧K (a.put d v) w'):wpOp Tryd.prog ops Q i K a w:=by
 subst hd
 unfold wpOp
 simp only [hi,hw,if_true,Oper.wp,hrun,Oper.upon]
 refine .inl (Calls.mono h fun e w' he => ?_)
 obtain ⟨v,rfl,hK⟩:=he
 exact hK
theorem run_binOp' {w:World} {a:Act} {o:Oper} {k:BinOp} {t:TypeId} (x y:Operand) (ho:o.op = .binOp k t x y t) (u v r:Value) (hx:a.eval x=u) (hy:a.eval y=v) (e:(eqGuard k t x y u v).run Tryd.prog w = .ok () w) (hr:(binOp k t u v).run Tryd.prog w = .ok r w):(execOp a.eval o).run Tryd.prog w = .ok (.value r) w:=by
 simp only [execOp,ho,hx,hy,e,hr,Sem.run_bind,Sem.run_pure,Result.andThen_ok]
theorem opSkipZ {ops:Array Oper} {Q:Exit→Act→World→Prop} {a:Act} {w:World} {i:Nat} {o:Oper} {K:Act→World→Prop} (hi:ops[i]? = some o) (hd:o.dst=none) (hgd:o.guard=none) (w':World) (hrun:(execOp a.eval o).run Tryd.prog w = .ok .skip w') (h:K a w'):wpOp Tryd.prog ops Q i K a w:=by
 unfold wpOp
 have hw:Region.wanted o (yielded ops a.tmps)=true:=by simp [Region.wanted,hgd]
 simp only [hi,hw,if_true,Oper.wp,hrun,Oper.upon,hd]
 exact .inl h
theorem yG8 {ops:Array Oper} {Q:Exit→Act→World→Prop} {a:Act} {w:World} {i:Nat} (d:Option Tmp) {o:Oper} {K:Act→World→Prop} (hi:ops[i]? = some o) (hd:o.dst=d) (hw:Region.wanted o (yielded ops a.tmps)=true) (v:Value) (w':World) (hrun:(execOp a.eval o).run Tryd.prog w = .ok (.value v) w') (h:K (a.put d v) w'):wpOp Tryd.prog ops Q i K a w:=by
 subst hd
 unfold wpOp
 simp only [hi,hw,if_true,Oper.wp,hrun,Oper.upon]
 exact .inl h
theorem yA4 {w:World} {a:Act} {o:Oper} (x:Operand) (ho:o.op = .move x) (v:Value) (hx:a.eval x=v):(execOp a.eval o).run Tryd.prog w = .ok (.value v) w:=by simp [execOp,ho,hx]
theorem yE7 {w:World} {a:Act} {o:Oper} (x:Operand) (ho:o.op = .assign x) (v:Value) (hx:a.eval x=v):(execOp a.eval o).run Tryd.prog w = .ok (.value v) w:=by simp [execOp,ho,hx]
theorem yA6 {w:World} {a:Act} {o:Oper} (c x y:Operand) (ho:o.op = .pick c x y) (b:Bool) (v:Value) (hc:a.eval c = .bool b) (hv:(if b then a.eval x else a.eval y)=v):(execOp a.eval o).run Tryd.prog w = .ok (.value v) w:=by
 subst hv
 have hb:(asBool (.bool b)).run Tryd.prog w = .ok b w:=rfl
 simp only [execOp,ho,hc,hb,Sem.run_bind,Sem.run_pure,Result.andThen_ok]
theorem yA5 {w:World} {ops:Array Oper} {rest:List Oper} {o:Oper} {a:Act} {Q:Exit→Act→World→Prop} {f:Nat} (ef:yB9 f) (xs:List Operand) (ts:Array TypeId) (hgd:Region.wanted o (yielded ops a.tmps)=true) (ho:o.op = .call { callee:=.value (.func f),args:=xs.toArray,argTypes:=ts }) (vs:List Value) (hv:xs.map a.eval=vs)
  (h:Calls Tryd.prog f vs.toArray w fun e w' => ∃v,e = .returned v∧wpList Tryd.prog ops Q rest (a.put o.dst v) w'):wpList Tryd.prog ops Q (o :: rest) a w :=
 BigFrame.wpList_want hgd fun K hK=>by
  unfold Oper.wp
  rw [yC2 ef xs ts ho vs hv]
  refine h.mono fun e w' he => ?_
  obtain ⟨v,rfl,hw⟩:=he
  exact hK _ _ hw
section
variable {w w0:World} {ops:Array Oper} {rest:List Oper} {o:Oper} {a:Act} {Q:Exit→Act→World→Prop}
end
structure Loc (w W:World) (l:List (Nat×TypeId×List Value)):Prop where
 below:Below w.heap.size w W
 row:∀(i:Nat) (g:Nat) (T:TypeId) (cs:List Value),l[i]? = some (g,T,cs)→Row W g T cs∧w.heap.size≤g
 ne:∀(i j:Nat) (a b:Nat×TypeId×List Value),l[i]? = some a→l[j]? = some b→i≠j→a.1≠b.1
theorem Loc.nil {w W:World} (h:Below w.heap.size w W):Loc w W []:=⟨h,fun i g T cs e=>by simp at e,fun i j a b e=>by simp at e⟩
theorem Loc.later {w W W':World} {l:List (Nat×TypeId×List Value)} (h:Loc w W l) (hb:Below W.heap.size W W'):Loc w W' l :=
 ⟨h.below.trans (hb.mono h.below.size),fun i g T cs e=>⟨(h.row i g T cs e).1.later hb (h.row i g T cs e).1.lt,(h.row i g T cs e).2⟩,h.ne⟩
theorem Loc.add {w W W':World} {l:List (Nat×TypeId×List Value)} (h:Loc w W l) {g:Nat} {T:TypeId} {cs:List Value} (hr:Row W' g T cs) (hg:W.heap.size≤g) (hb:Below W.heap.size W W'):Loc w W' (l++[(g,T,cs)]):=by
 have h1:=h.later hb
 have hne:∀(i:Nat) (a:Nat×TypeId×List Value),l[i]? = some a→a.1<W.heap.size:=fun i a e=>(h.row i a.1 a.2.1 a.2.2 e).1.lt
 refine ⟨h1.below,fun i g' T' cs' e => ?_,fun i j a b e1 e2 hij => ?_⟩
 ·by_cases hi:i<l.length
  ·rw [List.getElem?_append_left hi] at e
   exact h1.row i g' T' cs' e
  ·rw [List.getElem?_append_right (by omega)] at e
   have:i - l.length=0:=by
    by_cases h0:i - l.length=0
    ·exact h0
    ·rw [List.getElem?_eq_none (by simp;omega)] at e;cases e
   rw [this] at e
   simp at e
   obtain ⟨rfl,rfl,rfl⟩:=e
   exact ⟨hr,Nat.le_trans h.below.size hg⟩
 ·have key:∀(i:Nat) (a:Nat×TypeId×List Value),(l++[(g,T,cs)])[i]? = some a→(i<l.length∧a.1<W.heap.size)∨(i=l.length∧a.1=g):=fun i a e=>by
   by_cases hi:i<l.length
   ·rw [List.getElem?_append_left hi] at e
    exact Or.inl ⟨hi,hne i a e⟩
   ·rw [List.getElem?_append_right (by omega)] at e
    by_cases h0:i - l.length=0
    ·rw [h0] at e
     simp at e
     exact Or.inr ⟨by omega,by rw [←e]⟩
    ·rw [List.getElem?_eq_none (by simp;omega)] at e;cases e
  rcases key i a e1 with ⟨k1,k2⟩|⟨k1,k2⟩ <;> rcases key j b e2 with ⟨k3,k4⟩|⟨k3,k4⟩
  ·rw [List.getElem?_append_left k1] at e1
   rw [List.getElem?_append_left k3] at e2
   exact h.ne i j a b e1 e2 hij
  ·omega
  ·omega
  ·omega
theorem Loc.set {w W W':World} {l:List (Nat×TypeId×List Value)} (h:Loc w W l) (i:Nat) {g:Nat} {T:TypeId} {cs cs':List Value} (e:l[i]? = some (g,T,cs)) (hr:Row W' g T cs') (hc:Ch (· = g) W W'):Loc w W' (l.set i (g,T,cs')):=by
 have hi:i<l.length:=(List.getElem?_eq_some_iff.1 e).1
 have hg:=(h.row i g T cs e).2
 have same:∀(j:Nat) (a:Nat×TypeId×List Value),(l.set i (g,T,cs'))[j]? = some a→(j=i∧a=(g,T,cs'))∨(j≠i∧l[j]? = some a):=fun j a e2=>by
  by_cases hj:i=j
  ·subst hj
   rw [List.getElem?_set_self hi] at e2
   exact Or.inl ⟨rfl,(Option.some.inj e2).symm⟩
  ·rw [List.getElem?_set_ne hj] at e2
   exact Or.inr ⟨fun x=>hj x.symm,e2⟩
 refine ⟨h.below.trans (hc.below h.below.size fun k hk e=>by omega),fun j g' T' cs2 e2 => ?_,fun j k a b e1 e2 hjk => ?_⟩
 ·rcases same j _ e2 with ⟨k1,k2⟩|⟨k1,k2⟩
  ·injection k2 with k2 k3
   injection k3 with k3 k4
   subst k2 k3 k4
   exact ⟨hr,hg⟩
  ·have hne:g'≠g:=h.ne j i _ _ k2 e k1
   exact ⟨hc.row hne (h.row j g' T' cs2 k2).1,(h.row j g' T' cs2 k2).2⟩
 ·have f1:∀(j:Nat) (a:Nat×TypeId×List Value),(l.set i (g,T,cs'))[j]? = some a→∃a',l[j]? = some a'∧a'.1=a.1:=fun j a e2=>by
   rcases same j a e2 with ⟨rfl,rfl⟩|⟨_,k2⟩
   ·exact ⟨_,e,rfl⟩
   ·exact ⟨a,k2,rfl⟩
  obtain ⟨a',q1,q2⟩:=f1 j a e1
  obtain ⟨b',q3,q4⟩:=f1 k b e2
  rw [←q2,←q4]
  exact h.ne j k a' b' q1 q3 hjk
theorem Loc.at {w W:World} {l:List (Nat×TypeId×List Value)} (h:Loc w W l) (i:Nat) {g:Nat} {T:TypeId} {cs:List Value} (e:l[i]? = some (g,T,cs)):Row W g T cs:=(h.row i g T cs e).1
theorem Loc.ge {w W:World} {l:List (Nat×TypeId×List Value)} (h:Loc w W l) (i:Nat) {g:Nat} {T:TypeId} {cs:List Value} (e:l[i]? = some (g,T,cs)):w.heap.size≤g:=(h.row i g T cs e).2
theorem Loc.drew {w W:World} {l:List (Nat×TypeId×List Value)} (h:Loc w W l):Loc w { W with drawn:=W.drawn+1 } l:=h.later ⟨rfl,rfl,rfl,Nat.le_refl _,fun _ _=>rfl⟩
theorem Loc.take {w W:World} {l:List (Nat×TypeId×List Value)} (h:Loc w W l) (n:Nat):Loc w W (l.take n):=by
 have f:∀(i:Nat) (a:Nat×TypeId×List Value),(l.take n)[i]? = some a→l[i]? = some a:=fun i a e=>by
  rw [List.getElem?_take] at e
  split at e
  ·exact e
  ·cases e
 exact ⟨h.below,fun i g T cs e=>h.row i g T cs (f i _ e),fun i j a b e1 e2=>h.ne i j a b (f i a e1) (f j b e2)⟩
def ArrCut (l h:Option Value) (n lo hi:Nat):Prop:=((l=none∧lo=0)∨l=some (.int .i64 (lo:Nat)))∧((h=none∧hi=n)∨h=some (.int .i64 (hi:Nat)))∧lo≤hi∧hi≤n∧lo<n
theorem sliceArr {T n:Nat} (hu:Tryd.prog.underlying T=some (.array n 5)) (g o lo hi:Nat) (l h:Option Value) (hc:ArrCut l h n lo hi) (W:World):(Instr.sliceAt T (.pointer (some ⟨g,o,none⟩)) l h none).run Tryd.prog W = .ok (.slice (some ⟨g,o+lo,none⟩) (hi - lo) (n - lo)) W:=by
 obtain ⟨i,hi5,hsz⟩:=Option.map_eq_some_iff.1 info5
 obtain ⟨h1,h2,h3,h4,h5⟩:=hc
 rcases h1 with ⟨rfl,rfl⟩|rfl <;> rcases h2 with ⟨rfl,rfl⟩|rfl <;> simp [Instr.sliceAt,run_underlying hu,Instr.sureAddr,Instr.sliceBounds,Instr.sliceBound,asIntOf,sizeOf,typeInfo,hi5,hsz,yB7,h3,h4] <;> (try omega)
theorem run_slA {w:World} {a:Act} {o:Oper} {T n:Nat} (hu:Tryd.prog.underlying T=some (.array n 5)) (x:Operand) (lo' hi':Option Operand) (ho:o.op = .slice T x lo' hi' none) (g off lo hi:Nat) (hx:a.eval x = .pointer (some ⟨g,off,none⟩)) (hc:ArrCut (lo'.map a.eval) (hi'.map a.eval) n lo hi):(execOp a.eval o).run Tryd.prog w = .ok (.value (.slice (some ⟨g,off+lo,none⟩) (hi - lo) (n - lo))) w:=by
 have h:=sliceArr hu g off lo hi _ _ hc w
 simp only [execOp,ho,hx,Option.map_none]
 first
  | (simp only [Sem.run_bind,h,Result.andThen_ok,Sem.run_pure])
  | (simp [h])
theorem yG2 {w:World} {a:Act} {o:Oper} {t:Nat} (x:Operand) (ho:o.op = .box t x) (cs:List Value) (hx:a.eval x = .agg cs.toArray):(execOp a.eval o).run Tryd.prog w = .ok (.value (ptr w.heap.size)) (w.alloc (.cells cs.toArray t)):=by
 simp [execOp,ho,hx,Instr.box,newVar,newRow,Value.cells]
theorem yB6 {w:World} {a:Act} {o:Oper} {t:Nat} (zs:List Value) (hz:(Tryd.prog.info? t).map (·.zero)=some (some (.agg zs.toArray))) (ho:o.op = .alloc t):(execOp a.eval o).run Tryd.prog w = .ok (.value (ptr w.heap.size)) (w.alloc (.cells zs.toArray t)):=by
 obtain ⟨i,hi,hz⟩:=Option.map_eq_some_iff.1 hz
 simp [execOp,ho,Instr.alloc,zeroValue,typeInfo,hi,hz,newVar,newRow,Value.cells]
theorem Loc.box {w W:World} {l:List (Nat×TypeId×List Value)} (h:Loc w W l) (T:TypeId) (cs:List Value):Loc w (W.alloc (.cells cs.toArray T)) (l++[(W.heap.size,T,cs)]):=h.add (Row.new W T cs) (Nat.le_refl _) ((Below.refl _ _).alloc (Nat.le_refl _) _)
theorem yB3 {w W:World} {a:Act} {o:Oper} {t n:Nat} (ht:AggT t n) (x y:Operand) (ho:o.op = .store t x y) {l:List (Nat×TypeId×List Value)} (h:Loc w W l) (i:Nat) {g T:Nat} {cur:List Value} (e:l[i]? = some (g,T,cur)) (off:Nat) (hx:a.eval x = .pointer (some ⟨g,off,none⟩)) (cs:List Value) (hy:a.eval y = .agg cs.toArray) (hn:cs.length=n) (hfit:off+cs.length≤cur.length) (h1:∀v∈cs,v.oneCell'=true):(execOp a.eval o).run Tryd.prog W = .ok .skip (W.setRow g (splice cur off cs).toArray)∧Loc w (W.setRow g (splice cur off cs).toArray) (l.set i (g,T,splice cur off cs)):=by
 have hst:=yG1 ht W g off T cur cs hn (h.at i e) hfit h1
 exact ⟨by simp [execOp,ho,hx,hy,Instr.storeAt,Instr.sureAddr,hst],h.set i e ((h.at i e).setRow _) ((Ch.refl (· = g) W).setRow (Or.inl rfl) _)⟩
theorem wm {ops:Array Oper} {Q:Exit→Act→World→Prop} {rest:List Oper} {a:Act} {w:World} {o:Oper} (n:Tmp) (v:Value) (h:wpList Tryd.prog ops Q rest (a.put o.dst v) w) (hg:Region.wanted o (yielded ops a.tmps)=true:=by rfl) (ho:o.op = .move (.tmp n):=by rfl) (hv:a.eval (.tmp n)=v:=by rfl):wpList Tryd.prog ops Q (o :: rest) a w:=wl hg v w (yA4 (.tmp n) ho v hv) h
theorem wa {ops:Array Oper} {Q:Exit→Act→World→Prop} {rest:List Oper} {a:Act} {w:World} {o:Oper} (x:Operand) (v:Value) (h:wpList Tryd.prog ops Q rest (a.put o.dst v) w) (hg:Region.wanted o (yielded ops a.tmps)=true:=by rfl) (ho:o.op = .assign x:=by rfl) (hv:a.eval x=v:=by rfl):wpList Tryd.prog ops Q (o :: rest) a w:=wl hg v w (yE7 x ho v hv) h
end Go.Proofs.YtpkkkkomdblpoaaDoor

namespace Go.Proofs.YtpkkkkomdblpoaaDoor
open Go.RowKit Go.Maps
theorem f86_0:yD7 86 0 0:=fun w g off=>by kernel_rfl
theorem f86_1:yD7 86 1 1:=fun w g off=>by kernel_rfl
theorem f86_2:yD7 86 2 2:=fun w g off=>by kernel_rfl
theorem f88_0:yD7 88 0 0:=fun w g off=>by kernel_rfl
theorem f88_1:yD7 88 1 3:=fun w g off=>by kernel_rfl
theorem f88_2:yD7 88 2 35:=fun w g off=>by kernel_rfl
theorem f91_0:yD7 91 0 0:=fun w g off=>by kernel_rfl
theorem f91_1:yD7 91 1 4:=fun w g off=>by kernel_rfl
theorem f91_2:yD7 91 2 5:=fun w g off=>by kernel_rfl
theorem f40_0:yD7 40 0 0:=fun w g off=>by kernel_rfl
theorem f40_1:yD7 40 1 1:=fun w g off=>by kernel_rfl
theorem f40_2:yD7 40 2 2:=fun w g off=>by kernel_rfl
theorem f133_0:yD7 133 0 0:=fun w g off=>by kernel_rfl
theorem f133_1:yD7 133 1 56:=fun w g off=>by kernel_rfl
theorem f30_0:yD7 30 0 0:=fun w g off=>by kernel_rfl
theorem f30_1:yD7 30 1 1:=fun w g off=>by kernel_rfl
theorem f42_0:yD7 42 0 0:=fun w g off=>by kernel_rfl
theorem f42_1:yD7 42 1 1:=fun w g off=>by kernel_rfl
theorem f42_2:yD7 42 2 2:=fun w g off=>by kernel_rfl
theorem f42_3:yD7 42 3 3:=fun w g off=>by kernel_rfl
theorem f48_0:yD7 48 0 0:=fun w g off=>by kernel_rfl
theorem f48_1:yD7 48 1 1:=fun w g off=>by kernel_rfl
theorem f48_2:yD7 48 2 2:=fun w g off=>by kernel_rfl
theorem f48_3:yD7 48 3 6:=fun w g off=>by kernel_rfl
theorem o3:OneT 3:=fun w g o v h=>by simp [loadVar,isAgg,run_underlying Tryd.underlying3,h]
theorem o4:OneT 4:=fun w g o v h=>by simp [loadVar,isAgg,run_underlying Tryd.underlying4,h]
theorem o5:OneT 5:=fun w g o v h=>by simp [loadVar,isAgg,run_underlying Tryd.underlying5,h]
theorem o9:OneT 9:=fun w g o v h=>by simp [loadVar,isAgg,run_underlying Tryd.underlying9,h]
theorem o24:OneT 24:=fun w g o v h=>by simp [loadVar,isAgg,run_underlying Tryd.underlying24,h]
theorem o28:OneT 28:=fun w g o v h=>by simp [loadVar,isAgg,run_underlying Tryd.underlying28,h]
theorem o38:OneT 38:=fun w g o v h=>by simp [loadVar,isAgg,run_underlying Tryd.underlying38,h]
theorem ag40:AggT 40 4:=⟨Or.inl ⟨_,Tryd.underlying40⟩,by kernel_rfl⟩
theorem ag42:AggT 42 8:=⟨Or.inl ⟨_,Tryd.underlying42⟩,by kernel_rfl⟩
theorem ag30:AggT 30 2:=⟨Or.inl ⟨_,Tryd.underlying30⟩,by kernel_rfl⟩
theorem ag91:AggT 91 6:=⟨Or.inl ⟨_,Tryd.underlying91⟩,by kernel_rfl⟩
theorem ag86:AggT 86 3:=⟨Or.inl ⟨_,Tryd.underlying86⟩,by kernel_rfl⟩
theorem ag48:AggT 48 7:=⟨Or.inl ⟨_,Tryd.underlying48⟩,by kernel_rfl⟩
theorem ag133:AggT 133 64:=⟨Or.inl ⟨_,Tryd.underlying133⟩,by kernel_rfl⟩
theorem ag129:AggT 129 56:=⟨Or.inr ⟨_,_,Tryd.underlying129⟩,by kernel_rfl⟩
theorem ag131:AggT 131 8:=⟨Or.inr ⟨_,_,Tryd.underlying131⟩,by kernel_rfl⟩
theorem ag52:AggT 52 32:=⟨Or.inr ⟨_,_,Tryd.underlying52⟩,by kernel_rfl⟩
theorem arr129:Tryd.prog.underlying 129=some (.array 56 5):=Tryd.underlying129
theorem arr131:Tryd.prog.underlying 131=some (.array 8 5):=Tryd.underlying131
theorem arr52:Tryd.prog.underlying 52=some (.array 32 5):=Tryd.underlying52
theorem sl28:Tryd.prog.underlying 28=some (.slice (Tryd.prog.elem 28)):=by kernel_rfl
theorem sl93:Tryd.prog.underlying 93=some (.slice (Tryd.prog.elem 93)):=by kernel_rfl
theorem sl22:Tryd.prog.underlying 22=some (.slice (Tryd.prog.elem 22)):=by kernel_rfl
def plC (d a l:Int) (b:Bool):List Value:=[.int .i64 d,.int .i64 a,.int .i64 l,.bool b]
theorem zero40:(Tryd.prog.info? 40).map (·.zero)=some (some (.agg (plC 0 0 0 false).toArray)):=by kernel_rfl
theorem yJ2 (d a l:Int) (b:Bool):∀v∈plC d a l b,v.oneCell'=true:=by
 intro v hv
 unfold plC at hv
 simp only [List.mem_cons,List.not_mem_nil,or_false] at hv
 rcases hv with rfl|rfl|rfl|rfl <;> rfl
theorem run_build40 {w:World} {a:Act} {o:Oper} (x y z:Operand) (ho:o.op = .build 40 #[(0,x),(1,y),(2,z)]) (d t l:Int) (hx:a.eval x = .int .i64 d) (hy:a.eval y = .int .i64 t) (hz:a.eval z = .int .i64 l):(execOp a.eval o).run Tryd.prog w = .ok (.value (.agg (plC d t l false).toArray)) w:=by
 have h:(Instr.build 40 #[(0,.int .i64 d),(1,.int .i64 t),(2,.int .i64 l)]).run Tryd.prog w = .ok (.agg (plC d t l false).toArray) w:=by kernel_rfl
 simp [execOp,ho,hx,hy,hz,h]
theorem run_build40z {w:World} {a:Act} {o:Oper} (ho:o.op = .build 40 #[]):(execOp a.eval o).run Tryd.prog w = .ok (.value (.agg (plC 0 0 0 false).toArray)) w:=by
 have h:(Instr.build 40 #[]).run Tryd.prog w = .ok (.agg (plC 0 0 0 false).toArray) w:=by kernel_rfl
 simp [execOp,ho,h]
section
variable {w:World} {a:Act} {o:Oper}
theorem yA8 (x:Operand) (i:Nat) (ho:o.op = .extract x i) (vs:Array Value) (hx:a.eval x = .tuple vs) (v:Value) (hv:vs[i]? = some v):(execOp a.eval o).run Tryd.prog w = .ok (.value v) w:=by simp [execOp,ho,hx,Instr.extract,hv]
theorem yC6 {t:Nat} (x y:Operand) (ho:o.op = .binOp .eql t x y t) (z z':Int) (hx:a.eval x = .int .i64 z) (hy:a.eval y = .int .i64 z') (b:Bool) (hb:decide (z=z')=b):(execOp a.eval o).run Tryd.prog w = .ok (.value (.bool b)) w:=by
 subst hb
 simp only [execOp,ho,hx,hy]
 by_cases h:z=z'
 ·subst h;simp [go_sem]
 ·simp [go_sem,h]
theorem yD1 {t:Nat} (x y:Operand) (ho:o.op = .binOp .neq t x y t) (z z':Int) (hx:a.eval x = .int .i64 z) (hy:a.eval y = .int .i64 z') (b:Bool) (hb:(!decide (z=z'))=b):(execOp a.eval o).run Tryd.prog w = .ok (.value (.bool b)) w:=by
 subst hb
 simp only [execOp,ho,hx,hy]
 by_cases h:z=z'
 ·subst h;simp [go_sem]
 ·simp [go_sem,h]
theorem run_lenZ {t:TypeId} (hu:Tryd.prog.underlying t=some (.slice (Tryd.prog.elem t))) (x:Operand) (ho:o.op = .call { callee:=.builtin .len,args:=#[x],argTypes:=#[t] }) (p:Option Addr) (n cap:Nat) (hx:a.eval x = .slice p n cap):(execOp a.eval o).run Tryd.prog w = .ok (.value (.int .i64 (n:Nat))) w:=by
 have hr:=run_len_slice (P:=Tryd.prog) w t o.type p n cap hu
 simp only [execOp,ho,resolve,invoke,builtin,Sem.run_bind,Sem.run_pure,Result.andThen_ok,List.map_toArray,List.map_cons,List.map_nil,hx,hr]
 rfl
theorem yB8 (x y:Operand) (ho:o.op = .binOp .lss 3 x y 3) (z z':Int) (hx:a.eval x = .int .i64 z) (hy:a.eval y = .int .i64 z') (b:Bool) (hb:decide (z<z')=b):(execOp a.eval o).run Tryd.prog w = .ok (.value (.bool b)) w:=by
 subst hb
 simp only [execOp,ho,hx,hy]
 simp [go_sem]
theorem run_geqZ (x y:Operand) (ho:o.op = .binOp .geq 3 x y 3) (z z':Int) (hx:a.eval x = .int .i64 z) (hy:a.eval y = .int .i64 z') (b:Bool) (hb:decide (z'≤z)=b):(execOp a.eval o).run Tryd.prog w = .ok (.value (.bool b)) w:=by
 subst hb
 simp only [execOp,ho,hx,hy]
 simp [go_sem]
theorem yH6 (x y:Operand) (ho:o.op = .binOp .gtr 3 x y 3) (z z':Int) (hx:a.eval x = .int .i64 z) (hy:a.eval y = .int .i64 z') (b:Bool) (hb:decide (z' < z)=b):(execOp a.eval o).run Tryd.prog w = .ok (.value (.bool b)) w:=by
 subst hb
 simp only [execOp,ho,hx,hy]
 simp [go_sem]
theorem wrap_i64 (z:Int) (h : -9223372036854775808≤z) (h':z≤9223372036854775807):IntKind.i64.wrap z=z:=by
 simp [IntKind.wrap,IntKind.signed,IntKind.bits];omega
theorem yC8 (x y:Operand) (ho:o.op = .binOp .add 3 x y 3) (z z' r:Int) (hx:a.eval x = .int .i64 z) (hy:a.eval y = .int .i64 z') (hr:z+z'=r) (h : -9223372036854775808≤r) (h':r≤9223372036854775807):(execOp a.eval o).run Tryd.prog w = .ok (.value (.int .i64 r)) w:=by
 subst hr
 simp only [execOp,ho,hx,hy]
 simp [go_sem,wrap_i64 _ h h']
theorem run_subZ (x y:Operand) (ho:o.op = .binOp .sub 3 x y 3) (z z' r:Int) (hx:a.eval x = .int .i64 z) (hy:a.eval y = .int .i64 z') (hr:z - z'=r) (h : -9223372036854775808≤r) (h':r≤9223372036854775807):(execOp a.eval o).run Tryd.prog w = .ok (.value (.int .i64 r)) w:=by
 subst hr
 simp only [execOp,ho,hx,hy]
 simp [go_sem,wrap_i64 _ h h']
theorem run_i64u64 (x:Operand) (ho:o.op = .convert 3 153 x) (n:Nat) (h:n≤9223372036854775807) (hx:a.eval x = .int .i64 (n:Nat)):(execOp a.eval o).run Tryd.prog w = .ok (.value (.int .u64 (n:Nat))) w:=by
 have hr:(convert 3 153 (.int .i64 (n:Nat))).run Tryd.prog w = .ok (.int .u64 (n:Nat)) w:=by
  have e:IntKind.u64.wrap (n:Int)=(n:Int):=by rw [IntKind.wrap_u64];omega
  simp [go_sem,e]
 simp only [execOp,ho,hx,hr,Sem.run_bind,Sem.run_pure,Result.andThen_ok]
end
theorem eN8:yB9 8:=Go.Proofs.enters_of Tryd.func8 (by kernel_rfl) rfl
theorem eN9:yB9 9:=Go.Proofs.enters_of Tryd.func9 (by kernel_rfl) rfl
theorem eN10:yB9 10:=Go.Proofs.enters_of Tryd.func10 (by kernel_rfl) rfl
theorem eN11:yB9 11:=Go.Proofs.enters_of Tryd.func11 (by kernel_rfl) rfl
theorem eN12:yB9 12:=Go.Proofs.enters_of Tryd.func12 (by kernel_rfl) rfl
theorem eN14:yB9 14:=Go.Proofs.enters_of Tryd.func14 (by kernel_rfl) rfl
theorem eN16:yB9 16:=Go.Proofs.enters_of Tryd.func16 (by kernel_rfl) rfl
theorem eN17:yB9 17:=Go.Proofs.enters_of Tryd.func17 (by kernel_rfl) rfl
theorem eN19:yB9 19:=Go.Proofs.enters_of Tryd.func19 (by kernel_rfl) rfl
theorem eN20:yB9 20:=Go.Proofs.enters_of Tryd.func20 (by kernel_rfl) rfl
theorem eN23:yB9 23:=Go.Proofs.enters_of Tryd.func23 (by kernel_rfl) rfl
theorem eN26:yB9 26:=Go.Proofs.enters_of Tryd.func26 (by kernel_rfl) rfl
theorem eN27:yB9 27:=Go.Proofs.enters_of Tryd.func27 (by kernel_rfl) rfl
theorem eN28:yB9 28:=Go.Proofs.enters_of Tryd.func28 (by kernel_rfl) rfl
theorem eN29:yB9 29:=Go.Proofs.enters_of Tryd.func29 (by kernel_rfl) rfl
theorem eN30:yB9 30:=Go.Proofs.enters_of Tryd.func30 (by kernel_rfl) rfl
theorem eN32:yB9 32:=Go.Proofs.enters_of Tryd.func32 (by kernel_rfl) rfl
theorem eN33:yB9 33:=Go.Proofs.enters_of Tryd.func33 (by kernel_rfl) rfl
theorem eN36:yB9 36:=Go.Proofs.enters_of Tryd.func36 (by kernel_rfl) rfl
theorem eN37:yB9 37:=Go.Proofs.enters_of Tryd.func37 (by kernel_rfl) rfl
theorem eN38:yB9 38:=Go.Proofs.enters_of Tryd.func38 (by kernel_rfl) rfl
theorem eN39:yB9 39:=Go.Proofs.enters_of Tryd.func39 (by kernel_rfl) rfl
theorem eN40:yB9 40:=Go.Proofs.enters_of Tryd.func40 (by kernel_rfl) rfl
theorem eN42:yB9 42:=Go.Proofs.enters_of Tryd.func42 (by kernel_rfl) rfl
theorem eN43:yB9 43:=Go.Proofs.enters_of Tryd.func43 (by kernel_rfl) rfl
theorem eN44:yB9 44:=Go.Proofs.enters_of Tryd.func44 (by kernel_rfl) rfl
theorem eN45:yB9 45:=Go.Proofs.enters_of Tryd.func45 (by kernel_rfl) rfl
theorem eN46:yB9 46:=Go.Proofs.enters_of Tryd.func46 (by kernel_rfl) rfl
theorem eN47:yB9 47:=Go.Proofs.enters_of Tryd.func47 (by kernel_rfl) rfl
theorem eN48:yB9 48:=Go.Proofs.enters_of Tryd.func48 (by kernel_rfl) rfl
theorem eN60:yB9 60:=Go.Proofs.enters_of Tryd.func60 (by kernel_rfl) rfl
theorem eN61:yB9 61:=Go.Proofs.enters_of Tryd.func61 (by kernel_rfl) rfl
theorem eN63:yB9 63:=Go.Proofs.enters_of Tryd.func63 (by kernel_rfl) rfl
theorem eN64:yB9 64:=Go.Proofs.enters_of Tryd.func64 (by kernel_rfl) rfl
theorem eN65:yB9 65:=Go.Proofs.enters_of Tryd.func65 (by kernel_rfl) rfl
theorem eN66:yB9 66:=Go.Proofs.enters_of Tryd.func66 (by kernel_rfl) rfl
theorem eN67:yB9 67:=Go.Proofs.enters_of Tryd.func67 (by kernel_rfl) rfl
theorem eN68:yB9 68:=Go.Proofs.enters_of Tryd.func68 (by kernel_rfl) rfl
theorem eN69:yB9 69:=Go.Proofs.enters_of Tryd.func69 (by kernel_rfl) rfl
theorem eN70:yB9 70:=Go.Proofs.enters_of Tryd.func70 (by kernel_rfl) rfl
theorem eN76:yB9 76:=Go.Proofs.enters_of Tryd.func76 (by kernel_rfl) rfl
theorem eN77:yB9 77:=Go.Proofs.enters_of Tryd.func77 (by kernel_rfl) rfl
theorem eN78:yB9 78:=Go.Proofs.enters_of Tryd.func78 (by kernel_rfl) rfl
theorem eN79:yB9 79:=Go.Proofs.enters_of Tryd.func79 (by kernel_rfl) rfl
theorem eN80:yB9 80:=Go.Proofs.enters_of Tryd.func80 (by kernel_rfl) rfl
theorem eN86:yB9 86:=Go.Proofs.enters_of Tryd.func86 (by kernel_rfl) rfl
theorem eN92:yB9 92:=Go.Proofs.enters_of Tryd.func92 (by kernel_rfl) rfl
theorem eN93:yB9 93:=Go.Proofs.enters_of Tryd.func93 (by kernel_rfl) rfl
end Go.Proofs.YtpkkkkomdblpoaaDoor

namespace Go.Proofs.YtpkkkkomdblpoaaDoor
open Go.RowKit
section
variable {P:Program} {ops:Array Oper} {Q:Exit→Act→World→Prop} {md:Region.Mode} {S:World→Prop} {z:Nat}
def wpAnyU (P:Program) (md:Region.Mode) (ops:Array Oper) (Q:Exit→Act→World→Prop) (S:World→Prop) (z:Nat):Nat→Array Bool→Act→World→Prop
 | 0,listed,a,w=>Region.ready md ops listed=[]∧Q .normal a w
 | fuel+1,listed,a,w =>
  (Region.ready md ops listed=[]→Q .normal a w) ∧
  ∀i∈Region.ready md ops listed,wpOp P ops Q i (fun a' w'=>((listed.setIfInBounds i true).getD z true=false→S w')∧wpAnyU P md ops Q S z fuel (listed.setIfInBounds i true) a' w') a w
theorem wpAny_of_until:∀(fuel:Nat) (listed:Array Bool) (a:Act) (w:World),wpAnyU P md ops Q S z fuel listed a w→wpAny P md ops Q fuel listed a w
 | 0,_,_,_,h=>h
 | fuel+1,_,_,_,h=>⟨h.1,fun i hi=>wpOp_mono (fun a' w' h'=>wpAny_of_until fuel _ a' w' h'.2) (h.2 i hi)⟩
theorem yJ7 {id:Nat} {a:Act} {w:World} (z:Nat) (hm:P.follows .mixedOrders=true)
  (h:wpAnyU P .any ops Q S z ops.size (Array.replicate ops.size false) a { w with drawn:=w.drawn+1 }):(Code.region id ops true).wp P Q a w :=
 wp_region_any hm (wpAny_of_until _ _ _ _ h)
theorem wpAnyU_done {listed:Array Bool} {a:Act} {w:World} (hr:Region.ready md ops listed=[]) (h:Q .normal a w) :
  ∀fuel,wpAnyU P md ops Q S z fuel listed a w
 | 0=>⟨hr,h⟩
 | _+1=>⟨fun _=>h,by rw [hr];simp⟩
def waitsB (md:Region.Mode) (ops:Array Oper) (z i:Nat):Bool:=i != z && match ops[z]? with
 | some o=>o.after.any fun e=>Region.binds md e && e.on == i
 | none=>false
end
def chainB (md:Region.Mode) (ops:Array Oper) (listed:Array Bool):List Nat→Bool
 | []=>true
 | [a] => !(listed.getD a true)
 | a :: b :: r => !(listed.getD a true) && (waitsB md ops b a && chainB md ops listed (b :: r))
section
variable {P:Program} {ops:Array Oper} {Q:Exit→Act→World→Prop} {md:Region.Mode} {S:World→Prop} {z:Nat}
theorem chain_head {listed:Array Bool} {a:Nat} {r:List Nat} (h:chainB md ops listed (a :: r)=true):listed.getD a true=false:=by
 cases r with
 | nil=>simpa [chainB] using h
 | cons b r =>
  unfold chainB at h
  simp only [Bool.and_eq_true,Bool.not_eq_true'] at h
  exact h.1
theorem waits_not {listed:Array Bool} {a b:Nat} (hw:waitsB md ops b a=true) (ha:listed.getD a true=false):b ∉ Region.ready md ops listed:=by
 intro hb
 obtain ⟨_,ob,hob,hall⟩:=mem_ready.1 hb
 unfold waitsB at hw
 rw [Bool.and_eq_true,hob] at hw
 obtain ⟨_,h2⟩:=hw
 simp only [Array.any_eq_true] at h2
 obtain ⟨n,hn,hb'⟩:=h2
 simp only [Bool.and_eq_true,beq_iff_eq] at hb'
 have h1:=hall _ (Array.getElem_mem hn) hb'.1
 rw [hb'.2] at h1
 rcases Nat.lt_or_ge a listed.size with h'|h'
 ·simp [h'] at ha h1;rw [ha] at h1;cases h1
 ·simp [Array.getElem?_eq_none h'] at h1
theorem chain_not {listed:Array Bool}:∀(r:List Nat) (a j:Nat),chainB md ops listed (a :: r)=true→j∈Region.ready md ops listed→j ∉ r:=by
 intro r
 induction r with
 | nil=>intro a j _ _ h;cases h
 | cons b r ih =>
  intro a j h hj hm
  have ha:=chain_head h
  unfold chainB at h
  simp only [Bool.and_eq_true] at h
  rcases List.mem_cons.1 hm with e|e
  ·subst e;exact waits_not h.2.1 ha hj
  ·exact ih b j h.2.2 hj e
theorem chain_set {listed:Array Bool} (j:Nat):∀(l:List Nat),chainB md ops listed l=true→j ∉ l→chainB md ops (listed.setIfInBounds j true) l=true:=by
 intro l
 induction l with
 | nil=>intro _ _;rfl
 | cons a r ih =>
  intro h hj
  have hja:j≠a:=fun e=>hj (by rw [e];simp)
  have ha:=chain_head h
  have ha':(listed.setIfInBounds j true).getD a true=false:=by rw [getD_set_ne true hja];exact ha
  cases r with
  | nil=>simp only [chainB,ha',Bool.not_false]
  | cons b r =>
   unfold chainB at h ⊢
   simp only [Bool.and_eq_true] at h ⊢
   exact ⟨by rw [ha'];rfl,h.2.1,ih h.2.2 (fun e=>hj (by simp [e]))⟩
theorem chain_mem {listed:Array Bool}:∀(l:List Nat) (j:Nat),chainB md ops listed l=true→j∈l→listed.getD j true=false:=by
 intro l
 induction l with
 | nil=>intro j _ h;cases h
 | cons a r ih =>
  intro j h hj
  rcases List.mem_cons.1 hj with e|e
  ·rw [e];exact chain_head h
  ·cases r with
   | nil=>cases e
   | cons b r =>
    unfold chainB at h
    simp only [Bool.and_eq_true] at h
    exact ih j h.2.2 e
theorem wpAnyU_chain {i:Nat} {oi:Oper} {v:Value} (l:List Nat) (hzm:z∈l) (hil:i ∉ l) (hi:ops[i]? = some oi) (hsel:∀(j:Nat) (o:Oper) cs b,ops[j]? = some o→o.op≠.select cs b)
  (hQ:∀c a w,Q (.panic c) (a.put oi.dst v) w→Q (.panic c) a w) :
  ∀(fuel:Nat) (listed:Array Bool) (a:Act) (w:World),
   (∀j oj,ops[j]? = some oj→j≠i→listed.getD j true=false→(∀e∈oj.after,Region.binds md e=true→e.on≠i)→oi.apart ops oj=true) →
   i∈Region.ready md ops listed→chainB md ops listed (i :: l)=true→YieldsIf P ops S oi v a→S w →
   wpAnyU P md ops Q S z fuel (listed.setIfInBounds i true) (a.put oi.dst v) w→wpAnyU P md ops Q S z (fuel+1) listed a w:=by
 intro fuel
 induction fuel with
 | zero =>
  intro listed a w _ hr hzl hy hS H
  refine ⟨fun h=>(by rw [h] at hr;cases hr),fun j hj => ?_⟩
  by_cases hji:j=i
  ·subst hji;exact hy.wpOp hi hS ⟨fun _=>hS,H⟩
  ·have:=ready_mono hj hji
   rw [H.1] at this
   cases this
 | succ fuel ih =>
  intro listed a w hfree hr hcl hy hS H
  have hiz:i≠z:=fun e=>hil (by rw [e];exact hzm)
  have hzl:listed.getD z true=false:=chain_mem _ z hcl (by simp [hzm])
  refine ⟨fun h=>(by rw [h] at hr;cases hr),fun j hj => ?_⟩
  by_cases hji:j=i
  ·subst hji;exact hy.wpOp hi hS ⟨fun _=>hS,H⟩
  ·have h1:=H.2 j (ready_mono hj hji)
   obtain ⟨hjun,oj,hoj,hall⟩:=mem_ready.1 hj
   have hnot:∀e∈oj.after,Region.binds md e=true→e.on≠i:=fun e he hb heq=>by
    have h1:=hall e he hb
    have h0:=(mem_ready.1 hr).1
    rw [heq] at h1
    rcases Nat.lt_or_ge i listed.size with h'|h'
    ·simp [h'] at h0 h1;rw [h0] at h1;cases h1
    ·simp [Array.getElem?_eq_none h'] at h1
   have hjl:j ∉ l:=chain_not l i j hcl hj
   have hjz:j≠z:=fun e=>hjl (by rw [e];exact hzm)
   have hlij:((listed.setIfInBounds i true).setIfInBounds j true).getD z true=false:=by rw [getD_set_ne true hjz,getD_set_ne true hiz];exact hzl
   have h2:=wpOp_putIf hoj (hfree j oj hoj hji hjun hnot) (fun cs b=>hsel i oi cs b hi) (fun cs b=>hsel j oj cs b hoj) hQ hy h1
   have hfree':∀k ok,ops[k]? = some ok→k≠i→(listed.setIfInBounds j true).getD k true=false →
     (∀e∈ok.after,Region.binds md e=true→e.on≠i)→oi.apart ops ok=true:=fun k ok hk hki hun hno=>by
    refine hfree k ok hk hki ?_ hno
    by_cases hjk:j=k
    ·subst hjk;exact hjun
    ·rw [getD_set_ne true hjk] at hun;exact hun
   refine wpOp_mono (fun a' w' h3 => ?_) h2
   have hSw:=h3.2.1 hlij
   refine ⟨fun _=>hSw,ih (listed.setIfInBounds j true) a' w' hfree' (ready_mono hr (Ne.symm hji)) (chain_set j _ hcl (fun e=>by rcases List.mem_cons.1 e with e|e;exact hji e;exact hjl e)) h3.1 hSw ?_⟩
   rw [Array.setIfInBounds_comm _ _ hji]
   exact h3.2.2
end
section
variable {ops:Array Oper} {Q:Exit→Act→World→Prop} {a:Act} {w:World} {listed:Array Bool} {fuel:Nat} {S:World→Prop} {z:Nat}
theorem takeV {i:Nat} (l:List Nat) (d:Option Tmp) {oi:Oper} {v:Value} (hi:ops[i]? = some oi) (hd:oi.dst=d)
  (hs:Region.noSelect ops=true) (hf:Region.free .any ops listed i=true) (hr:(Region.ready .any ops listed).contains i=true) (hz:(chainB .any ops listed (i :: l) && (l.contains z && !l.contains i))=true)
  (hQ:∀c a w,Q (.panic c) (a.put d v) w→Q (.panic c) a w) (hy:YieldsIf Tryd.prog ops S oi v a) (hS:S w)
  (h:wpAnyU Tryd.prog .any ops Q S z fuel (listed.setIfInBounds i true) (a.put d v) w):wpAnyU Tryd.prog .any ops Q S z (fuel+1) listed a w:=by
 subst hd
 simp only [Bool.and_eq_true,Bool.not_eq_true'] at hz
 exact wpAnyU_chain l (by simpa using hz.2.1) (by simpa using hz.2.2) hi (Region.noSelect_spec hs) hQ fuel listed a w (Region.free_spec hi hf) (by simpa using hr) hz.1 hy hS h
theorem tV (i:Nat) (l:List Nat) (s:Nat) {oi:Oper} {v:Value} (hi:ops[i]? = some oi) (hd:oi.dst=some s)
    (hy:YieldsIf Tryd.prog ops S oi v a) (hS:S w)
    (h:wpAnyU Tryd.prog .any ops Q S z fuel (listed.setIfInBounds i true) (a.put (some s) v) w)
    (hk:(Region.noSelect ops && Region.free .any ops listed i && (Region.ready .any ops listed).contains i && (chainB .any ops listed (i :: l) && (l.contains z && !l.contains i)))=true:=by kernel_rfl)
    (hQ:∀c a w,Q (.panic c) (a.put (some s) v) w→Q (.panic c) a w:=by exact fun _ _ _ h=>h):wpAnyU Tryd.prog .any ops Q S z (fuel+1) listed a w :=
  takeV l (some s) hi hd ((Bool.and_eq_true_iff.1 (Bool.and_eq_true_iff.1 (Bool.and_eq_true_iff.1 hk).1).1).1) ((Bool.and_eq_true_iff.1 (Bool.and_eq_true_iff.1 (Bool.and_eq_true_iff.1 hk).1).1).2) ((Bool.and_eq_true_iff.1 (Bool.and_eq_true_iff.1 hk).1).2) (Bool.and_eq_true_iff.1 hk).2 hQ hy hS h
end
section
variable {ops:Array Oper} {Q:Exit→Act→World→Prop} {a:Act} {w:World} {listed:Array Bool} {fuel:Nat} {S:World→Prop} {z:Nat}
theorem oneU {i:Nat} (hr:Region.ready .any ops listed=[i]) (h:wpOp Tryd.prog ops Q i (fun a' w'=>((listed.setIfInBounds i true).getD z true=false→S w')∧wpAnyU Tryd.prog .any ops Q S z fuel (listed.setIfInBounds i true) a' w') a w):wpAnyU Tryd.prog .any ops Q S z (fuel+1) listed a w :=
 ⟨fun h0=>(by rw [hr] at h0;cases h0),fun j hj=>(by rw [hr] at hj;obtain rfl:=List.mem_singleton.1 hj;exact h)⟩
end
end Go.Proofs.YtpkkkkomdblpoaaDoor

/- Blocks that are known whole, and the operations that read and write them whole: arrays and structs. Maps from places to a kind of elements, as functions: a map[int]sector, a map[int]int. Plants as plain data, and what the calls make of them. No word of memory. Plants in memory: blocks have colours, one for each device, so that what is one's is no other's. A drawn region whose first n operations are quiet in a class of worlds and whose other operations wait for all of them and for one another: one walk in the order of the text serves every order. (The two laws of the library on the quiet walk and on the forced end, put together.) The calls that look at a plant or at a device, and the step. -/
import Derived.Test.YtpkkkkomdblpoaaDoorRows
import Derived.WalkKit
import Derived.Below
import Derived.Lib.QuietBelow
import Derived.Laws.CopyOwn
import Derived.Laws.Cells
import Derived.Maps.OwnSet
import Derived.Maps.Range
import Derived.Maps.AppendAt
import Derived.StillTail
import Derived.Deep.QuietTactic
import Derived.WalkSpells
import Derived.WalkLawsBesides
import Derived.BigQuiet
namespace Go.Proofs.YtpkkkkomdblpoaaDoor
open Go.RowKit
theorem exPQ (P:Ending→World→Prop):∃Q:Ending→World→Prop,Hid (Q=P):=⟨P,rfl⟩
theorem aS {α:Type} (l:List α) (i:Nat) (a:α):l.toArray.setIfInBounds i a=(l.set i a).toArray:=List.setIfInBounds_toArray ..
theorem aC {α:Type} (x:α) (l:List α) (n:Nat) (a:α):(x :: l).set (n+1) a=x :: l.set n a:=List.set_cons_succ ..
theorem aZ {α:Type} (x:α) (l:List α) (a:α):(x :: l).set 0 a=a :: l:=List.set_cons_zero ..
def Row (w:World) (g:Nat) (t:TypeId) (cs:List Value):Prop:=w.heap[g]? = some (.cells cs.toArray t (0,0))
theorem yB7 (g o j:Nat):(⟨g,o,none⟩:Addr).add j=⟨g,o+j,none⟩:=by unfold Addr.add;split <;> simp_all
theorem Row.lt {w:World} {g:Nat} {t:TypeId} {cs:List Value} (h:Row w g t cs):g<w.heap.size:=(Array.getElem?_eq_some_iff.1 h).1
theorem Row.cell {w:World} {g:Nat} {t:TypeId} {cs:List Value} (h:Row w g t cs) (i:Nat):w.cell? ⟨g,i,none⟩=cs[i]?:=by
 unfold Row at h
 simp [World.cell?,h]
theorem Row.at {w:World} {g:Nat} {t:TypeId} {cs:List Value} (h:Row w g t cs) (i:Nat) (v:Value) (hv:cs[i]? = some v):w.cell? ⟨g,i,none⟩=some v:=by
 rw [h.cell,hv]
theorem Row.frozen {w:World} {g:Nat} {t:TypeId} {cs:List Value} (h:Row w g t cs) (i:Nat):w.frozen? ⟨g,i,none⟩=false:=by
 unfold Row at h
 simp [World.frozen?,h]
theorem Row.later {w w':World} {B g:Nat} {t:TypeId} {cs:List Value} (h:Row w g t cs) (hb:Below B w w') (hg:g<B):Row w' g t cs:=by
 unfold Row
 rw [hb.block g hg]
 exact h
theorem Row.new (w:World) (t:TypeId) (cs:List Value):Row (w.alloc (.cells cs.toArray t)) w.heap.size t cs:=by
 show (w.heap.push _)[w.heap.size]? = _
 simp
theorem Row.new' (w:World) (t:TypeId) (cs:Array Value):Row (w.alloc (.cells cs t)) w.heap.size t cs.toList:=by
 show (w.heap.push _)[w.heap.size]? = _
 simp
theorem Row.alloc {w:World} {g:Nat} {t:TypeId} {cs:List Value} (h:Row w g t cs) (o:Obj):Row (w.alloc o) g t cs:=by
 unfold Row
 rw [Below.heap_alloc _ _ _ h.lt]
 exact h
theorem Row.setRow {w:World} {g:Nat} {t:TypeId} {cs:List Value} (h:Row w g t cs) (xs:List Value):Row (w.setRow g xs.toArray) g t xs:=setRow_heap w g _ _ t _ h
theorem Row.setCell {w:World} {g:Nat} {t:TypeId} {cs:List Value} (h:Row w g t cs) (i:Nat) (v:Value):Row (w.setCell ⟨g,i,none⟩ v) g t (cs.set i v):=by
 rw [setCell_eq_setRow w g i _ t (0,0) v h]
 have:=setRow_heap w g _ (cs.toArray.setIfInBounds i v) t (0,0) h
 unfold Row
 rw [this]
 simp
theorem Row.drewN {w:World} {g:Nat} {t:TypeId} {cs:List Value} (h:Row w g t cs) (n:Nat):Row (w.drewN n) g t cs:=h
theorem Below.drewN {B:Nat} {a w:World} (h:Below B a w) (n:Nat):Below B a (w.drewN n):=⟨h.os,h.tape,h.output,h.size,h.block⟩
def AggT (t n:Nat):Prop:=((∃fs,Tryd.prog.underlying t=some (.struct fs))∨∃k e,Tryd.prog.underlying t=some (.array k e))∧(Tryd.prog.info? t).map (·.size)=some n
theorem agg84:AggT 114 64:=⟨Or.inr ⟨_,_,Tryd.underlying114⟩,by kernel_rfl⟩
theorem agg87:AggT 116 66:=⟨Or.inl ⟨_,Tryd.underlying116⟩,by kernel_rfl⟩
theorem agg93:AggT 118 67:=⟨Or.inl ⟨_,Tryd.underlying118⟩,by kernel_rfl⟩
theorem agg24:AggT 30 2:=⟨Or.inl ⟨_,Tryd.underlying30⟩,by kernel_rfl⟩
theorem yF9 {t n:Nat} (ht:AggT t n) (w:World) (g o:Nat) (cs:List Value) (hn:cs.length=n) (hc:∀j v,cs[j]? = some v→w.cell? ⟨g,o+j,none⟩=some v) :
  (loadVar t ⟨g,o,none⟩).run Tryd.prog w = .ok (.agg cs.toArray) w:=by
 obtain ⟨hu,hs⟩:=ht
 obtain ⟨i,hi,hsz⟩:=Option.map_eq_some_iff.1 hs
 have hl:=run_loadCells_list (P:=Tryd.prog) w ⟨g,o,none⟩ cs (fun j v hv=>by rw [yB7];exact hc j v hv)
 rw [hn] at hl
 rcases hu with ⟨fs,hu⟩|⟨k,e,hu⟩
 ·simp [loadVar,isAgg,run_underlying hu,sizeOf,typeInfo,hi,hsz,hl]
 ·simp [loadVar,isAgg,run_underlying hu,sizeOf,typeInfo,hi,hsz,hl]
theorem yG1 {t n:Nat} (ht:AggT t n) (w:World) (g o T:Nat) (cur cs:List Value) (hn:cs.length=n) (hr:Row w g T cur) (hfit:o+cs.length≤cur.length) (h1:∀v∈cs,v.oneCell'=true) :
  (storeVar t ⟨g,o,none⟩ (.agg cs.toArray)).run Tryd.prog w = .ok () (w.setRow g (splice cur o cs).toArray):=by
 obtain ⟨hu,hs⟩:=ht
 obtain ⟨i,hi,hsz⟩:=Option.map_eq_some_iff.1 hs
 have hst:=run_storeCells_at (P:=Tryd.prog) g o T cs 0 cur.toArray w hr (by simpa using hfit) h1
 simp only [Nat.add_zero] at hst
 simp [storeVar,sizeOf,typeInfo,hi,hsz,Value.cells,hn,hst,splice]
section
variable {w:World} {ops:Array Oper} {rest:List Oper} {o:Oper} {a:Act} {Q:Exit→Act→World→Prop}
theorem yB1 (hgd:o.guard=none) (v:Value) (w':World) (hrun:(execOp a.eval o).run Tryd.prog w = .ok (.value v) w') (h:wpList Tryd.prog ops Q rest (a.put o.dst v) w'):wpList Tryd.prog ops Q (o :: rest) a w :=
 wpList_plain hgd fun K hK=>by
  unfold Oper.wp
  rw [hrun]
  exact hK _ _ h
theorem wpList_skip' (hgd:o.guard=none) (w':World) (hrun:(execOp a.eval o).run Tryd.prog w = .ok .skip w') (h:wpList Tryd.prog ops Q rest (a.put o.dst undef) w'):wpList Tryd.prog ops Q (o :: rest) a w :=
 wpList_plain hgd fun K hK=>by
  unfold Oper.wp
  rw [hrun]
  exact hK _ _ h
theorem yC7 (x:Operand) (hgd:o.guard=none) (ho:o.op = .move x) (v:Value) (hv:a.eval x=v) (h:wpList Tryd.prog ops Q rest (a.put o.dst v) w):wpList Tryd.prog ops Q (o :: rest) a w :=
 yB1 hgd v w (by simp [execOp,ho,hv]) h
theorem yE3 (x:Operand) (hgd:o.guard=none) (ho:o.op = .assign x) (v:Value) (hv:a.eval x=v) (h:wpList Tryd.prog ops Q rest (a.put o.dst v) w):wpList Tryd.prog ops Q (o :: rest) a w :=
 yB1 hgd v w (by simp [execOp,ho,hv]) h
theorem yF1 {t n:Nat} (ht:AggT t n) (x:Operand) (hgd:o.guard=none) (ho:o.op = .load t x) (g off:Nat) (hx:a.eval x = .pointer (some ⟨g,off,none⟩)) (cs:List Value) (hn:cs.length=n)
  (hc:∀j v,cs[j]? = some v→w.cell? ⟨g,off+j,none⟩=some v) (h:wpList Tryd.prog ops Q rest (a.put o.dst (.agg cs.toArray)) w):wpList Tryd.prog ops Q (o :: rest) a w :=
 yB1 hgd _ w (by simp [execOp,ho,hx,Instr.loadAt,Instr.sureAddr,yF9 ht w g off cs hn hc]) h
theorem wpList_store {t n:Nat} (ht:AggT t n) (x y:Operand) (hgd:o.guard=none) (ho:o.op = .store t x y) (g off T:Nat) (hx:a.eval x = .pointer (some ⟨g,off,none⟩)) (cs cur:List Value) (hy:a.eval y = .agg cs.toArray) (hn:cs.length=n)
  (hr:Row w g T cur) (hfit:off+cs.length≤cur.length) (h1:∀v∈cs,v.oneCell'=true) (h:wpList Tryd.prog ops Q rest (a.put o.dst undef) (w.setRow g (splice cur off cs).toArray)):wpList Tryd.prog ops Q (o :: rest) a w :=
 wpList_skip' hgd _ (by simp [execOp,ho,hx,hy,Instr.storeAt,Instr.sureAddr,yG1 ht w g off T cur cs hn hr hfit h1]) h
theorem wpList_alloc {t:Nat} (zs:List Value) (hz:(Tryd.prog.info? t).map (·.zero)=some (some (.agg zs.toArray))) (hgd:o.guard=none) (ho:o.op = .alloc t)
  (h:wpList Tryd.prog ops Q rest (a.put o.dst (.pointer (some ⟨w.heap.size,0,none⟩))) (w.alloc (.cells zs.toArray t))):wpList Tryd.prog ops Q (o :: rest) a w:=by
 obtain ⟨i,hi,hsz⟩:=Option.map_eq_some_iff.1 hz
 exact yB1 hgd _ _ (by simp [execOp,ho,Instr.alloc,zeroValue,typeInfo,hi,hsz,newVar,newRow,Value.cells]) h
end
theorem yG3 {fn:Func} {p:Tmp} {t n:Nat} (ht:AggT t n) (h:fn.results=#[.cell p t]) (tmps:Array Value) (w:World) (g T:Nat) (hp:tmps.getD p undef = .pointer (some ⟨g,0,none⟩)) (cs:List Value) (hn:cs.length=n) (hr:Row w g T cs) :
  (results fn tmps).run Tryd.prog w = .ok (.agg cs.toArray) w:=by
 have hl:=yF9 ht w g 0 cs hn (fun j v hv=>by rw [Nat.zero_add];exact hr.at j v hv)
 have hp':tmps[p]?.getD undef = .pointer (some ⟨g,0,none⟩):=by simpa using hp
 simp [results,h,hp',asAddr,hl]
def yB4 (n:Nat):List Value:=List.replicate n (.int .u8 0)
theorem zero84:(Tryd.prog.info? 114).map (·.zero)=some (some (.agg (yB4 64).toArray)):=by kernel_rfl
theorem zero87:(Tryd.prog.info? 116).map (·.zero)=some (some (.agg (Value.int .i64 0 :: Value.int .i64 0 :: yB4 64).toArray)):=by kernel_rfl
theorem zero93:(Tryd.prog.info? 118).map (·.zero)=some (some (.agg (Value.int .i64 0 :: Value.int .i64 0 :: Value.int .i64 0 :: yB4 64).toArray)):=by kernel_rfl
theorem zero89:(Tryd.prog.info? 110).map (·.zero)=some (some (.agg (List.replicate 12 (Value.bool false)).toArray)):=by kernel_rfl
end Go.Proofs.YtpkkkkomdblpoaaDoor

namespace Go.Proofs.YtpkkkkomdblpoaaDoor
open Go.RowKit Go.Maps Go.MapKept
def yA0 (cs:List Nat):List Value:=cs.map fun c=>Value.int .u8 (c:Nat)
theorem yA1 (cs:List Nat):(yA0 cs).length=cs.length:=by simp [yA0]
theorem yD0 (a b:List Nat):yA0 (a++b)=yA0 a++yA0 b:=by simp [yA0]
theorem yB0 (cs:List Nat):∀v∈yA0 cs,v.oneCell'=true:=by
 intro v hv
 obtain ⟨c,_,rfl⟩:=List.mem_map.1 hv
 rfl
theorem yC3 (cs:List Nat) (i:Nat) (h:i<cs.length):(yA0 cs)[i]? = some (.int .u8 (cs.getD i 0:Nat)):=by simp [yA0,h]
theorem bcells_inj {a b:List Nat} (h:yA0 a=yA0 b):a=b:=by
 have:Function.Injective (fun c:Nat=>Value.int .u8 (c:Int)):=by
  intro x y hxy
  simp only [Value.int.injEq,true_and] at hxy
  omega
 exact List.map_inj_right (f:=fun c:Nat=>Value.int .u8 (c:Int)) (fun x y hxy=>this hxy) |>.1 h
structure Elem (α:Type) where
 R:Value→Option (DataW Unit×List MemPlace)
 enc:α→Value
 dat:α→DataW Unit
 ok:α→Prop
 read:∀a,ok a→R (enc a)=some (dat a,[])
 inv:∀v d ps,R v=some (d,ps)→∃a,ok a∧v=enc a∧d=dat a
 inj:∀a b,ok a→ok b→dat a=dat b→a=b
def Sec (s:List Nat):Prop:=s.length=64∧∀c∈s,c<256
def secV (s:List Nat):Value:=.agg (yA0 s).toArray
def secD (s:List Nat):DataW Unit:=.agg (s.map fun c:Nat=>.lit (.int .u8 (c:Int)))
theorem secV_inj {a b:List Nat} (h:secV a=secV b):a=b:=by
 unfold secV at h
 simp only [Value.agg.injEq] at h
 exact bcells_inj (by simpa using h)
theorem secD_inj {a b:List Nat} (h:secD a=secD b):a=b:=by
 unfold secD at h
 simp only [DataW.agg.injEq] at h
 exact (List.map_inj_right (f:=fun c:Nat=>DataW.lit (H:=Unit) (.int .u8 (c:Int))) (fun x y hxy=>by simp at hxy;omega)).1 h
open Classical in
noncomputable def secR (v:Value):Option (DataW Unit×List MemPlace):=if h:∃s,Sec s∧v=secV s then some (secD h.choose,[]) else none
theorem secR_of {s:List Nat} (h:Sec s):secR (secV s)=some (secD s,[]):=by
 have hx:∃s',Sec s'∧secV s=secV s':=⟨s,h,rfl⟩
 unfold secR
 rw [dif_pos hx,←secV_inj hx.choose_spec.2]
noncomputable def secs:Elem (List Nat) where
 R:=secR
 enc:=secV
 dat:=secD
 ok:=Sec
 read:=fun _ h=>secR_of h
 inv:=fun v d ps h=>by
  unfold secR at h
  split at h
  ·rename_i hx
   simp only [Option.some.injEq,Prod.mk.injEq] at h
   exact ⟨hx.choose,hx.choose_spec.1,hx.choose_spec.2,h.1.symm⟩
  ·cases h
 inj:=fun _ _ _ _ h=>secD_inj h
noncomputable def ints:Elem Int where
 R:=plainElem Tryd.prog 3
 enc:=fun a=>.int .i64 a
 dat:=fun a=>.lit (.int .i64 a)
 ok:=fun a=>(Lit.int .i64 a).wf=true
 read:=fun _ h=>plainElem_int Tryd.underlying3 h
 inv:=fun v d ps h=>by
  obtain ⟨a,rfl,hz,hw⟩:=plainElem_int_inv Tryd.underlying3 h
  simp only [Prod.mk.injEq] at hz
  exact ⟨a,hw,rfl,hz.1⟩
 inj:=fun a b _ _ h=>by simpa using h
def key (p:Nat):Lit:=.int .i64 (p:Int)
theorem key_inj {p q:Nat} (h:key p=key q):p=q:=by
 unfold key at h
 simp only [Lit.int.injEq,true_and] at h
 omega
theorem key_ne {p q:Nat} (h:p≠q):key p≠key q:=fun e=>h (key_inj e)
theorem wf_nat (p:Nat) (h:p<4611686018427387904):(Lit.int .i64 (p:Int)).wf=true:=WalkArith.wf_i64 (by omega)
theorem law3:Keyed Tryd.prog 3:=int_keyed Tryd.underlying3
theorem keyOf_key (p:Nat) (h:p<4611686018427387904):keyOf Tryd.prog 3 (.int .i64 (p:Int))=some (key p):=keyOf_int_mk Tryd.underlying3 (wf_nat p h)
theorem isKey_key (p:Nat):WideAt.IsKeyLit (key p):=trivial
def MapAt {α:Type} (E:Elem α) (w:World) (b n:Nat) (f:Nat→Option α):Prop :=
 ∃D,w.ownsMap Tryd.prog 3 E.R b n D∧Maps.size D=n∧(∀p,Maps.has D (key p)=(f p).isSome)∧(∀p a,f p=some a→E.ok a∧∀z,D.atKey (key p) z=E.dat a)∧(∀k,Maps.has D k=true→∃p,p<4096∧k=key p)
theorem keys_le (N:Nat):∀l:List Lit,l.Nodup→(∀k∈l,∃p,p<N∧k=key p)→l.length≤N:=by
 classical
 induction N with
 | zero =>
  intro l _ h
  cases l with
  | nil=>simp
  | cons a l=>obtain ⟨p,hp,_⟩:=h a (by simp);omega
 | succ N ih =>
  intro l hn h
  by_cases hm:key N∈l
  ·have:=ih (l.erase (key N)) (hn.erase _) (fun k hk=>by
    obtain ⟨hne,hk⟩:=(List.Nodup.mem_erase_iff hn).1 hk
    obtain ⟨p,hp,rfl⟩:=h k hk
    exact ⟨p,by have:p≠N:=fun e=>hne (by rw [e]);omega,rfl⟩)
   rw [List.length_erase_of_mem hm] at this
   omega
  ·have:=ih l hn (fun k hk=>by
    obtain ⟨p,hp,rfl⟩:=h k hk
    exact ⟨p,by have:p≠N:=fun e=>hm (e▸hk);omega,rfl⟩)
   omega
section
variable {α:Type} {E:Elem α} {w:World} {b n:Nat} {f:Nat→Option α}
theorem MapAt.lt (h:MapAt E w b n f):b<w.heap.size:=by
 obtain ⟨D,hown,_⟩:=h
 exact hown.lt
theorem MapAt.kept (h:MapAt E w b n f) {w':World} (hb:w'.heap[b]? = w.heap[b]?):MapAt E w' b n f:=by
 obtain ⟨D,⟨es,clock,h1,h2⟩,h⟩:=h
 exact ⟨D,⟨es,clock,hb.trans h1,h2⟩,h⟩
theorem MapAt.bound (h:MapAt E w b n f):n≤4096:=by
 obtain ⟨D,hown,rfl,_,_,hk⟩:=h
 obtain ⟨es,rfl,hp,hl⟩:=World.ownsMap.entries hown law3
 have:=keys_le 4096 (es.map (·.1)) (by
  unfold List.Nodup
  rw [List.pairwise_map]
  exact hp) (fun k hk'=>by
  obtain ⟨x,hx,rfl⟩:=List.mem_map.1 hk'
  exact hk _ (List.any_eq_true.2 ⟨x,hx,WideAt.sameKey_self (hl x hx)⟩))
 simpa [Maps.size] using this
theorem MapAt.made (E:Elem α) (w:World):MapAt E (w.alloc (.map #[] 0)) w.heap.size 0 (fun _=>none) :=
 ⟨.map [],World.ownsMap_made w _ _ _,rfl,fun _=>rfl,fun _ a (h:none=some a)=>(nomatch h),fun _ (h:false=true)=>(nomatch h)⟩
theorem MapAt.look (h:MapAt E w b n f) {t e:TypeId} (ht:Tryd.prog.underlying t=some (.map 3 e)) (z:α) (hz:(zeroValue e).run Tryd.prog w = .ok (E.enc z) w) (hzo:E.ok z) (p:Nat) (hp:p<4611686018427387904) :
  (Instr.lookup t (.map (some b)) (.int .i64 (p:Int)) false).run Tryd.prog w = .ok (E.enc ((f p).getD z)) w ∧
  (Instr.lookup t (.map (some b)) (.int .i64 (p:Int)) true).run Tryd.prog w = .ok (.tuple #[E.enc ((f p).getD z),.bool (f p).isSome]) w:=by
 obtain ⟨D,hown,_,hh,ha,_⟩:=h
 have hat:D.atKey (key p) (E.dat z)=E.dat ((f p).getD z)∧E.ok ((f p).getD z):=by
  cases hf:f p with
  | none=>exact ⟨atKey_of_not_has (by rw [hh p,hf];rfl) _,hzo⟩
  | some a=>exact ⟨(ha p a hf).2 _,(ha p a hf).1⟩
 constructor
 ·obtain ⟨v,ps,hrun,hv⟩:=hown.lookup law3 ht hz (E.read z hzo) (keyOf_key p hp)
  obtain ⟨a,hao,rfl,hd⟩:=E.inv _ _ _ hv
  rw [hat.1] at hd
  rw [hrun,E.inj _ _ hat.2 hao hd]
 ·obtain ⟨v,ps,hrun,hv⟩:=hown.look_ok law3 ht hz (E.read z hzo) (keyOf_key p hp)
  obtain ⟨a,hao,rfl,hd⟩:=E.inv _ _ _ hv
  rw [hat.1] at hd
  rw [hrun,E.inj _ _ hat.2 hao hd,hh p]
theorem MapAt.len (h:MapAt E w b n f) {t e:TypeId} (ht:Tryd.prog.underlying t=some (.map 3 e)) (ty:TypeId):(Builtin.len_ #[t] ty #[.map (some b)]).run Tryd.prog w = .ok (.int .i64 (n:Nat)) w:=by
 obtain ⟨D,hown,hs,_⟩:=h
 have:=hown.len ht ty
 rw [hs] at this
 exact this
theorem MapAt.store (h:MapAt E w b n f) {t e:TypeId} (ht:Tryd.prog.underlying t=some (.map 3 e)) (p:Nat) (hp:p<4096) (a:α) (hao:E.ok a) :
  ∃w',(Instr.mapUpdate t (.map (some b)) (.int .i64 (p:Int)) (E.enc a)).run Tryd.prog w = .ok () w'∧MapAt E w' b (if (f p).isSome then n else n+1) (fun q=>if q=p then some a else f q)∧w.mapTurned w' b:=by
 have hb:=h.bound
 obtain ⟨D,hown,hs,hh,ha,hk⟩:=h
 obtain ⟨w',hrun,hown',ht'⟩:=hown.store law3 ht (by unfold maxLen;omega) (keyOf_key p (by omega)) (E.read a hao)
 refine ⟨w',hrun,⟨D.put (key p) (E.dat a),?_,?_,?_,?_,?_⟩,ht'⟩
 ·obtain ⟨es,clock,h1,h2,h3,h4⟩:=hown'
  refine ⟨es,clock,h1,h2,?_,h4⟩
  have e1:es.size=Maps.size (D.put (key p) (E.dat a)):=by rw [h4];simp [Maps.size,length_sorted]
  rw [e1,size_put (hown.tidy law3),hh p,hs]
  exact Nat.le_refl _
 ·rw [size_put (hown.tidy law3),hh p,hs]
 ·intro q
  dsimp only
  by_cases hq:q=p
  ·subst hq
   rw [if_pos rfl,has_put_same hown.isMap (isKey_key q)]
   rfl
  ·rw [if_neg hq,has_put_other (key_ne hq)]
   exact hh q
 ·intro q c hq
  dsimp only at hq
  by_cases hqp:q=p
  ·subst hqp
   rw [if_pos rfl] at hq
   cases hq
   exact ⟨hao,fun z=>atKey_put_same hown.isMap (isKey_key q) _ _⟩
  ·rw [if_neg hqp] at hq
   exact ⟨(ha q c hq).1,fun z=>by rw [atKey_put_other (key_ne hqp)];exact (ha q c hq).2 z⟩
 ·intro k hk'
  by_cases hkp:k=key p
  ·exact ⟨p,hp,hkp⟩
  ·rw [has_put_other hkp] at hk'
   exact hk k hk'
theorem MapAt.alloc (h:MapAt E w b n f) (o:Obj):MapAt E (w.alloc o) b n f:=h.kept (Below.heap_alloc _ _ _ h.lt)
theorem MapAt.drewN (h:MapAt E w b n f) (m:Nat):MapAt E (w.drewN m) b n f:=h
theorem MapAt.ne_row (h:MapAt E w b n f) {g:Nat} {t:TypeId} {cs:List Value} (hr:Row w g t cs):b≠g:=by
 rintro rfl
 obtain ⟨D,⟨es,clock,h1,_⟩,_⟩:=h
 unfold Row at hr
 rw [hr] at h1
 cases h1
end
section
variable {α:Type} {E:Elem α} {w:World} {b n:Nat} {f:Nat→Option α} {ops:Array Oper} {rest:List Oper} {o:Oper} {a:Act} {Q:Exit→Act→World→Prop}
theorem wpList_lookMap (h:MapAt E w b n f) (m x:Operand) (t e:TypeId) (hgd:o.guard=none) (ho:o.op = .lookup t m x false) (ht:Tryd.prog.underlying t=some (.map 3 e)) (z:α) (hz:(zeroValue e).run Tryd.prog w = .ok (E.enc z) w) (hzo:E.ok z)
  (p:Nat) (hp:p<4611686018427387904) (hm:a.eval m = .map (some b)) (hx:a.eval x = .int .i64 (p:Int)) (hK:wpList Tryd.prog ops Q rest (a.put o.dst (E.enc ((f p).getD z))) w):wpList Tryd.prog ops Q (o :: rest) a w :=
 yB1 hgd _ w (by simp [execOp,ho,hm,hx,(h.look ht z hz hzo p hp).1]) hK
theorem wpList_lookMapOk (h:MapAt E w b n f) (m x:Operand) (t e:TypeId) (hgd:o.guard=none) (ho:o.op = .lookup t m x true) (ht:Tryd.prog.underlying t=some (.map 3 e)) (z:α) (hz:(zeroValue e).run Tryd.prog w = .ok (E.enc z) w) (hzo:E.ok z)
  (p:Nat) (hp:p<4611686018427387904) (hm:a.eval m = .map (some b)) (hx:a.eval x = .int .i64 (p:Int)) (hK:wpList Tryd.prog ops Q rest (a.put o.dst (.tuple #[E.enc ((f p).getD z),.bool (f p).isSome])) w):wpList Tryd.prog ops Q (o :: rest) a w :=
 yB1 hgd _ w (by simp [execOp,ho,hm,hx,(h.look ht z hz hzo p hp).2]) hK
theorem wpList_putMap (h:MapAt E w b n f) (m x y:Operand) (t e:TypeId) (hgd:o.guard=none) (ho:o.op = .mapUpdate t m x y) (ht:Tryd.prog.underlying t=some (.map 3 e)) (p:Nat) (hp:p<4096) (c:α) (hc:E.ok c)
  (hm:a.eval m = .map (some b)) (hx:a.eval x = .int .i64 (p:Int)) (hy:a.eval y=E.enc c)
  (hK:∀w',MapAt E w' b (if (f p).isSome then n else n+1) (fun q=>if q=p then some c else f q)→w.mapTurned w' b→wpList Tryd.prog ops Q rest (a.put o.dst undef) w'):wpList Tryd.prog ops Q (o :: rest) a w:=by
 obtain ⟨w',hrun,h1,h2⟩:=h.store ht p hp c hc
 exact wpList_skip' hgd w' (by simp [execOp,ho,hm,hx,hy,hrun]) (hK w' h1 h2)
end
theorem mapTurned_size {w w':World} {b:Nat} (h:w.mapTurned w' b):w'.heap.size=w.heap.size:=by
 obtain ⟨es,clock,es',clock',_,rfl⟩:=h
 simp [ChangeMaps.setBlock]
theorem wpList_putMap0 {α:Type} {E:Elem α} {w:World} {b n:Nat} {f:Nat→Option α} {ops:Array Oper} {rest:List Oper} {o:Oper} {a:Act} {Q:Exit→Act→World→Prop} (h:MapAt E w b n f) (m x y:Operand) (t e:TypeId) (hgd:o.guard=none) (hdst:o.dst=none) (ho:o.op = .mapUpdate t m x y) (ht:Tryd.prog.underlying t=some (.map 3 e)) (p:Nat) (hp:p<4096) (c:α) (hc:E.ok c)
  (hm:a.eval m = .map (some b)) (hx:a.eval x = .int .i64 (p:Int)) (hy:a.eval y=E.enc c)
  (hK:∀w',MapAt E w' b (if (f p).isSome then n else n+1) (fun q=>if q=p then some c else f q)→w.mapTurned w' b→wpList Tryd.prog ops Q rest a w'):wpList Tryd.prog ops Q (o :: rest) a w :=
 wpList_putMap h m x y t e hgd ho ht p hp c hc hm hx hy (fun w' h1 h2=>by rw [hdst];exact hK w' h1 h2)
theorem zeroSec (w:World):(zeroValue 114).run Tryd.prog w = .ok (secV (List.replicate 64 0)) w:=by kernel_rfl
theorem zeroInt (w:World):(zeroValue 3).run Tryd.prog w = .ok (.int .i64 0) w:=by kernel_rfl
theorem sec_zero:Sec (List.replicate 64 0):=⟨by decide,by decide⟩
end Go.Proofs.YtpkkkkomdblpoaaDoor

namespace Go.Proofs.YtpkkkkomdblpoaaDoor
structure Wr where
 dev:Nat
 step:Nat
 place:Nat
 b:List Nat
def zeros:List Nat:=List.replicate 64 0
def lastR:List Wr→Nat→Option Nat
 | [],_=>none
 | x :: r,p=>if x.place=p then some r.length else lastR r p
def lastIdx (l:List Wr) (p:Nat):Option Nat:=lastR l.reverse p
theorem lastIdx_snoc (l:List Wr) (x:Wr) (p:Nat):lastIdx (l++[x]) p=if x.place=p then some l.length else lastIdx l p:=by
 simp [lastIdx,lastR]
theorem lastR_lt:∀(l:List Wr) (p j:Nat),lastR l p=some j→j<l.length
 | [],_,_,h=>by simp [lastR] at h
 | x :: r,p,j,h=>by
  unfold lastR at h
  split at h
  ·simp at h;simp;omega
  ·have:=lastR_lt r p j h;simp;omega
theorem lastIdx_lt {l:List Wr} {p j:Nat} (h:lastIdx l p=some j):j<l.length:=by
 have:=lastR_lt _ _ _ h
 simpa using this
def lastAt (l:List Wr) (p:Nat):Option (List Nat):=(lastIdx l p).bind fun j=>(l[j]?).map (·.b)
theorem lastAt_nil (p:Nat):lastAt [] p=none:=rfl
theorem lastAt_snoc (l:List Wr) (x:Wr) (p:Nat):lastAt (l++[x]) p=if x.place=p then some x.b else lastAt l p:=by
 unfold lastAt
 rw [lastIdx_snoc]
 by_cases h:x.place=p
 ·simp [h]
 ·rw [if_neg h,if_neg h]
  cases hl:lastIdx l p with
  | none=>rfl
  | some j=>simp [List.getElem?_append_left (lastIdx_lt hl)]
structure Pl where
 sh:List (Bool×Nat)
 fl:Nat→List (List Nat)
 wts:List Wr
 on:Bool
 fuse:Int
 steps:Nat
 clock:Int
def Pl.n (m:Pl):Nat:=m.sh.length
def Pl.tape (m:Pl) (i:Nat):Bool:=(m.sh.getD i (false,0)).1
def Pl.size (m:Pl) (i:Nat):Nat:=(m.sh.getD i (false,0)).2
def Pl.wt (m:Pl) (i:Nat):List Wr:=m.wts.filter fun x=>x.dev == i
def Pl.len (m:Pl) (i:Nat):Nat:=if m.tape i then (m.fl i).length+(m.wt i).length else m.size i
def Pl.rd (m:Pl) (i p:Nat):List Nat:=(lastAt (m.wt i) p).getD ((m.fl i).getD p zeros)
def lay (tape:Bool) (fl:List (List Nat)) (p:Nat) (b:List Nat):List (List Nat):=if tape then fl++[b] else fl.set p b
def layAll (tape:Bool) (fl:List (List Nat)) (l:List Wr):List (List Nat):=l.foldl (fun f x=>lay tape f x.place x.b) fl
structure Pl.WF (m:Pl):Prop where
 few:m.sh.length≤12
 pos:1≤m.sh.length
 sizes:∀i,i<m.sh.length→1≤m.size i∧m.size i≤4096
 secs:∀i,∀s∈m.fl i,s.length=64∧∀c∈s,c<256
 disk:∀i,i<m.sh.length→m.tape i=false→(m.fl i).length=m.size i
 tapes:∀i,i<m.sh.length→m.tape i=true→(m.fl i).length+(m.wt i).length≤m.size i∧∀j x,(m.wt i)[j]? = some x→x.place=(m.fl i).length+j
 wsec:∀x∈m.wts,x.b.length=64∧∀c∈x.b,c<256
 wdev:∀x∈m.wts,x.dev<m.sh.length∧x.place<m.size x.dev∧x.step≤m.steps
 order:m.wts.Pairwise fun x y=>x.step<y.step
 count:∀i,i<m.sh.length→m.tape i=true
 fuse0 : -9223372036854775808≤m.fuse
 fuse1:m.fuse≤9223372036854775807
 clock0:0≤m.clock
 clock1:m.clock≤1099511627776
def Pl.stepOk (m:Pl):Bool := !(m.fuse == 0)
def Pl.step (m:Pl):Pl:=if m.fuse=0 then { m with on:=false,fuse := -1 } else { m with fuse:=if 0<m.fuse then m.fuse - 1 else m.fuse,steps:=m.steps+1 }
def Pl.wait (m:Pl) (i p:Nat) (b:List Nat):Pl:={ m with wts:=m.wts++[⟨i,m.steps,p,b⟩] }
def upd (f:Nat→List (List Nat)) (i:Nat) (x:List (List Nat)):Nat→List (List Nat):=fun j=>if j=i then x else f j
def Pl.flushed (m:Pl) (i:Nat):Pl:={ m with fl:=upd m.fl i (layAll (m.tape i) (m.fl i) (m.wt i)),wts:=m.wts.filter fun x => !(x.dev == i) }
theorem Pl.wt_wait (m:Pl) (i p:Nat) (b:List Nat) (j:Nat):(m.wait i p b).wt j=if i=j then m.wt j++[⟨i,m.steps,p,b⟩] else m.wt j:=by
 unfold Pl.wt Pl.wait
 by_cases h:i=j
 ·simp [List.filter_append,h]
 ·simp [List.filter_append,h]
theorem Pl.wt_flushed (m:Pl) (i j:Nat):(m.flushed i).wt j=if j=i then [] else m.wt j:=by
 unfold Pl.wt Pl.flushed
 simp only [List.filter_filter]
 by_cases h:j=i
 ·subst h
  simp
 ·rw [if_neg h]
  apply List.filter_congr
  intro x _
  by_cases hx:x.dev=j
  ·simp [hx,h]
  ·simp [hx]
end Go.Proofs.YtpkkkkomdblpoaaDoor

namespace Go.Proofs.YtpkkkkomdblpoaaDoor
open Go.RowKit Go.Maps
abbrev Colour:=Nat×Nat
structure Ch (S:Nat→Prop) (w w':World):Prop where
 os:w'.os=w.os
 tape:w'.tape=w.tape
 output:w'.output=w.output
 size:w.heap.size≤w'.heap.size
 block:∀k,k<w.heap.size→¬ S k→w'.heap[k]? = w.heap[k]?
theorem Ch.refl (S:Nat→Prop) (w:World):Ch S w w:=⟨rfl,rfl,rfl,Nat.le_refl _,fun _ _ _=>rfl⟩
theorem Ch.trans {S:Nat→Prop} {a b c:World} (h:Ch S a b) (k:Ch S b c):Ch S a c :=
 ⟨k.os.trans h.os,k.tape.trans h.tape,k.output.trans h.output,Nat.le_trans h.size k.size,fun i hi hn=>(k.block i (Nat.lt_of_lt_of_le hi h.size) hn).trans (h.block i hi hn)⟩
theorem Ch.trans' {S S':Nat→Prop} {a b c:World} (h:Ch S a b) (k:Ch S' b c) (hs:∀i,i<a.heap.size→S' i→S i):Ch S a c :=
 ⟨k.os.trans h.os,k.tape.trans h.tape,k.output.trans h.output,Nat.le_trans h.size k.size,fun i hi hn=>(k.block i (Nat.lt_of_lt_of_le hi h.size) (fun hs'=>hn (hs i hi hs'))).trans (h.block i hi hn)⟩
theorem Ch.mono {S S':Nat→Prop} {w w':World} (h:Ch S w w') (hs:∀i,i<w.heap.size→S i→S' i):Ch S' w w' :=
 ⟨h.os,h.tape,h.output,h.size,fun i hi hn=>h.block i hi (fun hs'=>hn (hs i hi hs'))⟩
theorem Ch.of_below {S:Nat→Prop} {w w':World} (h:Below w.heap.size w w'):Ch S w w':=⟨h.os,h.tape,h.output,h.size,fun k hk _=>h.block k hk⟩
theorem Ch.below {S:Nat→Prop} {B:Nat} {w w':World} (h:Ch S w w') (hB:B≤w.heap.size) (hS:∀i,i<B→¬ S i):Below B w w' :=
 ⟨h.os,h.tape,h.output,h.size,fun k hk=>h.block k (by omega) (hS k hk)⟩
theorem Ch.drewN {S:Nat→Prop} {a w:World} (h:Ch S a w) (n:Nat):Ch S a (w.drewN n):=⟨h.os,h.tape,h.output,h.size,h.block⟩
theorem Ch.setCell {S:Nat→Prop} {a w:World} (h:Ch S a w) {g:Nat} (hg:S g∨a.heap.size≤g) (i:Nat) (v:Value):Ch S a (w.setCell ⟨g,i,none⟩ v) :=
 ⟨h.os,h.tape,h.output,by simpa using h.size,fun k hk hn=>(Below.heap_setCell w _ v k (by rintro rfl;rcases hg with hg|hg;exact hn hg;omega)).trans (h.block k hk hn)⟩
theorem Ch.setRow {S:Nat→Prop} {a w:World} (h:Ch S a w) {g:Nat} (hg:S g∨a.heap.size≤g) (xs:Array Value):Ch S a (w.setRow g xs) :=
 ⟨h.os,h.tape,h.output,by simpa [World.setRow] using h.size,fun k hk hn=>(Go.setRow_other w g k xs (by rintro rfl;rcases hg with hg|hg;exact hn hg;omega)).trans (h.block k hk hn)⟩
theorem Ch.alloc {S:Nat→Prop} {a w:World} (h:Ch S a w) (o:Obj):Ch S a (w.alloc o) :=
 ⟨h.os,h.tape,h.output,by have:=h.size;simp;omega,fun k hk hn=>(Below.heap_alloc w o k (Nat.lt_of_lt_of_le hk h.size)).trans (h.block k hk hn)⟩
theorem Ch.grown {S:Nat→Prop} {a w w':World} (h:Ch S a w) {row:Option Nat} (hg:w.grownBy w' row) (hr:∀k,row=some k→S k∨a.heap.size≤k):Ch S a w' :=
 ⟨hg.os.trans h.os,hg.tape.trans h.tape,hg.output.trans h.output,Nat.le_trans h.size hg.size,fun k hk hn=>(hg.block k (Nat.lt_of_lt_of_le hk h.size) (fun e=>by rcases hr k e.symm with hs|hs;exact hn hs;omega)).trans (h.block k hk hn)⟩
theorem Ch.row {S:Nat→Prop} {w w':World} (h:Ch S w w') {k:Nat} {t:TypeId} {cs:List Value} (hk:¬ S k) (hr:Row w k t cs):Row w' k t cs:=by
 unfold Row
 rw [h.block k hr.lt hk]
 exact hr
theorem Ch.cell {S:Nat→Prop} {w w':World} (h:Ch S w w') {b i:Nat} {v:Value} (hb:¬ S b) (hc:w.cell? ⟨b,i,none⟩=some v):w'.cell? ⟨b,i,none⟩=some v:=by
 rw [←hc]
 exact World.cell?_of_block (w:=w) (h.block b (block_lt_of_cell hc) hb)
def yC5 (x:Wr):List Value:=.int .i64 (x.step:Nat) :: .int .i64 (x.place:Nat) :: yA0 x.b
def yC0 (l:List Wr):List Value:=l.flatMap yC5
def FlIn (w:World) (b:Nat) (tape:Bool) (fl:List (List Nat)):Prop :=
 ∃f n,MapAt secs w b n f∧(∀p,p<fl.length→(f p).getD zeros=fl.getD p zeros)∧(tape=true→n=fl.length∧∀p,(f p).isSome=decide (p<fl.length))
def LtIn (w:World) (b:Nat) (wt:List Wr):Prop := ∃n,MapAt ints w b n fun p=>(lastIdx wt p).map fun j=>(j:Int)
def WtIn (w:World) (c:Nat→Colour) (k:Colour) (v:Value) (wt:List Wr):Prop:=w.ownsRow 0 116 66 v wt.length (yC0 wt)∧∀b,v.ownBlock=some b→c b=k
def DevIn (w:World) (c:Nat→Colour) (k:Colour) (g:Nat) (tape:Bool) (size:Nat) (fl:List (List Nat)) (wt:List Wr):Prop :=
 ∃bm bl v,Row w g 125 [.bool tape,.int .i64 (size:Nat),.map (some bm),v,.map (some bl)]∧c g=k∧c bm=k∧c bl=k∧bm≠bl∧FlIn w bm tape fl∧WtIn w c k v wt∧LtIn w bl wt
theorem FlIn.kept {w w':World} {b:Nat} {tape:Bool} {fl:List (List Nat)} (h:FlIn w b tape fl) (hb:w'.heap[b]? = w.heap[b]?):FlIn w' b tape fl:=by
 obtain ⟨f,n,h1,h2⟩:=h
 exact ⟨f,n,h1.kept hb,h2⟩
theorem LtIn.kept {w w':World} {b:Nat} {wt:List Wr} (h:LtIn w b wt) (hb:w'.heap[b]? = w.heap[b]?):LtIn w' b wt:=by
 obtain ⟨n,h1⟩:=h
 exact ⟨n,h1.kept hb⟩
theorem FlIn.lt {w:World} {b:Nat} {tape:Bool} {fl:List (List Nat)} (h:FlIn w b tape fl):b<w.heap.size:=by
 obtain ⟨f,n,h1,_⟩:=h
 exact h1.lt
theorem LtIn.lt {w:World} {b:Nat} {wt:List Wr} (h:LtIn w b wt):b<w.heap.size:=by
 obtain ⟨n,h1⟩:=h
 exact h1.lt
theorem WtIn.kept {w w':World} {c c':Nat→Colour} {k:Colour} {v:Value} {wt:List Wr} (h:WtIn w c k v wt) (hb:∀b,b<w.heap.size→c b=k→w'.heap[b]? = w.heap[b]?∧c' b=k):WtIn w' c' k v wt:=by
 obtain ⟨⟨hl,h1⟩,h2⟩:=h
 rcases h1 with ⟨rfl,hn⟩|⟨g,cap,cur,rfl,h0,hg,h3⟩
 ·exact ⟨⟨hl,Or.inl ⟨rfl,hn⟩⟩,fun b hb=>by cases hb⟩
 ·have hk:=hb g (Array.getElem?_eq_some_iff.1 hg).1 (h2 g rfl)
  exact ⟨⟨hl,Or.inr ⟨g,cap,cur,rfl,h0,hk.1.trans hg,h3⟩⟩,fun b hb=>by cases hb;exact hk.2⟩
theorem DevIn.kept {w w':World} {c c':Nat→Colour} {k:Colour} {g:Nat} {tape:Bool} {size:Nat} {fl:List (List Nat)} {wt:List Wr} (h:DevIn w c k g tape size fl wt)
  (hb:∀b,b<w.heap.size→c b=k→w'.heap[b]? = w.heap[b]?∧c' b=k):DevIn w' c' k g tape size fl wt:=by
 obtain ⟨bm,bl,v,hr,hg,hm,hl,hne,h1,h2,h3⟩:=h
 refine ⟨bm,bl,v,?_,(hb g hr.lt hg).2,(hb bm h1.lt hm).2,(hb bl h3.lt hl).2,hne,h1.kept (hb bm h1.lt hm).1,h2.kept hb,h3.kept (hb bl h3.lt hl).1⟩
 unfold Row
 rw [(hb g hr.lt hg).1]
 exact hr
def yJ1 (db cap:Nat) (m:Pl):List Value:=[.slice (some ⟨db,0,none⟩) m.n cap,.bool m.on,.int .i64 m.fuse,.int .i64 (m.steps:Nat),.int .i64 m.clock]
structure PlantAt (w:World) (c:Nat→Colour) (t g db cap:Nat) (gs:Nat→Nat) (m:Pl):Prop where
 row:Row w g 81 (yJ1 db cap m)
 cg:c g=(t,0)
 cd:c db=(t,0)
 ne:db≠g
 lt:db<w.heap.size
 cap:m.n≤cap
 cell:∀i,i<m.n→w.cell? ⟨db,i,none⟩=some (.pointer (some ⟨gs i,0,none⟩))
 dev:∀i,i<m.n→DevIn w c (t,i+1) (gs i) (m.tape i) (m.size i) (m.fl i) (m.wt i)
def PlantIn (w:World) (c:Nat→Colour) (t g:Nat) (m:Pl):Prop := ∃(db cap:Nat) (gs:Nat→Nat),PlantAt w c t g db cap gs m
theorem PlantIn.kept {w w':World} {c c':Nat→Colour} {t g:Nat} {m:Pl} (h:PlantIn w c t g m) (hsz:w.heap.size≤w'.heap.size) (hb:∀b,b<w.heap.size→(c b).1=t→w'.heap[b]? = w.heap[b]?∧c' b=c b):PlantIn w' c' t g m:=by
 obtain ⟨db,cap,gs,h⟩:=h
 refine ⟨db,cap,gs,⟨?_,?_,?_,h.ne,Nat.lt_of_lt_of_le h.lt hsz,h.cap,fun i hi => ?_,fun i hi=>(h.dev i hi).kept fun b hlt hk => ?_⟩⟩
 ·unfold Row
  rw [(hb g h.row.lt (by rw [h.cg])).1]
  exact h.row
 ·rw [(hb g h.row.lt (by rw [h.cg])).2,h.cg]
 ·rw [(hb db h.lt (by rw [h.cd])).2,h.cd]
 ·rw [←h.cell i hi]
  exact World.cell?_of_block (hb db h.lt (by rw [h.cd])).1
 ·have:=hb b hlt (by rw [hk])
  exact ⟨this.1,this.2.trans hk⟩
theorem Ch.one {g:Nat} {w w':World} (h:Ch (· = g) w w') (k:Nat) (hk:k<w.heap.size) (hne:k≠g):w'.heap[k]? = w.heap[k]?:=h.block k hk hne
theorem PlantAt.head {w w':World} {c:Nat→Colour} {t g db cap:Nat} {gs:Nat→Nat} {m:Pl} (h:PlantAt w c t g db cap gs m) (m':Pl) (h1:m'.sh=m.sh) (h2:m'.fl=m.fl) (h3:m'.wts=m.wts)
  (hc:Ch (· = g) w w') (hr:Row w' g 81 (yJ1 db cap m')):PlantAt w' c t g db cap gs m':=by
 have hn:m'.n=m.n:=by unfold Pl.n;rw [h1]
 refine ⟨hr,h.cg,h.cd,h.ne,Nat.lt_of_lt_of_le h.lt hc.size,by rw [hn];exact h.cap,fun i hi => ?_,fun i hi => ?_⟩
 ·rw [←h.cell i (by omega)]
  exact World.cell?_of_block (hc.one db h.lt h.ne)
 ·have e1:m'.tape i=m.tape i:=by unfold Pl.tape;rw [h1]
  have e2:m'.size i=m.size i:=by unfold Pl.size;rw [h1]
  have e3:m'.wt i=m.wt i:=by unfold Pl.wt;rw [h3]
  rw [e1,e2,e3,h2]
  refine (h.dev i (by omega)).kept fun b hb hk=>⟨hc.one b hb ?_,hk⟩
  rintro rfl
  rw [h.cg] at hk
  simp at hk
theorem PlantAt.device {w w':World} {c c':Nat→Colour} {t g db cap:Nat} {gs:Nat→Nat} {m:Pl} (h:PlantAt w c t g db cap gs m) (m':Pl) (i:Nat) (h1:m'.sh=m.sh) (h2:∀j,j≠i→m'.fl j=m.fl j∧m'.wt j=m.wt j)
  (h3:m'.on=m.on∧m'.fuse=m.fuse∧m'.steps=m.steps∧m'.clock=m.clock) (hc:Ch (fun b=>c b=(t,i+1)) w w') (hcc:∀b,b<w.heap.size→c' b=c b)
  (hd:i<m.n→DevIn w' c' (t,i+1) (gs i) (m'.tape i) (m'.size i) (m'.fl i) (m'.wt i)):PlantAt w' c' t g db cap gs m':=by
 have hn:m'.n=m.n:=by unfold Pl.n;rw [h1]
 have hne:∀b,c b=(t,0)→¬ c b=(t,i+1):=fun b e1 e2=>by rw [e1] at e2;simp at e2
 refine ⟨?_,by rw [hcc g h.row.lt];exact h.cg,by rw [hcc db h.lt];exact h.cd,h.ne,Nat.lt_of_lt_of_le h.lt hc.size,by rw [hn];exact h.cap,fun j hj => ?_,fun j hj => ?_⟩
 ·have:=hc.row (hne g h.cg) h.row
  unfold yJ1 at this ⊢
  rw [hn,h3.1,h3.2.1,h3.2.2.1,h3.2.2.2]
  exact this
 ·rw [←h.cell j (by omega)]
  exact World.cell?_of_block (hc.block db h.lt (hne db h.cd))
 ·by_cases hji:j=i
  ·subst hji
   exact hd (by omega)
  ·have e1:m'.tape j=m.tape j:=by unfold Pl.tape;rw [h1]
   have e2:m'.size j=m.size j:=by unfold Pl.size;rw [h1]
   rw [e1,e2,(h2 j hji).1,(h2 j hji).2]
   refine (h.dev j (by omega)).kept fun b hb hk=>⟨hc.block b hb ?_,(hcc b hb).trans hk⟩
   intro e
   rw [e] at hk
   simp at hk
   omega
end Go.Proofs.YtpkkkkomdblpoaaDoor

namespace Go.Proofs.YtpkkkkomdblpoaaDoor
open Go
section
variable {P:Program} {ops:Array Oper} {md:Region.Mode} {C:World→Prop}
def headAny (P:Program) (md:Region.Mode) (ops:Array Oper) (C:World→Prop) (n:Nat) (L:Array Bool→Act→Prop):Nat→Array Bool→Act→Prop
 | 0,listed,a=>L listed a
 | f+1,listed,a=>Region.ready md ops listed≠[]∧∀i∈Region.ready md ops listed,i<n∧qOp P ops C i (headAny P md ops C n L f (listed.setIfInBounds i true)) a
theorem headAny_wp {n g:Nat} {L:Array Bool→Act→Prop} {Q:Exit→Act→World→Prop} (hL:∀listed a w,C w→L listed a→wpAny P md ops Q g listed a w) :
  ∀(f:Nat) (listed:Array Bool) (a:Act) (w:World),C w→headAny P md ops C n L f listed a→wpAny P md ops Q (f+g) listed a w:=by
 intro f
 induction f with
 | zero =>
  intro listed a w hw h
  rw [Nat.zero_add]
  exact hL _ _ _ hw h
 | succ f ih =>
  intro listed a w hw h
  have e:f+1+g=f+g+1:=by omega
  rw [e]
  exact ⟨fun h0=>absurd h0 h.1,fun i hi=>wpOp_of_qOp hw (fun a' w' hw' h'=>ih _ a' w' hw' h') (h.2 i hi).2⟩
theorem headAny_take {n i:Nat} {oi:Oper} {v:Value} {L:Array Bool→Act→Prop} (hi:ops[i]? = some oi) (hsel:∀(j:Nat) (o:Oper) cs b,ops[j]? = some o→o.op≠.select cs b)
  (hs:Region.sinkB md ops n=true) (hc:Region.chainB md ops n=true) (hn:n<ops.size) (hin:i<n)
  (hdone:∀listed a,L listed a→∀j∈Region.ready md ops listed,n≤j) (f:Nat) :
  ∀(listed:Array Bool) (a:Act),HeadInv md ops n listed →
   (∀j oj,ops[j]? = some oj→j≠i→listed.getD j true=false→(∀e∈oj.after,Region.binds md e=true→e.on≠i)→oi.apart ops oj=true) →
   i∈Region.ready md ops listed→YieldsIn P ops C oi v a →
   headAny P md ops C n L f (listed.setIfInBounds i true) (a.put oi.dst v)→headAny P md ops C n L (f+1) listed a:=by
 have small:∀(listed:Array Bool),HeadInv md ops n listed→i∈Region.ready md ops listed→∀j∈Region.ready md ops listed,j<n:=by
  intro listed inv hr j hj
  apply Nat.lt_of_not_le
  intro hle
  exact tail_waits hs hc hn inv _ i rfl hin (mem_ready.1 hr).1 j hle hj
 induction f with
 | zero =>
  intro listed a inv _ hr hy H
  refine ⟨List.ne_nil_of_mem hr,fun j hj=>⟨small listed inv hr j hj,?_⟩⟩
  by_cases hji:j=i
  ·subst hji
   exact hy.qOp hi H
  ·have h1:=hdone _ _ H j (ready_mono hj hji)
   have h2:=small listed inv hr j hj
   omega
 | succ f ih =>
  intro listed a inv hfree hr hy H
  refine ⟨List.ne_nil_of_mem hr,fun j hj=>⟨small listed inv hr j hj,?_⟩⟩
  by_cases hji:j=i
  ·subst hji
   exact hy.qOp hi H
  ·obtain ⟨hjun,oj,hoj,hall⟩:=mem_ready.1 hj
   have hnot:∀e∈oj.after,Region.binds md e=true→e.on≠i:=by
    intro e he hb heq
    have h1:=hall e he hb
    rw [heq,getD_both (mem_ready.1 hr).1] at h1
    exact Bool.false_ne_true h1
   have step:=qOp_put hoj (hfree j oj hoj hji hjun hnot) (fun cs b=>hsel i oi cs b hi) (fun cs b=>hsel j oj cs b hoj) hy (H.2 j (ready_mono hj hji)).2
   refine qOp_mono (fun a' h3 => ?_) step
   refine ih (listed.setIfInBounds j true) a' (inv.set hj (small listed inv hr j hj)) ?_ (ready_mono hr (Ne.symm hji)) h3.1 ?_
   ·intro k ok hk hki hun hno
    refine hfree k ok hk hki ?_ hno
    by_cases hjk:j=k
    ·rw [←hjk];exact hjun
    ·rwa [getD_set_ne true hjk] at hun
   ·rw [Array.setIfInBounds_comm _ _ hji]
    exact h3.2
theorem headAny_text {n g:Nat} {R:Act→Prop} (hsel:Region.noSelect ops=true) (hs:Region.sinkB md ops n=true) (hc:Region.chainB md ops n=true) (hn:n<ops.size) (l:List Oper) :
  ∀(k:Nat) (listed:Array Bool) (a:Act),(∀j,j<l.length→l[j]? = ops[k+j]?)→k+l.length=n→HeadInv md ops n listed →
  Region.lexHead md ops g l.length k listed=true→wpQuiet P ops C R l a →
  headAny P md ops C n (fun listed' a'=>Region.seqB md ops g n listed'=true∧R a') l.length listed a:=by
 induction l with
 | nil =>
  intro k listed a _ hk _ hB h
  have e:k=n:=by simpa using hk
  subst e
  exact ⟨hB,h⟩
 | cons o l ih =>
  intro k listed a hl hk inv hB h
  have h0:ops[k]? = some o:=by simpa using (hl 0 (by simp)).symm
  simp only [List.length_cons] at hk
  simp only [List.length_cons,Region.lexHead,Bool.and_eq_true] at hB
  have hr:k∈Region.ready md ops listed:=by simpa using hB.1.1
  have hq:qOp P ops C k (wpQuiet P ops C R l) a:=by unfold qOp;simp only [h0];exact h
  obtain ⟨v,hy,hK⟩:=yieldsIn_of_qOp h0 hq
  refine headAny_take h0 (Region.noSelect_spec hsel) hs hc hn (by omega) (fun listed' a' hL=>seqB_ready hL.1) l.length listed a inv (Region.free_spec h0 hB.1.2) hr hy ?_
  refine ih (k+1) _ _ (fun j hj => ?_) (by omega) (inv.set hr (by omega)) hB.2 hK
  have:=hl (j+1) (by simp;omega)
  simpa [Nat.add_assoc,Nat.add_comm 1 j] using this
theorem wp_region_head {id:Nat} {Q:Exit→Act→World→Prop} {a:Act} {w:World} {l:List Oper} (n:Nat) (hm:P.follows .mixedOrders=true) (hB:Region.lexTailB .any l.toArray n=true)
  (hC:C { w with drawn:=w.drawn+1 })
  (h:wpQuiet P l.toArray C (fun a' => ∀w',C w'→wpList P l.toArray Q (l.drop n) a' w') (l.take n) a):(Code.region id l.toArray true).wp P Q a w:=by
 simp only [Region.lexTailB,Bool.and_eq_true,decide_eq_true_eq] at hB
 obtain ⟨⟨⟨⟨hsel,hn⟩,hs⟩,hc⟩,hlex⟩:=hB
 have hn':n<l.length:=by simpa using hn
 have htl:(l.take n).length=n:=by simp;omega
 have hdl:(l.drop n).length=l.toArray.size - n:=by simp
 have inv0:HeadInv .any l.toArray n (Array.replicate l.toArray.size false) :=
  ⟨by simp,fun j oj _ hl=>(by rw [getD_replicate_false] at hl;cases hl),fun t _ ht=>getD_in (by simpa using ht) (getD_replicate_false _ _)⟩
 have H:=headAny_text (md:=.any) (g:=l.toArray.size - n) hsel hs hc hn (l.take n) 0 _ a (fun j hj=>by
  have hj':j<n:=by rw [htl] at hj;exact hj
  simp [hj']) (by simpa using htl) inv0 (by rw [htl];exact hlex) h
 refine wp_region_any hm ?_
 have:=headAny_wp (Q:=Q) (g:=l.toArray.size - n) (fun listed a' w' hw' hL=>by
  have:=wpAny_of_seq (md:=.any) (Q':=Q) (l.drop n) n listed a' w' (fun j=>by simp [List.getElem?_drop]) (by rw [hdl];exact hL.1) (hL.2 w' hw')
  rwa [hdl] at this) _ _ _ _ hC H
 rw [htl,show n+(l.toArray.size - n)=l.toArray.size by omega] at this
 exact this
theorem yD4 {id:Nat} {Q:Exit→Act→World→Prop} {a:Act} {w:World} {l:List Oper} (n:Nat) (hm:P.follows .mixedOrders=true) (hB:Region.lexTailB .any l.toArray n=true)
  (h:wpQuiet P l.toArray (fun w' => ∃n,w'=w.drewN n) (fun a' => ∀w',(∃n,w'=w.drewN n)→wpList P l.toArray Q (l.drop n) a' w') (l.take n) a):(Code.region id l.toArray true).wp P Q a w :=
 wp_region_head (C:=fun w' => ∃n,w'=w.drewN n) n hm hB ⟨1,rfl⟩ h
end
end Go.Proofs.YtpkkkkomdblpoaaDoor



namespace Go.Proofs.YtpkkkkomdblpoaaDoor
open Go.RowKit Go.Maps
abbrev ptr (g:Nat):Value:=.pointer (some ⟨g,0,none⟩)
theorem on_cells (w:World) (g:Nat) (b:Bool) (c1:w.cell? ⟨g,1,none⟩=some (.bool b)):Calls Tryd.prog 26 #[ptr g] w fun e w'=>e = .returned (.bool b)∧w'=w:=by
 go_enter Tryd.func26,Tryd.ntmps26
 go_wp2
 go_ret
 exact ⟨rfl,rfl⟩
theorem device_in (w:World) (g db n cap gi i:Nat) (c0:w.cell? ⟨g,0,none⟩=some (.slice (some ⟨db,0,none⟩) n cap)) (hi:i<n) (ci:w.cell? ⟨db,i,none⟩=some (ptr gi)) :
  Calls Tryd.prog 54 #[ptr g,.int .i64 (i:Int)] w fun e w'=>e = .returned (ptr gi)∧w'=w:=by
 have h1:decide ((i:Int)<0)=false:=by simp
 have h2:decide ((n:Int)≤(i:Int))=false:=by simp;omega
 go_enter Tryd.func54,Tryd.ntmps54
 go_wp2
 go_ret
 exact ⟨rfl,rfl⟩
theorem device_out (w:World) (g db n cap:Nat) (d:Int) (c0:w.cell? ⟨g,0,none⟩=some (.slice (some ⟨db,0,none⟩) n cap)) (hd:d<0∨(n:Int)≤d) :
  Calls Tryd.prog 54 #[ptr g,.int .i64 d] w fun e w'=>e = .returned (.pointer none)∧w'=w:=by
 by_cases h0:d<0
 ·have h1:decide (d<0)=true:=by simpa using h0
  go_enter Tryd.func54,Tryd.ntmps54
  go_wp2
  go_ret
  exact ⟨rfl,rfl⟩
 ·have h1:decide (d<0)=false:=by simpa using h0
  have h2:decide ((n:Int)≤d)=true:=by simp;omega
  go_enter Tryd.func54,Tryd.ntmps54
  go_wp2
  go_ret
  exact ⟨rfl,rfl⟩
theorem step_off (w:World) (g:Nat) (c2:w.cell? ⟨g,2,none⟩=some (.int .i64 0)) (f:∀i,w.frozen? ⟨g,i,none⟩=false) (x:Value) (c1:w.cell? ⟨g,1,none⟩=some x) :
  Calls Tryd.prog 56 #[ptr g] w fun e w'=>e = .returned (.bool false)∧w'=(w.setCell ⟨g,1,none⟩ (.bool false)).setCell ⟨g,2,none⟩ (.int .i64 (-1)):=by
 go_enter Tryd.func56,Tryd.ntmps56
 go_wp2
 go_ret
 exact ⟨rfl,rfl⟩
theorem step_fuse (w:World) (g:Nat) (fu st:Int) (c2:w.cell? ⟨g,2,none⟩=some (.int .i64 fu)) (c3:w.cell? ⟨g,3,none⟩=some (.int .i64 st)) (f:∀i,w.frozen? ⟨g,i,none⟩=false) (h0:0<fu) (h1:fu≤9223372036854775807) (h2:0≤st) (h3:st<4611686018427387904) :
  Calls Tryd.prog 56 #[ptr g] w fun e w'=>e = .returned (.bool true)∧w'=(w.setCell ⟨g,2,none⟩ (.int .i64 (fu - 1))).setCell ⟨g,3,none⟩ (.int .i64 (st+1)):=by
 have e1:(fu == 0)=false:=by simp;omega
 have e2:decide (0<fu)=true:=by simpa using h0
 go_enter Tryd.func56,Tryd.ntmps56
 go_wp2
 go_ret
 exact ⟨rfl,rfl⟩
theorem step_none (w:World) (g:Nat) (fu st:Int) (c2:w.cell? ⟨g,2,none⟩=some (.int .i64 fu)) (c3:w.cell? ⟨g,3,none⟩=some (.int .i64 st)) (f:∀i,w.frozen? ⟨g,i,none⟩=false) (h0:fu<0) (h2:0≤st) (h3:st<4611686018427387904) :
  Calls Tryd.prog 56 #[ptr g] w fun e w'=>e = .returned (.bool true)∧w'=w.setCell ⟨g,3,none⟩ (.int .i64 (st+1)):=by
 have e1:(fu == 0)=false:=by simp;omega
 have e2:decide (0<fu)=false:=by simp;omega
 go_enter Tryd.func56,Tryd.ntmps56
 go_wp2
 go_ret
 exact ⟨rfl,rfl⟩
section
variable {w:World} {c:Nat→Colour} {t g db cap:Nat} {gs:Nat→Nat} {m:Pl}
theorem PlantAt.c0 (h:PlantAt w c t g db cap gs m):w.cell? ⟨g,0,none⟩=some (.slice (some ⟨db,0,none⟩) m.n cap):=h.row.at 0 _ rfl
theorem PlantAt.c1 (h:PlantAt w c t g db cap gs m):w.cell? ⟨g,1,none⟩=some (.bool m.on):=h.row.at 1 _ rfl
theorem PlantAt.c2 (h:PlantAt w c t g db cap gs m):w.cell? ⟨g,2,none⟩=some (.int .i64 m.fuse):=h.row.at 2 _ rfl
theorem PlantAt.c3 (h:PlantAt w c t g db cap gs m):w.cell? ⟨g,3,none⟩=some (.int .i64 (m.steps:Nat)):=h.row.at 3 _ rfl
theorem step_any (h:PlantAt w c t g db cap gs m) (hst:m.steps<4611686018427387904) (hf1:m.fuse≤9223372036854775807) :
  Calls Tryd.prog 56 #[ptr g] w fun e w'=>e = .returned (.bool m.stepOk)∧PlantAt w' c t g db cap gs m.step∧Ch (· = g) w w':=by
 have fz:∀i,w.frozen? ⟨g,i,none⟩=false:=fun i=>h.row.frozen i
 have hch:∀i v,Ch (· = g) w (w.setCell ⟨g,i,none⟩ v):=fun i v=>(Ch.refl (· = g) w).setCell (g:=g) (Or.inl rfl) i v
 rcases Int.lt_trichotomy m.fuse 0 with h0|h0|h0
 ·refine (step_none w g m.fuse _ h.c2 h.c3 fz h0 (by omega) (by omega)).mono ?_
  rintro e w' ⟨rfl,rfl⟩
  have hne:¬ m.fuse=0:=by omega
  refine ⟨by simp [Pl.stepOk,hne],h.head m.step ?_ ?_ ?_ (hch _ _) ?_,hch _ _⟩
  ·simp [Pl.step,hne]
  ·simp [Pl.step,hne]
  ·simp [Pl.step,hne]
  ·have:=h.row.setCell 3 (.int .i64 ((m.steps:Int)+1))
   have h2:¬ 0<m.fuse:=by omega
   simpa [yJ1,Pl.step,hne,h2,Pl.n] using this
 ·refine (step_off w g (by rw [←h0];exact h.c2) fz _ h.c1).mono ?_
  rintro e w' ⟨rfl,rfl⟩
  have hc2:=(hch 1 (.bool false)).setCell (g:=g) (Or.inl rfl) 2 (.int .i64 (-1))
  refine ⟨by simp [Pl.stepOk,h0],h.head m.step ?_ ?_ ?_ hc2 ?_,hc2⟩
  ·simp [Pl.step,h0]
  ·simp [Pl.step,h0]
  ·simp [Pl.step,h0]
  ·have:=(h.row.setCell 1 (.bool false)).setCell 2 (.int .i64 (-1))
   simpa [yJ1,Pl.step,h0,Pl.n] using this
 ·refine (step_fuse w g m.fuse _ h.c2 h.c3 fz h0 hf1 (by omega) (by omega)).mono ?_
  rintro e w' ⟨rfl,rfl⟩
  have hne:¬ m.fuse=0:=by omega
  have hc2:=(hch 2 (.int .i64 (m.fuse - 1))).setCell (g:=g) (Or.inl rfl) 3 (.int .i64 ((m.steps:Int)+1))
  refine ⟨by simp [Pl.stepOk,hne],h.head m.step ?_ ?_ ?_ hc2 ?_,hc2⟩
  ·simp [Pl.step,hne]
  ·simp [Pl.step,hne]
  ·simp [Pl.step,hne]
  ·have:=(h.row.setCell 2 (.int .i64 (m.fuse - 1))).setCell 3 (.int .i64 ((m.steps:Int)+1))
   simpa [yJ1,Pl.step,hne,h0,Pl.n] using this
end
end Go.Proofs.YtpkkkkomdblpoaaDoor

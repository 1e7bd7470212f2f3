/- The walk of sha.scheduleOf: the 64 words of a piece that lies in memory. The walk of sha.mixed: one piece's rounds. A State in memory: its cells, what they say of the bytes that it has taken, and what one more run of bytes makes of them. append to a slice that the call itself has made: of words, of bytes. The walk of (*State).Write. The walk of (*State).writeEnd. -/
import Derived.Test.YtpkkkkomdblpoaaDoorS03
import Derived.Deep.Cut
import Derived.Deep.RegionWith
import Derived.Handy
import Derived.Laws.StructEq
namespace Go.Proofs.YtpkkkkomdblpoaaDoor.Sh
open Go.RowKit
def yC0 (ws:List (BitVec 32)):List Value:=ws.map fun a=>Value.int .u32 (Sha.U a)
theorem yE4 (ws:List (BitVec 32)):(yC0 ws).length=ws.length:=by simp [yC0]
theorem wcells_append (a b:List (BitVec 32)):yC0 (a++b)=yC0 a++yC0 b:=by simp [yC0]
theorem wcells_one (ws:List (BitVec 32)):∀v∈yC0 ws,v.oneCell'=true:=by
 intro v hv
 obtain ⟨c,_,rfl⟩:=List.mem_map.1 hv
 rfl
def fillW (ws:List (BitVec 32)) (n:Nat):List Value:=yC0 ws++yE0 n
theorem fillW_set (ws:List (BitVec 32)) (n:Nat) (x:BitVec 32):(fillW ws (n+1)).set ws.length (.int .u32 (Sha.U x))=fillW (ws++[x]) n:=by
 unfold fillW
 rw [List.set_append_right _ _ (by simp [yE4]),wcells_append,yE4,Nat.sub_self]
 simp [yE0,List.replicate_succ,yC0]
theorem fillW_at (ws:List (BitVec 32)) (n i:Nat) (h:i<ws.length):(fillW ws n)[i]? = some (.int .u32 (Sha.U (ws.getD i 0))):=by
 unfold fillW
 rw [List.getElem?_append_left (by simpa [yE4] using h)]
 simp [yC0,h]
theorem fillW_length (ws:List (BitVec 32)) (n:Nat):(fillW ws n).length=ws.length+n:=by simp [fillW,yE4,yE0]
def BytesIn (w:World) (b off:Nat) (cs:List Nat):Prop:=(∀j:Nat,j<cs.length→w.cell? ⟨b,off+j,none⟩=some (.int .u8 (cs.getD j 0:Nat)))∧∀j:Nat,cs.getD j 0<256
theorem BytesIn.later {w wx:World} {b off:Nat} {cs:List Nat} (hb:Below w.heap.size w wx) (h:BytesIn w b off cs):BytesIn wx b off cs :=
 ⟨fun j hj=>cell_later hb (h.1 j hj),h.2⟩
def SchedIn (w wr:World) (p:List Nat) (k:Nat):Prop:=Row wr w.heap.size 175 (yE0 64)∧Row wr (w.heap.size+1) 175 (fillW (Sha.sched p k) (64 - k))∧Below w.heap.size w wr
theorem SchedIn.step {w wr:World} {p:List Nat} {k:Nat} (h:SchedIn w wr p k) (hk:k<64) (n:Nat) (x:BitVec 32) (hx:Sha.sched p (k+1)=Sha.sched p k++[x]):SchedIn w ((wr.drewN n).setCell ⟨w.heap.size+1,k,none⟩ (.int .u32 (Sha.U x))) p (k+1):=by
 obtain ⟨h1,h2,h3⟩:=h
 refine ⟨(h1.drewN n).setCell_other (by omega) _ _,?_,(Below.drewN h3 n).setCell (by simp) _⟩
 have h4:=(h2.drewN n).setCell k (.int .u32 (Sha.U x))
 rw [show 64 - k=(64 - (k+1))+1 by omega] at h4
 have h5:=fillW_set (Sha.sched p k) (64 - (k+1)) x
 rw [Sha.yE5] at h5
 rw [h5,←hx] at h4
 exact h4
theorem U_shr3 (a:BitVec 32):Sha.U a / (8:Int)=Sha.U (a >>> 3):=Sha.U_shr a 3
theorem U_shr10 (a:BitVec 32):Sha.U a / (1024:Int)=Sha.U (a >>> 10):=Sha.U_shr a 10
attribute [local go_sem] Sha.U_xor Sha.U_add U_shr3 U_shr10 in
set_option maxHeartbeats 1000000 in
set_option maxRecDepth 100000 in
theorem sched_any (g off:Nat) (p:List Nat) (w:World) (hp:p.length=64) (hb:BytesIn w g off p) :
  Calls Tryd.prog 98 #[.pointer (some ⟨g,off,none⟩)] w fun e w'=>e = .returned (.agg (yC0 (Sha.sched p 64)).toArray)∧Below w.heap.size w w':=by
 go_enter Tryd.func98,Tryd.ntmps98
 go_upto_region 0 with fail
 refine wp_region_lit ?_
 refine wpList_alloc (yE0 64) zero45 rfl rfl ?_
 refine wpList_nil ?_
 go_upto_region 1 with fail
 refine wp_region_lit ?_
 refine wpList_alloc (yE0 64) zero45 rfl rfl ?_
 refine wpList_nil ?_
 have hs0:SchedIn w ((w.alloc (.cells (yE0 64).toArray 175)).alloc (.cells (yE0 64).toArray 175)) p 0:=by
  refine ⟨(Row.new w 175 _).alloc _,?_,((Below.refl _ _).alloc (Nat.le_refl _) _).alloc (by simp) _⟩
  have:=Row.new (w.alloc (.cells (yE0 64).toArray 175)) 175 (yE0 64)
  simpa [fillW,Sha.sched,yC0] using this
 go_wp2
 go_loopw [10] (fun i W => ∃k:Nat,k≤16∧i = .int .i64 k∧SchedIn w W p k) (fun i _=>16 - (intOf i).toNat)
 case atStart=>exact ⟨0,Nat.zero_le _,rfl,hs0⟩
 case round =>
  clear hs0
  obtain ⟨k,hk,rfl,hs⟩:=hrel
  by_cases hlt:k<16
  ·have HS:Hid (SchedIn w wr p k):=hs
   have c0:wr.cell? ⟨g,off+4 * k,none⟩=some (.int .u8 (p.getD (4 * k) 0:Nat)):=(hb.later hs.2.2).1 _ (by omega)
   have c1:wr.cell? ⟨g,off+(4 * k+1),none⟩=some (.int .u8 (p.getD (4 * k+1) 0:Nat)):=(hb.later hs.2.2).1 _ (by omega)
   have c2:wr.cell? ⟨g,off+(4 * k+2),none⟩=some (.int .u8 (p.getD (4 * k+2) 0:Nat)):=(hb.later hs.2.2).1 _ (by omega)
   have c3:wr.cell? ⟨g,off+(4 * k+3),none⟩=some (.int .u8 (p.getD (4 * k+3) 0:Nat)):=(hb.later hs.2.2).1 _ (by omega)
   have f0:=hs.2.1.frozen k
   obtain ⟨z,e0⟩:∃z,wr.cell? ⟨w.heap.size+1,k,none⟩=some z:=⟨_,hs.2.1.at k _ (List.getElem?_eq_getElem (by rw [fillW_length,Sha.yE5];omega))⟩
   have HB:Hid (Sha.sched p (k+1)=Sha.sched p k++[Sha.word4 (p.getD (4 * k) 0) (p.getD (4 * k+1) 0) (p.getD (4 * k+2) 0) (p.getD (4 * k+3) 0)]):=Sha.sched_low p k hlt
   clear hs
   generalize p.getD (4 * k) 0=b0 at *
   generalize p.getD (4 * k+1) 0=b1 at *
   generalize p.getD (4 * k+2) 0=b2 at *
   generalize p.getD (4 * k+3) 0=b3 at *
   go_wp2
   refine yD4 39 (by kernel_rfl) (by kernel_rfl) ?_
   simp only [List.take_succ_cons,List.take_zero,List.drop_succ_cons,List.drop_zero]
   repeat (go_big_quiet_step (fail))
   refine wpQuiet_nil ?_
   intro _ hw'
   obtain ⟨nq,hw''⟩:=hw'
   subst hw''
   go_wp2
   refine ⟨⟨k+1,by omega,by go_num,?_⟩,by simp [intOf];omega⟩
   rw [word_U]
   exact HS.out.step (by omega) nq _ (HB.out)
  ·have hs16:SchedIn w wr p 16:=by
    rw [show 16=k by omega]
    exact hs
   have ek:(k:Int)=16:=by omega
   rw [ek]
   clear hlt hk hs ek
   go_wp2
   go_loopw [5] (fun i W => ∃m:Nat,m≤48∧i = .int .i64 (m+16)∧SchedIn w W p (m+16)) (fun i _=>64 - (intOf i).toNat)
   case atStart=>exact ⟨0,Nat.zero_le _,rfl,hs16⟩
   case round =>
    clear hs16
    obtain ⟨m,hm,rfl,hs⟩:=hrel
    by_cases hlt:m<48
    ·have HS:Hid (SchedIn w wr p (m+16)):=hs
     have HX:=Sha.sched_high p (m+16) (by omega)
     have c0:wr.cell? ⟨w.heap.size+1,m,none⟩=_:=hs.2.1.at _ _ (fillW_at _ _ m (by rw [Sha.yE5];omega))
     have c1:wr.cell? ⟨w.heap.size+1,m+1,none⟩=_:=hs.2.1.at _ _ (fillW_at _ _ (m+1) (by rw [Sha.yE5];omega))
     have c9:wr.cell? ⟨w.heap.size+1,m+9,none⟩=_:=hs.2.1.at _ _ (fillW_at _ _ (m+9) (by rw [Sha.yE5];omega))
     have c14:wr.cell? ⟨w.heap.size+1,m+14,none⟩=_:=hs.2.1.at _ _ (fillW_at _ _ (m+14) (by rw [Sha.yE5];omega))
     have f0:=hs.2.1.frozen (m+16)
     obtain ⟨z,e0⟩:∃z,wr.cell? ⟨w.heap.size+1,m+16,none⟩=some z:=⟨_,hs.2.1.at _ _ (List.getElem?_eq_getElem (by rw [fillW_length,Sha.yE5];omega))⟩
     rw [show m+16 - 2=m+14 by omega,show m+16 - 7=m+9 by omega,show m+16 - 15=m+1 by omega,show m+16 - 16=m by omega] at HX
     have HB:Hid (Sha.sched p (m+16+1)=Sha.sched p (m+16)++[Sha.sm1 ((Sha.sched p (m+16)).getD (m+14) 0)+(Sha.sched p (m+16)).getD (m+9) 0+Sha.sm0 ((Sha.sched p (m+16)).getD (m+1) 0)+(Sha.sched p (m+16)).getD m 0]):=HX
     clear hs HX
     generalize (Sha.sched p (m+16)).getD m 0=b0 at *
     generalize (Sha.sched p (m+16)).getD (m+1) 0=b1 at *
     generalize (Sha.sched p (m+16)).getD (m+9) 0=b9 at *
     generalize (Sha.sched p (m+16)).getD (m+14) 0=b14 at *
     go_wp2
     go_quiet (fail)
     go_wp2_with (first|(go_at_call_of 115 (Value.int IntKind.i64 7);refine (srot_7 _ _).mono ?_;rintro e w' ⟨rfl,rfl⟩)|(go_at_call_of 115 (Value.int IntKind.i64 18);refine (srot_18 _ _).mono ?_;rintro e w' ⟨rfl,rfl⟩)|(go_at_call_of 115 (Value.int IntKind.i64 17);refine (srot_17 _ _).mono ?_;rintro e w' ⟨rfl,rfl⟩)|(go_at_call_of 115 (Value.int IntKind.i64 19);refine (srot_19 _ _).mono ?_;rintro e w' ⟨rfl,rfl⟩))
     refine yD4 15 (by kernel_rfl) (by kernel_rfl) ?_
     simp only [List.take_succ_cons,List.take_zero,List.drop_succ_cons,List.drop_zero]
     repeat (go_big_quiet_step (fail))
     refine wpQuiet_nil ?_
     intro _ hw'
     obtain ⟨nq2,hw''⟩:=hw'
     subst hw''
     go_wp2
     refine ⟨⟨m+1,by omega,by go_num,?_⟩,by simp [intOf];omega⟩
     rw [show m+1+16=m+16+1 by omega]
     exact HS.out.step (by omega) (nq+nq2) _ HB.out
    ·have e48:m=48:=by omega
     subst e48
     clear hlt hm
     go_upto_region 14 with fail
     refine wp_region_lit ?_
     refine yF1 agg45 (.tmp 3) rfl rfl _ _ rfl (yC0 (Sha.sched p 64)) (by rw [yE4,Sha.yE5]) ?_ ?_
     ·intro j v hv
      rw [Nat.zero_add,hs.2.1.cell]
      simpa [fillW,yE0] using hv
     refine wpList_store agg45 (.tmp 2) (.tmp 96) rfl rfl w.heap.size 0 175 rfl (yC0 (Sha.sched p 64)) _ rfl (by rw [yE4,Sha.yE5]) hs.1 (by rw [yE4,Sha.yE5];simp [yE0]) (wcells_one _) ?_
     refine wpList_nil ?_
     have hr:=hs.1.setRow (splice (yE0 64) 0 (yC0 (Sha.sched p 64)))
     rw [show splice (yE0 64) 0 (yC0 (Sha.sched p 64))=yC0 (Sha.sched p 64) by simp [splice,yE0,yE4,Sha.yE5]] at hr ⊢
     have hbl:=below_setRow hs.2.2 (Nat.le_refl _) (yC0 (Sha.sched p 64)).toArray
     clear hs
     go_wp2
     exact bodyPost_ret (yG3 agg45 Tryd.results98 _ _ w.heap.size 175 rfl _ (by rw [yE4,Sha.yE5]) hr) rfl ⟨rfl,hbl⟩
end Go.Proofs.YtpkkkkomdblpoaaDoor.Sh

namespace Go.Proofs.YtpkkkkomdblpoaaDoor.Sh
open Go.RowKit
section
variable {w:World} {ops:Array Oper} {rest:List Oper} {o:Oper} {a:Act} {Q:Exit→Act→World→Prop}
theorem yI2 {t:Nat} (x:Operand) (hgd:o.guard=none) (ho:o.op = .box t x) (cs:List Value) (hx:a.eval x = .agg cs.toArray)
  (h:∀w',Row w' w.heap.size t cs→w'.heap.size=w.heap.size+1→Below w.heap.size w w'→wpList Tryd.prog ops Q rest (a.put o.dst (.pointer (some ⟨w.heap.size,0,none⟩))) w'):wpList Tryd.prog ops Q (o :: rest) a w :=
 yB1 hgd _ _ (by simp [execOp,ho,hx,Instr.box,newVar,newRow,Value.cells]) (h (w.alloc (.cells cs.toArray t)) (Row.new w t cs) (by simp) ((Below.refl _ _).alloc (Nat.le_refl _) _))
theorem yD3 {t:Nat} (zs:List Value) (hz:(Tryd.prog.info? t).map (·.zero)=some (some (.agg zs.toArray))) (hgd:o.guard=none) (ho:o.op = .alloc t)
  (h:∀w',Row w' w.heap.size t zs→w'.heap.size=w.heap.size+1→Below w.heap.size w w'→wpList Tryd.prog ops Q rest (a.put o.dst (.pointer (some ⟨w.heap.size,0,none⟩))) w'):wpList Tryd.prog ops Q (o :: rest) a w :=
 wpList_alloc zs hz hgd ho (h (w.alloc (.cells zs.toArray t)) (Row.new w t zs) (by simp) ((Below.refl _ _).alloc (Nat.le_refl _) _))
theorem wpList_index8 (x ix:Operand) (hgd:o.guard=none) (ho:o.op = .index 171 x ix) (cs:List Value) (hx:a.eval x = .agg cs.toArray) (k:Nat) (hk:k<8) (hix:a.eval ix = .int .i64 k) (v:Value) (hv:cs[k]? = some v)
  (h:wpList Tryd.prog ops Q rest (a.put o.dst v) w):wpList Tryd.prog ops Q (o :: rest) a w:=by
 refine yB1 hgd v w ?_ h
 have hi:(Tryd.prog.info? 161).map (·.size)=some 1:=by kernel_rfl
 obtain ⟨i,hi,hsz⟩:=Option.map_eq_some_iff.1 hi
 simp [execOp,ho,hx,hix,Instr.index,asIntOf,run_underlying Tryd.underlying171,run_underlying Tryd.underlying161,sizeOf,typeInfo,hi,hsz,part,isAgg,hv]
 intro h8
 omega
end
theorem take_set {α:Type} (L A:List α) (h:L.length=A.length) (k:Nat) (hk:k<L.length):(L.take k++A.drop k).set k L[k]=L.take (k+1)++A.drop (k+1):=by
 rw [List.set_append_right _ _ (by simp;omega),List.take_succ_eq_append_getElem hk,List.append_assoc]
 congr 1
 rw [List.length_take,Nat.min_eq_left (by omega),Nat.sub_self,List.drop_eq_getElem_cons (by omega)]
 rfl
theorem take_at {α:Type} (L A:List α) (h:L.length=A.length) (k:Nat) (hk:k<L.length):(L.take k++A.drop k)[k]? = A[k]?:=by
 rw [List.getElem?_append_right (by simp;omega),List.length_take,Nat.min_eq_left (by omega),Nat.sub_self,List.getElem?_drop,Nat.add_zero]
def TabIn (w:World):Prop := ∀t:Nat,t<64→w.cell? ⟨1,t,none⟩=some (.int .u32 (Sha.U (Sha.kAt t)))
theorem TabIn.later {w wx:World} (hb:Below w.heap.size w wx) (h:TabIn w):TabIn wx:=fun t ht=>cell_later hb (h t ht)
def MixIn (w W:World) (g0 g1 g2:Nat) (v:Sha.W8) (p:List Nat):Prop :=
 Row W g0 171 (yC0 v.list)∧Row W g1 175 (yC0 (Sha.sched p 64))∧Row W g2 171 (yE0 8)∧Below w.heap.size w W
theorem yJ8 (ws:List (BitVec 32)) (i:Nat) (h:i<ws.length):(yC0 ws)[i]? = some (.int .u32 (Sha.U (ws.getD i 0))):=by simp [yC0,h]
theorem MixIn.drewN {w W:World} {g0 g1 g2:Nat} {v:Sha.W8} {p:List Nat} (h:MixIn w W g0 g1 g2 v p) (n:Nat):MixIn w (W.drewN n) g0 g1 g2 v p :=
 ⟨h.1.drewN n,h.2.1.drewN n,h.2.2.1.drewN n,Below.drewN h.2.2.2 n⟩
theorem U_notIf (a:BitVec 32):bits .xor .u32 (if IntKind.u32.signed=true then -1 else IntKind.u32.max) (Sha.U a)=Sha.U (~~~ a):=by
 rw [show (if IntKind.u32.signed=true then (-1:Int) else IntKind.u32.max)=IntKind.u32.max from rfl,Sha.U_not]
theorem U_add3 (a b c d:BitVec 32):(Sha.U a+Sha.U b+Sha.U c+Sha.U d) % (4294967296:Int)=Sha.U (a+b+c+d):=by
 rw [←Sha.U_add (a+b+c) d,←Sha.U_add (a+b) c,←Sha.U_add a b]
 omega
theorem t1_U (x:Sha.W8) (k w:BitVec 32):(Sha.U (x.h+(Sha.rot x.e 6 ^^^ Sha.rot x.e 11 ^^^ Sha.rot x.e 25))+bits BinOp.xor IntKind.u32 (Sha.U (x.e &&& x.f)) (bits BinOp.and IntKind.u32 (bits BinOp.xor IntKind.u32 (if IntKind.u32.signed=true then -1 else IntKind.u32.max) (Sha.U x.e)) (Sha.U x.g))+Sha.U k+Sha.U w) % (4294967296:Int)=Sha.U (Sha.t1 x k w):=by
 rw [U_notIf,Sha.U_and,Sha.U_xor,U_add3]
 rfl
theorem len8 (v:Sha.W8):(yC0 v.list).length=8:=by rw [yE4,Sha.W8.list_length]
theorem len88 (v x:Sha.W8):(yC0 v.list).length=(yC0 x.list).length:=by rw [len8,len8]
attribute [local go_sem] Sha.U_xor Sha.U_add Sha.U_and in
set_option maxHeartbeats 1000000 in
set_option maxRecDepth 100000 in
theorem mixed_any (v:Sha.W8) (p:List Nat) (w:World) (ht:TabIn w) :
  Calls Tryd.prog 97 #[.agg (yC0 v.list).toArray,.agg (yC0 (Sha.sched p 64)).toArray] w fun e w'=>e = .returned (.agg (yC0 (Sha.comp v p).list).toArray)∧Below w.heap.size w w':=by
 go_enter Tryd.func97,Tryd.ntmps97
 go_upto_region 0 with fail
 refine wp_region_lit ?_
 refine yI2 (.tmp 0) rfl rfl (yC0 v.list) rfl ?_
 intro w1 r1 s1 b1
 refine yI2 (.tmp 1) rfl rfl (yC0 (Sha.sched p 64)) rfl ?_
 intro w2 r2 s2 b2
 refine yD3 (yE0 8) zero37 rfl rfl ?_
 intro w3 r3 s3 b3
 refine wpList_nil ?_
 have hm0:MixIn w w3 w.heap.size w1.heap.size w2.heap.size v p:=⟨(r1.later b2 (by omega)).later b3 (by omega),r2.later b3 (by omega),r3,b1.trans ((b2.mono (by omega)).trans (b3.mono (by omega)))⟩
 generalize hg0:w.heap.size=g0 at *
 generalize hg1:w1.heap.size=g1 at *
 generalize hg2:w2.heap.size=g2 at *
 have ha:=hm0.1.at 0 (.int .u32 (Sha.U v.a)) rfl
 have hb:=hm0.1.at 1 (.int .u32 (Sha.U v.b)) rfl
 have hc:=hm0.1.at 2 (.int .u32 (Sha.U v.c)) rfl
 have hd:=hm0.1.at 3 (.int .u32 (Sha.U v.d)) rfl
 have he:=hm0.1.at 4 (.int .u32 (Sha.U v.e)) rfl
 have hf:=hm0.1.at 5 (.int .u32 (Sha.U v.f)) rfl
 have hg:=hm0.1.at 6 (.int .u32 (Sha.U v.g)) rfl
 have hh:=hm0.1.at 7 (.int .u32 (Sha.U v.h)) rfl
 have hlt0:g0<g1:=by omega
 have hlt1:g1<g2:=by omega
 have HM:Hid (MixIn w w3 g0 g1 g2 v p):=hm0
 clear hm0 r1 r2 r3 b1 b2 b3 s1 s2 s3
 go_wp2
 go_quiet (fail)
 go_wp2
 go_quiet (fail)
 go_wp2
 clear ha hb hc hd he hf hg hh
 go_loopw [5,6,7,8,9,10,11,12,34] (fun xa xb xc xd xe xf xg xh i W => ∃k:Nat,k≤64∧i = .int .i64 k∧xa = .int .u32 (Sha.U (Sha.rnds p v k).a)∧xb = .int .u32 (Sha.U (Sha.rnds p v k).b)∧xc = .int .u32 (Sha.U (Sha.rnds p v k).c)∧xd = .int .u32 (Sha.U (Sha.rnds p v k).d)∧xe = .int .u32 (Sha.U (Sha.rnds p v k).e)∧xf = .int .u32 (Sha.U (Sha.rnds p v k).f)∧xg = .int .u32 (Sha.U (Sha.rnds p v k).g)∧xh = .int .u32 (Sha.U (Sha.rnds p v k).h)∧MixIn w W g0 g1 g2 v p) (fun _ _ _ _ _ _ _ _ i _=>64 - (intOf i).toNat)
 case atStart=>exact ⟨0,Nat.zero_le _,rfl,rfl,rfl,rfl,rfl,rfl,rfl,rfl,rfl,(HM.out.drewN _).drewN _⟩
 case round =>
  clear HM
  obtain ⟨k,hk,rfl,rfl,rfl,rfl,rfl,rfl,rfl,rfl,rfl,hm⟩:=hrel
  by_cases hlt:k<64
  ·have HM:Hid (MixIn w wr g0 g1 g2 v p):=hm
   have HR:Hid (Sha.rnds p v (k+1)=Sha.rnd (Sha.rnds p v k) (Sha.kAt k) ((Sha.sched p 64).getD k 0)):=rfl
   have ck:wr.cell? ⟨1,k,none⟩=_:=(ht.later (hg0▸hm.2.2.2)) k hlt
   have cw:wr.cell? ⟨g1,k,none⟩=_:=hm.2.1.at k _ (yJ8 _ k (by rw [Sha.yE5];exact hlt))
   clear hm ht
   generalize (Sha.sched p 64).getD k 0=wk at *
   generalize Sha.kAt k=kk at *
   generalize Sha.rnds p v k=x at *
   go_wp2
   go_quiet (first|(go_at_call_of 115 (Value.int IntKind.i64 6);exact Calls.quiet_of_same (srot_6 _ _))|(go_at_call_of 115 (Value.int IntKind.i64 11);exact Calls.quiet_of_same (srot_11 _ _))|(go_at_call_of 115 (Value.int IntKind.i64 25);exact Calls.quiet_of_same (srot_25 _ _)))
   go_wp2_with (first|(go_at_call_of 115 (Value.int IntKind.i64 2);refine (srot_2 _ _).mono ?_;rintro e w' ⟨rfl,rfl⟩)|(go_at_call_of 115 (Value.int IntKind.i64 13);refine (srot_13 _ _).mono ?_;rintro e w' ⟨rfl,rfl⟩)|(go_at_call_of 115 (Value.int IntKind.i64 22);refine (srot_22 _ _).mono ?_;rintro e w' ⟨rfl,rfl⟩))
   rw [t1_U,Sha.U_add,Sha.U_add]
   refine ⟨⟨k+1,by omega,by go_num,?_⟩,by simp [intOf];omega⟩
   rw [HR.out]
   exact ⟨rfl,rfl,rfl,rfl,rfl,rfl,rfl,rfl,HM.out.drewN _⟩
  ·have ek:(k:Int)=64:=by omega
   obtain rfl:k=64:=by omega
   rw [ek]
   clear ek hlt hk ht
   generalize hx:Sha.rnds p v 64=x at *
   have HX:Hid (Sha.rnds p v 64=x):=hx
   have HM:Hid (MixIn w wr g0 g1 g2 v p):=hm
   have hr0:Row wr g0 171 ((yC0 (Sha.add8 v x).list).take 0++(yC0 v.list).drop 0):=hm.1
   have hr2:=hm.2.2.1
   have hbl:Below g0 w wr:=hg0▸hm.2.2.2
   clear hm hx
   go_wp2
   go_loopw [106] (fun i W => ∃k:Nat,k≤8∧i = .int .i64 k∧Row W g0 171 ((yC0 (Sha.add8 v x).list).take k++(yC0 v.list).drop k)∧Row W g2 171 (yE0 8)∧Below g0 w W) (fun i _=>8 - (intOf i).toNat)
   case atStart=>exact ⟨0,Nat.zero_le _,rfl,hr0,hr2,hbl⟩
   case round =>
    clear hr0 hr2 hbl HM
    obtain ⟨k,hk,rfl,r0,r2,bl⟩:=hrel
    by_cases hlt:k<8
    ·have l0:k<(yC0 (Sha.add8 v x).list).length:=by rw [len8];exact hlt
     have c0:wr.cell? ⟨g0,k,none⟩=_:=r0.at k _ ((take_at (yC0 (Sha.add8 v x).list) (yC0 v.list) (len88 _ _) k l0).trans (yJ8 v.list k hlt))
     have f0:=r0.frozen k
     have R0:Hid (Row wr g0 171 ((yC0 (Sha.add8 v x).list).take k++(yC0 v.list).drop k)):=r0
     have R2:Hid (Row wr g2 171 (yE0 8)):=r2
     have HE:Hid ((yC0 (Sha.add8 v x).list)[k] = .int .u32 (Sha.U (v.list.getD k 0+x.list.getD k 0))):=by
      have:=yJ8 (Sha.add8 v x).list k hlt
      rw [List.getElem?_eq_getElem l0] at this
      rw [Option.some.inj this]
      have h8:∀k:Fin 8,(Sha.add8 v x).list.getD k.val 0=v.list.getD k.val 0+x.list.getD k.val 0:=by
       intro k
       match k with
       | 0=>rfl
       | 1=>rfl
       | 2=>rfl
       | 3=>rfl
       | 4=>rfl
       | 5=>rfl
       | 6=>rfl
       | 7=>rfl
      rw [h8 ⟨k,hlt⟩]
      exact rfl
     clear r0 r2
     go_upto_region 12 with fail
     refine wp_region_lit ?_
     refine yC7 (.tmp 106) rfl rfl _ rfl ?_
     refine wpList_index8 (.tmp 105) (.tmp 106) rfl rfl (yC0 x.list) rfl k hlt rfl _ (yJ8 x.list k hlt) ?_
     generalize x.list.getD k 0=bx at *
     generalize v.list.getD k 0=bv at *
     go_wp2
     refine ⟨⟨k+1,by omega,by go_num,?_,R2.out.setCell_other (by omega) _ _,bl.setCell (Nat.le_refl _) _⟩,by simp [intOf];omega⟩
     have:=R0.out.setCell k (.int .u32 (Sha.U (bv+bx)))
     rw [←HE.out,take_set (yC0 (Sha.add8 v x).list) (yC0 v.list) (len88 _ _) k l0] at this
     rw [←HE.out]
     exact this
    ·obtain rfl:k=8:=by omega
     have R0:Row wr g0 171 (yC0 (Sha.add8 v x).list):=by
      rw [List.take_of_length_le (Nat.le_of_eq (len8 (Sha.add8 v x))),List.drop_of_length_le (Nat.le_of_eq (len8 v)),List.append_nil] at r0
      exact r0
     clear r0
     go_upto_region 15 with fail
     refine wp_region_lit ?_
     refine yF1 agg37 (.tmp 2) rfl rfl _ _ rfl (yC0 (Sha.add8 v x).list) (len8 _) (fun j u hu=>by rw [Nat.zero_add];exact R0.at j u hu) ?_
     refine wpList_store agg37 (.tmp 4) (.tmp 117) rfl rfl g2 0 171 rfl (yC0 (Sha.add8 v x).list) _ rfl (len8 _) r2 (by rw [len8];exact Nat.le_refl _) (wcells_one _) ?_
     refine wpList_nil ?_
     have hr:=r2.setRow (splice (yE0 8) 0 (yC0 (Sha.add8 v x).list))
     rw [show splice (yE0 8) 0 (yC0 (Sha.add8 v x).list)=yC0 (Sha.add8 v x).list by simp [splice,yE0,yE4,Sha.W8.list_length]] at hr ⊢
     have hbl:=below_setRow bl (show g0≤g2 by omega) (yC0 (Sha.add8 v x).list).toArray
     clear r2 bl R0
     go_wp2
     refine bodyPost_ret (yG3 agg37 Tryd.results97 _ _ g2 171 rfl _ (len8 _) hr) rfl ⟨?_,by rw [hg0];exact hbl⟩
     rw [Sha.comp,HX.out]
end Go.Proofs.YtpkkkkomdblpoaaDoor.Sh

namespace Go.Proofs.YtpkkkkomdblpoaaDoor.Sh
open Go.RowKit
def yA0 (cs:List Nat):List Value:=cs.map fun c=>Value.int .u8 (c:Nat)
theorem yA1 (cs:List Nat):(yA0 cs).length=cs.length:=by simp [yA0]
theorem yD0 (a b:List Nat):yA0 (a++b)=yA0 a++yA0 b:=by simp [yA0]
theorem yB0 (cs:List Nat):∀v∈yA0 cs,v.oneCell'=true:=by
 intro v hv
 obtain ⟨c,_,rfl⟩:=List.mem_map.1 hv
 rfl
theorem yC3 (cs:List Nat) (i:Nat) (h:i<cs.length):(yA0 cs)[i]? = some (.int .u8 (cs.getD i 0:Nat)):=by simp [yA0,h]
def yD6 (h:Sha.W8) (buf:List Nat) (T:Nat):List Value:=yC0 h.list++(yA0 buf++[.int .u64 (T:Nat)])
theorem stCells_length (h:Sha.W8) (buf:List Nat) (T:Nat):(yD6 h buf T).length=9+buf.length:=by
 simp [yD6,yE4,yA1,Sha.W8.list_length]
 omega
theorem yD8 (h:Sha.W8) (buf:List Nat) (T i:Nat) (hi:i<8):(yD6 h buf T)[i]? = some (.int .u32 (Sha.U (h.list.getD i 0))):=by
 unfold yD6
 rw [List.getElem?_append_left (by rw [len8];exact hi)]
 exact yJ8 h.list i hi
theorem stCells_byte (h:Sha.W8) (buf:List Nat) (T i:Nat) (hi:i<buf.length):(yD6 h buf T)[8+i]? = some (.int .u8 (buf.getD i 0:Nat)):=by
 unfold yD6
 rw [List.getElem?_append_right (by rw [len8];omega),len8,Nat.add_sub_cancel_left,List.getElem?_append_left (by rw [yA1];exact hi)]
 exact yC3 buf i hi
theorem stCells_taken (h:Sha.W8) (buf:List Nat) (T:Nat) (hb:buf.length=64):(yD6 h buf T)[72]? = some (.int .u64 (T:Nat)):=by
 unfold yD6
 rw [List.getElem?_append_right (by rw [len8];omega),len8,List.getElem?_append_right (by rw [yA1];omega),yA1,hb]
 rfl
theorem stCells_set (h:Sha.W8) (buf:List Nat) (T T':Nat) (hb:buf.length=64):(yD6 h buf T).set 72 (.int .u64 (T':Nat))=yD6 h buf T':=by
 unfold yD6
 rw [List.set_append_right _ _ (by rw [len8];omega),len8,List.set_append_right _ _ (by rw [yA1];omega),yA1,hb]
 rfl
theorem stCells_words (h h':Sha.W8) (buf:List Nat) (T:Nat):splice (yD6 h buf T) 0 (yC0 h'.list)=yD6 h' buf T:=by
 unfold splice yD6
 rw [List.take_zero,List.nil_append,Nat.zero_add,len8,List.drop_append_of_le_length (by rw [len8];exact Nat.le_refl _),List.drop_of_length_le (by rw [len8];exact Nat.le_refl _),List.nil_append]
theorem stCells_bytes (h:Sha.W8) (buf c:List Nat) (T r:Nat) (hr:r+c.length≤buf.length):splice (yD6 h buf T) (8+r) (yA0 c)=yD6 h (splice buf r c) T:=by
 unfold splice yD6
 have e1:(yC0 h.list).length=8:=len8 h
 rw [List.take_append,List.drop_append,e1,List.take_of_length_le (by rw [e1];omega),List.drop_of_length_le (by rw [e1];omega),Nat.add_sub_cancel_left,yA1,List.nil_append,List.append_assoc]
 congr 1
 rw [show 8+r+c.length - 8=r+c.length by omega,List.take_append_of_le_length (by rw [yA1];omega),List.drop_append_of_le_length (by rw [yA1];omega)]
 simp [yA0]
theorem stCells_one (h:Sha.W8) (buf:List Nat) (T:Nat):∀v∈yD6 h buf T,v.oneCell'=true:=by
 intro v hv
 rcases List.mem_append.1 hv with hv|hv
 ·exact wcells_one _ v hv
 ·rcases List.mem_append.1 hv with hv|hv
  ·exact yB0 _ v hv
  ·obtain rfl:=List.mem_singleton.1 hv
   rfl
def StIn (w:World) (g:Nat) (m:List Nat):Prop :=
 ∃buf:List Nat,Row w g 173 (yD6 (Sha.full m) buf m.length)∧buf.length=64∧(∀c∈buf,c<256)∧buf.take (m.length % 64)=m.drop (64 * (m.length / 64))
theorem splice_take {α:Type} (buf c:List α) (r:Nat) (h:r+c.length≤buf.length):(splice buf r c).take (r+c.length)=buf.take r++c:=by
 unfold splice
 rw [←List.append_assoc,List.take_append_of_le_length (by simp;omega),List.take_of_length_le (by simp;omega)]
theorem splice_lt (buf c:List Nat) (r:Nat) (hb:∀x∈buf,x<256) (hc:∀x∈c,x<256):∀x∈splice buf r c,x<256:=by
 intro x hx
 unfold splice at hx
 rcases List.mem_append.1 hx with hx|hx
 ·exact hb x (List.mem_of_mem_take hx)
 ·rcases List.mem_append.1 hx with hx|hx
  ·exact hc x hx
  ·exact hb x (List.mem_of_mem_drop hx)
theorem StIn.part {w:World} {g:Nat} {m c buf:List Nat} (hr:Row w g 173 (yD6 (Sha.full m) (splice buf (m.length % 64) c) (m.length+c.length))) (hb:buf.length=64) (hl:∀x∈buf,x<256) (hc:∀x∈c,x<256)
  (ht:buf.take (m.length % 64)=m.drop (64 * (m.length / 64))) (hlt:m.length % 64+c.length<64):StIn w g (m++c):=by
 refine ⟨splice buf (m.length % 64) c,?_,by rw [length_splice _ _ _ (by omega),hb],splice_lt _ _ _ hl hc,?_⟩
 ·rw [Sha.full_same m c hlt,List.length_append]
  exact hr
 ·rw [List.length_append,show (m.length+c.length) % 64=m.length % 64+c.length by omega,splice_take _ _ _ (by omega),ht,show (m.length+c.length) / 64=m.length / 64 by omega,List.drop_append_of_le_length (by omega)]
theorem splice_full {m c buf:List Nat} (hb:buf.length=64) (ht:buf.take (m.length % 64)=m.drop (64 * (m.length / 64))) (heq:m.length % 64+c.length=64):splice buf (m.length % 64) c=m.drop (64 * (m.length / 64))++c:=by
 have h:=splice_take buf c (m.length % 64) (by omega)
 rw [heq,List.take_of_length_le (by rw [length_splice _ _ _ (by omega),hb];exact Nat.le_refl _),ht] at h
 exact h
theorem StIn.fill {w:World} {g:Nat} {m c buf:List Nat} (hr:Row w g 173 (yD6 (Sha.comp (Sha.full m) (splice buf (m.length % 64) c)) (splice buf (m.length % 64) c) (m.length+c.length))) (hb:buf.length=64) (hl:∀x∈buf,x<256) (hc:∀x∈c,x<256)
  (ht:buf.take (m.length % 64)=m.drop (64 * (m.length / 64))) (heq:m.length % 64+c.length=64):StIn w g (m++c):=by
 refine ⟨splice buf (m.length % 64) c,?_,by rw [length_splice _ _ _ (by omega),hb],splice_lt _ _ _ hl hc,?_⟩
 ·rw [Sha.full_next m c heq,List.length_append,←splice_full hb ht heq]
  exact hr
 ·rw [List.length_append,show (m.length+c.length) % 64=0 by omega,List.take_zero,List.drop_of_length_le (by simp;omega)]
structure Only (g:Nat) (w w':World):Prop where
 os:w'.os=w.os
 tape:w'.tape=w.tape
 output:w'.output=w.output
 size:w.heap.size≤w'.heap.size
 block:∀k,k<w.heap.size→k≠g→w'.heap[k]? = w.heap[k]?
theorem Only.refl (g:Nat) (w:World):Only g w w:=⟨rfl,rfl,rfl,Nat.le_refl _,fun _ _ _=>rfl⟩
theorem Only.trans {g:Nat} {a b c:World} (h:Only g a b) (k:Only g b c):Only g a c :=
 ⟨k.os.trans h.os,k.tape.trans h.tape,k.output.trans h.output,Nat.le_trans h.size k.size,fun i hi hne=>(k.block i (Nat.lt_of_lt_of_le hi h.size) hne).trans (h.block i hi hne)⟩
theorem Only.of_below {g:Nat} {w w':World} (h:Below w.heap.size w w'):Only g w w':=⟨h.os,h.tape,h.output,h.size,fun k hk _=>h.block k hk⟩
theorem Only.setRow {g:Nat} {a w:World} (h:Only g a w) (xs:Array Value):Only g a (w.setRow g xs) :=
 h.trans ⟨rfl,rfl,rfl,by simp [World.setRow],fun k _ hne=>Go.setRow_other w g k xs hne⟩
theorem Only.setCell {g:Nat} {a w:World} (h:Only g a w) (i:Nat) (v:Value):Only g a (w.setCell ⟨g,i,none⟩ v) :=
 h.trans ⟨rfl,rfl,rfl,by simp,fun k _ hne=>Below.heap_setCell w _ v k hne⟩
theorem Only.drewN {g:Nat} {a w:World} (h:Only g a w) (n:Nat):Only g a (w.drewN n):=⟨h.os,h.tape,h.output,h.size,h.block⟩
theorem Only.below {g B:Nat} {w w':World} (h:Only g w w') (hB:B≤g) (hB':B≤w.heap.size):Below B w w' :=
 ⟨h.os,h.tape,h.output,h.size,fun k hk=>h.block k (by omega) (by omega)⟩
theorem Only.cell {g:Nat} {w w':World} (h:Only g w w') {b i:Nat} {v:Value} (hb:b≠g) (hc:w.cell? ⟨b,i,none⟩=some v):w'.cell? ⟨b,i,none⟩=some v:=by
 rw [←hc]
 exact World.cell?_of_block (w:=w) (h.block b (block_lt_of_cell hc) hb)
theorem Only.row {g:Nat} {w w':World} (h:Only g w w') {k:Nat} {t:TypeId} {cs:List Value} (hk:k≠g) (hr:Row w k t cs):Row w' k t cs:=by
 unfold Row
 rw [h.block k hr.lt hk]
 exact hr
theorem Only.bytes {g:Nat} {w w':World} (h:Only g w w') {b off:Nat} {cs:List Nat} (hb:b≠g) (hr:BytesIn w b off cs):BytesIn w' b off cs :=
 ⟨fun j hj=>h.cell hb (hr.1 j hj),hr.2⟩
theorem Only.tab {g:Nat} {w w':World} (h:Only g w w') (hg:1<g) (hr:TabIn w):TabIn w':=fun t ht=>h.cell (by omega) (hr t ht)
theorem StIn.later {w w':World} {B g:Nat} {m:List Nat} (h:StIn w g m) (hb:Below B w w') (hg:g<B):StIn w' g m:=by
 obtain ⟨buf,hr,h⟩:=h
 exact ⟨buf,hr.later hb hg,h⟩
theorem StIn.only {w w':World} {g k:Nat} {m:List Nat} (h:StIn w k m) (hb:Only g w w') (hg:k≠g):StIn w' k m:=by
 obtain ⟨buf,hr,h⟩:=h
 exact ⟨buf,hb.row hg hr,h⟩
theorem StIn.lt {w:World} {g:Nat} {m:List Nat} (h:StIn w g m):g<w.heap.size:=by
 obtain ⟨buf,hr,h⟩:=h
 exact hr.lt
def SliceOff (w:World) (g:Nat) (v:Value) (cs:List Nat):Prop :=
 ∃p cap,v = .slice p cs.length cap∧cs.length≤cap∧(cs=[]∨∃b off,p=some ⟨b,off,none⟩∧b≠g∧BytesIn w b off cs)
def yA2 (w:World) (v:Value) (cs:List Nat):Prop :=
 ∃p cap,v = .slice p cs.length cap∧(cs.length≤cap∧cs.length≤9223372036854775807)∧(cs=[]∨∃b off,p=some ⟨b,off,none⟩∧BytesIn w b off cs)
theorem BytesIn.lt {w:World} {b off:Nat} {cs:List Nat} (h:BytesIn w b off cs) (hne:cs≠[]):b<w.heap.size :=
 block_lt_of_cell (h.1 0 (by cases cs <;> simp_all))
theorem yA2.later {w wx:World} {v:Value} {cs:List Nat} (hb:Below w.heap.size w wx) (h:yA2 w v cs):yA2 wx v cs:=by
 obtain ⟨p,cap,rfl,hl,h⟩:=h
 refine ⟨p,cap,rfl,hl,?_⟩
 rcases h with h|⟨b,off,rfl,h⟩
 ·exact Or.inl h
 ·exact Or.inr ⟨b,off,rfl,h.later hb⟩
theorem yA2.off {w wx:World} {v:Value} {cs:List Nat} {g:Nat} (h:yA2 w v cs) (hg:w.heap.size≤g) (hb:Below w.heap.size w wx):SliceOff wx g v cs:=by
 obtain ⟨p,cap,rfl,hl,h⟩:=h
 refine ⟨p,cap,rfl,hl.1,?_⟩
 rcases h with h|⟨b,off,rfl,h⟩
 ·exact Or.inl h
 ·by_cases hne:cs=[]
  ·exact Or.inl hne
  ·exact Or.inr ⟨b,off,rfl,by have:=h.lt hne;omega,h.later hb⟩
end Go.Proofs.YtpkkkkomdblpoaaDoor.Sh

namespace Go.Proofs.YtpkkkkomdblpoaaDoor.Sh
open Go.RowKit
def BOwn (w:World) (base:Nat) (v:Value) (cs:List Nat):Prop:=w.ownsRow base 5 1 v cs.length (yA0 cs)
section
variable {w:World} {ops:Array Oper} {rest:List Oper} {o:Oper} {a:Act} {Q:Exit→Act→World→Prop}
end
end Go.Proofs.YtpkkkkomdblpoaaDoor.Sh



namespace Go.Proofs.YtpkkkkomdblpoaaDoor.Sh
open Go.RowKit Go.Sort
theorem info5:(Tryd.prog.info? 5).map (·.size)=some 1:=by kernel_rfl
theorem slice38_from (g o r:Nat) (hr:r<64) (W:World):(Instr.sliceAt 113 (.pointer (some ⟨g,o,none⟩)) (some (.int .u64 (r:Nat))) none none).run Tryd.prog W = .ok (.slice (some ⟨g,o+r,none⟩) (64 - r) (64 - r)) W:=by
 obtain ⟨i,hi,hsz⟩:=Option.map_eq_some_iff.1 info5
 have h1:(r:Int)≤64:=by omega
 have h2:¬ 64=r:=by omega
 have h3:r≤64:=by omega
 simp [Instr.sliceAt,run_underlying Tryd.underlying113,Instr.sureAddr,Instr.sliceBounds,Instr.sliceBound,asIntOf,sizeOf,typeInfo,hi,hsz,h2,h3,yB7]
theorem slice52_to (g h:Nat) (hh:h≤72) (W:World):(Instr.sliceAt 193 (.pointer (some ⟨g,0,none⟩)) none (some (.int .u64 (h:Nat))) none).run Tryd.prog W = .ok (.slice (some ⟨g,0,none⟩) h 72) W:=by
 obtain ⟨i,hi,_⟩:=Option.map_eq_some_iff.1 info5
 simp [Instr.sliceAt,run_underlying Tryd.underlying193,Instr.sureAddr,Instr.sliceBounds,Instr.sliceBound,asIntOf,sizeOf,typeInfo,hi,hh,yB7]
section
variable {w:World} {ops:Array Oper} {rest:List Oper} {o:Oper} {a:Act} {Q:Exit→Act→World→Prop}
theorem yH8 (d s:Operand) (hgd:o.guard=none) (ho:o.op = .call { callee:=.builtin .copy,args:=#[d,s],argTypes:=#[38,38] })
  (g off dLen dCap b so sLen sCap T k:Nat) (hd:a.eval d = .slice (some ⟨g,off,none⟩) dLen dCap) (hs:a.eval s = .slice (some ⟨b,so,none⟩) sLen sCap)
  (cur:List Value) (hr:Row w g T cur) (c:List Nat) (hk:c.length=k) (hn:k=Nat.min sLen dLen) (hsrc:∀j,j<c.length→w.cell? ⟨b,so+j,none⟩=some (.int .u8 (c.getD j 0:Nat))) (hfit:off+k≤cur.length)
  (h:∀w',Row w' g T (splice cur off (yA0 c))→Only g w w'→wpList Tryd.prog ops Q rest (a.put o.dst (.int .i64 (k:Nat))) w'):wpList Tryd.prog ops Q (o :: rest) a w:=by
 have hbl:(yA0 c).length=k:=by rw [yA1];exact hk
 refine wpList_copy_own hgd d s 38 38 ho 5 Tryd.underlying38 info5 g off dLen dCap ⟨b,so,none⟩ sLen sCap hd hs cur.toArray T hr (yA0 c) (by rw [hbl];exact hn) ?_ (by rw [hbl];simpa using hfit) (yB0 c) ?_
 ·intro j v hv
  have hj:j<c.length:=by
   have:=(List.getElem?_eq_some_iff.1 hv).1
   rwa [yA1] at this
  rw [yB7,hsrc j hj,←hv,yC3 c j hj]
 ·have hh:=h (w.setRow g (splice cur off (yA0 c)).toArray) (hr.setRow _) ((Only.refl g w).setRow _)
  rw [←hbl] at hh
  exact hh
theorem yE2 {t n:Nat} (ht:AggT t n) (x y:Operand) (hgd:o.guard=none) (hdst:o.dst=none) (ho:o.op = .store t x y) (g off T:Nat) (hx:a.eval x = .pointer (some ⟨g,off,none⟩)) (cs cur:List Value) (hy:a.eval y = .agg cs.toArray) (hn:cs.length=n)
  (hr:Row w g T cur) (hfit:off+cs.length≤cur.length) (h1:∀v∈cs,v.oneCell'=true) (h:wpList Tryd.prog ops Q rest a (w.setRow g (splice cur off cs).toArray)):wpList Tryd.prog ops Q (o :: rest) a w :=
 wpList_store ht x y hgd ho g off T hx cs cur hy hn hr hfit h1 (by rw [hdst];exact h)
theorem wpList_cut (x lo:Operand) (hgd:o.guard=none) (ho:o.op = .slice 38 x (some lo) none none) (b off len cap k:Nat) (hx:a.eval x = .slice (some ⟨b,off,none⟩) len cap) (hlo:a.eval lo = .int .i64 (k:Nat)) (hk:k≤len)
  (h:∀p',(cap≠k→p'=some ⟨b,off+k,none⟩)→wpList Tryd.prog ops Q rest (a.put o.dst (.slice p' (len - k) (cap - k))) w):wpList Tryd.prog ops Q (o :: rest) a w:=by
 obtain ⟨i,hi,hsz⟩:=Option.map_eq_some_iff.1 info5
 refine yB1 hgd (.slice (if cap=k then some ⟨b,off,none⟩ else some ⟨b,off+k,none⟩) (len - k) (cap - k)) w ?_ (h _ (fun hne=>by rw [if_neg hne]))
 simp [execOp,ho,hx,hlo,Instr.sliceAt,Instr.slice,run_underlying Tryd.underlying38,Instr.sliceBounds,Instr.sliceBound,asIntOf,sizeOf,typeInfo,hi,hsz,hk,yB7]
end
theorem StIn.part' {W:World} {g T r k:Nat} {M c buf:List Nat} (hT:T=M.length) (hr:r=T % 64) (hk:c.length=k) (hrow:Row W g 173 (yD6 (Sha.full M) (splice buf r c) (T+k))) (hb:buf.length=64) (hl:∀x∈buf,x<256) (hc:∀x∈c,x<256)
  (ht:buf.take r=M.drop (64 * (T / 64))) (hlt:r+k<64):StIn W g (M++c):=by
 subst hT hr hk
 exact StIn.part hrow hb hl hc ht hlt
theorem StIn.fill' {W:World} {g T r k:Nat} {M c buf:List Nat} (hT:T=M.length) (hr:r=T % 64) (hk:c.length=k) (hrow:Row W g 173 (yD6 (Sha.comp (Sha.full M) (splice buf r c)) (splice buf r c) (T+k))) (hb:buf.length=64) (hl:∀x∈buf,x<256) (hc:∀x∈c,x<256)
  (ht:buf.take r=M.drop (64 * (T / 64))) (heq:r+k=64):StIn W g (M++c):=by
 subst hT hr hk
 exact StIn.fill hrow hb hl hc ht heq
def sliceLen:Value→Nat | .slice _ l _=>l|_=>0
def WrIn (w W:World) (g:Nat) (m cs:List Nat) (p:Option Addr) (n:Nat):Prop :=
 StIn W g (m++cs.take n)∧Only g w W∧(n<cs.length→∃b off,p=some ⟨b,off+n,none⟩∧b≠g∧BytesIn w b off cs)
set_option maxHeartbeats 1000000 in
set_option maxRecDepth 100000 in
theorem write_any (g:Nat) (v:Value) (m cs:List Nat) (w:World) (hs:StIn w g m) (hv:SliceOff w g v cs) (ht:TabIn w) (hg:1<g) (hlen:m.length+cs.length<2305843009213693952) :
  Calls Tryd.prog 82 #[.pointer (some ⟨g,0,none⟩),v] w fun e w'=>e = .returned noResult∧StIn w' g (m++cs)∧Only g w w':=by
 obtain ⟨p,cap,rfl,hcap,hv⟩:=hv
 have hw0:WrIn w w g m cs p 0:=by
  refine ⟨by simpa using hs,Only.refl _ _,fun hn => ?_⟩
  rcases hv with rfl|⟨b,off,rfl,hb,hc⟩
  ·simp at hn
  ·exact ⟨b,off,rfl,hb,hc⟩
 clear hs hv
 go_enter Tryd.func82,Tryd.ntmps82
 go_wp2
 go_loopw [1] (fun s W => ∃(n cap':Nat) (p':Option Addr),n≤cs.length∧s = .slice p' (cs.length - n) cap'∧cs.length - n≤cap'∧WrIn w W g m cs p' n) (fun s _=>sliceLen s)
 case atStart=>exact ⟨0,cap,p,Nat.zero_le _,rfl,hcap,hw0⟩
 case round =>
  clear hw0
  obtain ⟨n,cap',p',hn,rfl,hcap',hw⟩:=hrel
  by_cases hlt:n<cs.length
  ·obtain ⟨⟨buf,hr,hb64,hbl,hbt⟩,ho,hp⟩:=hw
   obtain ⟨b,off,rfl,hbg,hby⟩:=hp hlt
   clear hp
   have hcs:∀x∈cs,x<256:=by
    intro x hx
    obtain ⟨j,hj,rfl⟩:=List.getElem_of_mem hx
    simpa [hj] using hby.2 j
   obtain ⟨T,hT⟩:∃T,T=(m++cs.take n).length:=⟨_,rfl⟩
   have hTn:T=m.length+n:=by rw [hT];simp;omega
   obtain ⟨r,hrr⟩:∃r,r=T % 64:=⟨_,rfl⟩
   have hr64:r<64:=by omega
   have hri:(T:Int) % 64=(r:Int):=by omega
   rw [←hT] at hr hbt
   have c72:=hr.at 72 _ (stCells_taken _ _ _ hb64)
   have f72:=hr.frozen 72
   have hpos:(0:Int)<((cs.length - n:Nat):Int):=Int.ofNat_lt.2 (Nat.sub_pos_of_lt hlt)
   have HR:Hid (Row wr g 173 (yD6 (Sha.full (m++cs.take n)) buf T)):=hr
   have HT:Hid (T=(m++cs.take n).length):=hT
   have HN:Hid (T=m.length+n):=hTn
   have HX:Hid (r=T % 64):=hrr
   generalize hL:cs.length - n=L at *
   have hsl:=slice38_from g 8 r hr64
   clear hr hT hTn hrr
   go_wp2
   refine yD4 10 (by kernel_rfl) (by kernel_rfl) ?_
   simp only [List.take_succ_cons,List.take_zero,List.drop_succ_cons,List.drop_zero]
   repeat (go_big_quiet_step (fail))
   refine wpQuiet_nil ?_
   intro _ hw'
   obtain ⟨nq,hw''⟩:=hw'
   subst hw''
   obtain ⟨c,hc⟩:∃c,c=(cs.drop n).take (Nat.min L (64 - r)):=⟨_,rfl⟩
   obtain ⟨k,hk⟩:∃k,k=Nat.min L (64 - r):=⟨_,rfl⟩
   have hcl:c.length=k:=by rw [hc,←hk,List.length_take,List.length_drop,hL,Nat.min_eq_left (by rw [hk];exact Nat.min_le_left _ _)]
   have hkL:k≤L:=by rw [hk];exact Nat.min_le_left _ _
   have hk64:r+k≤64:=by have h:k≤64 - r:=by { rw [hk];exact Nat.min_le_right L (64 - r) };omega
   have hkor:k=L∨r+k=64:=by
    rcases Nat.le_total L (64 - r) with h|h
    ·exact Or.inl (by rw [hk];exact Nat.min_eq_left h)
    ·exact Or.inr (by rw [hk,show Nat.min L (64 - r)=64 - r from Nat.min_eq_right h];omega)
   have hkp:0<k:=by omega
   have hcg:∀j,j<c.length→c.getD j 0=cs.getD (n+j) 0:=by
    intro j hj
    rw [hcl] at hj
    rw [hc,←hk]
    simp [hj]
   refine yH8 (.tmp 16) (.tmp 17) rfl rfl g (8+r) (64 - r) (64 - r) b (off+n) L cap' 173 k rfl rfl _ (HR.out.drewN nq) c hcl hk ?_ (by rw [stCells_length,hb64];omega) ?_
   ·intro j hj
    rw [hcg j hj,Nat.add_assoc]
    exact (ho.bytes hbg hby).1 (n+j) (by omega)
   intro w1 hr1 ho1
   rw [stCells_bytes _ _ _ _ _ (by omega)] at hr1
   have HO:Hid (Only g w w1):=ho.trans ((Only.refl g wr).drewN nq |>.trans ho1)
   have HC:Hid (c=(cs.drop n).take k):=by rw [hk];exact hc
   clear hc hk HR c72 f72 ho ho1 hsl
   generalize hbuf:splice buf r c=buf1 at *
   have hb1:buf1.length=64:=by rw [←hbuf,length_splice _ _ _ (by omega),hb64]
   have c72:=hr1.at 72 _ (stCells_taken _ _ _ hb1)
   have f72:=hr1.frozen 72
   have HR:Hid (Row w1 g 173 (yD6 (Sha.full (m++cs.take n)) buf1 T)):=hr1
   clear hr1
   go_upto_region 2 with fail
   refine wp_region_lit ?_
   refine yC7 (.tmp 1) rfl rfl _ rfl ?_
   refine yC7 (.tmp 4) rfl rfl _ rfl ?_
   refine wpList_cut (.tmp 19) (.tmp 20) rfl rfl b (off+n) L cap' k rfl rfl hkL ?_
   intro p1 hp1
   refine yE3 (.tmp 21) rfl rfl _ rfl ?_
   refine wpList_nil ?_
   have hT61:T<2305843009213693952:=by have:=HN.out;omega
   have HP:Hid (cap'≠k→p1=some ⟨b,off+n+k,none⟩):=hp1
   clear hp1
   have HM:Hid (m++cs.take (n+k)=(m++cs.take n)++c):=by
    show _=_
    rw [List.take_add,HC.out,List.append_assoc]
   have hc256:∀x∈c,x<256:=fun x hx=>by
    rw [HC.out] at hx
    exact hcs x (List.mem_of_mem_drop (List.mem_of_mem_take hx))
   have HR2:Hid (Row (w1.setCell ⟨g,72,none⟩ (.int .u64 ((T:Int)+(k:Int)))) g 173 (yD6 (Sha.full (m++cs.take n)) buf1 (T+k))):=by
    have:=HR.out.setCell 72 (.int .u64 ((T+k:Nat):Int))
    rw [stCells_set _ _ _ _ hb1] at this
    exact this
   have HO2:Hid (Only g w (w1.setCell ⟨g,72,none⟩ (.int .u64 ((T:Int)+(k:Int))))):=HO.out.setCell 72 _
   have HW:∀W,StIn W g (m++cs.take (n+k))→Only g w W→WrIn w W g m cs p1 (n+k):=fun W h1 h2=>⟨h1,h2,fun hlt=>⟨b,off,by rw [HP.out (by omega),Nat.add_assoc],hbg,hby⟩⟩
   have HWW:Hid (∀W,StIn W g (m++cs.take (n+k))→Only g w W→WrIn w W g m cs p1 (n+k)):=HW
   clear HW
   by_cases hfull:r+k=64
   ·have hmod:((T:Int)+(k:Int)) % 64=0:=by omega
    go_wp2
    have hr2:=HR2.out
    have ho2:=HO2.out
    clear HR2 HO2 HO HR c72 f72
    generalize w1.setCell ⟨g,72,none⟩ (.int .u64 ((T:Int)+(k:Int)))=w2 at *
    have k0:=cell_regrown (hr2.at 0 _ (yD8 _ _ _ 0 (by decide)))
    have k1:=cell_regrown (hr2.at 1 _ (yD8 _ _ _ 1 (by decide)))
    have k2:=cell_regrown (hr2.at 2 _ (yD8 _ _ _ 2 (by decide)))
    have k3:=cell_regrown (hr2.at 3 _ (yD8 _ _ _ 3 (by decide)))
    have k4:=cell_regrown (hr2.at 4 _ (yD8 _ _ _ 4 (by decide)))
    have k5:=cell_regrown (hr2.at 5 _ (yD8 _ _ _ 5 (by decide)))
    have k6:=cell_regrown (hr2.at 6 _ (yD8 _ _ _ 6 (by decide)))
    have k7:=cell_regrown (hr2.at 7 _ (yD8 _ _ _ 7 (by decide)))
    generalize hM:Sha.full (m++cs.take n)=M at *
    have hby2:BytesIn w2 g 8 buf1:=⟨fun j hj=>hr2.at _ _ (stCells_byte _ _ _ j hj),fun j=>by
     by_cases hj:j<buf1.length
     ·have:=splice_lt buf c r hbl hc256 buf1[j] (by rw [hbuf];exact List.getElem_mem hj)
      simpa [hj] using this
     ·simp [hj]⟩
    have ht2:TabIn w2:=ho2.tab hg ht
    have cS:∀d os,Calls Tryd.prog 98 #[.pointer (some ⟨g,8,none⟩)] (grow (redrawn w2 d) os) fun e w''=>e = .returned (.agg (yC0 (Sha.sched buf1 64)).toArray)∧∃p:Regrown,w''=grow (redrawn w2 p.d) p.os:=fun d os=>Calls.regrown_of (sched_any g 8 buf1 _ hb1 (hby2.later (below_regrown w2 d os)))
    have cM:∀d os,Calls Tryd.prog 97 #[.agg (yC0 M.list).toArray,.agg (yC0 (Sha.sched buf1 64)).toArray] (grow (redrawn w2 d) os) fun e w''=>e = .returned (.agg (yC0 (Sha.comp M buf1).list).toArray)∧∃p:Regrown,w''=grow (redrawn w2 p.d) p.os:=fun d os=>Calls.regrown_of (mixed_any M buf1 _ (ht2.later (below_regrown w2 d os)))
    have CS:Hid (∀d os,Calls Tryd.prog 98 #[.pointer (some ⟨g,8,none⟩)] (grow (redrawn w2 d) os) fun e w''=>e = .returned (.agg (yC0 (Sha.sched buf1 64)).toArray)∧∃p:Regrown,w''=grow (redrawn w2 p.d) p.os):=cS
    have CM:Hid (∀d os,Calls Tryd.prog 97 #[.agg (yC0 M.list).toArray,.agg (yC0 (Sha.sched buf1 64)).toArray] (grow (redrawn w2 d) os) fun e w''=>e = .returned (.agg (yC0 (Sha.comp M buf1).list).toArray)∧∃p:Regrown,w''=grow (redrawn w2 p.d) p.os):=cM
    have HR2:Hid (Row w2 g 173 (yD6 M buf1 (T+k))):=hr2
    clear cS cM ht2 hby2 ht hr2
    refine wp_region_head_below 12 (by kernel_rfl) (by kernel_rfl) ?_
    simp only [List.take_succ_cons,List.take_zero,List.drop_succ_cons,List.drop_zero]
    repeat (go_big_quiet_step (first|exact CS.out _ _|exact CM.out _ _))
    refine wpQuiet_nil ?_
    intro _ hw'
    obtain ⟨⟨dq,osq⟩,hw''⟩:=hw'
    subst hw''
    have hr3:=HR2.out.later (below_regrown w2 dq osq) HR2.out.lt
    have ho3:Only g w (grow (redrawn w2 dq) osq):=ho2.trans (Only.of_below (below_regrown w2 dq osq))
    clear k0 k1 k2 k3 k4 k5 k6 k7 CS CM HR2 ho2
    generalize grow (redrawn w2 dq) osq=w3 at *
    refine yE2 agg37 (.tmp 48) (.tmp 46) rfl rfl rfl g 0 173 rfl (yC0 (Sha.comp M buf1).list) _ rfl (len8 _) hr3 (by rw [len8,stCells_length];omega) (wcells_one _) ?_
    refine wpList_nil ?_
    rw [stCells_words]
    have hr4:=hr3.setRow (yD6 (Sha.comp M buf1) buf1 (T+k))
    have ho4:=ho3.setRow (yD6 (Sha.comp M buf1) buf1 (T+k)).toArray
    clear hr3 ho3
    generalize w3.setRow g (yD6 (Sha.comp M buf1) buf1 (T+k)).toArray=w4 at *
    have hst:StIn w4 g (m++cs.take (n+k)):=by
     rw [HM.out]
     rw [←hbuf,←hM] at hr4
     exact StIn.fill' HT.out HX.out hcl hr4 hb64 hbl hc256 (by rw [HX.out];exact hbt) hfull
    go_wp2
    refine ⟨⟨n+k,cap' - k,p1,by omega,?_,by omega,HWW.out _ hst ho4⟩,by simp [sliceLen];omega⟩
    rw [show cs.length - (n+k)=L - k by omega]
   ·have hmod:((T:Int)+(k:Int)) % 64=((r+k:Nat):Int):=by omega
    have hne:¬ ((r+k:Nat):Int)=0:=by omega
    go_wp2
    have hst:StIn (w1.setCell ⟨g,72,none⟩ (.int .u64 ((T:Int)+(k:Int)))) g (m++cs.take (n+k)):=by
     rw [HM.out]
     have hr2:=HR2.out
     rw [←hbuf] at hr2
     exact StIn.part' HT.out HX.out hcl hr2 hb64 hbl hc256 (by rw [HX.out];exact hbt) (by omega)
    refine ⟨⟨n+k,cap' - k,p1,by omega,?_,by omega,HWW.out _ hst HO2.out⟩,by simp [sliceLen];omega⟩
    rw [show cs.length - (n+k)=L - k by omega]
  ·have e:n=cs.length:=by omega
   obtain ⟨hst,ho,_⟩:=hw
   rw [e,List.take_of_length_le (Nat.le_refl _)] at hst
   have hL:cs.length - n=0:=by omega
   rw [hL]
   go_wp2
   go_end0
   exact ⟨rfl,hst,ho⟩
end Go.Proofs.YtpkkkkomdblpoaaDoor.Sh

namespace Go.Proofs.YtpkkkkomdblpoaaDoor.Sh
open Go.RowKit
def fillB (bs:List Nat) (n:Nat):List Value:=yA0 bs++yB4 n
theorem fillB_set (bs:List Nat) (n x:Nat):(fillB bs (n+1)).set bs.length (.int .u8 (x:Nat))=fillB (bs++[x]) n:=by
 unfold fillB
 rw [List.set_append_right _ _ (by simp [yA1]),yD0,yA1,Nat.sub_self]
 simp [yB4,List.replicate_succ,yA0]
theorem fillB_length (bs:List Nat) (n:Nat):(fillB bs n).length=bs.length+n:=by simp [fillB,yA1,yB4]
theorem fillB_zeros (bs:List Nat) (k n:Nat):fillB (bs++List.replicate k 0) n=fillB bs (k+n):=by
 unfold fillB
 rw [yD0,List.append_assoc]
 congr 1
 simp [yA0,yB4]
theorem fillB_bytes {w:World} {g t:Nat} {bs:List Nat} {n:Nat} (h:Row w g t (fillB bs n)) (hb:∀x∈bs,x<256):BytesIn w g 0 bs:=by
 refine ⟨fun j hj => ?_,fun j => ?_⟩
 ·rw [Nat.zero_add,h.cell]
  unfold fillB
  rw [List.getElem?_append_left (by rw [yA1];exact hj),yC3 bs j hj]
 ·by_cases hj:j<bs.length
  ·simpa [hj] using hb _ (List.getElem_mem hj)
  ·simp [hj]
def endTo (T k:Nat):List Nat:=(128 :: List.replicate (Sha.zeros T) 0)++(Sha.lenBytes (8 * T)).take k
theorem endTo_length (T k:Nat) (h:k≤8):(endTo T k).length=Sha.zeros T+1+k:=by simp [endTo,Sha.lenBytes];omega
theorem endTo_next (T k:Nat) (h:k<8):endTo T (k+1)=endTo T k++[8 * T / 2 ^ (8 * (7 - k)) % 256]:=by
 unfold endTo
 rw [List.take_succ_eq_append_getElem (by simp [Sha.lenBytes];omega),←List.append_assoc]
 simp [Sha.lenBytes]
theorem endTo_all (T:Nat):endTo T 8=Sha.pad T:=by
 unfold endTo Sha.pad
 rw [List.take_of_length_le (by simp [Sha.lenBytes])]
 rfl
theorem pad_lt (T:Nat):∀x∈Sha.pad T,x<256:=by
 intro x hx
 unfold Sha.pad at hx
 rcases List.mem_cons.1 hx with rfl|hx
 ·decide
 ·rcases List.mem_append.1 hx with hx|hx
  ·have:=(List.mem_replicate.1 hx).2
   omega
  ·unfold Sha.lenBytes at hx
   obtain ⟨i,_,rfl⟩:=List.mem_map.1 hx
   omega
def EndIn (w W:World) (g g5 T k:Nat) (m:List Nat):Prop:=Row W g5 193 (fillB (endTo T k) (71 - Sha.zeros T - k))∧StIn W g m∧Below w.heap.size w W
theorem EndIn.step {w W:World} {g g5 T k z:Nat} {m:List Nat} (h:EndIn w W g g5 T k m) (hk:k<8) (hz:z=Sha.zeros T) (hz64:z<64) (hne:g≠g5) (hg:g5=w.heap.size) :
  EndIn w (W.setCell ⟨g5,z+1+k,none⟩ (.int .u8 (8 * (T:Int) / 2 ^ (8 * (7 - k)) % 256))) g g5 T (k+1) m:=by
 refine ⟨?_,h.2.1.only (g:=g5) ((Only.refl g5 W).setCell _ _) hne,h.2.2.setCell (by rw [hg];exact Nat.le_refl _) _⟩
 have h1:=h.1.setCell (z+1+k) (.int .u8 (8 * (T:Int) / 2 ^ (8 * (7 - k)) % 256))
 have e:(8 * (T:Int) / 2 ^ (8 * (7 - k)) % 256)=((8 * T / 2 ^ (8 * (7 - k)) % 256:Nat):Int):=by
  rw [Int.natCast_emod,Int.natCast_ediv,Int.natCast_mul,Int.natCast_pow]
  rfl
 have h2:=fillB_set (endTo T k) (71 - Sha.zeros T - (k+1)) (8 * T / 2 ^ (8 * (7 - k)) % 256)
 rw [endTo_length T k (by omega),←e,show 71 - Sha.zeros T - (k+1)+1=71 - Sha.zeros T - k by omega,←endTo_next T k hk] at h2
 rw [hz] at h1 ⊢
 rw [h2] at h1
 exact h1
set_option maxHeartbeats 1000000 in
set_option maxRecDepth 100000 in
theorem writeEnd_any (g:Nat) (m:List Nat) (w:World) (hs:StIn w g m) (ht:TabIn w) (hg:1<g) (hlen:m.length<1152921504606846976) :
  Calls Tryd.prog 99 #[.pointer (some ⟨g,0,none⟩)] w fun e w'=>e = .returned noResult∧StIn w' g (m++Sha.pad m.length)∧Only g w w':=by
 go_enter Tryd.func99,Tryd.ntmps99
 go_upto_region 0 with fail
 refine wp_region_lit ?_
 refine yD3 (yB4 72) zero52 rfl rfl ?_
 intro w1 r1 s1 b1
 refine wpList_nil ?_
 obtain ⟨T,hT⟩:∃T,T=m.length:=⟨_,rfl⟩
 obtain ⟨z,hz⟩:∃z,z=Sha.zeros T:=⟨_,rfl⟩
 have hz64:z<64:=by rw [hz];unfold Sha.zeros;omega
 have hzi:(64:Int) - ((T:Int)+8) % 64=(z:Int)+1:=by rw [hz];unfold Sha.zeros;omega
 have hT60:T<1152921504606846976:=by omega
 have hs1:=hs.later b1 hs.lt
 have hglt:=hs.lt
 obtain ⟨g5,hg5⟩:∃g5,g5=w.heap.size:=⟨_,rfl⟩
 rw [←hg5] at r1 ⊢
 have c72:w1.cell? ⟨g,72,none⟩=some (.int .u64 (T:Nat)):=by
  obtain ⟨buf,hr,hb,_⟩:=hs1
  rw [hT]
  exact hr.at 72 _ (stCells_taken _ _ _ hb)
 have c5:w1.cell? ⟨g5,0,none⟩=some (.int .u8 0):=r1.at 0 _ rfl
 have f5:=r1.frozen 0
 have hgne:g≠g5:=by omega
 have hE:EndIn w (w1.setCell ⟨g5,0,none⟩ (.int .u8 128)) g g5 T 0 m:=by
  refine ⟨?_,hs1.only (g:=g5) ((Only.refl g5 w1).setCell 0 _) hgne,b1.setCell (by rw [hg5];exact Nat.le_refl _) _⟩
  have:=r1.setCell 0 (.int .u8 128)
  rw [show fillB (endTo T 0) (71 - Sha.zeros T - 0)=fillB [128] 71 by
   show fillB ([128]++List.replicate (Sha.zeros T) 0++[]) _=_
   rw [List.append_nil,fillB_zeros]
   congr 1
   rw [←hz];omega]
  exact this
 have HE:Hid (EndIn w (w1.setCell ⟨g5,0,none⟩ (.int .u8 128)) g g5 T 0 m):=hE
 have HG:Hid (g5=w.heap.size):=hg5
 have HT:Hid (T=m.length):=hT
 have HZ:Hid (z=Sha.zeros T):=hz
 clear hE hs1 r1 s1 b1 hg5 hT hz hlen hglt
 go_wp2
 go_loopw [19] (fun i W => ∃k:Nat,k≤8∧i = .int .u64 k∧EndIn w W g g5 T k m) (fun i _=>8 - (intOf i).toNat)
 case atStart=>exact ⟨0,Nat.zero_le _,rfl,HE.out⟩
 case round =>
  clear HE c72 c5 f5
  obtain ⟨k,hk,rfl,he⟩:=hrel
  by_cases hlt:k<8
  ·have HE:Hid (EndIn w wr g g5 T k m):=he
   have f5:=he.1.frozen (z+1+k)
   obtain ⟨q,e0⟩:∃q,wr.cell? ⟨g5,z+1+k,none⟩=some q:=⟨_,he.1.at _ _ (List.getElem?_eq_getElem (by rw [fillB_length,endTo_length _ _ hk,←HZ.out];omega))⟩
   clear he
   go_wp2
   exact ⟨⟨k+1,by omega,by go_num,HE.out.step hlt HZ.out hz64 hgne HG.out⟩,by simp [intOf];omega⟩
  ·obtain rfl:k=8:=by omega
   have hsl:∀W,(Instr.sliceAt 193 (.pointer (some ⟨g5,0,none⟩)) none (some (.int .u64 ((z:Int)+1+8))) none).run Tryd.prog W = .ok (.slice (some ⟨g5,0,none⟩) (z+1+8) 72) W:=fun W=>slice52_to g5 (z+1+8) (by omega) W
   have hpl:(Sha.pad T).length=z+1+8:=by rw [Sha.pad_length,←HZ.out]
   have hsli:SliceOff wr g (.slice (some ⟨g5,0,none⟩) (z+1+8) 72) (Sha.pad T):=by
    refine ⟨some ⟨g5,0,none⟩,72,by rw [hpl],by rw [hpl];omega,Or.inr ⟨g5,0,rfl,fun h=>hgne h.symm,?_⟩⟩
    have h:=he.1
    rw [endTo_all] at h
    exact fillB_bytes h (pad_lt T)
   have hst:=he.2.1
   have hbl:=he.2.2
   clear he hpl
   go_wp2_with (go_at_call 82;refine (write_any g _ m (Sha.pad T) _ hst hsli (ht.later hbl) hg (by have:=HT.out;have:=Sha.pad_length T;have:=HZ.out;omega)).mono ?_;rintro e w' ⟨rfl,hst2,ho2⟩)
   go_end0
   rw [HT.out] at hst2
   exact ⟨rfl,hst2,(Only.of_below hbl).trans ho2⟩
end Go.Proofs.YtpkkkkomdblpoaaDoor.Sh

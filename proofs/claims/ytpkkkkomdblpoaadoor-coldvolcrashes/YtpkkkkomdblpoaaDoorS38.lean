/- Layer 15: what the law of a volume's calls wants: the volume beside the document's. Layer 15: an append, whatever the name. Layer 15: calls that come in; what else the law of a volume's calls wants. Layer 15: what stands on a tape that crashes, plain. Layer 15: the desk of the law of crashes. Layer 15: what else the law of crashes wants. -/
import Derived.Test.YtpkkkkomdblpoaaDoorS37
import Derived.Lib.Bytes
namespace Go.Proofs.YtpkkkkomdblpoaaDoor
open Go.RowKit Go.Maps
open Cold
section
variable {B gv gv':Nat} {c:Nat→Colour} {W W':World} {v:Value} {l:List Td} {q:Option Nat} {x:Nat}
theorem TdIn.reopen {t:Nat} (h:TdIn B t gv c W v l) (hg:W.heap.size≤gv'):TdIn B t gv' c W v l:=by
 obtain ⟨h0,L,h1,h2,h3⟩:=h
 refine ⟨fun b e => ?_,L,h1,h2,fun k hk => ?_⟩
 ·have k:=h0 b e
  exact ⟨k.1,by have:=k.1;omega,k.2.2⟩
 ·obtain ⟨vb,e,k1,k2⟩:=h3 k hk
  exact ⟨vb,e,⟨k1.1,k1.2.imp (fun e=>e) fun h b e=>⟨(h b e).1,by have:=(h b e).1;omega,(h b e).2.2⟩⟩,k2⟩
theorem TdIn.ge {t:Nat} (h:TdIn B t gv c W v l):∀b,v.ownBlock=some b→B≤b:=by
 obtain ⟨_,L,h1,_⟩:=h
 exact fun b e=>(h1.2.lt b e).1
end
section
variable {w W W':World} {c c':Nat→Colour} {gp gv gv' gy most:Nat} {m m':Pl} {os os':List Ob} {sd sd':Bool} {ol:List Ob} {sl sl':Bool} {vL vL':Value} {q:Option Nat} {K K':Nat} {x:Nat}
end
section
variable {w W:World} {c:Nat→Colour} {gp gv gy most:Nat} {m:Pl} {os:List Ob} {sd:Bool} {vL:Value} {q:Option Nat} {K:Nat}
end
end Go.Proofs.YtpkkkkomdblpoaaDoor

namespace Go.Proofs.YtpkkkkomdblpoaaDoor
open Go.RowKit Go.Maps
open Cold
set_option maxHeartbeats 4000000 in
set_option maxRecDepth 100000 in
theorem vappend_no {w:World} (gv:Nat) (id:List Nat) (vb:Value) (hid:∀c∈id,c<256) (hn:nameB id=false):Calls Tryd.prog 12 #[ptr gv,str id,vb] w fun e w'=>e = .returned (.tuple #[.agg (plC 0 0 0 false).toArray,.int .i64 1])∧Below w.heap.size w w':=by
 have HM:Hid ((∀c∈id,c<256)∧nameB id=false):=⟨hid,hn⟩
 have H0:Hid (Loc w w []):=Loc.nil (Below.refl _ _)
 clear hid hn
 obtain ⟨PQ,HPQ⟩:=exPQ fun (e:Ending) (w':World)=>e = .returned (.tuple #[.agg (plC 0 0 0 false).toArray,.int .i64 1])∧Below w.heap.size w w'
 rw [←HPQ.out]
 go_enter Tryd.func12,Tryd.ntmps12
 go_upto_region 0 with fail
 refine wp_region_lit ?_
 refine wl rfl _ _ (yB6 ((plC 0 0 0 false)) zero40 rfl) ?_
 have k_:=H0.out.box 40 ((plC 0 0 0 false))
 obtain ⟨w1,hW_⟩:∃W,W=w.alloc (.cells ((plC 0 0 0 false)).toArray 40):=⟨_,rfl⟩
 obtain ⟨q6,hq_⟩:∃q,q=w.heap.size:=⟨_,rfl⟩
 rw [←hW_,←hq_] at k_
 rw [←hW_,←hq_]
 clear hq_
 have Rw1:Hid (Loc w w1 [(q6,40,(plC 0 0 0 false))]):=k_
 clear k_ hW_ H0
 simp only [Act.put,aS,aC,aZ]
 refine wa (.const (.int .i64 0)) (.int .i64 0) ?_
 simp only [Act.put,aS,aC,aZ]
 refine wpList_nil ?_
 go_upto_region 1 with fail
 refine wp_region_lit ?_
 refine wm 1 (str id) ?_
 simp only [Act.put,aS,aC,aZ]
 refine yA5 eN37 [.tmp 12] _ rfl rfl [(str id)] rfl ?_
 refine (isName_any id HM.out.1 w1).mono ?_
 rintro e w2 ⟨rfl,hb_⟩
 refine ⟨_,rfl,?_⟩
 rw [HM.out.2]
 have H2:Hid (Loc w w2 [(q6,40,(plC 0 0 0 false))]):=Rw1.out.later hb_
 clear hb_ Rw1
 simp only [Act.put,aS,aC,aZ]
 refine wl rfl _ _ (yH3 (.tmp 13) 4 rfl false rfl) ?_
 refine wa (.tmp 14) (.bool true) ?_
 simp only [Act.put,aS,aC,aZ]
 refine wpList_nil ?_
 go_upto_region 2 with fail
 refine wp_region_lit ?_
 refine wl rfl _ _ (run_build40z rfl) ?_
 simp only [Act.put,aS,aC,aZ]
 refine wlS rfl rfl _ (yB3 ag40 (.tmp 6) (.tmp 15) rfl H2.out 0 rfl (0) rfl ((plC 0 0 0 false)) rfl rfl (by decide) (yJ2 _ _ _ _)).1 ?_
 have k_:=H2.out.lay 0 rfl (0) ((plC 0 0 0 false))
 rw [yB5 (plC 0 0 0 false) (plC 0 0 0 false) rfl] at k_ ⊢
 obtain ⟨w9,hW_⟩:∃W,W=w2.setRow q6 ((plC 0 0 0 false)).toArray:=⟨_,rfl⟩
 rw [←hW_] at k_ ⊢
 have Rw9:Hid (Loc w w9 [(q6,40,(plC 0 0 0 false))]):=k_
 clear k_ hW_ H2
 refine wa (.const (.int .i64 1)) (.int .i64 1) ?_
 simp only [Act.put,aS,aC,aZ]
 refine wpList_nil ?_
 go_wp2_with fail
 exact bodyPost_ret (yC9 ag40 Tryd.results12 _ _ q6 40 rfl (plC 0 0 0 false) rfl (Rw9.out.at 0 rfl) (.int .i64 1) rfl) rfl (by rw [HPQ.out];exact ⟨rfl,Rw9.out.below⟩)
end Go.Proofs.YtpkkkkomdblpoaaDoor

namespace Go.Proofs.YtpkkkkomdblpoaaDoor
open Go.RowKit Go.Maps
open Cold
structure OpD where
 k:Int
 n:Int
 id:List Nat
 bv:Value
 b:List Nat
 x:Pq
instance:Inhabited OpD:=⟨⟨0,0,[],.slice none 0 0,[],default⟩⟩
def OpD.cells (o:OpD):List Value:=[.int .i64 o.k,.int .i64 o.n,str o.id,o.bv,.int .i64 o.x.dv,.int .i64 o.x.at_,.int .i64 o.x.ln,.bool o.x.bd]
structure OpIn (W:World) (o:OpD):Prop where
 k:I64 o.k
 n:I64 o.n
 id:∀c∈o.id,c<256
 b:yA2 W o.bv o.b
 x:o.x.ok
theorem OpIn.one {W:World} {o:OpD} (h:OpIn W o):∀v∈o.cells,v.oneCell'=true:=by
 obtain ⟨p,cp,e,_⟩:=h.b
 intro u hu
 unfold OpD.cells at hu
 rw [e] at hu
 simp only [List.mem_cons,List.not_mem_nil,or_false] at hu
 rcases hu with rfl|rfl|rfl|rfl|rfl|rfl|rfl|rfl <;> rfl
def OpsIn (W:World) (v:Value) (L:List OpD):Prop :=
 ∃p cap,v = .slice p L.length cap∧L.length≤9223372036854775807∧(L=[]∨∃g off,p=some ⟨g,off,none⟩∧∀i,i<L.length→∀j,j<8→W.cell? ⟨g,off+(i * 8+j),none⟩=(L.getD i default).cells[j]?)∧∀o∈L,OpIn W o
theorem und22p:Tryd.prog.underlying 22=some (.slice 42):=by kernel_rfl
theorem sz42p:(Tryd.prog.info? 42).map (·.size)=some 8:=by kernel_rfl
theorem zero42:(Tryd.prog.info? 42).map (·.zero)=some (some (.agg (default:OpD).cells.toArray)):=by kernel_rfl
theorem ix_op {w:World} {v:Value} {us:List OpD} (hin:OpsIn w v us) (k:Nat) (hk:k<us.length):∃b j,(∀w',(Instr.indexAt 22 v (.int .i64 (k:Nat))).run Tryd.prog w' = .ok (.pointer (some ⟨b,j,none⟩)) w')∧OpIn w (us.getD k default)∧∀W,Below w.heap.size w W→∀(i:Nat) u,(us.getD k default).cells[i]? = some u→W.cell? ⟨b,j+i,none⟩=some u:=by
 obtain ⟨i3,hi3,hsz⟩:=Option.map_eq_some_iff.1 sz42p
 obtain ⟨p,cap,rfl,hl,h,hop⟩:=hin
 rcases h with rfl|⟨b,off,rfl,hc⟩
 ·simp at hk
 ·have hm:us.getD k default∈us:=by rw [List.getD_eq_getElem?_getD,List.getElem?_eq_getElem hk];exact List.getElem_mem hk
  refine ⟨b,off+k * 8,fun w'=>by simp [Instr.indexAt,asIntOf,run_underlying und22p,hk,sizeOf,typeInfo,hi3,hsz,yB7],hop _ hm,fun W hW i u hu => ?_⟩
  have hi:i<8:=by
   have:=(List.getElem?_eq_some_iff.1 hu).1
   simpa [OpD.cells] using this
  have h9:=hc k hk i hi
  rw [hu] at h9
  rw [Nat.add_assoc]
  exact cell_later hW h9
theorem run_lenOp {w w0:World} {a:Act} {o:Oper} {v:Value} {us:List OpD} (h:OpsIn w0 v us) (x:Operand) (ho:o.op = .call { callee:=.builtin .len,args:=#[x],argTypes:=#[22] }) (hx:a.eval x=v):(execOp a.eval o).run Tryd.prog w = .ok (.value (.int .i64 (us.length:Nat))) w:=by
 obtain ⟨p,cap,rfl,_⟩:=h
 exact run_lenZ sl22 x ho p _ _ hx
theorem OpsIn.few {w:World} {v:Value} {L:List OpD} (h:OpsIn w v L):L.length≤9223372036854775807:=by
 obtain ⟨_,_,_,h1,_⟩:=h
 exact h1
theorem TdIn.noR {B t gv:Nat} {c:Nat→Colour} {W:World} {v:Value} {l:List Td} (h:TdIn B t gv c W v l) {q T:Nat} {cs:List Value} (hr:Row W q T cs) (hT:T≠48):¬ v.ownBlock=some q:=by
 obtain ⟨_,L,h1,_⟩:=h
 rcases h1.2.2 with ⟨rfl,_⟩|⟨g,cap,cur,rfl,_,hg,_⟩
 ·intro e;cases e
 ·intro e
  have e3:g=q:=Option.some.inj e
  unfold Row at hr
  rw [←e3,hg] at hr
  injection hr with h9
  injection h9 with _ h9
  exact hT h9.symm
section
variable {w W W':World} {c c':Nat→Colour} {gv gy B x:Nat} {v:Value} {cs:List Nat}
end
section
variable {w W W':World} {c:Nat→Colour} {gp gv gy most:Nat} {m:Pl} {os:List Ob} {sd:Bool} {ol:List Ob} {sl:Bool} {vL:Value} {q:Option Nat} {K:Nat}
end
end Go.Proofs.YtpkkkkomdblpoaaDoor

namespace Go.Proofs.YtpkkkkomdblpoaaDoor
open Go.RowKit Go.Maps
open Cold
theorem seg_app {α:Type} (ct X:List α) (a n:Nat) (h:a+n≤ct.length):((ct++X).drop a).take n=(ct.drop a).take n:=by
 rw [List.drop_append_of_le_length (by omega),List.take_append_of_le_length (by rw [List.length_drop];omega)]
theorem ObjAt.app {d a:Nat} {ct:List (List Nat)} {id bs:List Nat} (h:ObjAt d a ct id bs) (X:List (List Nat)):ObjAt d a (ct++X) id bs :=
 ⟨by rw [List.length_append];have:=h.1;omega,by rw [seg_app ct X a _ h.1];exact h.2⟩
theorem ObjAt.cut {d a:Nat} {ct X:List (List Nat)} {id bs:List Nat} (h:ObjAt d a (ct++X) id bs) (hl:a+nb bs.length≤ct.length):ObjAt d a ct id bs :=
 ⟨hl,by have:=h.2;rwa [seg_app ct X a _ hl] at this⟩
theorem ObjAt.bk {d a:Nat} {ct:List (List Nat)} {id bs:List Nat} (h:ObjAt d a ct id bs) (i:Nat) (hi:i<nb bs.length):ct.getD (a+i) []=Cold.bk d a id bs i:=by
 have e:=h.2.at i (by rw [h.2.num];exact hi)
 rwa [cutD ct a _ i hi] at e
theorem ObjAt.back {d a:Nat} {ct X:List (List Nat)} {id bs:List Nat} (h:ObjAt d a (ct++X) id bs) (ha:a<ct.length) (hX:∀b,X.head? = some b→∀i,i<256→b.drop 56≠tg 111 d a i) (hn:bs.length≤512):ObjAt d a ct id bs:=by
 by_cases hl:a+nb bs.length≤ct.length
 ·exact h.cut hl
 ·exfalso
  have hb:=nb_le hn
  have h1:=h.1
  rw [List.length_append] at h1
  cases X with
  | nil=>simp at h1;omega
  | cons b r =>
   have hi:ct.length - a<nb bs.length:=by omega
   have e:=h.bk (ct.length - a) hi
   rw [show a+(ct.length - a)=ct.length by omega,getD_app2 _ _ _ _ (Nat.le_refl _),Nat.sub_self] at e
   have e2:b=Cold.bk d a id bs (ct.length - a):=e
   have e3:=hX b rfl (ct.length - a) (by omega)
   rw [e2,bk_drop _ _ _ _ _ hi] at e3
   exact e3 rfl
structure Cr (ct F:List (List Nat)) (P:Nat→Ob→Prop) (T:List Td):Prop where
 okP:OkP P
 own:OwnP 0 ct P
 lt:∀s o,P s o→s<ct.length
 tw:∀s o,P s o→ObjAt 0 s ct o.1 o.2→∃j,j<T.length∧(T.getD j default).id=o.1∧(T.getD j default).bs=o.2∧(T.getD j default).a=s
 td:∀j,j<T.length→OkOb ((T.getD j default).id,(T.getD j default).bs)∧(T.getD j default).d=0∧(T.getD j default).n=nb (T.getD j default).bs.length∧(T.getD j default).a≤4096
 fl:∀j,j<T.length→(T.getD j default).fl=true→ObjAt 0 (T.getD j default).a F (T.getD j default).id (T.getD j default).bs
 pre:∃X,ct=F++X
 few:ct.length≤4096
def Fresh (ct:List (List Nat)) (T:List Td) (beg:Nat):Prop := ∀j,beg≤j→j<T.length→ObjAt 0 (T.getD j default).a ct (T.getD j default).id (T.getD j default).bs
theorem Cr.new:Cr [] [] (fun _ _=>False) [] :=
 ⟨⟨fun _ _ _ h=>h.elim,fun _ _ h=>h.elim⟩,fun _ hp=>absurd hp (Nat.not_lt_zero _),fun _ _ h=>h.elim,fun _ _ h=>h.elim,fun _ hj=>absurd hj (Nat.not_lt_zero _),fun _ hj=>absurd hj (Nat.not_lt_zero _),⟨[],rfl⟩,Nat.zero_le _⟩
section
variable {ct F:List (List Nat)} {P:Nat→Ob→Prop} {T:List Td} {beg:Nat}
theorem first_tag (o:Ob) (k:Nat) {L s:Nat} (hs:s<L) (hL:L≤4096):∀b,((blks 0 L o.1 o.2).take k).head? = some b→∀i,i<256→b.drop 56≠tg 111 0 s i:=by
 intro b hb i hi e
 have hp:=nb_pos o.2.length
 cases k with
 | zero=>simp at hb
 | succ k =>
  have hb2:(blks 0 L o.1 o.2)[0]? = some b:=by
   rw [List.head?_eq_getElem?,List.getElem?_take,if_pos (Nat.succ_pos k)] at hb
   exact hb
  have e2:(blks 0 L o.1 o.2).getD 0 []=b:=by rw [List.getD_eq_getElem?_getD,hb2];rfl
  rw [blks_at _ _ _ _ _ (by omega)] at e2
  rw [←e2,bk_drop _ _ _ _ _ (by omega)] at e
  obtain ⟨_,e1,_⟩:=tg_inj e (by decide) (by decide) (by omega) (by omega) (by omega) (by omega)
  omega
theorem Cr.all (h:Cr ct F P T) {id bs:List Nat} (ho:OkOb (id,bs)) (hl:ct.length+nb bs.length≤4096):Cr (ct++blks 0 ct.length id bs) F (fun s x=>P s x∨(s=ct.length∧x=(id,bs))) (T++[⟨id,bs,0,ct.length,nb bs.length,false⟩]):=by
 have hp:=nb_pos bs.length
 have hw:(blks 0 ct.length id bs).take (nb bs.length)=blks 0 ct.length id bs:=List.take_of_length_le (by rw [yC1];exact Nat.le_refl _)
 refine ⟨⟨fun s o o' h1 h2 => ?_,fun s o h1 => ?_⟩,?_,fun s o h1 => ?_,fun s o h1 h2 => ?_,fun j hj => ?_,fun j hj hf => ?_,?_,?_⟩
 ·rcases h1 with h1|⟨h1,rfl⟩
  ·rcases h2 with h2|⟨h2,rfl⟩
   ·exact h.okP.one s o o' h1 h2
   ·have:=h.lt s o h1;omega
  ·rcases h2 with h2|⟨h2,rfl⟩
   ·have:=h.lt s o' h2;omega
   ·rfl
 ·rcases h1 with h1|⟨h1,rfl⟩
  ·exact h.okP.ok s o h1
  ·exact ho
 ·have:=h.own.app (id,bs) (nb bs.length) (Nat.le_refl _)
  rwa [hw] at this
 ·rw [List.length_append,yC1]
  rcases h1 with h1|⟨h1,rfl⟩
  ·have:=h.lt s o h1;omega
  ·omega
 ·rcases h1 with h1|⟨h1,rfl⟩
  ·have hs:=h.lt s o h1
   have h3:ObjAt 0 s ct o.1 o.2:=h2.back hs (by rw [←hw];exact first_tag (id,bs) _ hs h.few) (h.okP.ok s o h1).2.1
   obtain ⟨j,h4,h5⟩:=h.tw s o h1 h3
   exact ⟨j,by simp;omega,by rw [yG6 _ _ _ _ h4];exact h5⟩
  ·exact ⟨T.length,by simp,by rw [yH1 _ _ _ _ rfl];exact ⟨rfl,rfl,h1.symm⟩⟩
 ·rcases Nat.lt_or_ge j T.length with q|q
  ·rw [yG6 _ _ _ _ q];exact h.td j q
  ·rw [yH1 T _ _ j (by simp at hj;omega)]
   exact ⟨ho,rfl,rfl,by have:=h.few;exact this⟩
 ·rcases Nat.lt_or_ge j T.length with q|q
  ·rw [yG6 _ _ _ _ q] at hf ⊢;exact h.fl j q hf
  ·rw [yH1 T _ _ j (by simp at hj;omega)] at hf
   cases hf
 ·obtain ⟨X,hX⟩:=h.pre
  exact ⟨X++blks 0 ct.length id bs,by rw [←List.append_assoc,←hX]⟩
 ·rw [List.length_append,yC1];exact hl
theorem Fresh.all (h:Fresh ct T beg) {id bs:List Nat} (ho:OkOb (id,bs)):Fresh (ct++blks 0 ct.length id bs) (T++[⟨id,bs,0,ct.length,nb bs.length,false⟩]) beg:=fun j h1 h2=>by
 rcases Nat.lt_or_ge j T.length with q|q
 ·rw [yG6 _ _ _ _ q];exact (h j h1 q).app _
 ·rw [yH1 T _ _ j (by simp at h2;omega)]
  exact objAt_mid (Y:=[]) (by rw [List.append_nil]) rfl ho
theorem Cr.part (h:Cr ct F P T) {id bs:List Nat} (ho:OkOb (id,bs)) (hl:ct.length+nb bs.length≤4096) (k:Nat) (hk:k<nb bs.length):∃P',Cr (ct++(blks 0 ct.length id bs).take k) F P' T:=by
 cases k with
 | zero=>exact ⟨P,by rw [List.take_zero,List.append_nil];exact h⟩
 | succ k =>
  refine ⟨fun s x=>P s x∨(s=ct.length∧x=(id,bs)),⟨fun s o o' h1 h2 => ?_,fun s o h1 => ?_⟩,h.own.app (id,bs) (k+1) (Nat.le_of_lt hk),fun s o h1 => ?_,fun s o h1 h2 => ?_,h.td,h.fl,?_,?_⟩
  ·rcases h1 with h1|⟨h1,rfl⟩
   ·rcases h2 with h2|⟨h2,rfl⟩
    ·exact h.okP.one s o o' h1 h2
    ·have:=h.lt s o h1;omega
   ·rcases h2 with h2|⟨h2,rfl⟩
    ·have:=h.lt s o' h2;omega
    ·rfl
  ·rcases h1 with h1|⟨h1,rfl⟩
   ·exact h.okP.ok s o h1
   ·exact ho
  ·rw [List.length_append,List.length_take,yC1]
   rcases h1 with h1|⟨h1,rfl⟩
   ·have:=h.lt s o h1;omega
   ·omega
  ·rcases h1 with h1|⟨h1,rfl⟩
   ·have hs:=h.lt s o h1
    exact h.tw s o h1 (h2.back hs (first_tag (id,bs) _ hs h.few) (h.okP.ok s o h1).2.1)
   ·have h9:s+nb bs.length≤_:=h2.1
    rw [List.length_append,List.length_take,yC1] at h9
    omega
  ·obtain ⟨X,hX⟩:=h.pre
   exact ⟨X++(blks 0 ct.length id bs).take (k+1),by rw [←List.append_assoc,←hX]⟩
  ·rw [List.length_append,List.length_take,yC1];omega
theorem Cr.flush (h:Cr ct F P T):Cr ct ct P T:=⟨h.okP,h.own,h.lt,h.tw,h.td,fun j hj hf=>by
 obtain ⟨X,hX⟩:=h.pre
 rw [hX]
 exact (h.fl j hj hf).app X,⟨[],by rw [List.append_nil]⟩,h.few⟩
def Td.flushed (t:Td):Td:=⟨t.id,t.bs,t.d,t.a,t.n,true⟩
theorem getD_set (T:List Td) (k j:Nat) (t:Td) (hk:k<T.length):(T.set k t).getD j default=if j=k then t else T.getD j default:=by
 rw [List.getD_eq_getElem?_getD,List.getElem?_set]
 by_cases e:k=j
 ·subst e;simp [hk]
 ·rw [if_neg e,if_neg (fun q=>e q.symm),←List.getD_eq_getElem?_getD]
theorem Cr.flag (h:Cr ct ct P T) (hn:Fresh ct T beg) (k:Nat) (h1:beg≤k) (h2:k<T.length):Cr ct ct P (T.set k (T.getD k default).flushed)∧Fresh ct (T.set k (T.getD k default).flushed) beg:=by
 have key:∀j,j<T.length→((T.set k (T.getD k default).flushed).getD j default).id=(T.getD j default).id∧((T.set k (T.getD k default).flushed).getD j default).bs=(T.getD j default).bs∧((T.set k (T.getD k default).flushed).getD j default).d=(T.getD j default).d∧((T.set k (T.getD k default).flushed).getD j default).a=(T.getD j default).a∧((T.set k (T.getD k default).flushed).getD j default).n=(T.getD j default).n:=fun j _=>by
  rw [getD_set T k j _ h2]
  split
  ·rename_i e;rw [e];exact ⟨rfl,rfl,rfl,rfl,rfl⟩
  ·exact ⟨rfl,rfl,rfl,rfl,rfl⟩
 refine ⟨⟨h.okP,h.own,h.lt,fun s o a b => ?_,fun j hj => ?_,fun j hj hf => ?_,h.pre,h.few⟩,fun j a b => ?_⟩
 ·obtain ⟨j,c,d⟩:=h.tw s o a b
  have e:=key j c
  exact ⟨j,by rw [List.length_set];exact c,by rw [e.1,e.2.1,e.2.2.2.1];exact d⟩
 ·rw [List.length_set] at hj
  have e:=key j hj
  rw [e.1,e.2.1,e.2.2.1,e.2.2.2.1,e.2.2.2.2]
  exact h.td j hj
 ·rw [List.length_set] at hj
  have e:=key j hj
  rw [e.1,e.2.1,e.2.2.2.1]
  by_cases q:j=k
  ·subst q;exact hn j h1 hj
  ·rw [getD_set T k j _ h2,if_neg q] at hf
   exact h.fl j hj hf
 ·rw [List.length_set] at b
  have e:=key j b
  rw [e.1,e.2.1,e.2.2.2.1]
  exact hn j a b
theorem Cr.boot (h:Cr ct F P T) (n:Nat) (h1:F.length≤n) (h2:n≤ct.length) {ct':List (List Nat)} (h3:ct'=ct.take n∨(n<ct.length∧∃b,b.length=64∧ct'=ct.take n++[torn b])):∃P',Cr ct' ct' P' T:=by
 have hlt:(ct.take n).length=n:=by rw [List.length_take];omega
 have hct:∃Y,ct'=ct.take n++Y∧(∀b∈Y,∀a i,b.drop 56≠tg 111 0 a i)∧Y.length≤ct.length - n:=by
  rcases h3 with e|⟨q,b,hb,e⟩
  ·exact ⟨[],by rw [e,List.append_nil],(fun b hb=>by cases hb),Nat.zero_le _⟩
  ·exact ⟨[torn b],e,fun x hx a i=>by rw [List.mem_singleton.1 hx];exact torn_tag hb 111 0 a i (by decide),by simp;omega⟩
 obtain ⟨Y,e,hY,hYl⟩:=hct
 have hF:∃Z,ct'=F++Z:=by
  obtain ⟨X,hX⟩:=h.pre
  refine ⟨X.take (n - F.length)++Y,?_⟩
  rw [e,hX,List.take_append,List.take_of_length_le h1,List.append_assoc]
 refine ⟨fun s o=>P s o∧s<n,⟨fun s o o' a b=>h.okP.one s o o' a.1 b.1,fun s o a=>h.okP.ok s o a.1⟩,?_,fun s o a => ?_,fun s o a b => ?_,h.td,fun j hj hf => ?_,⟨[],by rw [List.append_nil]⟩,?_⟩
 ·rw [e]
  exact (h.own.take n).appNo Y fun b hb a i _ _=>hY b hb a i
 ·rw [e,List.length_append,hlt];have:=a.2;omega
 ·have c:ObjAt 0 s (ct.take n) o.1 o.2:=by
   rw [e] at b
   refine b.back (by rw [hlt];exact a.2) (fun x hx i _=>hY x (List.mem_of_mem_head? hx) s i) (h.okP.ok s o a.1).2.1
  have d:=c.app (ct.drop n)
  rw [List.take_append_drop] at d
  exact h.tw s o a.1 d
 ·obtain ⟨Z,hZ⟩:=hF
  rw [hZ]
  exact (h.fl j hj hf).app Z
 ·rw [e,List.length_append,hlt];have:=h.few;omega
theorem Cr.read (h:Cr ct F P T) (k:Nat) {id bs:List Nat} {N:Nat} (hn:(T.getD k default).a+N≤ct.length) (hN:N=(T.getD k default).n) (hi:IsObj 0 (T.getD k default).a ((ct.drop (T.getD k default).a).take N) id bs) (hk:k<T.length):∃j,j<T.length∧(T.getD j default).id=id∧(T.getD j default).bs=bs∧(T.getD j default).d=(T.getD k default).d∧(T.getD j default).a=(T.getD k default).a∧(T.getD j default).n=(T.getD k default).n:=by
 obtain ⟨h1,h2⟩:=h.own.read h.okP hn (by have:=h.few;omega) hi
 obtain ⟨j,h3,h4,h5,h6⟩:=h.tw _ _ h1 ⟨by rw [←h2];exact hn,by rw [←h2];exact hi⟩
 have h7:=h.td j h3
 have h8:=h.td k hk
 refine ⟨j,h3,h4,h5,by rw [h7.2.1,h8.2.1],h6,?_⟩
 rw [h7.2.2.1,h5,←hN,h2]
end
end Go.Proofs.YtpkkkkomdblpoaaDoor

namespace Go.Proofs.YtpkkkkomdblpoaaDoor
open Go.RowKit Go.Maps
open Cold
section
variable {W W':World} {c:Nat→Colour} {t gp gv d:Nat} {sz:Int} {m:Pl} {rt:List Nat} {sl:Bool} {S:Nat→Prop}
theorem VolW.own (h:VolW W c t gp gv d sz m rt sl) (hc:Ch S W W') (hS:∀b,S b→Out t gv c W b):VolW W' c t gp gv d sz m rt sl :=
 ⟨hc.row (fun x=>(hS _ x).2.1 rfl) h.row,h.len,h.col,⟨h.live.1.kept hc.size fun b hlt hk=>⟨hc.block b hlt (fun x=>(hS b x).2.2.1 (by rw [hk])),rfl⟩,h.live.2.1,fun b hlt=>h.live.2.2 b (Nat.le_trans hc.size hlt)⟩,h.env.ch hc (fun x=>by have:=(hS 0 x).2.2.2;omega) (fun x=>by have:=(hS 1 x).2.2.2;omega) (fun x=>by have:=(hS 2 x).2.2.2;omega),h.dev,h.tape,h.size,h.far,h.gl⟩
end
theorem flatC_cell {n:Nat} {L:List (List Value)} (h:CAll n L) (k j:Nat) (hk:k<L.length) (hj:j<n) (v:Value):L.flatten.set (k * n+j) v=(L.set k ((L.getD k []).set j v)).flatten:=by
 induction L generalizing k with
 | nil=>simp at hk
 | cons x xs ih =>
  have hx:=(h x (List.mem_cons_self ..)).1
  cases k with
  | zero =>
   rw [Nat.zero_mul,Nat.zero_add,List.flatten_cons,List.set_append_left _ _ (by omega)]
   rfl
  | succ k =>
   rw [show (k+1) * n+j=x.length+(k * n+j) by rw [Nat.add_mul,hx];omega,List.flatten_cons,List.set_append_right _ _ (by omega),Nat.add_sub_cancel_left,ih (fun y hy=>h y (List.mem_cons_of_mem _ hy)) k (by simpa using hk)]
   rfl
theorem CAll.putL {n:Nat} {L:List (List Value)} (h:CAll n L) (k:Nat) {b:List Value} (hb:b.length=n∧∀v∈b,v.oneCell'=true):CAll n (L.set k b):=fun x hx=>(List.mem_or_eq_of_mem_set hx).elim (h x) (fun e=>e▸hb)
theorem TdIn.flag {B t gv:Nat} {c:Nat→Colour} {W:World} {v:Value} {T:List Td} (h:TdIn B t gv c W v T) (k:Nat) (hk:k<T.length):∃g cur,(∀w',(Instr.indexAt 35 v (.int .i64 (k:Nat))).run Tryd.prog w' = .ok (.pointer (some ⟨g,k * 7,none⟩)) w')∧Row W g 48 cur∧k * 7+6<cur.length∧v.ownBlock=some g∧TdIn B t gv c (W.setCell ⟨g,k * 7+6,none⟩ (.bool true)) v (T.set k (T.getD k default).flushed)∧Ch (fun b=>v.ownBlock=some b) W (W.setCell ⟨g,k * 7+6,none⟩ (.bool true)):=by
 obtain ⟨h0,L,h1,h2,h3⟩:=h
 obtain ⟨g,hvg,_,hx,_⟩:=h1.ix el35 k (by rw [h2];exact hk)
 have hsv:=h1.2
 rcases h1.2.2 with ⟨rfl,_⟩|⟨g',cap,cur,rfl,hb,hg,hcap,hmax,hsz,htake⟩
 ·cases hvg
 ·have e:g'=g:=Option.some.inj hvg
  subst e
  have hc:Ch (fun b=>(Value.slice (some ⟨g',0,none⟩) L.length cap).ownBlock=some b) W (W.setCell ⟨g',k * 7+6,none⟩ (.bool true)):=(Ch.refl (fun b=>(Value.slice (some ⟨g',0,none⟩) L.length cap).ownBlock=some b) W).setCell (g:=g') (Or.inl rfl) (k * 7+6) (.bool true)
  obtain ⟨vb,hM,hs,hn⟩:=h3 k hk
  refine ⟨g',cur.toList,hx,by unfold Row;rw [hg],by rw [Array.length_toList,hsz];have:L.length≤cap:=hcap;rw [h2] at this;omega,rfl,⟨fun b e => ?_,L.set k ((L.getD k []).set 6 (.bool true)),⟨h1.1.putL k ?_,?_⟩,by rw [List.length_set,List.length_set];exact h2,fun j hj => ?_⟩,hc⟩
  ·have q:=h0 b e
   exact ⟨Nat.lt_of_lt_of_le q.1 hc.size,q.2⟩
  ·rw [hM]
   exact tdC_is (T.getD k default).flushed hs.1
  ·rw [List.length_set,←flatC_cell h1.1 k 6 (by rw [h2];exact hk) (by decide)]
   exact (World.ownsRow.stored hsv (k * 7+6) (.bool true)).1
  ·rw [List.length_set] at hj
   by_cases q:j=k
   ·subst q
    refine ⟨vb,?_,?_,?_⟩
    ·rw [List.getD_eq_getElem?_getD,List.getElem?_set,if_pos rfl,if_pos (by rw [h2];exact hj),hM,getD_set T j j _ hj,if_pos rfl]
     rfl
    ·rw [getD_set T j j _ hj,if_pos rfl]
     exact hs.own hc (hn.imp (fun e=>e) fun q b e e2=>q b e e2)
    ·rw [getD_set T j j _ hj,if_pos rfl]
     exact hn
   ·obtain ⟨ub,uM,us,un⟩:=h3 j hj
    refine ⟨ub,?_,?_,?_⟩
    ·rw [List.getD_eq_getElem?_getD,List.getElem?_set,if_neg (fun e=>q e.symm),←List.getD_eq_getElem?_getD,uM,getD_set T k j _ hk,if_neg q]
    ·rw [getD_set T k j _ hk,if_neg q]
     exact us.own hc (un.imp (fun e=>e) fun q b e e2=>q b e e2)
    ·rw [getD_set T k j _ hk,if_neg q]
     exact un
structure Jm (w W:World) (c:Nat→Colour) (gp gv most:Nat) (m:Pl) (T:List Td) (vT:Value) (q5:Nat) (kc:List Value) (K:Nat):Prop where
 v:∃rt sl,VolW W c 2 gp gv 0 (most:Nat) m rt sl
 f:Fr0 w W c 2 gv
 t:TdIn w.heap.size 2 gv c W vT T
 b:Row W q5 61 kc
 o:Out 2 gv c W q5
 g:w.heap.size≤q5
 s:yK7 m [] [most]
 k:m.steps≤K
section
variable {w W W':World} {c c':Nat→Colour} {gp gv gv' most:Nat} {m m':Pl} {T T':List Td} {vT vT':Value} {q5:Nat} {kc:List Value} {K K':Nat}
theorem Jm.bel (h:Jm w W c gp gv most m T vT q5 kc K) (hb:Below W.heap.size W W'):Jm w W' c gp gv most m T vT q5 kc K:=by
 obtain ⟨rt,sl,hv⟩:=h.v
 exact ⟨⟨rt,sl,hv.below hb⟩,h.f.sq (Sq.bel c hb),h.t.sq (Sq.bel c hb),h.b.later hb h.b.lt,((Sq.bel c hb).out h.o).1,h.g,h.s,h.k⟩
theorem Jm.turn (h:Jm w W c gp gv most m T vT q5 kc K) (s:Sq 2 gv W W' c c') (v:∃rt sl,VolW W' c' 2 gp gv 0 (most:Nat) m' rt sl) (hs:m'.sh=m.sh) (hk:m'.steps≤K'):Jm w W' c' gp gv most m' T vT q5 kc K' :=
 ⟨v,h.f.sq s,h.t.sq s,s.row h.o h.b,(s.out h.o).1,h.g,hs.trans h.s,hk⟩
theorem Jm.spt (h:Jm w W c gp gv most m T vT q5 kc K) (s:SpT 2 W W' c c') (l:Live W' c' 2 gp m') (hs:m'.sh=m.sh) (hk:m'.steps≤K'):Sq 2 gv W W' c c'∧Jm w W' c' gp gv most m' T vT q5 kc K':=by
 obtain ⟨rt,sl,hv⟩:=h.v
 have q:Sq 2 gv W W' c c':=⟨s.cc,s.ch.mono fun b _ e=>Or.inr e⟩
 exact ⟨q,h.turn q ⟨rt,sl,hv.sh s l hs⟩ hs hk⟩
theorem Jm.next (h:Jm w W c gp gv most m T vT q5 kc K) (n:Next W c 2 gp m' W') (hs:m'.sh=m.sh) (hk:m'.steps≤K'):∃c',Sq 2 gv W W' c c'∧Jm w W' c' gp gv most m' T vT q5 kc K':=by
 obtain ⟨c',s,l⟩:=n.spT
 exact ⟨c',h.spt s l hs hk⟩
theorem Jm.le (h:Jm w W c gp gv most m T vT q5 kc K) (hk:K≤K'):Jm w W c gp gv most m T vT q5 kc K':=⟨h.v,h.f,h.t,h.b,h.o,h.g,h.s,Nat.le_trans h.k hk⟩
theorem Jm.reopen (h:Jm w W c gp gv most m T vT q5 kc K) (hb:Below W.heap.size W W') (hg:W.heap.size≤gv') (v:∃rt sl,VolW W' c 2 gp gv' 0 (most:Nat) m rt sl):Jm w W' c gp gv' most m T vT q5 kc K :=
 ⟨v,⟨h.f.bel.trans (hb.mono h.f.bel.size),Nat.le_trans h.f.bel.size hg,h.f.col⟩,(h.t.reopen hg).sq (Sq.bel _ hb),h.b.later hb h.b.lt,⟨Nat.lt_of_lt_of_le h.o.1 hb.size,by have:=h.o.1;omega,h.o.2.2⟩,h.g,h.s,h.k⟩
theorem Jm.told (h:Jm w W c gp gv most m T vT q5 kc K) (hc:Ch (fun b=>vT.ownBlock=some b) W W') (ht:TdIn w.heap.size 2 gv c W' vT' T'):Jm w W' c gp gv most m T' vT' q5 kc K:=by
 obtain ⟨rt,sl,hv⟩:=h.v
 exact ⟨⟨rt,sl,hv.own hc fun b e=>h.t.1 b e⟩,h.f.own hc fun b e=>h.t.ge b e,ht,hc.row (fun e=>h.t.noR h.b (by decide) e) h.b,⟨Nat.lt_of_lt_of_le h.o.1 hc.size,h.o.2⟩,h.g,h.s,h.k⟩
theorem Jm.outNew (h:Jm w W c gp gv most m T vT q5 kc K) {b:Nat} (hb:W.heap.size≤b) (hl:b<W'.heap.size):Out 2 gv c W' b:=by
 obtain ⟨rt,sl,hv⟩:=h.v
 exact hv.outNew hb hl
theorem Jm.live (h:Jm w W c gp gv most m T vT q5 kc K):Live W c 2 gp m:=by
 obtain ⟨rt,sl,hv⟩:=h.v
 exact hv.live
theorem Jm.env (h:Jm w W c gp gv most m T vT q5 kc K):Env W∧Far0 W c 2:=by
 obtain ⟨rt,sl,hv⟩:=h.v
 exact ⟨hv.env,by have:=hv.row.lt;have:=hv.far;omega,hv.gl⟩
theorem Jm.tv (h:Jm w W c gp gv most m T vT q5 kc K) (hon:m.on=true):Tv m 0:=by
 obtain ⟨rt,sl,hv⟩:=h.v
 exact ⟨hv.live.2.1,hon,hv.dev,hv.tape⟩
theorem Jm.len (h:Jm w W c gp gv most m T vT q5 kc K):(ctn m 0).length≤4096∧((ctn m 0).length:Int)≤(most:Nat)∧most=m.size 0∧most≤4096∧gv<W.heap.size∧0<m.n∧m.tape 0=true∧m.WF:=by
 obtain ⟨rt,sl,hv⟩:=h.v
 have:=hv.bound
 have:=hv.size
 exact ⟨by omega,by omega,by omega,by omega,hv.row.lt,hv.dev,hv.tape,hv.live.2.1⟩
theorem Jm.el (h:Jm w W c gp gv most m T vT q5 kc K) (k:Nat) (hk:k<T.length):∃vb g2,(∀w',(Instr.indexAt 35 vT (.int .i64 (k:Nat))).run Tryd.prog w' = .ok (.pointer (some ⟨g2,k * 7,none⟩)) w')∧(∀W',Below W.heap.size W W'→∀j u,(tdC (T.getD k default) vb)[j]? = some u→W'.cell? ⟨g2,k * 7+j,none⟩=some u)∧yA2 W vb (T.getD k default).bs:=by
 obtain ⟨_,M,hM1,hM2,hM3⟩:=h.t
 obtain ⟨vb,hMk,hsl,_⟩:=hM3 k hk
 obtain ⟨g2,_,_,hx2,hc2⟩:=hM1.ix el35 k (by rw [hM2];exact hk)
 rw [hMk] at hc2
 exact ⟨vb,g2,hx2,fun W' hb=>hc2 W' ⟨hM1.1,own_later hM1.2 hb⟩,hsl.1⟩
theorem Jm.opens (h:Jm w W c gp gv most m T vT q5 kc K):Calls Tryd.prog 10 #[ptr gp,.int .i64 0] W fun e W' => ∃gw,e = .returned (.tuple #[ptr gw,.int .i64 0])∧Jm w W' c gp gw most m T vT q5 kc K∧Below W.heap.size W W':=by
 refine (vopen_any h.live (ds:=[]) (ts:=[most]) h.s h.env.1 h.env.2 (show 1≤1000 by decide) 0 (by decide)).mono ?_
 rintro e W' ⟨hb,⟨hno,_⟩|⟨i,gw,hi,_,rfl,hg,hv⟩⟩
 ·exact absurd ⟨by decide,show ((0:Int)<((0:Nat):Int)+((1:Nat):Int)) by decide⟩ hno
 ·obtain rfl:i=0:=by have h9:i<1:=hi;omega
  exact ⟨gw,rfl,h.reopen hb hg ⟨_,_,hv⟩,hb⟩
theorem Jm.append {P:Nat→Ob→Prop} {beg:Nat} (h:Jm w W c gp gv most m T vT q5 kc K) (hst:K+100<35184372088831) (hon:m.on=true) (hcr:Cr (ctn m 0) (m.fl 0) P T) (hfr:Fresh (ctn m 0) T beg) (id bs:List Nat) (vb:Value) (hid:∀c∈id,c<256) (hin:yA2 W vb bs) (hvg:bs=[]∨∀b,vb.ownBlock=some b→b≠gv):Calls Tryd.prog 12 #[ptr gv,str id,vb] W fun e W' => ∃c' m' P' p1 p2 p3 er,e = .returned (.tuple #[.agg (plC p1 p2 p3 false).toArray,.int .i64 er])∧Sq 2 gv W W' c c'∧Jm w W' c' gp gv most m' T vT q5 kc (K+16) ∧
  ((er≠0∧Cr (ctn m' 0) (m'.fl 0) P' T∧(m'.on=true→Fresh (ctn m' 0) T beg)∧(ctn m 0).length≤(ctn m' 0).length) ∨
  (er=0∧m'.on=true∧OkOb (id,bs)∧p1=((0:Nat):Int)∧∃a:Nat,p2=(a:Nat)∧p3=(nb bs.length:Nat)∧Cr (ctn m' 0) (m'.fl 0) P' (T++[⟨id,bs,0,a,nb bs.length,false⟩])∧Fresh (ctn m' 0) (T++[⟨id,bs,0,a,nb bs.length,false⟩]) beg∧(ctn m 0).length+2≤(ctn m' 0).length)):=by
 have hk:=h.k
 have hlen:=h.len
 obtain ⟨rt,sl,hv⟩:=h.v
 by_cases hn:nameB id=true
 ·refine (vappend_any hv (by omega) id bs vb hid (by have:=(nameB_len hn).2;omega) hin hvg).mono ?_
  have hb256:=yA2.lt256 hin
  rintro e W' (⟨h1,rfl,h2⟩|⟨h1,h2,rfl,h3⟩|⟨h1,h2,rt2,sl2,er,h3,⟨h4,rfl,h5,h6⟩|⟨h4,c',he,h6,h7,h8⟩⟩)
  ·rw [hn] at h1;cases h1
  ·exact ⟨c,m,P,0,0,0,5,rfl,Sq.bel c h3,(h.bel h3).le (by omega),Or.inl ⟨by decide,hcr,fun _=>hfr,Nat.le_refl _⟩⟩
  ·exact ⟨c,m,P,0,0,0,3,rfl,⟨fun _ _=>rfl,h6.mono fun b _ e=>Or.inl e⟩,h.turn ⟨fun _ _=>rfl,h6.mono fun b _ e=>Or.inl e⟩ ⟨_,_,h5⟩ rfl (by omega),Or.inl ⟨by decide,hcr,fun _=>hfr,Nat.le_refl _⟩⟩
  ·have ho:OkOb (id,bs):=⟨h1,h2,hb256⟩
   have hp:=nb_pos bs.length
   have hnb:=nb_le h2
   have hsl2:sl2=false:=by
    cases sl2 with
    | false=>rfl
    | true=>have:roomP (most:Nat) (ctn m 0).length true=0:=rfl;omega
   subst hsl2
   have hroom:(ctn m 0).length+nb bs.length≤most:=by
    have:roomP (most:Nat) (ctn m 0).length false=((most:Nat) - ((ctn m 0).length:Int) - 2).toNat:=rfl
    omega
   obtain ⟨k,k1,k2,k3,k4,_,k6⟩:=lays_run 0 (blks 0 (ctn m 0).length id bs) m (h.tv hon) (blks_all 0 _ ho) (by rw [yC1];omega)
   have hst2:=(yJ5 ((0:Nat):Int) (blks 0 (ctn m 0).length id bs) m).1
   rw [yC1] at hst2
   have hJ:Jm w W' c' gp gv most (m.lays ((0:Nat):Int) (blks 0 (ctn m 0).length id bs)).2 T vT q5 kc (K+16):=h.turn ⟨h6,h7⟩ ⟨_,_,h8⟩ k4.sh (by omega)
   rw [yC1] at k1
   rcases k6 with ⟨q1,q2,q3,_⟩|⟨q1,q2,q3,_⟩
   ·rw [yC1] at q1
    have hc2:ctn (m.lays ((0:Nat):Int) (blks 0 (ctn m 0).length id bs)).2 0=ctn m 0++blks 0 (ctn m 0).length id bs:=by
     rw [k2,q1,List.take_of_length_le (by rw [yC1];exact Nat.le_refl _)]
    have hA:=hcr.all ho (by omega)
    have hF:=hfr.all ho
    rw [←hc2] at hA hF
    rw [←k3] at hA
    rw [if_pos q2] at he
    exact ⟨c',_,_,_,_,_,0,he,⟨h6,h7⟩,hJ,Or.inr ⟨rfl,q3,ho,rfl,(ctn m 0).length,rfl,rfl,hA,hF,by rw [hc2,List.length_append,yC1];omega⟩⟩
   ·rw [yC1] at q1
    obtain ⟨P',hP⟩:=hcr.part ho (by omega) k q1
    rw [←k2,←k3] at hP
    rw [if_neg (by rw [q2];decide),q2] at he
    exact ⟨c',_,P',0,0,0,2,he,⟨h6,h7⟩,hJ,Or.inl ⟨by decide,hP,(fun e=>by rw [q3] at e;cases e),by rw [k2,List.length_append];omega⟩⟩
 ·refine (vappend_no gv id vb hid (by simpa using hn)).mono ?_
  rintro e W' ⟨rfl,hb⟩
  exact ⟨c,m,P,0,0,0,1,rfl,Sq.bel c hb,(h.bel hb).le (by omega),Or.inl ⟨by decide,hcr,fun _=>hfr,Nat.le_refl _⟩⟩
theorem Jm.flush {P:Nat→Ob→Prop} {beg:Nat} (h:Jm w W c gp gv most m T vT q5 kc K) (hst:K+100<35184372088831) (hon:m.on=true) (hcr:Cr (ctn m 0) (m.fl 0) P T) (hfr:Fresh (ctn m 0) T beg):Calls Tryd.prog 16 #[ptr gv] W fun e W' => ∃c' m' er,e = .returned (.int .i64 er)∧Sq 2 gv W W' c c'∧Jm w W' c' gp gv most m' T vT q5 kc (K+16)∧Cr (ctn m' 0) (m'.fl 0) P T∧ctn m' 0=ctn m 0∧((er=0∧m'.fl 0=ctn m' 0∧Fresh (ctn m' 0) T beg)∨(er=2∧m'.on=false)):=by
 have hk:=h.k
 obtain ⟨rt,sl,hv⟩:=h.v
 refine (vflush_any hv (by omega)).mono ?_
 rintro e W' ⟨c',rfl,s,v'⟩
 have htv:=h.tv hon
 have hst2:(m.flush ((0:Nat):Int)).2.steps≤m.steps+1:=by
  rw [htv.flush]
  split
  ·exact m.step_le
  ·exact m.step_le
 obtain ⟨h1,h2,_,h4⟩:=flush_run htv
 have q:Sq 2 gv W W' c c':=⟨s.cc,s.ch.mono fun b _ e=>Or.inr e⟩
 have hJ:Jm w W' c' gp gv most (m.flush ((0:Nat):Int)).2 T vT q5 kc (K+16):=h.turn q ⟨_,_,v'⟩ h2.sh (by omega)
 rcases h4 with ⟨q1,_,q3,_⟩|⟨q1,q2,q3,_⟩
 ·refine ⟨c',_,0,by rw [q1],q,hJ,?_,h1,Or.inl ⟨rfl,by rw [q3,h1],by rw [h1];exact hfr⟩⟩
  rw [q3,h1]
  exact hcr.flush
 ·refine ⟨c',_,2,by rw [q1],q,hJ,?_,h1,Or.inr ⟨rfl,q2⟩⟩
  rw [q3,h1]
  exact hcr
theorem Jm.read {F:List (List Nat)} {P:Nat→Ob→Prop} (h:Jm w W c gp gv most m T vT q5 kc K) (hst:K+100<35184372088831) (hon:m.on=true) (hcr:Cr (ctn m 0) F P T) (k:Nat) (hk:k<T.length):Calls Tryd.prog 17 #[ptr gv,.agg (plC ((T.getD k default).d:Nat) ((T.getD k default).a:Nat) ((T.getD k default).n:Nat) false).toArray] W fun e W' => ∃id bs vb er,e = .returned (.tuple #[str id,vb,.int .i64 er])∧yA2 W' vb bs∧Below W.heap.size W W' ∧
  ((er=0∧((T.getD k default).fl=true→id=(T.getD k default).id∧bs=(T.getD k default).bs)∧∃j,j<T.length∧(T.getD j default).id=id∧(T.getD j default).bs=bs∧(T.getD j default).d=(T.getD k default).d∧(T.getD j default).a=(T.getD k default).a∧(T.getD j default).n=(T.getD k default).n)∨(er=4∧(T.getD k default).fl=false)):=by
 have hks:=h.k
 obtain ⟨rt,sl,hv⟩:=h.v
 have htd:=hcr.td k hk
 have hnb:=nb_le htd.1.2.1
 have hwh:(T.getD k default).fl=true→ObjAt 0 (T.getD k default).a (ctn m 0) (T.getD k default).id (T.getD k default).bs:=fun e=>by
  obtain ⟨X,hX⟩:=hcr.pre
  rw [hX]
  exact (hcr.fl k hk e).app X
 have hn9:(T.getD k default).n≤12:=by rw [htd.2.2.1];exact hnb
 refine (vread_any hv (by omega) _ _ _ false (by have:=htd.2.2.2;omega) (by omega)).mono ?_
 rintro e W' ⟨hb,id,vb,er,rfl,⟨rfl,h1,h2,a,N,bs,h3,h4,h5,h6,h7,h8⟩|⟨_,_,_,_,h1,_⟩|⟨rfl,rfl,rfl,h1⟩⟩
 ·have ea:a=(T.getD k default).a:=by omega
  have eN:N=(T.getD k default).n:=by omega
  subst ea
  refine ⟨id,bs,vb,0,rfl,h7,hb,Or.inl ⟨rfl,fun e => ?_,hcr.read k h5 eN h6 hk⟩⟩
  have h9:=(hwh e).2
  rw [←htd.2.2.1,←eN] at h9
  exact h6.one h9
 ·rw [hon] at h1;cases h1
 ·refine ⟨[],[],_,4,rfl,yA2.nilV _,hb,Or.inr ⟨rfl,?_⟩⟩
  cases hfl:(T.getD k default).fl with
  | false=>rfl
  | true =>
   have h9:=hwh hfl
   have h10:=h1 (by rw [htd.2.1]) (T.getD k default).a (T.getD k default).n rfl rfl (by rw [htd.2.2.1];exact h9.1)
   exact absurd ⟨_,_,by rw [htd.2.2.1];exact h9.2⟩ h10
theorem Jm.boot {P:Nat→Ob→Prop} (h:Jm w W c gp gv most m T vT q5 kc K) (hst:K+100<35184372088831) (hcr:Cr (ctn m 0) (m.fl 0) P T) (kv:Value) (ks:List Int) (hk:KeepIn W c 2 kv ks):Calls Tryd.prog 28 #[ptr gp,kv] W fun e W' => ∃c' m' P',e = .returned noResult∧Sq 2 gv W W' c c'∧Jm w W' c' gp gv most m' T vT q5 kc K∧m'.on=true∧Cr (ctn m' 0) (m'.fl 0) P' T∧Fresh (ctn m' 0) T T.length:=by
 have hks:=h.k
 have hlen:=h.len
 refine (h.live.boot (by omega) kv ks hk).mono ?_
 rintro e W' ⟨rfl,hn⟩
 obtain ⟨h1,_,h3,h4,h5,n,h6,h7,h8⟩:=boot_run m 0 hlen.2.2.2.2.2.2.2 hlen.2.2.2.2.2.1 hlen.2.2.2.2.2.2.1 ks
 obtain ⟨c',s,j⟩:=h.next hn h3 (by rw [h4];exact hks)
 have hb:=ctn_all hlen.2.2.2.2.2.2.2 0
 obtain ⟨P',hP⟩:=hcr.boot n h6 h7 (h8.imp (fun e=>e) fun ⟨a,b⟩=>⟨a,_,(hb _ (getD_mem _ _ _ a)).1,b⟩)
 exact ⟨c',_,P',rfl,s,j,h1.on,by rw [←h5];exact hP,fun j a b=>absurd b (by omega)⟩
end
end Go.Proofs.YtpkkkkomdblpoaaDoor

namespace Go.Proofs.YtpkkkkomdblpoaaDoor
open Go.RowKit Go.Maps
open Cold
theorem yI6 {w:World} {a:Act} {o:Oper} (x y:Operand) (ho:o.op = .binOp .eql 9 x y 9) (s s':List Nat) (h1:∀c∈s,c<256) (h2:∀c∈s',c<256) (hx:a.eval x=str s) (hy:a.eval y=str s') (r:Bool) (hr:decide (s=s')=r):(execOp a.eval o).run Tryd.prog w = .ok (.value (.bool r)) w:=by
 subst hr
 refine run_binOp' x y ho _ _ _ hx hy ?_ ?_
 ·rfl
 ·unfold str
  by_cases e:s=s'
  ·subst e
   simp [go_sem]
  ·have:¬ strOfNums (s.map Int.ofNat)=strOfNums (s'.map Int.ofNat):=fun q=>e ((Fr.str_inj h1 h2).1 q)
   have h3:¬ (strOfNums (s.map Int.ofNat)).toList=(strOfNums (s'.map Int.ofNat)).toList:=fun q=>by
    rw [Lib.strOfNums_toList,Lib.strOfNums_toList] at q
    exact this (congrArg (fun l:List UInt8=>(⟨l.toArray⟩:ByteArray)) q)
   simp [go_sem,e,h3]
theorem run_quo2 {w:World} {a:Act} {o:Oper} (x:Operand) (ho:o.op = .binOp .quo 3 x (.const (.int .i64 2)) 3) (n:Nat) (hn:n≤9223372036854775807) (hx:a.eval x = .int .i64 (n:Nat)):(execOp a.eval o).run Tryd.prog w = .ok (.value (.int .i64 ((n / 2:Nat):Int))) w:=by
 have e:(a.eval (.const (.int .i64 2))) = .int .i64 2:=rfl
 have ht:Int.tdiv ((n:Nat):Int) 2=((n / 2:Nat):Int):=rfl
 simp only [execOp,ho,hx,e]
 simp [go_sem,ht,wrap_i64 ((n:Int) / 2) (by omega) (by omega)]
theorem run_arrIx2 {w:World} {a:Act} {o:Oper} (x y:Operand) (k:Nat) (hk:k<2) (ho:o.op = .indexAddr 61 x y) (g:Nat) (hx:a.eval x = .pointer (some ⟨g,0,none⟩)) (hy:a.eval y = .int .i64 (k:Nat)):(execOp a.eval o).run Tryd.prog w = .ok (.value (.pointer (some ⟨g,k,none⟩))) w:=by
 have h1:(Instr.indexAt 61 (.pointer (some ⟨g,0,none⟩)) (.int .i64 (k:Nat))).run Tryd.prog w = .ok (.pointer (some ⟨g,k,none⟩)) w:=by
  rcases k with _|_|k
  ·kernel_rfl
  ·kernel_rfl
  ·omega
 simp [execOp,ho,hx,hy,h1]
theorem shape1_ok {k:Nat} (h1:1≤k) (h2:k≤300):shapeOk [] [((k:Nat):Int)]=true:=by
 simp [shapeOk,yI5]
 omega
theorem shape1_of {k:Nat}:yK7 (newPl [] [((k:Nat):Int)]) [] [k]:=by
 unfold yK7 newPl
 simp
theorem fuse_same (m:Pl) (n:Int):ctn (m.fuseTo n) 0=ctn m 0∧(m.fuseTo n).fl 0=m.fl 0∧(m.fuseTo n).sh=m.sh∧(m.fuseTo n).steps=m.steps∧(m.fuseTo n).on=m.on:=by
 unfold Pl.fuseTo
 split
 ·exact ⟨rfl,rfl,rfl,rfl,rfl⟩
 ·exact ⟨rfl,rfl,rfl,rfl,rfl⟩
structure Jo (w W:World) (c:Nat→Colour) (gp most:Nat) (m:Pl) (T:List Td) (vT:Value) (q5:Nat) (kc:List Value) (K:Nat):Prop where
 live:Live W c 2 gp m
 env:Env W
 far:Far0 W c 2
 bel:Below w.heap.size w W
 col:∀b,b<w.heap.size→(c b).1≠2
 t:∃gv,TdIn w.heap.size 2 gv c W vT T
 b:Row W q5 61 kc
 o:(c q5).1≠2∧3≤q5
 g:w.heap.size≤q5
 s:yK7 m [] [most]
 k:m.steps≤K
section
variable {w W W':World} {c c':Nat→Colour} {gp gv most:Nat} {m m':Pl} {T T':List Td} {vT vT':Value} {q5:Nat} {kc:List Value} {K K':Nat}
theorem Jm.jo (h:Jm w W c gp gv most m T vT q5 kc K) (hk:K≤K'):Jo w W c gp most m T vT q5 kc K':=⟨h.live,h.env.1,h.env.2,h.f.bel,h.f.col,⟨gv,h.t⟩,h.b,⟨h.o.2.2.1,h.o.2.2.2⟩,h.g,h.s,Nat.le_trans h.k hk⟩
theorem Jo.opens (h:Jo w W c gp most m T vT q5 kc K):Calls Tryd.prog 10 #[ptr gp,.int .i64 0] W fun e W' => ∃gw,e = .returned (.tuple #[ptr gw,.int .i64 0])∧Jm w W' c gp gw most m T vT q5 kc K:=by
 refine (vopen_any h.live (ds:=[]) (ts:=[most]) h.s h.env h.far (show 1≤1000 by decide) 0 (by decide)).mono ?_
 rintro e W' ⟨hb,⟨hno,_⟩|⟨i,gw,hi,_,rfl,hg,hv⟩⟩
 ·exact absurd ⟨by decide,show ((0:Int)<((0:Nat):Int)+((1:Nat):Int)) by decide⟩ hno
 ·obtain rfl:i=0:=by have h9:i<1:=hi;omega
  obtain ⟨g0,ht⟩:=h.t
  exact ⟨gw,rfl,⟨⟨_,_,hv⟩,⟨h.bel.trans (hb.mono h.bel.size),Nat.le_trans h.bel.size hg,h.col⟩,(ht.reopen hg).sq (Sq.bel _ hb),h.b.later hb h.b.lt,⟨Nat.lt_of_lt_of_le h.b.lt hb.size,by have:=h.b.lt;omega,h.o⟩,h.g,h.s,h.k⟩⟩
theorem Jm.keep (h:Jm w W c gp gv most m T vT q5 kc K) {kv:Value} {ks:List Int} (hk:IntsIn w kv ks):KeepIn W c 2 kv ks:=by
 obtain ⟨p,cap,e,h1,h2,h3⟩:=hk
 refine ⟨p,cap,e,h1,h2,?_⟩
 by_cases q:ks=[]
 ·exact Or.inl q
 ·rcases h3 with h3|⟨b,off,e,hc⟩
  ·exact Or.inl h3
  ·have hl:0<ks.length:=List.length_pos_iff.2 q
   have hb:b<w.heap.size:=block_lt_of_cell (hc 0 hl)
   exact Or.inr ⟨b,off,e,h.f.col b hb,Nat.lt_of_lt_of_le hb h.f.bel.size,fun j hj=>cell_later h.f.bel (hc j hj)⟩
end
end Go.Proofs.YtpkkkkomdblpoaaDoor

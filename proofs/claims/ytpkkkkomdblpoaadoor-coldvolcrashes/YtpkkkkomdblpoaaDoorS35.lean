/- Layer 15: objects as the document tells them. Layer 15: what the law of forged objects wants. Layer 15: places and threes of numbers that were handed in. -/
import Derived.Test.YtpkkkkomdblpoaaDoorS34
namespace Go.Proofs.YtpkkkkomdblpoaaDoor
open Go.RowKit Go.Maps
open Cold
structure Td where
 id:List Nat
 bs:List Nat
 d:Nat
 a:Nat
 n:Nat
 fl:Bool
instance:Inhabited Td:=⟨⟨[],[],0,0,0,false⟩⟩
def tdC (x:Td) (vb:Value):List Value:=[str x.id,vb,.int .i64 (x.d:Nat),.int .i64 (x.a:Nat),.int .i64 (x.n:Nat),.bool false,.bool x.fl]
theorem el35:ElC 35 48 7 80 (tdC default (.slice none 0 0)):=⟨Tryd.underlying35,by kernel_rfl,by kernel_rfl,rfl,ag48,by decide,by decide⟩
theorem tdC_is (x:Td) {W:World} {vb:Value} {bs:List Nat} (h:yA2 W vb bs):(tdC x vb).length=7∧∀u∈tdC x vb,u.oneCell'=true:=by
 obtain ⟨p,cp,e,_⟩:=h
 subst e
 refine ⟨rfl,fun u hu => ?_⟩
 simp only [tdC,List.mem_cons,List.not_mem_nil,or_false] at hu
 rcases hu with rfl|rfl|rfl|rfl|rfl|rfl|rfl <;> rfl
def Sb (t gv:Nat) (c:Nat→Colour) (W:World) (v:Value) (cs:List Nat):Prop:=yA2 W v cs∧(cs=[]∨∀b,v.ownBlock=some b→b<W.heap.size∧b≠gv∧(c b).1≠t)
theorem Sb.sq {t gv:Nat} {c c':Nat→Colour} {W W':World} {v:Value} {cs:List Nat} (h:Sb t gv c W v cs) (s:Sq t gv W W' c c'):Sb t gv c' W' v cs:=by
 rcases h.2 with rfl|h2
 ·exact ⟨slice_nil h.1,Or.inl rfl⟩
 ·exact ⟨sliceK h.1 fun b e hb=>s.ch.block b hb fun x=>x.elim (h2 b e).2.1 (h2 b e).2.2,Or.inr fun b e=>⟨Nat.lt_of_lt_of_le (h2 b e).1 s.ch.size,(h2 b e).2.1,by rw [s.cc b (h2 b e).1];exact (h2 b e).2.2⟩⟩
def TdIn (B t gv:Nat) (c:Nat→Colour) (W:World) (v:Value) (l:List Td):Prop :=
 (∀b,v.ownBlock=some b→Out t gv c W b)∧∃L,COwn 48 7 W B v L∧L.length=l.length∧∀k,k<l.length→∃vb,L.getD k []=tdC (l.getD k default) vb∧Sb t gv c W vb (l.getD k default).bs∧((l.getD k default).bs=[]∨∀b,vb.ownBlock=some b→v.ownBlock≠some b)
theorem TdIn.sq {B t gv:Nat} {c c':Nat→Colour} {W W':World} {v:Value} {l:List Td} (h:TdIn B t gv c W v l) (s:Sq t gv W W' c c'):TdIn B t gv c' W' v l:=by
 obtain ⟨h0,L,h1,h2,h3⟩:=h
 refine ⟨fun b e=>(s.out (h0 b e)).1,L,⟨h1.1,ownK h1.2 fun b e=>(s.out (h0 b e)).2⟩,h2,fun k hk => ?_⟩
 obtain ⟨vb,e,k1,k2⟩:=h3 k hk
 exact ⟨vb,e,k1.sq s,k2⟩
theorem Fr0.own {w W W':World} {c:Nat→Colour} {t gv:Nat} {S:Nat→Prop} (h:Fr0 w W c t gv) (hc:Ch S W W') (hS:∀b,S b→w.heap.size≤b):Fr0 w W' c t gv:=⟨h.bel.trans (hc.below h.bel.size fun i hi e=>by have:=hS i e;omega),h.gv0,h.col⟩
theorem Sb.own {t gv:Nat} {c:Nat→Colour} {W W':World} {v:Value} {cs:List Nat} {S:Nat→Prop} (h:Sb t gv c W v cs) (hc:Ch S W W') (hS:cs=[]∨∀b,v.ownBlock=some b→¬ S b):Sb t gv c W' v cs:=by
 refine ⟨sliceKn h.1 hS hc,h.2.imp (fun e=>e) fun h2 b e => ?_⟩
 have k:=h2 b e
 exact ⟨Nat.lt_of_lt_of_le k.1 hc.size,k.2⟩
theorem TdIn.snoc {B t gv:Nat} {c:Nat→Colour} {W:World} {v:Value} {l:List Td} (h:TdIn B t gv c W v l) (x:Td) (vb:Value) (g:Nat) (hs:Sb t gv c W vb x.bs) (hv:x.bs=[]∨∀b,vb.ownBlock=some b→v.ownBlock≠some b) (hg:∀j u,(tdC x vb)[j]? = some u→W.cell? ⟨g,j,none⟩=some u) (hsz:l.length≤1000000) (hB:B≤W.heap.size) (hnew:∀(W':World),W.heap.size<W'.heap.size→Out t gv c W' W.heap.size) :
  ∃v' W',(∀ty,(Builtin.append_ #[35,35] ty #[v,.slice (some ⟨g,0,none⟩) 1 1]).run Tryd.prog W = .ok v' W')∧TdIn B t gv c W' v' (l++[x])∧Ch (fun b=>v.ownBlock=some b) W W'∧(∀b,v'.ownBlock=some b→v.ownBlock=some b∨W.heap.size≤b):=by
 obtain ⟨h0,L,h1,h2,h3⟩:=h
 obtain ⟨v',W',hr,ho,hgr,hvv⟩:=run_appC el35 B v L (tdC x vb) h1 (tdC_is x hs.1) g hg (by rw [h2];exact hsz) hB
 have hc:Ch (fun b=>v.ownBlock=some b) W W':=(Ch.refl _ W).grown hgr fun k hk=>Or.inl hk
 have key:∀{u:Value} {cs:List Nat},Sb t gv c W u cs→(cs=[]∨∀b,u.ownBlock=some b→v.ownBlock≠some b)→Sb t gv c W' u cs∧(cs=[]∨∀b,u.ownBlock=some b→v'.ownBlock≠some b):=fun {u cs} hu hn=>by
  refine ⟨hu.own hc hn,?_⟩
  by_cases q:cs=[]
  ·exact Or.inl q
  ·refine Or.inr fun b e e2 => ?_
   rcases hvv with e3|e3
   ·exact (hn.resolve_left q) b e (e3▸e2)
   ·rw [e3] at e2
    have:=Option.some.inj e2
    have:=slice_blk hu.1 q b e
    omega
 refine ⟨v',W',hr,⟨fun b e => ?_,L++[tdC x vb],ho,by simp [h2],fun k hk => ?_⟩,hc,fun b e => ?_⟩
 ·rcases hvv with e3|e3
  ·rw [e3] at e
   have k:=h0 b e
   exact ⟨Nat.lt_of_lt_of_le k.1 hc.size,k.2⟩
  ·have e4:W.heap.size=b:=Option.some.inj (e3.symm.trans e)
   rw [←e4]
   exact hnew W' (by rw [e4];exact (ho.2.lt b e).2)
 ·rcases Nat.lt_or_ge k l.length with q|q
  ·obtain ⟨ub,e,k1,k2⟩:=h3 k q
   have k3:=key k1 k2
   refine ⟨ub,?_,?_,?_⟩
   ·rw [yG6 _ _ _ _ (by rw [h2];exact q),yG6 _ _ _ _ q];exact e
   ·rw [yG6 _ _ _ _ q];exact k3.1
   ·rw [yG6 _ _ _ _ q];exact k3.2
  ·have e0:k=l.length:=by simp at hk;omega
   have k3:=key hs hv
   refine ⟨vb,?_,?_,?_⟩
   ·rw [yH1 _ _ _ k (by rw [h2];exact e0),yH1 l x _ k e0]
   ·rw [yH1 l x _ k e0];exact k3.1
   ·rw [yH1 l x _ k e0];exact k3.2
 ·rcases hvv with e3|e3
  ·rw [e3] at e;exact Or.inl e
  ·rw [e3] at e;exact Or.inr (Nat.le_of_eq (Option.some.inj e))
theorem tdC_pl (x:Td) (vb:Value) (j:Nat) (v:Value) (h:(plC (x.d:Nat) (x.a:Nat) (x.n:Nat) false)[j]? = some v):(tdC x vb)[2+j]? = some v:=by
 have h4:j<4:=(List.getElem?_eq_some_iff.1 h).1
 rcases j with _|_|_|_|j
 ·exact h
 ·exact h
 ·exact h
 ·exact h
 ·omega
theorem run_lenT {w W:World} {a:Act} {o:Oper} {B t gv:Nat} {c:Nat→Colour} {v:Value} {l:List Td} (h:TdIn B t gv c W v l) (x:Operand) (ho:o.op = .call { callee:=.builtin .len,args:=#[x],argTypes:=#[35] }) (hx:a.eval x=v):(execOp a.eval o).run Tryd.prog w = .ok (.value (.int .i64 (l.length:Nat))) w:=by
 obtain ⟨_,L,h1,h2,_⟩:=h
 rw [←h2]
 exact run_lenC el35 h1 x ho hx
end Go.Proofs.YtpkkkkomdblpoaaDoor



namespace Go.Proofs.YtpkkkkomdblpoaaDoor
open Go.RowKit Go.Maps
open Cold
theorem run_lit38 {w:World} {a:Act} {o:Oper} (ho:o.op = .buildSlice 38 0 #[]):(execOp a.eval o).run Tryd.prog w = .ok (.value (.slice (some ⟨w.heap.size,0,none⟩) 0 0)) (w.alloc (.cells #[] 5)):=by
 have hr:(Instr.buildSlice 38 0 #[]).run Tryd.prog w = .ok (.slice (some ⟨w.heap.size,0,none⟩) 0 0) (w.alloc (.cells #[] 5)):=by kernel_rfl
 simp [execOp,ho,hr]
theorem run_lit35 {w:World} {a:Act} {o:Oper} (ho:o.op = .buildSlice 35 0 #[]):(execOp a.eval o).run Tryd.prog w = .ok (.value (.slice (some ⟨w.heap.size,0,none⟩) 0 0)) (w.alloc (.cells #[] 48)):=by
 have hr:(Instr.buildSlice 35 0 #[]).run Tryd.prog w = .ok (.slice (some ⟨w.heap.size,0,none⟩) 0 0) (w.alloc (.cells #[] 48)):=by kernel_rfl
 simp [execOp,ho,hr]
theorem BOwn.new (w:World) (base:Nat) (hb:base≤w.heap.size):BOwn (w.alloc (.cells #[] 5)) base (.slice (some ⟨w.heap.size,0,none⟩) 0 0) []:=World.ownsRow_made w #[] 0 hb (Nat.zero_le _) rfl
theorem COwn.new (w:World) (base:Nat) (hb:base≤w.heap.size):COwn 48 7 (w.alloc (.cells #[] 48)) base (.slice (some ⟨w.heap.size,0,none⟩) 0 0) []:=⟨CAll.nil 7,World.ownsRow_made w #[] 0 hb (Nat.zero_le _) rfl⟩
theorem run_build48 {w:World} {a:Act} {o:Oper} (x y z:Operand) (ho:o.op = .build 48 #[(0,x),(1,y),(2,z)]) (t:Td) (hf:t.fl=false) (vb:Value) {W:World} {bs:List Nat} (hv:yA2 W vb bs) (hx:a.eval x=str t.id) (hy:a.eval y=vb) (hz:a.eval z = .agg (plC (t.d:Nat) (t.a:Nat) (t.n:Nat) false).toArray):(execOp a.eval o).run Tryd.prog w = .ok (.value (.agg (tdC t vb).toArray)) w:=by
 obtain ⟨p,cp,rfl,_⟩:=hv
 obtain ⟨id,bs2,d,a2,n,fl⟩:=t
 subst hf
 have hr:(Instr.build 48 #[(0,str id),(1,.slice p bs.length cp),(2,.agg (plC (d:Nat) (a2:Nat) (n:Nat) false).toArray)]).run Tryd.prog w = .ok (.agg (tdC ⟨id,bs2,d,a2,n,false⟩ (.slice p bs.length cp)).toArray) w:=by kernel_rfl
 simp only [execOp,ho,List.map_toArray,List.map_cons,List.map_nil,hx,hy,hz,hr,Sem.run_bind,Sem.run_pure,Result.andThen_ok]
section
variable {w W W':World} {c c':Nat→Colour} {gp gv:Nat} {sz:Int} {m m':Pl} {os:List Ob} {K:Nat} {vT:Value}
end
end Go.Proofs.YtpkkkkomdblpoaaDoor

namespace Go.Proofs.YtpkkkkomdblpoaaDoor
open Go.RowKit Go.Maps
open Cold
def I64 (z:Int):Prop := -9223372036854775808≤z∧z≤9223372036854775807
structure Pq where
 dv:Int
 at_:Int
 ln:Int
 bd:Bool
instance:Inhabited Pq:=⟨⟨0,0,0,false⟩⟩
def Pq.cells (x:Pq):List Value:=plC x.dv x.at_ x.ln x.bd
def Pq.ok (x:Pq):Prop:=I64 x.dv∧I64 x.at_∧I64 x.ln
structure Tr where
 x:Int
 y:Int
 z:Int
instance:Inhabited Tr:=⟨⟨0,0,0⟩⟩
end Go.Proofs.YtpkkkkomdblpoaaDoor

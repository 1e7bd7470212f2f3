/- Layer 15: what the law of a volume's calls wants: the volume beside the document's. Layer 15: an append, whatever the name. Layer 15: calls that come in; what else the law of a volume's calls wants. plant.New refuses what is no shape. -/
import Derived.Test.YtpkkkkomdblpoaaDoorP37
namespace Go.Proofs.YtpkkkkomdblpoaaDoor
open Go.RowKit Go.Maps
open Cold
def stq (q:Option Nat) (c:Nat→Colour):Nat→Colour:=fun b=>if q=some b then (2,0) else c b
theorem stq_none (c:Nat→Colour):stq none c=c:=by funext b;unfold stq;rw [if_neg (by simp)]
theorem stq_ne {q:Option Nat} {c:Nat→Colour} {b:Nat} (h:(stq q c b).1≠2):(c b).1≠2∧q≠some b:=by
 unfold stq at h
 split at h
 ·exact absurd rfl h
 ·rename_i h1
  exact ⟨h,h1⟩
theorem stq_eq {q:Option Nat} {c:Nat→Colour} {b:Nat} (h:q≠some b):stq q c b=c b:=by unfold stq;rw [if_neg h]
theorem Sq.star {gv:Nat} {W W':World} {c c':Nat→Colour} (s:Sq 2 gv W W' c c') (q:Option Nat):Sq 2 gv W W' (stq q c) (stq q c') :=
 ⟨fun b hb=>by
  by_cases h:q=some b
  ·unfold stq;rw [if_pos h,if_pos h]
  ·rw [stq_eq h,stq_eq h];exact s.cc b hb,s.ch.mono fun b _ e=>e.imp (fun e=>e) fun e=>by
  by_cases h:q=some b
  ·unfold stq;rw [if_pos h]
  ·rw [stq_eq h];exact e⟩
section
variable {B gv gv':Nat} {c:Nat→Colour} {W W':World} {v:Value} {l:List Td} {q:Option Nat} {x:Nat}
theorem TdIn.unstar (h:TdIn B 2 gv (stq q c) W v l):TdIn B 2 gv c W v l:=by
 obtain ⟨h0,L,h1,h2,h3⟩:=h
 refine ⟨fun b e => ?_,L,h1,h2,fun k hk => ?_⟩
 ·have k:=h0 b e
  exact ⟨k.1,k.2.1,(stq_ne k.2.2.1).1,k.2.2.2⟩
 ·obtain ⟨vb,e,k1,k2⟩:=h3 k hk
  exact ⟨vb,e,⟨k1.1,k1.2.imp (fun e=>e) fun h b e=>⟨(h b e).1,(h b e).2.1,(stq_ne (h b e).2.2).1⟩⟩,k2⟩
theorem TdIn.star (h:TdIn B 2 gv c W v l) (hq:∀x,q=some x→W.heap.size≤x):TdIn B 2 gv (stq q c) W v l:=by
 obtain ⟨h0,L,h1,h2,h3⟩:=h
 have key:∀b,b<W.heap.size→q≠some b:=fun b hb e=>by have:=hq b e;omega
 refine ⟨fun b e => ?_,L,h1,h2,fun k hk => ?_⟩
 ·have k:=h0 b e
  exact ⟨k.1,k.2.1,by rw [stq_eq (key b k.1)];exact k.2.2.1,k.2.2.2⟩
 ·obtain ⟨vb,e,k1,k2⟩:=h3 k hk
  exact ⟨vb,e,⟨k1.1,k1.2.imp (fun e=>e) fun h b e=>⟨(h b e).1,(h b e).2.1,by rw [stq_eq (key b (h b e).1)];exact (h b e).2.2⟩⟩,k2⟩
theorem TdIn.spoil (h:TdIn B 2 gv (stq (some x) c) W v l) (hc:Ch (· = x) W W'):TdIn B 2 gv (stq (some x) c) W' v l:=by
 obtain ⟨h0,L,h1,h2,h3⟩:=h
 refine ⟨fun b e => ?_,L,h1.keep hc (fun b e e2=>(stq_ne (h0 b e).2.2.1).2 (by rw [e2])),h2,fun k hk => ?_⟩
 ·have k:=h0 b e
  exact ⟨Nat.lt_of_lt_of_le k.1 hc.size,k.2⟩
 ·obtain ⟨vb,e,k1,k2⟩:=h3 k hk
  exact ⟨vb,e,k1.own hc (k1.2.imp (fun e=>e) fun h b e e2=>(stq_ne (h b e).2.2).2 (by rw [e2])),k2⟩
theorem TdIn.reopen {t:Nat} (h:TdIn B t gv c W v l) (hg:W.heap.size≤gv'):TdIn B t gv' c W v l:=by
 obtain ⟨h0,L,h1,h2,h3⟩:=h
 refine ⟨fun b e => ?_,L,h1,h2,fun k hk => ?_⟩
 ·have k:=h0 b e
  exact ⟨k.1,by have:=k.1;omega,k.2.2⟩
 ·obtain ⟨vb,e,k1,k2⟩:=h3 k hk
  exact ⟨vb,e,⟨k1.1,k1.2.imp (fun e=>e) fun h b e=>⟨(h b e).1,by have:=(h b e).1;omega,(h b e).2.2⟩⟩,k2⟩
theorem TdIn.ge {t:Nat} (h:TdIn B t gv c W v l):∀b,v.ownBlock=some b→B≤b:=by
 obtain ⟨_,L,h1,_⟩:=h
 exact fun b e=>(h1.2.lt b e).1
end
structure Jp (w W:World) (c:Nat→Colour) (gp gv gy most:Nat) (m:Pl) (os:List Ob) (sd:Bool) (ol:List Ob) (sl:Bool) (vL:Value) (q:Option Nat) (K:Nat):Prop where
 v:VOn W c 2 gp gv 2 (most:Nat) m os sd
 f:Fr0 w W c 2 gv
 y:Row W gy 37 (rvC 2 most (wide ol) vL sl)
 o:Out 2 gv c W gy
 b:w.heap.size≤gy
 t:TdIn w.heap.size 2 gv (stq q c) W vL (tdsOf 2 ol)
 qb:∀x,q=some x→x<W.heap.size
 s:ShapeOf m [2] [3,most]
 k:m.steps≤K
section
variable {w W W':World} {c c':Nat→Colour} {gp gv gv' gy most:Nat} {m m':Pl} {os os':List Ob} {sd sd':Bool} {ol:List Ob} {sl sl':Bool} {vL vL':Value} {q:Option Nat} {K K':Nat} {x:Nat}
theorem Jp.bel (h:Jp w W c gp gv gy most m os sd ol sl vL q K) (hb:Below W.heap.size W W'):Jp w W' c gp gv gy most m os sd ol sl vL q K :=
 ⟨h.v.below hb,h.f.sq (Sq.bel c hb),h.y.later hb h.y.lt,((Sq.bel c hb).out h.o).1,h.b,h.t.sq (Sq.bel _ hb),fun x e=>Nat.lt_of_lt_of_le (h.qb x e) hb.size,h.s,h.k⟩
theorem Jp.turn (h:Jp w W c gp gv gy most m os sd ol sl vL q K) (s:Sq 2 gv W W' c c') (v:VOn W' c' 2 gp gv 2 (most:Nat) m' os' sd') (hm:m'=m∨Oth2 m m' 2):Jp w W' c' gp gv gy most m' os' sd' ol sl vL q (K+16) :=
 ⟨v,h.f.sq s,s.row h.o h.y,(s.out h.o).1,h.b,h.t.sq (s.star q),fun x e=>Nat.lt_of_lt_of_le (h.qb x e) s.ch.size,by
  rcases hm with rfl|o
  ·exact h.s
  ·exact o.oth.sh.trans h.s,by
  have:=h.k
  rcases hm with rfl|o
  ·omega
  ·have:=o.few;omega⟩
theorem Jp.seen (h:Jp w W c gp gv gy most m os sd ol sl vL q K) (s:Sq 2 gv W W' c c) (v:VOn W' c 2 gp gv 2 (most:Nat) m os sd):Jp w W' c gp gv gy most m os sd ol sl vL q K :=
 ⟨v,h.f.sq s,s.row h.o h.y,(s.out h.o).1,h.b,h.t.sq (s.star q),fun x e=>Nat.lt_of_lt_of_le (h.qb x e) s.ch.size,h.s,h.k⟩
theorem Jp.le (h:Jp w W c gp gv gy most m os sd ol sl vL q K) (hk:K≤K'):Jp w W c gp gv gy most m os sd ol sl vL q K':=⟨h.v,h.f,h.y,h.o,h.b,h.t,h.qb,h.s,Nat.le_trans h.k hk⟩
theorem Jp.reopen (h:Jp w W c gp gv gy most m os sd ol sl vL q K) (hb:Below W.heap.size W W') (hg:W.heap.size≤gv') (v:VOn W' c 2 gp gv' 2 (most:Nat) m os sd):Jp w W' c gp gv' gy most m os sd ol sl vL q K :=
 ⟨v,⟨h.f.bel.trans (hb.mono h.f.bel.size),Nat.le_trans h.f.bel.size hg,h.f.col⟩,h.y.later hb h.y.lt,⟨Nat.lt_of_lt_of_le h.o.1 hb.size,by have:=h.o.1;omega,h.o.2.2⟩,h.b,(h.t.reopen hg).sq (Sq.bel _ hb),fun x e=>Nat.lt_of_lt_of_le (h.qb x e) hb.size,h.s,h.k⟩
theorem Jp.own (h:Jp w W c gp gv gy most m os sd ol sl vL none K) (hb:Below W.heap.size W W') (hx:W.heap.size≤x) (hx2:x<W'.heap.size):Jp w W' c gp gv gy most m os sd ol sl vL (some x) K :=
 ⟨h.v.below hb,h.f.sq (Sq.bel c hb),h.y.later hb h.y.lt,((Sq.bel c hb).out h.o).1,h.b,((by have:=h.t;rw [stq_none] at this;exact this.star (q:=some x) (fun y e=>by cases e;exact hx):TdIn w.heap.size 2 gv (stq (some x) c) W vL (tdsOf 2 ol))).sq (Sq.bel _ hb),fun y e=>by cases e;exact hx2,h.s,h.k⟩
theorem Jp.drop (h:Jp w W c gp gv gy most m os sd ol sl vL q K):Jp w W c gp gv gy most m os sd ol sl vL none K :=
 ⟨h.v,h.f,h.y,h.o,h.b,by rw [stq_none];exact h.t.unstar,(fun x e=>by cases e),h.s,h.k⟩
theorem Jp.spoil (h:Jp w W c gp gv gy most m os sd ol sl vL (some x) K) (hc:Ch (· = x) W W') (ho:Out 2 gv c W x) (hw:w.heap.size≤x) (hne:gy≠x):Jp w W' c gp gv gy most m os sd ol sl vL (some x) K :=
 ⟨h.v.own hc (fun _ e=>e▸ho),h.f.own hc (fun _ e=>e▸hw),hc.row hne h.y,⟨Nat.lt_of_lt_of_le h.o.1 hc.size,h.o.2⟩,h.b,h.t.spoil hc,fun y e=>Nat.lt_of_lt_of_le (h.qb y e) hc.size,h.s,h.k⟩
theorem Jp.docA (h:Jp w W c gp gv gy most m os sd ol sl vL q K) {id bs:List Nat} (hc:Ch (fun b=>b=gy∨vL.ownBlock=some b) W W') (hr:Row W' gy 37 (rvC 2 most (wide ol+nb bs.length) vL' sl)) (ht:TdIn w.heap.size 2 gv (stq q c) W' vL' (tdsOf 2 ol++[⟨id,bs,2,wide ol,nb bs.length,false⟩])):Jp w W' c gp gv gy most m os sd (ol++[(id,bs)]) sl vL' q K:=by
 refine ⟨h.v.own hc (fun b e => ?_),h.f.own hc (fun b e => ?_),?_,⟨Nat.lt_of_lt_of_le h.o.1 hc.size,h.o.2⟩,h.b,?_,fun y e=>Nat.lt_of_lt_of_le (h.qb y e) hc.size,h.s,h.k⟩
 ·rcases e with rfl|e
  ·exact h.o
  ·exact h.t.unstar.1 b e
 ·rcases e with rfl|e
  ·exact h.b
  ·exact h.t.ge b e
 ·rw [wide_append]
  simpa [wide] using hr
 ·rw [tdsOf_snoc]
  exact ht
theorem Jp.docS (h:Jp w W c gp gv gy most m os sd ol sl vL q K) (hc:Ch (· = gy) W W') (hr:Row W' gy 37 (rvC 2 most (wide ol) vL sl')):Jp w W' c gp gv gy most m os sd ol sl' vL q K :=
 ⟨h.v.own hc (fun _ e=>e▸h.o),h.f.own hc (fun _ e=>e▸h.b),hr,⟨Nat.lt_of_lt_of_le h.o.1 hc.size,h.o.2⟩,h.b,h.t.own37 h.y h.t.cell.2 hc,fun y e=>Nat.lt_of_lt_of_le (h.qb y e) hc.size,h.s,h.k⟩
theorem Jp.env (h:Jp w W c gp gv gy most m os sd ol sl vL q K):Env W:=h.v.env
theorem Jp.few (h:Jp w W c gp gv gy most m os sd ol sl vL q K):wide os≤4096∧wide os≤most∧most≤4096∧2 * os.length≤4096∧(∀o∈os,OkOb o):=by
 obtain ⟨h1,h2,h3,h4,h5,h6,_⟩:=h.v.len
 have:=wide_len os
 exact ⟨by omega,by omega,by omega,by omega,h.v.tape.ok⟩
theorem Jp.okT (h:Jp w W c gp gv gy most m os sd os sl vL q K) (k:Nat) (hk:k<os.length):nameB ((tdsOf 2 os).getD k default).id=true∧((tdsOf 2 os).getD k default).bs.length≤512:=by
 rw [tdsOf_at 2 os k hk]
 have:=getD_all h.v.tape.ok k hk
 exact ⟨this.1,this.2.1⟩
end
theorem may_eq {most:Nat} {os:List Ob} {sd:Bool} {id bs:List Nat} (h:wide os≤most):mayE id bs (roomP (most:Nat) (wide os) sd)=mayT most (wide os) sd id bs:=by
 unfold mayE mayT
 split
 ·rfl
 ·split
  ·rfl
  ·rename_i h1 h2
   have e:nbP bs.length=nb bs.length:=by unfold nbP;rw [if_pos (by omega)]
   have hp:=nb_pos bs.length
   rw [e]
   cases sd with
   | true =>
    rw [if_pos (by show 0<_;omega),if_pos rfl]
   | false =>
    rw [if_neg (by decide:¬ (false=true))]
    have e2:roomP (most:Nat) (wide os) false=roomT most (wide os) false:=by
     unfold roomP roomT
     rw [if_neg (by decide),if_neg (by decide)]
     omega
    rw [e2]
theorem room_eq (most n:Nat) (sd:Bool):roomP (most:Nat) n sd=roomT most n sd:=by
 unfold roomP roomT
 cases sd with
 | true=>rfl
 | false =>
  rw [if_neg (by decide),if_neg (by decide)]
  omega
section
variable {w W:World} {c:Nat→Colour} {gp gv gy most:Nat} {m:Pl} {os:List Ob} {sd:Bool} {vL:Value} {q:Option Nat} {K:Nat}
theorem doc_app {id bs:List Nat} {er:Int} (her:er=mayT most (wide os) sd id bs) (h:Jp w W c gp gv gy most m (osA os id bs er) sd os sd vL q K) (vb:Value) (hid:∀c∈id,c<256) (hb:yA3 W vb bs):Calls Tryd.prog 13 #[ptr gy,str id,vb] W fun e W' => ∃vL',e = .returned (.tuple #[.agg (plA 2 os bs er).toArray,.int .i64 er])∧Jp w W' c gp gv gy most m (osA os id bs er) sd (osA os id bs er) sd vL' q K∧Ch (fun b=>b=gy∨vL.ownBlock=some b) W W':=by
 have hf:=h.few
 have hw:=wide_osA os id bs er
 have hn:2 * os.length≤wide os:=wide_len os
 refine (rappend_any gy 2 most (wide os) vL sd (tdsOf 2 os) id bs vb h.y h.t (by omega) hf.2.2.1 hid hb (by rw [yE5];omega) h.f.bel.size (fun W' b h1 h2 => ?_)).mono ?_
 ·have h3:=h.v.outNew (W':=W') h1 h2
  exact ⟨h3.1,h3.2.1,by rw [stq_eq (fun e=>by have:=h.qb b e;omega)];exact h3.2.2.1,h3.2.2.2⟩
 ·rintro e W' ⟨er2,he2,h1⟩
  obtain rfl:er2=er:=he2.trans her.symm
  rcases h1 with ⟨hz,rfl,hbl⟩|⟨hz,vL',rfl,hc,hr,ht⟩
  ·refine ⟨vL,by unfold plA;rw [if_neg hz],?_,Ch.of_below hbl⟩
   have h9:=h.bel hbl
   have e:osA os id bs er2=os:=by unfold osA;rw [if_neg hz]
   rw [e] at h9 ⊢
   exact h9
  ·refine ⟨vL',by unfold plA;rw [if_pos hz],?_,hc⟩
   have h9:=h.docA hc hr ht
   have e:osA os id bs er2=os++[(id,bs)]:=by unfold osA;rw [if_pos hz]
   rw [e] at h9 ⊢
   exact h9
def RdR (os:List Ob) (x:Pq) (id bs:List Nat) (er:Int):Prop :=
 (∃k,k<os.length∧x.dv=(2:Nat)∧x.at_=(offO os k:Nat)∧x.ln=(nb (os.getD k ([],[])).2.length:Nat)∧id=(os.getD k ([],[])).1∧bs=(os.getD k ([],[])).2∧er=0) ∨
 ((∀k,k<os.length→¬ (x.dv=(2:Nat)∧x.at_=(offO os k:Nat)∧x.ln=(nb (os.getD k ([],[])).2.length:Nat)))∧id=[]∧bs=[]∧er=4)
theorem RdR.one {os:List Ob} {x:Pq} {id bs id' bs':List Nat} {er er':Int} (h:RdR os x id bs er) (h':RdR os x id' bs' er'):id=id'∧bs=bs'∧er=er':=by
 rcases h with ⟨k,h1,h2,h3,h4,rfl,rfl,rfl⟩|⟨h1,rfl,rfl,rfl⟩
 ·rcases h' with ⟨j,k1,k2,k3,k4,rfl,rfl,rfl⟩|⟨k1,_⟩
  ·have:k=j:=offO_inj os k j h1 k1 (by rw [h3] at k3;omega)
   subst this
   exact ⟨rfl,rfl,rfl⟩
  ·exact absurd ⟨h2,h3,h4⟩ (k1 k h1)
 ·rcases h' with ⟨j,k1,k2,k3,k4,_⟩|⟨_,rfl,rfl,rfl⟩
  ·exact absurd ⟨k2,k3,k4⟩ (h1 j k1)
  ·exact ⟨rfl,rfl,rfl⟩
theorem vol_read (h:Jp w W c gp gv gy most m os sd os sd vL q K) (hK:K≤100000) (x:Pq) (hx:x.ok):Calls Tryd.prog 17 #[ptr gv,.agg x.cells.toArray] W fun e W' => ∃id bs vb er,e = .returned (.tuple #[str id,vb,.int .i64 er])∧RdR os x id bs er∧yA3 W' vb bs∧Below W.heap.size W W':=by
 refine (vread_s h.v (by have:=h.k;omega) x.dv x.at_ x.ln x.bd hx.2.1 hx.2.2).mono ?_
 rintro e W' ⟨hb,_,⟨k,vb,h1,h2,h3,h4,rfl,h5,_⟩|⟨rfl,h1⟩⟩
 ·exact ⟨_,_,vb,0,rfl,Or.inl ⟨k,h1,h2,h3,h4,rfl,rfl,rfl⟩,h5,hb⟩
 ·exact ⟨[],[],_,4,rfl,Or.inr ⟨h1,rfl,rfl,rfl⟩,yA3.nilV _,hb⟩
theorem doc_read (h:Jp w W c gp gv gy most m os sd os sd vL q K) (x:Pq):Calls Tryd.prog 18 #[ptr gy,.agg x.cells.toArray] W fun e W' => ∃id bs vb er,e = .returned (.tuple #[str id,vb,.int .i64 er])∧RdR os x id bs er∧yA3 W' vb bs∧Below W.heap.size W W':=by
 have hf:=h.few
 refine (rread_any gy 2 most (wide os) vL sd (tdsOf 2 os) h.y h.t (by rw [yE5];omega) (fun k hk=>(h.okT k (by rw [yE5] at hk;exact hk)).2) x).mono ?_
 rintro e W' ⟨hb,⟨k,h1,h2,h3,vb,rfl,h4⟩|⟨h1,rfl⟩⟩
 ·rw [yE5] at h1
  have h5:=(h.okT k h1).2
  have h6:=getD_all h.v.tape.ok k h1
  rw [tdsOf_at 2 os k h1] at h2 h4 h5 ⊢
  exact ⟨_,_,vb,0,rfl,Or.inl ⟨k,h1,h2.1,h2.2.1,h2.2.2,rfl,rfl,rfl⟩,BOwn.slice h4 h6.2.2 (by have:=h6.2.1;show (os.getD k ([],[])).2.length≤_;omega),hb⟩
 ·refine ⟨[],[],_,4,rfl,Or.inr ⟨fun k hk e => ?_,rfl,rfl,rfl⟩,yA3.nilV _,hb⟩
  have h2:=h1 k (by rw [yE5];exact hk)
  rw [tdsOf_at 2 os k hk] at h2
  exact h2 ⟨e.1,e.2.1,e.2.2⟩
theorem doc_root (h:Jp w W c gp gv gy most m os sd os sd vL q K):Calls Tryd.prog 25 #[ptr gy] W fun e W'=>e = .returned (av (rootO os))∧Below W.heap.size W W':=by
 have hf:=h.few
 refine (rroot_any gy 2 most (wide os) vL sd (tdsOf 2 os) h.y h.t (by rw [yE5];omega) (fun k hk=>h.okT k (by rw [yE5] at hk;exact hk))).mono ?_
 rintro e W' ⟨rfl,hb⟩
 exact ⟨by rw [rootT_of],hb⟩
end
end Go.Proofs.YtpkkkkomdblpoaaDoor

namespace Go.Proofs.YtpkkkkomdblpoaaDoor
open Go.RowKit Go.Maps
open Cold
set_option maxHeartbeats 4000000 in
set_option maxRecDepth 100000 in
theorem vappend_no {w:World} (gv:Nat) (id:List Nat) (vb:Value) (hid:∀c∈id,c<256) (hn:nameB id=false):Calls Tryd.prog 12 #[ptr gv,str id,vb] w fun e w'=>e = .returned (.tuple #[.agg (plC 0 0 0 false).toArray,.int .i64 1])∧Below w.heap.size w w':=by
 have HM:Hid ((∀c∈id,c<256)∧nameB id=false):=⟨hid,hn⟩
 have H0:Hid (Loc w w []):=Loc.nil (Below.refl _ _)
 clear hid hn
 obtain ⟨PQ,HPQ⟩:=exPQ fun (e:Ending) (w':World)=>e = .returned (.tuple #[.agg (plC 0 0 0 false).toArray,.int .i64 1])∧Below w.heap.size w w'
 rw [←HPQ.out]
 go_enter Tryd.func12,Tryd.ntmps12
 go_upto_region 0 with fail
 refine wp_region_lit ?_
 refine wl rfl _ _ (yB3 ((plC 0 0 0 false)) zero40 rfl) ?_
 have k_:=H0.out.box 40 ((plC 0 0 0 false))
 obtain ⟨w1,hW_⟩:∃W,W=w.alloc (.cells ((plC 0 0 0 false)).toArray 40):=⟨_,rfl⟩
 obtain ⟨q6,hq_⟩:∃q,q=w.heap.size:=⟨_,rfl⟩
 rw [←hW_,←hq_] at k_
 rw [←hW_,←hq_]
 clear hq_
 have Rw1:Hid (Loc w w1 [(q6,40,(plC 0 0 0 false))]):=k_
 clear k_ hW_ H0
 simp only [Act.put,aS,aC,aZ]
 refine wa (.const (.int .i64 0)) (.int .i64 0) ?_
 simp only [Act.put,aS,aC,aZ]
 refine wpList_nil ?_
 go_upto_region 1 with fail
 refine wp_region_lit ?_
 refine wm 1 (str id) ?_
 simp only [Act.put,aS,aC,aZ]
 refine yA5 eN37 [.tmp 12] _ rfl rfl [(str id)] rfl ?_
 refine (isName_any id HM.out.1 w1).mono ?_
 rintro e w2 ⟨rfl,hb_⟩
 refine ⟨_,rfl,?_⟩
 rw [HM.out.2]
 have H2:Hid (Loc w w2 [(q6,40,(plC 0 0 0 false))]):=Rw1.out.later hb_
 clear hb_ Rw1
 simp only [Act.put,aS,aC,aZ]
 refine wl rfl _ _ (yG1 (.tmp 13) 4 rfl false rfl) ?_
 refine wa (.tmp 14) (.bool true) ?_
 simp only [Act.put,aS,aC,aZ]
 refine wpList_nil ?_
 go_upto_region 2 with fail
 refine wp_region_lit ?_
 refine wl rfl _ _ (yK5 rfl) ?_
 simp only [Act.put,aS,aC,aZ]
 refine wlS rfl rfl _ (yB6 ag40 (.tmp 6) (.tmp 15) rfl H2.out 0 rfl (0) rfl ((plC 0 0 0 false)) rfl rfl (by decide) (yF7 _ _ _ _)).1 ?_
 have k_:=H2.out.lay 0 rfl (0) ((plC 0 0 0 false))
 rw [yB7 (plC 0 0 0 false) (plC 0 0 0 false) rfl] at k_ ⊢
 obtain ⟨w9,hW_⟩:∃W,W=w2.setRow q6 ((plC 0 0 0 false)).toArray:=⟨_,rfl⟩
 rw [←hW_] at k_ ⊢
 have Rw9:Hid (Loc w w9 [(q6,40,(plC 0 0 0 false))]):=k_
 clear k_ hW_ H2
 refine wa (.const (.int .i64 1)) (.int .i64 1) ?_
 simp only [Act.put,aS,aC,aZ]
 refine wpList_nil ?_
 go_wp2_with fail
 exact bodyPost_ret (yC6 ag40 Tryd.results12 _ _ q6 40 rfl (plC 0 0 0 false) rfl (Rw9.out.at 0 rfl) (.int .i64 1) rfl) rfl (by rw [HPQ.out];exact ⟨rfl,Rw9.out.below⟩)
theorem vapp_x {w:World} {c:Nat→Colour} {t gp gv d:Nat} {sz:Int} {m:Pl} {os:List Ob} {sd:Bool} (h:VOn w c t gp gv d sz m os sd) (hst:m.steps+100<1099511627775) (id bs:List Nat) (vb:Value) (hid:∀c∈id,c<256) (hin:yA3 w vb bs) (hvg:bs=[]∨∀b,vb.ownBlock=some b→b≠gv):Calls Tryd.prog 12 #[ptr gv,str id,vb] w fun e w' => ∃c' m' er,er=mayE id bs (roomP sz (wide os) sd)∧e = .returned (.tuple #[.agg (plA d os bs er).toArray,.int .i64 er])∧Sq t gv w w' c c'∧VOn w' c' t gp gv d sz m' (osA os id bs er) sd∧(m'=m∨Oth2 m m' d)∧(er=0→nameB id=true∧bs.length≤512∧sd=false∧(wide os+nb bs.length:Int)+2≤sz):=by
 by_cases hn:nameB id=true
 ·exact vapp_s h hst id bs vb hid (by have:=(nameB_len hn).2;omega) hin hvg
 ·have hn2:nameB id=false:=by simpa using hn
  refine (vappend_no gv id vb hid hn2).mono ?_
  rintro e w' ⟨rfl,hb⟩
  exact ⟨c,m,1,by unfold mayE;rw [if_pos hn2],rfl,Sq.bel c hb,h.below hb,Or.inl rfl,fun e=>absurd e (by decide)⟩
end Go.Proofs.YtpkkkkomdblpoaaDoor

namespace Go.Proofs.YtpkkkkomdblpoaaDoor
open Go.RowKit Go.Maps
open Cold
structure OpD where
 k:Int
 n:Int
 id:List Nat
 bv:Value
 b:List Nat
 x:Pq
instance:Inhabited OpD:=⟨⟨0,0,[],.slice none 0 0,[],default⟩⟩
def OpD.cells (o:OpD):List Value:=[.int .i64 o.k,.int .i64 o.n,str o.id,o.bv,.int .i64 o.x.dv,.int .i64 o.x.at_,.int .i64 o.x.ln,.bool o.x.bd]
theorem OpD.pl (o:OpD) (j:Nat) (v:Value) (h:o.x.cells[j]? = some v):o.cells[4+j]? = some v:=by
 have h4:j<4:=(List.getElem?_eq_some_iff.1 h).1
 rcases j with _|_|_|_|j
 ·exact h
 ·exact h
 ·exact h
 ·exact h
 ·omega
structure OpIn (W:World) (o:OpD):Prop where
 k:I64 o.k
 n:I64 o.n
 id:∀c∈o.id,c<256
 b:yA3 W o.bv o.b
 x:o.x.ok
theorem OpIn.one {W:World} {o:OpD} (h:OpIn W o):∀v∈o.cells,v.oneCell'=true:=by
 obtain ⟨p,cp,e,_⟩:=h.b
 intro u hu
 unfold OpD.cells at hu
 rw [e] at hu
 simp only [List.mem_cons,List.not_mem_nil,or_false] at hu
 rcases hu with rfl|rfl|rfl|rfl|rfl|rfl|rfl|rfl <;> rfl
def OpsIn (W:World) (v:Value) (L:List OpD):Prop :=
 ∃p cap,v = .slice p L.length cap∧L.length≤9223372036854775807∧(L=[]∨∃g off,p=some ⟨g,off,none⟩∧∀i,i<L.length→∀j,j<8→W.cell? ⟨g,off+(i * 8+j),none⟩=(L.getD i default).cells[j]?)∧∀o∈L,OpIn W o
theorem und22p:Tryd.prog.underlying 22=some (.slice 42):=by kernel_rfl
theorem sz42p:(Tryd.prog.info? 42).map (·.size)=some 8:=by kernel_rfl
theorem zero42:(Tryd.prog.info? 42).map (·.zero)=some (some (.agg (default:OpD).cells.toArray)):=by kernel_rfl
theorem ix_op {w:World} {v:Value} {us:List OpD} (hin:OpsIn w v us) (k:Nat) (hk:k<us.length):∃b j,(∀w',(Instr.indexAt 22 v (.int .i64 (k:Nat))).run Tryd.prog w' = .ok (.pointer (some ⟨b,j,none⟩)) w')∧OpIn w (us.getD k default)∧∀W,Below w.heap.size w W→∀(i:Nat) u,(us.getD k default).cells[i]? = some u→W.cell? ⟨b,j+i,none⟩=some u:=by
 obtain ⟨i3,hi3,hsz⟩:=Option.map_eq_some_iff.1 sz42p
 obtain ⟨p,cap,rfl,hl,h,hop⟩:=hin
 rcases h with rfl|⟨b,off,rfl,hc⟩
 ·simp at hk
 ·have hm:us.getD k default∈us:=by rw [List.getD_eq_getElem?_getD,List.getElem?_eq_getElem hk];exact List.getElem_mem hk
  refine ⟨b,off+k * 8,fun w'=>by simp [Instr.indexAt,asIntOf,run_underlying und22p,hk,sizeOf,typeInfo,hi3,hsz,yB8],hop _ hm,fun W hW i u hu => ?_⟩
  have hi:i<8:=by
   have:=(List.getElem?_eq_some_iff.1 hu).1
   simpa [OpD.cells] using this
  have h9:=hc k hk i hi
  rw [hu] at h9
  rw [Nat.add_assoc]
  exact cell_later hW h9
theorem run_lenOp {w w0:World} {a:Act} {o:Oper} {v:Value} {us:List OpD} (h:OpsIn w0 v us) (x:Operand) (ho:o.op = .call { callee:=.builtin .len,args:=#[x],argTypes:=#[22] }) (hx:a.eval x=v):(execOp a.eval o).run Tryd.prog w = .ok (.value (.int .i64 (us.length:Nat))) w:=by
 obtain ⟨p,cap,rfl,_⟩:=h
 exact yJ9 sl22 x ho p _ _ hx
theorem OpsIn.few {w:World} {v:Value} {L:List OpD} (h:OpsIn w v L):L.length≤9223372036854775807:=by
 obtain ⟨_,_,_,h1,_⟩:=h
 exact h1
theorem run_build37 {w:World} {a:Act} {o:Oper} (x:Operand) (ho:o.op = .build 37 #[(0,.const (.int .i64 2)),(1,x)]) (n:Nat) (hx:a.eval x = .int .i64 (n:Nat)):(execOp a.eval o).run Tryd.prog w = .ok (.value (.agg (rvC 2 n 0 (.slice none 0 0) false).toArray)) w:=by
 have e:(a.eval (.const (.int .i64 2))) = .int .i64 2:=rfl
 have hr:(Instr.build 37 #[(0,.int .i64 2),(1,.int .i64 (n:Nat))]).run Tryd.prog w = .ok (.agg (rvC 2 n 0 (.slice none 0 0) false).toArray) w:=by kernel_rfl
 simp only [execOp,ho,List.map_toArray,List.map_cons,List.map_nil,hx,e,hr,Sem.run_bind,Sem.run_pure,Result.andThen_ok]
theorem run_rem2 {w:World} {a:Act} {o:Oper} (x:Operand) (ho:o.op = .binOp .rem 3 x (.const (.int .i64 2)) 3) (n:Int) (hx:a.eval x = .int .i64 n):(execOp a.eval o).run Tryd.prog w = .ok (.value (.int .i64 (Int.tmod n 2))) w:=by
 have e:(a.eval (.const (.int .i64 2))) = .int .i64 2:=rfl
 simp only [execOp,ho,hx,e]
 simp [go_sem]
theorem run_neBo {w:World} {a:Act} {o:Oper} (x y:Operand) (ho:o.op = .binOp .neq 4 x y 4) (b b':Bool) (hx:a.eval x = .bool b) (hy:a.eval y = .bool b') (r:Bool) (hr:(!decide (b=b'))=r):(execOp a.eval o).run Tryd.prog w = .ok (.value (.bool r)) w:=by
 subst hr
 refine yH7 x y ho _ _ _ hx hy ?_ ?_
 ·rfl
 ·cases b <;> cases b' <;> simp [go_sem]
theorem row_ne {W:World} {a b T T':Nat} {cs cs':List Value} (h:Row W a T cs) (k:Row W b T' cs') (hT:T≠T'):a≠b:=fun e=>by
 subst e
 unfold Row at h k
 rw [h] at k
 injection k with k
 injection k with _ k
 exact hT k
theorem TdIn.noR {B t gv:Nat} {c:Nat→Colour} {W:World} {v:Value} {l:List Td} (h:TdIn B t gv c W v l) {q T:Nat} {cs:List Value} (hr:Row W q T cs) (hT:T≠48):¬ v.ownBlock=some q:=by
 obtain ⟨_,L,h1,_⟩:=h
 rcases h1.2.2 with ⟨rfl,_⟩|⟨g,cap,cur,rfl,_,hg,_⟩
 ·intro e;cases e
 ·intro e
  have e3:g=q:=Option.some.inj e
  unfold Row at hr
  rw [←e3,hg] at hr
  injection hr with h9
  injection h9 with _ h9
  exact hT h9.symm
structure Ow (w W:World) (c:Nat→Colour) (gv gy:Nat) (B:Nat) (v:Value) (cs:List Nat) (x:Nat):Prop where
 own:BOwn W B v cs
 is:∀b,v.ownBlock=some b→b=x
 out:Out 2 gv c W x
 ge:w.heap.size≤x
 ne:gy≠x
section
variable {w W W':World} {c c':Nat→Colour} {gv gy B x:Nat} {v:Value} {cs:List Nat}
theorem own_blk (h:BOwn W B v cs) (hB:B<W.heap.size):∃x,B≤x∧x<W.heap.size∧∀b,v.ownBlock=some b→b=x:=by
 have h0:∀b,v.ownBlock=some b→B≤b∧b<W.heap.size:=fun b e=>h.lt b e
 cases hv:v.ownBlock with
 | none=>exact ⟨B,Nat.le_refl _,hB,fun b e=>by cases e⟩
 | some g=>exact ⟨g,(h0 g hv).1,(h0 g hv).2,fun b e=>(Option.some.inj e).symm⟩
theorem Ow.bel (h:Ow w W c gv gy B v cs x) (hb:Below W.heap.size W W'):Ow w W' c gv gy B v cs x:=⟨yI7 h.own hb,h.is,⟨Nat.lt_of_lt_of_le h.out.1 hb.size,h.out.2⟩,h.ge,h.ne⟩
theorem Ow.sq (h:Ow w W c gv gy B v cs x) (s:Sq 2 gv W W' c c'):Ow w W' c' gv gy B v cs x:=⟨ownK h.own fun b e=>(h.is b e)▸(s.out h.out).2,h.is,(s.out h.out).1,h.ge,h.ne⟩
theorem Ow.ch {S:Nat→Prop} (h:Ow w W c gv gy B v cs x) (hc:Ch S W W') (hn:¬ S x):Ow w W' c gv gy B v cs x:=⟨ownK h.own fun b e=>hc.block b (h.own.lt b e).2 ((h.is b e)▸hn),h.is,⟨Nat.lt_of_lt_of_le h.out.1 hc.size,h.out.2⟩,h.ge,h.ne⟩
end
section
variable {w W W':World} {c:Nat→Colour} {gp gv gy most:Nat} {m:Pl} {os:List Ob} {sd:Bool} {ol:List Ob} {sl:Bool} {vL:Value} {q:Option Nat} {K:Nat}
theorem run_lenJ {w2:World} {a:Act} {o:Oper} (h:Jp w W c gp gv gy most m os sd ol sl vL q K) (x:Operand) (ho:o.op = .call { callee:=.builtin .len,args:=#[x],argTypes:=#[35] }) (hx:a.eval x=vL):(execOp a.eval o).run Tryd.prog w2 = .ok (.value (.int .i64 (ol.length:Nat))) w2:=by
 obtain ⟨_,L,h1,h2,_⟩:=h.t
 rw [←yE5 2 ol,←h2]
 exact yJ1 el35 h1 x ho hx
theorem Jp.el (h:Jp w W c gp gv gy most m os sd ol sl vL q K) (k:Nat) (hk:k<ol.length):∃vb g2,(∀w',(Instr.indexAt 35 vL (.int .i64 (k:Nat))).run Tryd.prog w' = .ok (.pointer (some ⟨g2,k * 7,none⟩)) w')∧(∀W',Below W.heap.size W W'→∀j u,(tdC (tdAt 2 ol k) vb)[j]? = some u→W'.cell? ⟨g2,k * 7+j,none⟩=some u)∧yA3 W vb (ol.getD k ([],[])).2:=by
 obtain ⟨_,M,hM1,hM2,hM3⟩:=h.t
 obtain ⟨vb,hMk,hsl,_⟩:=hM3 k (by rw [yE5];exact hk)
 obtain ⟨g2,_,_,hx2,hc2⟩:=hM1.ix el35 k (by rw [hM2,yE5];exact hk)
 rw [hMk,tdsOf_at 2 ol k hk] at hc2
 rw [tdsOf_at 2 ol k hk] at hsl
 exact ⟨vb,g2,hx2,fun W' hb=>hc2 W' ⟨hM1.1,yI7 hM1.2 hb⟩,hsl.1⟩
theorem Jp.spoils {B x:Nat} {v:Value} {cs:List Nat} (h:Jp w W c gp gv gy most m os sd ol sl vL (some x) K) (o:Ow w W c gv gy B v cs x) (k:Nat) (hk:k<cs.length):∃cur,(∀w',(Instr.indexAt 38 v (.int .i64 (k:Nat))).run Tryd.prog w' = .ok (.pointer (some ⟨x,k,none⟩)) w')∧Row W x 5 cur∧k<cur.length∧∀n:Nat,Ow w (W.setCell ⟨x,k,none⟩ (.int .u8 (n:Nat))) c gv gy B v (cs.set k n) x∧Jp w (W.setCell ⟨x,k,none⟩ (.int .u8 (n:Nat))) c gp gv gy most m os sd ol sl vL (some x) K∧Ch (· = x) W (W.setCell ⟨x,k,none⟩ (.int .u8 (n:Nat))):=by
 obtain ⟨b,cur,h1,h2,h3,h4,h5⟩:=Go.Proofs.YtpkkkkomdblpoaaDoor.spoil o.own k hk
 obtain rfl:b=x:=o.is b h1
 refine ⟨cur,h2,h3,h4,fun n => ?_⟩
 have hc:=(Ch.refl (· = b) W).setCell (g:=b) (Or.inl rfl) k (.int .u8 (n:Nat))
 exact ⟨⟨h5 n,o.is,⟨Nat.lt_of_lt_of_le o.out.1 hc.size,o.out.2⟩,o.ge,o.ne⟩,h.spoil hc o.out o.ge o.ne,hc⟩
end
theorem shape_most {n:Int} (h:yL1 [2] [3,n]=true):∃k:Nat,n=(k:Nat)∧1≤k∧k≤4096:=by
 simp [yL1,yG7] at h
 exact ⟨n.toNat,by omega,by omega,by omega⟩
theorem shape_of {k:Nat}:ShapeOf (newPl [2] [3,(k:Nat)]) [2] [3,k]:=by
 unfold ShapeOf newPl
 simp
end Go.Proofs.YtpkkkkomdblpoaaDoor

namespace Go.Proofs.YtpkkkkomdblpoaaDoor
open Go.RowKit Go.Maps
set_option maxHeartbeats 1000000 in
set_option maxRecDepth 100000 in
theorem newBad_any (w:World) (vd vt:Value) (ds ts:List Int) (hd:IntsIn w vd ds) (ht:IntsIn w vt ts) (hl1:ds.length<1152921504606846976) (hl2:ts.length<1152921504606846976) (hok:yL1 ds ts=false) :
  Calls Tryd.prog 9 #[.agg #[vd,vt]] w fun e w'=>e = .returned (.tuple #[.pointer none,.int .i64 30])∧Below w.heap.size w w':=by
 obtain ⟨B,hB⟩:∃B,B=w.heap.size:=⟨_,rfl⟩
 have HB:Hid (B=w.heap.size):=hB
 obtain ⟨pd,cd,hvd,hdl⟩:=hd.shape
 obtain ⟨pt,ct,hvt,htl⟩:=ht.shape
 subst hvd hvt
 obtain ⟨nd,hnd⟩:∃nd,nd=ds.length:=⟨_,rfl⟩
 obtain ⟨nt,hnt⟩:∃nt,nt=ts.length:=⟨_,rfl⟩
 have HD:Hid (IntsIn w (.slice pd nd cd) ds):=by rw [hnd];exact hd
 have HT:Hid (IntsIn w (.slice pt nt ct) ts):=by rw [hnt];exact ht
 have HOK:Hid (nd+nt<1∨12<nd+nt∨yG7 ds=false∨(yG7 ds=true∧yG7 ts=false)):=by
  rw [hnd,hnt]
  unfold yL1 at hok
  cases h1:yG7 ds
  ·exact Or.inr (Or.inr (Or.inl rfl))
  ·cases h2:yG7 ts
   ·exact Or.inr (Or.inr (Or.inr ⟨rfl,rfl⟩))
   ·rw [h1,h2] at hok
    by_cases h3:1≤ds.length+ts.length
    ·by_cases h4:ds.length+ts.length≤12
     ·simp [h3,h4] at hok
     ·exact Or.inr (Or.inl (by omega))
    ·exact Or.inl (by omega)
 have hnd60:nd<1152921504606846976:=by omega
 have hnt60:nt<1152921504606846976:=by omega
 rw [←hnd,←hnt,←hB]
 rw [←hnd] at hdl
 rw [←hnt] at htl
 clear hd ht hB hnd hnt hok hl1 hl2
 go_enter Tryd.func9,Tryd.ntmps9
 go_upto_region 0 with fail
 refine wp_region_lit ?_
 refine yJ0 (.tmp 0) rfl rfl [.slice pd nd cd,.slice pt nt ct] rfl ?_
 intro w1 r1 s1 b1
 refine yD8 (.const (.pointer none)) rfl rfl (.pointer none) rfl ?_
 refine yD8 (.const (.int .i64 0)) rfl rfl (.int .i64 0) rfl ?_
 refine wpList_nil ?_
 simp only [Act.put,aS,aC,aZ]
 rw [←HB.out] at r1 s1 b1 ⊢
 have k0:=r1.at 0 _ rfl
 have k1:=r1.at 1 _ rfl
 have HB1:Hid (Below B w w1):=b1
 have HD1:Hid (IntsIn w1 (.slice pd nd cd) ds):=HD.out.later (by rw [←HB.out];exact b1)
 have HT1:Hid (IntsIn w1 (.slice pt nt ct) ts):=HT.out.later (by rw [←HB.out];exact b1)
 obtain ⟨y1,hy1⟩:∃y1,y1=yG7 ds:=⟨_,rfl⟩
 obtain ⟨y2,hy2⟩:∃y2,y2=yG7 ts:=⟨_,rfl⟩
 have CS1:Hid (Calls Tryd.prog 34 #[.slice pd nd cd] w1 fun e w'=>e = .returned (.bool y1)∧w1=w'):=by rw [hy1];exact (sizes_any w1 _ ds HD1.out).mono fun _ _ h=>⟨h.1,h.2.symm⟩
 have CS2:Hid (Calls Tryd.prog 34 #[.slice pt nt ct] w1 fun e w'=>e = .returned (.bool y2)∧w1=w'):=by rw [hy2];exact (sizes_any w1 _ ts HT1.out).mono fun _ _ h=>⟨h.1,h.2.symm⟩
 have hcase:=HOK.out
 rw [←hy1,←hy2] at hcase
 clear r1 s1 b1 hy1 hy2 HOK
 by_cases h1:nd+nt<1
 ·have t1:decide ((nd:Int)+(nt:Int)<1)=true:=by simp;omega
  clear hcase
  go_wp2
  go_ret2
  exact ⟨rfl,HB1.out⟩
 ·have t1:decide ((nd:Int)+(nt:Int)<1)=false:=by simp;omega
  by_cases h2:12<nd+nt
  ·have t2:decide (12<(nd:Int)+(nt:Int))=true:=by simp;omega
   clear hcase
   go_wp2
   go_ret2
   exact ⟨rfl,HB1.out⟩
  ·have t2:decide (12<(nd:Int)+(nt:Int))=false:=by simp;omega
   rcases hcase with h|h|rfl|⟨rfl,rfl⟩
   ·omega
   ·omega
   ·go_wp2_with (go_at_call_of 34 (Value.slice pd nd cd);refine (CS1.out).mono ?_;rintro e wx ⟨rfl,rfl⟩)
    go_ret2
    exact ⟨rfl,HB1.out⟩
   ·go_wp2_with (first|(go_at_call_of 34 (Value.slice pd nd cd);refine (CS1.out).mono ?_;rintro e wx ⟨rfl,rfl⟩)|(go_at_call_of 34 (Value.slice pt nt ct);refine (CS2.out).mono ?_;rintro e wx ⟨rfl,rfl⟩))
    go_ret2
    exact ⟨rfl,HB1.out⟩
end Go.Proofs.YtpkkkkomdblpoaaDoor

/- Layer 15: the calls of a volume whose tape no crash met. Layer 15: what the laws hold: a volume, and rows of their own. -/
import Derived.Test.YtpkkkkomdblpoaaDoorS31
namespace Go.Proofs.YtpkkkkomdblpoaaDoor
open Go.RowKit Go.Maps
open Cold
structure Sq (t gv:Nat) (W W':World) (c c':Nat→Colour):Prop where
 cc:∀b,b<W.heap.size→c' b=c b
 ch:Ch (fun b=>b=gv∨(c b).1=t) W W'
theorem Sq.bel {t gv:Nat} {W W':World} (c:Nat→Colour) (hb:Below W.heap.size W W'):Sq t gv W W' c c:=⟨fun _ _=>rfl,Ch.of_below hb⟩
def Out (t gv:Nat) (c:Nat→Colour) (W:World) (b:Nat):Prop:=b<W.heap.size∧b≠gv∧(c b).1≠t∧3≤b
theorem Sq.out {t gv:Nat} {W W':World} {c c':Nat→Colour} (s:Sq t gv W W' c c') {b:Nat} (h:Out t gv c W b):Out t gv c' W' b∧W'.heap[b]? = W.heap[b]? :=
 ⟨⟨Nat.lt_of_lt_of_le h.1 s.ch.size,h.2.1,by rw [s.cc b h.1];exact h.2.2.1,h.2.2.2⟩,s.ch.block b h.1 fun e=>e.elim h.2.1 h.2.2.1⟩
theorem Sq.row {t gv:Nat} {W W':World} {c c':Nat→Colour} (s:Sq t gv W W' c c') {q T:Nat} {cs:List Value} (h:Out t gv c W q) (hr:Row W q T cs):Row W' q T cs:=s.ch.row (fun e=>e.elim h.2.1 h.2.2.1) hr
theorem VolW.outNew {W:World} {c:Nat→Colour} {t gp gv d:Nat} {sz:Int} {m:Pl} {rt:List Nat} {sl:Bool} (h:VolW W c t gp gv d sz m rt sl) {W':World} {b:Nat} (hb:W.heap.size≤b) (hl:b<W'.heap.size):Out t gv c W' b:=⟨hl,fun e=>by have:=h.row.lt;omega,h.live.2.2 b hb,by have:=h.row.lt;have:=h.far;omega⟩
def Seen (sd:Bool) (os:List Ob) (rt:List Nat) (sl:Bool):Prop:=sl=true→sd=true∧rt=rootO os
def mayE (id bs:List Nat) (room:Nat):Int:=if nameB id=false then 1 else if 512<bs.length then 5 else if room<nb bs.length then 3 else 0
def plA (d:Nat) (os:List Ob) (bs:List Nat) (er:Int):List Value:=if er=0 then plC (d:Nat) (wide os:Nat) (nb bs.length:Nat) false else plC 0 0 0 false
def osA (os:List Ob) (id bs:List Nat) (er:Int):List Ob:=if er=0 then os++[(id,bs)] else os
structure VOn (W:World) (c:Nat→Colour) (t gp gv d:Nat) (sz:Int) (m:Pl) (os:List Ob) (sd:Bool):Prop where
 vol:∃rt sl,VolW W c t gp gv d sz m rt sl∧Seen sd os rt sl
 tape:OnT m d os sd
section
variable {w:World} {c:Nat→Colour} {t gp gv d:Nat} {sz:Int} {m:Pl} {os:List Ob} {sd:Bool}
theorem VOn.below {w':World} (h:VOn w c t gp gv d sz m os sd) (hb:Below w.heap.size w w'):VOn w' c t gp gv d sz m os sd:=by
 obtain ⟨⟨rt,sl,hv,hs⟩,ht⟩:=h
 exact ⟨⟨rt,sl,hv.below hb,hs⟩,ht⟩
theorem VOn.len (h:VOn w c t gp gv d sz m os sd):(ctn m d).length=wide os+(if sd then 2 else 0)∧(ctn m d).length≤4096∧((ctn m d).length:Int)≤sz∧0≤sz∧sz≤4096∧sz=(m.size d:Nat)∧3≤gv∧gv<w.heap.size:=by
 obtain ⟨⟨rt,sl,hv,hs⟩,ht⟩:=h
 exact ⟨ht.len,hv.bound.1,hv.bound.2.1,hv.bound.2.2.1,hv.bound.2.2.2.1,hv.size,hv.far,hv.row.lt⟩
theorem VOn.outNew {W':World} (h:VOn w c t gp gv d sz m os sd) {b:Nat} (hb:w.heap.size≤b) (hl:b<W'.heap.size):Out t gv c W' b:=by
 obtain ⟨⟨rt,sl,hv,hs⟩,ht⟩:=h
 exact hv.outNew hb hl
theorem VOn.env (h:VOn w c t gp gv d sz m os sd):Env w:=by
 obtain ⟨⟨rt,sl,hv,hs⟩,ht⟩:=h
 exact hv.env
theorem roomP_end (sz:Int) (os:List Ob) (sd:Bool):roomP sz (wide os+(if sd then 2 else 0)) sd=roomP sz (wide os) sd:=by
 cases sd <;> rfl
theorem VOn.seen {w':World} (h:VOn w c t gp gv d sz m os sd) {rt:List Nat} {sl:Bool} (hs:Seen sd os rt sl) {rt2:List Nat} {sl2:Bool} {er:Int} (hv:VolW w' c t gp gv d sz m rt2 sl2) (hr:SlR m.on d (ctn m d) rt sl rt2 sl2 er):er=0∧sl2=sd∧(sd=true→rt2=rootO os)∧VOn w' c t gp gv d sz m os sd:=by
 have h1:=h.tape.slr hs hr
 exact ⟨h1.1,h1.2.1,h1.2.2,⟨⟨rt2,sl2,hv,fun e=>by rw [h1.2.1] at e;exact ⟨e,h1.2.2 e⟩⟩,h.tape⟩⟩
theorem vroom_s (h:VOn w c t gp gv d sz m os sd) (hst:m.steps<35184372088831):Calls Tryd.prog 23 #[ptr gv] w fun e w'=>e = .returned (.int .i64 (roomP sz (wide os) sd:Nat))∧Sq t gv w w' c c∧VOn w' c t gp gv d sz m os sd:=by
 obtain ⟨rt,sl,hv,hs⟩:=h.vol
 refine (room_any hv hst).mono ?_
 rintro e w' ⟨rt2,sl2,er,rfl,h1,h2,h3⟩
 obtain ⟨_,h5,_,h6⟩:=h.seen hs h1 h3
 refine ⟨?_,⟨fun _ _=>rfl,h2.mono fun b _ e=>Or.inl e⟩,h6⟩
 rw [h5,h.tape.len,roomP_end]
theorem vroot_s (h:VOn w c t gp gv d sz m os sd) (hst:m.steps<35184372088831):Calls Tryd.prog 20 #[ptr gv] w fun e w'=>e = .returned (.tuple #[av (if sd then rootO os else Zs 32),.bool sd])∧Sq t gv w w' c c∧VOn w' c t gp gv d sz m os sd:=by
 obtain ⟨rt,sl,hv,hs⟩:=h.vol
 refine (root_any hv hst).mono ?_
 rintro e w' ⟨rt2,sl2,er,rfl,h1,h2,h3⟩
 obtain ⟨_,h5,h7,h6⟩:=h.seen hs h1 h3
 refine ⟨?_,⟨fun _ _=>rfl,h2.mono fun b _ e=>Or.inl e⟩,h6⟩
 rw [h5]
 cases sd with
 | false=>rfl
 | true=>rw [h7 rfl,if_pos rfl]
theorem vread_s (h:VOn w c t gp gv d sz m os sd) (hst:m.steps<35184372088831) (d' a' l':Int) (bd:Bool) (ha : -9223372036854775808≤a'∧a'≤9223372036854775807) (hn : -9223372036854775808≤l'∧l'≤9223372036854775807):Calls Tryd.prog 17 #[ptr gv,.agg (plC d' a' l' bd).toArray] w fun e w'=>Below w.heap.size w w'∧VOn w' c t gp gv d sz m os sd ∧
  ((∃k vb,k<os.length∧d'=(d:Nat)∧a'=(offO os k:Nat)∧l'=(nb (os.getD k ([],[])).2.length:Nat)∧e = .returned (.tuple #[str (os.getD k ([],[])).1,vb,.int .i64 0])∧yA2 w' vb (os.getD k ([],[])).2∧∀b,vb.ownBlock=some b→w.heap.size≤b) ∨
  (e = .returned (.tuple #[str [],.slice none 0 0,.int .i64 4])∧∀k,k<os.length→¬ (d'=(d:Nat)∧a'=(offO os k:Nat)∧l'=(nb (os.getD k ([],[])).2.length:Nat)))):=by
 obtain ⟨rt,sl,hv,hs⟩:=h.vol
 refine (vread_any hv hst d' a' l' bd ha hn).mono ?_
 rintro e w' ⟨hb,id,vb,er,rfl,⟨rfl,h1,h2,a,N,bs,rfl,rfl,h3,h4,h5,h6⟩|⟨_,_,_,_,h1,_⟩|⟨rfl,rfl,rfl,h1⟩⟩
 ·obtain ⟨k,k1,k2,k3,k4⟩:=h.tape.read (by have:=h.len.2.1;omega) h3 h4
  refine ⟨hb,h.below hb,Or.inl ⟨k,vb,k1,h1,by rw [k2],by rw [k4],?_,?_,h6⟩⟩
  ·rw [←k3]
  ·rw [←k3];exact h5
 ·rw [h.tape.tv.on] at h1
  cases h1
 ·refine ⟨hb,h.below hb,Or.inr ⟨rfl,fun k hk ⟨e1,e2,e3⟩ => ?_⟩⟩
  have ho:=h.tape.obj k hk
  exact h1 e1 _ _ e2 e3 ho.1 ⟨_,_,ho.2⟩
structure Oth2 (m m':Pl) (d:Nat):Prop where
 oth:Oth m m' d
 wf:m'.WF
 on:m'.on=true
 fuse:m'.fuse<0
 few:m'.steps≤m.steps+16
theorem OnT.append (h:OnT m d os false) {id bs:List Nat} (ho:OkOb (id,bs)) (hr:wide os+nb bs.length≤m.size d):(m.lays (d:Int) (blks d (wide os) id bs)).1=0∧OnT (m.lays (d:Int) (blks d (wide os) id bs)).2 d (os++[(id,bs)]) false∧Oth2 m (m.lays (d:Int) (blks d (wide os) id bs)).2 d:=by
 have hl:=h.len
 rw [if_neg (by decide),Nat.add_zero] at hl
 obtain ⟨k,h1,h2,_,h4,h5,h6⟩:=lays_run d (blks d (wide os) id bs) m h.tv (blks_all d (wide os) ho) (by rw [hl,yC1];exact hr)
 have h7:=(yJ5 (d:Int) (blks d (wide os) id bs) m).1
 rw [yC1] at h7
 have h8:nb bs.length≤12:=nb_le ho.2.1
 rcases h6 with ⟨q1,q2,q3,q4⟩|⟨_,_,_,q4⟩
 ·refine ⟨q2,⟨⟨h5,q3,by rw [h4.n];exact h.tv.lt,by rw [h4.tape];exact h.tv.tape⟩,q4 h.fuse,fun o hx => ?_,?_⟩,⟨h4,h5,q3,q4 h.fuse,by omega⟩⟩
  ·rcases List.mem_append.1 hx with hx|hx
   ·exact h.ok o hx
   ·rw [List.mem_singleton.1 hx];exact ho
  ·rw [h2,q1,List.take_length,h.ct,layO_append,layO_one,Nat.zero_add]
   simp
 ·exact absurd h.fuse q4
theorem OnT.flush (h:OnT m d os sd):(m.flush (d:Int)).1=0∧OnT (m.flush (d:Int)).2 d os sd∧Oth2 m (m.flush (d:Int)).2 d:=by
 obtain ⟨h1,h2,h3,h4⟩:=flush_run h.tv
 have h9:(m.flush (d:Int)).2.steps≤m.steps+1:=by
  rw [h.tv.flush]
  split
  ·exact m.step_le
  ·exact m.step_le
 rcases h4 with ⟨q1,q2,_,q4⟩|⟨_,_,_,q4⟩
 ·exact ⟨q1,⟨⟨h3,q2,by rw [h2.n];exact h.tv.lt,by rw [h2.tape];exact h.tv.tape⟩,q4 h.fuse,h.ok,by rw [h1];exact h.ct⟩,⟨h2,h3,q2,q4 h.fuse,by omega⟩⟩
 ·exact absurd h.fuse q4
theorem ends_all (d a:Nat) {rt:List Nat} (h:∀c∈rt,c<256):∀b∈ends d a rt,b.length=64∧∀c∈b,c<256:=fun b hb=>by
 rcases List.mem_cons.1 hb with rfl|hb
 ·exact ⟨eb_length _ _ _ _,eb_lt _ _ _ h⟩
 ·rw [List.mem_singleton.1 hb]
  exact ⟨eb_length _ _ _ _,eb_lt _ _ _ h⟩
theorem OnT.seal (h:OnT m d os false) (hr:wide os+2≤m.size d):(m.lays (d:Int) (ends d (wide os) (rootO os))).1=0∧OnT (m.lays (d:Int) (ends d (wide os) (rootO os))).2 d os true∧Oth2 m (m.lays (d:Int) (ends d (wide os) (rootO os))).2 d:=by
 have hl:=h.len
 rw [if_neg (by decide),Nat.add_zero] at hl
 obtain ⟨k,h1,h2,_,h4,h5,h6⟩:=lays_run d (ends d (wide os) (rootO os)) m h.tv (ends_all d (wide os) (rootO_is os).2) (by rw [hl];exact hr)
 have h7:=(yJ5 (d:Int) (ends d (wide os) (rootO os)) m).1
 have h8:(ends d (wide os) (rootO os)).length=2:=rfl
 rcases h6 with ⟨q1,q2,q3,q4⟩|⟨_,_,_,q4⟩
 ·refine ⟨q2,⟨⟨h5,q3,by rw [h4.n];exact h.tv.lt,by rw [h4.tape];exact h.tv.tape⟩,q4 h.fuse,h.ok,?_⟩,⟨h4,h5,q3,q4 h.fuse,by omega⟩⟩
  rw [h2,q1,List.take_length,h.ct]
  simp
 ·exact absurd h.fuse q4
theorem Oth2.trans {m1 m2:Pl} (h:Oth2 m m1 d) (k:Oth2 m1 m2 d) (hs:m2.steps≤m.steps+16):Oth2 m m2 d:=⟨h.oth.trans k.oth,k.wf,k.on,k.fuse,hs⟩
theorem roomP_false (sz:Int) (n:Nat):roomP sz n false=(sz - n - 2).toNat:=rfl
theorem vapp_s (h:VOn w c t gp gv d sz m os sd) (hst:m.steps+100<35184372088831) (id bs:List Nat) (vb:Value) (hid:∀c∈id,c<256) (hil:id.length≤1000) (hin:yA2 w vb bs) (hvg:bs=[]∨∀b,vb.ownBlock=some b→b≠gv):Calls Tryd.prog 12 #[ptr gv,str id,vb] w fun e w' => ∃c' m' er,er=mayE id bs (roomP sz (wide os) sd)∧e = .returned (.tuple #[.agg (plA d os bs er).toArray,.int .i64 er])∧Sq t gv w w' c c'∧VOn w' c' t gp gv d sz m' (osA os id bs er) sd∧(m'=m∨Oth2 m m' d)∧(er=0→nameB id=true∧bs.length≤512∧sd=false∧(wide os+nb bs.length:Int)+2≤sz):=by
 obtain ⟨rt,sl,hv,hs⟩:=h.vol
 have hln:=h.len
 have hb256:=yA2.lt256 hin
 refine (vappend_any hv hst id bs vb hid hil hin hvg).mono ?_
 rintro e w' (⟨h1,rfl,h2⟩|⟨h1,h2,rfl,h3⟩|⟨h1,h2,rt2,sl2,er,h3,⟨h4,rfl,h5,h6⟩|⟨h4,c',he,h6,h7,h8⟩⟩)
 ·exact ⟨c,m,1,by unfold mayE;rw [if_pos h1],rfl,Sq.bel c h2,h.below h2,Or.inl rfl,fun e=>absurd e (by decide)⟩
 ·exact ⟨c,m,5,by unfold mayE;rw [if_neg (by rw [h1];decide),if_pos h2],rfl,Sq.bel c h3,h.below h3,Or.inl rfl,fun e=>absurd e (by decide)⟩
 ·obtain ⟨_,k2,_,k4⟩:=h.seen hs h5 h3
  rw [k2,h.tape.len,roomP_end] at h4
  exact ⟨c,m,3,by unfold mayE;rw [if_neg (by rw [h1];decide),if_neg (by omega),if_pos h4],rfl,⟨fun _ _=>rfl,h6.mono fun b _ e=>Or.inl e⟩,k4,Or.inl rfl,fun e=>absurd e (by decide)⟩
 ·have hk:=h.tape.slr hs h3
  have hsl2:=hk.2.1
  rw [hsl2,h.tape.len,roomP_end] at h4
  have hp:=nb_pos bs.length
  have hsd:sd=false:=by
   cases sd with
   | false=>rfl
   | true=>have:roomP sz (wide os) true=0:=rfl;omega
  subst hsd
  rw [roomP_false] at h4
  have hlen:=h.tape.len
  rw [if_neg (by decide),Nat.add_zero] at hlen
  have ha:=h.tape.append (id:=id) (bs:=bs) ⟨h1,h2,hb256⟩ (by have:=hln.2.2.2.2.2.1;omega)
  rw [hlen,if_pos ha.1] at he
  rw [hlen] at h8
  refine ⟨c',_,0,?_,he,⟨h6,h7⟩,⟨⟨rt2,sl2,h8,fun e => ?_⟩,ha.2.1⟩,Or.inr ha.2.2,fun _=>⟨h1,h2,rfl,by omega⟩⟩
  ·unfold mayE
   rw [if_neg (by rw [h1];decide),if_neg (by omega),if_neg (by rw [roomP_false];omega)]
  ·rw [hsl2] at e
   cases e
theorem vseal_s (h:VOn w c t gp gv d sz m os sd) (hst:m.steps+100<35184372088831):Calls Tryd.prog 19 #[ptr gv] w fun e w' => ∃c' m' er sd',e = .returned (.int .i64 er)∧Sq t gv w w' c c'∧VOn w' c' t gp gv d sz m' os sd'∧(m'=m∨Oth2 m m' d)∧(((sd=true∨sz - (wide os:Nat)<2)∧er=3∧sd'=sd)∨(sd=false∧2≤sz - (wide os:Nat)∧er=0∧sd'=true)):=by
 obtain ⟨rt,sl,hv,hs⟩:=h.vol
 have hln:=h.len
 have hl:=h.tape.len
 refine (seal_any hv hst).mono ?_
 rintro e w' ⟨c',er,m',rt',sl',rfl,h1,h2,h3,⟨rfl,rfl,h4,rfl,rfl⟩|⟨h4,rt2,sl2,e2,h5,h6⟩⟩
 ·refine ⟨c',m',3,sd,rfl,⟨h1,h2⟩,⟨⟨_,_,h3,hs⟩,h.tape⟩,Or.inl rfl,Or.inl ⟨?_,rfl,rfl⟩⟩
  cases sd with
  | true=>exact Or.inl rfl
  | false=>right;rw [hl] at h4;simpa using h4
 ·have hk:=h.tape.slr hs h5
  rcases h6 with ⟨k1,_⟩|⟨_,k2,rfl,rfl,rfl,rfl⟩|⟨_,k2,os2,k3,k4,_,k6⟩
  ·exact absurd hk.1 k1
  ·have hsd:sd=true:=by rw [←hk.2.1];exact k2
   exact ⟨c',m',3,sd,rfl,⟨h1,h2⟩,⟨⟨_,_,h3,fun _=>⟨hsd,hk.2.2 hsd⟩⟩,h.tape⟩,Or.inl rfl,Or.inl ⟨Or.inl hsd,rfl,rfl⟩⟩
  ·have hsd:sd=false:=by rw [←hk.2.1];exact k2
   subst hsd
   have e:=k3.one h.tape.chn.1 k4 h.tape.chn.2
   subst e
   rw [if_neg (by decide),Nat.add_zero] at hl
   rw [hl] at h4 k6
   have hsz:=hln.2.2.2.2.2.1
   have ha:=h.tape.seal (by omega)
   have hf:=ha.2.1.flush
   rcases k6 with ⟨q,_⟩|⟨_,rfl,⟨q,_⟩|⟨_,rfl,rfl,rfl⟩⟩
   ·exact absurd ha.1 q
   ·exact absurd hf.1 q
   ·have hs9:((m.lays (d:Int) (ends d (wide os2) (rootO os2))).2.flush (d:Int)).2.steps≤m.steps+16:=by
     have h7:=(yJ5 (d:Int) (ends d (wide os2) (rootO os2)) m).1
     have h8:(ends d (wide os2) (rootO os2)).length=2:=rfl
     have h9:((m.lays (d:Int) (ends d (wide os2) (rootO os2))).2.flush (d:Int)).2.steps≤(m.lays (d:Int) (ends d (wide os2) (rootO os2))).2.steps+1:=by
      rw [ha.2.1.tv.flush]
      split
      ·exact Pl.step_le _
      ·exact Pl.step_le _
     omega
    exact ⟨c',_,0,true,rfl,⟨h1,h2⟩,⟨⟨_,_,h3,fun _=>⟨rfl,rfl⟩⟩,hf.2.1⟩,Or.inr (ha.2.2.trans hf.2.2 hs9),Or.inr ⟨rfl,by omega,rfl,rfl⟩⟩
end
end Go.Proofs.YtpkkkkomdblpoaaDoor

namespace Go.Proofs.YtpkkkkomdblpoaaDoor
open Go.RowKit Go.Maps
open Cold
theorem fields40:∃f0 f1 f2 f3:Field,Tryd.prog.underlying 40=some (.struct #[f0,f1,f2,f3])∧(f0.type=3∧f0.offset=0∧(f0.name ≠ "_"))∧(f1.type=3∧f1.offset=1∧(f1.name ≠ "_"))∧(f2.type=3∧f2.offset=2∧(f2.name ≠ "_"))∧(f3.type=4∧f3.offset=3∧(f3.name ≠ "_")) :=
 ⟨_,_,_,_,Tryd.underlying40,⟨rfl,rfl,by decide⟩,⟨rfl,rfl,by decide⟩,⟨rfl,rfl,by decide⟩,rfl,rfl,by decide⟩
theorem eqlPl (a b c a' b' c':Int) (d d':Bool) (W:World):(Op.equalIn 10000 40 (.agg (plC a b c d).toArray) (.agg (plC a' b' c' d').toArray)).run Tryd.prog W = .ok (decide (a=a'∧b=b'∧c=c'∧d=d')) W:=by
 have h1:Tryd.prog.underlying 40=some (.struct (Tryd.prog.fieldsOf 40)):=by kernel_rfl
 have h2:Tryd.prog.stoodInHeld 40=false:=by kernel_rfl
 obtain ⟨f0,f1,f2,f3,hf0,⟨a1,a2,a3⟩,⟨b1,b2,b3⟩,⟨c1,c2,c3⟩,d1,d2,d3⟩:=fields40
 have hf:(Tryd.prog.fieldsOf 40).toList=[f0,f1,f2,f3]:=by
  have h3:=TypeDesc.struct.inj (Option.some.inj (h1.symm.trans hf0))
  rw [h3]
 have hq:∀x y:Int,(Op.equalIn (9998+1) 3 (.int .i64 x) (.int .i64 y)).run Tryd.prog W = .ok (decide (x=y)) W:=fun x y=>by
  rw [run_equalIn_int W 9998 3 .i64 .i64 x y Tryd.underlying3]
  by_cases h:x=y <;> simp [h]
 have hb:(Op.equalIn (9998+1) 4 (.bool d) (.bool d')).run Tryd.prog W = .ok (decide (d=d')) W:=by
  rw [run_equalIn_bool' W 9998 4 d d' Tryd.underlying4]
  by_cases h:d=d' <;> simp [h]
 have p3:∀(i:Nat) (cs:List Value) (v:Value),cs[i]? = some v→(part 3 cs.toArray i).run Tryd.prog W = .ok v W:=fun i cs v hv=>by simp [part,isAgg,run_underlying Tryd.underlying3,hv]
 have p4:∀(i:Nat) (cs:List Value) (v:Value),cs[i]? = some v→(part 4 cs.toArray i).run Tryd.prog W = .ok v W:=fun i cs v hv=>by simp [part,isAgg,run_underlying Tryd.underlying4,hv]
 rw [show (10000:Nat)=9998+1+1 from rfl,run_equalIn_struct W (9998+1) 40 _ _ h1 h2,hf]
 have P0:=p3 0 (plC a b c d) (.int .i64 a) rfl
 have P1:=p3 0 (plC a' b' c' d') (.int .i64 a') rfl
 have P2:=p3 1 (plC a b c d) (.int .i64 b) rfl
 have P3:=p3 1 (plC a' b' c' d') (.int .i64 b') rfl
 have P4:=p3 2 (plC a b c d) (.int .i64 c) rfl
 have P5:=p3 2 (plC a' b' c' d') (.int .i64 c') rfl
 have P6:=p4 3 (plC a b c d) (.bool d) rfl
 have P7:=p4 3 (plC a' b' c' d') (.bool d') rfl
 generalize plC a b c d=X at P0 P2 P4 P6 ⊢
 generalize plC a' b' c' d'=Y at P1 P3 P5 P7 ⊢
 simp only [Op.eqFields,a1,a2,b1,b2,c1,c2,d1,d2,a3,b3,c3,d3,ne_eq,not_false_eq_true,if_true,Sem.run_bind,P0,P1,Result.andThen_ok,hq]
 by_cases e1:a=a'
 ·simp only [e1,decide_true,Bool.not_true,Bool.false_eq_true,if_false,Sem.run_bind,P2,P3,Result.andThen_ok,hq,true_and]
  by_cases e2:b=b'
  ·simp only [e2,decide_true,Bool.not_true,Bool.false_eq_true,if_false,Sem.run_bind,P4,P5,Result.andThen_ok,hq,true_and]
   by_cases e3:c=c'
   ·simp only [e3,decide_true,Bool.not_true,Bool.false_eq_true,if_false,Sem.run_bind,P6,P7,Result.andThen_ok,hb,true_and]
    by_cases e4:d=d' <;> simp [e4]
   ·simp [e3]
  ·simp [e2]
 ·simp [e1]
theorem run_eqPl {w:World} {x:Act} {o:Oper} (u v:Operand) (ho:o.op = .binOp .eql 40 u v 40) (a b c a' b' c':Int) (d d':Bool) (hx:x.eval u = .agg (plC a b c d).toArray) (hy:x.eval v = .agg (plC a' b' c' d').toArray) (r:Bool) (hr:decide (a=a'∧b=b'∧c=c'∧d=d')=r):(execOp x.eval o).run Tryd.prog w = .ok (.value (.bool r)) w:=by
 have hm:Tryd.prog.eqGuardType Tryd.prog.depth 40=false:=by kernel_rfl
 have he:=eqlPl a b c a' b' c' d d' w
 rw [hr] at he
 simp [execOp,ho,hx,hy,run_eqGuard_agg w .eql 40 u v _ _ hm,run_eql_struct w 40,he]
def zr (k:Nat):List Nat:=List.replicate k 0
theorem zr_length (k:Nat):(zr k).length=k:=List.length_replicate
theorem zr_lt (k:Nat):∀c∈zr k,c<256:=fun c hc=>by rw [(List.mem_replicate.1 hc).2];decide
theorem zr_slice {w:World} {g k:Nat} (h:Row w g 5 (yA0 (zr k))) (hk:k≤1000000):yA2 w (whole g k) (zr k):=by
 have:=whole_slice h (zr_lt k) (by rw [zr_length];omega)
 rwa [zr_length] at this
theorem run_eqS {w:World} {a:Act} {o:Oper} (x y:Operand) (ho:o.op = .binOp .eql 9 x y 9) (s:ByteArray) (hx:a.eval x = .string s) (hy:a.eval y = .string s):(execOp a.eval o).run Tryd.prog w = .ok (.value (.bool true)) w:=by
 refine run_binOp' x y ho _ _ _ hx hy ?_ ?_
 ·rfl
 ·simp [go_sem]
theorem bcells_set (u:List Nat) (j v:Nat):(yA0 u).set j (.int .u8 (v:Nat))=yA0 (u.set j v):=by simp [yA0,List.map_set]
structure Fr0 (w W:World) (c:Nat→Colour) (t gv:Nat):Prop where
 bel:Below w.heap.size w W
 gv0:w.heap.size≤gv
 col:∀b,b<w.heap.size→(c b).1≠t
theorem Fr0.sq {w W W':World} {c c':Nat→Colour} {t gv:Nat} (h:Fr0 w W c t gv) (s:Sq t gv W W' c c'):Fr0 w W' c' t gv :=
 ⟨h.bel.trans (s.ch.below h.bel.size fun i hi e=>e.elim (fun e=>by have:=h.gv0;omega) (h.col i hi)),h.gv0,fun b hb=>by rw [s.cc b (Nat.lt_of_lt_of_le hb h.bel.size)];exact h.col b hb⟩
def Mine (B t gv:Nat) (c:Nat→Colour) (W:World) (l:List (Nat×TypeId×List Value)):Prop := ∀x∈l,Row W x.1 x.2.1 x.2.2∧Out t gv c W x.1∧B≤x.1
theorem Mine.sq {B t gv:Nat} {c c':Nat→Colour} {W W':World} {l:List (Nat×TypeId×List Value)} (h:Mine B t gv c W l) (s:Sq t gv W W' c c'):Mine B t gv c' W' l:=fun x hx=>⟨s.row (h x hx).2.1 (h x hx).1,(s.out (h x hx).2.1).1,(h x hx).2.2⟩
theorem Mine.at {B t gv:Nat} {c:Nat→Colour} {W:World} {l:List (Nat×TypeId×List Value)} (h:Mine B t gv c W l) (i:Nat) {q:Nat} {T:TypeId} {cs:List Value} (e:l[i]? = some (q,T,cs)):Row W q T cs∧Out t gv c W q∧B≤q:=h (q,T,cs) (List.mem_of_getElem? e)
theorem Mine.nil (B t gv:Nat) (c:Nat→Colour) (W:World):Mine B t gv c W []:=fun x hx=>by cases hx
theorem Mine.add {B t gv:Nat} {c:Nat→Colour} {W:World} {l:List (Nat×TypeId×List Value)} (h:Mine B t gv c W l) {q:Nat} {T:TypeId} {cs:List Value} (hr:Row W q T cs) (ho:Out t gv c W q) (hB:B≤q):Mine B t gv c W (l++[(q,T,cs)]):=fun x hx=>by
 rcases List.mem_append.1 hx with hx|hx
 ·exact h x hx
 ·rw [List.mem_singleton.1 hx]
  exact ⟨hr,ho,hB⟩
def Sl (t gv:Nat) (c:Nat→Colour) (W:World) (v:Value) (cs:List Nat):Prop:=yA2 W v cs∧(cs=[]∨∀b,v.ownBlock=some b→Out t gv c W b)
theorem Sl.sq {t gv:Nat} {c c':Nat→Colour} {W W':World} {v:Value} {cs:List Nat} (h:Sl t gv c W v cs) (s:Sq t gv W W' c c'):Sl t gv c' W' v cs:=by
 rcases h.2 with rfl|h2
 ·exact ⟨slice_nil h.1,Or.inl rfl⟩
 ·exact ⟨sliceK h.1 fun b e _=>(s.out (h2 b e)).2,Or.inr fun b e=>(s.out (h2 b e)).1⟩
theorem VOn.slNew {W W':World} {c:Nat→Colour} {t gp gv d:Nat} {sz:Int} {m:Pl} {os:List Ob} {sd:Bool} (h:VOn W c t gp gv d sz m os sd) {v:Value} {cs:List Nat} (hs:yA2 W' v cs) (hn:∀b,v.ownBlock=some b→W.heap.size≤b):Sl t gv c W' v cs:=by
 refine ⟨hs,?_⟩
 by_cases q:cs=[]
 ·exact Or.inl q
 ·exact Or.inr fun b e=>h.outNew (hn b e) (slice_blk hs q b e)
structure Wk (w W:World) (c:Nat→Colour) (t gp gv d:Nat) (sz:Int) (m:Pl) (os:List Ob) (sd:Bool) (l:List (Nat×TypeId×List Value)) (K:Nat):Prop where
 v:VOn W c t gp gv d sz m os sd
 f:Fr0 w W c t gv
 l:Mine w.heap.size t gv c W l
 k:m.steps≤K
section
variable {w W W':World} {c c':Nat→Colour} {t gp gv d:Nat} {sz:Int} {m m':Pl} {os os':List Ob} {sd sd':Bool} {l:List (Nat×TypeId×List Value)} {K:Nat}
theorem Wk.bel (h:Wk w W c t gp gv d sz m os sd l K) (hb:Below W.heap.size W W'):Wk w W' c t gp gv d sz m os sd l K:=⟨h.v.below hb,h.f.sq (Sq.bel c hb),h.l.sq (Sq.bel c hb),h.k⟩
theorem Wk.sq (h:Wk w W c t gp gv d sz m os sd l K) (s:Sq t gv W W' c c') (v:VOn W' c' t gp gv d sz m' os' sd') {K':Nat} (hk:m'.steps≤K'):Wk w W' c' t gp gv d sz m' os' sd' l K':=⟨v,h.f.sq s,h.l.sq s,hk⟩
theorem Wk.sq1 (h:Wk w W c t gp gv d sz m os sd l K) (s:Sq t gv W W' c c') (v:VOn W' c' t gp gv d sz m' os' sd') (hm:m'=m∨Oth2 m m' d):Wk w W' c' t gp gv d sz m' os' sd' l (K+16):=h.sq s v (by have:=h.k;rcases hm with rfl|hm;omega;have:=hm.few;omega)
theorem Wk.add (h:Wk w W c t gp gv d sz m os sd l K) (hb:Below W.heap.size W W') {q:Nat} {T:TypeId} {cs:List Value} (hq:W.heap.size≤q) (hr:Row W' q T cs):Wk w W' c t gp gv d sz m os sd (l++[(q,T,cs)]) K :=
 ⟨h.v.below hb,h.f.sq (Sq.bel c hb),(h.l.sq (Sq.bel c hb)).add hr (h.v.outNew hq hr.lt) (Nat.le_trans h.f.bel.size hq),h.k⟩
theorem Wk.at (h:Wk w W c t gp gv d sz m os sd l K) (i:Nat) {q:Nat} {T:TypeId} {cs:List Value} (e:l[i]? = some (q,T,cs)):Row W q T cs:=(h.l.at i e).1
theorem VOn.one {q:Nat} (h:VOn W c t gp gv d sz m os sd) (hc:Ch (· = q) W W') (ho:Out t gv c W q):VOn W' c t gp gv d sz m os sd:=by
 obtain ⟨⟨rt,sl,hv,hs⟩,ht⟩:=h
 exact ⟨⟨rt,sl,hv.new hc ho.2.1 ho.2.2.1 ho.2.2.2,hs⟩,ht⟩
theorem Fr0.one {q:Nat} (h:Fr0 w W c t gv) (hc:Ch (· = q) W W') (hq:w.heap.size≤q):Fr0 w W' c t gv:=⟨h.bel.trans (hc.below h.bel.size fun i hi e=>by omega),h.gv0,h.col⟩
theorem Wk.put (h:Wk w W c t gp gv d sz m os sd l K) (i:Nat) {q:Nat} {T:TypeId} {cs cs':List Value} (e:l[i]? = some (q,T,cs)) (hne:∀j x,l[j]? = some x→j≠i→x.1≠q) (hc:Ch (· = q) W W') (hr:Row W' q T cs'):Wk w W' c t gp gv d sz m os sd (l.set i (q,T,cs')) K:=by
 obtain ⟨h1,h2,h3⟩:=h.l.at i e
 refine ⟨h.v.one hc h2,h.f.one hc h3,fun x hx => ?_,h.k⟩
 obtain ⟨j,hj⟩:=List.mem_iff_getElem?.1 hx
 rw [List.getElem?_set] at hj
 by_cases q1:i=j
 ·subst q1
  have hl:=(List.getElem?_eq_some_iff.1 e).1
  rw [if_pos rfl,if_pos hl] at hj
  have:=Option.some.inj hj
  subst this
  exact ⟨hr,⟨Nat.lt_of_lt_of_le h2.1 hc.size,h2.2⟩,h3⟩
 ·rw [if_neg q1] at hj
  obtain ⟨k1,k2,k3⟩:=h.l x (List.mem_of_getElem? hj)
  have hn:=hne j x hj (Ne.symm q1)
  exact ⟨hc.row hn k1,⟨Nat.lt_of_lt_of_le k2.1 hc.size,k2.2⟩,k3⟩
end
theorem run_wholeIx {w:World} {a:Act} {o:Oper} (x y:Operand) (ho:o.op = .indexAddr 38 x y) (g n k:Nat) (hk:k<n) (hx:a.eval x=whole g n) (hy:a.eval y = .int .i64 (k:Nat)):(execOp a.eval o).run Tryd.prog w = .ok (.value (.pointer (some ⟨g,k,none⟩))) w:=by
 obtain ⟨i,hi,hz0,hz1,hz2⟩:=info_parts info5z
 have h1:(Instr.indexAt 38 (whole g n) (.int .i64 (k:Nat))).run Tryd.prog w = .ok (.pointer (some ⟨g,k,none⟩)) w:=by simp [whole,Instr.indexAt,asIntOf,run_underlying Tryd.underlying38,hk,sizeOf,typeInfo,hi,hz1,yB7]
 simp [execOp,ho,hx,hy,h1]
theorem run_build40c {w:World} {a:Act} {o:Oper} (x y:Operand) (ho:o.op = .build 40 #[(1,x),(2,y)]) (t l:Int) (hx:a.eval x = .int .i64 t) (hy:a.eval y = .int .i64 l):(execOp a.eval o).run Tryd.prog w = .ok (.value (.agg (plC 0 t l false).toArray)) w:=by
 have hr:(Instr.build 40 #[(1,.int .i64 t),(2,.int .i64 l)]).run Tryd.prog w = .ok (.agg (plC 0 t l false).toArray) w:=by kernel_rfl
 simp only [execOp,ho,List.map_toArray,List.map_cons,List.map_nil,hx,hy,hr,Sem.run_bind,Sem.run_pure,Result.andThen_ok]
theorem run_build40e {w:World} {a:Act} {o:Oper} (x:Operand) (ho:o.op = .build 40 #[(2,x)]) (l:Int) (hx:a.eval x = .int .i64 l):(execOp a.eval o).run Tryd.prog w = .ok (.value (.agg (plC 0 0 l false).toArray)) w:=by
 have hr:(Instr.build 40 #[(2,.int .i64 l)]).run Tryd.prog w = .ok (.agg (plC 0 0 l false).toArray) w:=by kernel_rfl
 simp only [execOp,ho,List.map_toArray,List.map_cons,List.map_nil,hx,hr,Sem.run_bind,Sem.run_pure,Result.andThen_ok]
theorem new_onT (ds ts:List Int) (hok:shapeOk ds ts=true) (hd0:ds=[]) (i:Nat) (hi:i<ts.length):OnT (newPl ds ts) (ds.length+i) [] false:=by
 have h2:=newPl_tape ds ts i hi
 have e:(newPl ds ts).fl (ds.length+i)=[]:=by
  have ht:=h2.1
  unfold Pl.tape at ht
  show fresh ((newPl ds ts).sh.getD (ds.length+i) (false,0)).1 _=[]
  rw [ht]
  rfl
 refine ⟨⟨newPl_wf ds ts hok hd0,rfl,by rw [newPl_n];omega,h2.1⟩,(show (-1:Int)<0 by decide),(fun o ho=>by cases ho),?_⟩
 unfold ctn
 rw [e]
 rfl
theorem run_ints1 {w:World} {a:Act} {o:Oper} (x:Operand) (ho:o.op = .buildSlice 28 1 #[(0,x)]) (n:Int) (hx:a.eval x = .int .i64 n):(execOp a.eval o).run Tryd.prog w = .ok (.value (whole w.heap.size 1)) (w.alloc (.cells ([n].map (Value.int .i64)).toArray 3)):=by
 have hr:(Instr.buildSlice 28 1 #[(0,.int .i64 n)]).run Tryd.prog w = .ok (whole w.heap.size 1) (w.alloc (.cells ([n].map (Value.int .i64)).toArray 3)):=by kernel_rfl
 simp only [execOp,ho,List.map_toArray,List.map_cons,List.map_nil,hx,hr,Sem.run_bind,Sem.run_pure,Result.andThen_ok]
theorem ints_row {w:World} {g:Nat} {l:List Int} (h:Row w g 3 (l.map (Value.int .i64))) (hl:l.length≤100):IntsIn w (whole g l.length) l :=
 ⟨some ⟨g,0,none⟩,l.length,rfl,Nat.le_refl _,by omega,Or.inr ⟨g,0,rfl,fun j hj=>by rw [Nat.zero_add];exact h.at j _ (by simp [hj])⟩⟩
theorem ints_nil (w:World):IntsIn w (.slice none 0 0) []:=⟨none,0,rfl,Nat.le_refl _,by decide,Or.inl rfl⟩
theorem run_build30t {w:World} {a:Act} {o:Oper} (x:Operand) (ho:o.op = .build 30 #[(1,x)]) (g n:Nat) (hx:a.eval x=whole g n):(execOp a.eval o).run Tryd.prog w = .ok (.value (.agg #[.slice none 0 0,whole g n])) w:=by
 have hr:(Instr.build 30 #[(1,whole g n)]).run Tryd.prog w = .ok (.agg #[.slice none 0 0,whole g n]) w:=by kernel_rfl
 simp only [execOp,ho,List.map_toArray,List.map_cons,List.map_nil,hx,hr,Sem.run_bind,Sem.run_pure,Result.andThen_ok]
section
variable {w:World} {c:Nat→Colour} {t gp:Nat} {m:Pl} {ds ts:List Nat}
theorem vopen_s (h:Live w c t gp m) (hs:yK7 m ds ts) (he:Env w) (hf:Far0 w c t) (hn:ds.length+ts.length≤1000) (i:Nat) (hi:i<ts.length) {os:List Ob} {sd:Bool} (ho:OnT m (ds.length+i) os sd):Calls Tryd.prog 10 #[ptr gp,.int .i64 ((ds.length+i:Nat):Int)] w fun e w' => ∃gv,e = .returned (.tuple #[ptr gv,.int .i64 0])∧w.heap.size≤gv∧Below w.heap.size w w'∧VOn w' c t gp gv (ds.length+i) (ts.getD i 0:Nat) m os sd:=by
 refine (vopen_any h hs he hf hn ((ds.length+i:Nat):Int) ⟨by omega,by omega⟩).mono ?_
 rintro e w' ⟨hb,⟨h1,_⟩|⟨j,gv,h1,h2,rfl,h3,h4⟩⟩
 ·exact absurd ⟨by omega,by omega⟩ h1
 ·obtain rfl:i=j:=by omega
  exact ⟨gv,rfl,h3,hb,⟨⟨_,_,h4,fun e=>by cases e⟩,ho⟩⟩
theorem vopen_no (h:Live w c t gp m) (hs:yK7 m ds ts) (he:Env w) (hf:Far0 w c t) (hn:ds.length+ts.length≤1000) (dv:Int) (hd : -9223372036854775808≤dv∧dv≤9223372036854775807) (hno:¬ ((ds.length:Int)≤dv∧dv<ds.length+ts.length)):Calls Tryd.prog 10 #[ptr gp,.int .i64 dv] w fun e w'=>e = .returned (.tuple #[.pointer none,.int .i64 1])∧Below w.heap.size w w':=by
 refine (vopen_any h hs he hf hn dv hd).mono ?_
 rintro e w' ⟨hb,⟨_,rfl⟩|⟨j,gv,h1,h2,_⟩⟩
 ·exact ⟨rfl,hb⟩
 ·exact absurd ⟨by omega,by omega⟩ hno
theorem VOn.live {gv d:Nat} {sz:Int} {os:List Ob} {sd:Bool} (h:VOn w c t gp gv d sz m os sd):Live w c t gp m:=by
 obtain ⟨⟨rt,sl,hv,hs⟩,ht⟩:=h
 exact hv.live
theorem VOn.far0 {gv d:Nat} {sz:Int} {os:List Ob} {sd:Bool} (h:VOn w c t gp gv d sz m os sd):Far0 w c t:=by
 obtain ⟨⟨rt,sl,hv,hs⟩,ht⟩:=h
 exact ⟨by have:=hv.row.lt;have:=hv.far;omega,hv.gl⟩
end
end Go.Proofs.YtpkkkkomdblpoaaDoor

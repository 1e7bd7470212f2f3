/- Layer 15: objects as the document tells them. Layer 15: the document's volume: its room, what may be appended. Layer 15: what the law of forged objects wants. Layer 15: places and threes of numbers that were handed in. -/
import Derived.Test.YtpkkkkomdblpoaaDoorP34
namespace Go.Proofs.YtpkkkkomdblpoaaDoor
open Go.RowKit Go.Maps
open Cold
structure Td where
 id:List Nat
 bs:List Nat
 d:Nat
 a:Nat
 n:Nat
 fl:Bool
instance:Inhabited Td:=⟨⟨[],[],0,0,0,false⟩⟩
def tdC (x:Td) (vb:Value):List Value:=[str x.id,vb,.int .i64 (x.d:Nat),.int .i64 (x.a:Nat),.int .i64 (x.n:Nat),.bool false,.bool x.fl]
theorem el35:ElC 35 48 7 80 (tdC default (.slice none 0 0)):=⟨Tryd.underlying35,by kernel_rfl,by kernel_rfl,rfl,ag48,by decide,by decide⟩
theorem tdC_is (x:Td) {W:World} {vb:Value} {bs:List Nat} (h:yA3 W vb bs):(tdC x vb).length=7∧∀u∈tdC x vb,u.oneCell'=true:=by
 obtain ⟨p,cp,e,_⟩:=h
 subst e
 refine ⟨rfl,fun u hu => ?_⟩
 simp only [tdC,List.mem_cons,List.not_mem_nil,or_false] at hu
 rcases hu with rfl|rfl|rfl|rfl|rfl|rfl|rfl <;> rfl
def Sb (t gv:Nat) (c:Nat→Colour) (W:World) (v:Value) (cs:List Nat):Prop:=yA3 W v cs∧(cs=[]∨∀b,v.ownBlock=some b→b<W.heap.size∧b≠gv∧(c b).1≠t)
theorem Sb.sq {t gv:Nat} {c c':Nat→Colour} {W W':World} {v:Value} {cs:List Nat} (h:Sb t gv c W v cs) (s:Sq t gv W W' c c'):Sb t gv c' W' v cs:=by
 rcases h.2 with rfl|h2
 ·exact ⟨slice_nil h.1,Or.inl rfl⟩
 ·exact ⟨sliceK h.1 fun b e hb=>s.ch.block b hb fun x=>x.elim (h2 b e).2.1 (h2 b e).2.2,Or.inr fun b e=>⟨Nat.lt_of_lt_of_le (h2 b e).1 s.ch.size,(h2 b e).2.1,by rw [s.cc b (h2 b e).1];exact (h2 b e).2.2⟩⟩
def TdIn (B t gv:Nat) (c:Nat→Colour) (W:World) (v:Value) (l:List Td):Prop :=
 (∀b,v.ownBlock=some b→Out t gv c W b)∧∃L,COwn 48 7 W B v L∧L.length=l.length∧∀k,k<l.length→∃vb,L.getD k []=tdC (l.getD k default) vb∧Sb t gv c W vb (l.getD k default).bs∧((l.getD k default).bs=[]∨∀b,vb.ownBlock=some b→v.ownBlock≠some b)
theorem TdIn.nil (B t gv:Nat) (c:Nat→Colour) (W:World):TdIn B t gv c W (.slice none 0 0) []:=⟨(fun b e=>by cases e),[],COwn.nil 48 7 W B,rfl,fun k hk=>absurd hk (Nat.not_lt_zero _)⟩
theorem TdIn.sq {B t gv:Nat} {c c':Nat→Colour} {W W':World} {v:Value} {l:List Td} (h:TdIn B t gv c W v l) (s:Sq t gv W W' c c'):TdIn B t gv c' W' v l:=by
 obtain ⟨h0,L,h1,h2,h3⟩:=h
 refine ⟨fun b e=>(s.out (h0 b e)).1,L,⟨h1.1,ownK h1.2 fun b e=>(s.out (h0 b e)).2⟩,h2,fun k hk => ?_⟩
 obtain ⟨vb,e,k1,k2⟩:=h3 k hk
 exact ⟨vb,e,k1.sq s,k2⟩
theorem VOn.own {W W':World} {c:Nat→Colour} {t gp gv d:Nat} {sz:Int} {m:Pl} {os:List Ob} {sd:Bool} {S:Nat→Prop} (h:VOn W c t gp gv d sz m os sd) (hc:Ch S W W') (hS:∀b,S b→Out t gv c W b):VOn W' c t gp gv d sz m os sd:=by
 refine h.away hc (fun x=>(hS _ x).2.1 rfl) (fun b _ hx x=>(hS b x).2.2.1 hx) ?_
 exact h.env.ch hc (fun x=>by have:=(hS 0 x).2.2.2;omega) (fun x=>by have:=(hS 1 x).2.2.2;omega) (fun x=>by have:=(hS 2 x).2.2.2;omega)
theorem Fr0.own {w W W':World} {c:Nat→Colour} {t gv:Nat} {S:Nat→Prop} (h:Fr0 w W c t gv) (hc:Ch S W W') (hS:∀b,S b→w.heap.size≤b):Fr0 w W' c t gv:=⟨h.bel.trans (hc.below h.bel.size fun i hi e=>by have:=hS i e;omega),h.gv0,h.col⟩
theorem Sb.own {t gv:Nat} {c:Nat→Colour} {W W':World} {v:Value} {cs:List Nat} {S:Nat→Prop} (h:Sb t gv c W v cs) (hc:Ch S W W') (hS:cs=[]∨∀b,v.ownBlock=some b→¬ S b):Sb t gv c W' v cs:=by
 refine ⟨sliceKn h.1 hS hc,h.2.imp (fun e=>e) fun h2 b e => ?_⟩
 have k:=h2 b e
 exact ⟨Nat.lt_of_lt_of_le k.1 hc.size,k.2⟩
theorem TdIn.snoc {B t gv:Nat} {c:Nat→Colour} {W:World} {v:Value} {l:List Td} (h:TdIn B t gv c W v l) (x:Td) (vb:Value) (g:Nat) (hs:Sb t gv c W vb x.bs) (hv:x.bs=[]∨∀b,vb.ownBlock=some b→v.ownBlock≠some b) (hg:∀j u,(tdC x vb)[j]? = some u→W.cell? ⟨g,j,none⟩=some u) (hsz:l.length≤1000000) (hB:B≤W.heap.size) (hnew:∀(W':World),W.heap.size<W'.heap.size→Out t gv c W' W.heap.size) :
  ∃v' W',(∀ty,(Builtin.append_ #[35,35] ty #[v,.slice (some ⟨g,0,none⟩) 1 1]).run Tryd.prog W = .ok v' W')∧TdIn B t gv c W' v' (l++[x])∧Ch (fun b=>v.ownBlock=some b) W W'∧(∀b,v'.ownBlock=some b→v.ownBlock=some b∨W.heap.size≤b):=by
 obtain ⟨h0,L,h1,h2,h3⟩:=h
 obtain ⟨v',W',hr,ho,hgr,hvv⟩:=run_appC el35 B v L (tdC x vb) h1 (tdC_is x hs.1) g hg (by rw [h2];exact hsz) hB
 have hc:Ch (fun b=>v.ownBlock=some b) W W':=(Ch.refl _ W).grown hgr fun k hk=>Or.inl hk
 have key:∀{u:Value} {cs:List Nat},Sb t gv c W u cs→(cs=[]∨∀b,u.ownBlock=some b→v.ownBlock≠some b)→Sb t gv c W' u cs∧(cs=[]∨∀b,u.ownBlock=some b→v'.ownBlock≠some b):=fun {u cs} hu hn=>by
  refine ⟨hu.own hc hn,?_⟩
  by_cases q:cs=[]
  ·exact Or.inl q
  ·refine Or.inr fun b e e2 => ?_
   rcases hvv with e3|e3
   ·exact (hn.resolve_left q) b e (e3▸e2)
   ·rw [e3] at e2
    have:=Option.some.inj e2
    have:=slice_blk hu.1 q b e
    omega
 refine ⟨v',W',hr,⟨fun b e => ?_,L++[tdC x vb],ho,by simp [h2],fun k hk => ?_⟩,hc,fun b e => ?_⟩
 ·rcases hvv with e3|e3
  ·rw [e3] at e
   have k:=h0 b e
   exact ⟨Nat.lt_of_lt_of_le k.1 hc.size,k.2⟩
  ·have e4:W.heap.size=b:=Option.some.inj (e3.symm.trans e)
   rw [←e4]
   exact hnew W' (by rw [e4];exact (ho.2.lt b e).2)
 ·rcases Nat.lt_or_ge k l.length with q|q
  ·obtain ⟨ub,e,k1,k2⟩:=h3 k q
   have k3:=key k1 k2
   refine ⟨ub,?_,?_,?_⟩
   ·rw [yJ6 _ _ _ _ (by rw [h2];exact q),yJ6 _ _ _ _ q];exact e
   ·rw [yJ6 _ _ _ _ q];exact k3.1
   ·rw [yJ6 _ _ _ _ q];exact k3.2
  ·have e0:k=l.length:=by simp at hk;omega
   have k3:=key hs hv
   refine ⟨vb,?_,?_,?_⟩
   ·rw [yL7 _ _ _ k (by rw [h2];exact e0),yL7 l x _ k e0]
   ·rw [yL7 l x _ k e0];exact k3.1
   ·rw [yL7 l x _ k e0];exact k3.2
 ·rcases hvv with e3|e3
  ·rw [e3] at e;exact Or.inl e
  ·rw [e3] at e;exact Or.inr (Nat.le_of_eq (Option.some.inj e))
theorem tdC_pl (x:Td) (vb:Value) (j:Nat) (v:Value) (h:(plC (x.d:Nat) (x.a:Nat) (x.n:Nat) false)[j]? = some v):(tdC x vb)[2+j]? = some v:=by
 have h4:j<4:=(List.getElem?_eq_some_iff.1 h).1
 rcases j with _|_|_|_|j
 ·exact h
 ·exact h
 ·exact h
 ·exact h
 ·omega
theorem run_lenT {w W:World} {a:Act} {o:Oper} {B t gv:Nat} {c:Nat→Colour} {v:Value} {l:List Td} (h:TdIn B t gv c W v l) (x:Operand) (ho:o.op = .call { callee:=.builtin .len,args:=#[x],argTypes:=#[35] }) (hx:a.eval x=v):(execOp a.eval o).run Tryd.prog w = .ok (.value (.int .i64 (l.length:Nat))) w:=by
 obtain ⟨_,L,h1,h2,_⟩:=h
 rw [←h2]
 exact yJ1 el35 h1 x ho hx
set_option maxHeartbeats 4000000 in
set_option maxRecDepth 100000 in
theorem same_any {w:World} {B B2 t gv:Nat} {c:Nat→Colour} {v vT:Value} {L:List (List Value)} {l:List Td} (hv:COwn 40 4 w B2 v L) (hT:TdIn B t gv c w vT l) (hl:L.length=l.length) (hsz:l.length≤1000000) (hx:∀k,k<l.length→L.getD k []=plC ((l.getD k default).d:Nat) ((l.getD k default).a:Nat) ((l.getD k default).n:Nat) false):Calls Tryd.prog 21 #[v,vT] w fun e w'=>e = .returned (.bool true)∧Below w.heap.size w w':=by
 obtain ⟨n,hn⟩:∃n,n=l.length:=⟨_,rfl⟩
 have HM:Hid (COwn 40 4 w B2 v L∧TdIn B t gv c w vT l∧L.length=n∧(∀k,k<n→L.getD k []=plC ((l.getD k default).d:Nat) ((l.getD k default).a:Nat) ((l.getD k default).n:Nat) false)∧n=l.length):=⟨hv,hT,by rw [hl,hn],by rw [hn];exact hx,hn⟩
 rw [←hn] at hsz
 clear hv hT hl hx hn
 obtain ⟨PQ,HPQ⟩:=exPQ fun (e:Ending) (w':World)=>e = .returned (.bool true)∧Below w.heap.size w w'
 rw [←HPQ.out]
 go_enter Tryd.func21,Tryd.ntmps21
 go_upto_region 0 with fail
 refine wp_region_lit ?_
 refine wa (.const (.bool false)) (.bool false) ?_
 simp only [Act.put,aS,aC,aZ]
 refine wpList_nil ?_
 go_upto_region 1 with fail
 refine wp_region_lit ?_
 refine wm 0 v ?_
 refine wl rfl (.int .i64 (n:Nat)) _ ((by rw [←HM.out.2.2.1];exact yJ1 el56 HM.out.1 (.tmp 6) rfl rfl)) ?_
 refine wm 1 vT ?_
 refine wl rfl (.int .i64 (n:Nat)) _ ((by rw [HM.out.2.2.2.2];exact run_lenT HM.out.2.1 (.tmp 8) rfl rfl)) ?_
 refine wl rfl _ _ (yC5 (.tmp 7) (.tmp 9) rfl (n:Nat) (n:Nat) rfl rfl false (by simp)) ?_
 simp only [Act.put,aS,aC,aZ]
 refine wpList_nil ?_
 go_upto_region 3 with fail
 refine wp_region_lit ?_
 refine wa (.const (.int .i64 0)) (.int .i64 0) ?_
 simp only [Act.put,aS,aC,aZ]
 refine wpList_nil ?_
 go_wp2_with fail
 go_loopw [5] (fun vk W => ∃k:Nat,vk = .int .i64 (k:Nat)∧k≤n∧Hid (Below w.heap.size w W)) (fun vk _=>n - (intOf vk).toNat)
 case atStart=>exact ⟨0,rfl,Nat.zero_le _,Below.refl _ _⟩
 case round =>
  obtain ⟨k,rfl,hk,HI⟩:=hrel
  by_cases hlt:k<n
  ·go_upto_region 4 with fail
   refine wp_region_lit ?_
   refine wm 5 (.int .i64 (k:Nat)) ?_
   refine wm 0 v ?_
   refine wl rfl (.int .i64 (n:Nat)) _ ((by rw [←HM.out.2.2.1];exact yJ1 el56 HM.out.1 (.tmp 12) rfl rfl)) ?_
   refine wl rfl _ _ (yB5 (.tmp 11) (.tmp 13) rfl (k:Nat) (n:Nat) rfl rfl true (decide_eq_true (by omega))) ?_
   simp only [Act.put,aS,aC,aZ]
   refine wpList_nil ?_
   obtain ⟨g,_,_,hx_,hc_⟩:=HM.out.1.ix el56 k (by rw [HM.out.2.2.1];exact hlt)
   rw [HM.out.2.2.2.1 k hlt] at hc_
   obtain ⟨_,M,hM1,hM2,hM3⟩:=HM.out.2.1
   obtain ⟨vb,hMk,hsl,_⟩:=hM3 k (by rw [←HM.out.2.2.2.2];exact hlt)
   obtain ⟨g2,_,_,hx2_,hc2_⟩:=hM1.ix el35 k (by rw [hM2,←HM.out.2.2.2.2];exact hlt)
   rw [hMk] at hc2_
   obtain ⟨td,htd⟩:∃x,x=l.getD k default:=⟨_,rfl⟩
   rw [←htd] at hc_ hc2_
   have HX:Hid ((∀w',(Instr.indexAt 56 v (.int .i64 (k:Nat))).run Tryd.prog w' = .ok (.pointer (some ⟨g,k * 4,none⟩)) w')∧(∀W':World,Below w.heap.size w W'→∀j u,(plC (td.d:Nat) (td.a:Nat) (td.n:Nat) false)[j]? = some u→W'.cell? ⟨g,k * 4+j,none⟩=some u)∧(∀w',(Instr.indexAt 35 vT (.int .i64 (k:Nat))).run Tryd.prog w' = .ok (.pointer (some ⟨g2,k * 7,none⟩)) w')∧(∀W':World,Below w.heap.size w W'→∀j u,(tdC td vb)[j]? = some u→W'.cell? ⟨g2,k * 7+j,none⟩=some u)):=⟨hx_,fun W' hb=>hc_ W' (HM.out.1.later hb),hx2_,fun W' hb=>hc2_ W' (hM1.later hb)⟩
   clear hx_ hc_ hM1 hM2 hM3 hMk hsl hx2_ hc2_ htd
   go_upto_region 6 with fail
   refine wp_region_held (S:=fun X=>Below w.heap.size w X) (by kernel_rfl) ?_
   show wpAnyH _ _ _ _ _ 10 (Array.replicate 10 false) _ _
   obtain ⟨X,hX⟩:∃X:World,X = { wr with drawn:=wr.drawn+1 }:=⟨_,rfl⟩
   rw [←hX]
   have HS_:Below w.heap.size w X:=(by rw [hX];exact HI.out.trans ((Below.refl w.heap.size wr).trans ⟨rfl,rfl,rfl,Nat.le_refl _,fun _ _=>rfl⟩))
   have HXX:Hid (Below w.heap.size w X):=HS_
   clear hX
   refine tH 0 17 rfl rfl (gRun rfl _ fun _ h=>yA6 (.tmp 0) rfl v rfl) HS_ ?_
   refine tH 1 18 rfl rfl (gRun rfl _ fun _ h=>yA6 (.tmp 5) rfl (.int .i64 (k:Nat)) rfl) HS_ ?_
   refine tH 2 19 rfl rfl (gRun rfl _ fun _ h=>yE9 (.tmp 17) (.tmp 18) rfl _ _ _ rfl rfl HX.out.1) HS_ ?_
   refine tH 3 20 rfl rfl (gRun rfl _ fun _ h=>yA9 ag40 (.tmp 19) rfl g (k * 4) rfl ((plC (td.d:Nat) (td.a:Nat) (td.n:Nat) false)) rfl (HX.out.2.1 _ h)) HS_ ?_
   refine tH 4 21 rfl rfl (gRun rfl _ fun _ h=>yA6 (.tmp 1) rfl vT rfl) HS_ ?_
   refine tH 5 22 rfl rfl (gRun rfl _ fun _ h=>yA6 (.tmp 5) rfl (.int .i64 (k:Nat)) rfl) HS_ ?_
   simp only [Act.put,aS,aC,aZ]
   refine tH 6 23 rfl rfl (gRun rfl _ fun _ h=>yE9 (.tmp 21) (.tmp 22) rfl _ _ _ rfl rfl HX.out.2.2.1) HS_ ?_
   refine tH 7 24 rfl rfl (gRun rfl _ fun _ h=>yA2 f48_2 (.tmp 23) rfl g2 (k * 7) rfl) HS_ ?_
   refine tH 8 25 rfl rfl (gRun rfl _ fun _ h=>yA9 ag40 (.tmp 24) rfl g2 (k * 7+2) rfl ((plC (td.d:Nat) (td.a:Nat) (td.n:Nat) false)) rfl (fun j u hu=>by rw [Nat.add_assoc];exact HX.out.2.2.2 _ h (2+j) u (tdC_pl td vb j u hu))) HS_ ?_
   refine tH 9 26 rfl rfl (gRun rfl _ fun _ h=>run_nePl (.tmp 20) (.tmp 25) rfl _ _ _ _ _ _ _ _ rfl rfl false (by simp)) HS_ ?_
   simp only [Act.put,aS,aC,aZ]
   refine wpAnyH_done (by kernel_rfl) ?_ _
   go_upto_region 5 with fail
   refine wp_region_lit ?_
   refine wm 5 (.int .i64 (k:Nat)) ?_
   refine wl rfl (.int .i64 ((k+1:Nat):Int)) _ (yD6 (.tmp 15) (.const (.int .i64 1)) rfl (k:Nat) 1 _ rfl rfl (by omega) (by omega) (by omega)) ?_
   refine wa (.tmp 16) (.int .i64 ((k+1:Nat):Int)) ?_
   simp only [Act.put,aS,aC,aZ]
   refine wpList_nil ?_
   go_wp2_with fail
   exact ⟨⟨k+1,rfl,by omega,HXX.out⟩,by simp [intOf];omega⟩
  ·go_upto_region 4 with fail
   refine wp_region_lit ?_
   refine wm 5 (.int .i64 (k:Nat)) ?_
   refine wm 0 v ?_
   refine wl rfl (.int .i64 (n:Nat)) _ ((by rw [←HM.out.2.2.1];exact yJ1 el56 HM.out.1 (.tmp 12) rfl rfl)) ?_
   refine wl rfl _ _ (yB5 (.tmp 11) (.tmp 13) rfl (k:Nat) (n:Nat) rfl rfl false (decide_eq_false (by omega))) ?_
   simp only [Act.put,aS,aC,aZ]
   refine wpList_nil ?_
   go_upto_region 8 with fail
   refine wp_region_lit ?_
   refine wa (.const (.bool true)) (.bool true) ?_
   simp only [Act.put,aS,aC,aZ]
   refine wpList_nil ?_
   go_wp2_with fail
   rw [HPQ.out]
   exact ⟨rfl,HI.out⟩
end Go.Proofs.YtpkkkkomdblpoaaDoor

namespace Go.Proofs.YtpkkkkomdblpoaaDoor
open Go.RowKit Go.Maps
open Cold
def rvC (d most len:Nat) (vL:Value) (sd:Bool):List Value:=[.int .i64 (d:Nat),.int .i64 (most:Nat),.int .i64 (len:Nat),vL,.bool sd]
def roomT (most len:Nat) (sd:Bool):Nat:=if sd then 0 else most - len - 2
def mayT (most len:Nat) (sd:Bool) (id bs:List Nat):Int:=if nameB id=false then 1 else if 512<bs.length then 5 else if sd then 3 else if roomT most len sd<nbP bs.length then 3 else 0
set_option maxHeartbeats 4000000 in
set_option maxRecDepth 100000 in
theorem rroom_any (gy d most len:Nat) (vL:Value) (sd:Bool) (w:World) (hr:Row w gy 37 (rvC d most len vL sd)) (hl:len≤most) (hm:most≤4096):Calls Tryd.prog 24 #[ptr gy] w fun e w'=>e = .returned (.int .i64 (roomT most len sd:Nat))∧∃n,w'=w.drewN n:=by
 have HR:Hid (Row w gy 37 (rvC d most len vL sd)):=hr
 clear hr
 obtain ⟨PQ,HPQ⟩:=exPQ fun (e:Ending) (w':World)=>e = .returned (.int .i64 (roomT most len sd:Nat))∧∃n,w'=w.drewN n
 rw [←HPQ.out]
 go_enter Tryd.func24,Tryd.ntmps24
 cases sd with
 | true =>
  go_upto_region 0 with fail
  refine wp_region_lit ?_
  refine wa (.const (.int .i64 0)) (.int .i64 0) ?_
  simp only [Act.put,aS,aC,aZ]
  refine wpList_nil ?_
  go_upto_region 1 with fail
  refine wp_region_lit ?_
  refine wm 0 (ptr gy) ?_
  refine wl rfl _ _ (yC1 (.tmp 3) rfl ⟨gy,0,none⟩ rfl) ?_
  refine wl rfl _ _ (yA2 f37_4 (.tmp 4) rfl gy (0) rfl) ?_
  refine wl rfl _ _ (yA4 o4 (.tmp 5) rfl gy (0+4) rfl (.bool true) (HR.out.at (0+4) _ rfl)) ?_
  simp only [Act.put,aS,aC,aZ]
  refine wpList_nil ?_
  go_upto_region 2 with fail
  refine wp_region_lit ?_
  refine wa (.const (.int .i64 0)) (.int .i64 0) ?_
  simp only [Act.put,aS,aC,aZ]
  refine wpList_nil ?_
  go_wp2_with fail
  rw [HPQ.out]
  exact ⟨rfl,0,rfl⟩
 | false =>
  go_upto_region 0 with fail
  refine wp_region_lit ?_
  refine wa (.const (.int .i64 0)) (.int .i64 0) ?_
  simp only [Act.put,aS,aC,aZ]
  refine wpList_nil ?_
  go_upto_region 1 with fail
  refine wp_region_lit ?_
  refine wm 0 (ptr gy) ?_
  refine wl rfl _ _ (yC1 (.tmp 3) rfl ⟨gy,0,none⟩ rfl) ?_
  refine wl rfl _ _ (yA2 f37_4 (.tmp 4) rfl gy (0) rfl) ?_
  refine wl rfl _ _ (yA4 o4 (.tmp 5) rfl gy (0+4) rfl (.bool false) (HR.out.at (0+4) _ rfl)) ?_
  simp only [Act.put,aS,aC,aZ]
  refine wpList_nil ?_
  go_upto_region 3 with fail
  refine wp_region_held (S:=fun X=>Row X gy 37 (rvC d most len vL false)) (by kernel_rfl) ?_
  show wpAnyH _ _ _ _ _ 12 (Array.replicate 12 false) _ _
  obtain ⟨X,hX⟩:∃X:World,X = { w with drawn:=w.drawn+1 }:=⟨_,rfl⟩
  rw [←hX]
  have HX:Hid (X=w.drewN 1):=hX
  have HS_:Row X gy 37 (rvC d most len vL false):=by rw [hX];exact HR.out
  clear hX
  refine tH 0 7 rfl rfl (gRun rfl _ fun _ h=>yA6 (.tmp 0) rfl (ptr gy) rfl) HS_ ?_
  refine tH 1 8 rfl rfl (gRun rfl _ fun _ h=>yC1 (.tmp 7) rfl ⟨gy,0,none⟩ rfl) HS_ ?_
  refine tH 2 9 rfl rfl (gRun rfl _ fun _ h=>yA2 f37_1 (.tmp 8) rfl gy (0) rfl) HS_ ?_
  refine tH 3 10 rfl rfl (gRun rfl _ fun _ h=>yA4 o3 (.tmp 9) rfl gy (0+1) rfl (.int .i64 (most:Nat)) (h.at (0+1) _ rfl)) HS_ ?_
  refine tH 4 11 rfl rfl (gRun rfl _ fun _ h=>yA6 (.tmp 0) rfl (ptr gy) rfl) HS_ ?_
  refine tH 5 12 rfl rfl (gRun rfl _ fun _ h=>yC1 (.tmp 11) rfl ⟨gy,0,none⟩ rfl) HS_ ?_
  simp only [Act.put,aS,aC,aZ]
  refine tH 6 13 rfl rfl (gRun rfl _ fun _ h=>yA2 f37_2 (.tmp 12) rfl gy (0) rfl) HS_ ?_
  refine tH 7 14 rfl rfl (gRun rfl _ fun _ h=>yA4 o3 (.tmp 13) rfl gy (0+2) rfl (.int .i64 (len:Nat)) (h.at (0+2) _ rfl)) HS_ ?_
  refine tH 8 15 rfl rfl (gRun rfl (.int .i64 ((most:Int) - (len:Int))) fun _ h=>yJ8 (.tmp 10) (.tmp 14) rfl (most:Nat) (len:Nat) _ rfl rfl rfl (by omega) (by omega)) HS_ ?_
  refine tH 9 16 rfl rfl (gRun rfl (.int .i64 ((most:Int) - (len:Int) - 2)) fun _ h=>yJ8 (.tmp 15) (.const (.int .i64 2)) rfl ((most:Int) - (len:Int)) 2 _ rfl rfl rfl (by omega) (by omega)) HS_ ?_
  refine tH 10 17 rfl rfl (gRun rfl _ fun _ h=>run_maxZ (.tmp 16) ((most:Int) - (len:Int) - 2) (roomT most len false) (by show ((most - len - 2:Nat):Int)=_;omega) rfl rfl) HS_ ?_
  refine tH 11 2 rfl rfl (gRun rfl _ fun _ h=>yG0 (.tmp 17) rfl (.int .i64 (roomT most len false:Nat)) rfl) HS_ ?_
  simp only [Act.put,aS,aC,aZ]
  refine wpAnyH_done (by kernel_rfl) ?_ _
  go_wp2_with fail
  rw [HPQ.out]
  exact ⟨rfl,1,HX.out⟩
set_option maxHeartbeats 4000000 in
set_option maxRecDepth 100000 in
theorem rmay_any (gy d most len:Nat) (vL:Value) (sd:Bool) (id bs:List Nat) (vb:Value) (w:World) (hr:Row w gy 37 (rvC d most len vL sd)) (hl:len≤most) (hm:most≤4096) (hid:∀c∈id,c<256) (hb:yA3 w vb bs):Calls Tryd.prog 41 #[ptr gy,str id,vb] w fun e w'=>e = .returned (.int .i64 (mayT most len sd id bs))∧∃n,w'=w.drewN n:=by
 have hmax:bs.length≤9223372036854775000∨9223372036854775000<bs.length:=by omega
 have HR:Hid (Row w gy 37 (rvC d most len vL sd)∧len≤most∧most≤4096∧(∀c∈id,c<256)∧yA3 w vb bs):=⟨hr,hl,hm,hid,hb⟩
 clear hr hl hm hid hb hmax
 obtain ⟨S,hS⟩:∃S,S=mayT most len sd id bs:=⟨_,rfl⟩
 rw [←hS]
 obtain ⟨PQ,HPQ⟩:=exPQ fun (e:Ending) (w':World)=>e = .returned (.int .i64 S)∧∃n,w'=w.drewN n
 rw [←HPQ.out]
 obtain ⟨nm,hnm⟩:∃b,b=nameB id:=⟨_,rfl⟩
 have HN:Hid (∀U,Calls Tryd.prog 62 #[str id] U fun e w'=>e = .returned (.bool nm)∧w'=U):=fun U=>hnm▸rname_any id HR.out.2.2.2.1 U
 unfold mayT at hS
 rw [←hnm] at hS
 clear hnm
 go_enter Tryd.func41,Tryd.ntmps41
 cases nm with
 | false =>
  have HS:Hid (S=1):=by rw [hS,if_pos rfl];exact rfl
  clear hS
  go_upto_region 0 with fail
  refine wp_region_lit ?_
  refine wa (.const (.int .i64 0)) (.int .i64 0) ?_
  simp only [Act.put,aS,aC,aZ]
  refine wpList_nil ?_
  go_upto_region 1 with fail
  refine wp_region_lit ?_
  refine wm 1 (str id) ?_
  simp only [Act.put,aS,aC,aZ]
  refine yA5 eN62 [.tmp 8] _ rfl rfl [(str id)] rfl ?_
  refine (HN.out w).mono ?_
  rintro e w ⟨rfl,rfl⟩
  refine ⟨_,rfl,?_⟩
  simp only [Act.put,aS,aC,aZ]
  refine wl rfl _ _ (yG1 (.tmp 9) 4 rfl false rfl) ?_
  refine wa (.tmp 10) (.bool true) ?_
  simp only [Act.put,aS,aC,aZ]
  refine wpList_nil ?_
  go_upto_region 2 with fail
  refine wp_region_lit ?_
  refine wa (.const (.int .i64 1)) (.int .i64 1) ?_
  simp only [Act.put,aS,aC,aZ]
  refine wpList_nil ?_
  go_wp2_with fail
  rw [HPQ.out,HS.out]
  exact ⟨rfl,0,rfl⟩
 | true =>
  rw [if_neg (by decide)] at hS
  by_cases h5:512<bs.length
  ·have HS:Hid (S=5):=by rw [hS,if_pos h5];exact rfl
   clear hS
   go_upto_region 0 with fail
   refine wp_region_lit ?_
   refine wa (.const (.int .i64 0)) (.int .i64 0) ?_
   simp only [Act.put,aS,aC,aZ]
   refine wpList_nil ?_
   go_upto_region 1 with fail
   refine wp_region_lit ?_
   refine wm 1 (str id) ?_
   simp only [Act.put,aS,aC,aZ]
   refine yA5 eN62 [.tmp 8] _ rfl rfl [(str id)] rfl ?_
   refine (HN.out w).mono ?_
   rintro e w ⟨rfl,rfl⟩
   refine ⟨_,rfl,?_⟩
   simp only [Act.put,aS,aC,aZ]
   refine wl rfl _ _ (yG1 (.tmp 9) 4 rfl true rfl) ?_
   refine wa (.tmp 10) (.bool false) ?_
   simp only [Act.put,aS,aC,aZ]
   refine wpList_nil ?_
   go_upto_region 3 with fail
   refine wp_region_lit ?_
   refine wm 2 vb ?_
   refine wl rfl _ _ (yF3 HR.out.2.2.2.2 (.tmp 12) rfl rfl) ?_
   refine wl rfl _ _ (yF9 (.tmp 13) (.const (.int .i64 512)) rfl (bs.length:Nat) 512 rfl rfl true (decide_eq_true (by omega))) ?_
   refine wa (.tmp 14) (.bool true) ?_
   simp only [Act.put,aS,aC,aZ]
   refine wpList_nil ?_
   go_upto_region 4 with fail
   refine wp_region_lit ?_
   refine wa (.const (.int .i64 5)) (.int .i64 5) ?_
   simp only [Act.put,aS,aC,aZ]
   refine wpList_nil ?_
   go_wp2_with fail
   rw [HPQ.out,HS.out]
   exact ⟨rfl,0,rfl⟩
  rw [if_neg h5] at hS
  cases sd with
  | true =>
   have HS:Hid (S=3):=by rw [hS,if_pos rfl];exact rfl
   clear hS
   go_upto_region 0 with fail
   refine wp_region_lit ?_
   refine wa (.const (.int .i64 0)) (.int .i64 0) ?_
   simp only [Act.put,aS,aC,aZ]
   refine wpList_nil ?_
   go_upto_region 1 with fail
   refine wp_region_lit ?_
   refine wm 1 (str id) ?_
   simp only [Act.put,aS,aC,aZ]
   refine yA5 eN62 [.tmp 8] _ rfl rfl [(str id)] rfl ?_
   refine (HN.out w).mono ?_
   rintro e w ⟨rfl,rfl⟩
   refine ⟨_,rfl,?_⟩
   simp only [Act.put,aS,aC,aZ]
   refine wl rfl _ _ (yG1 (.tmp 9) 4 rfl true rfl) ?_
   refine wa (.tmp 10) (.bool false) ?_
   simp only [Act.put,aS,aC,aZ]
   refine wpList_nil ?_
   go_upto_region 3 with fail
   refine wp_region_lit ?_
   refine wm 2 vb ?_
   refine wl rfl _ _ (yF3 HR.out.2.2.2.2 (.tmp 12) rfl rfl) ?_
   refine wl rfl _ _ (yF9 (.tmp 13) (.const (.int .i64 512)) rfl (bs.length:Nat) 512 rfl rfl false (decide_eq_false (by omega))) ?_
   refine wa (.tmp 14) (.bool false) ?_
   simp only [Act.put,aS,aC,aZ]
   refine wpList_nil ?_
   go_upto_region 5 with fail
   refine wp_region_lit ?_
   refine wm 0 (ptr gy) ?_
   refine wl rfl _ _ (yC1 (.tmp 16) rfl ⟨gy,0,none⟩ rfl) ?_
   refine wl rfl _ _ (yA2 f37_4 (.tmp 17) rfl gy (0) rfl) ?_
   refine wl rfl _ _ (yA4 o4 (.tmp 18) rfl gy (0+4) rfl (.bool true) (HR.out.1.at (0+4) _ rfl)) ?_
   refine wm 19 (.bool true) ?_
   simp only [Act.put,aS,aC,aZ]
   with_reducible refine wpList_skip (by kernel_rfl) ?_
   simp only [Act.put,aS,aC,aZ]
   with_reducible refine wpList_skip (by kernel_rfl) ?_
   simp only [Act.put,aS,aC,aZ]
   with_reducible refine wpList_skip (by kernel_rfl) ?_
   simp only [Act.put,aS,aC,aZ]
   with_reducible refine wpList_skip (by kernel_rfl) ?_
   simp only [Act.put,aS,aC,aZ]
   with_reducible refine wpList_skip (by kernel_rfl) ?_
   simp only [Act.put,aS,aC,aZ]
   with_reducible refine wpList_skip (by kernel_rfl) ?_
   simp only [Act.put,aS,aC,aZ]
   refine wl rfl _ _ (yA8 (.tmp 20) (.const (.bool true)) (.tmp 26) rfl true (.bool true) rfl rfl) ?_
   refine wa (.tmp 27) (.bool true) ?_
   simp only [Act.put,aS,aC,aZ]
   refine wpList_nil ?_
   go_upto_region 6 with fail
   refine wp_region_lit ?_
   refine wa (.const (.int .i64 3)) (.int .i64 3) ?_
   simp only [Act.put,aS,aC,aZ]
   refine wpList_nil ?_
   go_wp2_with fail
   rw [HPQ.out,HS.out]
   exact ⟨rfl,0,rfl⟩
  | false =>
   rw [if_neg (by decide)] at hS
   obtain ⟨rm,hrm⟩:∃r,r=roomT most len false:=⟨_,rfl⟩
   obtain ⟨nbb,hnbb⟩:∃r,r=nbP bs.length:=⟨_,rfl⟩
   rw [←hrm,←hnbb] at hS
   have HQ:Hid (∀U,Row U gy 37 (rvC d most len vL false)→Calls Tryd.prog 24 #[ptr gy] U fun e w'=>e = .returned (.int .i64 (rm:Nat))∧∃n,w'=U.drewN n):=fun U h=>hrm▸rroom_any gy d most len vL false U h HR.out.2.1 HR.out.2.2.1
   have HB:Hid (∀U,Calls Tryd.prog 15 #[.int .i64 (bs.length:Nat)] U fun e w'=>e = .returned (.int .i64 (nbb:Nat))∧w'=U):=fun U=>hnbb▸rblocks_any bs.length (by omega) U
   clear hrm hnbb
   by_cases hq:rm<nbb
   ·have HS:Hid (S=3):=by rw [hS,if_pos hq];exact rfl
    clear hS
    go_upto_region 0 with fail
    refine wp_region_lit ?_
    refine wa (.const (.int .i64 0)) (.int .i64 0) ?_
    simp only [Act.put,aS,aC,aZ]
    refine wpList_nil ?_
    go_upto_region 1 with fail
    refine wp_region_lit ?_
    refine wm 1 (str id) ?_
    simp only [Act.put,aS,aC,aZ]
    refine yA5 eN62 [.tmp 8] _ rfl rfl [(str id)] rfl ?_
    refine (HN.out w).mono ?_
    rintro e w ⟨rfl,rfl⟩
    refine ⟨_,rfl,?_⟩
    simp only [Act.put,aS,aC,aZ]
    refine wl rfl _ _ (yG1 (.tmp 9) 4 rfl true rfl) ?_
    refine wa (.tmp 10) (.bool false) ?_
    simp only [Act.put,aS,aC,aZ]
    refine wpList_nil ?_
    go_upto_region 3 with fail
    refine wp_region_lit ?_
    refine wm 2 vb ?_
    refine wl rfl _ _ (yF3 HR.out.2.2.2.2 (.tmp 12) rfl rfl) ?_
    refine wl rfl _ _ (yF9 (.tmp 13) (.const (.int .i64 512)) rfl (bs.length:Nat) 512 rfl rfl false (decide_eq_false (by omega))) ?_
    refine wa (.tmp 14) (.bool false) ?_
    simp only [Act.put,aS,aC,aZ]
    refine wpList_nil ?_
    go_upto_region 5 with fail
    refine wp_region_lit ?_
    refine wm 0 (ptr gy) ?_
    refine wl rfl _ _ (yC1 (.tmp 16) rfl ⟨gy,0,none⟩ rfl) ?_
    refine wl rfl _ _ (yA2 f37_4 (.tmp 17) rfl gy (0) rfl) ?_
    refine wl rfl _ _ (yA4 o4 (.tmp 18) rfl gy (0+4) rfl (.bool false) (HR.out.1.at (0+4) _ rfl)) ?_
    refine wm 19 (.bool false) ?_
    refine wl (by kernel_rfl) _ _ (yA6 (.tmp 0) rfl (ptr gy) rfl) ?_
    simp only [Act.put,aS,aC,aZ]
    refine yA5 eN24 [.tmp 21] _ (by kernel_rfl) rfl [(ptr gy)] rfl ?_
    refine (HQ.out w HR.out.1).mono ?_
    rintro e X ⟨rfl,n,hX⟩
    refine ⟨_,rfl,?_⟩
    have HX:Hid (X=w.drewN n):=hX
    clear hX
    simp only [Act.put,aS,aC,aZ]
    refine wl (by kernel_rfl) _ _ (yA6 (.tmp 2) rfl vb rfl) ?_
    refine wl (by kernel_rfl) _ _ (yF3 HR.out.2.2.2.2 (.tmp 23) rfl rfl) ?_
    simp only [Act.put,aS,aC,aZ]
    refine yA5 eN15 [.tmp 24] _ (by kernel_rfl) rfl [(.int .i64 (bs.length:Nat))] rfl ?_
    refine (HB.out X).mono ?_
    rintro e X ⟨rfl,rfl⟩
    refine ⟨_,rfl,?_⟩
    simp only [Act.put,aS,aC,aZ]
    refine wl (by kernel_rfl) _ _ (yB5 (.tmp 22) (.tmp 25) rfl (rm:Nat) (nbb:Nat) rfl rfl true (decide_eq_true (by omega))) ?_
    refine wl rfl _ _ (yA8 (.tmp 20) (.const (.bool true)) (.tmp 26) rfl false (.bool true) rfl rfl) ?_
    refine wa (.tmp 27) (.bool true) ?_
    simp only [Act.put,aS,aC,aZ]
    refine wpList_nil ?_
    go_upto_region 6 with fail
    refine wp_region_lit ?_
    refine wa (.const (.int .i64 3)) (.int .i64 3) ?_
    simp only [Act.put,aS,aC,aZ]
    refine wpList_nil ?_
    go_wp2_with fail
    rw [HPQ.out,HS.out]
    exact ⟨rfl,n,HX.out⟩
   ·have HS:Hid (S=0):=by rw [hS,if_neg hq];exact rfl
    clear hS
    go_upto_region 0 with fail
    refine wp_region_lit ?_
    refine wa (.const (.int .i64 0)) (.int .i64 0) ?_
    simp only [Act.put,aS,aC,aZ]
    refine wpList_nil ?_
    go_upto_region 1 with fail
    refine wp_region_lit ?_
    refine wm 1 (str id) ?_
    simp only [Act.put,aS,aC,aZ]
    refine yA5 eN62 [.tmp 8] _ rfl rfl [(str id)] rfl ?_
    refine (HN.out w).mono ?_
    rintro e w ⟨rfl,rfl⟩
    refine ⟨_,rfl,?_⟩
    simp only [Act.put,aS,aC,aZ]
    refine wl rfl _ _ (yG1 (.tmp 9) 4 rfl true rfl) ?_
    refine wa (.tmp 10) (.bool false) ?_
    simp only [Act.put,aS,aC,aZ]
    refine wpList_nil ?_
    go_upto_region 3 with fail
    refine wp_region_lit ?_
    refine wm 2 vb ?_
    refine wl rfl _ _ (yF3 HR.out.2.2.2.2 (.tmp 12) rfl rfl) ?_
    refine wl rfl _ _ (yF9 (.tmp 13) (.const (.int .i64 512)) rfl (bs.length:Nat) 512 rfl rfl false (decide_eq_false (by omega))) ?_
    refine wa (.tmp 14) (.bool false) ?_
    simp only [Act.put,aS,aC,aZ]
    refine wpList_nil ?_
    go_upto_region 5 with fail
    refine wp_region_lit ?_
    refine wm 0 (ptr gy) ?_
    refine wl rfl _ _ (yC1 (.tmp 16) rfl ⟨gy,0,none⟩ rfl) ?_
    refine wl rfl _ _ (yA2 f37_4 (.tmp 17) rfl gy (0) rfl) ?_
    refine wl rfl _ _ (yA4 o4 (.tmp 18) rfl gy (0+4) rfl (.bool false) (HR.out.1.at (0+4) _ rfl)) ?_
    refine wm 19 (.bool false) ?_
    refine wl (by kernel_rfl) _ _ (yA6 (.tmp 0) rfl (ptr gy) rfl) ?_
    simp only [Act.put,aS,aC,aZ]
    refine yA5 eN24 [.tmp 21] _ (by kernel_rfl) rfl [(ptr gy)] rfl ?_
    refine (HQ.out w HR.out.1).mono ?_
    rintro e X ⟨rfl,n,hX⟩
    refine ⟨_,rfl,?_⟩
    have HX:Hid (X=w.drewN n):=hX
    clear hX
    simp only [Act.put,aS,aC,aZ]
    refine wl (by kernel_rfl) _ _ (yA6 (.tmp 2) rfl vb rfl) ?_
    refine wl (by kernel_rfl) _ _ (yF3 HR.out.2.2.2.2 (.tmp 23) rfl rfl) ?_
    simp only [Act.put,aS,aC,aZ]
    refine yA5 eN15 [.tmp 24] _ (by kernel_rfl) rfl [(.int .i64 (bs.length:Nat))] rfl ?_
    refine (HB.out X).mono ?_
    rintro e X ⟨rfl,rfl⟩
    refine ⟨_,rfl,?_⟩
    simp only [Act.put,aS,aC,aZ]
    refine wl (by kernel_rfl) _ _ (yB5 (.tmp 22) (.tmp 25) rfl (rm:Nat) (nbb:Nat) rfl rfl false (decide_eq_false (by omega))) ?_
    refine wl rfl _ _ (yA8 (.tmp 20) (.const (.bool true)) (.tmp 26) rfl false (.bool false) rfl rfl) ?_
    refine wa (.tmp 27) (.bool false) ?_
    simp only [Act.put,aS,aC,aZ]
    refine wpList_nil ?_
    go_upto_region 7 with fail
    refine wp_region_lit ?_
    refine wa (.const (.int .i64 0)) (.int .i64 0) ?_
    simp only [Act.put,aS,aC,aZ]
    refine wpList_nil ?_
    go_wp2_with fail
    rw [HPQ.out,HS.out]
    exact ⟨rfl,n,HX.out⟩
end Go.Proofs.YtpkkkkomdblpoaaDoor

namespace Go.Proofs.YtpkkkkomdblpoaaDoor
open Go.RowKit Go.Maps
open Cold
theorem run_lit38 {w:World} {a:Act} {o:Oper} (ho:o.op = .buildSlice 38 0 #[]):(execOp a.eval o).run Tryd.prog w = .ok (.value (.slice (some ⟨w.heap.size,0,none⟩) 0 0)) (w.alloc (.cells #[] 5)):=by
 have hr:(Instr.buildSlice 38 0 #[]).run Tryd.prog w = .ok (.slice (some ⟨w.heap.size,0,none⟩) 0 0) (w.alloc (.cells #[] 5)):=by kernel_rfl
 simp [execOp,ho,hr]
theorem BOwn.new (w:World) (base:Nat) (hb:base≤w.heap.size):BOwn (w.alloc (.cells #[] 5)) base (.slice (some ⟨w.heap.size,0,none⟩) 0 0) []:=World.ownsRow_made w #[] 0 hb (Nat.zero_le _) rfl
theorem run_build48 {w:World} {a:Act} {o:Oper} (x y z:Operand) (ho:o.op = .build 48 #[(0,x),(1,y),(2,z)]) (t:Td) (hf:t.fl=false) (vb:Value) {W:World} {bs:List Nat} (hv:yA3 W vb bs) (hx:a.eval x=str t.id) (hy:a.eval y=vb) (hz:a.eval z = .agg (plC (t.d:Nat) (t.a:Nat) (t.n:Nat) false).toArray):(execOp a.eval o).run Tryd.prog w = .ok (.value (.agg (tdC t vb).toArray)) w:=by
 obtain ⟨p,cp,rfl,_⟩:=hv
 obtain ⟨id,bs2,d,a2,n,fl⟩:=t
 subst hf
 have hr:(Instr.build 48 #[(0,str id),(1,.slice p bs.length cp),(2,.agg (plC (d:Nat) (a2:Nat) (n:Nat) false).toArray)]).run Tryd.prog w = .ok (.agg (tdC ⟨id,bs2,d,a2,n,false⟩ (.slice p bs.length cp)).toArray) w:=by kernel_rfl
 simp only [execOp,ho,List.map_toArray,List.map_cons,List.map_nil,hx,hy,hz,hr,Sem.run_bind,Sem.run_pure,Result.andThen_ok]
def tdAt (d:Nat) (os:List Ob) (k:Nat):Td:=⟨(os.getD k ([],[])).1,(os.getD k ([],[])).2,d,offO os k,nb (os.getD k ([],[])).2.length,false⟩
def tdsOf (d:Nat) (os:List Ob):List Td:=(List.range os.length).map (tdAt d os)
theorem yE5 (d:Nat) (os:List Ob):(tdsOf d os).length=os.length:=by simp [tdsOf]
theorem tdsOf_at (d:Nat) (os:List Ob) (k:Nat) (h:k<os.length):(tdsOf d os).getD k default=tdAt d os k:=by simp [tdsOf,h]
theorem tdsOf_snoc (d:Nat) (os:List Ob) (o:Ob):tdsOf d (os++[o])=tdsOf d os++[⟨o.1,o.2,d,wide os,nb o.2.length,false⟩]:=by
 unfold tdsOf
 rw [List.length_append,List.length_singleton,List.range_succ,List.map_append]
 congr 1
 ·apply List.map_congr_left
  intro k hk
  have hk:=List.mem_range.1 hk
  unfold tdAt
  rw [yJ6 _ _ _ _ hk,offO_snoc os o k (Nat.le_of_lt hk)]
 ·show [tdAt d (os++[o]) os.length]=_
  unfold tdAt
  rw [yL7 os o _ _ rfl,offO_snoc os o _ (Nat.le_refl _),offO_end]
section
variable {w W W':World} {c c':Nat→Colour} {gp gv:Nat} {sz:Int} {m m':Pl} {os:List Ob} {K:Nat} {vT:Value}
end
end Go.Proofs.YtpkkkkomdblpoaaDoor

namespace Go.Proofs.YtpkkkkomdblpoaaDoor
open Go.RowKit Go.Maps
open Cold
def I64 (z:Int):Prop := -9223372036854775808≤z∧z≤9223372036854775807
structure Pq where
 dv:Int
 at_:Int
 ln:Int
 bd:Bool
instance:Inhabited Pq:=⟨⟨0,0,0,false⟩⟩
def Pq.cells (x:Pq):List Value:=plC x.dv x.at_ x.ln x.bd
def Pq.ok (x:Pq):Prop:=I64 x.dv∧I64 x.at_∧I64 x.ln
structure Tr where
 x:Int
 y:Int
 z:Int
instance:Inhabited Tr:=⟨⟨0,0,0⟩⟩
end Go.Proofs.YtpkkkkomdblpoaaDoor

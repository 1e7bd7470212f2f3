/- Layer 15: pieces, tags, blocks, as plain data. Layer 9: plain: a plant's disk, whatever its fuse. Layer 15: laws of single operations: texts, bytes, arrays of bytes. -/
import Derived.Test.YtpkkkkomdblpoaaDoorS17
import Derived.Test.YtpkkkkomdblpoaaDoorS02
import Derived.Test.YtpkkkkomdblpoaaDoorS09
import Derived.Lib.BytesEntry
import Derived.Lib.ConvBytes
import Derived.Lib.AtoiErrMem
namespace Go.Proofs.YtpkkkkomdblpoaaDoor
namespace Cold
def sign (c:Nat):Bool:=(decide (97≤c) && decide (c≤122)) || (decide (48≤c) && decide (c≤57)) || decide (c=45) || decide (c=46)
def nameB (id:List Nat):Bool:=decide (1≤id.length) && decide (id.length≤16) && id.all sign
theorem nameB_len {id:List Nat} (h:nameB id=true):1≤id.length∧id.length≤16:=by
 unfold nameB at h
 simp only [Bool.and_eq_true,decide_eq_true_eq] at h
 exact h.1
theorem nameB_lt {id:List Nat} (h:nameB id=true):∀c∈id,c<256:=fun c hc=>by
 unfold nameB at h
 simp only [Bool.and_eq_true,decide_eq_true_eq,List.all_eq_true] at h
 have h2:=h.2 c hc
 unfold sign at h2
 simp at h2
 omega
def pc (b:List Nat):List Nat:=b.take 56++List.replicate (56 - b.length) 0
theorem yF5 (b:List Nat):(pc b).length=56:=by simp [pc];omega
theorem pc_lt {b:List Nat} (h:∀c∈b,c<256):∀c∈pc b,c<256:=fun c hc=>by
 rcases List.mem_append.1 hc with hc|hc
 ·exact h c (List.mem_of_mem_take hc)
 ·rw [(List.mem_replicate.1 hc).2];decide
theorem pc_short {b:List Nat} (h:b.length≤56):pc b=b++List.replicate (56 - b.length) 0:=by
 unfold pc;rw [List.take_of_length_le h]
def tg (k d a i:Nat):List Nat:=[k % 256,d % 256,a / 256 % 256,a % 256,i % 256,0,0,0]
theorem tg_length (k d a i:Nat):(tg k d a i).length=8:=rfl
theorem tg_lt (k d a i:Nat):∀c∈tg k d a i,c<256:=by
 intro c hc
 simp [tg] at hc
 omega
theorem tg_inj {k d a i k' d' a' i':Nat} (h:tg k d a i=tg k' d' a' i') (h1:k<256) (h1':k' < 256) (h2:a<65536) (h2':a' < 65536) (h3:i<256) (h3':i' < 256):k=k'∧a=a'∧i=i':=by
 simp [tg] at h
 omega
def lb (n:Nat) (id:List Nat):List Nat:=Fr.Frame.be 2 n++id
theorem lb_length (n:Nat) (id:List Nat):(lb n id).length=2+id.length:=by simp [lb,Fr.Frame.yE9]
theorem lb_lt (n:Nat) {id:List Nat} (h:∀c∈id,c<256):∀c∈lb n id,c<256:=fun c hc=>by
 rcases List.mem_append.1 hc with hc|hc
 ·exact Fr.Frame.be_lt _ _ c hc
 ·exact h c hc
def hsh (id bs:List Nat):List Nat:=Sh.Tree.node (Sh.Tree.leaf (lb bs.length id)) (Sh.Cut.root bs)
def np (n:Nat):Nat:=(n+55) / 56
def nb (n:Nat):Nat:=2+np n
def nbP (n:Nat):Nat:=if n≤512 then nb n else 0
def cutTo (bs:List Nat) (k:Nat):List (List Nat):=(List.range k).map fun j=>pc (bs.drop (56 * j))
theorem cutTo_length (bs:List Nat) (k:Nat):(cutTo bs k).length=k:=by simp [cutTo]
theorem cutTo_succ (bs:List Nat) (k:Nat):cutTo bs (k+1)=cutTo bs k++[pc (bs.drop (56 * k))]:=by simp [cutTo,List.range_succ]
def hd (id bs:List Nat):List Nat:=pc (Fr.Frame.pack 111 (lb bs.length id))
def pcs (id bs:List Nat):List (List Nat):=hd id bs :: (cutTo bs (np bs.length)++[pc (hsh id bs)])
theorem pcs_length (id bs:List Nat):(pcs id bs).length=nb bs.length:=by simp [pcs,cutTo_length,nb];omega
theorem pcs_all (id bs:List Nat) (i:Nat) (h:i<nb bs.length):((pcs id bs).getD i []).length=56:=by
 have hm:∀p∈pcs id bs,p.length=56:=fun p hp=>by
  unfold pcs at hp
  simp only [List.mem_cons,List.mem_append,List.not_mem_nil,or_false] at hp
  rcases hp with rfl|hp|rfl
  ·exact yF5 _
  ·obtain ⟨j,_,rfl⟩:=List.mem_map.1 hp;exact yF5 _
  ·exact yF5 _
 rw [List.getD_eq_getElem?_getD,List.getElem?_eq_getElem (by rw [pcs_length];exact h),Option.getD_some]
 exact hm _ (List.getElem_mem _)
def bk (d a:Nat) (id bs:List Nat) (i:Nat):List Nat:=(pcs id bs).getD i []++tg 111 d a i
def blks (d a:Nat) (id bs:List Nat):List (List Nat):=(List.range (nb bs.length)).map (bk d a id bs)
theorem yC1 (d a:Nat) (id bs:List Nat):(blks d a id bs).length=nb bs.length:=by simp [blks]
theorem blks_at (d a:Nat) (id bs:List Nat) (i:Nat) (h:i<nb bs.length):(blks d a id bs).getD i []=bk d a id bs i:=by
 simp [blks,h]
theorem bk_take (d a:Nat) (id bs:List Nat) (i:Nat) (h:i<nb bs.length):(bk d a id bs i).take 56=(pcs id bs).getD i []:=by
 unfold bk
 rw [List.take_append_of_le_length (by rw [pcs_all id bs i h];exact Nat.le_refl _),List.take_of_length_le (by rw [pcs_all id bs i h];exact Nat.le_refl _)]
theorem bk_drop (d a:Nat) (id bs:List Nat) (i:Nat) (h:i<nb bs.length):(bk d a id bs i).drop 56=tg 111 d a i:=by
 unfold bk
 rw [List.drop_append_of_le_length (by rw [pcs_all id bs i h];exact Nat.le_refl _),List.drop_eq_nil_of_le (by rw [pcs_all id bs i h];exact Nat.le_refl _)]
 rfl
theorem bk_length (d a:Nat) (id bs:List Nat) (i:Nat) (h:i<nb bs.length):(bk d a id bs i).length=64:=by
 unfold bk
 rw [List.length_append,pcs_all id bs i h]
 rfl
def labP (p:List Nat):Option (List Nat×Nat) :=
 if Fr.Frame.okB p=true∧2≤(Fr.Frame.payOf p).length∧nameB ((Fr.Frame.payOf p).drop 2)=true then some ((Fr.Frame.payOf p).drop 2,Fr.Frame.val ((Fr.Frame.payOf p).take 2)) else none
theorem labP_hd {id bs:List Nat} (hn:nameB id=true) (hl:bs.length≤512):labP (hd id bs)=some (id,bs.length):=by
 have h16:=nameB_len hn
 have e:hd id bs=Fr.Frame.pack 111 (lb bs.length id)++List.replicate (56 - (Fr.Frame.pack 111 (lb bs.length id)).length) 0:=by
  unfold hd
  rw [pc_short (by rw [Fr.Frame.yG4,lb_length];omega)]
 have hb:=Fr.Frame.back 111 (lb bs.length id) (List.replicate (56 - (Fr.Frame.pack 111 (lb bs.length id)).length) 0) (by rw [lb_length];omega)
 have ho:=(Fr.Frame.okB_pack 111 (lb bs.length id) (List.replicate (56 - (Fr.Frame.pack 111 (lb bs.length id)).length) 0) (by rw [lb_length];omega)).1
 rw [←e] at hb ho
 have hp:Fr.Frame.payOf (hd id bs)=lb bs.length id:=hb.2.1
 have h2:(lb bs.length id).take 2=Fr.Frame.be 2 bs.length:=by
  unfold lb
  rw [List.take_append_of_le_length (by rw [Fr.Frame.yE9];exact Nat.le_refl _),List.take_of_length_le (by rw [Fr.Frame.yE9];exact Nat.le_refl _)]
 have h3:(lb bs.length id).drop 2=id:=by
  unfold lb
  rw [List.drop_append_of_le_length (by rw [Fr.Frame.yE9];exact Nat.le_refl _),List.drop_eq_nil_of_le (by rw [Fr.Frame.yE9];exact Nat.le_refl _)]
  rfl
 unfold labP
 rw [hp,h2,h3,if_pos ⟨ho,by rw [lb_length];omega,hn⟩,Fr.Frame.val_be,Nat.mod_eq_of_lt (by omega)]
theorem labP_name {p id:List Nat} {n:Nat} (h:labP p=some (id,n)):nameB id=true:=by
 unfold labP at h
 split at h
 ·rename_i hc
  cases h
  exact hc.2.2
 ·cases h
theorem cutTo_flat (bs:List Nat):∀k,k≤np bs.length→(cutTo bs k).flatten=bs.take (56 * k)++List.replicate (56 * k - bs.length) 0:=by
 intro k
 induction k with
 | zero=>intro _;simp [cutTo]
 | succ k ih =>
  intro hk
  have hlt:56 * k<bs.length:=by unfold np at hk;omega
  rw [cutTo_succ,List.flatten_append,ih (by omega),show 56 * k - bs.length=0 by omega]
  simp only [List.replicate_zero,List.append_nil,List.flatten_cons,List.flatten_nil]
  unfold pc
  rw [←List.append_assoc,←List.take_add,show 56 * k+56=56 * (k+1) by omega,List.length_drop,show 56 - (bs.length - 56 * k)=56 * (k+1) - bs.length by omega]
def rawB (found:List (List Nat)):List Nat:=((found.drop 1).map (·.take 56)).flatten
theorem rawB_blks (d a:Nat) (id bs:List Nat):rawB (blks d a id bs)=(cutTo bs (np bs.length)).flatten++pc (hsh id bs):=by
 have e:(blks d a id bs).map (·.take 56)=pcs id bs:=by
  apply List.ext_getElem
  ·rw [List.length_map,yC1,pcs_length]
  ·intro i h1 h2
   rw [pcs_length] at h2
   have:=bk_take d a id bs i h2
   simp only [List.getElem_map]
   have e1:(blks d a id bs)[i]'(by rw [yC1];exact h2)=bk d a id bs i:=by
    have:=blks_at d a id bs i h2
    rwa [List.getD_eq_getElem?_getD,List.getElem?_eq_getElem (by rw [yC1];exact h2),Option.getD_some] at this
   rw [e1,this,List.getD_eq_getElem?_getD,List.getElem?_eq_getElem (by rw [pcs_length];exact h2),Option.getD_some]
 unfold rawB
 rw [List.map_drop,e]
 show ((hd id bs :: (cutTo bs (np bs.length)++[pc (hsh id bs)])).drop 1).flatten=_
 simp
theorem rawB_take (d a:Nat) (id bs:List Nat):(rawB (blks d a id bs)).take bs.length=bs:=by
 rw [rawB_blks,cutTo_flat bs _ (Nat.le_refl _)]
 have hle:bs.length≤56 * np bs.length:=by unfold np;omega
 rw [List.take_of_length_le hle,List.append_assoc,List.take_append_of_le_length (Nat.le_refl _),List.take_of_length_le (Nat.le_refl _)]
structure IsObj (d a:Nat) (found:List (List Nat)) (id bs:List Nat):Prop where
 eq:found=blks d a id bs
 name:nameB id=true
 len:bs.length≤512
 lt:∀c∈bs,c<256
theorem IsObj.num {d a:Nat} {found:List (List Nat)} {id bs:List Nat} (h:IsObj d a found id bs):found.length=nb bs.length:=by rw [h.eq,yC1]
theorem nb_pos (n:Nat):2≤nb n:=by unfold nb;omega
theorem nb_le {n:Nat} (h:n≤512):nb n≤12:=by unfold nb np;omega
theorem IsObj.at {d a:Nat} {found:List (List Nat)} {id bs:List Nat} (h:IsObj d a found id bs) (i:Nat) (hi:i<found.length):found.getD i []=bk d a id bs i:=by
 rw [h.num] at hi
 rw [h.eq,blks_at d a id bs i hi]
theorem IsObj.lab {d a:Nat} {found:List (List Nat)} {id bs:List Nat} (h:IsObj d a found id bs):labP ((found.getD 0 []).take 56)=some (id,bs.length):=by
 rw [h.at 0 (by rw [h.num];have:=nb_pos bs.length;omega),bk_take _ _ _ _ _ (by have:=nb_pos bs.length;omega)]
 exact labP_hd h.name h.len
theorem IsObj.raw {d a:Nat} {found:List (List Nat)} {id bs:List Nat} (h:IsObj d a found id bs):(rawB found).take bs.length=bs:=by
 rw [h.eq];exact rawB_take d a id bs
theorem IsObj.one {d a d' a':Nat} {found:List (List Nat)} {id bs id' bs':List Nat} (h:IsObj d a found id bs) (h':IsObj d' a' found id' bs'):id=id'∧bs=bs':=by
 have e:=Option.some.inj (h.lab.symm.trans h'.lab)
 have ei:id=id':=congrArg Prod.fst e
 have el:bs.length=bs'.length:=congrArg Prod.snd e
 exact ⟨ei,by rw [←h.raw,←h'.raw,el]⟩
def Own (d:Nat) (ct:List (List Nat)) (O:Nat→List Nat×List Nat):Prop :=
 ∀p,p<ct.length→(∀a i,a<65536→i<256→(ct.getD p []).drop 56≠tg 111 d a i)∨∃s,s≤p∧p - s<nb (O s).2.length∧ct.getD p []=bk d s (O s).1 (O s).2 (p - s)
def OkO (O:Nat→List Nat×List Nat):Prop := ∀s,nameB (O s).1=true∧(O s).2.length≤512∧∀c∈(O s).2,c<256
theorem cutD (ct:List (List Nat)) (a n i:Nat) (hi:i<n):((ct.drop a).take n).getD i []=ct.getD (a+i) []:=by
 simp [hi]
theorem Own.read {d:Nat} {ct:List (List Nat)} {O:Nat→List Nat×List Nat} (h:Own d ct O) (hO:OkO O) {a n:Nat} (hn:a+n≤ct.length) (hc:ct.length≤65536) {id bs:List Nat} (hi:IsObj d a ((ct.drop a).take n) id bs) :
  O a=(id,bs)∧n=nb bs.length:=by
 have hlen:((ct.drop a).take n).length=n:=by simp;omega
 have hnb:n=nb bs.length:=by rw [←hlen];exact hi.num
 have hle:=nb_le hi.len
 have hpos:=nb_pos bs.length
 have key:∀i,i<n→i<nb (O a).2.length∧ct.getD (a+i) []=bk d a (O a).1 (O a).2 i:=by
  intro i hin
  have e:=hi.at i (by rw [hlen];exact hin)
  rw [cutD ct a n i hin] at e
  have et:(ct.getD (a+i) []).drop 56=tg 111 d a i:=by rw [e,bk_drop _ _ _ _ _ (by omega)]
  rcases h (a+i) (by omega) with hno|⟨s,hs1,hs2,hs3⟩
  ·exact absurd et (hno a i (by omega) (by omega))
  ·have hsl:=nb_le (hO s).2.1
   have et2:(ct.getD (a+i) []).drop 56=tg 111 d s (a+i - s):=by rw [hs3,bk_drop _ _ _ _ _ hs2]
   obtain ⟨_,h1,h2⟩:=tg_inj (et.symm.trans et2) (by decide) (by decide) (by omega) (by omega) (by omega) (by omega)
   rw [←h1] at hs2 hs3
   rw [show a+i - a=i by omega] at hs2 hs3
   exact ⟨hs2,hs3⟩
 have h0:=key 0 (by omega)
 have hlab:=hi.lab
 rw [cutD ct a n 0 (by omega),h0.2,bk_take _ _ _ _ _ h0.1] at hlab
 have e2:labP (hd (O a).1 (O a).2)=some ((O a).1,(O a).2.length):=labP_hd (hO a).1 (hO a).2.1
 have hlab2:labP (hd (O a).1 (O a).2)=some (id,bs.length):=hlab
 have e3:=e2.symm.trans hlab2
 have eid:(O a).1=id:=congrArg Prod.fst (Option.some.inj e3)
 have elen:(O a).2.length=bs.length:=congrArg Prod.snd (Option.some.inj e3)
 have hf:(ct.drop a).take n=blks d a (O a).1 (O a).2:=by
  apply List.ext_getElem
  ·rw [hlen,yC1,elen];exact hnb
  ·intro i h1 h2
   rw [hlen] at h1
   have k:=key i h1
   have e4:=cutD ct a n i h1
   rw [List.getD_eq_getElem?_getD,List.getElem?_eq_getElem (by rw [hlen];exact h1),Option.getD_some] at e4
   have e5:=blks_at d a (O a).1 (O a).2 i k.1
   rw [List.getD_eq_getElem?_getD,List.getElem?_eq_getElem h2,Option.getD_some] at e5
   rw [e4,k.2,e5]
 have ho:IsObj d a ((ct.drop a).take n) (O a).1 (O a).2:=⟨hf,(hO a).1,(hO a).2.1,(hO a).2.2⟩
 have:=ho.one hi
 exact ⟨Prod.ext this.1 this.2,hnb⟩
end Cold
end Go.Proofs.YtpkkkkomdblpoaaDoor

namespace Go.Proofs.YtpkkkkomdblpoaaDoor
open Go.RowKit Go.Maps
def yK7 (m:Pl) (ds ts:List Nat):Prop:=m.sh=ds.map (fun n=>(false,n))++ts.map (fun n=>(true,n))
theorem yK7.n {m:Pl} {ds ts:List Nat} (h:yK7 m ds ts):m.n=ds.length+ts.length:=by unfold Pl.n;rw [h];simp
theorem Pl.step_le (m:Pl):m.step.steps≤m.steps+1:=by
 unfold Pl.step
 split
 ·exact Nat.le_succ _
 ·exact Nat.le_refl _
structure Oth (m m':Pl) (i:Nat):Prop where
 sh:m'.sh=m.sh
 steps:m.steps≤m'.steps
 same:∀j,j≠i→m'.fl j=m.fl j∧m'.wt j=m.wt j
theorem Oth.refl (m:Pl) (i:Nat):Oth m m i:=⟨rfl,Nat.le_refl _,fun _ _=>⟨rfl,rfl⟩⟩
theorem Oth.trans {a b c:Pl} {i:Nat} (h:Oth a b i) (k:Oth b c i):Oth a c i:=⟨k.sh.trans h.sh,Nat.le_trans h.steps k.steps,fun j hj=>⟨(k.same j hj).1.trans (h.same j hj).1,(k.same j hj).2.trans (h.same j hj).2⟩⟩
theorem Pl.step_ge (m:Pl):m.steps≤m.step.steps:=by unfold Pl.step;split <;> simp
theorem Oth.step (m:Pl) (i:Nat):Oth m m.step i:=⟨m.step_sh,m.step_ge,fun j _=>⟨by rw [m.step_fl],m.step_wt j⟩⟩
theorem Oth.wait (m:Pl) (i a:Nat) (s:List Nat):Oth m (m.wait i a s) i:=⟨rfl,Nat.le_refl _,fun j hj=>⟨rfl,by rw [Pl.wt_wait,if_neg (Ne.symm hj)]⟩⟩
theorem Oth.flushed (m:Pl) (i:Nat):Oth m (m.flushed i) i:=⟨rfl,Nat.le_refl _,fun j hj=>⟨by show upd m.fl i _ j=_;simp [upd,hj],by rw [Pl.wt_flushed,if_neg hj]⟩⟩
theorem Oth.tape {m m':Pl} {i:Nat} (h:Oth m m' i) (j:Nat):m'.tape j=m.tape j:=by unfold Pl.tape;rw [h.sh]
theorem Oth.n {m m':Pl} {i:Nat} (h:Oth m m' i):m'.n=m.n:=by unfold Pl.n;rw [h.sh]
theorem Pl.step_on (m:Pl) (h:m.fuse≠0):m.step.on=m.on:=by unfold Pl.step;rw [if_neg h]
theorem Pl.step_off (m:Pl) (h:m.fuse=0):m.step.on=false:=by unfold Pl.step;rw [if_pos h]
theorem Pl.step_neg (m:Pl) (h:m.fuse<0):m.step.fuse<0:=by unfold Pl.step;rw [if_neg (by omega)];show (if 0<m.fuse then _ else m.fuse)<0;rw [if_neg (by omega)];exact h
end Go.Proofs.YtpkkkkomdblpoaaDoor

namespace Go.Proofs.YtpkkkkomdblpoaaDoor
open Go.RowKit Go.Maps
theorem sliceT {w:World} {v:Value} {cs:List Nat} (h:yA2 w v cs):Fr.yA2 w v cs:=h
theorem sliceS {w:World} {v:Value} {cs:List Nat} (h:yA2 w v cs):Sh.yA2 w v cs:=h
theorem ownF {w:World} {base:Nat} {v:Value} {cs:List Nat} (h:Fr.BOwn w base v cs):BOwn w base v cs:=h
theorem yJ0 {W:World} {g T:Nat} {cs:List Value} (h:Row W g T cs):∀j v,cs[j]? = some v→W.cell? ⟨g,0+j,none⟩=some v:=fun j v hj=>by rw [Nat.zero_add];exact h.at j v hj
theorem yF0 {w W:World} {l:List (Nat×TypeId×List Value)} (h:Loc w W l) (i:Nat) {g:Nat} {T:TypeId} {cs:List Value} (e:l[i]? = some (g,T,cs)):∀j v,cs[j]? = some v→W.cell? ⟨g,0+j,none⟩=some v:=fun j v hv=>by rw [Nat.zero_add];exact (h.at i e).at j v hv
theorem Loc.put {w W:World} {l:List (Nat×TypeId×List Value)} (h:Loc w W l) (i:Nat) {g T:Nat} {cur:List Value} (e:l[i]? = some (g,T,cur)) (j:Nat) (v:Value):Loc w (W.setCell ⟨g,j,none⟩ v) (l.set i (g,T,cur.set j v)):=h.set i e (row_cell' (h.at i e) v) ((Ch.refl (· = g) W).setCell (Or.inl rfl) j v)
theorem Loc.lay {w W:World} {l:List (Nat×TypeId×List Value)} (h:Loc w W l) (i:Nat) {g T:Nat} {cur:List Value} (e:l[i]? = some (g,T,cur)) (off:Nat) (cs:List Value):Loc w (W.setRow g (splice cur off cs).toArray) (l.set i (g,T,splice cur off cs)):=h.set i e ((h.at i e).setRow _) ((Ch.refl (· = g) W).setRow (Or.inl rfl) _)
def Env (w:World):Prop:=Fr.TabIn w∧Sh.TabIn w∧Sh.yJ3 w
theorem Env.later {w W:World} (h:Env w) (hb:Below w.heap.size w W):Env W:=⟨h.1.later hb,h.2.1.later hb,h.2.2.later hb⟩
def av (b:List Nat):Value:=.agg (yA0 b).toArray
def Zs (n:Nat):List Nat:=List.replicate n 0
theorem yH2 (n:Nat):(Zs n).length=n:=List.length_replicate ..
theorem zero129:(Tryd.prog.info? 129).map (·.zero)=some (some (.agg (yA0 (Zs 56)).toArray)):=by kernel_rfl
theorem zero131:(Tryd.prog.info? 131).map (·.zero)=some (some (.agg (yA0 (Zs 8)).toArray)):=by kernel_rfl
theorem zero133:(Tryd.prog.info? 133).map (·.zero)=some (some (.agg (yA0 (Zs 64)).toArray)):=by kernel_rfl
theorem zero52:(Tryd.prog.info? 52).map (·.zero)=some (some (.agg (yA0 (Zs 32)).toArray)):=by kernel_rfl
theorem bz (n:Nat):(yA0 (Zs n)).length=n:=by rw [yA1,yH2]
theorem beqlA (T n:Nat) (hu:Tryd.prog.underlying T=some (.array n 5)) (F:Nat) (a b:List Nat) (ha:a.length=n) (hb:b.length=n) (W:World):(Op.equalIn (F+2+1) T (av a) (av b)).run Tryd.prog W = .ok (decide (a=b)) W:=by
 obtain ⟨i,hi,hsz⟩:=Option.map_eq_some_iff.1 info5
 have key:∀(c:List Nat) (_:c.length=n) j,j<n→((part 5 (yA0 c).toArray (j * i.size)).run Tryd.prog W = .ok (.int .u8 (c.getD j 0:Nat)) W):=by
  intro c hc j hj
  have:=yC3 c j (by rw [hc];exact hj)
  simp [part,isAgg,run_underlying Tryd.underlying5,this,hsz]
 have hs5:(sizeOf 5).run Tryd.prog W = .ok i.size W:=by simp [sizeOf,typeInfo,hi]
 have hq:∀x y:Nat,(Op.equalIn (F+2) 5 (.int .u8 (x:Nat)) (.int .u8 (y:Nat))).run Tryd.prog W = .ok (decide (x=y)) W:=fun x y=>by
  rw [run_equalIn_int W (F+1) 5 .u8 .u8 x y Tryd.underlying5]
  by_cases h:x=y
  ·subst h;simp
  ·have:¬ (x:Int)=(y:Int):=by omega
   simp only [h,decide_false]
   simp [this]
 have hdec:decide (a=b)=decide (∀j∈List.range' 0 n 1,a.getD j 0=b.getD j 0):=by
  rw [decide_eq_decide]
  constructor
  ·rintro rfl j _;rfl
  ·intro h
   refine List.ext_getElem (by rw [ha,hb]) fun j h1 h2 => ?_
   have:=h j (List.mem_range'_1.2 ⟨Nat.zero_le _,by rw [ha] at h1;omega⟩)
   simpa [h1,h2] using this
 unfold av
 rw [Op.equalIn]
 simp only [Sem.run_bind,run_underlying hu,Result.andThen_ok,hs5,Std.Legacy.Range.forIn_eq_forIn_range']
 have hL:∀j∈List.range' 0 n 1,j<n:=by
  intro j hj
  have:=(List.mem_range'_1.1 hj).2
  omega
 rw [hdec]
 clear hdec
 have hr0:List.range' (0:Nat) ((n - 0+1 - 1) / 1) 1=List.range' 0 n 1:=by simp
 show Result.andThen (Sem.run Tryd.prog (forIn (List.range' 0 ((n - 0+1 - 1) / 1) 1) _ _) W) _=_
 rw [hr0]
 generalize List.range' 0 n 1=L at hL ⊢
 induction L with
 | nil=>simp
 | cons j L ih =>
  have hj:=hL j (by simp)
  have hka:=key a ha j hj
  have hkb:=key b hb j hj
  have ih':=ih (fun x hx=>hL x (by simp [hx]))
  simp only [List.forIn_cons,Sem.run_bind,hka,hkb,Result.andThen_ok,hq]
  by_cases h:a.getD j 0=b.getD j 0
  ·simp only [h,decide_true,Bool.not_true,Bool.false_eq_true,if_false,Sem.run_pure,Result.andThen_ok]
   have e2:decide (∀x∈j :: L,a.getD x 0=b.getD x 0)=decide (∀x∈L,a.getD x 0=b.getD x 0):=by
    rw [decide_eq_decide]
    constructor
    ·intro hh x hx;exact hh x (List.mem_cons_of_mem _ hx)
    ·intro hh x hx
     rcases List.mem_cons.1 hx with rfl|hx
     ·exact h
     ·exact hh x hx
   rw [e2]
   exact ih'
  ·have e2:decide (∀x∈j :: L,a.getD x 0=b.getD x 0)=false:=by
    rw [decide_eq_false_iff_not]
    intro hh
    exact h (hh j (List.mem_cons_self ..))
   rw [e2]
   simp only [h,decide_false,Bool.not_false,if_true,Sem.run_pure,Result.andThen_ok]
theorem run_neArr {w:World} {a:Act} {o:Oper} (T n:Nat) (hu:Tryd.prog.underlying T=some (.array n 5)) (hm:Tryd.prog.eqGuardType Tryd.prog.depth T=false) (x y:Operand) (ho:o.op = .binOp .neq T x y T) (h h':List Nat) (hh:h.length=n) (hh':h'.length=n) (hx:a.eval x=av h) (hy:a.eval y=av h') (b:Bool) (hb:(!decide (h=h'))=b):(execOp a.eval o).run Tryd.prog w = .ok (.value (.bool b)) w:=by
 have he:(Op.equalIn 10000 T (av h) (av h')).run Tryd.prog w=_:=beqlA T n hu 9997 h h' hh hh' w
 rw [←hb]
 unfold av at *
 simp [execOp,ho,hx,hy,run_eqGuard_agg w .neq T x y _ _ hm,run_neq_struct w T,he]
theorem guard129:Tryd.prog.eqGuardType Tryd.prog.depth 129=false:=by kernel_rfl
theorem guard131:Tryd.prog.eqGuardType Tryd.prog.depth 131=false:=by kernel_rfl
theorem guard133:Tryd.prog.eqGuardType Tryd.prog.depth 133=false:=by kernel_rfl
def str (cs:List Nat):Value:=.string (strOfNums (cs.map Int.ofNat))
theorem str_size (cs:List Nat):(strOfNums (cs.map Int.ofNat)).size=cs.length:=by simp [strOfNums,ByteArray.size]
theorem strCells_str (cs:List Nat) (hb:∀c∈cs,c<256):Lib.strCells (strOfNums (cs.map Int.ofNat))=yA0 cs:=by
 unfold Lib.strCells strOfNums yA0
 simp
 intro c hc
 have:=hb c hc
 omega
section
variable {w:World} {a:Act} {o:Oper}
theorem run_lenStr (cs:List Nat) (x:Operand) (ho:o.op = .call { callee:=.builtin .len,args:=#[x],argTypes:=#[9] }) (hx:a.eval x=str cs):(execOp a.eval o).run Tryd.prog w = .ok (.value (.int .i64 (cs.length:Nat))) w:=by
 have hr:=run_len_string (P:=Tryd.prog) w 9 o.type (strOfNums (cs.map Int.ofNat)) Tryd.underlying9
 rw [str_size] at hr
 simp only [execOp,ho,resolve,invoke,builtin,Sem.run_bind,Sem.run_pure,Result.andThen_ok,List.map_toArray,List.map_cons,List.map_nil,hx,str,hr]
 rfl
theorem run_appS {w:World} (base:Nat) (v:Value) (cs id:List Nat) (hb:∀c∈id,c<256) (hown:BOwn w base v cs) (hsz:cs.length+id.length≤140737488355328) (hbase:base≤w.heap.size) :
  ∃v' w',(∀(a:Act) (o:Oper) (sv x:Operand),o.op = .call { callee:=.builtin .append,args:=#[sv,x],argTypes:=#[38,9] }→a.eval sv=v→a.eval x=str id→(execOp a.eval o).run Tryd.prog w = .ok (.value v') w')∧BOwn w' base v' (cs++id)∧w.grownBy w' v.ownBlock:=by
 obtain ⟨i,hi,hz0,hz1,hz2⟩:=info_parts info5z
 have hl:=str_size id
 have key:=fun ty=>Lib.run_append_own_string (P:=Tryd.prog) (w:=w) base 38 9 ty 5 i Tryd.underlying38 Tryd.underlying9 hi hz0 hz1 hz2 v cs.length (yA0 cs) hown (strOfNums (id.map Int.ofNat)) (by unfold maxLen;omega) (by omega) hbase
 obtain ⟨v',w',hr,h2,h3,_⟩:=key 0
 have hr':∀ty,(Builtin.append_ #[38,9] ty #[v,.string (strOfNums (id.map Int.ofNat))]).run Tryd.prog w = .ok v' w':=fun ty=>hr
 refine ⟨v',w',fun a o sv x ho hs hx => ?_,?_,h3⟩
 ·simp only [execOp,ho,resolve,invoke,builtin,Sem.run_bind,Sem.run_pure,Result.andThen_ok,List.map_toArray,List.map_cons,List.map_nil,hs,hx,str,hr']
 ·unfold BOwn
  rw [yD0,List.length_append]
  rw [strCells_str id hb,hl] at h2
  exact h2
def Fz (W:World) (base:Nat) (v:Value) (id:List Nat):Prop :=
 ∃g cap cur,v = .slice (some ⟨g,0,none⟩) id.length cap∧base≤g∧W.heap[g]? = some (.cells cur 5 (cur.size,cur.size+1))∧id.length≤cap∧cap≤cur.size∧(∀c∈id,c<256)∧id.length≤1000∧∀j,j<id.length→cur[j]? = some (.int .u8 (id.getD j 0:Nat))
theorem Fz.slice {W:World} {base:Nat} {v:Value} {id:List Nat} (h:Fz W base v id):yA2 W v id:=by
 obtain ⟨g,cap,cur,rfl,_,h1,h2,h3,h4,h5,h6⟩:=h
 refine ⟨_,cap,rfl,⟨h2,by omega⟩,Or.inr ⟨g,0,rfl,fun j hj => ?_,lt256 id h4⟩⟩
 rw [Nat.zero_add]
 show World.cell? _ _=_
 simp only [World.cell?,h1]
 exact h6 j hj
theorem run_strBs (w:World) (id:List Nat) (hb:∀c∈id,c<256) (hl:id.length≤1000):∃v' w',(∀(a:Act) (o:Oper) (x:Operand),o.op = .convert 9 38 x→a.eval x=str id→(execOp a.eval o).run Tryd.prog w = .ok (.value v') w')∧Fz w' w.heap.size v' id∧Below w.heap.size w w':=by
 have hs:=str_size id
 have hr:=Lib.run_convert_string_bytes (P:=Tryd.prog) w 9 38 5 (strOfNums (id.map Int.ofNat)) Tryd.underlying9 Tryd.underlying38 Tryd.underlying5
 have hn:=Lib.bytesWorld_at_new w 5 (strOfNums (id.map Int.ofNat))
 refine ⟨_,_,fun a o x ho hx=>by simp only [execOp,ho,hx,str,hr,Sem.run_bind,Sem.run_pure,Result.andThen_ok];rfl,?_,Lib.bytesWorld_below _ _ _⟩
 refine ⟨w.heap.size,_,_,by rw [hs],Nat.le_refl _,hn,by rw [←hs];exact grownCap_ge _ _ _ _,?_,hb,?_,fun j hj => ?_⟩
 ·have h9:=grownCap_ge w id.length 0 5
  simp [Lib.bytesCells,hs]
  omega
 ·exact hl
 ·have h2:=hb id[j] (List.getElem_mem hj)
  simp [Lib.bytesCells,Array.getElem?_append,strOfNums,hj]
  omega
theorem run_toU8 (x:Operand) (ho:o.op = .convert 3 5 x) (n:Nat) (hx:a.eval x = .int .i64 (n:Nat)):(execOp a.eval o).run Tryd.prog w = .ok (.value (.int .u8 ((n % 256:Nat):Int))) w:=by
 have hr:(convert 3 5 (.int .i64 (n:Nat))).run Tryd.prog w = .ok (.int .u8 (IntKind.u8.wrap (n:Nat))) w:=by kernel_rfl
 have e:IntKind.u8.wrap (n:Nat)=((n % 256:Nat):Int):=by
  simp [IntKind.wrap,IntKind.signed,IntKind.bits]
 simp only [execOp,ho,hx,hr,e,Sem.run_bind,Sem.run_pure,Result.andThen_ok]
theorem run_shr8 (x:Operand) (ho:o.op = .binOp .shr 3 x (.const (.int .u64 8)) 163) (n:Nat) (hx:a.eval x = .int .i64 (n:Nat)):(execOp a.eval o).run Tryd.prog w = .ok (.value (.int .i64 ((n / 256:Nat):Int))) w:=by
 simp only [execOp,ho,hx]
 simp [go_sem]
theorem run_build131 (x y z u v:Operand) (ho:o.op = .build 131 #[(0,x),(1,y),(2,z),(3,u),(4,v)]) (k d a1 a2 i:Nat) (hx:a.eval x = .int .u8 (k:Nat)) (hy:a.eval y = .int .u8 (d:Nat)) (hz:a.eval z = .int .u8 (a1:Nat)) (hu:a.eval u = .int .u8 (a2:Nat)) (hv:a.eval v = .int .u8 (i:Nat)):(execOp a.eval o).run Tryd.prog w = .ok (.value (av [k,d,a1,a2,i,0,0,0])) w:=by
 have h:(Instr.build 131 #[(0,.int .u8 (k:Nat)),(1,.int .u8 (d:Nat)),(2,.int .u8 (a1:Nat)),(3,.int .u8 (a2:Nat)),(4,.int .u8 (i:Nat))]).run Tryd.prog w = .ok (av [k,d,a1,a2,i,0,0,0]) w:=by kernel_rfl
 simp [execOp,ho,hx,hy,hz,hu,hv,h]
end
theorem run_storeCells_fz (g o:Nat) (t:TypeId):∀(vs:List Value) (i:Nat) (cur:Array Value) (w:World) (n:Nat),w.heap[g]? = some (.cells cur t (n,n+1))→cur.size≤n→o+i+vs.length≤cur.size→(∀v∈vs,v.oneCell'=true) →
  (storeCells ⟨g,o,none⟩ vs i).run Tryd.prog w = .ok () (w.setRow g (cur.toList.take (o+i)++vs++cur.toList.drop (o+i+vs.length)).toArray)
 | [],i,cur,w,n,hg,_,_,_=>by
  simp only [storeCells,List.append_nil,List.length_nil,Nat.add_zero,List.take_append_drop,Array.toArray_toList]
  rw [setRow_self w g cur t (n,n+1) hg]
  rfl
 | v :: rest,i,cur,w,n,hg,hn,hl,h1=>by
  have hi:o+i<cur.size:=by simp at hl;omega
  have hadd:(⟨g,o,none⟩:Addr).add i=⟨g,o+i,none⟩:=by unfold Addr.add;split <;> simp_all
  have hcell:w.cell? ⟨g,o+i,none⟩=some cur[o+i]:=by simp [World.cell?,hg,hi]
  have hfro:w.frozen? ⟨g,o+i,none⟩=false:=by simp [World.frozen?,hg];omega
  have hst:(store ((⟨g,o,none⟩:Addr).add i) v).run Tryd.prog w = .ok () (w.setRow g (cur.setIfInBounds (o+i) v)):=by
   rw [hadd,run_store Tryd.prog w _ v _ (h1 v (by simp)),hcell]
   simp [hfro,setCell_eq_setRow w g (o+i) cur t (n,n+1) v hg]
  have ih:=run_storeCells_fz g o t rest (i+1) (cur.setIfInBounds (o+i) v) (w.setRow g (cur.setIfInBounds (o+i) v)) n (setRow_heap w g cur _ t _ hg) (by simpa using hn) (by simp at hl ⊢;omega) (fun x hx=>h1 x (by simp [hx]))
  simp only [storeCells,Sem.run_bind,hst,Result.andThen_ok,ih,setRow_setRow]
  congr 3
  have e:=list_seg_step cur.toList (o+i) v rest (by simp at hl ⊢;omega)
  simpa [Array.toList_setIfInBounds,Nat.add_assoc] using e
theorem Fz.app {W:World} {base:Nat} {v vx:Value} {id ys:List Nat} (h:Fz W base v id) (hin:yA2 W vx ys) (hy:ys.length≤1000000) (hbase:base≤W.heap.size):∃v' w',(∀ty,(Builtin.append_ #[38,38] ty #[v,vx]).run Tryd.prog W = .ok v' w')∧yA2 w' v' (id++ys)∧Below base W w':=by
 have hsl:=h.slice
 obtain ⟨g,cap,cur,rfl,h0,h1,h2,h3,h4,h5,h6⟩:=h
 obtain ⟨i,hi,hz0,hz1,hz2⟩:=info_parts info5z
 obtain ⟨p,cp,rfl,hl,hy2⟩:=hin
 have hidc:∀j u,(yA0 id)[j]? = some u→W.cell? ((⟨g,0,none⟩:Addr).add j)=some u:=fun j u hu=>by
  have hj:j<id.length:=by
   have:=(List.getElem?_eq_some_iff.1 hu).1
   rwa [yA1] at this
  rw [yB7,Nat.zero_add,←hu,yC3 id j hj]
  simp only [World.cell?,h1]
  exact h6 j hj
 have hbytes:∀c∈ys,c<256:=yA2.lt256 (w:=W) (v:=.slice p ys.length cp) ⟨p,cp,rfl,hl,hy2⟩
 have hall:∀c∈id++ys,c<256:=fun c hc=>(List.mem_append.1 hc).elim (h4 c) (hbytes c)
 have hgo:∀ad:Addr,p=some ad→(∀j u,(yA0 ys)[j]? = some u→W.cell? (ad.add j)=some u)→∃v' w',(∀ty,(Builtin.append_ #[38,38] ty #[.slice (some ⟨g,0,none⟩) id.length cap,.slice p ys.length cp]).run Tryd.prog W = .ok v' w')∧yA2 w' v' (id++ys)∧Below base W w':=by
  rintro ad rfl hnews
  by_cases hroom:id.length+ys.length≤cap
  ·have hf:=run_firstCells_some (P:=Tryd.prog) W 1 ys.length ad ys.length cp (yA0 ys) (by rw [yA1];simp) hnews
   have hst:=run_storeCells_fz g id.length 5 (yA0 ys) 0 cur W cur.size h1 (Nat.le_refl _) (by rw [yA1];omega) (yB0 ys)
   simp only [Nat.add_zero] at hst
   obtain ⟨L,hL⟩:∃L,L=(cur.toList.take id.length++yA0 ys++cur.toList.drop (id.length+(yA0 ys).length)).toArray:=⟨_,rfl⟩
   rw [←hL] at hst
   refine ⟨.slice (some ⟨g,0,none⟩) (id.length+ys.length) cap,W.setRow g L,fun ty => ?_,⟨_,cap,by rw [List.length_append],⟨by rw [List.length_append];exact hroom,by rw [List.length_append];omega⟩,Or.inr ⟨g,0,rfl,fun j hj => ?_,lt256 _ hall⟩⟩,?_⟩
   ·simp [Builtin.append_,run_underlying Tryd.underlying38,sizeOf,typeInfo,hi,hz1,Builtin.lenOf,hroom,hf,Addr.add_lit,hst]
   ·rw [Nat.zero_add]
    have hg':=setRow_heap W g cur L 5 _ h1
    simp only [World.cell?,hg']
    have hlen:(cur.toList.take id.length).length=id.length:=by simp;omega
    rw [List.length_append] at hj
    rw [hL]
    rcases Nat.lt_or_ge j id.length with hj1|hj1
    ·have e1:=h6 j hj1
     have hj3:j<cur.size:=by omega
     rw [Array.getElem?_eq_getElem hj3] at e1
     have hmin:min id.length cur.size=id.length:=by omega
     simp [List.getElem?_append,hmin,hj1,Option.some.inj e1]
    ·have hj2:j - id.length<ys.length:=by omega
     have hb_:=yC3 ys (j - id.length) hj2
     have hmin:min id.length cur.size=id.length:=by omega
     simp [List.getElem?_append,hmin,Nat.not_lt.2 hj1,hj2,yA0]
   ·refine (Ch.setRow (S:=(· = g)) (Ch.refl _ W) (Or.inl rfl) L).below hbase fun k hk e => ?_
    omega
  ·have hr:=fun ty=>run_append_grow (P:=Tryd.prog) (w:=W) 38 ty 5 i (.int .u8 0) Tryd.underlying38 hi hz0 ⟨g,0,none⟩ id.length cap (yA0 id) (by rw [yA1,hz1];simp) hidc ad ys.length cp (yA0 ys) (by rw [yA1,hz1];simp) hnews (by omega) (by omega) (by
    rw [hz2]
    have:=nextslicecap_le (need:=id.length+ys.length) (old:=cap) (by omega)
    omega)
   refine ⟨_,_,hr,?_,?_⟩
   ·refine ⟨_,_,by rw [List.length_append],⟨by rw [List.length_append];exact grownCap_ge _ _ _ _,by rw [List.length_append];omega⟩,Or.inr ⟨W.heap.size,0,rfl,fun j hj => ?_,lt256 _ hall⟩⟩
    rw [Nat.zero_add]
    have e2:((yA0 id).toArray++(yA0 ys).toArray)=(yA0 (id++ys)).toArray:=by rw [yD0];simp
    rw [e2]
    have hb_:=yC3 (id++ys) j hj
    simp only [World.cell?,World.alloc,World.drew]
    rw [List.length_append] at hj
    simp [Array.getElem?_append,hj,yA0]
    simp only [←List.map_append,List.getElem_map]
   ·exact (Below.drew (Below.refl _ W)).alloc hbase _
 rcases hy2 with rfl|⟨b,off,rfl,hc,_⟩
 ·cases p with
  | none =>
   refine ⟨_,W,fun ty => ?_,by rw [List.append_nil];exact hsl,Below.refl _ _⟩
   simp [Builtin.append_,run_underlying Tryd.underlying38,sizeOf,typeInfo,hi,Builtin.lenOf,Builtin.firstCells,h2,storeCells]
  | some ad=>exact hgo ad rfl (by intro j u hu;simp [yA0] at hu)
 ·refine hgo ⟨b,off,none⟩ rfl (fun j u hu => ?_)
  have hj:j<ys.length:=by
   have:=(List.getElem?_eq_some_iff.1 hu).1
   rwa [yA1] at this
  rw [yB7,hc j hj,←hu,yC3 ys j hj]
theorem yA2.ix {w:World} {v:Value} {cs:List Nat} (hin:yA2 w v cs) (k:Nat) (hk:k<cs.length):∃b j,(∀w',(Instr.indexAt 38 v (.int .i64 (k:Nat))).run Tryd.prog w' = .ok (.pointer (some ⟨b,j,none⟩)) w')∧w.cell? ⟨b,j,none⟩=some (.int .u8 (cs.getD k 0:Nat)):=Fr.run_index hin k hk
theorem copyS {W:World} {g off dLen dCap T:Nat} {v:Value} {ys:List Nat} {cur:List Value} (hin:yA2 W v ys) (hr:Row W g T cur) (k:Nat) (hk:k=min ys.length dLen) (hfit:off+k≤cur.length) :
  ∃W',(∀ty,(Builtin.copy_ #[38,38] ty #[.slice (some ⟨g,off,none⟩) dLen dCap,v]).run Tryd.prog W = .ok (.int .i64 (k:Nat)) W')∧Row W' g T (splice cur off (yA0 (ys.take k)))∧Ch (· = g) W W'∧W'.heap.size=W.heap.size:=by
 obtain ⟨p,cap,rfl,hl,hin⟩:=hin
 have hm:Nat.min ys.length dLen=k:=hk.symm
 by_cases h0:k=0
 ·refine ⟨W,fun ty => ?_,?_,Ch.refl _ _,rfl⟩
  ·rw [run_copy_none W 38 38 ty 5 _ _ _ _ _ _ Tryd.underlying38 info5 (by rw [hm];exact h0),h0]
   rfl
  ·rw [h0]
   simpa [splice,yA0] using hr
 ·rcases hin with rfl|⟨b,so,rfl,hb⟩
  ·exact absurd (by rw [hk];simp) h0
  have hkl:(ys.take k).length=k:=by rw [List.length_take,hk];omega
  have hbl:(yA0 (ys.take k)).length=k:=by rw [yA1,hkl]
  have e_:cur.toArray.toList.take off++yA0 (ys.take k)++cur.toArray.toList.drop (off+(yA0 (ys.take k)).length)=splice cur off (yA0 (ys.take k)):=by
   unfold splice
   rw [List.append_assoc]
  refine ⟨W.setRow g (splice cur off (yA0 (ys.take k))).toArray,fun ty=>(run_copy_row (P:=Tryd.prog) W 38 38 ty 5 g off dLen dCap ⟨b,so,none⟩ ys.length cap cur.toArray T (yA0 (ys.take k)) Tryd.underlying38 info5 hr (by rw [hbl];exact hm.symm) ?_ (by rw [hbl];simpa using hfit) (yB0 _)).trans (by rw [e_,hbl];rfl),hr.setRow _,(Ch.refl (· = g) W).setRow (Or.inl rfl) _,by simp [World.setRow]⟩
  intro j u hv
  have hj:j<(ys.take k).length:=by
   have:=(List.getElem?_eq_some_iff.1 hv).1
   rwa [yA1] at this
  have hj2:j<ys.length:=by rw [hkl] at hj;omega
  have hjk:j<k:=by rw [hkl] at hj;exact hj
  rw [yC3 _ _ hj] at hv
  rw [yB7,hb.1 j hj2,←hv]
  have eg:(ys.take k).getD j 0=ys.getD j 0:=by simp [List.getD_eq_getElem?_getD,hjk]
  rw [eg]
theorem run_copyOp {w w':World} {a:Act} {o:Oper} (d s:Operand) (ho:o.op = .call { callee:=.builtin .copy,args:=#[d,s],argTypes:=#[38,38] }) (vd vs r:Value) (hd:a.eval d=vd) (hs:a.eval s=vs) (hr:∀ty,(Builtin.copy_ #[38,38] ty #[vd,vs]).run Tryd.prog w = .ok r w'):(execOp a.eval o).run Tryd.prog w = .ok (.value r) w':=by
 simp [execOp,ho,resolve,invoke,builtin,hd,hs,hr,Result.andThen]
theorem run_subB {w:World} {a:Act} {o:Oper} (x:Operand) (lo hi mx:Option Operand) (ho:o.op = .slice 38 x lo hi mx) (v v':Value) (hx:a.eval x=v) (hr:∀w',(Instr.slice 38 v (lo.map a.eval) (hi.map a.eval) (mx.map a.eval)).run Tryd.prog w' = .ok v' w'):(execOp a.eval o).run Tryd.prog w = .ok (.value v') w:=by
 simp [execOp,ho,hx,run_sliceAt_slice _ _ _ _ _ _ sl38,hr]
theorem yI9 {w w0:World} {a:Act} {o:Oper} {v:Value} {cs:List Nat} (h:yA2 w0 v cs) (x:Operand) (ho:o.op = .call { callee:=.builtin .len,args:=#[x],argTypes:=#[38] }) (hx:a.eval x=v):(execOp a.eval o).run Tryd.prog w = .ok (.value (.int .i64 (cs.length:Nat))) w:=by
 obtain ⟨p,cap,rfl,_⟩:=h
 exact run_lenZ sl38 x ho p _ _ hx
end Go.Proofs.YtpkkkkomdblpoaaDoor

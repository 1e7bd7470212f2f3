/- The walks of Plant.Write, Plant.Append, Plant.Len. The walks of Plant.Append, Plant.Len, Plant.Read. The walk of Plant.Read. The walks of device.waitNoMore, Plant.Flush. The walk of device.settle. The library's functions at the program's own types: their bodies are the ones that the shelf's contracts were proved of. -/
import Derived.Test.YtpkkkkomdblpoaaDoorS11
import Derived.Shelf.Abstract
import Derived.Laws.BitsLemmas
import Derived.Test.YtpkkkkomdblpoaaDoorProg
import Derived.Shelf.SlSortCmp.WholeK
import Derived.Shelf.SlSortCmp.NoneTotal
import Derived.Shelf.SlGeneric
import Derived.Ground.SlsfProg
namespace Go.Proofs.YtpkkkkomdblpoaaDoor
open Go.RowKit Go.Maps
def Post (w:World) (c:Nat→Colour) (t g db cap:Nat) (gs:Nat→Nat) (m':Pl) (w':World):Prop :=
 ∃c',(∀b,b<w.heap.size→c' b=c b)∧PlantAt w' c' t g db cap gs m'∧Ch (fun b=>(c b).1=t) w w'
section
variable {w:World} {c:Nat→Colour} {t g db cap:Nat} {gs:Nat→Nat} {m:Pl}
theorem PlantAt.same {w':World} (h:PlantAt w c t g db cap gs m) (he:w'.heap=w.heap):PlantAt w' c t g db cap gs m:=by
 refine ⟨?_,h.cg,h.cd,h.ne,by rw [he];exact h.lt,h.cap,fun i hi => ?_,fun i hi=>(h.dev i hi).kept fun b _ hk=>⟨by rw [he],hk⟩⟩
 ·show w'.heap[g]? = _
  rw [he]
  exact h.row
 ·rw [←h.cell i hi]
  exact World.cell?_of_block (by rw [he])
theorem PlantAt.drewN (h:PlantAt w c t g db cap gs m) (n:Nat):PlantAt (w.drewN n) c t g db cap gs m:=h.same rfl
theorem Post.refl (h:PlantAt w c t g db cap gs m):Post w c t g db cap gs m w:=⟨c,fun _ _=>rfl,h,Ch.refl _ _⟩
theorem Post.same {w':World} (h:PlantAt w c t g db cap gs m) (n:Nat) (hw:w'=w.drewN n):Post w c t g db cap gs m w':=by
 subst hw
 exact ⟨c,fun _ _=>rfl,h.drewN n,(Ch.refl _ _).drewN n⟩
theorem Post.stepped {w':World} (h:PlantAt w c t g db cap gs m) {m':Pl} (h':PlantAt w' c t g db cap gs m') (hc:Ch (· = g) w w'):Post w c t g db cap gs m' w' :=
 ⟨c,fun _ _=>rfl,h',hc.mono fun i _ e=>by rw [e,h.cg]⟩
theorem Post.device {w1 w2:World} {m1 m2:Pl} (h1:PlantAt w1 c t g db cap gs m1) (hc:Ch (fun b=>(c b).1=t) w w1) (i:Nat) (e1:m2.sh=m1.sh) (e2:∀j,j≠i→m2.fl j=m1.fl j∧m2.wt j=m1.wt j)
  (e3:m2.on=m1.on∧m2.fuse=m1.fuse∧m2.steps=m1.steps∧m2.clock=m1.clock) (c':Nat→Colour) (hcc:∀b,b<w1.heap.size→c' b=c b) (hch:Ch (fun b=>c b=(t,i+1)) w1 w2)
  (hd:DevIn w2 c' (t,i+1) (gs i) (m2.tape i) (m2.size i) (m2.fl i) (m2.wt i)):Post w c t g db cap gs m2 w2 :=
 ⟨c',fun b hb=>hcc b (Nat.lt_of_lt_of_le hb hc.size),h1.device m2 i e1 e2 e3 hch hcc (fun _=>hd),hc.trans' hch fun b _ e=>by rw [e]⟩
theorem device_any (h:PlantAt w c t g db cap gs m) (d:Int):Calls Tryd.prog 54 #[ptr g,.int .i64 d] w fun e w'=>(∃v,e = .returned v∧(m.has d→v=ptr (gs d.toNat))∧(¬ m.has d→v = .pointer none))∧w'=w:=by
 by_cases hd:m.has d
 ·obtain ⟨i,rfl⟩:∃i:Nat,d=(i:Int):=⟨d.toNat,by have:=hd.1;omega⟩
  have hi:i<m.n:=by have:=hd.2;omega
  refine (device_in w g db m.n cap (gs i) i h.c0 hi (h.cell i hi)).mono ?_
  rintro e w' ⟨rfl,rfl⟩
  exact ⟨⟨_,rfl,fun _=>by simp,fun h=>absurd hd h⟩,rfl⟩
 ·refine (device_out w g db m.n cap d h.c0 (by unfold Pl.has at hd;omega)).mono ?_
  rintro e w' ⟨rfl,rfl⟩
  exact ⟨⟨_,rfl,fun h=>absurd h hd,fun _=>rfl⟩,rfl⟩
theorem yI1 (h:PlantAt w c t g db cap gs m) (d:Int) (i:Nat) (hd:d=(i:Int)) (hi:i<m.n):Calls Tryd.prog 54 #[ptr g,.int .i64 d] w fun e w'=>e = .returned (ptr (gs i))∧w'=w:=by
 subst hd
 exact device_in w g db m.n cap (gs i) i h.c0 hi (h.cell i hi)
theorem device_no (h:PlantAt w c t g db cap gs m) (d:Int) (hd:¬ m.has d):Calls Tryd.prog 54 #[ptr g,.int .i64 d] w fun e w'=>e = .returned (.pointer none)∧w'=w :=
 device_out w g db m.n cap d h.c0 (by unfold Pl.has at hd;omega)
theorem DevIn.d0 {k:Colour} {gi:Nat} {tape:Bool} {size:Nat} {fl:List (List Nat)} {wt:List Wr} (h:DevIn w c k gi tape size fl wt):w.cell? ⟨gi,0,none⟩=some (.bool tape):=by
 obtain ⟨bm,bl,v,hr,_⟩:=h
 exact hr.at 0 _ rfl
theorem DevIn.d1 {k:Colour} {gi:Nat} {tape:Bool} {size:Nat} {fl:List (List Nat)} {wt:List Wr} (h:DevIn w c k gi tape size fl wt):w.cell? ⟨gi,1,none⟩=some (.int .i64 (size:Nat)):=by
 obtain ⟨bm,bl,v,hr,_⟩:=h
 exact hr.at 1 _ rfl
theorem yA2.shape {v:Value} {cs:List Nat} (h:yA2 w v cs):∃p cap,v = .slice p cs.length cap∧cs.length≤9223372036854775807:=by
 obtain ⟨p,cap,rfl,hl,_⟩:=h
 exact ⟨p,cap,rfl,hl.2⟩
theorem yA2.stepped {w':World} {v:Value} {cs:List Nat} (h:yA2 w v cs) (hp:PlantAt w c t g db cap gs m) (hc:Ch (· = g) w w'):yA2 w' v cs:=by
 obtain ⟨p,cp,rfl,hl,h⟩:=h
 refine ⟨p,cp,rfl,hl,?_⟩
 rcases h with h|⟨b,off,rfl,hb,h2⟩
 ·exact Or.inl h
 ·refine Or.inr ⟨b,off,rfl,fun j hj=>hc.cell ?_ (hb j hj),h2⟩
  rintro rfl
  have h1:=hb j hj
  rw [hp.row.cell] at h1
  have hlt:off+j<5:=by
   have:=(List.getElem?_eq_some_iff.1 h1).1
   simpa [yJ1] using this
  generalize off+j=k at *
  match k,hlt with
  | 0,_=>simp [yJ1] at h1
  | 1,_=>simp [yJ1] at h1
  | 2,_=>simp [yJ1] at h1
  | 3,_=>simp [yJ1] at h1
  | 4,_=>simp [yJ1] at h1
theorem yA2.sec {v:Value} {cs:List Nat} (h:yA2 w v cs) (hl:cs.length=64):Sec cs:=by
 refine ⟨hl,fun x hx => ?_⟩
 obtain ⟨p,cap,rfl,_,h⟩:=h
 rcases h with rfl|⟨b,off,rfl,_,hb⟩
 ·simp at hl
 ·obtain ⟨j,hj,rfl⟩:=List.getElem_of_mem hx
  have:=hb j
  simpa [hj] using this
end
theorem post_wait {w w1 w2:World} {c c':Nat→Colour} {t g db cap:Nat} {gs:Nat→Nat} {m:Pl} (h:PlantAt w c t g db cap gs m) (hc:Ch (· = g) w w1) (h1:PlantAt w1 c t g db cap gs m.step) (hf:m.fuse≠0) (i q:Nat) (s:List Nat)
  (hcc:∀b,b<w1.heap.size→c' b=c b) (hd:DevIn w2 c' (t,i+1) (gs i) (m.step.tape i) (m.step.size i) (m.step.fl i) (m.step.wt i++[⟨i,m.steps+1,q,s⟩])) (hc2:Ch (fun b=>c b=(t,i+1)) w1 w2):Post w c t g db cap gs (m.step.wait i q s) w2:=by
 refine Post.device (m1:=m.step) (m2:=m.step.wait i q s) h1 (hc.mono fun b _ e=>by rw [e,h.cg]) i ?_ (fun j hj=>⟨?_,?_⟩) ?_ c' hcc hc2 ?_
 ·unfold Pl.wait;rfl
 ·unfold Pl.wait;rfl
 ·rw [Pl.wt_wait,if_neg (Ne.symm hj)]
 ·unfold Pl.wait;exact ⟨rfl,rfl,rfl,rfl⟩
 ·rw [Pl.wt_wait,if_pos rfl,m.step_steps hf]
  exact hd
end Go.Proofs.YtpkkkkomdblpoaaDoor

namespace Go.Proofs.YtpkkkkomdblpoaaDoor
open Go.RowKit Go.Maps
theorem DevIn.drewN {w:World} {c:Nat→Colour} {k:Colour} {g:Nat} {tape:Bool} {size:Nat} {fl:List (List Nat)} {wt:List Wr} (h:DevIn w c k g tape size fl wt) (n:Nat):DevIn (w.drewN n) c k g tape size fl wt :=
 h.kept fun _ _ hk=>⟨rfl,hk⟩
theorem length_is {w:World} {c:Nat→Colour} {t g db cap:Nat} {gs:Nat→Nat} {m:Pl} (h:PlantAt w c t g db cap gs m) (hwf:m.WF) (_hst:m.steps<35184372088832) (i:Nat) (hi:i<m.n) (L:Nat) (hL:L=m.len i) (n:Nat) :
  Calls Tryd.prog 55 #[ptr (gs i)] (w.drewN n) fun e w'=>e = .returned (.int .i64 (L:Int))∧∃k,w'=(w.drewN n).drewN k:=by
 subst hL
 refine (length_any ((h.dev i hi).drewN n) (by have:=m.wt_len i;have:=hwf.few_wts;omega)).mono ?_
 rintro e w' ⟨rfl,k,rfl⟩
 exact ⟨rfl,k,rfl⟩
theorem length_is0 {w:World} {c:Nat→Colour} {t g db cap:Nat} {gs:Nat→Nat} {m:Pl} (h:PlantAt w c t g db cap gs m) (hwf:m.WF) (hst:m.steps<35184372088832) (i:Nat) (hi:i<m.n) (L:Nat) (hL:L=m.len i) :
  Calls Tryd.prog 55 #[ptr (gs i)] w fun e w'=>e = .returned (.int .i64 (L:Int))∧∃k,w'=w.drewN k:=length_is h hwf hst i hi L hL 0
theorem Pl.len_le {m:Pl} (h:m.WF) (i:Nat) (hi:i<m.n):m.len i≤4096:=by
 have h1:=h.sizes i hi
 unfold Pl.len
 split
 ·rename_i ht
  have:=(h.tapes i hi ht).1
  omega
 ·omega
set_option maxHeartbeats 400000 in
set_option maxRecDepth 100000 in
theorem append_any {w:World} {c:Nat→Colour} {t g db cap:Nat} {gs:Nat→Nat} {m:Pl} (h:PlantAt w c t g db cap gs m) (hwf:m.WF) (hst:m.steps<35184372088831) (d:Int) (v:Value) (s:List Nat) (hv:yA2 w v s) :
  Calls Tryd.prog 29 #[ptr g,.int .i64 d,v] w fun e w'=>e = .returned (.tuple #[.int .i64 ((m.append d s).1:Int),.int .i64 (m.append d s).2.1])∧Post w c t g db cap gs (m.append d s).2.2 w':=by
 obtain ⟨r,hr⟩:∃r,r=m.append d s:=⟨_,rfl⟩
 rw [←hr]
 have c1:=h.c1
 have HP:Hid (PlantAt w c t g db cap gs m):=h
 have HR:Hid (r=m.append d s):=hr
 clear h hr
 by_cases hon:m.on=false
 ·have er:r=(0,2,m):=by rw [HR.out];unfold Pl.append;rw [if_pos hon]
  rw [hon] at c1
  subst er
  clear HR
  go_enter Tryd.func29,Tryd.ntmps29
  go_wp2_with (go_at_call 54;refine (device_any HP.out d).mono ?_;rintro e w' ⟨⟨vd,rfl,_,_⟩,rfl⟩)
  go_ret2
  exact ⟨rfl,Post.refl HP.out⟩
 ·have hon':m.on=true:=by simpa using hon
  rw [hon'] at c1
  by_cases hd:m.has d
  ·obtain ⟨i,rfl⟩:∃i:Nat,d=(i:Int):=⟨d.toNat,by have:=hd.1;omega⟩
   have hi:i<m.n:=by have:=hd.2;omega
   have HD:Hid (DevIn w c (t,i+1) (gs i) (m.tape i) (m.size i) (m.fl i) (m.wt i)):=HP.out.dev i hi
   have d0:=HD.out.d0
   have d1:=HD.out.d1
   by_cases ht:m.tape i=false
   ·have er:r=(0,31,m):=by rw [HR.out];unfold Pl.append;rw [if_neg hon,if_pos (by simp [ht])]
    subst er
    rw [ht] at d0
    clear HR
    go_enter Tryd.func29,Tryd.ntmps29
    go_wp2_with (go_at_call 54;refine (yI1 HP.out _ i rfl hi).mono ?_;rintro e w' ⟨rfl,rfl⟩)
    go_ret2
    exact ⟨rfl,Post.refl HP.out⟩
   ·have ht':m.tape i=true:=by simpa using ht
    rw [ht'] at d0
    obtain ⟨pv,cv,rfl,_⟩:=hv.shape
    by_cases hl:s.length=64
    ·have hsec:=hv.sec hl
     have HV:Hid (yA2 w (.slice pv 64 cv) s):=by rw [←hl];exact hv
     obtain ⟨L,hL⟩:∃L,L=m.len i:=⟨_,rfl⟩
     have HL:Hid (L=m.len i):=hL
     have hL4:L≤4096:=by rw [hL];exact Pl.len_le hwf i hi
     have hsz:=hwf.sizes i hi
     have e0:¬ ¬ (m.has (i:Int)∧m.tape ((i:Int)).toNat=true):=by simp [hd,ht']
     have e1:¬ s.length≠64:=by simp [hl]
     by_cases hful:m.size i≤L
     ·have er:r=(0,3,m):=by rw [HR.out];unfold Pl.append;rw [if_neg hon,if_neg e0,if_neg e1,if_pos (by simp only [Int.toNat_natCast];omega)]
      subst er
      have t2:decide ((m.size i:Int)≤(L:Int))=true:=by simp;omega
      rw [hl]
      clear HR e0 e1 hl hL hv
      go_enter Tryd.func29,Tryd.ntmps29
      go_upto_region 8 with (go_at_call 54;refine (yI1 HP.out _ i rfl hi).mono ?_;rintro e wd ⟨rfl,rfl⟩)
      go_quiet (first|(go_at_call 55;exact Calls.quiet_of (length_is HP.out hwf (by omega) i hi L HL.out _)))
      go_wp2
      go_ret2
      exact ⟨rfl,Post.same HP.out _ rfl⟩
     ·have t2:decide ((m.size i:Int)≤(L:Int))=false:=by simp;omega
      by_cases hf:m.fuse=0
      ·have er:r=(0,2,m.step):=by rw [HR.out];unfold Pl.append;rw [if_neg hon,if_neg e0,if_neg e1,if_neg (by simp only [Int.toNat_natCast];omega),if_pos hf]
       subst er
       have hok:m.stepOk=false:=by simp [Pl.stepOk,hf]
       rw [hl]
       clear HR e0 e1 hl hL hv
       go_enter Tryd.func29,Tryd.ntmps29
       go_upto_region 8 with (go_at_call 54;refine (yI1 HP.out _ i rfl hi).mono ?_;rintro e wd ⟨rfl,rfl⟩)
       go_quiet (first|(go_at_call 55;exact Calls.quiet_of (length_is HP.out hwf (by omega) i hi L HL.out _)))
       rename_i nq
       go_wp2_with (go_at_call 56;refine (step_any (HP.out.drewN nq) (by omega) hwf.fuse1).mono ?_;rw [hok];rintro e w1 ⟨rfl,h1,hc1⟩)
       go_ret2
       exact ⟨rfl,Post.stepped HP.out h1 (((Ch.refl (· = g) wd).drewN nq).trans hc1)⟩
      ·have er:r=(L,0,m.step.wait i L s):=by rw [HR.out];unfold Pl.append;rw [if_neg hon,if_neg e0,if_neg e1,if_neg (by simp only [Int.toNat_natCast];omega),if_neg hf];simp [hL]
       subst er
       have hok:m.stepOk=true:=by simp [Pl.stepOk,hf]
       rw [hl]
       clear HR e0 e1 hl hL hv
       go_enter Tryd.func29,Tryd.ntmps29
       go_upto_region 8 with (go_at_call 54;refine (yI1 HP.out _ i rfl hi).mono ?_;rintro e wd ⟨rfl,rfl⟩)
       go_quiet (first|(go_at_call 55;exact Calls.quiet_of (length_is HP.out hwf (by omega) i hi L HL.out _)))
       rename_i nq
       go_upto_region 12 with (go_at_call 56;refine (step_any (HP.out.drewN nq) (by omega) hwf.fuse1).mono ?_;rw [hok];rintro e w1 ⟨rfl,h1,hc1⟩)
       have hss:=m.step_steps hf
       have HC:Hid (Ch (· = g) wd w1):=((Ch.refl (· = g) wd).drewN nq).trans hc1
       have H1:Hid (PlantAt w1 c t g db cap gs m.step):=h1
       have HV1:Hid (yA2 w1 (.slice pv 64 cv) s):=HV.out.stepped HP.out HC.out
       have hwl:(m.step.wt i).length<1099511627776:=by
        have:=m.wt_len i
        have:=hwf.few_wts
        rw [m.step_wt]
        omega
       have hi1:i<m.step.n:=by rw [m.step_n];exact hi
       have hwf1:=Pl.step_wf hwf
       have hL1:L=m.step.len i:=by rw [m.step_len];exact HL.out
       have HLN:Hid (Calls Tryd.prog 55 #[ptr (gs i)] w1 fun e w'=>e = .returned (.int .i64 (L:Int))∧∃k,w'=w1.drewN k):=length_is0 h1 hwf1 (by omega) i hi1 L hL1
       obtain ⟨st,hst1⟩:∃st,st=m.steps+1:=⟨_,rfl⟩
       have HC3:Hid (∀k,(w1.drewN k).cell? ⟨g,3,none⟩=some (.int .i64 (st:Int))):=fun k=>by
        have:=(h1.drewN k).c3
        rw [hss,←hst1] at this
        exact this
       have HW:Hid (∀k,Calls Tryd.prog 57 #[ptr (gs i),.int .i64 (st:Int),.int .i64 (L:Int),.slice pv 64 cv] (w1.drewN k) fun e w'=>e = .returned noResult∧∃c',(∀b,b<w1.heap.size→c' b=c b)∧DevIn w' c' (t,i+1) (gs i) (m.step.tape i) (m.step.size i) (m.step.fl i) (m.step.wt i++[⟨i,m.steps+1,L,s⟩])∧Ch (fun b=>c b=(t,i+1)) (w1.drewN k) w'):=fun k=>by
        rw [←hst1]
        exact wait_any ((h1.dev i hi1).drewN k) i st L (by omega) hwl s hsec _ (show yA2 (w1.drewN k) _ s from HV1.out)
       clear h1 hc1 hst1 hL1 hwf1 hwl c1 d0 d1 t2
       go_wp2_with (first|(go_at_call 55;refine HLN.out.mono ?_;rintro e w2 ⟨rfl,k,rfl⟩;have c3:=HC3.out k)|(go_at_call 57;refine (HW.out k).mono ?_;rintro e w2 ⟨rfl,c',hcc,hd2,hc2⟩))
       go_ret2
       exact ⟨rfl,post_wait HP.out HC.out H1.out hf i L s hcc hd2 (((Ch.refl _ w1).drewN k).trans hc2)⟩
    ·have er:r=(0,32,m):=by rw [HR.out];unfold Pl.append;rw [if_neg hon,if_neg (by simp [hd,ht']),if_pos (by simp [hl])]
     subst er
     clear HR
     have t3:((s.length:Int) != 64)=true:=by simp;omega
     go_enter Tryd.func29,Tryd.ntmps29
     go_wp2_with (go_at_call 54;refine (yI1 HP.out _ i rfl hi).mono ?_;rintro e w' ⟨rfl,rfl⟩)
     go_ret2
     exact ⟨rfl,Post.refl HP.out⟩
  ·have er:r=(0,31,m):=by rw [HR.out];unfold Pl.append;rw [if_neg hon,if_pos (by intro hh;exact hd hh.1)]
   subst er
   clear HR
   go_enter Tryd.func29,Tryd.ntmps29
   go_wp2_with (go_at_call 54;refine (device_no HP.out d hd).mono ?_;rintro e w' ⟨rfl,rfl⟩)
   go_ret2
   exact ⟨rfl,Post.refl HP.out⟩
theorem len_any {w:World} {c:Nat→Colour} {t g db cap:Nat} {gs:Nat→Nat} {m:Pl} (h:PlantAt w c t g db cap gs m) (hwf:m.WF) (hst:m.steps<35184372088832) (d:Int) :
  Calls Tryd.prog 33 #[ptr g,.int .i64 d] w fun e w'=>e = .returned (.tuple #[.int .i64 ((if m.has d then m.len d.toNat else 0:Nat):Int),.int .i64 (if m.has d then 0 else 31)])∧∃n,w'=w.drewN n:=by
 by_cases hd:m.has d
 ·rw [if_pos hd,if_pos hd]
  obtain ⟨i,rfl⟩:∃i:Nat,d=(i:Int):=⟨d.toNat,by have:=hd.1;omega⟩
  have hi:i<m.n:=by have:=hd.2;omega
  have HP:Hid (PlantAt w c t g db cap gs m):=h
  rw [Int.toNat_natCast]
  obtain ⟨L,hL⟩:∃L,L=m.len i:=⟨_,rfl⟩
  rw [←hL]
  have HL:Hid (L=m.len i):=hL
  clear h hL
  go_enter Tryd.func33,Tryd.ntmps33
  go_wp2_with (first|(go_at_call 54;refine (yI1 HP.out _ i rfl hi).mono ?_;rintro e wd ⟨rfl,rfl⟩)|(go_at_call 55;refine (length_is0 HP.out hwf hst i hi L HL.out).mono ?_;rintro e w2 ⟨rfl,k,rfl⟩))
  go_ret2
  exact ⟨rfl,k,rfl⟩
 ·rw [if_neg hd,if_neg hd]
  have HP:Hid (PlantAt w c t g db cap gs m):=h
  clear h
  go_enter Tryd.func33,Tryd.ntmps33
  go_wp2_with (go_at_call 54;refine (device_no HP.out d hd).mono ?_;rintro e w' ⟨rfl,rfl⟩)
  go_ret2
  exact ⟨rfl,0,rfl⟩
end Go.Proofs.YtpkkkkomdblpoaaDoor

namespace Go.Proofs.YtpkkkkomdblpoaaDoor
open Go.RowKit Go.Maps
section
variable {w:World} {ops:Array Oper} {rest:List Oper} {o:Oper} {a:Act} {Q:Exit→Act→World→Prop}
def yB9 (f:Nat):Prop := ∀args w,(callFunc f args).run Tryd.prog w = .ok (.enter f args) w
theorem en49:yB9 59:=Go.Proofs.enters_of Tryd.func59 (by kernel_rfl) rfl
theorem yC2 {f:Nat} (ef:yB9 f) (xs:List Operand) (ts:Array TypeId) (ho:o.op = .call { callee:=.value (.func f),args:=xs.toArray,argTypes:=ts }) (vs:List Value) (hv:xs.map a.eval=vs):(execOp a.eval o).run Tryd.prog w = .ok (.enter f vs.toArray) w:=by
 subst hv
 have hen:=ef (xs.map a.eval).toArray w
 simp [execOp,ho,resolve,BigFrame.eval_func,Deferred.ofValue,invoke,hen]
theorem wpList_callF {f:Nat} (ef:yB9 f) (xs:List Operand) (ts:Array TypeId) (hgd:o.guard=none) (ho:o.op = .call { callee:=.value (.func f),args:=xs.toArray,argTypes:=ts }) (vs:List Value) (hv:xs.map a.eval=vs)
  (h:Calls Tryd.prog f vs.toArray w fun e w' => ∃v,e = .returned v∧wpList Tryd.prog ops Q rest (a.put o.dst v) w'):wpList Tryd.prog ops Q (o :: rest) a w :=
 wpList_plain hgd fun K hK=>by
  unfold Oper.wp
  rw [yC2 ef xs ts ho vs hv]
  refine h.mono fun e w' he => ?_
  obtain ⟨v,rfl,hw⟩:=he
  exact hK _ _ hw
theorem run_make64 (w:World):(Instr.makeSlice 38 (.int .i64 64) (.int .i64 64)).run Tryd.prog w = .ok (.slice (some ⟨w.heap.size,0,none⟩) 64 64) (w.alloc (.cells (yB4 64).toArray 5)):=by kernel_rfl
theorem wpList_make64 (x y:Operand) (hgd:o.guard=none) (ho:o.op = .makeSlice 38 x y) (hx:a.eval x = .int .i64 64) (hy:a.eval y = .int .i64 64)
  (h:∀w',Row w' w.heap.size 5 (yB4 64)→w'.heap.size=w.heap.size+1→Below w.heap.size w w'→wpList Tryd.prog ops Q rest (a.put o.dst (.slice (some ⟨w.heap.size,0,none⟩) 64 64)) w'):wpList Tryd.prog ops Q (o :: rest) a w :=
 yB1 hgd _ _ (by simp [execOp,ho,hx,hy,run_make64]) (h (w.alloc (.cells (yB4 64).toArray 5)) (Row.new w 5 (yB4 64)) (by simp) ((Below.refl _ _).alloc (Nat.le_refl _) _))
end
theorem Pl.rd_sec {m:Pl} (h:m.WF) (i p:Nat):Sec (m.rd i p):=by
 unfold Pl.rd
 cases hl:lastAt (m.wt i) p with
 | none =>
  show Sec ((m.fl i).getD p zeros)
  by_cases hp:p<(m.fl i).length
  ·rw [List.getD_eq_getElem?_getD,List.getElem?_eq_getElem hp]
   exact h.secs i _ (List.getElem_mem hp)
  ·rw [List.getD_eq_getElem?_getD,List.getElem?_eq_none (by omega)]
   exact sec_zero
 | some b =>
  show Sec b
  unfold lastAt at hl
  cases hj:lastIdx (m.wt i) p with
  | none=>rw [hj] at hl;cases hl
  | some j =>
   rw [hj] at hl
   simp only [Option.bind_some,Option.map_eq_some_iff] at hl
   obtain ⟨x,hx,rfl⟩:=hl
   exact h.wsec x (Pl.wt_mem (List.mem_of_getElem? hx)).1
theorem lastR_hit:∀(l:List Wr) (p:Nat),(∃x∈l,x.place=p)→(lastR l p).isSome=true
 | [],_,h=>by obtain ⟨x,hx,_⟩:=h;simp at hx
 | y :: r,p,h=>by
  unfold lastR
  split
  ·rfl
  ·rename_i hn
   obtain ⟨x,hx,hp⟩:=h
   rcases List.mem_cons.1 hx with rfl|hx
   ·exact absurd hp hn
   ·exact lastR_hit r p ⟨x,hx,hp⟩
theorem Pl.there {m:Pl} (h:m.WF) (i p:Nat) (hi:i<m.n) (hp:p<m.len i):p<(m.fl i).length∨(lastIdx (m.wt i) p).isSome=true:=by
 unfold Pl.len at hp
 split at hp
 ·rename_i ht
  by_cases hl:p<(m.fl i).length
  ·exact Or.inl hl
  ·refine Or.inr (lastR_hit _ _ ?_)
   have hj:p - (m.fl i).length<(m.wt i).length:=by omega
   refine ⟨_,List.mem_reverse.2 (List.getElem_mem hj),?_⟩
   have:=(h.tapes i hi ht).2 (p - (m.fl i).length) _ (List.getElem?_eq_getElem hj)
   omega
 ·rename_i ht
  left
  rw [h.disk i hi (by simpa using ht)]
  exact hp
set_option maxHeartbeats 400000 in
set_option maxRecDepth 100000 in
theorem readP_any {w:World} {c:Nat→Colour} {t g db cap:Nat} {gs:Nat→Nat} {m:Pl} (h:PlantAt w c t g db cap gs m) (hwf:m.WF) (hst:m.steps<35184372088832) (hon:m.on=true) (i p:Nat) (hi:i<m.n) (hp:p<m.len i) :
  Calls Tryd.prog 32 #[ptr g,.int .i64 (i:Int),.int .i64 (p:Int)] w fun e w' => ∃b,e = .returned (.tuple #[.slice (some ⟨b,0,none⟩) 64 64,.int .i64 0])∧w.heap.size≤b∧Row w' b 5 (yA0 (m.rd i p))∧Below w.heap.size w w':=by
 have c1:=h.c1
 rw [hon] at c1
 obtain ⟨L,hL⟩:∃L,L=m.len i:=⟨_,rfl⟩
 rw [←hL] at hp
 obtain ⟨s,hs⟩:∃s,s=m.rd i p:=⟨_,rfl⟩
 rw [←hs]
 have hsec:Sec s:=by rw [hs];exact Pl.rd_sec hwf i p
 have hL4:L≤4096:=by rw [hL];exact Pl.len_le hwf i hi
 have hlen:(yA0 s).length=64:=by rw [yA1];exact hsec.1
 have HP:Hid (PlantAt w c t g db cap gs m):=h
 have HL:Hid (L=m.len i):=hL
 have HS:Hid (s=m.rd i p):=hs
 have t1:decide ((p:Int)<0)=false:=by simp
 have t2:decide ((L:Int)≤(p:Int))=false:=by simp;omega
 have t3:decide (L≤p)=false:=by simp;omega
 clear h hL hs
 go_enter Tryd.func32,Tryd.ntmps32
 go_upto_region 6 with (first|(go_at_call 54;refine (yI1 HP.out _ i rfl hi).mono ?_;rintro e wd ⟨rfl,rfl⟩)|(go_at_call 55;refine (length_is0 HP.out hwf hst i hi L HL.out).mono ?_;rintro e w2 ⟨rfl,k,rfl⟩))
 refine wp_region_lit ?_
 refine yC7 (.tmp 8) rfl rfl (ptr (gs i)) rfl ?_
 refine yC7 (.tmp 2) rfl rfl (.int .i64 (p:Int)) rfl ?_
 simp only [Act.put,aS,aC,aZ]
 refine wpList_callF en49 [.tmp 33,.tmp 34] _ rfl rfl [ptr (gs i),.int .i64 (p:Int)] rfl ?_
 have hrd:=read_any ((HP.out.dev i hi).drewN k) p (by omega) (fun x hx=>(hwf.wsec x (Pl.wt_mem hx).1).1) (Pl.there hwf i p hi (by rw [←HL.out];exact hp)) (fun x hx=>(hwf.secs i x hx).1) s HS.out.symm
 refine hrd.mono ?_
 clear hrd
 rintro e w3 ⟨rfl,b3⟩
 refine ⟨_,rfl,?_⟩
 simp only [Act.put,aS,aC,aZ]
 refine yH5 agg84 _ zero84 rfl rfl rfl rfl rfl (.tmp 35) rfl (yA0 s) hlen rfl (yB0 s) (fun _=>rfl) (fun _=>rfl) ?_
 intro w4 r4 s4 b4
 refine wpList_nil ?_
 simp only [Act.put,aS,aC,aZ]
 obtain ⟨q,hq⟩:∃q,q=w3.heap.size:=⟨_,rfl⟩
 rw [←hq] at r4 s4 b4 ⊢
 have HB4:Hid (Below wd.heap.size wd w4∧wd.heap.size≤q):=by
  have hb3:Below wd.heap.size wd w3:=(Below.drewN (Below.refl _ wd) k).trans b3
  have:=b3.size
  have e:(wd.drewN k).heap.size=wd.heap.size:=rfl
  exact ⟨hb3.trans (b4.mono (by omega)),by omega⟩
 clear b4 b3 hq
 go_upto_region 7 with fail
 refine wp_region_lit ?_
 refine wpList_make64 _ _ rfl rfl rfl rfl ?_
 intro w5 r5 s5 b5
 refine yE3 (.tmp 36) rfl rfl _ rfl ?_
 refine wpList_nil ?_
 simp only [Act.put,aS,aC,aZ]
 obtain ⟨q2,hq2⟩:∃q2,q2=w4.heap.size:=⟨_,rfl⟩
 rw [←hq2] at r5 s5 b5 ⊢
 have r45:Row w5 q 114 (yA0 s):=r4.later b5 (by omega)
 have HB5:Hid (Below wd.heap.size wd w5∧wd.heap.size≤q2∧q<q2):=by
  have:=HB4.out.1.size
  exact ⟨HB4.out.1.trans (b5.mono (by omega)),by omega,by omega⟩
 clear b5 s5 s4 r4 hq2 HB4
 go_upto_region 8 with fail
 refine wp_region_lit ?_
 refine yC7 (.tmp 10) rfl rfl (.slice (some ⟨q2,0,none⟩) 64 64) rfl ?_
 refine wpList_slice84 (.tmp 9) rfl rfl q 0 rfl ?_
 simp only [Act.put,aS,aC,aZ]
 refine yH8 (.tmp 37) (.tmp 38) rfl rfl q2 0 64 64 q 0 64 64 5 64 rfl rfl _ r5 s hsec.1 rfl (fun j hj => ?_) (by simp [yB4]) ?_
 ·rw [Nat.zero_add,r45.cell]
  exact yC3 s j hj
 intro w6 r6 s6 ch6
 refine wpList_nil ?_
 simp only [Act.put,aS,aC,aZ]
 rw [yB5 _ _ (by rw [hlen];simp [yB4])] at r6
 have HB6:Hid (Below wd.heap.size wd w6∧wd.heap.size≤q2):=⟨HB5.out.1.trans (ch6.below HB5.out.1.size (fun b hb e=>by have:=HB5.out.2.1;omega)),HB5.out.2.1⟩
 have R6:Hid (Row w6 q2 5 (yA0 s)):=r6
 clear r6 s6 ch6 r5 r45 HB5
 go_wp2
 go_ret2
 exact ⟨q2,rfl,HB6.out.2,R6.out,HB6.out.1⟩
theorem readN_any {w:World} {c:Nat→Colour} {t g db cap:Nat} {gs:Nat→Nat} {m:Pl} (h:PlantAt w c t g db cap gs m) (hwf:m.WF) (hst:m.steps<35184372088832) (d p:Int) (hno:¬ (m.on=true∧m.has d∧0≤p∧p<(m.len d.toNat:Int))) :
  Calls Tryd.prog 32 #[ptr g,.int .i64 d,.int .i64 p] w fun e w'=>e = .returned (.tuple #[.slice none 0 0,.int .i64 (if m.on then 31 else 2)])∧∃n,w'=w.drewN n:=by
 have c1:=h.c1
 have HP:Hid (PlantAt w c t g db cap gs m):=h
 clear h
 by_cases hon:m.on=false
 ·rw [hon] at c1 ⊢
  go_enter Tryd.func32,Tryd.ntmps32
  go_wp2_with (go_at_call 54;refine (device_any HP.out d).mono ?_;rintro e w' ⟨⟨vd,rfl,_,_⟩,rfl⟩)
  go_ret2
  exact ⟨rfl,0,rfl⟩
 ·have hon':m.on=true:=by simpa using hon
  rw [hon'] at c1 ⊢
  by_cases hd:m.has d
  ·obtain ⟨i,rfl⟩:∃i:Nat,d=(i:Int):=⟨d.toNat,by have:=hd.1;omega⟩
   have hi:i<m.n:=by have:=hd.2;omega
   rw [Int.toNat_natCast] at hno
   obtain ⟨L,hL⟩:∃L,L=m.len i:=⟨_,rfl⟩
   have HL:Hid (L=m.len i):=hL
   have hL4:L≤4096:=by rw [hL];exact Pl.len_le hwf i hi
   by_cases hp0:p<0
   ·have t1:decide (p<0)=true:=by simpa using hp0
    clear hL hno
    go_enter Tryd.func32,Tryd.ntmps32
    go_wp2_with (go_at_call 54;refine (yI1 HP.out _ i rfl hi).mono ?_;rintro e w' ⟨rfl,rfl⟩)
    go_ret2
    exact ⟨rfl,0,rfl⟩
   ·have t1:decide (p<0)=false:=by simpa using hp0
    have t2:decide ((L:Int)≤p)=true:=by
     simp only [decide_eq_true_eq]
     rw [hL]
     have:¬ p<(m.len i:Int):=fun hh=>hno ⟨hon',hd,by omega,hh⟩
     omega
    clear hL hno
    go_enter Tryd.func32,Tryd.ntmps32
    go_wp2_with (first|(go_at_call 54;refine (yI1 HP.out _ i rfl hi).mono ?_;rintro e wd ⟨rfl,rfl⟩)|(go_at_call 55;refine (length_is0 HP.out hwf hst i hi L HL.out).mono ?_;rintro e w2 ⟨rfl,k,rfl⟩))
    go_ret2
    exact ⟨rfl,k,rfl⟩
  ·go_enter Tryd.func32,Tryd.ntmps32
   go_wp2_with (go_at_call 54;refine (device_no HP.out d hd).mono ?_;rintro e w' ⟨rfl,rfl⟩)
   go_ret2
   exact ⟨rfl,0,rfl⟩
end Go.Proofs.YtpkkkkomdblpoaaDoor

namespace Go.Proofs.YtpkkkkomdblpoaaDoor
open Go.RowKit Go.Maps
theorem yJ6 (tape:Bool) (fl:List (List Nat)) (p:Nat) (b:List Nat):(lay tape fl p b).length=if tape then fl.length+1 else fl.length:=by
 unfold lay
 cases tape <;> simp
theorem layAll_snoc (tape:Bool) (fl:List (List Nat)) (l:List Wr) (x:Wr):layAll tape fl (l++[x])=lay tape (layAll tape fl l) x.place x.b:=by simp [layAll]
theorem layAll_length (tape:Bool) (fl:List (List Nat)) (l:List Wr):(layAll tape fl l).length=if tape then fl.length+l.length else fl.length:=by
 induction l generalizing fl with
 | nil=>cases tape <;> simp [layAll]
 | cons x l ih =>
  have:layAll tape fl (x :: l)=layAll tape (lay tape fl x.place x.b) l:=rfl
  rw [this,ih,yJ6]
  cases tape
  ·simp
  ·simp;omega
theorem take_next (l:List Wr) (n:Nat) (x:Wr) (h:l[n]? = some x):l.take (n+1)=l.take n++[x]:=by
 obtain ⟨hn,rfl⟩:=List.getElem?_eq_some_iff.1 h
 exact List.take_succ_eq_append_getElem hn
theorem FlIn.lay {w':World} {b:Nat} {tape:Bool} {fl:List (List Nat)} {f:Nat→Option (List Nat)} {n p:Nat} {s:List Nat} (hf:∀q,q<fl.length→(f q).getD zeros=fl.getD q zeros) (hft:tape=true→n=fl.length∧∀q,(f q).isSome=decide (q<fl.length))
  (hp:if tape then p=fl.length else p<fl.length) (hm:MapAt secs w' b (if (f p).isSome then n else n+1) (fun q=>if q=p then some s else f q)):FlIn w' b tape (Go.Proofs.YtpkkkkomdblpoaaDoor.lay tape fl p s):=by
 refine ⟨_,_,hm,fun q hq => ?_,fun ht => ?_⟩
 ·rw [yJ6] at hq
  cases tape with
  | true =>
   simp only [if_true] at hp hq
   subst hp
   show (if q=fl.length then some s else f q).getD zeros=(fl++[s]).getD q zeros
   by_cases e:q=fl.length
   ·simp [e]
   ·rw [if_neg e,hf q (by omega)]
    simp [List.getElem?_append_left (show q<fl.length by omega)]
  | false =>
   simp only [Bool.false_eq_true,if_false] at hp hq
   show (if q=p then some s else f q).getD zeros=(fl.set p s).getD q zeros
   by_cases e:q=p
   ·subst e
    simp [hp]
   ·rw [if_neg e,hf q hq]
    simp [List.getElem?_set_ne (Ne.symm e)]
 ·subst ht
  simp only [if_true] at hp
  obtain ⟨hn,his⟩:=hft rfl
  have hpf:(f p).isSome=false:=by rw [his p,hp];simp
  refine ⟨by rw [hpf,yJ6];simp [hn],fun q => ?_⟩
  rw [yJ6]
  by_cases e:q=p
  ·rw [if_pos e,e,hp]
   simp
  ·rw [if_neg e,his q]
   simp only [if_true]
   congr 1
   simp only [eq_iff_iff]
   omega
theorem wpList_makeMap {w:World} {ops:Array Oper} {rest:List Oper} {o:Oper} {a:Act} {Q:Exit→Act→World→Prop} {t:Nat} (hgd:o.guard=none) (ho:o.op = .makeMap t none) (v:Value) (w':World) (hrun:(Instr.makeMap t none).run Tryd.prog w = .ok v w')
  (h:wpList Tryd.prog ops Q rest (a.put o.dst v) w'):wpList Tryd.prog ops Q (o :: rest) a w :=
 yB1 hgd v w' (by simp [execOp,ho,hrun]) h
def DevAt (w:World) (c:Nat→Colour) (k:Colour) (g bm bl:Nat) (v:Value) (tape:Bool) (size:Nat) (fl:List (List Nat)) (wt:List Wr):Prop :=
 Row w g 125 [.bool tape,.int .i64 (size:Nat),.map (some bm),v,.map (some bl)]∧c g=k∧c bm=k∧c bl=k∧bm≠bl∧FlIn w bm tape fl∧WtIn w c k v wt∧LtIn w bl wt
set_option maxHeartbeats 400000 in
set_option maxRecDepth 100000 in
theorem noMore_any {w:World} {c:Nat→Colour} {k:Colour} {g:Nat} {tape:Bool} {size:Nat} {fl:List (List Nat)} {wt:List Wr} (h:DevIn w c k g tape size fl wt) :
  Calls Tryd.prog 53 #[ptr g] w fun e w'=>e = .returned noResult∧∃c',(∀b,b<w.heap.size→c' b=c b)∧DevIn w' c' k g tape size fl []∧Ch (fun b=>c b=k) w w':=by
 obtain ⟨bm,bl,v,hr,cg,cm,cl,hne,hfl,hwi,hlt⟩:=h
 obtain ⟨w1,hw1⟩:∃w1,w1=w.alloc (.map #[] 0):=⟨_,rfl⟩
 obtain ⟨q,hq⟩:∃q,q=w.heap.size:=⟨_,rfl⟩
 have hmm:(Instr.makeMap 123 none).run Tryd.prog w = .ok (.map (some q)) w1:=by rw [hw1,hq];exact run_makeMap 123 w
 have r1:Row w1 g 125 [.bool tape,.int .i64 (size:Nat),.map (some bm),v,.map (some bl)]:=by rw [hw1];exact hr.alloc _
 have m1:MapAt ints w1 q 0 (fun _=>none):=by rw [hw1,hq];exact MapAt.made ints w
 have f1:FlIn w1 bm tape fl:=hfl.kept (by rw [hw1];exact Below.heap_alloc _ _ _ hfl.lt)
 have s1:w1.heap.size=q+1:=by rw [hw1,hq];simp
 have ch1:Ch (fun b=>c b=k) w w1:=by rw [hw1];exact (Ch.refl _ w).alloc _
 have hgq:g<q:=by rw [hq];exact hr.lt
 have hmq:bm<q:=by rw [hq];exact hfl.lt
 have hmg:bm≠g:=by
  obtain ⟨f,n,hm,_⟩:=f1
  exact hm.ne_row r1
 clear hwi hlt hr hfl
 go_enter Tryd.func53,Tryd.ntmps53
 go_upto_region 0 with fail
 refine wp_region_lit ?_
 refine yC7 (.tmp 0) rfl rfl (ptr g) rfl ?_
 refine yC7 (.tmp 0) rfl rfl (ptr g) rfl ?_
 simp only [Act.put,aS,aC,aZ]
 refine wpList_makeMap rfl rfl _ _ hmm ?_
 refine yE8 (.tmp 2) rfl rfl _ rfl ?_
 simp only [Act.put,aS,aC,aZ]
 refine yF3 f76_3 (.tmp 5) rfl rfl g 0 rfl ?_
 simp only [Act.put,aS,aC,aZ]
 refine yG7 size73 (.tmp 6) (.const (.slice none 0 0)) rfl rfl rfl g (0+3) 125 rfl (.slice none 0 0) _ rfl rfl rfl r1 (by simp) ?_
 obtain ⟨w2,hw2⟩:∃w2,w2=w1.setRow g (([.bool tape,.int .i64 (size:Nat),.map (some bm),v,.map (some bl)]:List Value).set (0+3) (.slice none 0 0)).toArray:=⟨_,rfl⟩
 rw [←hw2]
 have r2:Row w2 g 125 [.bool tape,.int .i64 (size:Nat),.map (some bm),.slice none 0 0,.map (some bl)]:=by rw [hw2];exact r1.setRow _
 have k2:∀b,b≠g→w2.heap[b]? = w1.heap[b]?:=fun b hb=>by rw [hw2];exact Go.setRow_other w1 g b _ hb
 have ch2:Ch (fun b=>c b=k) w w2:=by rw [hw2];exact ch1.setRow (Or.inl cg) _
 clear hw2 r1 ch1
 refine yE8 (.tmp 3) rfl rfl _ rfl ?_
 simp only [Act.put,aS,aC,aZ]
 refine yF3 f76_4 (.tmp 7) rfl rfl g 0 rfl ?_
 simp only [Act.put,aS,aC,aZ]
 refine yG7 size74 (.tmp 8) (.tmp 4) rfl rfl rfl g (0+4) 125 rfl (.map (some q)) _ rfl rfl rfl r2 (by simp) ?_
 obtain ⟨w3,hw3⟩:∃w3,w3=w2.setRow g (([.bool tape,.int .i64 (size:Nat),.map (some bm),.slice none 0 0,.map (some bl)]:List Value).set (0+4) (.map (some q))).toArray:=⟨_,rfl⟩
 rw [←hw3]
 have r3:Row w3 g 125 [.bool tape,.int .i64 (size:Nat),.map (some bm),.slice none 0 0,.map (some q)]:=by rw [hw3];exact r2.setRow _
 have k3:∀b,b≠g→w3.heap[b]? = w1.heap[b]?:=fun b hb=>by rw [hw3];exact (Go.setRow_other w2 g b _ hb).trans (k2 b hb)
 have ch3:Ch (fun b=>c b=k) w w3:=by rw [hw3];exact ch2.setRow (Or.inl cg) _
 have HE:Hid (∃c',(∀b,b<w.heap.size→c' b=c b)∧DevIn w3 c' k g tape size fl []∧Ch (fun b=>c b=k) w w3):=by
  refine ⟨paint c q k,fun b hb=>yH9 c _ k b (by omega),⟨bm,q,_,r3,?_,?_,?_,by omega,f1.kept (k3 bm hmg),⟨⟨rfl,Or.inl ⟨rfl,rfl⟩⟩,fun b hb=>by cases hb⟩,⟨0,?_⟩⟩,ch3⟩
  ·rw [yH9 c q k g hgq,cg]
  ·rw [yH9 c q k bm hmq,cm]
  ·exact paint_new c q k q (Nat.le_refl _)
  ·exact m1.kept (k3 q (by omega))
 refine wpList_nil ?_
 clear hw3 r3 k3 ch3 k2 ch2 r2 f1 m1 s1
 go_wp2
 go_end0
 exact ⟨rfl,HE.out⟩
section
variable {w w':World} {c:Nat→Colour} {k:Colour} {g bm bl:Nat} {v:Value} {tape:Bool} {size:Nat} {fl:List (List Nat)} {wt:List Wr}
theorem DevAt.devIn (h:DevAt w c k g bm bl v tape size fl wt):DevIn w c k g tape size fl wt:=⟨bm,bl,v,h⟩
theorem DevAt.kept {c':Nat→Colour} (h:DevAt w c k g bm bl v tape size fl wt) (hb:∀b,b<w.heap.size→c b=k→w'.heap[b]? = w.heap[b]?∧c' b=k):DevAt w' c' k g bm bl v tape size fl wt:=by
 obtain ⟨hr,hg,hm,hl,hne,h1,h2,h3⟩:=h
 refine ⟨?_,(hb g hr.lt hg).2,(hb bm h1.lt hm).2,(hb bl h3.lt hl).2,hne,h1.kept (hb bm h1.lt hm).1,h2.kept hb,h3.kept (hb bl h3.lt hl).1⟩
 unfold Row
 rw [(hb g hr.lt hg).1]
 exact hr
theorem DevAt.below (h:DevAt w c k g bm bl v tape size fl wt) (hb:Below w.heap.size w w'):DevAt w' c k g bm bl v tape size fl wt:=h.kept fun b hlt hk=>⟨hb.block b hlt,hk⟩
theorem DevAt.flushed {fl':List (List Nat)} (h:DevAt w c k g bm bl v tape size fl wt) (ht:w.mapTurned w' bm) (hf:FlIn w' bm tape fl'):DevAt w' c k g bm bl v tape size fl' wt:=by
 obtain ⟨hr,hg,hm,hl,hne,h1,h2,h3⟩:=h
 have hb:∀b,b<w.heap.size→b≠bm→w'.heap[b]? = w.heap[b]?:=fun b hlt hne=>ht.grown.block b hlt (by simpa using hne)
 have hmg:bm≠g:=by
  obtain ⟨f,n,hm,_⟩:=h1
  exact hm.ne_row hr
 refine ⟨?_,hg,hm,hl,hne,hf,⟨ownsRow_kept h2.1 fun b hob => ?_,h2.2⟩,h3.kept (hb bl h3.lt (Ne.symm hne))⟩
 ·unfold Row
  rw [hb g hr.lt (Ne.symm hmg)]
  exact hr
 ·obtain ⟨hlt,cur,hc⟩:=ownBlock_lt h2.1 hob
  refine hb b hlt ?_
  rintro rfl
  obtain ⟨f,n,⟨D,⟨es,clock,h1,_⟩,_⟩,_⟩:=h1
  rw [h1] at hc
  cases hc
end
def PlaceOk (tape:Bool) (fl:List (List Nat)) (p:Nat):Prop:=if tape then p=fl.length else p<fl.length
theorem Pl.placeOk {m:Pl} (h:m.WF) (i:Nat) (hi:i<m.n) (n:Nat) (x:Wr) (hx:(m.wt i)[n]? = some x):PlaceOk (m.tape i) (layAll (m.tape i) (m.fl i) ((m.wt i).take n)) x.place:=by
 have hn:=(List.getElem?_eq_some_iff.1 hx).1
 have hm:=Pl.wt_mem (List.mem_of_getElem? hx)
 unfold PlaceOk
 rw [layAll_length]
 by_cases ht:m.tape i=true
 ·rw [ht]
  simp only [if_true,List.length_take]
  rw [(h.tapes i hi ht).2 n x hx]
  omega
 ·have ht':m.tape i=false:=by simpa using ht
  rw [ht']
  simp only [Bool.false_eq_true,if_false]
  have:=(h.wdev x hm.1).2.1
  rw [hm.2] at this
  rw [h.disk i hi ht']
  exact this
theorem post_flush {w w1 w2:World} {c c':Nat→Colour} {t g db cap:Nat} {gs:Nat→Nat} {m:Pl} (h:PlantAt w c t g db cap gs m) (hc:Ch (· = g) w w1) (h1:PlantAt w1 c t g db cap gs m.step) (i:Nat)
  (hcc:∀b,b<w1.heap.size→c' b=c b) (hd:DevIn w2 c' (t,i+1) (gs i) (m.step.tape i) (m.step.size i) (layAll (m.step.tape i) (m.step.fl i) (m.step.wt i)) []) (hc2:Ch (fun b=>c b=(t,i+1)) w1 w2):Post w c t g db cap gs (m.step.flushed i) w2:=by
 refine Post.device (m1:=m.step) (m2:=m.step.flushed i) h1 (hc.mono fun b _ e=>by rw [e,h.cg]) i ?_ (fun j hj=>⟨?_,?_⟩) ?_ c' hcc hc2 ?_
 ·unfold Pl.flushed;rfl
 ·unfold Pl.flushed upd;simp [hj]
 ·rw [Pl.wt_flushed,if_neg hj]
 ·unfold Pl.flushed;exact ⟨rfl,rfl,rfl,rfl⟩
 ·rw [Pl.wt_flushed,if_pos rfl]
  have e:(m.step.flushed i).fl i=layAll (m.step.tape i) (m.step.fl i) (m.step.wt i):=by unfold Pl.flushed upd;simp
  rw [e]
  exact hd
set_option maxHeartbeats 600000 in
set_option maxRecDepth 100000 in
theorem flush_any {w:World} {c:Nat→Colour} {t g db cap:Nat} {gs:Nat→Nat} {m:Pl} (h:PlantAt w c t g db cap gs m) (hwf:m.WF) (hst:m.steps<35184372088832) (d:Int) :
  Calls Tryd.prog 30 #[ptr g,.int .i64 d] w fun e w'=>e = .returned (.int .i64 (m.flush d).1)∧Post w c t g db cap gs (m.flush d).2 w':=by
 obtain ⟨r,hr⟩:∃r,r=m.flush d:=⟨_,rfl⟩
 rw [←hr]
 have c1:=h.c1
 have HP:Hid (PlantAt w c t g db cap gs m):=h
 have HR:Hid (r=m.flush d):=hr
 clear h hr
 by_cases hon:m.on=false
 ·have er:r=(2,m):=by rw [HR.out];unfold Pl.flush;rw [if_pos hon]
  rw [hon] at c1
  subst er
  clear HR
  go_enter Tryd.func30,Tryd.ntmps30
  go_wp2_with (go_at_call 54;refine (device_any HP.out d).mono ?_;rintro e w' ⟨⟨vd,rfl,_,_⟩,rfl⟩)
  go_ret
  exact ⟨rfl,Post.refl HP.out⟩
 ·have hon':m.on=true:=by simpa using hon
  rw [hon'] at c1
  by_cases hd:m.has d
  ·obtain ⟨i,rfl⟩:∃i:Nat,d=(i:Int):=⟨d.toNat,by have:=hd.1;omega⟩
   have hi:i<m.n:=by have:=hd.2;omega
   by_cases hf:m.fuse=0
   ·have er:r=(2,m.step):=by rw [HR.out];unfold Pl.flush;rw [if_neg hon,if_neg (by simp [hd]),if_pos hf]
    subst er
    have hok:m.stepOk=false:=by simp [Pl.stepOk,hf]
    clear HR
    go_enter Tryd.func30,Tryd.ntmps30
    go_wp2_with (first|(go_at_call 54;refine (yI1 HP.out _ i rfl hi).mono ?_;rintro e wd ⟨rfl,rfl⟩)|(go_at_call 56;refine (step_any HP.out (by omega) hwf.fuse1).mono ?_;rw [hok];rintro e w1 ⟨rfl,h1,hc1⟩))
    go_ret
    exact ⟨rfl,Post.stepped HP.out h1 hc1⟩
   ·have er:r=(0,m.step.flushed i):=by rw [HR.out];unfold Pl.flush;rw [if_neg hon,if_neg (by simp [hd]),if_neg hf];simp
    subst er
    have hok:m.stepOk=true:=by simp [Pl.stepOk,hf]
    clear HR
    go_enter Tryd.func30,Tryd.ntmps30
    go_upto_region 8 with (first|(go_at_call 54;refine (yI1 HP.out _ i rfl hi).mono ?_;rintro e wd ⟨rfl,rfl⟩)|(go_at_call 56;refine (step_any HP.out (by omega) hwf.fuse1).mono ?_;rw [hok];rintro e w1 ⟨rfl,h1,hc1⟩))
    have HC:Hid (Ch (· = g) wd w1):=hc1
    have H1:Hid (PlantAt w1 c t g db cap gs m.step):=h1
    have hi1:i<m.step.n:=by rw [m.step_n];exact hi
    have HWF:Hid m.step.WF:=Pl.step_wf hwf
    obtain ⟨bm,bl,v,hdev⟩:=h1.dev i hi1
    obtain ⟨pv,cv,hv⟩:=WtIn.shape hdev.2.2.2.2.2.2.1
    subst hv
    obtain ⟨L,hL⟩:∃L,L=(m.step.wt i).length:=⟨_,rfl⟩
    rw [←hL] at hdev
    have HL:Hid (L=(m.step.wt i).length):=hL
    have hwl:L<1099511627776:=by
     have:=m.wt_len i
     have:=hwf.few_wts
     rw [hL,m.step_wt]
     omega
    have HD:Hid (DevAt w1 c (t,i+1) (gs i) bm bl (.slice pv L cv) (m.step.tape i) (m.step.size i) (m.step.fl i) (m.step.wt i)):=hdev
    have c3:=hdev.1.at 3 _ rfl
    clear hc1 h1 hdev hL c1
    go_wp2
    go_loopw [29] (fun ix W => ∃n:Nat,n≤L∧ix = .int .i64 n∧DevAt W c (t,i+1) (gs i) bm bl (.slice pv L cv) (m.step.tape i) (m.step.size i) (layAll (m.step.tape i) (m.step.fl i) ((m.step.wt i).take n)) (m.step.wt i)∧Ch (fun b=>c b=(t,i+1)) w1 W) (fun ix _=>L - (intOf ix).toNat)
    case atStart=>exact ⟨0,Nat.zero_le _,rfl,HD.out,Ch.refl _ _⟩
    case round =>
     obtain ⟨n,hn,rfl,hdv,hch⟩:=hrel
     by_cases hlt:n<L
     ·obtain ⟨x,hx⟩:∃x,(m.step.wt i)[n]? = some x:=⟨_,List.getElem?_eq_getElem (by rw [←HL.out];exact hlt)⟩
      have hmem:=Pl.wt_mem (List.mem_of_getElem? hx)
      have hxs:Sec x.b:=HWF.out.wsec x hmem.1
      have hxl:x.b.length=64:=hxs.1
      have hp4:x.place<4096:=by
       have h1:=HWF.out.wdev x hmem.1
       have h2:=HWF.out.sizes x.dev h1.1
       omega
      obtain ⟨b,cv',hv,_,hcl⟩:=hdv.2.2.2.2.2.2.1.cells (fun y hy=>(HWF.out.wsec y (Pl.wt_mem hy).1).1) (by intro e;rw [e] at hx;simp at hx)
      injection hv with hv1 hv2 hv3
      subst hv1
      have hcx:∀j u,(yC5 x)[j]? = some u→wr.cell? ⟨b,0+n * 66+j,none⟩=some u:=fun j u hu=>by
       rw [Nat.zero_add]
       exact hcl n x hx j u hu
      have HPL:Hid (PlaceOk (m.step.tape i) (layAll (m.step.tape i) (m.step.fl i) ((m.step.wt i).take n)) x.place):=Pl.placeOk HWF.out i hi1 n x hx
      have HTK:Hid (layAll (m.step.tape i) (m.step.fl i) ((m.step.wt i).take (n+1))=lay (m.step.tape i) (layAll (m.step.tape i) (m.step.fl i) ((m.step.wt i).take n)) x.place x.b):=by
       rw [take_next _ n x hx,layAll_snoc]
       exact rfl
      have HDV:Hid (DevAt wr c (t,i+1) (gs i) bm bl (.slice (some ⟨b,0,none⟩) L cv) (m.step.tape i) (m.step.size i) (layAll (m.step.tape i) (m.step.fl i) ((m.step.wt i).take n)) (m.step.wt i)):=hdv
      have HCH:Hid (Ch (fun b=>c b=(t,i+1)) w1 wr):=hch
      have tlt:decide ((n:Int)<(L:Int))=true:=by simp;omega
      clear hdv hch hcl hx hv2 hv3 c3
      go_upto_region 10 with fail
      refine wp_region_lit ?_
      refine yI8 und73 size87 (.tmp 27) (.tmp 29) rfl rfl b 0 L cv n rfl rfl hlt ?_
      simp only [Act.put,aS,aC,aZ]
      refine yF1 agg87 (.tmp 31) rfl rfl b (0+n * 66) rfl (yC5 x) (yD2 x hxl) hcx ?_
      simp only [Act.put,aS,aC,aZ]
      refine yH5 agg87 _ zero87 rfl rfl rfl rfl rfl (.tmp 32) rfl (yC5 x) (yD2 x hxl) rfl (wrCells_one x) (fun _=>rfl) (fun _=>rfl) ?_
      intro w2 r2 s2 b2
      refine wpList_nil ?_
      simp only [Act.put,aS,aC,aZ]
      obtain ⟨q,hq⟩:∃q,q=wr.heap.size:=⟨_,rfl⟩
      rw [←hq] at r2 ⊢
      have HDV2:Hid (DevAt w2 c (t,i+1) (gs i) bm bl (.slice (some ⟨b,0,none⟩) L cv) (m.step.tape i) (m.step.size i) (layAll (m.step.tape i) (m.step.fl i) ((m.step.wt i).take n)) (m.step.wt i)):=HDV.out.below b2
      have HCH2:Hid (Ch (fun b=>c b=(t,i+1)) w1 w2):=HCH.out.trans (Ch.of_below b2)
      have d2:=HDV2.out.1.at 2 _ rfl
      have q1:=r2.at 1 (.int .i64 (x.place:Nat)) rfl
      have hcb:∀j u,(yA0 x.b)[j]? = some u→w2.cell? ⟨q,0+2+j,none⟩=some u:=fun j u hu=>by
       rw [show 0+2+j=j+2 by omega]
       exact r2.at (j+2) u (by simpa [yC5] using hu)
      obtain ⟨pl,hpl⟩:∃pl,pl=x.place:=⟨_,rfl⟩
      rw [←hpl] at q1 hp4
      have HPP:Hid (pl=x.place):=hpl
      clear r2 s2 b2 hq hcx HDV HCH hpl
      go_upto_region 11 with fail
      refine yD4 8 (by kernel_rfl) (by kernel_rfl) ?_
      simp only [List.take_succ_cons,List.take_zero,List.drop_succ_cons,List.drop_zero]
      iterate 7 (go_big_quiet_step (fail))
      refine wpQuiet_load agg84 (.tmp 39) rfl rfl q (0+2) rfl (yA0 x.b) (by rw [yA1,hxl]) (fun W hW=>by obtain ⟨n,rfl⟩:=hW;exact hcb) ?_
      refine wpQuiet_nil ?_
      intro _ hw'
      obtain ⟨nq,hw''⟩:=hw'
      subst hw''
      simp only [Act.put,aS,aC,aZ]
      obtain ⟨f,nf,hm,hff,hft⟩:=HDV2.out.2.2.2.2.2.1
      refine wpList_putMap0 (hm.drewN nq) (.tmp 36) (.tmp 38) (.tmp 40) 121 114 rfl rfl rfl Tryd.underlying121 pl hp4 x.b hxs rfl rfl rfl ?_
      intro w3 hm3 t3
      refine wpList_nil ?_
      have HDV3:Hid (DevAt w3 c (t,i+1) (gs i) bm bl (.slice (some ⟨b,0,none⟩) L cv) (m.step.tape i) (m.step.size i) (layAll (m.step.tape i) (m.step.fl i) ((m.step.wt i).take (n+1))) (m.step.wt i)):=by
       rw [HTK.out]
       refine (HDV2.out.kept (w':=w2.drewN nq) fun _ _ hk=>⟨rfl,hk⟩).flushed t3 ?_
       rw [←HPP.out]
       exact FlIn.lay hff hft (by rw [HPP.out];exact HPL.out) hm3
      have HCH3:Hid (Ch (fun b=>c b=(t,i+1)) w1 w3):=(HCH2.out.drewN nq).grown t3.grown (fun b hb=>by cases hb;exact Or.inl HDV2.out.2.2.1)
      clear hm hff hft hm3 t3 hcb q1 d2
      go_wp2
      exact ⟨⟨n+1,by omega,by go_num,HDV3.out,HCH3.out⟩,by simp [intOf];omega⟩
     ·have e:n=L:=by omega
      subst e
      have HDV:Hid (DevAt wr c (t,i+1) (gs i) bm bl (.slice pv n cv) (m.step.tape i) (m.step.size i) (layAll (m.step.tape i) (m.step.fl i) (m.step.wt i)) (m.step.wt i)):=by
       have:=hdv
       rw [HL.out,List.take_length,←HL.out] at this
       exact this
      have HCH:Hid (Ch (fun b=>c b=(t,i+1)) w1 wr):=hch
      have tlt:decide ((n:Int)<(n:Int))=false:=by simp
      clear hdv hch c3
      go_wp2_with (go_at_call 53;refine (noMore_any HDV.out.devIn).mono ?_;rintro e w4 ⟨rfl,c',hcc,hd4,hc4⟩)
      go_ret
      exact ⟨rfl,post_flush HP.out HC.out H1.out i (fun b hb=>hcc b (Nat.lt_of_lt_of_le hb HCH.out.size)) hd4 (HCH.out.trans hc4)⟩
  ·have er:r=(31,m):=by rw [HR.out];unfold Pl.flush;rw [if_neg hon,if_pos hd]
   subst er
   clear HR
   go_enter Tryd.func30,Tryd.ntmps30
   go_wp2_with (go_at_call 54;refine (device_no HP.out d hd).mono ?_;rintro e w' ⟨rfl,rfl⟩)
   go_ret
   exact ⟨rfl,Post.refl HP.out⟩
end Go.Proofs.YtpkkkkomdblpoaaDoor

namespace Go.Proofs.YtpkkkkomdblpoaaDoor
open Go.RowKit Go.Maps
theorem i64_and1 (n:Int):bits .and .i64 n 1=n % 2:=by
 have h1:(BitVec.ofInt 64 1).toNat=2 ^ 1 - 1:=by decide
 have key:(BitVec.ofInt 64 n &&& BitVec.ofInt 64 1).toNat=(n % ((2 ^ 64:Nat):Int)).toNat % 2 ^ 1:=by
  rw [BitVec.toNat_and,BitVec.toNat_ofInt,h1,Nat.and_two_pow_sub_one_eq_mod]
 show IntKind.i64.wrap ((BitVec.ofInt 64 n &&& BitVec.ofInt 64 1).toNat:Nat)=n % 2
 rw [key,IntKind.wrap_i64]
 omega
theorem i64_and3 (n:Int):bits .and .i64 n 3=n % 4:=by
 have h1:(BitVec.ofInt 64 3).toNat=2 ^ 2 - 1:=by decide
 have key:(BitVec.ofInt 64 n &&& BitVec.ofInt 64 3).toNat=(n % ((2 ^ 64:Nat):Int)).toNat % 2 ^ 2:=by
  rw [BitVec.toNat_and,BitVec.toNat_ofInt,h1,Nat.and_two_pow_sub_one_eq_mod]
 show IntKind.i64.wrap ((BitVec.ofInt 64 n &&& BitVec.ofInt 64 3).toNat:Nat)=n % 4
 rw [key,IntKind.wrap_i64]
 omega
def torn (b:List Nat):List Nat:=b.take 32++List.replicate 32 0
theorem torn_sec {b:List Nat} (h:Sec b):Sec (torn b):=by
 refine ⟨by simp [torn,h.1],fun c hc => ?_⟩
 unfold torn at hc
 rcases List.mem_append.1 hc with hc|hc
 ·exact h.2 c (List.mem_of_mem_take hc)
 ·have:=(List.mem_replicate.1 hc).2
  omega
def yK5 (tape:Bool) (k:Int):Bool:=decide (k % 2=1) || !tape
def settled (tape:Bool) (fl:List (List Nat)) (p:Nat) (b:List Nat) (k:Int):List (List Nat) :=
 if k % 2=1 then lay tape fl p b else if tape=true∧k % 4=2 then lay tape fl p (torn b) else fl
theorem wpQuiet_slice84 {ops:Array Oper} {C:World→Prop} {R:Act→Prop} {o:Oper} {rest:List Oper} {a:Act} (x:Operand) (hgd:o.guard=none) (ho:o.op = .slice 114 x none none none) (g off:Nat) (hx:a.eval x = .pointer (some ⟨g,off,none⟩))
  (h:wpQuiet Tryd.prog ops C R rest (a.put o.dst (.slice (some ⟨g,off,none⟩) 64 64))):wpQuiet Tryd.prog ops C R (o :: rest) a :=
 wpQuiet_value hgd _ (fun w _=>by simp [execOp,ho,hx,slice84]) h
theorem wpQuiet_slice84_32 {ops:Array Oper} {C:World→Prop} {R:Act→Prop} {o:Oper} {rest:List Oper} {a:Act} (x hi:Operand) (hgd:o.guard=none) (ho:o.op = .slice 114 x none (some hi) none) (g off:Nat) (hx:a.eval x = .pointer (some ⟨g,off,none⟩)) (hh:a.eval hi = .int .i64 32)
  (h:wpQuiet Tryd.prog ops C R rest (a.put o.dst (.slice (some ⟨g,off,none⟩) 32 64))):wpQuiet Tryd.prog ops C R (o :: rest) a :=
 wpQuiet_value hgd _ (fun w _=>by simp [execOp,ho,hx,hh,slice84_32]) h
theorem wpQuiet_field {ops:Array Oper} {C:World→Prop} {R:Act→Prop} {o:Oper} {rest:List Oper} {a:Act} {T i k:Nat} (hf:yD7 T i k) (x:Operand) (hgd:o.guard=none) (ho:o.op = .fieldAddr T x i) (g off:Nat) (hx:a.eval x = .pointer (some ⟨g,off,none⟩))
  (h:wpQuiet Tryd.prog ops C R rest (a.put o.dst (.pointer (some ⟨g,off+k,none⟩)))):wpQuiet Tryd.prog ops C R (o :: rest) a :=
 wpQuiet_value hgd _ (fun w _=>by simp [execOp,ho,hx,hf w g off]) h
set_option maxHeartbeats 600000 in
set_option maxRecDepth 100000 in
theorem settle_any {w:World} {c:Nat→Colour} {k:Colour} {g:Nat} {tape:Bool} {size:Nat} {fl:List (List Nat)} {wt:List Wr} (h:DevIn w c k g tape size fl wt) (x:Wr) (hxs:Sec x.b) (hp4:x.place<4096) (hpl:PlaceOk tape fl x.place) (kk:Int) :
  Calls Tryd.prog 52 #[ptr g,.agg (yC5 x).toArray,.int .i64 kk] w fun e w'=>e = .returned (.bool (yK5 tape kk))∧DevIn w' c k g tape size (settled tape fl x.place x.b kk) wt∧Ch (fun b=>c b=k) w w':=by
 obtain ⟨bm,bl,v,hdev⟩:=h
 have HD:Hid (DevAt w c k g bm bl v tape size fl wt):=hdev
 obtain ⟨r,hr⟩:∃r,r=settled tape fl x.place x.b kk:=⟨_,rfl⟩
 obtain ⟨y,hy⟩:∃y,y=yK5 tape kk:=⟨_,rfl⟩
 rw [←hr,←hy]
 have HR:Hid (r=settled tape fl x.place x.b kk):=hr
 have HY:Hid (y=yK5 tape kk):=hy
 have hxl:=hxs.1
 have HPL:Hid (PlaceOk tape fl x.place):=hpl
 clear hdev hr hy hpl
 go_enter Tryd.func52,Tryd.ntmps52
 go_upto_region 0 with fail
 refine wp_region_lit ?_
 refine yI2 (.tmp 1) rfl rfl (yC5 x) rfl ?_
 intro w1 r1 s1 b1
 refine yE3 (.const (.bool false)) rfl rfl (.bool false) rfl ?_
 refine wpList_nil ?_
 simp only [Act.put,aS,aC,aZ]
 obtain ⟨q,hq⟩:∃q,q=w.heap.size:=⟨_,rfl⟩
 rw [←hq] at r1 ⊢
 have HD1:Hid (DevAt w1 c k g bm bl v tape size fl wt):=HD.out.below b1
 have HC1:Hid (Ch (fun b=>c b=k) w w1):=Ch.of_below b1
 have HS1:Hid (w1.heap.size=q+1∧q=w.heap.size):=⟨by rw [hq];exact s1,hq⟩
 have d0:=HD1.out.1.at 0 _ rfl
 have d2:=HD1.out.1.at 2 _ rfl
 obtain ⟨pl,hpp⟩:∃pl,pl=x.place:=⟨_,rfl⟩
 have HPP:Hid (pl=x.place):=hpp
 have q1:w1.cell? ⟨q,1,none⟩=some (.int .i64 (pl:Nat)):=by rw [hpp];exact r1.at 1 _ rfl
 have hcb:∀j u,(yA0 x.b)[j]? = some u→w1.cell? ⟨q,0+2+j,none⟩=some u:=fun j u hu=>by
  rw [show 0+2+j=j+2 by omega]
  exact r1.at (j+2) u (by simpa [yC5] using hu)
 rw [←hpp] at hp4
 clear b1 s1 hq HD hpp
 by_cases hodd:kk % 2=1
 ·have hb1:bits .and .i64 kk 1=1:=by rw [i64_and1,hodd]
  have er:r=lay tape fl x.place x.b:=by rw [HR.out];unfold settled;rw [if_pos hodd]
  have ey:y=true:=by rw [HY.out];simp [yK5,hodd]
  subst ey
  have HRR:Hid (r=lay tape fl x.place x.b):=er
  clear HR HY er r1
  go_upto_region 2 with fail
  refine yD4 8 (by kernel_rfl) (by kernel_rfl) ?_
  simp only [List.take_succ_cons,List.take_zero,List.drop_succ_cons,List.drop_zero]
  iterate 7 (go_big_quiet_step (fail))
  refine wpQuiet_load agg84 (.tmp 18) rfl rfl q (0+2) rfl (yA0 x.b) (by rw [yA1,hxl]) (fun W hW=>by obtain ⟨n,rfl⟩:=hW;exact hcb) ?_
  refine wpQuiet_nil ?_
  intro _ hw'
  obtain ⟨nq,hw''⟩:=hw'
  subst hw''
  simp only [Act.put,aS,aC,aZ]
  obtain ⟨f,nf,hm,hff,hft⟩:=HD1.out.2.2.2.2.2.1
  refine wpList_putMap0 (hm.drewN nq) (.tmp 15) (.tmp 17) (.tmp 19) 121 114 rfl rfl rfl Tryd.underlying121 pl hp4 x.b hxs rfl rfl rfl ?_
  intro w3 hm3 t3
  refine wpList_nil ?_
  have HD3:Hid (DevIn w3 c k g tape size r wt):=by
   rw [HRR.out]
   refine DevAt.devIn ((HD1.out.kept (w':=w1.drewN nq) fun _ _ hk=>⟨rfl,hk⟩).flushed t3 ?_)
   rw [←HPP.out]
   exact FlIn.lay hff hft (by rw [HPP.out];exact HPL.out) hm3
  have HC3:Hid (Ch (fun b=>c b=k) w w3):=(HC1.out.drewN nq).grown t3.grown (fun b hb=>by cases hb;exact Or.inl HD1.out.2.2.1)
  clear hm hff hft hm3 t3 hcb q1 d2 d0
  go_wp2
  go_ret
  exact ⟨rfl,HD3.out,HC3.out⟩
 ·have hb1:bits .and .i64 kk 1=0:=by rw [i64_and1];omega
  cases htp:tape with
  | false =>
   have er:r=fl:=by rw [HR.out];unfold settled;rw [if_neg hodd,if_neg (by simp [htp])]
   have ey:y=true:=by rw [HY.out];simp [yK5,htp]
   subst ey
   have HRR:Hid (r=fl):=er
   subst htp
   clear HR HY er r1 hcb q1 d2
   go_wp2
   go_ret
   refine ⟨rfl,?_,HC1.out⟩
   rw [HRR.out]
   exact HD1.out.devIn
  | true =>
   have ey:y=false:=by rw [HY.out];simp [yK5,htp,hodd]
   subst ey
   subst htp
   by_cases h4:kk % 4=2
   ·have hb3:bits .and .i64 kk 3=2:=by rw [i64_and3,h4]
    have er:r=lay true fl x.place (torn x.b):=by rw [HR.out];unfold settled;rw [if_neg hodd,if_pos ⟨rfl,h4⟩]
    have HRR:Hid (r=lay true fl x.place (torn x.b)):=er
    clear HR HY er
    go_upto_region 5 with fail
    refine wp_region_lit ?_
    refine yD3 (yB4 64) zero84 rfl rfl ?_
    intro w2 r2 s2 b2
    refine wpList_nil ?_
    simp only [Act.put,aS,aC,aZ]
    obtain ⟨q2,hq2⟩:∃q2,q2=w1.heap.size:=⟨_,rfl⟩
    rw [←hq2] at r2 s2 b2 ⊢
    have hqq:q<q2:=by have:=HS1.out;omega
    have r12:Row w2 q 116 (yC5 x):=r1.later b2 hqq
    go_upto_region 6 with fail
    refine yD4 3 (by kernel_rfl) (by kernel_rfl) ?_
    simp only [List.take_succ_cons,List.take_zero,List.drop_succ_cons,List.drop_zero]
    refine wpQuiet_slice84_32 (.tmp 7) _ rfl rfl q2 0 rfl rfl ?_
    refine wpQuiet_field f87_2 (.tmp 4) rfl rfl q 0 rfl ?_
    refine wpQuiet_slice84 (.tmp 31) rfl rfl q (0+2) rfl ?_
    refine wpQuiet_nil ?_
    intro _ hw'
    obtain ⟨nq,hw''⟩:=hw'
    subst hw''
    simp only [Act.put,aS,aC,aZ]
    refine yH8 (.tmp 30) (.tmp 32) rfl rfl q2 0 32 64 q (0+2) 64 64 114 32 rfl rfl (yB4 64) (r2.drewN nq) (x.b.take 32) (by simp [hxl]) rfl ?cp (by simp [yB4]) ?_
    case cp =>
     intro j hj
     have hj32:j<32:=by simp at hj;omega
     have:=r12.at (j+2) (.int .u8 (x.b.getD j 0:Nat)) (by have:=yC3 x.b j (by omega);simpa [yC5] using this)
     rw [show 0+2+j=j+2 by omega]
     have e:(x.b.take 32).getD j 0=x.b.getD j 0:=by simp [hj32]
     rw [e]
     exact this
    intro w4 r4 s4 ch4
    refine wpList_nil ?_
    simp only [Act.put,aS,aC,aZ]
    have r4':Row w4 q2 114 (yA0 (torn x.b)):=by
     have e:splice (yB4 64) 0 (yA0 (x.b.take 32))=yA0 (torn x.b):=by
      simp [splice,torn,yA0,yB4,hxl]
     rw [←e]
     exact r4
    have hk4:∀b,b<w1.heap.size→w4.heap[b]? = w1.heap[b]?:=fun b hb=>(ch4.block b (by show b<w2.heap.size;omega) (by omega)).trans (b2.block b (by omega))
    have HD4:Hid (DevAt w4 c k g bm bl v true size fl wt):=HD1.out.kept fun b hb hk=>⟨hk4 b hb,hk⟩
    have HC4:Hid (Ch (fun b=>c b=k) w w4):=by
     have h2:Ch (fun b=>c b=k) w (w2.drewN nq):=(HC1.out.trans (Ch.of_below (by rw [←hq2];exact b2))).drewN nq
     refine h2.trans' ch4 fun b hb e => ?_
     have:=HC1.out.size
     omega
    have d24:=HD4.out.1.at 2 _ rfl
    have d04:=HD4.out.1.at 0 _ rfl
    have q14:w4.cell? ⟨q,1,none⟩=some (.int .i64 (pl:Nat)):=by
     rw [←q1]
     exact World.cell?_of_block (hk4 q (by omega))
    have hc4:∀j u,(yA0 (torn x.b))[j]? = some u→w4.cell? ⟨q2,0+j,none⟩=some u:=fun j u hu=>by
     rw [Nat.zero_add]
     exact r4'.at j u hu
    have hts:=torn_sec hxs
    clear r4 r4' s4 ch4 r2 s2 b2 r12 r1 hk4 d0 d2 q1 hcb hq2
    go_upto_region 7 with fail
    refine yD4 7 (by kernel_rfl) (by kernel_rfl) ?_
    simp only [List.take_succ_cons,List.take_zero,List.drop_succ_cons,List.drop_zero]
    iterate 6 (go_big_quiet_step (fail))
    refine wpQuiet_load agg84 (.tmp 7) rfl rfl q2 0 rfl (yA0 (torn x.b)) (by rw [yA1];exact hts.1) (fun W hW=>by obtain ⟨n,rfl⟩:=hW;exact hc4) ?_
    refine wpQuiet_nil ?_
    intro _ hw'
    obtain ⟨nr,hw''⟩:=hw'
    subst hw''
    simp only [Act.put,aS,aC,aZ]
    obtain ⟨f,nf,hm,hff,hft⟩:=HD4.out.2.2.2.2.2.1
    refine wpList_putMap0 (hm.drewN nr) (.tmp 37) (.tmp 39) (.tmp 40) 121 114 rfl rfl rfl Tryd.underlying121 pl hp4 (torn x.b) hts rfl rfl rfl ?_
    intro w5 hm5 t5
    refine wpList_nil ?_
    have HD5:Hid (DevAt w5 c k g bm bl v true size r wt):=by
     rw [HRR.out]
     refine (HD4.out.kept (w':=w4.drewN nr) fun _ _ hk=>⟨rfl,hk⟩).flushed t5 ?_
     rw [←HPP.out]
     exact FlIn.lay hff hft (by rw [HPP.out];exact HPL.out) hm5
    have HC5:Hid (Ch (fun b=>c b=k) w w5):=(HC4.out.drewN nr).grown t5.grown (fun b hb=>by cases hb;exact Or.inl HD4.out.2.2.1)
    have d05:=HD5.out.1.at 0 _ rfl
    clear hm hff hft hm5 t5 hc4 q14 d24 d04
    go_wp2
    go_ret
    exact ⟨rfl,HD5.out.devIn,HC5.out⟩
   ·have hb3:bits .and .i64 kk 3=kk % 4:=i64_and3 kk
    have t4:(kk % 4 == 2)=false:=by simpa using h4
    have er:r=fl:=by rw [HR.out];unfold settled;rw [if_neg hodd,if_neg (by simp [h4])]
    have HRR:Hid (r=fl):=er
    clear HR HY er r1 hcb q1 d2
    go_wp2
    go_ret
    refine ⟨rfl,?_,HC1.out⟩
    rw [HRR.out]
    exact HD1.out.devIn
end Go.Proofs.YtpkkkkomdblpoaaDoor

namespace Go.Proofs
open Go.Shelf
def Tryd.laySort_ren:Go.Shelf.Ren:=⟨fun|6=>74|15=>91|14=>90|28=>112|29=>113|20=>104|21=>105|22=>106|23=>107|24=>108|25=>109|26=>110|27=>111|46=>116|47=>117|48=>118|49=>119|50=>120|57=>124|n=>n,fun|22=>111|24=>118|25=>148|3=>3|39=>163|0=>0|53=>161|55=>153|4=>4|46=>185|45=>184|50=>149|5=>5|9=>9|66=>195|70=>199|76=>202|77=>203|n=>n,fun|n=>n⟩
theorem Tryd.laySort:Go.Proofs.SlLaysF0.n6 Tryd.prog Tryd.laySort_ren:={
 mixed:=by kernel_rfl
 f6:=⟨Tryd.f74.name,by decide,Tryd.func74.trans (congrArg some (by kernel_rfl))⟩
 f14:=⟨Tryd.f90.name,by decide,Tryd.func90.trans (congrArg some (by kernel_rfl))⟩
 f15:=Tryd.func91.trans (congrArg some (by kernel_rfl))
 f20:=⟨Tryd.f104.name,by decide,Tryd.func104.trans (congrArg some (by kernel_rfl))⟩
 f21:=⟨Tryd.f105.name,by decide,Tryd.func105.trans (congrArg some (by kernel_rfl))⟩
 f22:=⟨Tryd.f106.name,by decide,Tryd.func106.trans (congrArg some (by kernel_rfl))⟩
 f23:=⟨Tryd.f107.name,by decide,Tryd.func107.trans (congrArg some (by kernel_rfl))⟩
 f24:=⟨Tryd.f108.name,by decide,Tryd.func108.trans (congrArg some (by kernel_rfl))⟩
 f25:=⟨Tryd.f109.name,by decide,Tryd.func109.trans (congrArg some (by kernel_rfl))⟩
 f26:=⟨Tryd.f110.name,by decide,Tryd.func110.trans (congrArg some (by kernel_rfl))⟩
 f27:=⟨Tryd.f111.name,by decide,Tryd.func111.trans (congrArg some (by kernel_rfl))⟩
 f28:=Tryd.func112.trans (congrArg some (by kernel_rfl))
 f29:=Tryd.func113.trans (congrArg some (by kernel_rfl))
 f46:=⟨Tryd.f116.name,by decide,Tryd.func116.trans (congrArg some (by kernel_rfl))⟩
 f47:=Tryd.func117.trans (congrArg some (by kernel_rfl))
 f48:=Tryd.func118.trans (congrArg some (by kernel_rfl))
 f49:=⟨Tryd.f119.name,by decide,Tryd.func119.trans (congrArg some (by kernel_rfl))⟩
 f50:=⟨Tryd.f120.name,by decide,Tryd.func120.trans (congrArg some (by kernel_rfl))⟩
 f57:=⟨Tryd.f124.name,by decide,Tryd.func124.trans (congrArg some (by kernel_rfl))⟩
 t0:=Tryd.underlying0
 a0:=Tryd.isAgg0
 z0:=Tryd.sizeOf0
 v0:=Tryd.zeroValue0
 t3:=Tryd.underlying3
 a3:=Tryd.isAgg3
 z3:=Tryd.sizeOf3
 v3:=Tryd.zeroValue3
 t4:=Tryd.underlying4
 a4:=Tryd.isAgg4
 z4:=Tryd.sizeOf4
 v4:=Tryd.zeroValue4
 t5:=Tryd.underlying5
 a5:=Tryd.isAgg5
 z5:=Tryd.sizeOf5
 v5:=Tryd.zeroValue5
 t9:=Tryd.underlying9
 a9:=Tryd.isAgg9
 z9:=Tryd.sizeOf9
 v9:=Tryd.zeroValue9
 t22:=Tryd.underlying111
 a22:=Tryd.isAgg111
 z22:=Tryd.sizeOf111
 v22:=Tryd.zeroValue111
 t25:=Tryd.underlying148
 a25:=Tryd.isAgg148
 z25:=Tryd.sizeOf148
 v25:=Tryd.zeroValue148
 t39:=Tryd.underlying163
 a39:=Tryd.isAgg163
 z39:=Tryd.sizeOf163
 v39:=Tryd.zeroValue163
 t45:=Tryd.underlying184
 a45:=Tryd.isAgg184
 z45:=Tryd.sizeOf184
 v45:=Tryd.zeroValue184
 t46:=Tryd.underlying185
 a46:=Tryd.isAgg185
 z46:=Tryd.sizeOf185
 v46:=Tryd.zeroValue185
 t50:=Tryd.underlying149
 a50:=Tryd.isAgg149
 z50:=Tryd.sizeOf149
 v50:=Tryd.zeroValue149
 t53:=Tryd.underlying161
 a53:=Tryd.isAgg161
 z53:=Tryd.sizeOf161
 v53:=Tryd.zeroValue161
 t55:=Tryd.underlying153
 a55:=Tryd.isAgg153
 z55:=Tryd.sizeOf153
 v55:=Tryd.zeroValue153
 t66:=Tryd.underlying195
 a66:=Tryd.isAgg195
 z66:=Tryd.sizeOf195
 v66:=Tryd.zeroValue195
 t70:=Tryd.underlying199
 a70:=Tryd.isAgg199
 z70:=Tryd.sizeOf199
 v70:=Tryd.zeroValue199
 t76:=Tryd.underlying202
 a76:=Tryd.isAgg202
 z76:=Tryd.sizeOf202
 v76:=Tryd.zeroValue202
 t77:=Tryd.underlying203
 a77:=Tryd.isAgg203
 z77:=Tryd.sizeOf203
 v77:=Tryd.zeroValue203 }
end Go.Proofs

/- The walk of the document's own piece. The walk of the document's own Sum. The walk of the document's own Sum. -/
import Derived.Test.YtpkkkkomdblpoaaDoorP05
namespace Go.Proofs.YtpkkkkomdblpoaaDoor.Sh
open Go.RowKit Go.Sort
section
variable {w:World} {ops:Array Oper} {rest:List Oper} {o:Oper} {a:Act} {Q:Exit→Act→World→Prop}
theorem run_lit1 (y:BitVec 32):(Instr.buildSlice 164 1 #[(0,.int .u32 (Sha.U y))]).run Tryd.prog w = .ok (.slice (some ⟨w.heap.size,0,none⟩) 1 1) (w.alloc (.cells (yC2 [y]).toArray 161)):=by
 kernel_rfl
theorem wpList_lit1 (x:Operand) (hgd:o.guard=none) (ho:o.op = .buildSlice 164 1 #[(0,x)]) (y:BitVec 32) (hx:a.eval x = .int .u32 (Sha.U y))
  (h:∀w',Row w' w.heap.size 161 (yC2 [y])→w'.heap.size=w.heap.size+1→Below w.heap.size w w'→wpList Tryd.prog ops Q rest (a.put o.dst (.slice (some ⟨w.heap.size,0,none⟩) 1 1)) w'):wpList Tryd.prog ops Q (o :: rest) a w :=
 yB1 hgd _ _ (by simp [execOp,ho,hx,run_lit1]) (h (w.alloc (.cells (yC2 [y]).toArray 161)) (Row.new w 161 _) (by simp) ((Below.refl _ _).alloc (Nat.le_refl _) _))
theorem run_lit0:(Instr.buildSlice 164 0 #[]).run Tryd.prog w = .ok (.slice (some ⟨w.heap.size,0,none⟩) 0 0) (w.alloc (.cells #[] 161)):=by
 kernel_rfl
theorem wpList_lit0 (hgd:o.guard=none) (ho:o.op = .buildSlice 164 0 #[])
  (h:∀w',WOwn w' w.heap.size (.slice (some ⟨w.heap.size,0,none⟩) 0 0) []→w'.heap.size=w.heap.size+1→Below w.heap.size w w'→wpList Tryd.prog ops Q rest (a.put o.dst (.slice (some ⟨w.heap.size,0,none⟩) 0 0)) w'):wpList Tryd.prog ops Q (o :: rest) a w :=
 yB1 hgd _ _ (by simp [execOp,ho,run_lit0]) (h (w.alloc (.cells #[] 161)) (WOwn.new w _ (Nat.le_refl _)) (by simp) ((Below.refl _ _).alloc (Nat.le_refl _) _))
end
theorem lit1_cells {w:World} {g:Nat} {y:BitVec 32} (h:Row w g 161 (yC2 [y])) (j:Nat) (hj:j < [y].length):w.cell? ⟨g,0+j,none⟩=some (.int .u32 (Sha.U ([y].getD j 0))):=by
 rw [Nat.zero_add,h.cell]
 exact yH6 [y] j hj
theorem rrotB_6 (x:BitVec 32) (w:World) :
  Calls Tryd.prog 102 #[.int .u32 (Sha.U x),.int .i64 6] w fun e w'=>e = .returned (.int .u32 (Sha.U (Sha.rot x 6)))∧Below w.heap.size w w' :=
 (rrot_6 x w).mono fun e w' ⟨he,n,hw⟩=>⟨he,by rw [hw];exact Below.drewN (Below.refl _ _) n⟩
theorem rrotB_11 (x:BitVec 32) (w:World) :
  Calls Tryd.prog 102 #[.int .u32 (Sha.U x),.int .i64 11] w fun e w'=>e = .returned (.int .u32 (Sha.U (Sha.rot x 11)))∧Below w.heap.size w w' :=
 (rrot_11 x w).mono fun e w' ⟨he,n,hw⟩=>⟨he,by rw [hw];exact Below.drewN (Below.refl _ _) n⟩
theorem rrotB_25 (x:BitVec 32) (w:World) :
  Calls Tryd.prog 102 #[.int .u32 (Sha.U x),.int .i64 25] w fun e w'=>e = .returned (.int .u32 (Sha.U (Sha.rot x 25)))∧Below w.heap.size w w' :=
 (rrot_25 x w).mono fun e w' ⟨he,n,hw⟩=>⟨he,by rw [hw];exact Below.drewN (Below.refl _ _) n⟩
def VIn (W:World) (sv:Value) (v:Sha.W8):Prop := ∃g cap,sv = .slice (some ⟨g,0,none⟩) 8 cap∧g<W.heap.size∧∀j,j<8→W.cell? ⟨g,j,none⟩=some (.int .u32 (Sha.U (v.list.getD j 0)))
theorem WOwn.vIn {W:World} {base:Nat} {sv:Value} {v:Sha.W8} (h:WOwn W base sv v.list):VIn W sv v:=by
 obtain ⟨g,cap,rfl,_,hg,hc⟩:=h.shape (by rw [Sha.W8.list_length];decide)
 exact ⟨g,cap,rfl,hg,hc⟩
theorem WOwn.weaken {W:World} {base base':Nat} {sv:Value} {ws:List (BitVec 32)} (h:WOwn W base sv ws) (hb:base'≤base):WOwn W base' sv ws:=by
 refine ⟨h.1,?_⟩
 rcases h.2 with h|⟨g,cap,cur,h1,h2,h3⟩
 ·exact Or.inl h
 ·exact Or.inr ⟨g,cap,cur,h1,Nat.le_trans hb h2,h3⟩
theorem VIn.new (W:World) (y:Sha.W8):VIn (W.alloc (.cells (yC2 y.list).toArray 161)) (.slice (some ⟨W.heap.size,0,none⟩) 8 8) y :=
 ⟨W.heap.size,8,rfl,by simp,fun j hj=>by rw [(Row.new W 161 (yC2 y.list)).cell];exact yH6 y.list j hj⟩
theorem t1_U2 (x:Sha.W8) (k w:BitVec 32):((Sha.U (x.h+(Sha.rot x.e 6 ^^^ Sha.rot x.e 11 ^^^ Sha.rot x.e 25))+bits BinOp.xor IntKind.u32 (Sha.U (x.e &&& x.f)) (bits BinOp.and IntKind.u32 (bits BinOp.xor IntKind.u32 (if IntKind.u32.signed=true then -1 else IntKind.u32.max) (Sha.U x.e)) (Sha.U x.g))+Sha.U k) % (4294967296:Int)+Sha.U w) % (4294967296:Int)=Sha.U (Sha.t1 x k w):=by
 rw [←t1_U]
 omega
theorem comp_at (h:Sha.W8) (p:List Nat):∀k:Fin 8,(Sha.comp h p).list.getD k.val 0=h.list.getD k.val 0+(Sha.rnds p h 64).list.getD k.val 0:=by
 intro k
 unfold Sha.comp
 generalize Sha.rnds p h 64=x
 match k with
 | 0=>rfl
 | 1=>rfl
 | 2=>rfl
 | 3=>rfl
 | 4=>rfl
 | 5=>rfl
 | 6=>rfl
 | 7=>rfl
attribute [local go_sem] Sha.U_xor Sha.U_add Sha.U_and U_shr3 U_shr10 in
set_option maxHeartbeats 600000 in
set_option maxRecDepth 100000 in
theorem piece_any (gh caph bb off capb:Nat) (h:Sha.W8) (p:List Nat) (w:World) (hh:∀j,j<8→w.cell? ⟨gh,j,none⟩=some (.int .u32 (Sha.U (h.list.getD j 0)))) (hp:p.length=64) (hb:BytesIn w bb off p) :
  Calls Tryd.prog 89 #[.slice (some ⟨gh,0,none⟩) 8 caph,.slice (some ⟨bb,off,none⟩) 64 capb] w fun e w' => ∃v',e = .returned v'∧WOwn w' w.heap.size v' (Sha.comp h p).list∧Below w.heap.size w w':=by
 have hw0:WOwn (w.alloc (.cells #[] 161)) w.heap.size (.slice (some ⟨w.heap.size,0,none⟩) 0 0) (Sha.sched p 0):=WOwn.new w _ (Nat.le_refl _)
 have hb0:Below w.heap.size w (w.alloc (.cells #[] 161)):=(Below.refl _ _).alloc (Nat.le_refl _) _
 have HW:Hid (WOwn (w.alloc (.cells #[] 161)) w.heap.size (.slice (some ⟨w.heap.size,0,none⟩) 0 0) (Sha.sched p 0)∧Below w.heap.size w (w.alloc (.cells #[] 161))):=⟨hw0,hb0⟩
 have HH:Hid (∀j,j<8→w.cell? ⟨gh,j,none⟩=some (.int .u32 (Sha.U (h.list.getD j 0)))):=hh
 clear hw0 hb0 hh
 go_enter Tryd.func89,Tryd.ntmps89
 go_wp2
 go_loopw [5,6] (fun sw i W => ∃k:Nat,k≤64∧i = .int .i64 k∧WOwn W w.heap.size sw (Sha.sched p k)∧Below w.heap.size w W) (fun _ i _=>64 - (intOf i).toNat)
 case atStart=>exact ⟨0,Nat.zero_le _,rfl,HW.out.1,HW.out.2⟩
 case round =>
  clear HW
  obtain ⟨k,hk,rfl,hw,hbl⟩:=hrel
  by_cases hlt:k<16
  ·have HWO:Hid (WOwn wr w.heap.size u5 (Sha.sched p k)):=hw
   have HBL:Hid (Below w.heap.size w wr):=hbl
   have hby:=hb.later hbl
   have c0:wr.cell? ⟨bb,off+4 * k,none⟩=_:=hby.1 (4 * k) (by omega)
   have c1:wr.cell? ⟨bb,off+(4 * k+1),none⟩=_:=hby.1 (4 * k+1) (by omega)
   have c2:wr.cell? ⟨bb,off+(4 * k+2),none⟩=_:=hby.1 (4 * k+2) (by omega)
   have c3:wr.cell? ⟨bb,off+(4 * k+3),none⟩=_:=hby.1 (4 * k+3) (by omega)
   have hk64:k<64:=by omega
   have HS:Hid (Sha.sched p (k+1)=Sha.sched p k++[Sha.word4 (p.getD (4 * k) 0) (p.getD (4 * k+1) 0) (p.getD (4 * k+2) 0) (p.getD (4 * k+3) 0)]):=Sha.sched_low p k hlt
   have cw:=word_cells k hlt wr bb off capb _ _ _ _ c0 c1 c2 c3
   clear c0 c1 c2 c3 hby hw hbl
   generalize p.getD (4 * k) 0=b0 at *
   generalize p.getD (4 * k+1) 0=b1 at *
   generalize p.getD (4 * k+2) 0=b2 at *
   generalize p.getD (4 * k+3) 0=b3 at *
   have CW:Hid (Calls Tryd.prog 101 #[.slice (some ⟨bb,off,none⟩) 64 capb,.int .i64 (4 * k:Int)] wr fun e w'=>e = .returned (.int .u32 (Sha.U (Sha.word4 b0 b1 b2 b3)))∧∃n,w'=wr.drewN n):=cw
   clear cw
   go_wp2_with (first
    | (go_at_call 101;refine CW.out.mono ?_;rintro e w' ⟨rfl,nn,rfl⟩)
    | (at_builtin;refine yI1 (.tmp 24) (.tmp 29) rfl rfl w.heap.size u5 (Sha.sched p k) [Sha.word4 b0 b1 b2 b3] rfl ((HWO.out.drewN nn).later ((Below.refl _ _).alloc (Nat.le_refl _) _) (Nat.le_refl _)) wr.heap.size 0 1 rfl (fun j hj => ?cells) (by rw [Sha.yD1];simp;omega) (by have:=HBL.out.size;simp;omega) ?next;case cells=>(have hj0:j=0:=by simp at hj;omega);subst hj0;simp [World.drewN]))
   intro v' w' o' b'
   have HB':Hid (Below w.heap.size w w'):=HBL.out.trans (((Below.drewN (Below.refl _ wr) nn).alloc (by exact HBL.out.size) _).trans b')
   have HO':Hid (WOwn w' w.heap.size v' (Sha.sched p (k+1))):=by rw [HS.out];exact o'
   clear o' b'
   go_wp2
   exact ⟨⟨k+1,by omega,by go_num,HO'.out,HB'.out⟩,by simp [intOf];omega⟩
  ·by_cases hlt2:k<64
   ·have HWO:Hid (WOwn wr w.heap.size u5 (Sha.sched p k)):=hw
    have HBL:Hid (Below w.heap.size w wr):=hbl
    obtain ⟨g,cap,rfl,_,_,hc⟩:=hw.shape (by rw [Sha.yD1];omega)
    have HX:=Sha.sched_high p k (by omega)
    rw [Sha.yD1] at hc HWO ⊢
    have c0:=hc (k - 16) (by omega)
    have c1:=hc (k - 15) (by omega)
    have c9:=hc (k - 7) (by omega)
    have c14:=hc (k - 2) (by omega)
    have HS:Hid (Sha.sched p (k+1)=Sha.sched p k++[Sha.sm1 ((Sha.sched p k).getD (k - 2) 0)+(Sha.sched p k).getD (k - 7) 0+Sha.sm0 ((Sha.sched p k).getD (k - 15) 0)+(Sha.sched p k).getD (k - 16) 0]):=HX
    have hk16:16≤k:=by omega
    clear hc HX hw hbl hk hlt hb
    generalize (Sha.sched p k).getD (k - 16) 0=b0 at *
    generalize (Sha.sched p k).getD (k - 15) 0=b1 at *
    generalize (Sha.sched p k).getD (k - 7) 0=b9 at *
    generalize (Sha.sched p k).getD (k - 2) 0=b14 at *
    go_wp2
    refine wp_region_headOne_drew 29 (.tmp 5) (by kernel_rfl) (by kernel_rfl) rfl rfl (fun _ _ _ h=>h) ?_
    simp only [List.take_succ_cons,List.take_zero,List.drop_succ_cons,List.drop_zero]
    repeat (go_big_quiet_step (first|(go_at_call_of 102 (Value.int IntKind.i64 17);exact Calls.quiet_of (rrot_17 _ _))|(go_at_call_of 102 (Value.int IntKind.i64 19);exact Calls.quiet_of (rrot_19 _ _))|(go_at_call_of 102 (Value.int IntKind.i64 7);exact Calls.quiet_of (rrot_7 _ _))|(go_at_call_of 102 (Value.int IntKind.i64 18);exact Calls.quiet_of (rrot_18 _ _))))
    refine wpQuiet_nil ?_
    intro _ hw'
    obtain ⟨nn,hw''⟩:=hw'
    subst hw''
    refine wpList_lit1 (.tmp 70) rfl rfl (Sha.sm1 b14+b9+Sha.sm0 b1+b0) rfl ?_
    intro w1 r1 s1 bl1
    refine yI1 (.tmp 41) (.tmp 71) rfl rfl w.heap.size _ (Sha.sched p k) [Sha.sm1 b14+b9+Sha.sm0 b1+b0] rfl ((HWO.out.drewN nn).later bl1 (Nat.le_refl _)) _ 0 1 rfl (lit1_cells r1) (by rw [Sha.yD1];simp;omega) (by have:=HBL.out.size;have:(wr.drewN nn).heap.size=wr.heap.size:=rfl;omega) ?_
    intro v' w' o' b'
    refine yD8 (.tmp 72) rfl rfl _ rfl ?_
    refine wpList_nil ?_
    have HB':Hid (Below w.heap.size w w'):=HBL.out.trans ((Below.drewN (Below.refl _ wr) nn).trans ((bl1.mono HBL.out.size).trans b'))
    have HO':Hid (WOwn w' w.heap.size v' (Sha.sched p (k+1))):=by rw [HS.out];exact o'
    clear o' b' r1 s1 bl1
    go_wp2
    exact ⟨⟨k+1,by omega,by go_num,HO'.out,HB'.out⟩,by simp [intOf];omega⟩
   ·obtain rfl:k=64:=by omega
    obtain ⟨gw,capw,rfl,hgw1,hgw2,hcw⟩:=hw.shape (by rw [Sha.yD1];omega)
    rw [Sha.yD1] at hcw ⊢
    have hh:=fun j hj=>cell_later hbl (HH.out j hj)
    have HBL:Hid (Below w.heap.size w wr):=hbl
    have HCW:Hid (∀j,j<64→wr.cell? ⟨gw,j,none⟩=some (.int .u32 (Sha.U ((Sha.sched p 64).getD j 0)))):=hcw
    have HHR:Hid (∀j,j<8→wr.cell? ⟨gh,j,none⟩=some (.int .u32 (Sha.U (h.list.getD j 0)))):=hh
    clear hcw hh hbl hw hlt hlt2 hk hb HH
    go_upto_region 10 with fail
    refine wp_region_lit ?_
    refine wpList_lit0 rfl rfl ?_
    intro w0 o0 s0 b0
    refine yC7 (.tmp 0) rfl rfl _ rfl ?_
    refine yI1 (.tmp 73) (.tmp 74) rfl rfl wr.heap.size _ [] h.list rfl o0 gh 0 caph rfl (fun j hj=>cell_later b0 (by rw [Nat.zero_add];exact HHR.out j hj)) (by rw [Sha.W8.list_length];decide) (by omega) ?_
    intro v1 w1 o1 b1
    refine yD8 (.tmp 75) rfl rfl _ rfl ?_
    refine wpList_nil ?_
    rw [List.nil_append] at o1
    have hv1:=o1.vIn
    have b2:Below wr.heap.size wr w1:=b0.trans b1
    have HV1:Hid (VIn w1 v1 (Sha.rnds p h 0)):=hv1
    have HB1:Hid (Below wr.heap.size wr w1):=b2
    clear o1 b1 hv1 b2 o0 s0 b0
    go_wp2
    go_loopw [9,10] (fun sv i W => ∃k:Nat,k≤64∧i = .int .i64 k∧VIn W sv (Sha.rnds p h k)∧Below wr.heap.size wr W) (fun _ i _=>64 - (intOf i).toNat)
    case atStart=>exact ⟨0,Nat.zero_le _,rfl,HV1.out,HB1.out⟩
    case round =>
     clear HV1 HB1
     obtain ⟨k,hk,rfl,hv,hb1⟩:=hrel
     obtain ⟨gv,capv,rfl,hgv,hcv⟩:=hv
     by_cases hlt:k<64
     ·have HCV:Hid (∀j,j<8→wr.cell? ⟨gv,j,none⟩=some (.int .u32 (Sha.U ((Sha.rnds p h k).list.getD j 0)))):=hcv
      have cw:wr.cell? ⟨gw,k,none⟩=_:=cell_later hb1 (HCW.out k hlt)
      have HBB:Hid (Below _ _ wr):=hb1
      have HR:Hid (Sha.rnds p h (k+1)=Sha.rnd (Sha.rnds p h k) (Sha.kAt k) ((Sha.sched p 64).getD k 0)):=rfl
      have kw:=cell_regrown cw
      clear hb1 cw
      generalize (Sha.sched p 64).getD k 0=wk at *
      generalize hx:Sha.rnds p h k=x at *
      have v0:wr.cell? ⟨gv,0,none⟩=some (.int .u32 (Sha.U x.a)):=hcv 0 (by decide)
      have v4:wr.cell? ⟨gv,4,none⟩=some (.int .u32 (Sha.U x.e)):=hcv 4 (by decide)
      have k5:=cell_regrown (show wr.cell? ⟨gv,5,none⟩=some (.int .u32 (Sha.U x.f)) from hcv 5 (by decide))
      have k6:=cell_regrown (show wr.cell? ⟨gv,6,none⟩=some (.int .u32 (Sha.U x.g)) from hcv 6 (by decide))
      have k7:=cell_regrown (show wr.cell? ⟨gv,7,none⟩=some (.int .u32 (Sha.U x.h)) from hcv 7 (by decide))
      clear hcv
      have cK:Hid (∀d os,Calls Tryd.prog 103 #[.int .i64 (k:Int)] (grow (redrawn wr d) os) fun e w''=>e = .returned (.int .u32 (Sha.U (Sha.kAt k)))∧∃p:Regrown,w''=grow (redrawn wr p.d) p.os):=fun d os=>Calls.regrown_of (const_any k hlt _)
      generalize Sha.kAt k=kk at *
      have HX:Hid (Sha.rnds p h k=x):=hx
      clear hx
      go_wp2
      refine wp_region_quiet_below (by kernel_rfl) (by kernel_rfl) ?_
      repeat (go_big_quiet_step (first|(go_at_call 103;exact cK.out _ _)|(go_at_call_of 102 (Value.int IntKind.i64 6);exact Calls.regrown_of (rrotB_6 _ _))|(go_at_call_of 102 (Value.int IntKind.i64 11);exact Calls.regrown_of (rrotB_11 _ _))|(go_at_call_of 102 (Value.int IntKind.i64 25);exact Calls.regrown_of (rrotB_25 _ _))))
      refine wpQuiet_nil ?_
      intro _ hw'
      obtain ⟨⟨dq,osq⟩,hw''⟩:=hw'
      subst hw''
      rw [t1_U2]
      have hb3:=below_regrown wr dq osq
      have hcv3:=fun j hj=>cell_later hb3 (HCV.out j hj)
      clear kw k5 k6 k7 cK v0 v4
      dsimp only
      generalize grow (redrawn wr dq) osq=w3 at *
      have v1:w3.cell? ⟨gv,1,none⟩=some (.int .u32 (Sha.U x.b)):=hcv3 1 (by decide)
      have v2:w3.cell? ⟨gv,2,none⟩=some (.int .u32 (Sha.U x.c)):=hcv3 2 (by decide)
      have v3:w3.cell? ⟨gv,3,none⟩=some (.int .u32 (Sha.U x.d)):=hcv3 3 (by decide)
      have v5:w3.cell? ⟨gv,5,none⟩=some (.int .u32 (Sha.U x.f)):=hcv3 5 (by decide)
      have v6:w3.cell? ⟨gv,6,none⟩=some (.int .u32 (Sha.U x.g)):=hcv3 6 (by decide)
      have HB3:Hid (Below wr.heap.size wr w3):=hb3
      clear hcv3 hb3
      go_wp2
      go_quiet (first|(go_at_call_of 102 (Value.int IntKind.i64 2);exact Calls.quiet_of (rrot_2 _ _))|(go_at_call_of 102 (Value.int IntKind.i64 13);exact Calls.quiet_of (rrot_13 _ _))|(go_at_call_of 102 (Value.int IntKind.i64 22);exact Calls.quiet_of (rrot_22 _ _)))
      go_wp2
      refine yE4 22 (by kernel_rfl) (by kernel_rfl) ?_
      simp only [List.take_succ_cons,List.take_zero,List.drop_succ_cons,List.drop_zero]
      repeat (go_big_quiet_step (fail))
      refine wpQuiet_nil ?_
      intro _ hw'
      obtain ⟨nq2,hw''⟩:=hw'
      subst hw''
      go_wp2
      refine ⟨⟨k+1,by omega,by go_num,?_,HBB.out.trans ((Below.drewN (HB3.out.mono HBB.out.size) _).alloc (Nat.le_trans HBB.out.size HB3.out.size) _)⟩,by simp [intOf];omega⟩
      rw [HR.out]
      exact VIn.new (w3.drewN (nq+nq2)) (Sha.rnd x kk wk)
     ·obtain rfl:k=64:=by omega
      have HBB:Hid (Below _ _ wr):=hb1
      have hh:=fun j hj=>cell_later hb1 (HHR.out j hj)
      have HHJ:Hid (∀j,j<8→wr.cell? ⟨gh,j,none⟩=some (.int .u32 (Sha.U (h.list.getD j 0)))):=hh
      have HVJ:Hid (∀j,j<8→wr.cell? ⟨gv,j,none⟩=some (.int .u32 (Sha.U ((Sha.rnds p h 64).list.getD j 0)))):=hcv
      have hsz:=Nat.le_trans HBL.out.size hb1.size
      clear hh hcv hb1 HHR HCW hk hlt hgv
      go_upto_region 19 with fail
      refine wp_region_lit ?_
      refine wpList_lit0 rfl rfl ?_
      intro w5 o5 s5 b5
      refine yD8 (.tmp 170) rfl rfl _ rfl ?_
      refine wpList_nil ?_
      have HO5:Hid (WOwn w5 wr.heap.size (.slice (some ⟨wr.heap.size,0,none⟩) 0 0) ((Sha.comp h p).list.take 0)):=o5
      have HB5:Hid (Below wr.heap.size wr w5):=b5
      clear o5 s5 b5
      go_wp2
      go_loopw [15,16] (fun so i W => ∃k:Nat,k≤8∧i = .int .i64 k∧WOwn W wr.heap.size so ((Sha.comp h p).list.take k)∧Below wr.heap.size wr W) (fun _ i _=>8 - (intOf i).toNat)
      case atStart=>exact ⟨0,Nat.zero_le _,rfl,HO5.out,HB5.out⟩
      case round =>
       clear HO5 HB5
       obtain ⟨k,hk,rfl,ho,hb6⟩:=hrel
       by_cases hlt:k<8
       ·have HO:Hid (WOwn wr _ u15 ((Sha.comp h p).list.take k)):=ho
        have HB6:Hid (Below _ _ wr):=hb6
        have ch:=cell_later hb6 (HHJ.out k hlt)
        have cv:=cell_later hb6 (HVJ.out k hlt)
        have HN:Hid ((Sha.comp h p).list.take (k+1)=(Sha.comp h p).list.take k++[h.list.getD k 0+(Sha.rnds p h 64).list.getD k 0]):=by
         have hl:k<(Sha.comp h p).list.length:=hlt
         have:=comp_at h p ⟨k,hlt⟩
         show _=_
         rw [List.take_succ_eq_append_getElem hl]
         congr 2
         rw [←this]
         simp [hl]
        clear ho hb6
        generalize h.list.getD k 0=bh at *
        generalize (Sha.rnds p h 64).list.getD k 0=bv at *
        go_wp2
        refine wp_region_headOne_drew 9 (.tmp 15) (by kernel_rfl) (by kernel_rfl) rfl rfl (fun _ _ _ h=>h) ?_
        simp only [List.take_succ_cons,List.take_zero,List.drop_succ_cons,List.drop_zero]
        repeat (go_big_quiet_step (fail))
        refine wpQuiet_nil ?_
        intro _ hw'
        obtain ⟨nn,hw''⟩:=hw'
        subst hw''
        refine wpList_lit1 (.tmp 184) rfl rfl (bh+bv) rfl ?_
        intro w7 r7 s7 bl7
        refine yI1 (.tmp 175) (.tmp 185) rfl rfl _ _ ((Sha.comp h p).list.take k) [bh+bv] rfl ((HO.out.drewN nn).later bl7 (Nat.le_refl _)) _ 0 1 rfl (lit1_cells r7) (by simp [Sha.W8.list_length];omega) (Nat.le_trans HB6.out.size bl7.size) ?_
        intro v' w' o' b'
        refine yD8 (.tmp 186) rfl rfl _ rfl ?_
        refine wpList_nil ?_
        have HB':Hid (Below _ _ w'):=HB6.out.trans ((Below.drewN (Below.refl _ wr) nn).trans ((bl7.mono HB6.out.size).trans b'))
        rw [←HN.out] at o'
        have HO':Hid (WOwn w' _ v' ((Sha.comp h p).list.take (k+1))):=o'
        clear o' b' r7 s7 bl7
        go_wp2
        exact ⟨⟨k+1,by omega,by go_num,HO'.out,HB'.out⟩,by simp [intOf];omega⟩
       ·obtain rfl:k=8:=by omega
        rw [List.take_of_length_le (Nat.le_of_eq (Sha.W8.list_length _))] at ho
        have HO:Hid (WOwn wr w.heap.size u15 (Sha.comp h p).list):=ho.weaken hsz
        have HBF:Hid (Below w.heap.size w wr):=HBL.out.trans ((HBB.out.mono HBL.out.size).trans (hb6.mono hsz))
        clear ho hb6
        go_wp2
        go_ret
        exact ⟨_,rfl,HO.out,HBF.out⟩
end Go.Proofs.YtpkkkkomdblpoaaDoor.Sh

namespace Go.Proofs.YtpkkkkomdblpoaaDoor.Sh
open Go.RowKit
section
variable {w:World} {ops:Array Oper} {rest:List Oper} {o:Oper} {a:Act} {Q:Exit→Act→World→Prop}
theorem run_litb0:(Instr.buildSlice 38 0 #[]).run Tryd.prog w = .ok (.slice (some ⟨w.heap.size,0,none⟩) 0 0) (w.alloc (.cells #[] 5)):=by
 kernel_rfl
theorem wpList_litb0 (hgd:o.guard=none) (ho:o.op = .buildSlice 38 0 #[])
  (h:∀w',BOwn w' w.heap.size (.slice (some ⟨w.heap.size,0,none⟩) 0 0) []→w'.heap.size=w.heap.size+1→Below w.heap.size w w'→wpList Tryd.prog ops Q rest (a.put o.dst (.slice (some ⟨w.heap.size,0,none⟩) 0 0)) w'):wpList Tryd.prog ops Q (o :: rest) a w :=
 yB1 hgd _ _ (by simp [execOp,ho,run_litb0]) (h (w.alloc (.cells #[] 5)) (BOwn.new w _ (Nat.le_refl _)) (by simp) ((Below.refl _ _).alloc (Nat.le_refl _) _))
theorem run_litb1 (c:Int):(Instr.buildSlice 38 1 #[(0,.int .u8 c)]).run Tryd.prog w = .ok (.slice (some ⟨w.heap.size,0,none⟩) 1 1) (w.alloc (.cells #[.int .u8 c] 5)):=by
 kernel_rfl
theorem wpList_litb1 (x:Operand) (hgd:o.guard=none) (ho:o.op = .buildSlice 38 1 #[(0,x)]) (c:Nat) (hc:c<256) (hx:a.eval x = .int .u8 (c:Nat))
  (h:∀w',yA3 w' (.slice (some ⟨w.heap.size,0,none⟩) 1 1) [c]→w'.heap.size=w.heap.size+1→Below w.heap.size w w'→wpList Tryd.prog ops Q rest (a.put o.dst (.slice (some ⟨w.heap.size,0,none⟩) 1 1)) w'):wpList Tryd.prog ops Q (o :: rest) a w:=by
 refine yB1 hgd _ _ (by simp [execOp,ho,hx,run_litb1]) (h (w.alloc (.cells #[.int .u8 (c:Nat)] 5)) ?_ (by simp) ((Below.refl _ _).alloc (Nat.le_refl _) _))
 have hr:=Row.new w 5 [.int .u8 (c:Nat)]
 refine ⟨_,1,rfl,⟨Nat.le_refl _,by simp⟩,Or.inr ⟨w.heap.size,0,rfl,fun j hj => ?_,fun j => ?_⟩⟩
 ·have hj0:j=0:=by simp at hj;omega
  subst hj0
  exact hr.at 0 _ rfl
 ·cases j with
  | zero=>simpa using hc
  | succ j=>simp
theorem wpList_piece (x lo hi:Operand) (hgd:o.guard=none) (ho:o.op = .slice 38 x (some lo) (some hi) none) (b len cap k:Nat) (hx:a.eval x = .slice (some ⟨b,0,none⟩) len cap) (hlo:a.eval lo = .int .i64 (k:Nat)) (E:Nat) (hE:E=k+64) (hhi:a.eval hi = .int .i64 (E:Nat)) (hk:E≤cap)
  (h:wpList Tryd.prog ops Q rest (a.put o.dst (.slice (some ⟨b,k,none⟩) 64 (cap - k))) w):wpList Tryd.prog ops Q (o :: rest) a w:=by
 obtain ⟨i,hi',hsz⟩:=Option.map_eq_some_iff.1 info5
 refine yB1 hgd _ w ?_ h
 have h1:¬ cap=k:=by omega
 have h2:k≤E:=by omega
 have h3:E - k=64:=by omega
 simp [execOp,ho,hx,hlo,hhi,Instr.sliceAt,Instr.slice,run_underlying Tryd.underlying38,Instr.sliceBounds,Instr.sliceBound,asIntOf,sizeOf,typeInfo,hi',hsz,hk,h1,h2,h3,yB8]
theorem run_build25:(Instr.build 52 #[]).run Tryd.prog w = .ok (.agg (yB4 32).toArray) w:=by
 kernel_rfl
theorem wpList_build25 (hgd:o.guard=none) (ho:o.op = .build 52 #[]) (h:wpList Tryd.prog ops Q rest (a.put o.dst (.agg (yB4 32).toArray)) w):wpList Tryd.prog ops Q (o :: rest) a w :=
 yB1 hgd _ w (by simp [execOp,ho,run_build25]) h
end
theorem BOwn.shape {w:World} {base:Nat} {v:Value} {cs:List Nat} (h:BOwn w base v cs) (hne:0<cs.length):∃g cap,v = .slice (some ⟨g,0,none⟩) cs.length cap∧cs.length≤cap∧base≤g∧g<w.heap.size∧∀j,j<cs.length→w.cell? ⟨g,j,none⟩=some (.int .u8 (cs.getD j 0:Nat)):=by
 rcases h.2 with ⟨rfl,h0⟩|⟨g,cap,cur,rfl,_,hg,hcap,hmax,hsz,htake⟩
 ·omega
 ·have hlt:=h.lt g rfl
  refine ⟨g,cap,rfl,hcap,hlt.1,hlt.2,fun j hj => ?_⟩
  have h2:=h.cells (g:=g) rfl j _ (yC4 cs j hj)
  rw [yB8,Nat.zero_add] at h2
  exact h2
theorem out_at (V:Sha.W8) (k:Nat) (hk:k<32):(Sha.yH0 V).getD k 0=(V.list.getD (k / 4) 0).toNat / 2 ^ (24 - 8 * (k % 4)) % 256:=by
 rcases (show k=0∨k=1∨k=2∨k=3∨k=4∨k=5∨k=6∨k=7∨k=8∨k=9∨k=10∨k=11∨k=12∨k=13∨k=14∨k=15∨k=16∨k=17∨k=18∨k=19∨k=20∨k=21∨k=22∨k=23∨k=24∨k=25∨k=26∨k=27∨k=28∨k=29∨k=30∨k=31 by omega) with rfl|rfl|rfl|rfl|rfl|rfl|rfl|rfl|rfl|rfl|rfl|rfl|rfl|rfl|rfl|rfl|rfl|rfl|rfl|rfl|rfl|rfl|rfl|rfl|rfl|rfl|rfl|rfl|rfl|rfl|rfl|rfl
 all_goals first|rfl|exact (congrArg (· % 256) (Nat.div_one _)).symm
def textTo (cs:List Nat) (k:Nat):List Nat:=cs++([128]++List.replicate k 0)
theorem yL0 (cs:List Nat) (k:Nat):(textTo cs k).length=cs.length+1+k:=by simp [textTo];omega
theorem textTo_next (cs:List Nat) (k:Nat):textTo cs (k+1)=textTo cs k++[0]:=by
 unfold textTo
 rw [List.replicate_succ',List.append_assoc,List.append_assoc]
theorem textTo_zero (cs:List Nat):textTo cs 0=cs++[128]:=by simp [textTo]
theorem textTo_all (cs:List Nat):textTo cs (Sha.zeros cs.length)=cs++endTo cs.length 0:=by simp [textTo,endTo]
theorem text_lt (cs:List Nat) (hc:∀j:Nat,cs.getD j 0<256) (k:Nat):∀j:Nat,(cs++endTo cs.length k).getD j 0<256:=by
 intro j
 by_cases hj:j<cs.length
 ·have:=hc j
  simpa [List.getElem?_append_left hj] using this
 ·by_cases hj2:j - cs.length<(endTo cs.length k).length
  ·have hm:(endTo cs.length k)[j - cs.length]∈Sha.pad cs.length:=by
    rw [←endTo_all]
    unfold endTo
    have h1:(endTo cs.length k)[j - cs.length]∈endTo cs.length k:=List.getElem_mem hj2
    unfold endTo at h1
    rcases List.mem_append.1 h1 with h1|h1
    ·exact List.mem_append_left _ h1
    ·refine List.mem_append_right _ ?_
     rw [List.take_of_length_le (by simp [Sha.lenBytes])]
     exact List.mem_of_mem_take h1
   have:=pad_lt cs.length _ hm
   simpa [List.getElem?_append_right (Nat.le_of_not_lt hj),hj2] using this
  ·simp [List.getElem?_append_right (Nat.le_of_not_lt hj),hj2]
end Go.Proofs.YtpkkkkomdblpoaaDoor.Sh

namespace Go.Proofs.YtpkkkkomdblpoaaDoor.Sh
open Go.RowKit
theorem sliceIn_one (w:World) (X:Int) (c:Nat) (hX:X=(c:Nat)) (hc:c<256):yA3 (w.alloc (.cells #[.int .u8 X] 5)) (.slice (some ⟨w.heap.size,0,none⟩) 1 1) [c]:=by
 subst hX
 have hr:=Row.new w 5 [.int .u8 (c:Nat)]
 refine ⟨_,1,rfl,⟨Nat.le_refl _,by simp⟩,Or.inr ⟨w.heap.size,0,rfl,fun j hj => ?_,fun j => ?_⟩⟩
 ·have hj0:j=0:=by simp at hj;omega
  subst hj0
  exact hr.at 0 _ rfl
 ·cases j with
  | zero=>simpa using hc
  | succ j=>simp
section
variable {w:World} {ops:Array Oper} {rest:List Oper} {o:Oper} {a:Act} {Q:Exit→Act→World→Prop}
theorem run_start:(Instr.buildSlice 164 8 #[(0,.int .u32 1779033703),(1,.int .u32 3144134277),(2,.int .u32 1013904242),(3,.int .u32 2773480762),(4,.int .u32 1359893119),(5,.int .u32 2600822924),(6,.int .u32 528734635),(7,.int .u32 1541459225)]).run Tryd.prog w = .ok (.slice (some ⟨w.heap.size,0,none⟩) 8 8) (w.alloc (.cells (yC2 Sha.start.list).toArray 161)):=by
 kernel_rfl
theorem wpList_start (hgd:o.guard=none) (ho:o.op = .buildSlice 164 8 #[(0,.const (.int .u32 1779033703)),(1,.const (.int .u32 3144134277)),(2,.const (.int .u32 1013904242)),(3,.const (.int .u32 2773480762)),(4,.const (.int .u32 1359893119)),(5,.const (.int .u32 2600822924)),(6,.const (.int .u32 528734635)),(7,.const (.int .u32 1541459225))])
  (h:∀w',VIn w' (.slice (some ⟨w.heap.size,0,none⟩) 8 8) Sha.start→Below w.heap.size w w'→wpList Tryd.prog ops Q rest (a.put o.dst (.slice (some ⟨w.heap.size,0,none⟩) 8 8)) w'):wpList Tryd.prog ops Q (o :: rest) a w :=
 yB1 hgd _ _ (by simp [execOp,ho,Act.eval,run_start]) (h (w.alloc (.cells (yC2 Sha.start.list).toArray 161)) (VIn.new w Sha.start) ((Below.refl _ _).alloc (Nat.le_refl _) _))
end
set_option maxHeartbeats 600000 in
set_option maxRecDepth 100000 in
theorem refSum_any (v:Value) (cs:List Nat) (w:World) (hv:yA3 w v cs) (hlen:cs.length+128≤140737488355328) :
  Calls Tryd.prog 71 #[v] w fun e w'=>e = .returned (.agg (yA0 (Sha.sha cs)).toArray)∧Below w.heap.size w w':=by
 have hby:=hv.bytes
 go_enter Tryd.func71,Tryd.ntmps71
 go_upto_region 0 with fail
 refine wp_region_lit ?_
 refine yD2 (yB4 32) zero25 rfl rfl ?_
 intro w1 r1 s1 b1
 refine wpList_nil ?_
 go_upto_region 1 with fail
 refine wp_region_lit ?_
 refine wpList_litb0 rfl rfl ?_
 intro w2 o2 s2 b2
 refine yC7 (.tmp 0) rfl rfl _ rfl ?_
 refine yG6 (.tmp 10) (.tmp 11) rfl rfl w1.heap.size _ v [] cs rfl o2 rfl ((hv.later b1).later b2) (by simp;omega) (by omega) ?_
 intro v3 w3 o3 b3
 rw [List.nil_append] at o3
 go_upto_region 2 with fail
 refine wp_region_lit ?_
 refine yC7 (.tmp 3) rfl rfl _ rfl ?_
 refine wpList_litb1 (.const (.int .u8 128)) rfl rfl 128 (by decide) rfl ?_
 intro w4 l4 s4 b4
 refine yG6 (.tmp 13) (.tmp 14) rfl rfl w1.heap.size _ _ cs [128] rfl (o3.later b4 (Nat.le_refl _)) rfl l4 (by simp;omega) (by have:=b2.size;have:=b3.size;omega) ?_
 intro v5 w5 o5 b5
 have hbase:w1.heap.size≤w5.heap.size:=by have:=b2.size;have:=b3.size;have:=b5.size;omega
 have b15:Below w1.heap.size w1 w5:=b2.trans (b3.trans ((b4.mono (by have:=b2.size;have:=b3.size;omega)).trans b5))
 have r5:Row w5 w.heap.size 52 (yB4 32):=r1.later b15 (by omega)
 have hb5:Below w.heap.size w w5:=b1.trans (b15.mono (by omega))
 obtain ⟨g2,hg2⟩:∃g2,g2=w.heap.size:=⟨_,rfl⟩
 obtain ⟨base,hbs⟩:∃base,base=w1.heap.size:=⟨_,rfl⟩
 obtain ⟨z,hz⟩:∃z,z=Sha.zeros cs.length:=⟨_,rfl⟩
 rw [←textTo_zero,←hbs] at o5
 rw [←hg2] at r5 ⊢
 have hgb:g2<base:=by omega
 have HT:Hid (BOwn w5 base v5 (textTo cs 0)∧Row w5 g2 52 (yB4 32)∧Below w.heap.size w w5∧base≤w5.heap.size):=⟨o5,r5,hb5,by omega⟩
 have HG2:Hid (g2=w.heap.size):=hg2
 have HZ:Hid (z=Sha.zeros cs.length):=hz
 have hz2:z<64∧(cs.length+1+z) % 64=56:=by rw [hz];unfold Sha.zeros;omega
 obtain ⟨p,cap,rfl,hcap,_⟩:=hv
 clear o2 s2 b2 o3 b3 l4 s4 b4 o5 b5 hbase b15 r5 hb5 hg2 hbs hz r1 s1 b1
 go_wp2
 go_loopw [3] (fun st W => ∃k:Nat,k≤z∧BOwn W base st (textTo cs k)∧Row W g2 52 (yB4 32)∧Below w.heap.size w W∧base≤W.heap.size) (fun st _=>cs.length+1+z - sliceLen st)
 case atStart=>exact ⟨0,Nat.zero_le _,HT.out⟩
 case round =>
  clear HT
  obtain ⟨k,hk,ho,hr2,hbl,hbs⟩:=hrel
  obtain ⟨g,capt,rfl,_,_⟩:=ho.shape (by rw [yL0];omega)
  have HO:Hid (BOwn wr base (.slice (some ⟨g,0,none⟩) (textTo cs k).length capt) (textTo cs k)):=ho
  have HR2:Hid (Row wr g2 52 (yB4 32)):=hr2
  have HBL:Hid (Below w.heap.size w wr∧base≤wr.heap.size):=⟨hbl,hbs⟩
  rw [yL0] at HO ⊢
  clear ho hr2 hbl hbs
  by_cases hlt:k<z
  ·have hne:¬ ((cs.length+1+k:Nat):Int) % 64=56:=by omega
   go_upto_region 4 with fail
   refine wp_region_lit ?_
   refine yC7 (.tmp 3) rfl rfl _ rfl ?_
   refine wpList_litb1 (.const (.int .u8 0)) rfl rfl 0 (by decide) rfl ?_
   intro w6 l6 s6 b6
   refine yG6 (.tmp 20) (.tmp 21) rfl rfl base _ _ (textTo cs k) [0] rfl (HO.out.later b6 (Nat.le_refl _)) rfl l6 (by rw [yL0];simp;omega) (Nat.le_trans HBL.out.2 b6.size) ?_
   intro v' w' o' b'
   rw [←textTo_next] at o'
   obtain ⟨g',cap',rfl,_,_⟩:=o'.shape (by rw [yL0];omega)
   have hm:sliceLen (.slice (some ⟨g',0,none⟩) (textTo cs (k+1)).length cap')=cs.length+1+(k+1):=yL0 cs (k+1)
   have HM:Hid (sliceLen (.slice (some ⟨g',0,none⟩) (textTo cs (k+1)).length cap')=cs.length+1+(k+1)):=hm
   have HO':Hid (BOwn w' base (.slice (some ⟨g',0,none⟩) (textTo cs (k+1)).length cap') (textTo cs (k+1))):=o'
   have HBL':Hid (Below w.heap.size w w'∧base≤w'.heap.size∧Row w' g2 52 (yB4 32)):=⟨HBL.out.1.trans ((b6.mono (HBL.out.1.size)).trans (b'.mono (by have:=HG2.out;omega))),Nat.le_trans HBL.out.2 (Nat.le_trans b6.size b'.size),(HR2.out.later b6 HR2.out.lt).later b' hgb⟩
   clear hm o' b' l6 s6 b6
   go_wp2
   exact ⟨⟨k+1,hlt,HO'.out,HBL'.out.2.2,HBL'.out.1,HBL'.out.2.1⟩,by rw [HM.out];simp [sliceLen];omega⟩
  ·obtain rfl:k=z:=by omega
   have heq:(((cs.length:Int)+1+(k:Int)) % 64 != 56)=false:=by simp;omega
   have HO2:Hid (BOwn wr base (.slice (some ⟨g,0,none⟩) (cs.length+1+k) capt) (cs++endTo cs.length 0)):=by
    rw [←textTo_all,←HZ.out]
    exact HO.out
   clear HO
   obtain ⟨L,hL⟩:∃L,L=cs.length:=⟨_,rfl⟩
   have HL:Hid (L=cs.length):=hL
   rw [←hL] at heq hlen hcap hz2 ⊢
   clear hL
   have h8:8 * L<18446744073709551616:=by omega
   go_wp2
   go_loopw [3,5] (fun st i W => ∃(ii:Int) (k:Nat),k≤8∧i = .int .i64 ii∧Hid (ii=7 - (k:Int))∧BOwn W base st (cs++endTo cs.length k)∧Row W g2 52 (yB4 32)∧Below w.heap.size w W∧base≤W.heap.size) (fun _ i _=>(intOf i+1).toNat)
   case atStart=>exact ⟨7,0,by omega,rfl,rfl,by rw [HL.out];exact HO2.out,HR2.out,HBL.out⟩
   case round =>
    clear HO2 HR2 HBL
    obtain ⟨ii,k,hk,rfl,HI,ho,hr2,hbl,hbs⟩:=hrel
    have HO:Hid (BOwn wr base u3 (cs++endTo cs.length k)):=ho
    have HR2:Hid (Row wr g2 52 (yB4 32)):=hr2
    have HBL:Hid (Below w.heap.size w wr∧base≤wr.heap.size):=⟨hbl,hbs⟩
    clear ho hr2 hbl hbs
    by_cases hlt:k<8
    ·have hi0:0≤ii:=by have:=HI.out;omega
     have hi7:ii≤7:=by have:=HI.out;omega
     have HC:Hid (8 * (L:Int) / 2 ^ (8 * ii).toNat % 256=((8 * cs.length / 2 ^ (8 * (7 - k)) % 256:Nat):Int)):=by
      show _=_
      rw [show (8 * ii).toNat=8 * (7 - k) by have:=HI.out;omega,Int.natCast_emod,Int.natCast_ediv,Int.natCast_mul,Int.natCast_pow,HL.out]
      rfl
     have hel:=endTo_length cs.length k hk
     have HBND:Hid ((cs++endTo cs.length k).length+1≤140737488355328):=by
      show _≤_
      have:=HL.out
      have:Sha.zeros cs.length<64:=by unfold Sha.zeros;omega
      rw [List.length_append,hel]
      omega
     clear hel
     go_wp2_with (at_builtin;refine yG6 (.tmp 31) (.tmp 37) rfl rfl base u3 _ (cs++endTo cs.length k) [8 * cs.length / 2 ^ (8 * (7 - k)) % 256] rfl (HO.out.later ((Below.refl _ _).alloc (Nat.le_refl _) _) (Nat.le_refl _)) rfl (sliceIn_one wr _ _ HC.out (Nat.mod_lt _ (by decide))) HBND.out (Nat.le_trans HBL.out.2 (by simp)) ?_;intro v' w' o' b';rw [List.append_assoc,←endTo_next _ _ hlt] at o';have HO':Hid (BOwn w' base v' (cs++endTo cs.length (k+1))):=o';have HBL':Hid (Below w.heap.size w w'∧base≤w'.heap.size∧Row w' g2 52 (yB4 32)):=⟨(HBL.out.1.alloc HBL.out.1.size _).trans (b'.mono (by have:=HG2.out;omega)),Nat.le_trans HBL.out.2 (Nat.le_trans (by simp) b'.size),(HR2.out.alloc _).later b' hgb⟩;clear o' b')
     exact ⟨⟨ii - 1,k+1,by omega,rfl,(by have:=HI.out;show _=_;omega),HO'.out,HBL'.out.2.2,HBL'.out.1,HBL'.out.2.1⟩,by simp [intOf];omega⟩
    ·obtain rfl:k=8:=by omega
     have hi0:ii<0:=by have:=HI.out;omega
     have ho:=HO.out
     rw [endTo_all] at ho
     obtain ⟨T,hT⟩:∃T,T=cs++Sha.pad cs.length:=⟨_,rfl⟩
     have hTl:T.length % 64=0:=by rw [hT,List.length_append];exact Sha.pad_fits _
     have hTb:∀j:Nat,T.getD j 0<256:=by rw [hT,←endTo_all];exact text_lt cs hby 8
     have hTpos:0<T.length:=by rw [hT,List.length_append,Sha.pad_length];omega
     have hTmax:T.length≤140737488355328:=by
      have:=HL.out
      have:Sha.zeros cs.length<64:=by unfold Sha.zeros;omega
      rw [hT,List.length_append,Sha.pad_length]
      omega
     rw [←hT] at ho
     have HTT:Hid (T=cs++Sha.pad cs.length):=hT
     obtain ⟨gt,capt2,rfl,hcapt,hgt1,hgt2,hct⟩:=ho.shape hTpos
     have hbt:BytesIn wr gt 0 T:=⟨fun j hj=>by rw [Nat.zero_add];exact hct j hj,hTb⟩
     clear ho HO hT hct HI hby
     go_upto_region 10 with fail
     refine wp_region_lit ?_
     refine wpList_start rfl rfl ?_
     intro w6 vi6 b6
     have HV6:Hid (VIn w6 (.slice (some ⟨wr.heap.size,0,none⟩) 8 8) (Sha.runB T 0 Sha.start)):=vi6
     have HB6:Hid (Below w.heap.size w w6∧Row w6 g2 52 (yB4 32)∧BytesIn w6 gt 0 T):=⟨HBL.out.1.trans (b6.mono HBL.out.1.size),HR2.out.later b6 HR2.out.lt,hbt.later b6⟩
     clear vi6 b6 HBL HR2 hbt hgt2 hgt1
     go_wp2
     go_loopw [6,7] (fun sh i W => ∃k K:Nat,Hid (K=64 * k)∧K≤T.length∧i = .int .i64 K∧VIn W sh (Sha.runB T k Sha.start)∧Below w6.heap.size w6 W) (fun _ i _=>T.length - (intOf i).toNat)
     case atStart=>exact ⟨0,0,rfl,Nat.zero_le _,rfl,HV6.out,Below.refl _ _⟩
     case round =>
      clear HV6
      obtain ⟨k,K,HK,hKl,rfl,hv,hb7⟩:=hrel
      have HB7:Hid (Below _ _ wr):=hb7
      by_cases hlt:K<T.length
      ·obtain ⟨gh,caph,rfl,hgh,hch⟩:=hv
       have hK64:K+64≤T.length:=by have:=HK.out;omega
       have hKi:(K:Int)<(T.length:Int):=by omega
       have hpl:((T.drop K).take 64).length=64:=by rw [List.length_take,List.length_drop];omega
       have hbp:BytesIn wr gt K ((T.drop K).take 64):=by
        have hbw:=HB6.out.2.2.later hb7
        refine ⟨fun j hj => ?_,fun j => ?_⟩
        ·rw [hpl] at hj
         have:=hbw.1 (K+j) (by omega)
         rw [Nat.zero_add] at this
         rw [this]
         simp [hj]
        ·by_cases hj:j<64
         ·have:=hbw.2 (K+j)
          simpa [hj] using this
         ·rw [List.getD_eq_getElem?_getD,List.getElem?_eq_none (by rw [hpl];omega)]
          decide
       have hcall:=piece_any gh caph gt K (capt2 - K) (Sha.runB T k Sha.start) _ wr hch hpl hbp
       have HCALL:Hid (Calls Tryd.prog 89 #[.slice (some ⟨gh,0,none⟩) 8 caph,.slice (some ⟨gt,K,none⟩) 64 (capt2 - K)] wr fun e w' => ∃v',e = .returned v'∧WOwn w' wr.heap.size v' (Sha.comp (Sha.runB T k Sha.start) ((T.drop K).take 64)).list∧Below wr.heap.size wr w'):=hcall
       have HN:Hid (Sha.runB T (k+1) Sha.start=Sha.comp (Sha.runB T k Sha.start) ((T.drop K).take 64)):=by
        show _=_
        rw [Sha.runB,HK.out]
       clear hcall hch hbp hpl hb7
       go_wp2_with (first|(go_at_call 89;refine HCALL.out.mono ?_;rintro e w' ⟨v',rfl,o',b'⟩)|(refine wpList_piece (.tmp 47) (.tmp 48) (.tmp 50) rfl rfl gt T.length capt2 K rfl rfl (K+64) rfl rfl (Nat.le_trans hK64 hcapt) ?_))
       have hv2:VIn w' v' (Sha.runB T (k+1) Sha.start):=by
        rw [HN.out]
        exact o'.vIn
       exact ⟨⟨k+1,K+64,(by have:=HK.out;show _=_;omega),hK64,by go_num,hv2,HB7.out.trans (b'.mono HB7.out.size)⟩,by simp [intOf];omega⟩
      ·obtain rfl:K=T.length:=by omega
       obtain ⟨V,hV⟩:∃V,V=Sha.full T:=⟨_,rfl⟩
       have hkT:k=T.length / 64:=by have:=HK.out;omega
       rw [hkT] at hv
       have hv2:VIn wr u6 V:=by
        rw [hV]
        exact hv
       obtain ⟨gh,caph,rfl,hgh,hch⟩:=hv2
       have hB8:=HB6.out.1.trans (hb7.mono HB6.out.1.size)
       have hR8:=HB6.out.2.1.later hb7 HB6.out.2.1.lt
       have HV:Hid (V=Sha.full T):=hV
       clear hv hV hkT HK HB6 HB7 hb7 hTb hTl hTpos
       go_upto_region 15 with fail
       refine wp_region_lit ?_
       refine wpList_build25 rfl rfl ?_
       refine yD2 (yB4 32) zero25 rfl rfl ?_
       intro w8 r8 s8 b8
       refine yE1 agg25 (.tmp 8) (.tmp 53) rfl rfl rfl wr.heap.size 0 52 rfl (yB4 32) (yB4 32) rfl (by simp [yB4]) r8 (by simp) (by intro v hv;rw [(List.mem_replicate.1 hv).2];rfl) ?_
       refine wpList_nil ?_
       rw [yB7 _ _ rfl]
       obtain ⟨g8,hg8⟩:∃g8,g8=wr.heap.size:=⟨_,rfl⟩
       have r9:=r8.setRow (yB4 32)
       have b9:=below_setRow (b8) (Nat.le_refl _) (yB4 32).toArray
       rw [←hg8] at r9 b9 ⊢
       generalize w8.setRow g8 (yB4 32).toArray=w9 at *
       rw [hg8] at b9
       have H9:Hid (Row w9 g8 52 (fillB ((Sha.yH0 V).take 0) (32 - 0))∧Row w9 g2 52 (yB4 32)∧Below w.heap.size w w9∧(∀j,j<8→w9.cell? ⟨gh,j,none⟩=some (.int .u32 (Sha.U (V.list.getD j 0))))):=⟨r9,hR8.later b9 hR8.lt,hB8.trans (b9.mono hB8.size),fun j hj=>cell_later b9 (hch j hj)⟩
       have hne:g8≠g2:=by have:=hR8.lt;omega
       have hne2:gh≠g8:=by omega
       have HLE:Hid (w.heap.size≤g8):=by show _≤_;rw [hg8];exact hB8.size
       clear r8 s8 b8 r9 b9 hg8 hR8 hB8 hch hgh
       go_wp2
       go_loopw [9] (fun i W => ∃k:Nat,k≤32∧i = .int .i64 k∧Row W g8 52 (fillB ((Sha.yH0 V).take k) (32 - k))∧Row W g2 52 (yB4 32)∧Below w.heap.size w W∧(∀j,j<8→W.cell? ⟨gh,j,none⟩=some (.int .u32 (Sha.U (V.list.getD j 0))))) (fun i _=>32 - (intOf i).toNat)
       case atStart=>exact ⟨0,Nat.zero_le _,rfl,H9.out⟩
       case round =>
        clear H9
        obtain ⟨k,hk,rfl,r8,r2,bl,hch⟩:=hrel
        have hol:(Sha.yH0 V).length=32:=by rw [←outTo_all,outTo_length _ _ (Nat.le_refl _)]
        have htl:((Sha.yH0 V).take k).length=k:=by rw [List.length_take];omega
        by_cases hlt:k<32
        ·obtain ⟨q,hq⟩:∃q,q=k / 4:=⟨_,rfl⟩
         obtain ⟨r,hr⟩:∃r,r=k % 4:=⟨_,rfl⟩
         have hq4:(k:Int) / 4=(q:Int):=by omega
         have hr4:(k:Int) % 4=(r:Int):=by omega
         obtain ⟨sh,hs⟩:∃sh,sh=24 - 8 * r:=⟨_,rfl⟩
         have hs4:(24:Int) - 8 * (r:Int)=(sh:Int):=by omega
         have hq8:q<8:=by omega
         have hsle:sh≤24:=by omega
         have cq:=hch q hq8
         have HX:Hid ((Sha.yH0 V).take (k+1)=(Sha.yH0 V).take k++[(V.list.getD q 0).toNat / 2 ^ sh % 256]):=by
          show _=_
          have e:(Sha.yH0 V).getD k 0=(V.list.getD q 0).toNat / 2 ^ sh % 256:=by rw [hq,hs,hr];exact out_at V k hlt
          rw [←e]
          have hkl:k<(Sha.yH0 V).length:=by omega
          rw [List.take_succ_eq_append_getElem hkl]
          simp [hkl]
         have R8:Hid (Row wr g8 52 (fillB ((Sha.yH0 V).take k) (32 - k))):=r8
         have R2:Hid (Row wr g2 52 (yB4 32)):=r2
         have BL:Hid (Below w.heap.size w wr):=bl
         have HCH:Hid (∀j,j<8→wr.cell? ⟨gh,j,none⟩=some (.int .u32 (Sha.U (V.list.getD j 0)))):=hch
         have f8:=r8.frozen k
         have HTL:Hid (((Sha.yH0 V).take k).length=k):=htl
         obtain ⟨z8,e8⟩:∃z,wr.cell? ⟨g8,k,none⟩=some z:=⟨_,r8.at _ _ (List.getElem?_eq_getElem (by rw [fillB_length,htl];omega))⟩
         clear r8 r2 bl hch hq hr hs htl hol
         generalize V.list.getD q 0=x at *
         go_wp2
         refine ⟨⟨k+1,by omega,by go_num,?_,R2.out.setCell_other (fun h=>hne h.symm) _ _,BL.out.setCell HLE.out _,fun j hj => ?_⟩,by simp [intOf];omega⟩
         ·have h1:=R8.out.setCell k (.int .u8 (Sha.U x / 2 ^ sh % 256))
          have e:Sha.U x / 2 ^ sh % 256=((x.toNat / 2 ^ sh % 256:Nat):Int):=by
           unfold Sha.U
           rw [Int.natCast_emod,Int.natCast_ediv,Int.natCast_pow]
           rfl
          have h2:=fillB_set ((Sha.yH0 V).take k) (32 - (k+1)) (x.toNat / 2 ^ sh % 256)
          rw [HTL.out,←e,show 32 - (k+1)+1=32 - k by omega,←HX.out] at h2
          rw [h2] at h1
          exact h1
         ·rw [World.cell?_setCell_other _ _ _ _ (fun h=>hne2 (congrArg Addr.block h).symm)]
          exact HCH.out j hj
        ·obtain rfl:k=32:=by omega
         have r4:Row wr g8 52 (yA0 (Sha.sha cs)):=by
          rw [List.take_of_length_le (by omega),HV.out,HTT.out] at r8
          have h':Row wr g8 52 (yA0 (Sha.yH0 (Sha.full (cs++Sha.pad cs.length)))):=by simpa [fillB,yB4] using r8
          exact h'
         have hl32:(yA0 (Sha.sha cs)).length=32:=by rw [yA1,sha_length]
         clear r8 hch hol htl
         go_upto_region 20 with fail
         refine wp_region_lit ?_
         refine yG5 agg25 (.tmp 8) rfl rfl _ _ rfl (yA0 (Sha.sha cs)) hl32 (fun j u hu=>by rw [Nat.zero_add];exact r4.at j u hu) ?_
         refine yE1 agg25 (.tmp 2) (.tmp 71) rfl rfl rfl g2 0 52 rfl (yA0 (Sha.sha cs)) (yB4 32) rfl hl32 r2 (by rw [hl32];simp [yB4]) (yB2 _) ?_
         refine wpList_nil ?_
         rw [yB7 _ _ (by rw [hl32];simp [yB4])]
         have hr:=r2.setRow (yA0 (Sha.sha cs))
         have hbl:=below_setRow bl (show w.heap.size≤g2 by have:=HG2.out;omega) (yA0 (Sha.sha cs)).toArray
         clear r2 bl r4
         go_wp2
         exact bodyPost_ret (yG2 agg25 Tryd.results71 _ _ g2 52 rfl _ hl32 hr) rfl ⟨rfl,hbl⟩
end Go.Proofs.YtpkkkkomdblpoaaDoor.Sh

/- The plain mathematics of CRC-32 over 32-bit words: one shift, four shifts by a table, a byte, rows of bytes; it imports nothing of the program. Words of 32 bits as the walk writes them: the register's operations, behind plain names. The walk of crc.More over bytes in memory: the sum of the document, bit by bit; where the bytes and the table lie is what it asks. The plain mathematics of frames: numbers as bytes, bytes as numbers, a frame, what bytes begin with. Slices of bytes in memory: what a slice value holds, what the call owns; the laws of len, cutting, append, make, copy, index for such values. The check sums over any slice of bytes; bytes written and read as numbers. -/
import Derived.Laws.BitsAllLaws
import Derived.Test.YtpkkkkomdblpoaaDoorRows
import Derived.WalkKit
import Derived.WalkSpells
import Derived.WalkLawsBesides
import Derived.Laws.CopyOwn
import Derived.Laws.BytesArg
namespace Go.Proofs.YtpkkkkomdblpoaaDoor.Fr.Crc
def step (r:BitVec 32):BitVec 32:=if r.getLsbD 0 then (r >>> 1) ^^^ 0xedb88320#32 else r >>> 1
def steps:Nat→BitVec 32→BitVec 32
 | 0,r=>r
 | n+1,r=>steps n (step r)
def byteStep (r:BitVec 32) (c:Nat):BitVec 32:=steps 8 (r ^^^ BitVec.ofNat 32 c)
def run (r:BitVec 32) (cs:List Nat):BitVec 32:=cs.foldl byteStep r
def more (sum:BitVec 32) (cs:List Nat):BitVec 32 := ~~~ (run (~~~ sum) cs)
theorem step_xor (a b:BitVec 32):step (a ^^^ b)=step a ^^^ step b:=by
 unfold step
 rw [BitVec.ushiftRight_xor_distrib,BitVec.getLsbD_xor]
 cases a.getLsbD 0 <;> cases b.getLsbD 0 <;> simp
 ·rw [BitVec.xor_assoc]
 ·rw [BitVec.xor_assoc,BitVec.xor_assoc,BitVec.xor_comm (b >>> 1)]
 ·rw [BitVec.xor_assoc,←BitVec.xor_assoc 0xedb88320#32,BitVec.xor_comm 0xedb88320#32,BitVec.xor_assoc (b >>> 1),BitVec.xor_self,BitVec.xor_zero]
theorem steps_xor (n:Nat):∀a b:BitVec 32,steps n (a ^^^ b)=steps n a ^^^ steps n b:=by
 induction n with
 | zero=>intro a b;rfl
 | succ n ih=>intro a b;simp only [steps];rw [step_xor,ih]
theorem steps_add (m n:Nat):∀r,steps (m+n) r=steps n (steps m r):=by
 induction m with
 | zero=>intro r;simp [steps]
 | succ m ih=>intro r;rw [Nat.succ_add];simp only [steps];rw [ih]
theorem step_even (y:BitVec 32) (h:y.getLsbD 0=false):step y=y >>> 1:=by
 unfold step
 rw [h]
 simp
theorem low_zero (r:BitVec 32) (i j:Nat) (hi:i+j<4):((r &&& 0xfffffff0#32) >>> i).getLsbD j=false:=by
 have h:∀k:Fin 4,(0xfffffff0#32).getLsbD k.val=false:=by decide
 have:=h ⟨i+j,hi⟩
 simp only [BitVec.getLsbD_ushiftRight,BitVec.getLsbD_and]
 simp only at this
 rw [this];simp
theorem steps_high (r:BitVec 32):steps 4 (r &&& 0xfffffff0#32)=r >>> 4:=by
 have e1:step (r &&& 0xfffffff0#32)=(r &&& 0xfffffff0#32) >>> 1:=step_even _ (low_zero r 0 0 (by omega))
 have e2:step ((r &&& 0xfffffff0#32) >>> 1)=(r &&& 0xfffffff0#32) >>> 2:=by
  rw [step_even _ (low_zero r 1 0 (by omega)),←BitVec.shiftRight_add]
 have e3:step ((r &&& 0xfffffff0#32) >>> 2)=(r &&& 0xfffffff0#32) >>> 3:=by
  rw [step_even _ (low_zero r 2 0 (by omega)),←BitVec.shiftRight_add]
 have e4:step ((r &&& 0xfffffff0#32) >>> 3)=(r &&& 0xfffffff0#32) >>> 4:=by
  rw [step_even _ (low_zero r 3 0 (by omega)),←BitVec.shiftRight_add]
 simp only [steps]
 rw [e1,e2,e3,e4,BitVec.ushiftRight_and_distrib]
 apply BitVec.eq_of_getLsbD_eq
 intro i hi
 have h:∀k:Fin 28,(0xfffffff0#32 >>> 4).getLsbD k.val=true:=by decide
 by_cases hk:i<28
 ·have:=h ⟨i,hk⟩
  simp only at this
  rw [BitVec.getLsbD_and,this,Bool.and_true]
 ·rw [BitVec.getLsbD_and,BitVec.getLsbD_ushiftRight,BitVec.getLsbD_of_ge r (4+i) (by omega)]
  simp
def tab:List Nat:=[0,498536548,997073096,651767980,1994146192,1802195444,1303535960,1342533948,3988292384,4027552580,3604390888,3412177804,2607071920,2262029012,2685067896,3183342108]
theorem steps_low:∀k:Fin 16,steps 4 (BitVec.ofNat 32 k.val)=BitVec.ofNat 32 (tab.getD k.val 0):=by decide +kernel
theorem split_low (r:BitVec 32):r=BitVec.ofNat 32 (r.toNat % 16) ^^^ (r &&& 0xfffffff0#32):=by
 have e:BitVec.ofNat 32 (r.toNat % 16)=r &&& 0x0000000f#32:=by
  apply BitVec.eq_of_toNat_eq
  rw [BitVec.toNat_ofNat,BitVec.toNat_and]
  have:(0x0000000f#32).toNat=2 ^ 4 - 1:=by decide
  rw [this,Nat.and_two_pow_sub_one_eq_mod]
  omega
 rw [e]
 apply BitVec.eq_of_getLsbD_eq
 intro i hi
 have h:∀k:Fin 32,(0x0000000f#32).getLsbD k.val = !((0xfffffff0#32).getLsbD k.val):=by decide
 have:=h ⟨i,hi⟩
 simp only at this
 simp only [BitVec.getLsbD_xor,BitVec.getLsbD_and,this]
 cases r.getLsbD i <;> cases (0xfffffff0#32).getLsbD i <;> rfl
theorem steps_tab (r:BitVec 32):(r >>> 4) ^^^ BitVec.ofNat 32 (tab.getD (r.toNat % 16) 0)=steps 4 r:=by
 have h:=steps_low ⟨r.toNat % 16,Nat.mod_lt _ (by decide)⟩
 simp only at h
 rw [←h,←steps_high r,←steps_xor,BitVec.xor_comm]
 exact congrArg (steps 4) (split_low r).symm
theorem run_snoc (r:BitVec 32) (a:List Nat) (c:Nat):run r (a++[c])=byteStep (run r a) c:=by simp [run]
theorem more_nil (s:BitVec 32):more s []=s:=by simp [more,run]
end Go.Proofs.YtpkkkkomdblpoaaDoor.Fr.Crc

namespace Go.Proofs.YtpkkkkomdblpoaaDoor.Fr
namespace Crc
def U (a:BitVec 32):Int:=(a.toNat:Int)
def low (a:BitVec 32):Nat:=a.toNat % 16
def tabAt (a:BitVec 32):BitVec 32:=BitVec.ofNat 32 (tab.getD (low a) 0)
theorem U_xor (a b:BitVec 32):bits .xor .u32 (U a) (U b)=U (a ^^^ b):=by
 unfold U
 rw [u32_xor_nat _ _ a.isLt b.isLt,BitVec.toNat_xor]
theorem U_byte (a:BitVec 32) (c:Nat):bits .xor .u32 (U a) ((c:Int) % 4294967296)=U (a ^^^ BitVec.ofNat 32 c):=by
 have e:((c:Int) % 4294967296)=U (BitVec.ofNat 32 c):=by unfold U;rw [BitVec.toNat_ofNat];omega
 rw [e,U_xor]
theorem U_not (a:BitVec 32):bits .xor .u32 IntKind.u32.max (U a)=U (~~~ a):=by
 have e:IntKind.u32.max=U (BitVec.allOnes 32):=by decide
 rw [e,U_xor,BitVec.allOnes_xor]
theorem U_shr4 (a:BitVec 32):U a / (16:Int)=U (a >>> 4):=by
 unfold U
 rw [BitVec.toNat_ushiftRight,Nat.shiftRight_eq_div_pow]
 omega
theorem U_and15 (a:BitVec 32):bits .and .u32 (U a) 15=(low a:Int):=by
 have:=u32_and_nat a.toNat 15 a.isLt (by decide)
 unfold U low
 rw [show ((15:Nat):Int)=15 from rfl] at this
 rw [this,show (15:Nat)=2 ^ 4 - 1 from rfl,Nat.and_two_pow_sub_one_eq_mod]
theorem low_lt (a:BitVec 32):(low a:Int)<16:=by unfold low;omega
theorem low_lt' (a:BitVec 32):low a<16:=by unfold low;omega
def half (r:BitVec 32):BitVec 32:=r >>> 4 ^^^ tabAt r
theorem half_half (r:BitVec 32) (c:Nat):half (half (r ^^^ BitVec.ofNat 32 c))=byteStep r c:=by
 have h:∀x,half x=steps 4 x:=fun x=>steps_tab x
 rw [h,h,←steps_add]
 rfl
end Crc
end Go.Proofs.YtpkkkkomdblpoaaDoor.Fr

namespace Go.Proofs.YtpkkkkomdblpoaaDoor.Fr
open Go.RowKit
def intOf:Value→Int | .int _ q=>q|_=>0
def TabIn (w:World):Prop := ∀r:BitVec 32,w.cell? ⟨2,Crc.low r,none⟩=some (.int .u32 (Crc.U (Crc.tabAt r)))
def BytesIn (w:World) (b off:Nat) (cs:List Nat):Prop:=(∀j:Nat,j<cs.length→w.cell? ⟨b,off+j,none⟩=some (.int .u8 (cs.getD j 0:Nat)))∧∀j:Nat,cs.getD j 0<256
theorem run_take (s:BitVec 32) (cs:List Nat) (k:Nat) (h:k<cs.length):Crc.run s (cs.take (k+1))=Crc.half (Crc.half (Crc.run s (cs.take k) ^^^ BitVec.ofNat 32 cs[k])):=by
 rw [List.take_succ_eq_append_getElem h,Crc.run_snoc,Crc.half_half]
attribute [local go_sem] Crc.U_byte Crc.U_xor Crc.U_shr4 Crc.U_and15 Crc.low_lt in
set_option maxHeartbeats 400000 in
theorem more_some (s:BitVec 32) (b off cap:Nat) (cs:List Nat) (w:World) (hmax:cs.length≤9223372036854775807)
  (hc:BytesIn w b off cs) (ht:TabIn w) :
  Calls Tryd.prog 100 #[.int .u32 (Crc.U s),.slice (some ⟨b,off,none⟩) cs.length cap] w fun e w'=>e = .returned (.int .u32 (Crc.U (Crc.more s cs)))∧w'=w:=by
 obtain ⟨hc,hb⟩:=hc
 have ht':∀r:BitVec 32,w.cell? ⟨2,Crc.low r,none⟩=some (.int .u32 (Crc.U (Crc.tabAt r))):=ht
 go_enter Tryd.func100,Tryd.ntmps100
 go_wp2
 go_loop [5,7,12] (fun r c i => ∃k:Nat,k≤cs.length∧i = .int .i64 k∧r = .int .u32 (Crc.U (Crc.run (~~~ s) (cs.take k)))) (fun _ _ i=>cs.length - (intOf i).toNat)
 case atStart=>exact ⟨0,Nat.zero_le _,rfl,by rw [Crc.U_not];rfl⟩
 case round =>
  obtain ⟨k,hk,rfl,rfl⟩:=hrel
  by_cases hlt:k<cs.length
  ·have hck:=hc k hlt
   have hts:=run_take (~~~ s) cs k hlt
   have HS:Hid (Crc.run (~~~ s) (cs.take (k+1))=Crc.half (Crc.half (Crc.run (~~~ s) (cs.take k) ^^^ BitVec.ofNat 32 cs[k]))):=hts
   clear hc hb hts
   go_wp2
   go_round
   case rel=>exact ⟨k+1,by omega,by go_num,by rw [HS.out];rfl⟩
   case measure=>simp [intOf];omega
  ·go_wp2
   go_ret
   refine ⟨?_,rfl⟩
   rw [Crc.U_not,show k=cs.length by omega,List.take_length]
   rfl
end Go.Proofs.YtpkkkkomdblpoaaDoor.Fr



namespace Go.Proofs.YtpkkkkomdblpoaaDoor.Fr.Frame
def be:Nat→Nat→List Nat
 | 0,_=>[]
 | s+1,n=>(n / 256 ^ s % 256) :: be s n
theorem yE9 (s n:Nat):(be s n).length=s:=by
 induction s with
 | zero=>rfl
 | succ s ih=>simp [be,ih]
theorem be_lt (s n:Nat):∀c∈be s n,c<256:=by
 induction s with
 | zero=>intro c hc;simp [be] at hc
 | succ s ih =>
  intro c hc
  simp only [be,List.mem_cons] at hc
  rcases hc with rfl|hc
  ·omega
  ·exact ih c hc
theorem getD_lt {cs:List Nat} (h:∀c∈cs,c<256) (j:Nat):cs.getD j 0<256:=by
 by_cases hj:j<cs.length
 ·simpa [hj] using h _ (List.getElem_mem hj)
 ·simp [hj]
theorem mem_lt {cs:List Nat} (h:∀j:Nat,cs.getD j 0<256):∀c∈cs,c<256:=by
 intro c hc
 obtain ⟨j,hj,rfl⟩:=List.getElem_of_mem hc
 simpa [hj] using h j
def val (cs:List Nat):Nat:=cs.foldl (fun n c=>n * 256+c) 0
theorem foldl_val (cs:List Nat):∀n,cs.foldl (fun n c=>n * 256+c) n=n * 256 ^ cs.length+val cs:=by
 induction cs with
 | nil=>intro n;simp [val]
 | cons c cs ih =>
  intro n
  simp only [List.foldl_cons,val]
  rw [ih,ih (0 * 256+c),List.length_cons,Nat.pow_succ]
  rw [Nat.add_mul,Nat.add_mul,Nat.mul_assoc,Nat.mul_comm 256]
  simp only [Nat.zero_mul,Nat.zero_add]
  omega
theorem val_cons (c:Nat) (cs:List Nat):val (c :: cs)=c * 256 ^ cs.length+val cs:=by
 have:=foldl_val cs (0 * 256+c)
 rw [Nat.zero_mul,Nat.zero_add] at this
 show List.foldl (fun n c=>n * 256+c) (0 * 256+c) cs=_
 rw [Nat.zero_mul,Nat.zero_add]
 exact this
theorem val_snoc (cs:List Nat) (c:Nat):val (cs++[c])=val cs * 256+c:=by simp [val]
theorem val_lt (cs:List Nat) (h:∀c∈cs,c<256):val cs<256 ^ cs.length:=by
 induction cs with
 | nil=>simp [val]
 | cons c cs ih =>
  rw [val_cons,List.length_cons,Nat.pow_succ]
  have h1:=ih fun x hx=>h x (List.mem_cons_of_mem _ hx)
  have h2:=h c (List.mem_cons_self ..)
  have h3:(c+1) * 256 ^ cs.length≤256 * 256 ^ cs.length:=Nat.mul_le_mul_right _ (by omega)
  rw [Nat.add_mul,Nat.one_mul] at h3
  rw [Nat.mul_comm (256 ^ cs.length)]
  omega
theorem val_be (s n:Nat):val (be s n)=n % 256 ^ s:=by
 induction s with
 | zero=>simp [be,val];omega
 | succ s ih =>
  rw [be,val_cons,yE9,ih,Nat.pow_succ,Nat.mul_comm (n / 256 ^ s % 256)]
  rw [Nat.mod_mul]
  omega
theorem be_succ (s n:Nat):be (s+1) n=(n / 256 ^ s % 256) :: be s n:=rfl
def crc (cs:List Nat):Nat:=(Crc.more 0#32 cs).toNat
theorem crc_lt (cs:List Nat):crc cs<4294967296:=(Crc.more 0#32 cs).isLt
def body (kind:Nat) (cs:List Nat):List Nat:=be 4 cs.length++([kind]++cs)
def pack (kind:Nat) (cs:List Nat):List Nat:=body kind cs++be 4 (crc (body kind cs))
theorem body_length (kind:Nat) (cs:List Nat):(body kind cs).length=cs.length+5:=by simp [body,yE9];omega
theorem yG4 (kind:Nat) (cs:List Nat):(pack kind cs).length=cs.length+9:=by rw [pack,List.length_append,body_length,yE9]
theorem body_lt (kind:Nat) (cs:List Nat) (hk:kind<256) (h:∀c∈cs,c<256):∀c∈body kind cs,c<256:=by
 intro c hc
 simp only [body,List.mem_append,List.mem_singleton] at hc
 rcases hc with hc|rfl|hc
 ·exact be_lt _ _ c hc
 ·exact hk
 ·exact h c hc
theorem pack_lt (kind:Nat) (cs:List Nat) (hk:kind<256) (h:∀c∈cs,c<256):∀c∈pack kind cs,c<256:=by
 intro c hc
 simp only [pack,List.mem_append] at hc
 rcases hc with hc|hc
 ·exact body_lt kind cs hk h c hc
 ·exact be_lt _ _ c hc
def lenOf (bs:List Nat):Nat:=val (bs.take 4)
def okB (bs:List Nat):Bool:=decide (9≤bs.length∧lenOf bs≤bs.length - 9∧val ((bs.take (5+lenOf bs+4)).drop (5+lenOf bs))=crc (bs.take (5+lenOf bs)))
def kindOf (bs:List Nat):Nat:=if okB bs then bs.getD 4 0 else 0
def payOf (bs:List Nat):List Nat:=if okB bs then (bs.take (5+lenOf bs)).drop 5 else []
def restOf (bs:List Nat):List Nat:=if okB bs then bs.drop (5+lenOf bs+4) else []
def errOf (bs:List Nat):Nat:=if okB bs then 0 else 40
theorem lenOf_lt (bs:List Nat) (h:∀c∈bs,c<256):lenOf bs<4294967296:=by
 have h1:=val_lt (bs.take 4) fun c hc=>h c (List.mem_of_mem_take hc)
 have h2:(bs.take 4).length≤4:=by simp;omega
 have h3:256 ^ (bs.take 4).length≤256 ^ 4:=Nat.pow_le_pow_right (by decide) h2
 unfold lenOf
 omega
theorem okB_pack (kind:Nat) (cs rest:List Nat) (hsz:cs.length<4294967296):okB (pack kind cs++rest)=true∧lenOf (pack kind cs++rest)=cs.length:=by
 have hl:lenOf (pack kind cs++rest)=cs.length:=by
  unfold lenOf pack body
  rw [List.append_assoc,List.append_assoc,List.take_append_of_le_length (by rw [yE9];exact Nat.le_refl _),List.take_of_length_le (by rw [yE9];exact Nat.le_refl _),val_be]
  exact Nat.mod_eq_of_lt hsz
 refine ⟨?_,hl⟩
 unfold okB
 rw [hl]
 have hb:=body_length kind cs
 have h1:(pack kind cs++rest).take (5+cs.length)=body kind cs:=by
  unfold pack
  rw [List.append_assoc,List.take_append_of_le_length (by omega),List.take_of_length_le (by omega)]
 have h2:((pack kind cs++rest).take (5+cs.length+4)).drop (5+cs.length)=be 4 (crc (body kind cs)):=by
  have e:(pack kind cs++rest).take (5+cs.length+4)=pack kind cs:=by
   rw [List.take_append_of_le_length (by rw [yG4];omega),List.take_of_length_le (by rw [yG4];omega)]
  rw [e]
  unfold pack
  rw [List.drop_append_of_le_length (by omega),List.drop_of_length_le (by omega),List.nil_append]
 rw [h1,h2,val_be,Nat.mod_eq_of_lt (crc_lt _)]
 apply decide_eq_true
 refine ⟨by rw [List.length_append,yG4];omega,by rw [List.length_append,yG4];omega,?_⟩
 rfl
theorem back (kind:Nat) (cs rest:List Nat) (hsz:cs.length<4294967296) :
  kindOf (pack kind cs++rest)=kind∧payOf (pack kind cs++rest)=cs∧restOf (pack kind cs++rest)=rest∧errOf (pack kind cs++rest)=0:=by
 obtain ⟨hok,hl⟩:=okB_pack kind cs rest hsz
 have hb:=body_length kind cs
 unfold kindOf payOf restOf errOf
 rw [hok,hl]
 simp only [if_true]
 refine ⟨?_,?_,?_,trivial⟩
 ·unfold pack body
  rw [List.append_assoc,List.append_assoc,List.getD_eq_getElem?_getD,List.getElem?_append_right (by rw [yE9];exact Nat.le_refl _),yE9]
  rfl
 ·unfold pack
  rw [List.append_assoc,List.take_append_of_le_length (by omega),List.take_of_length_le (by omega)]
  unfold body
  rw [List.drop_append,List.drop_of_length_le (by rw [yE9];omega),yE9]
  rfl
 ·rw [List.drop_append,List.drop_of_length_le (by rw [yG4];omega),yG4,List.nil_append,show 5+cs.length+4 - (cs.length+9)=0 by omega,List.drop_zero]
theorem payOf_mem (bs:List Nat):∀c∈payOf bs,c∈bs:=by
 intro c hc
 unfold payOf at hc
 split at hc
 ·exact List.mem_of_mem_take (List.mem_of_mem_drop hc)
 ·simp at hc
theorem payOf_length (bs:List Nat):(payOf bs).length≤bs.length:=by
 unfold payOf
 split
 ·simp;omega
 ·simp
end Go.Proofs.YtpkkkkomdblpoaaDoor.Fr.Frame

namespace Go.Proofs.YtpkkkkomdblpoaaDoor.Fr
open Go.RowKit
def yA2 (w:World) (v:Value) (cs:List Nat):Prop :=
 ∃p cap,v = .slice p cs.length cap∧(cs.length≤cap∧cs.length≤9223372036854775807)∧(cs=[]∨∃b off,p=some ⟨b,off,none⟩∧BytesIn w b off cs)
def yA0 (cs:List Nat):List Value:=cs.map fun c=>Value.int .u8 (c:Nat)
theorem yA1 (cs:List Nat):(yA0 cs).length=cs.length:=by simp [yA0]
theorem yD0 (a b:List Nat):yA0 (a++b)=yA0 a++yA0 b:=by simp [yA0]
theorem yC3 (cs:List Nat) (j:Nat) (h:j<cs.length):(yA0 cs)[j]? = some (.int .u8 (cs.getD j 0:Nat)):=by simp [yA0,h]
theorem yB0 (cs:List Nat):∀v∈yA0 cs,v.oneCell'=true:=by
 intro v hv
 obtain ⟨c,_,rfl⟩:=List.mem_map.1 hv
 rfl
def BOwn (w:World) (base:Nat) (v:Value) (cs:List Nat):Prop:=w.ownsRow base 5 1 v cs.length (yA0 cs)
theorem yB7 (b o j:Nat):(⟨b,o,none⟩:Addr).add j=⟨b,o+j,none⟩:=by unfold Addr.add;split <;> simp_all
theorem info5:(Tryd.prog.info? 5).map (fun i=>(i.zero,i.size,i.bytes))=some (some (.int .u8 0),1,1):=by kernel_rfl
theorem size5:(Tryd.prog.info? 5).map (·.size)=some 1:=by kernel_rfl
theorem elem22:Tryd.prog.elem 38=5:=by kernel_rfl
theorem BytesIn.later {B:Nat} {w wx:World} {b off:Nat} {cs:List Nat} (hb:Below B w wx) (hlt:cs≠[]→b<B) (h:BytesIn w b off cs):BytesIn wx b off cs:=by
 refine ⟨fun j hj => ?_,h.2⟩
 have hb':b<B:=hlt (by rintro rfl;simp at hj)
 rw [hb.cell (p:=⟨b,off+j,none⟩) hb']
 exact h.1 j hj
theorem TabIn.later {w wx:World} (hb:Below w.heap.size w wx) (h:TabIn w):TabIn wx:=fun r=>cell_later hb (h r)
theorem BytesIn.lt {w:World} {b off:Nat} {cs:List Nat} (h:BytesIn w b off cs) (hne:cs≠[]):b<w.heap.size :=
 block_lt_of_cell (h.1 0 (by cases cs <;> simp_all))
theorem yA2.later {w wx:World} {v:Value} {cs:List Nat} (hb:Below w.heap.size w wx) (h:yA2 w v cs):yA2 wx v cs:=by
 obtain ⟨p,cap,rfl,hl,h⟩:=h
 refine ⟨p,cap,rfl,hl,?_⟩
 rcases h with h|⟨b,off,rfl,h⟩
 ·exact Or.inl h
 ·exact Or.inr ⟨b,off,rfl,h.later hb h.lt⟩
theorem yA2.bytes {w:World} {v:Value} {cs:List Nat} (h:yA2 w v cs) (j:Nat):cs.getD j 0<256:=by
 obtain ⟨p,cap,rfl,hl,h⟩:=h
 rcases h with rfl|⟨b,off,rfl,_,hb⟩
 ·simp
 ·exact hb j
theorem yA2.mem {w:World} {v:Value} {cs:List Nat} (h:yA2 w v cs):∀c∈cs,c<256:=Frame.mem_lt h.bytes
theorem yA2.nil (w:World):yA2 w (.slice none 0 0) []:=⟨none,0,rfl,⟨Nat.le_refl _,by decide⟩,Or.inl rfl⟩
theorem BOwn.slice {w:World} {base:Nat} {v:Value} {cs:List Nat} (h:BOwn w base v cs) (hb:∀c∈cs,c<256):yA2 w v cs:=by
 rcases h.2 with ⟨rfl,h0⟩|⟨g,cap,cur,rfl,_,hg,hcap,hmax,hsz,htake⟩
 ·obtain rfl:cs=[]:=List.length_eq_zero_iff.1 h0
  exact yA2.nil w
 ·unfold maxLen at hmax
  refine ⟨_,cap,rfl,⟨hcap,by omega⟩,Or.inr ⟨g,0,rfl,fun j hj => ?_,Frame.getD_lt hb⟩⟩
  have h2:=h.cells (g:=g) rfl j _ (yC3 cs j hj)
  rw [yB7] at h2
  exact h2
theorem BOwn.nil (w:World) (base:Nat):BOwn w base (.slice none 0 0) []:=World.ownsRow_nil w base 5 1
theorem BOwn.later {w w':World} {B base:Nat} {v:Value} {cs:List Nat} (h:BOwn w base v cs) (hb:Below B w w') (hB:w.heap.size≤B):BOwn w' base v cs:=by
 refine World.ownsRow.kept h (row:=none) ⟨hb.os,hb.tape,hb.output,hb.size,fun k hk _=>hb.block k (by omega)⟩ ?_
 cases hv:v.ownBlock with
 | none=>exact Or.inl rfl
 | some k=>exact Or.inr (by simp)
theorem BOwn.weaken {w:World} {base base':Nat} {v:Value} {cs:List Nat} (h:BOwn w base v cs) (hb:base'≤base):BOwn w base' v cs:=by
 refine ⟨h.1,?_⟩
 rcases h.2 with h|⟨g,cap,cur,h1,h2,h3⟩
 ·exact Or.inl h
 ·exact Or.inr ⟨g,cap,cur,h1,Nat.le_trans hb h2,h3⟩
theorem BOwn.apart' {w w':World} {B B':Nat} {v v':Value} {cs cs':List Nat} (h:BOwn w B v cs) (h':BOwn w' B' v' cs') (hs:w.heap.size≤B'):v'.ownBlock=none∨v'.ownBlock≠v.ownBlock:=by
 cases hv:v'.ownBlock with
 | none=>exact Or.inl rfl
 | some k =>
  refine Or.inr ?_
  intro e
  have h1:=h.lt k e.symm
  have h2:=h'.lt k hv
  omega
theorem BOwn.below {w w':World} {base:Nat} {v:Value} {cs:List Nat} (h:BOwn w base v cs) (hg:w.grownBy w' v.ownBlock) (hb:base≤w.heap.size):Below base w w' :=
 (Below.refl base w).grown hg hb fun k hk=>(h.lt k hk).1
theorem sub_in {w:World} {cs:List Nat} {p:Option Addr} {cap:Nat} (hl:cs.length≤cap∧cs.length≤9223372036854775807) (hin:cs=[]∨∃b off,p=some ⟨b,off,none⟩∧BytesIn w b off cs)
  (l h m:Nat) (h1:l≤h) (h2:h≤cs.length) (h3:h≤m):yA2 w (sliced p l h m 1) ((cs.take h).drop l):=by
 have hlen:((cs.take h).drop l).length=h - l:=by simp;omega
 unfold sliced
 by_cases hz:h=l
 ·have e:(cs.take h).drop l=[]:=List.length_eq_zero_iff.1 (by omega)
  rw [e]
  refine ⟨if m=l then p else p.map (·.add (l * 1)),m - l,?_,⟨by simp,by simp⟩,Or.inl rfl⟩
  rw [show h - l=([]:List Nat).length by simp;omega]
 ·rcases hin with rfl|⟨b,off,rfl,hc,hb⟩
  ·simp at h2
   omega
  ·refine ⟨_,m - l,by rw [hlen],⟨by omega,by omega⟩,Or.inr ⟨b,off+l,?_,fun j hj => ?_,fun j => ?_⟩⟩
   ·rw [if_neg (by omega),Option.map_some,Nat.mul_one,yB7]
   ·rw [hlen] at hj
    have e:((cs.take h).drop l).getD j 0=cs.getD (l+j) 0:=by simp [show l+j<h by omega]
    rw [e,Nat.add_assoc]
    exact hc (l+j) (by omega)
   ·refine Frame.getD_lt (fun c hc' => ?_) j
    exact Frame.mem_lt hb c (List.mem_of_mem_take (List.mem_of_mem_drop hc'))
def SubOf (lo hi mx:Option Value) (n l h:Nat):Prop :=
 ((lo=none∧l=0)∨∃L:Int,lo=some (.int .i64 L)∧L=(l:Int))∧((hi=none∧mx=none∧h=n)∨∃H:Int,hi=some (.int .i64 H)∧H=(h:Int)∧(mx=none∨mx=some (.int .i64 H)))∧l≤h∧h≤n
theorem run_sub {w:World} {v:Value} {cs:List Nat} (hin:yA2 w v cs) {lo hi mx:Option Value} {l h:Nat} (hs:SubOf lo hi mx cs.length l h) :
  ∃v',(∀w',(Instr.slice 38 v lo hi mx).run Tryd.prog w' = .ok v' w')∧yA2 w v' ((cs.take h).drop l):=by
 obtain ⟨p,cap,rfl,hl,hin⟩:=hin
 obtain ⟨hlo,hhi,h1,h2⟩:=hs
 obtain ⟨i,hi5,hsz⟩:=Option.map_eq_some_iff.1 size5
 have hsize:∀w':World,(sizeOf 5).run Tryd.prog w' = .ok 1 w':=fun w'=>by simp [sizeOf,typeInfo,hi5,hsz]
 have hu:=Tryd.underlying38
 have key:∀m:Nat,h≤m→((∀w',(Instr.slice 38 (.slice p cs.length cap) lo hi mx).run Tryd.prog w' = .ok (sliced p l h m 1) w')→∃v',(∀w',(Instr.slice 38 (.slice p cs.length cap) lo hi mx).run Tryd.prog w' = .ok v' w')∧yA2 w v' ((cs.take h).drop l)) :=
  fun m hm hr=>⟨_,hr,sub_in hl hin l h m h1 h2 hm⟩
 have hu':Tryd.prog.underlying 38=some (.slice (Tryd.prog.elem 38)):=by rw [elem22];exact hu
 rcases hlo with ⟨rfl,rfl⟩|⟨L,rfl,rfl⟩
 ·rcases hhi with ⟨rfl,rfl,rfl⟩|⟨H,rfl,rfl,rfl|rfl⟩
  ·exact key cap hl.1 fun w'=>by rw [run_slice_all _ _ _ _ _ hu',elem22,hsize];rfl
  ·exact key cap (by omega) fun w'=>by rw [run_slice_h _ _ _ _ _ hu' _ _ (by omega) (by omega),elem22,hsize];rfl
  ·exact key h (Nat.le_refl _) fun w'=>by rw [run_slice_hm _ _ _ _ _ hu' _ _ _ _ (by omega) (by omega) (by omega),elem22,hsize];rfl
 ·rcases hhi with ⟨rfl,rfl,rfl⟩|⟨H,rfl,rfl,rfl|rfl⟩
  ·exact key cap hl.1 fun w'=>by rw [run_slice_l _ _ _ _ _ hu' _ _ (by omega) (by omega),elem22,hsize];rfl
  ·exact key cap (by omega) fun w'=>by rw [run_slice_lh _ _ _ _ _ hu' _ _ _ _ (by omega) (by omega) (by omega),elem22,hsize];rfl
  ·exact key h (Nat.le_refl _) fun w'=>by rw [run_slice_lhm _ _ _ _ _ hu' _ _ _ _ _ _ (by omega) (by omega) (by omega) (by omega),elem22,hsize];rfl
section
variable {w:World} {ops:Array Oper} {rest:List Oper} {o:Oper} {a:Act} {Q:Exit→Act→World→Prop}
theorem yB1 (hgd:Region.wanted o (yielded ops a.tmps)=true) (v:Value) (w':World) (hrun:(execOp a.eval o).run Tryd.prog w = .ok (.value v) w') (h:wpList Tryd.prog ops Q rest (a.put o.dst v) w'):wpList Tryd.prog ops Q (o :: rest) a w :=
 BigFrame.wpList_want hgd fun K hK=>by
  unfold Oper.wp
  rw [hrun]
  exact hK _ _ h
theorem run_len {v:Value} {cs:List Nat} (hin:yA2 w v cs) (ty:TypeId) (w':World):(Builtin.len_ #[38] ty #[v]).run Tryd.prog w' = .ok (goInt cs.length) w':=by
 obtain ⟨p,cap,rfl,hl,hin⟩:=hin
 have hu':Tryd.prog.underlying 38=some (.slice (Tryd.prog.elem 38)):=by rw [elem22];exact Tryd.underlying38
 exact run_len_slice w' _ _ _ _ _ hu'
theorem yF7 {w0:World} (x:Operand) (hgd:Region.wanted o (yielded ops a.tmps)=true) (ho:o.op = .call { callee:=.builtin .len,args:=#[x],argTypes:=#[38] }) (v:Value) (cs:List Nat) (hx:a.eval x=v) (hin:yA2 w0 v cs)
  (h:wpList Tryd.prog ops Q rest (a.put o.dst (.int .i64 (cs.length:Nat))) w):wpList Tryd.prog ops Q (o :: rest) a w:=by
 refine yB1 hgd _ w ?_ h
 have hr:=run_len hin o.type w
 simp only [execOp,ho,resolve,invoke,builtin,Sem.run_bind,Sem.run_pure,Result.andThen_ok,List.map_toArray,List.map_cons,List.map_nil,hx,hr]
 rfl
theorem wpList_sub (x:Operand) (lo hi mx:Option Operand) (hgd:Region.wanted o (yielded ops a.tmps)=true) (ho:o.op = .slice 38 x lo hi mx) (v:Value) (cs:List Nat) (hx:a.eval x=v) (hin:yA2 w v cs) (l h':Nat)
  (hs:SubOf (lo.map a.eval) (hi.map a.eval) (mx.map a.eval) cs.length l h')
  (h:∀v',yA2 w v' ((cs.take h').drop l)→wpList Tryd.prog ops Q rest (a.put o.dst v') w):wpList Tryd.prog ops Q (o :: rest) a w:=by
 obtain ⟨v',hr,hv'⟩:=run_sub hin hs
 have hu':Tryd.prog.underlying 38=some (.slice (Tryd.prog.elem 38)):=by rw [elem22];exact Tryd.underlying38
 refine yB1 hgd v' w ?_ (h v' hv')
 simp [execOp,ho,hx,run_sliceAt_slice _ _ _ _ _ _ hu',hr]
theorem wpList_append (sv x:Operand) (hgd:Region.wanted o (yielded ops a.tmps)=true) (ho:o.op = .call { callee:=.builtin .append,args:=#[sv,x],argTypes:=#[38,38] })
  (base:Nat) (v vx:Value) (cs ys:List Nat) (hs:a.eval sv=v) (hown:BOwn w base v cs) (hx:a.eval x=vx) (hin:yA2 w vx ys)
  (hsz:cs.length+ys.length≤140737488355328) (hbase:base≤w.heap.size)
  (h:∀v' w',BOwn w' base v' (cs++ys)→Below base w w'→wpList Tryd.prog ops Q rest (a.put o.dst v') w'):wpList Tryd.prog ops Q (o :: rest) a w:=by
 obtain ⟨i,hi,hz0,hz1,hz2⟩:=info_parts info5
 obtain ⟨p,cap,rfl,hl,hin⟩:=hin
 have hgo:∀ad:Addr,(∀j u,(yA0 ys)[j]? = some u→w.cell? (ad.add j)=some u)→p=some ad→wpList Tryd.prog ops Q (o :: rest) a w:=by
  rintro ad hnews rfl
  obtain ⟨v',w',hr,ho',hg,_⟩:=run_append_own (P:=Tryd.prog) (w:=w) base 38 o.type 5 i (.int .u8 0) 1 1 Tryd.underlying38 hi hz0 hz1 hz2 rfl (by decide) v cs.length (yA0 cs) hown
   ad ys.length cap (yA0 ys) (by simp [yA1]) hnews (yB0 ys) (by unfold maxLen;omega) (by omega) hbase
  refine yB1 hgd v' w' ?_ (h v' w' ?_ ((Below.refl base w).grown hg hbase fun k hk=>(hown.lt k hk).1))
  ·simp only [execOp,ho,resolve,invoke,builtin,Sem.run_bind,Sem.run_pure,Result.andThen_ok,List.map_toArray,List.map_cons,List.map_nil,hs,hx,hr]
  ·unfold BOwn
   rw [yD0,List.length_append]
   exact ho'
 rcases hin with rfl|⟨b,off,rfl,hc,_⟩
 ·cases p with
  | none =>
   have hrun:(Builtin.append_ #[38,38] o.type #[v,.slice none ([]:List Nat).length cap]).run Tryd.prog w = .ok v w:=by
    rcases hown.2 with ⟨rfl,h0⟩|⟨g,cap',cur,rfl,_,hg,hcap,hmax,hsz,htake⟩
    ·simp [Builtin.append_,run_underlying Tryd.underlying38,sizeOf,typeInfo,hi,Builtin.lenOf,Builtin.firstCells]
    ·simp [Builtin.append_,run_underlying Tryd.underlying38,sizeOf,typeInfo,hi,Builtin.lenOf,Builtin.firstCells,hcap,storeCells]
   refine yB1 hgd v w ?_ (h v w ?_ (Below.refl _ _))
   ·simp only [execOp,ho,resolve,invoke,builtin,Sem.run_bind,Sem.run_pure,Result.andThen_ok,List.map_toArray,List.map_cons,List.map_nil,hs,hx,hrun]
   ·rw [List.append_nil]
    exact hown
  | some ad=>exact hgo ad (by intro j u hu;simp [yA0] at hu) rfl
 ·refine hgo ⟨b,off,none⟩ (fun j u hu => ?_) rfl
  have hj:j<ys.length:=by
   have:=(List.getElem?_eq_some_iff.1 hu).1
   rwa [yA1] at this
  rw [yB7,hc j hj,←hu,yC3 ys j hj]
theorem lit_in (w:World) (cs:List Nat) (hb:∀c∈cs,c<256) (hl:cs.length≤1000000):yA2 (w.alloc (.cells (yA0 cs).toArray 5)) (.slice (some ⟨w.heap.size,0,none⟩) cs.length cs.length) cs:=by
 refine ⟨_,_,rfl,⟨Nat.le_refl _,by omega⟩,Or.inr ⟨w.heap.size,0,rfl,fun j hj => ?_,Frame.getD_lt hb⟩⟩
 have e:∀o:Obj,(w.alloc o).heap[w.heap.size]? = some o:=fun o=>by
  show (w.heap.push o)[w.heap.size]? = _
  simp
 unfold World.cell?
 rw [e]
 simp [yA0,hj]
theorem run_lit1 (y:Nat):(Instr.buildSlice 38 1 #[(0,.int .u8 (y:Nat))]).run Tryd.prog w = .ok (.slice (some ⟨w.heap.size,0,none⟩) [y].length [y].length) (w.alloc (.cells (yA0 [y]).toArray 5)):=by kernel_rfl
theorem wpList_lit1 (x:Operand) (hgd:Region.wanted o (yielded ops a.tmps)=true) (ho:o.op = .buildSlice 38 1 #[(0,x)]) (y:Nat) (hy:y<256) (X:Int) (hx:a.eval x = .int .u8 X) (hX:X=(y:Int))
  (h:∀v' w',yA2 w' v' [y]→Below w.heap.size w w'→wpList Tryd.prog ops Q rest (a.put o.dst v') w'):wpList Tryd.prog ops Q (o :: rest) a w:=by
 subst hX
 refine yB1 hgd _ _ (by simp only [execOp,ho,List.map_toArray,List.map_cons,List.map_nil,hx,run_lit1,Sem.run_bind,Sem.run_pure,Result.andThen_ok]) (h _ (w.alloc (.cells (yA0 [y]).toArray 5)) (lit_in w [y] (by simpa using hy) (by simp)) ((Below.refl _ _).alloc (Nat.le_refl _) _))
theorem wpList_make0 (l c:Operand) (hgd:o.guard=none) (ho:o.op = .makeSlice 38 l c) (base n:Nat) (C:Int) (hl:a.eval l = .int .i64 0) (hc:a.eval c = .int .i64 C) (hC:C=(n:Int)) (hn:n≤281474976710656) (hb:base≤w.heap.size)
  (h:∀v' w',BOwn w' base v' []→Below base w w'→wpList Tryd.prog ops Q rest (a.put o.dst v') w'):wpList Tryd.prog ops Q (o :: rest) a w:=by
 obtain ⟨i,hi,hz0,hz1,hz2⟩:=info_parts info5
 refine wpList_make_own w hgd l c 38 ho base 5 i (.int .u8 0) 1 Tryd.underlying38 hi hz0 hz1 .i64 .i64 C n hl hc hC (by rw [hz2];omega) (by unfold maxLen;omega) hb ?_
 intro w' hown hg
 exact h _ w' hown ((Below.refl base w).grown hg hb fun k hk=>by cases hk)
end
end Go.Proofs.YtpkkkkomdblpoaaDoor.Fr

namespace Go.Proofs.YtpkkkkomdblpoaaDoor.Fr
open Go.RowKit
theorem aS {α:Type} (l:List α) (i:Nat) (a:α):l.toArray.setIfInBounds i a=(l.set i a).toArray:=List.setIfInBounds_toArray ..
theorem aC {α:Type} (x:α) (l:List α) (n:Nat) (a:α):(x :: l).set (n+1) a=x :: l.set n a:=List.set_cons_succ ..
theorem aZ {α:Type} (x:α) (l:List α) (a:α):(x :: l).set 0 a=a :: l:=List.set_cons_zero ..
set_option maxHeartbeats 400000 in
theorem more_none (s:BitVec 32) (p:Option Addr) (cap:Nat) (w:World) :
  Calls Tryd.prog 100 #[.int .u32 (Crc.U s),.slice p 0 cap] w fun e w'=>e = .returned (.int .u32 (Crc.U s))∧w'=w:=by
 go_enter Tryd.func100,Tryd.ntmps100
 go_wp2
 go_loop [5,7,12] (fun r c i=>i = .int .i64 0∧r = .int .u32 (bits .xor .u32 IntKind.u32.max (Crc.U s))) (fun _ _ i=>0)
 case atStart=>exact ⟨rfl,rfl⟩
 case round =>
  obtain ⟨rfl,rfl⟩:=hrel
  go_wp2
  go_ret
  exact ⟨by rw [Crc.U_not,Crc.U_not,BitVec.not_not];rfl,rfl⟩
theorem U_crc (cs:List Nat):Crc.U (Crc.more 0#32 cs)=(Frame.crc cs:Int):=rfl
theorem more_any0 (v:Value) (cs:List Nat) (w:World) (h:yA2 w v cs) (ht:TabIn w) :
  Calls Tryd.prog 100 #[.int .u32 0,v] w fun e w'=>e = .returned (.int .u32 (Frame.crc cs:Nat))∧w=w':=by
 rw [show (0:Int)=Crc.U 0#32 by decide,←U_crc]
 obtain ⟨p,cap,rfl,hl,h⟩:=h
 rcases h with rfl|⟨b,off,rfl,h⟩
 ·rw [Crc.more_nil]
  exact (more_none 0#32 p cap w).mono fun e w' h=>⟨h.1,h.2.symm⟩
 ·exact (more_some 0#32 b off cap cs w hl.2 h ht).mono fun e w' h=>⟨h.1,h.2.symm⟩
theorem sum_any (v:Value) (cs:List Nat) (w:World) (h:yA2 w v cs) (ht:TabIn w) :
  Calls Tryd.prog 88 #[v] w fun e w'=>e = .returned (.int .u32 (Frame.crc cs:Nat))∧w=w':=by
 go_enter Tryd.func88,Tryd.ntmps88
 go_wp2_with fail
 refine (more_any0 v cs _ h ht).mono ?_
 rintro e w' ⟨rfl,rfl⟩
 go_wp2
 go_ret
 exact ⟨rfl,rfl⟩
theorem append_snoc_be (done:List Nat) (s n size:Nat) (h:done++Frame.be (s+1) n=Frame.be size n):(done++[n / 256 ^ s % 256])++Frame.be s n=Frame.be size n:=by
 rw [←h,Frame.be_succ,List.append_assoc]
 rfl
theorem byte_at (n t:Nat):(n:Int) / 2 ^ (8 * t) % 256=((n / 256 ^ t % 256:Nat):Int):=by
 have e:(256:Nat) ^ t=2 ^ (8 * t):=by rw [Nat.pow_mul]
 rw [e,Int.natCast_emod,Int.natCast_ediv,Int.natCast_pow]
 rfl
set_option maxHeartbeats 400000 in
theorem lay_any (v:Value) (cs:List Nat) (n size base:Nat) (w:World) (h:BOwn w base v cs) (hbase:base≤w.heap.size) (hs:size≤8) (hsz:cs.length+size≤140737488355328) :
  Calls Tryd.prog 87 #[v,.int .u64 (n:Nat),.int .i64 (size:Nat)] w fun e w' => ∃v',e = .returned v'∧BOwn w' base v' (cs++Frame.be size n)∧Below base w w':=by
 have HO:Hid (BOwn w base v cs):=h
 have HB:Hid (base≤w.heap.size):=hbase
 clear h hbase
 go_enter Tryd.func87,Tryd.ntmps87
 go_wp2
 go_loopw [0,7] (fun x i W => ∃s:Nat,∃done:List Nat,s≤size∧i = .int .i64 ((s:Int) - 1)∧BOwn W base x (cs++done)∧done++Frame.be s n=Frame.be size n∧Below base w W) (fun _ i _=>(intOf i+1).toNat)
 case atStart=>exact ⟨size,[],Nat.le_refl _,rfl,by rw [List.append_nil];exact HO.out,rfl,Below.refl _ _⟩
 case round =>
  obtain ⟨s,done,hss,rfl,hx,hd,hbl⟩:=hrel
  have HX:Hid (BOwn wr base u0 (cs++done)):=hx
  have HD:Hid (done++Frame.be s n=Frame.be size n):=hd
  have HBL:Hid (Below base w wr):=hbl
  clear hx hd hbl
  by_cases h0:s=0
  ·subst h0
   have HE:Hid (cs++done=cs++Frame.be size n):=by
    have:=HD.out
    rw [Frame.be,List.append_nil] at this
    show _=_
    rw [this]
   go_wp2
   go_ret
   exact ⟨u0,rfl,by rw [←HE.out];exact HX.out,HBL.out⟩
  ·obtain ⟨t,rfl⟩:∃t,s=t+1:=⟨s - 1,by omega⟩
   have HL:Hid (done.length+1≤size):=by
    have:=congrArg List.length HD.out
    rw [List.length_append,Frame.yE9,Frame.yE9] at this
    show _≤_
    omega
   rw [show ((t+1:Nat):Int) - 1=(t:Int) by omega]
   go_wp2_with (first
    | (refine wpList_lit1 (.tmp 19) rfl rfl (n / 256 ^ t % 256) (Nat.mod_lt _ (by decide)) _ rfl (byte_at n t) ?_;intro v1 w1 s1 b1;have B1:Hid (Below wr.heap.size wr w1):=b1;clear b1)
    | (refine wpList_append (.tmp 14) (.tmp 20) rfl rfl base u0 v1 (cs++done) [n / 256 ^ t % 256] rfl (HX.out.later B1.out (Nat.le_refl _)) rfl s1 (by have:=HL.out;rw [List.length_append];simp;omega) (Nat.le_trans HB.out (Nat.le_trans HBL.out.size B1.out.size)) ?_;intro v2 w2 o2 b2;have O2:Hid (BOwn w2 base v2 (cs++(done++[n / 256 ^ t % 256]))):=(by rw [←List.append_assoc];exact o2);have B2:Hid (Below base w w2):=HBL.out.trans ((B1.out.mono (Nat.le_trans HB.out HBL.out.size)).trans b2);clear o2 b2 s1 B1))
   refine ⟨⟨t,done++[n / 256 ^ t % 256],by omega,by go_num,O2.out,append_snoc_be done t n size HD.out,B2.out⟩,?_⟩
   simp [intOf]
end Go.Proofs.YtpkkkkomdblpoaaDoor.Fr

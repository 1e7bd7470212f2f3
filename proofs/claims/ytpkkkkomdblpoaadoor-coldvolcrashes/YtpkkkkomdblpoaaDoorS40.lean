/- Layer 15: what comes in: the table that is listed, scripts, lists of numbers, rows of bytes. Layer 15: places that come in. -/
import Derived.Test.YtpkkkkomdblpoaaDoorTie
import Derived.Test.YtpkkkkomdblpoaaDoorCards
import Derived.ProofKit
import Derived.OpenShut
import Derived.ChangeOld
import Derived.SizedLaws
import Derived.Deep.DeepHandedRow
import Derived.Deep.Slices
import Derived.Deep.Matrix
import Derived.Lib.LaidTab
import Derived.Test.YtpkkkkomdblpoaaDoorS35
import Derived.Laws.IdiomArrays
namespace Go.Proofs.YtpkkkkomdblpoaaDoor
open Cold Go.ChangeShapes Go.WideShapes Go.ChangeAt Go.RowKit Go.Deep
theorem own:ownKnob Tryd.prog.godebug=none:=by kernel_rfl
theorem laidOut:laidOutB Tryd.prog=true:=by kernel_rfl
theorem gStart:Tryd.prog.globalNamed "muniment/sha.start" = some 0:=by kernel_rfl
theorem gStartType:(Tryd.prog.globals[0]?).map (·.type)=some 171:=by kernel_rfl
theorem gCons:Tryd.prog.globalNamed "muniment/sha.constants" = some 1:=by kernel_rfl
theorem gConsType:(Tryd.prog.globals[1]?).map (·.type)=some 175:=by kernel_rfl
theorem gTab:Tryd.prog.globalNamed "muniment/crc.halves" = some 2:=by kernel_rfl
theorem gTabType:(Tryd.prog.globals[2]?).map (·.type)=some 194:=by kernel_rfl
theorem cells171:Tryd.prog.cellsOf 171=8:=by kernel_rfl
theorem cells175:Tryd.prog.cellsOf 175=64:=by kernel_rfl
theorem cells194:Tryd.prog.cellsOf 194=16:=by kernel_rfl
theorem cells161:Tryd.prog.cellsOf 161=1:=by kernel_rfl
theorem cells5:Tryd.prog.cellsOf 5=1:=by kernel_rfl
theorem cells3:Tryd.prog.cellsOf 3=1:=by kernel_rfl
theorem cells38:Tryd.prog.cellsOf 38=1:=by kernel_rfl
def tabInts:List Int:=[0,498536548,997073096,651767980,1994146192,1802195444,1303535960,1342533948,3988292384,4027552580,3604390888,3412177804,2607071920,2262029012,2685067896,3183342108]
theorem tabInts_at:∀k:Fin 16,tabInts.getD k.val 0=Fr.Crc.U (BitVec.ofNat 32 (Fr.Crc.tab.getD k.val 0)):=by decide +kernel
def startInts:List Int:=[1779033703,3144134277,1013904242,2773480762,1359893119,2600822924,528734635,1541459225]
def consInts:List Int:=Sh.Sha.kNat.map Int.ofNat
theorem startInts_at:∀k:Fin 8,startInts.getD k.val 0=Sh.Sha.U (Sh.Sha.start.list.getD k.val 0):=by decide +kernel
theorem consInts_at:∀k:Fin 64,consInts.getD k.val 0=Sh.Sha.U (Sh.Sha.kAt k.val):=by decide +kernel
theorem tabs_of {W:World} (h:laidMetH Tryd.prog [("muniment/crc.halves",Rows.laid_muniment_crc_halves),("muniment/sha.start",Rows.laid_muniment_sha_start),("muniment/sha.constants",Rows.laid_muniment_sha_constants)] W):Env W:=by
 have h1:Lib.TabIs Tryd.prog W "muniment/crc.halves" .u32 tabInts :=
  Lib.tabIs_of_head (rest:=[("muniment/sha.start",Rows.laid_muniment_sha_start),("muniment/sha.constants",Rows.laid_muniment_sha_constants)]) gTab gTabType Tryd.underlying194 Tryd.underlying161 cells161 cells194 h
 obtain ⟨ps,⟨g',t',cs,fuel,p,q,hg',ht',hvar,hd,hrest,_⟩,_⟩:=h
 obtain ⟨g2,t2,cs2,fuel2,p2,q2,hg2,ht2,hvar2,hd2,hrest2,_⟩:=hrest
 obtain ⟨g3,t3,cs3,fuel3,p3,q3,hg3,ht3,hvar3,hd3,_,_⟩:=hrest2
 have h2:Lib.TabIs Tryd.prog W "muniment/sha.start" .u32 startInts:=by
  obtain rfl:=Option.some.inj (gStart.symm.trans hg2)
  obtain rfl:=Option.some.inj (gStartType.symm.trans ht2)
  have hd9:DataW.trod (fun _=>()) Tryd.prog W 0 (fun _=>true) false fuel2 171 cs2.toList=some (Lib.tabData .u32 startInts,p2):=hd2
  unfold Lib.TabIs
  rw [hvar2,←Lib.cells_of_tab Tryd.underlying171 Tryd.underlying161 cells161 cells171 hd9]
 have h3:Lib.TabIs Tryd.prog W "muniment/sha.constants" .u32 consInts:=by
  obtain rfl:=Option.some.inj (gCons.symm.trans hg3)
  obtain rfl:=Option.some.inj (gConsType.symm.trans ht3)
  have hd9:DataW.trod (fun _=>()) Tryd.prog W 0 (fun _=>true) false fuel3 175 cs3.toList=some (Lib.tabData .u32 consInts,p3):=hd3
  unfold Lib.TabIs
  rw [hvar3,←Lib.cells_of_tab Tryd.underlying175 Tryd.underlying161 cells161 cells175 hd9]
 refine ⟨fun r => ?_,fun t ht => ?_,fun i hi => ?_⟩
 ·have hl:=Fr.Crc.low_lt' r
  have:=h1.cell gTab (Fr.Crc.low r) (by simpa [tabInts] using hl)
  rw [tabInts_at ⟨Fr.Crc.low r,hl⟩] at this
  exact this
 ·have:=h3.cell gCons t (by simpa [consInts,Sh.Sha.kNat] using ht)
  rw [consInts_at ⟨t,ht⟩] at this
  exact this
 ·have:=h2.cell gStart i (by simpa [startInts] using hi)
  rw [startInts_at ⟨i,hi⟩] at this
  exact this
theorem env_size {W:World} (h:Env W):3≤W.heap.size:=by
 have:2<W.heap.size:=block_lt_of_cell (h.1 0#32)
 omega
theorem bulk_length {H:Type} (l:List (DataW H)):l.length≤Rows.uptoBulkAll l:=by
 induction l with
 | nil=>simp [Rows.uptoBulkAll]
 | cons x r ih =>
  have h1:1≤Rows.uptoBulk x:=by
   cases x with
   | lit l=>cases l <;> simp [Rows.uptoBulk]
   | nil=>simp [Rows.uptoBulk]
   | ptr d=>simp [Rows.uptoBulk]
   | slice elems spare=>simp [Rows.uptoBulk]
   | agg parts=>simp [Rows.uptoBulk]
   | iface t d=>simp [Rows.uptoBulk]
   | map entries=>simp [Rows.uptoBulk]
   | held h=>simp [Rows.uptoBulk]
  simp only [Rows.uptoBulkAll,List.length_cons]
  omega
def laidOn (W:World):World :=
 { W with heap:=((W.heap.modify 0 fun
   | .cells _ t frozen=>.cells (startInts.map fun z=>Value.int .u32 z).toArray t frozen
   | o=>o).modify 1 fun
   | .cells _ t frozen=>.cells (consInts.map fun z=>Value.int .u32 z).toArray t frozen
   | o=>o).modify 2 fun
   | .cells _ t frozen=>.cells (tabInts.map fun z=>Value.int .u32 z).toArray t frozen
   | o=>o }
set_option maxRecDepth 100000 in
theorem open_field {H:Type} {enc:TypeId×Value→H} {W:World} {v:Value} {y:DataW H×List MemPlace} {n:Nat}
  (hf:DataW.trod enc Tryd.prog W 0 (fun _=>true) true n 28 [v]=some y):∃l:List Int,(l.length<4611686018427387904→IntsIn W v l)∧(l=[]∨∃elems spare,y.1 = .slice elems spare∧elems.length=l.length):=by
 rcases open_ints Tryd.underlying28 Tryd.underlying3 cells3 hf with ⟨hcs,_⟩|⟨x,l,c,zs,hcs,_,hl,hm,hz,hx,hcell,hwz⟩
 ·simp at hcs
  subst hcs
  exact ⟨[],fun _=>⟨none,0,rfl,by decide,by decide,Or.inl rfl⟩,Or.inl rfl⟩
 ·simp at hcs
  subst hcs
  have hz':zs.length=c:=by simpa using hz
  have hlen:(zs.take l).length=l:=by simp;omega
  by_cases h0:l=0
  ·subst h0
   exact ⟨[],fun _=>⟨some x,c,rfl,by simp,by decide,Or.inl rfl⟩,Or.inl rfl⟩
  ·obtain ⟨b,off,rfl,hc⟩:=ints_at hcell (by omega)
   refine ⟨zs.take l,fun h62=>⟨some ⟨b,off,none⟩,c,by rw [hlen],by omega,h62,Or.inr ⟨b,off,rfl,fun j hj => ?_⟩⟩,Or.inr ⟨_,_,congrArg Prod.fst hx,by simp [lits]⟩⟩
   rw [hlen] at hj
   have h1:=hc j (by omega)
   rw [h1]
   have hj':j<zs.length:=by omega
   simp [hj,hj']
set_option maxRecDepth 100000 in
theorem open_i64 {H:Type} {enc:TypeId×Value→H} {W:World} {v:Value} {y:DataW H×List MemPlace} {n:Nat} (hf:DataW.trod enc Tryd.prog W 0 (fun _=>true) true n 3 [v]=some y):∃z,v = .int .i64 z∧(-9223372036854775808≤z∧z≤9223372036854775807):=by
 obtain ⟨z,hz,_,hw⟩:=DataW.trod_int Tryd.underlying3 hf
 refine ⟨z,by simpa using hz,?_⟩
 have h:(-9223372036854775808≤z∧z≤9223372036854775807):=by simpa [Lit.wf,IntKind.min,IntKind.max,IntKind.signed,IntKind.bits] using hw
 exact h
theorem bytes3:Tryd.prog.bytesOf 3=8:=by kernel_rfl
end Go.Proofs.YtpkkkkomdblpoaaDoor

namespace Go.Proofs.YtpkkkkomdblpoaaDoor
open Cold Go.ChangeShapes Go.WideShapes Go.ChangeAt Go.RowKit Go.Deep
theorem cells40p:Tryd.prog.cellsOf 40=4:=by kernel_rfl
theorem cells4p:Tryd.prog.cellsOf 4=1:=by kernel_rfl
theorem und40p:∃f0 f1 f2 f3:Field,Tryd.prog.underlying 40=some (.struct #[f0,f1,f2,f3])∧(f0.type=3∧f0.offset=0)∧(f1.type=3∧f1.offset=1)∧(f2.type=3∧f2.offset=2)∧(f3.type=4∧f3.offset=3) :=
 ⟨_,_,_,_,Tryd.underlying40,⟨rfl,rfl⟩,⟨rfl,rfl⟩,⟨rfl,rfl⟩,rfl,rfl⟩
set_option maxRecDepth 100000 in
theorem open_place {H:Type} {enc:TypeId×Value→H} {W:World} {cs:List Value} {y:DataW H×List MemPlace} {n:Nat} (hf:DataW.trod enc Tryd.prog W 0 (fun _=>true) true n 40 cs=some y):∃x:Pq,cs=x.cells∧x.ok:=by
 obtain ⟨f0,f1,f2,f3,hu,⟨t0,o0⟩,⟨t1,o1⟩,⟨t2,o2⟩,t3,o3⟩:=und40p
 obtain ⟨xs,m,_,hxy,hl,hxl,hx⟩:=DataW.trod_struct hu hf
 rw [cells40p] at hl
 match cs,hl,xs,hxl with
 | [v0,v1,v2,v3],_,[y0,y1,y2,y3],_ =>
  have g0:=hx 0 f0 rfl
  have g1:=hx 1 f1 rfl
  have g2:=hx 2 f2 rfl
  have g3:=hx 3 f3 rfl
  simp only [t0,t1,t2,t3,o0,o1,o2,o3,cells3,cells4p] at g0 g1 g2 g3
  simp at g0 g1 g2 g3
  obtain ⟨z0,rfl,i0⟩:=open_i64 g0
  obtain ⟨z1,rfl,i1⟩:=open_i64 g1
  obtain ⟨z2,rfl,i2⟩:=open_i64 g2
  obtain ⟨b,hb,_⟩:=DataW.trod_bool Tryd.underlying4 g3
  simp at hb
  subst hb
  exact ⟨⟨z0,z1,z2,b⟩,rfl,i0,i1,i2⟩
end Go.Proofs.YtpkkkkomdblpoaaDoor

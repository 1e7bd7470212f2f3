/- Laws for walks: one operation at a time. -/
import Derived.Test.YtpkkkkomdblpoaaDoorS15
namespace Go.Proofs.YtpkkkkomdblpoaaDoor
open Go.RowKit Go.Maps
theorem ownK {w w':World} {base e size n:Nat} {v:Value} {xs:List Value} (h:w.ownsRow base e size v n xs) (hb:∀b,v.ownBlock=some b→w'.heap[b]? = w.heap[b]?):w'.ownsRow base e size v n xs:=by
 obtain ⟨hl,h⟩:=h
 refine ⟨hl,?_⟩
 rcases h with ⟨rfl,h⟩|⟨g,cap,cur,rfl,h0,hg,h⟩
 ·exact Or.inl ⟨rfl,h⟩
 ·exact Or.inr ⟨g,cap,cur,rfl,h0,(hb g rfl).trans hg,h⟩
theorem sliceK {w w':World} {v:Value} {cs:List Nat} (h:yA2 w v cs) (hb:∀b,v.ownBlock=some b→b<w.heap.size→w'.heap[b]? = w.heap[b]?):yA2 w' v cs:=by
 obtain ⟨p,cap,rfl,hl,h⟩:=h
 refine ⟨p,cap,rfl,hl,?_⟩
 rcases h with h|⟨b,off,rfl,h1,h2⟩
 ·exact Or.inl h
 ·refine Or.inr ⟨b,off,rfl,fun j hj => ?_,h2⟩
  rw [←h1 j hj]
  exact World.cell?_of_block (w:=w) (hb b rfl (block_lt_of_cell (h1 j hj)))
section
variable {w w0:World} {ops:Array Oper} {rest:List Oper} {o:Oper} {a:Act} {Q:Exit→Act→World→Prop}
theorem wl (hgd:Region.wanted o (yielded ops a.tmps)=true) (v:Value) (w':World) (hrun:(execOp a.eval o).run Tryd.prog w = .ok (.value v) w') (h:wpList Tryd.prog ops Q rest (a.put o.dst v) w'):wpList Tryd.prog ops Q (o :: rest) a w :=
 BigFrame.wpList_want hgd fun K hK=>by
  unfold Oper.wp
  rw [hrun]
  exact hK _ _ h
theorem own_index {base e sz n:Nat} {v:Value} {xs:List Value} (hown:w0.ownsRow base e sz v n xs) {t:TypeId} (hu:Tryd.prog.underlying t=some (.slice e)) (hs:(Tryd.prog.info? e).map (·.size)=some sz) (k:Nat) (hk:k<n) :
  ∃b,v.ownBlock=some b∧(∀w',(Instr.indexAt t v (.int .i64 (k:Nat))).run Tryd.prog w' = .ok (.pointer (some ⟨b,k * sz,none⟩)) w')∧∀j,j<sz→w0.cell? ⟨b,k * sz+j,none⟩=xs[k * sz+j]?:=by
 obtain ⟨i5,hi5,hsz⟩:=Option.map_eq_some_iff.1 hs
 rcases hown.2 with ⟨rfl,rfl⟩|⟨g,cap,cur,rfl,_,hg,hcap,hmax,hcs,htake⟩
 ·omega
 ·refine ⟨g,rfl,fun w'=>by simp [Instr.indexAt,asIntOf,run_underlying hu,hk,sizeOf,typeInfo,hi5,hsz,yB7],fun j hj => ?_⟩
  have hlt:k * sz+j<n * sz:=by
   have:(k+1) * sz≤n * sz:=Nat.mul_le_mul_right sz hk
   rw [Nat.add_mul,Nat.one_mul] at this
   omega
  rw [←htake,List.getElem?_take,if_pos hlt]
  simp [World.cell?,hg]
end
theorem yF8 {w:World} {a:Act} {o:Oper} (x:Operand) (ho:o.op = .nilCheck x) (p:Addr) (hv:a.eval x = .pointer (some p)):(execOp a.eval o).run Tryd.prog w = .ok (.value (.pointer (some p))) w:=by
 simp [execOp,ho,hv]
theorem yD5 {w:World} {a:Act} {o:Oper} {t:TypeId} (x i:Operand) (ho:o.op = .indexAddr t x i) (v p I:Value) (hx:a.eval x=v) (hi:a.eval i=I) (hr:∀w',(Instr.indexAt t v I).run Tryd.prog w' = .ok p w'):(execOp a.eval o).run Tryd.prog w = .ok (.value p) w:=by
 simp only [execOp,ho,hx,hi,hr,Sem.run_bind,Sem.run_pure,Result.andThen_ok]
theorem run_putRow {w:World} {o:Oper} {a:Act} {t:Nat} (hs:(Tryd.prog.info? t).map (·.size)=some 1) (x y:Operand) (ho:o.op = .store t x y) (g i T:Nat) (cur:List Value) (hx:a.eval x = .pointer (some ⟨g,i,none⟩)) (v:Value) (hy:a.eval y=v) (hv:v.cells=#[v]∧v.oneCell'=true) (hr:Row w g T cur) (hi:i<cur.length) :
  (execOp a.eval o).run Tryd.prog w = .ok .skip (w.setCell ⟨g,i,none⟩ v):=by
 obtain ⟨ti,hti,hsz⟩:=Option.map_eq_some_iff.1 hs
 have hst:=run_storeCells_at (P:=Tryd.prog) g i T [v] 0 cur.toArray w hr (by simp;omega) (by intro u hu;rw [List.mem_singleton.1 hu];exact hv.2)
 simp only [Nat.add_zero] at hst
 have e:w.setRow g (splice cur i [v]).toArray=w.setCell ⟨g,i,none⟩ v:=by
  have e1:splice cur i [v]=cur.set i v:=by
   rw [List.set_eq_take_append_cons_drop,if_pos hi]
   simp [splice]
  rw [setCell_eq_setRow w g i _ T (0,0) v hr,e1,List.setIfInBounds_toArray]
 have hst':(storeVar t ⟨g,i,none⟩ v).run Tryd.prog w = .ok () (w.setCell ⟨g,i,none⟩ v):=by
  rw [←e]
  simp [storeVar,sizeOf,typeInfo,hti,hsz,hv.1,hst,splice]
 simp [execOp,ho,hx,hy,Instr.storeAt,Instr.sureAddr,hst']
section
variable {w w0:World} {ops:Array Oper} {rest:List Oper} {o:Oper} {a:Act} {Q:Exit→Act→World→Prop}
theorem wlS (hgd:Region.wanted o (yielded ops a.tmps)=true) (hd:o.dst=none) (w':World) (hrun:(execOp a.eval o).run Tryd.prog w = .ok .skip w') (h:wpList Tryd.prog ops Q rest a w'):wpList Tryd.prog ops Q (o :: rest) a w :=
 BigFrame.wpList_want hgd fun K hK=>by
  unfold Oper.wp
  rw [hrun]
  simp only [Oper.upon,hd]
  exact hK _ _ h
end
theorem row_cell' {W:World} {g T i:Nat} {cur:List Value} (h:Row W g T cur) (v:Value):Row (W.setCell ⟨g,i,none⟩ v) g T (cur.set i v):=by
 rw [setCell_eq_setRow W g i _ T (0,0) v h]
 have:=h.setRow (cur.set i v)
 simpa using this
theorem own_cells {w:World} {base e sz n:Nat} {v:Value} {xs:List Value} (h:w.ownsRow base e sz v n xs):v.cells=#[v]∧v.oneCell'=true:=by
 rcases h.2 with ⟨rfl,_⟩|⟨g,cap,cur,rfl,_⟩
 ·exact ⟨rfl,rfl⟩
 ·exact ⟨rfl,rfl⟩
theorem own_later {w w':World} {base e size n:Nat} {v:Value} {xs:List Value} (h:w.ownsRow base e size v n xs) (hb:Below w.heap.size w w'):w'.ownsRow base e size v n xs :=
 own_kept h fun q hq=>hb.block q (h.lt q hq).2
section
variable {ops:Array Oper} {Q:Exit→Act→World→Prop} {a:Act} {w:World} {listed:Array Bool} {fuel:Nat} {S:World→Prop} {o:Oper}
end
end Go.Proofs.YtpkkkkomdblpoaaDoor





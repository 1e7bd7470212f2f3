/- The operations on hashes and rows of hashes, in a row and in regions that draw their order. -/
import Derived.Test.YtjdmpanemdhbbaaDoorTMem
import Derived.Test.YtjdmpanemdhbbaaDoorNew
import Derived.Test.YtjdmpanemdhbbaaDoorRefSum
namespace Go.Proofs.YtjdmpanemdhbbaaDoor
open Go.RowKit

/-- what stays hidden from the walk -/
theorem Only.row' {g : Nat} {w w' : World} (h : Only g w w') (hB : w.heap.size ≤ g) : Below w.heap.size w w' := h.below hB (Nat.le_refl _)

section
variable {w w0 : World} {ops : Array Oper} {rest : List Oper} {o : Oper} {a : Act} {Q : Exit → Act → World → Prop}
theorem wl (hgd : Region.wanted o (yielded ops a.tmps) = true) (v : Value) (w' : World) (hrun : (execOp a.eval o).run Tryd.prog w = .ok (.value v) w') (h : wpList Tryd.prog ops Q rest (a.put o.dst v) w') : wpList Tryd.prog ops Q (o :: rest) a w :=
  BigFrame.wpList_want hgd fun K hK => by
    unfold Oper.wp
    rw [hrun]
    exact hK _ _ h
theorem wlSkip (hgd : Region.wanted o (yielded ops a.tmps) = true) (hdst : o.dst = none) (w' : World) (hrun : (execOp a.eval o).run Tryd.prog w = .ok .skip w') (h : wpList Tryd.prog ops Q rest a w') : wpList Tryd.prog ops Q (o :: rest) a w :=
  BigFrame.wpList_want hgd fun K hK => by
    unfold Oper.wp
    rw [hrun]
    refine hK _ _ ?_
    rw [hdst]
    exact h

/-! the runs -/
theorem rx_len (x : Operand) (ho : o.op = .call { callee := .builtin .len, args := #[x], argTypes := #[24] }) (v : Value) (hs : List (List Nat)) (hx : a.eval x = v) (hin : HIn w0 v hs) : (execOp a.eval o).run Tryd.prog w = .ok (.value (.int .i64 (hs.length : Nat))) w := by
  obtain ⟨_, p, cap, rfl, hl, _⟩ := hin
  have hr : (Builtin.len_ #[24] o.type #[.slice p hs.length cap]).run Tryd.prog w = .ok (goInt hs.length) w := run_len_slice w _ _ _ _ _ under24
  simp only [execOp, ho, resolve, invoke, builtin, Sem.run_bind, Sem.run_pure, Result.andThen_ok, List.map_toArray, List.map_cons, List.map_nil, hx, hr]
  rfl
theorem rx_sub (x : Operand) (lo hi : Option Operand) (ho : o.op = .slice 24 x lo hi none) (v v' : Value) (hx : a.eval x = v) (hr : ∀ w', (Instr.slice 24 v (lo.map a.eval) (hi.map a.eval) none).run Tryd.prog w' = .ok v' w') : (execOp a.eval o).run Tryd.prog w = .ok (.value v') w := by
  simp [execOp, ho, hx, run_sliceAt_slice _ _ _ _ _ _ under24, hr]
theorem rx_index (x i : Operand) (ho : o.op = .indexAddr 24 x i) (v p : Value) (hx : a.eval x = v) (I : Value) (hi : a.eval i = I) (hr : ∀ w', (Instr.indexAt 24 v I).run Tryd.prog w' = .ok p w') : (execOp a.eval o).run Tryd.prog w = .ok (.value p) w := by
  simp only [execOp, ho, hx, hi, hr, Sem.run_bind, Sem.run_pure, Result.andThen_ok]
theorem rx_load (x : Operand) (ho : o.op = .load 23 x) (p : Value) (hx : a.eval x = p) (h : List Nat) (hp : HAt w p h) : (execOp a.eval o).run Tryd.prog w = .ok (.value (hv h)) w := by
  simp only [execOp, ho, hx, run_hload hp, Sem.run_bind, Sem.run_pure, Result.andThen_ok]
theorem rx_lit1 (x : Operand) (ho : o.op = .buildSlice 24 1 #[(0, x)]) (h : List Nat) (hh : IsH h) (hx : a.eval x = hv h) : (execOp a.eval o).run Tryd.prog w = .ok (.value (.slice (some ⟨w.heap.size, 0, none⟩) 1 1)) (w.alloc (.cells (bcells [h].flatten).toArray 23)) := by
  have hr := run_hlit [h] (AllH.one hh) (by simp) (by simp) #[(0, hv h)] rfl w
  have hr' : (Instr.buildSlice 24 1 #[(0, hv h)]).run Tryd.prog w = .ok (.slice (some ⟨w.heap.size, 0, none⟩) 1 1) (w.alloc (.cells (bcells [h].flatten).toArray 23)) := hr
  simp only [execOp, ho, List.map_toArray, List.map_cons, List.map_nil, hx, hr', Sem.run_bind, Sem.run_pure, Result.andThen_ok]
theorem rx_append (sv x : Operand) (ho : o.op = .call { callee := .builtin .append, args := #[sv, x], argTypes := #[24, 24] }) (v vx v' : Value) (w' : World) (hs : a.eval sv = v) (hx : a.eval x = vx) (hr : (Builtin.append_ #[24, 24] o.type #[v, vx]).run Tryd.prog w = .ok v' w') : (execOp a.eval o).run Tryd.prog w = .ok (.value v') w' := by
  simp only [execOp, ho, resolve, invoke, builtin, Sem.run_bind, Sem.run_pure, Result.andThen_ok, List.map_toArray, List.map_cons, List.map_nil, hs, hx, hr]
theorem rx_store (x y : Operand) (ho : o.op = .store 23 x y) (g : Nat) (hx : a.eval x = .pointer (some ⟨g, 0, none⟩)) (h h' : List Nat) (hh : IsH h') (hy : a.eval y = hv h') (hr : HIs w g h) : (execOp a.eval o).run Tryd.prog w = .ok .skip (w.setRow g (bcells h').toArray) := by
  have hl : (bcells h').length = 32 := by rw [bcells_length]; exact hh.1
  have hr' := run_storeVar agg25 w g 0 23 (bcells h) (bcells h') hl hr.2 (by rw [hl, hr.len]; decide) (bcells_one _)
  rw [splice_all _ _ (by rw [hl, hr.len])] at hr'
  simp only [execOp, ho, hx, hy, hv, Instr.storeAt, Instr.sureAddr, hr', Sem.run_bind, Sem.run_pure, Result.andThen_ok]
theorem his_store {g : Nat} {h h' : List Nat} (hh : IsH h') (hr : HIs w g h) : HIs (w.setRow g (bcells h').toArray) g h' := ⟨hh, hr.2.setRow _⟩
theorem rx_eq (x y : Operand) (ho : o.op = .binOp .eql 23 x y 23) (h h' : List Nat) (hh : IsH h) (hh' : IsH h') (hx : a.eval x = hv h) (hy : a.eval y = hv h') : (execOp a.eval o).run Tryd.prog w = .ok (.value (.bool (decide (h = h')))) w := by
  have hm : Tryd.prog.eqGuardType Tryd.prog.depth 23 = false := by kernel_rfl
  have he := heql h h' hh hh' w
  unfold hv at he hx hy
  simp [execOp, ho, hx, hy, run_eqGuard_agg w .eql 23 x y _ _ hm, run_eql_struct w 23, he]
theorem rx_ne (x y : Operand) (ho : o.op = .binOp .neq 23 x y 23) (h h' : List Nat) (hh : IsH h) (hh' : IsH h') (hx : a.eval x = hv h) (hy : a.eval y = hv h') : (execOp a.eval o).run Tryd.prog w = .ok (.value (.bool (!decide (h = h')))) w := by
  have hm : Tryd.prog.eqGuardType Tryd.prog.depth 23 = false := by kernel_rfl
  have he := heql h h' hh hh' w
  unfold hv at he hx hy
  simp [execOp, ho, hx, hy, run_eqGuard_agg w .neq 23 x y _ _ hm, run_neq_struct w 23, he]
/-- the bytes of a hash, of the text of a node -/
theorem sliceAt_all {g : Nat} (w : World) : (Instr.sliceAt 23 (.pointer (some ⟨g, 0, none⟩)) none none none).run Tryd.prog w = .ok (.slice (some ⟨g, 0, none⟩) 32 32) w := by
  obtain ⟨i, hi, _⟩ := Option.map_eq_some_iff.1 info5
  simp [Instr.sliceAt, run_underlying Tryd.underlying23, Instr.sureAddr, Instr.sliceBounds, sizeOf, typeInfo, hi, add_none]
theorem his_bytes {g : Nat} {h : List Nat} (hr : HIs w g h) : SliceIn w (.slice (some ⟨g, 0, none⟩) 32 32) h :=
  ⟨_, 32, by rw [hr.1.1], ⟨by rw [hr.1.1]; decide, by rw [hr.1.1]; decide⟩, Or.inr ⟨g, 0, rfl, fun j hj => by rw [Nat.zero_add]; exact hr.2.at j _ (bcells_at h j hj), hr.1.getD⟩⟩
theorem rx_bytes (x : Operand) (ho : o.op = .slice 23 x none none none) (g : Nat) (hx : a.eval x = .pointer (some ⟨g, 0, none⟩)) : (execOp a.eval o).run Tryd.prog w = .ok (.value (.slice (some ⟨g, 0, none⟩) 32 32)) w := by
  simp [execOp, ho, hx, sliceAt_all]

/-! in a row -/
theorem wl_len (x : Operand) (hgd : Region.wanted o (yielded ops a.tmps) = true) (ho : o.op = .call { callee := .builtin .len, args := #[x], argTypes := #[24] }) (v : Value) (hs : List (List Nat)) (hx : a.eval x = v) (hin : HIn w0 v hs)
    (h : wpList Tryd.prog ops Q rest (a.put o.dst (.int .i64 (hs.length : Nat))) w) : wpList Tryd.prog ops Q (o :: rest) a w := wl hgd _ _ (rx_len x ho v hs hx hin) h
theorem wl_to (x y : Operand) (hgd : Region.wanted o (yielded ops a.tmps) = true) (ho : o.op = .slice 24 x none (some y) none) (v : Value) (hs : List (List Nat)) (hx : a.eval x = v) (hin : HIn w v hs) (K : Int) (k : Nat) (hy : a.eval y = .int .i64 K) (hK : K = (k : Int)) (hk : k ≤ hs.length)
    (h : ∀ v', HIn w v' (hs.take k) → wpList Tryd.prog ops Q rest (a.put o.dst v') w) : wpList Tryd.prog ops Q (o :: rest) a w := by
  obtain ⟨v', hr, hv'⟩ := run_hto hin k hk
  subst hK
  exact wl hgd _ _ (rx_sub x none (some y) ho v v' hx (by simpa [hy] using hr)) (h v' hv')
theorem wl_from (x y : Operand) (hgd : Region.wanted o (yielded ops a.tmps) = true) (ho : o.op = .slice 24 x (some y) none none) (v : Value) (hs : List (List Nat)) (hx : a.eval x = v) (hin : HIn w v hs) (K : Int) (k : Nat) (hy : a.eval y = .int .i64 K) (hK : K = (k : Int)) (hk : k ≤ hs.length)
    (h : ∀ v', HIn w v' (hs.drop k) → wpList Tryd.prog ops Q rest (a.put o.dst v') w) : wpList Tryd.prog ops Q (o :: rest) a w := by
  obtain ⟨v', hr, hv'⟩ := run_hfrom hin k hk
  subst hK
  exact wl hgd _ _ (rx_sub x (some y) none ho v v' hx (by simpa [hy] using hr)) (h v' hv')
theorem wl_index (x i : Operand) (hgd : Region.wanted o (yielded ops a.tmps) = true) (ho : o.op = .indexAddr 24 x i) (v : Value) (hs : List (List Nat)) (hx : a.eval x = v) (hin : HIn w v hs) (K : Int) (k : Nat) (hi : a.eval i = .int .i64 K) (hK : K = (k : Int)) (hk : k < hs.length)
    (h : ∀ p, HAt w p (hs.getD k []) → wpList Tryd.prog ops Q rest (a.put o.dst p) w) : wpList Tryd.prog ops Q (o :: rest) a w := by
  obtain ⟨p, hr, hp⟩ := run_hindex hin k hk
  subst hK
  exact wl hgd _ _ (rx_index x i ho v p hx _ hi hr) (h p hp)
theorem wl_load (x : Operand) (hgd : Region.wanted o (yielded ops a.tmps) = true) (ho : o.op = .load 23 x) (p : Value) (hx : a.eval x = p) (h' : List Nat) (hp : HAt w p h') (h : wpList Tryd.prog ops Q rest (a.put o.dst (hv h')) w) : wpList Tryd.prog ops Q (o :: rest) a w := wl hgd _ _ (rx_load x ho p hx h' hp) h
theorem wl_lit1 (x : Operand) (hgd : Region.wanted o (yielded ops a.tmps) = true) (ho : o.op = .buildSlice 24 1 #[(0, x)]) (h' : List Nat) (hh : IsH h') (hx : a.eval x = hv h')
    (h : ∀ v' w', HIn w' v' [h'] → Below w.heap.size w w' → wpList Tryd.prog ops Q rest (a.put o.dst v') w') : wpList Tryd.prog ops Q (o :: rest) a w :=
  wl hgd _ _ (rx_lit1 x ho h' hh hx) (h _ _ (hlit_own w w.heap.size (Nat.le_refl _) [h'] (AllH.one hh) (by simp)).hin (below_alloc w _))
theorem wl_lit0 (hgd : Region.wanted o (yielded ops a.tmps) = true) (ho : o.op = .buildSlice 24 0 #[]) (base : Nat) (hb : base ≤ w.heap.size)
    (h : ∀ v' w', HOwn w' base v' [] → Below w.heap.size w w' → wpList Tryd.prog ops Q rest (a.put o.dst v') w') : wpList Tryd.prog ops Q (o :: rest) a w := by
  have hr : (Instr.buildSlice 24 0 #[]).run Tryd.prog w = .ok (.slice (some ⟨w.heap.size, 0, none⟩) 0 0) (w.alloc (.cells #[] 23)) := by kernel_rfl
  exact wl hgd _ _ (by simp [execOp, ho, hr]) (h _ _ (HOwn.new w base hb) (below_alloc w _))
theorem wl_append (sv x : Operand) (hgd : Region.wanted o (yielded ops a.tmps) = true) (ho : o.op = .call { callee := .builtin .append, args := #[sv, x], argTypes := #[24, 24] }) (base : Nat) (v vx : Value) (hs ys : List (List Nat)) (he : a.eval sv = v) (hown : HOwn w base v hs) (hx : a.eval x = vx) (hin : HIn w vx ys)
    (hsz : (hs.length + ys.length) * 32 ≤ 140737488355328) (hbase : base ≤ w.heap.size)
    (h : ∀ v' w', HOwn w' base v' (hs ++ ys) → Below base w w' → wpList Tryd.prog ops Q rest (a.put o.dst v') w') : wpList Tryd.prog ops Q (o :: rest) a w := by
  obtain ⟨v', w', hr, ho', hg⟩ := run_happend base o.type v vx hs ys hown hin hsz hbase
  exact wl hgd _ _ (rx_append sv x ho v vx v' w' he hx hr) (h v' w' ho' (hown.below hg hbase))
theorem wl_box (x : Operand) (hgd : o.guard = none) (ho : o.op = .box 23 x) (h' : List Nat) (hh : IsH h') (hx : a.eval x = hv h')
    (h : ∀ w', HIs w' w.heap.size h' → w'.heap.size = w.heap.size + 1 → Below w.heap.size w w' → wpList Tryd.prog ops Q rest (a.put o.dst (.pointer (some ⟨w.heap.size, 0, none⟩))) w') : wpList Tryd.prog ops Q (o :: rest) a w :=
  wpList_box x hgd ho (bcells h') hx fun w' r s b => h w' ⟨hh, r⟩ s b
theorem wl_alloc (hgd : o.guard = none) (ho : o.op = .alloc 23)
    (h : ∀ w', HIs w' w.heap.size noH → w'.heap.size = w.heap.size + 1 → Below w.heap.size w w' → wpList Tryd.prog ops Q rest (a.put o.dst (.pointer (some ⟨w.heap.size, 0, none⟩))) w') : wpList Tryd.prog ops Q (o :: rest) a w :=
  wpList_alloc' (zerosU8 32) zero25 hgd ho fun w' r s b => h w' ⟨noH_isH, by rw [← noH_cells]; exact r⟩ s b
theorem wl_store (x y : Operand) (hgd : Region.wanted o (yielded ops a.tmps) = true) (hdst : o.dst = none) (ho : o.op = .store 23 x y) (g : Nat) (hx : a.eval x = .pointer (some ⟨g, 0, none⟩)) (h0 h' : List Nat) (hh : IsH h') (hy : a.eval y = hv h') (hr : HIs w g h0)
    (h : ∀ w', HIs w' g h' → Only g w w' → w'.heap.size = w.heap.size → wpList Tryd.prog ops Q rest a w') : wpList Tryd.prog ops Q (o :: rest) a w :=
  wlSkip hgd hdst _ (rx_store x y ho g hx h0 h' hh hy hr) (h _ (his_store hh hr) ((Only.refl g w).setRow _) (by simp [World.setRow]))
/-- a variable is made and written at once -/
theorem wl_new {o1 o2 : Oper} {d : Tmp} (hgd1 : o1.guard = none) (hgd2 : o2.guard = none) (hd1 : o1.dst = some d) (hd2 : o2.dst = none) (ho1 : o1.op = .alloc 23) (y : Operand) (ho2 : o2.op = .store 23 (.tmp d) y) (h' : List Nat) (hh : IsH h')
    (hx : ∀ v, (a.put (some d) v).eval (.tmp d) = v) (hy : ∀ v, (a.put (some d) v).eval y = hv h')
    (h : ∀ w', HIs w' w.heap.size h' → w'.heap.size = w.heap.size + 1 → Below w.heap.size w w' → wpList Tryd.prog ops Q rest (a.put (some d) (.pointer (some ⟨w.heap.size, 0, none⟩))) w') : wpList Tryd.prog ops Q (o1 :: o2 :: rest) a w := by
  refine wl_alloc hgd1 ho1 ?_
  intro w1 r1 s1 b1
  rw [hd1]
  refine wl_store (.tmp d) y (by simp [Region.wanted, hgd2]) hd2 ho2 w.heap.size (hx _) noH h' hh (hy _) r1 ?_
  intro w2 r2 o2 s2
  exact h w2 r2 (by omega) (b1.trans (o2.below (Nat.le_refl _) (by omega)))
theorem wl_eq (x y : Operand) (hgd : Region.wanted o (yielded ops a.tmps) = true) (ho : o.op = .binOp .eql 23 x y 23) (h1 h2 : List Nat) (hh : IsH h1) (hh' : IsH h2) (hx : a.eval x = hv h1) (hy : a.eval y = hv h2)
    (h : wpList Tryd.prog ops Q rest (a.put o.dst (.bool (decide (h1 = h2)))) w) : wpList Tryd.prog ops Q (o :: rest) a w := wl hgd _ _ (rx_eq x y ho h1 h2 hh hh' hx hy) h
theorem wl_same (x y : Operand) (hgd : Region.wanted o (yielded ops a.tmps) = true) (ho : o.op = .binOp .eql 23 x y 23) (h1 : List Nat) (hh : IsH h1) (hx : a.eval x = hv h1) (hy : a.eval y = hv h1)
    (h : wpList Tryd.prog ops Q rest (a.put o.dst (.bool true)) w) : wpList Tryd.prog ops Q (o :: rest) a w := wl hgd _ _ (rx_eq x y ho h1 h1 hh hh hx hy) (by rw [decide_eq_true rfl]; exact h)
theorem wl_ne (x y : Operand) (hgd : Region.wanted o (yielded ops a.tmps) = true) (ho : o.op = .binOp .neq 23 x y 23) (h1 h2 : List Nat) (hh : IsH h1) (hh' : IsH h2) (hx : a.eval x = hv h1) (hy : a.eval y = hv h2)
    (h : wpList Tryd.prog ops Q rest (a.put o.dst (.bool (!decide (h1 = h2)))) w) : wpList Tryd.prog ops Q (o :: rest) a w := wl hgd _ _ (rx_ne x y ho h1 h2 hh hh' hx hy) h
theorem wl_bytes (x : Operand) (hgd : Region.wanted o (yielded ops a.tmps) = true) (ho : o.op = .slice 23 x none none none) (g : Nat) (hx : a.eval x = .pointer (some ⟨g, 0, none⟩))
    (h : wpList Tryd.prog ops Q rest (a.put o.dst (.slice (some ⟨g, 0, none⟩) 32 32)) w) : wpList Tryd.prog ops Q (o :: rest) a w := wl hgd _ _ (rx_bytes x ho g hx) h
end
/-- what a function hands back out of its result's block -/
theorem results_H {fn : Func} {p : Tmp} (h : fn.results = #[.cell p 23]) (tmps : Array Value) (w : World) (g : Nat) (hp : tmps.getD p undef = .pointer (some ⟨g, 0, none⟩)) (h' : List Nat) (hr : HIs w g h') : (results fn tmps).run Tryd.prog w = .ok (hv h') w :=
  results_cell agg25 h tmps w g 23 hp (bcells h') hr.len hr.2

/-! regions that draw their order -/
section
variable {ops : Array Oper} {Q : Exit → Act → World → Prop} {a : Act} {w : World} {listed : Array Bool} {fuel : Nat} {S : World → Prop} {o : Oper}
theorem takeH {i : Nat} (d : Option Tmp) {oi : Oper} {v : Value} (hi : ops[i]? = some oi) (hd : oi.dst = d)
    (hs : Region.noSelect ops = true) (hf : Region.free .any ops listed i = true) (hr : (Region.ready .any ops listed).contains i = true)
    (hQ : ∀ c a w, Q (.panic c) (a.put d v) w → Q (.panic c) a w) (hy : YieldsIf Tryd.prog ops S oi v a) (hS : S w)
    (h : wpAnyH Tryd.prog .any ops Q S fuel (listed.setIfInBounds i true) (a.put d v) w) : wpAnyH Tryd.prog .any ops Q S (fuel + 1) listed a w := by
  subst hd
  exact wpAnyH_take hi hs hf hr hQ hy hS h
theorem oneH {i : Nat} (hr : Region.ready .any ops listed = [i]) (h : wpOp Tryd.prog ops Q i (fun a' w' => S w' ∧ wpAnyH Tryd.prog .any ops Q S fuel (listed.setIfInBounds i true) a' w') a w) : wpAnyH Tryd.prog .any ops Q S (fuel + 1) listed a w :=
  wpAnyH_all (rs := [i]) hr (by simp) fun j hj => by obtain rfl := List.mem_singleton.1 hj; exact h
theorem opCallA {i : Nat} (d : Option Tmp) {K : Act → World → Prop} (hi : ops[i]? = some o) (hd : o.dst = d) (hgd : o.guard = none) (f : Nat) (args : Array Value) (hrun : (execOp a.eval o).run Tryd.prog w = .ok (.enter f args) w) (h : Calls Tryd.prog f args w fun e w' => ∃ v, e = .returned v ∧ K (a.put d v) w') : wpOp Tryd.prog ops Q i K a w := by
  subst hd
  unfold wpOp
  have hw : Region.wanted o (yielded ops a.tmps) = true := by simp [Region.wanted, hgd]
  simp only [hi, hw, if_true, Oper.wp, hrun, Oper.upon]
  refine .inl (Calls.mono h fun e w' he => ?_)
  obtain ⟨v, rfl, hK⟩ := he
  exact hK
theorem opVal {i : Nat} (d : Option Tmp) {K : Act → World → Prop} (hi : ops[i]? = some o) (hd : o.dst = d) (hgd : o.guard = none) (v : Value) (w' : World) (hrun : (execOp a.eval o).run Tryd.prog w = .ok (.value v) w') (h : K (a.put d v) w') : wpOp Tryd.prog ops Q i K a w := by
  subst hd
  unfold wpOp
  have hw : Region.wanted o (yielded ops a.tmps) = true := by simp [Region.wanted, hgd]
  simp only [hi, hw, if_true, Oper.wp, hrun, Oper.upon]
  exact .inl h
theorem opSkip {i : Nat} {K : Act → World → Prop} (hi : ops[i]? = some o) (hd : o.dst = none) (hgd : o.guard = none) (w' : World) (hrun : (execOp a.eval o).run Tryd.prog w = .ok .skip w') (h : K a w') : wpOp Tryd.prog ops Q i K a w := by
  unfold wpOp
  have hw : Region.wanted o (yielded ops a.tmps) = true := by simp [Region.wanted, hgd]
  simp only [hi, hw, if_true, Oper.wp, hrun, Oper.upon, hd]
  exact .inl h
theorem yRun (hgd : o.guard = none) (v : Value) (hr : ∀ w, S w → (execOp a.eval o).run Tryd.prog w = .ok (.value v) w) : YieldsIf Tryd.prog ops S o v a :=
  Or.inl ⟨by simp [Region.wanted, hgd], hr⟩
theorem yMove (hgd : o.guard = none) (x : Operand) (ho : o.op = .move x) (v : Value) (hv : a.eval x = v) : YieldsIf Tryd.prog ops S o v a :=
  yRun hgd v fun w _ => by simp [execOp, ho, hv]
theorem yAssign (hgd : o.guard = none) (x : Operand) (ho : o.op = .assign x) (v : Value) (hv : a.eval x = v) : YieldsIf Tryd.prog ops S o v a :=
  yRun hgd v fun w _ => by simp [execOp, ho, hv]
theorem ySub (hgd : o.guard = none) (x : Operand) (lo hi : Option Operand) (ho : o.op = .slice 24 x lo hi none) (v v' : Value) (hx : a.eval x = v) (hr : ∀ w', (Instr.slice 24 v (lo.map a.eval) (hi.map a.eval) none).run Tryd.prog w' = .ok v' w') : YieldsIf Tryd.prog ops S o v' a :=
  yRun hgd v' fun _ _ => rx_sub x lo hi ho v v' hx hr
theorem yIndex (hgd : o.guard = none) (x i : Operand) (ho : o.op = .indexAddr 24 x i) (v p : Value) (hx : a.eval x = v) (I : Value) (hi : a.eval i = I) (hr : ∀ w', (Instr.indexAt 24 v I).run Tryd.prog w' = .ok p w') : YieldsIf Tryd.prog ops S o p a :=
  yRun hgd p fun _ _ => rx_index x i ho v p hx I hi hr
theorem yLoad (hgd : o.guard = none) (x : Operand) (ho : o.op = .load 23 x) (p : Value) (hx : a.eval x = p) (h : List Nat) (hp : ∀ w, S w → HAt w p h) : YieldsIf Tryd.prog ops S o (hv h) a :=
  yRun hgd _ fun w hS => rx_load x ho p hx h (hp w hS)
def EntersF (f : Nat) : Prop := ∀ args w, (callFunc f args).run Tryd.prog w = .ok (.enter f args) w
theorem enters {f : Nat} {fn : Func} (hf : Tryd.prog.funcs[f]? = some fn) (hn : (fn.name == "runtime.NumGoroutine") = false) (hb : fn.body.isNone = false) : EntersF f := by
  intro args w
  have h1 : fn.name ≠ "runtime.NumGoroutine" := by simpa using hn
  have hb' : fn.body ≠ none := by intro hn; rw [hn] at hb; cases hb
  simp [callFunc, hf, h1, hb', mark]
theorem en12 : EntersF 16 := enters Tryd.func16 (by kernel_rfl) (by kernel_rfl)
theorem en13 : EntersF 19 := enters Tryd.func19 (by kernel_rfl) (by kernel_rfl)
theorem en14 : EntersF 22 := enters Tryd.func22 (by kernel_rfl) (by kernel_rfl)
theorem en15 : EntersF 36 := enters Tryd.func36 (by kernel_rfl) (by kernel_rfl)
theorem en20 : EntersF 12 := enters Tryd.func12 (by kernel_rfl) (by kernel_rfl)
theorem en33 : EntersF 32 := enters Tryd.func32 (by kernel_rfl) (by kernel_rfl)
theorem en35 : EntersF 33 := enters Tryd.func33 (by kernel_rfl) (by kernel_rfl)
theorem run_call {f : Nat} (ef : EntersF f) (xs : List Operand) (ts : Array TypeId) (ho : o.op = .call { callee := .value (.func f), args := xs.toArray, argTypes := ts }) (vs : List Value) (hv : xs.map a.eval = vs) : (execOp a.eval o).run Tryd.prog w = .ok (.enter f vs.toArray) w := by
  subst hv
  have hen := ef (xs.map a.eval).toArray w
  simp [execOp, ho, resolve, BigFrame.eval_func, Deferred.ofValue, invoke, hen]
theorem run_callV {f : Nat} (ef : EntersF f) (x : Tmp) (cap : List Value) (xs : List Operand) (ts : Array TypeId) (ho : o.op = .call { callee := .value (.tmp x), args := xs.toArray, argTypes := ts }) (hx : a.eval (.tmp x) = .func (.func f) #[] cap.toArray) (vs : List Value) (hv : xs.map a.eval = vs) : (execOp a.eval o).run Tryd.prog w = .ok (.enter f (vs ++ cap).toArray) w := by
  subst hv
  have hen := ef (xs.map a.eval ++ cap).toArray w
  simp [execOp, ho, resolve, hx, Deferred.ofValue, invoke, hen]
end
theorem below_drawn (w : World) (n : Nat) : Below w.heap.size w { w with drawn := n } := ⟨rfl, rfl, rfl, Nat.le_refl _, fun _ _ => rfl⟩
end Go.Proofs.YtjdmpanemdhbbaaDoor

/- The law PlantMakes, walked out of its callees' contracts. -/
import Derived.Test.YtgkmegcejekbcaaRefNew
namespace Go.Proofs.Ytgkmegcejekbcaa
open Go.RowKit Go.Maps

/-- numbers that the call has made -/
def IOwn (w : World) (base : Nat) (v : Value) (l : List Int) : Prop := w.ownsRow base 3 1 v l.length (l.map (Value.int .i64))
theorem IOwn.ints {w : World} {base : Nat} {v : Value} {l : List Int} (h : IOwn w base v l) (hl : l.length < 4611686018427387904) : IntsIn w v l := by
  rcases h.2 with ⟨rfl, h0⟩ | ⟨g, cap, cur, rfl, _, hg, hcap, hmax, hsz, htake⟩
  · obtain rfl : l = [] := List.length_eq_zero_iff.1 h0
    exact ⟨none, 0, rfl, Nat.le_refl _, by decide, Or.inl rfl⟩
  · refine ⟨_, cap, rfl, hcap, hl, Or.inr ⟨g, 0, rfl, fun j hj => ?_⟩⟩
    have h2 := h.cells (g := g) rfl j (.int .i64 (l.getD j 0)) (by simp [hj])
    rw [add_none] at h2
    exact h2
theorem IOwn.set {w : World} {base : Nat} {v : Value} {l : List Int} (h : IOwn w base v l) (g : Nat) (hg : v.ownBlock = some g) (k : Nat) (x : Int) :
    IOwn (w.setCell ⟨g, k, none⟩ (.int .i64 x)) base v (l.set k x) ∧ w.frozen? ⟨g, k, none⟩ = false := by
  rcases h.2 with ⟨rfl, h0⟩ | ⟨g', cap, cur, rfl, hb, hgg, hcap, hmax, hsz, htake⟩
  · cases hg
  obtain rfl : g' = g := by injection hg
  refine ⟨?_, by simp [World.frozen?, hgg]⟩
  rw [setCell_eq_setRow w g' k cur 3 (0, 0) _ hgg]
  refine ⟨by simp, Or.inr ⟨g', cap, _, by rw [List.length_set], hb, setRow_heap w g' _ _ 3 (0, 0) hgg, by rw [List.length_set]; exact hcap, hmax, by simp [hsz], ?_⟩⟩
  rw [List.length_set, Array.toList_setIfInBounds, List.take_set, htake]
  simp [List.map_set]
theorem IOwn.later {w w' : World} {base : Nat} {v : Value} {l : List Int} (h : IOwn w base v l) (hb : Below w.heap.size w w') : IOwn w' base v l := own_later h hb
/-- append of numbers to a row of nothing -/
theorem app_own {w : World} (ty : TypeId) (g : Nat) (hg : Row w g 3 []) (vx : Value) (xs : List Int) (hx : IntsIn w vx xs) (hsz : xs.length ≤ 17592186043904) :
    ∃ v' w', (Builtin.append_ #[22, 22] ty #[.slice (some ⟨g, 0, none⟩) 0 0, vx]).run Try.prog w = .ok v' w' ∧ IOwn w' g v' xs ∧ Below w.heap.size w w' := by
  obtain ⟨v', w', hr, hi', hb, hq⟩ := app_ints ty g hg vx xs hx hsz
  refine ⟨v', w', hr, ?_, hb⟩
  obtain ⟨i, hi, hz0, hz1, hz2⟩ := info_parts info3
  have hown : w.ownsRow g 3 1 (.slice (some ⟨g, 0, none⟩) 0 0) 0 [] := ⟨by simp, Or.inr ⟨g, 0, #[], rfl, Nat.le_refl _, hg, Nat.le_refl _, by unfold maxLen; omega, rfl, rfl⟩⟩
  obtain ⟨p, cap, rfl, h1, h2, h⟩ := hx
  by_cases h0 : xs = []
  · subst h0
    have hr2 : (Builtin.append_ #[22, 22] ty #[.slice (some ⟨g, 0, none⟩) 0 0, .slice p ([] : List Int).length cap]).run Try.prog w = .ok (.slice (some ⟨g, 0, none⟩) 0 0) w := by
      cases p with
      | none => simp [Builtin.append_, run_underlying Try.underlying22, sizeOf, typeInfo, hi, Builtin.lenOf, Builtin.firstCells, storeCells]
      | some ad => simp [Builtin.append_, run_underlying Try.underlying22, sizeOf, typeInfo, hi, Builtin.lenOf, Builtin.firstCells, loadCells, loadCellsFrom, storeCells]
    rw [hr] at hr2
    injection hr2 with e1 e2
    rw [e1, e2]
    exact hown
  · rcases h with rfl | ⟨b, off, rfl, hc⟩
    · exact absurd rfl h0
    have hnews : ∀ j u, (xs.map (Value.int .i64))[j]? = some u → w.cell? ((⟨b, off, none⟩ : Addr).add j) = some u := by
      intro j u hu
      have hj : j < xs.length := by
        have := (List.getElem?_eq_some_iff.1 hu).1
        simpa using this
      rw [add_none, hc j hj, ← hu]
      simp [hj]
    obtain ⟨v2, w2, hr2, ho, _, _⟩ := run_append_own (P := Try.prog) (w := w) g 22 ty 3 i (.int .i64 0) 1 8 Try.underlying22 hi hz0 hz1 hz2 rfl (by decide) _ 0 [] hown
      ⟨b, off, none⟩ xs.length cap (xs.map (Value.int .i64)) (by simp) hnews (by intro u hu; obtain ⟨x, _, rfl⟩ := List.mem_map.1 hu; rfl) (by unfold maxLen; omega) (by omega) (Nat.le_of_lt hg.lt)
    rw [hr] at hr2
    injection hr2 with e1 e2
    rw [e1, e2]
    unfold IOwn
    rw [Nat.zero_add, List.nil_append] at ho
    exact ho
section
variable {w : World} {ops : Array Oper} {rest : List Oper} {o : Oper} {a : Act} {Q : Exit → Act → World → Prop}
theorem wpList_int0 (hgd : o.guard = none) (ho : o.op = .buildSlice 22 0 #[])
    (h : ∀ w', Row w' w.heap.size 3 [] → Below w.heap.size w w' → wpList Try.prog ops Q rest (a.put o.dst (.slice (some ⟨w.heap.size, 0, none⟩) 0 0)) w') : wpList Try.prog ops Q (o :: rest) a w :=
  wpList_value hgd _ _ (run_int0Op ho) (h _ (Row.new w 3 []) ((Below.refl _ _).alloc (Nat.le_refl _) _))
theorem wpList_appInts (sv x : Operand) (hgd : o.guard = none) (ho : o.op = .call { callee := .builtin .append, args := #[sv, x], argTypes := #[22, 22] }) (g : Nat) (hg : Row w g 3 []) (hs : a.eval sv = .slice (some ⟨g, 0, none⟩) 0 0) (vx : Value) (xs : List Int) (hx : a.eval x = vx) (hin : IntsIn w vx xs) (hsz : xs.length ≤ 17592186043904)
    (h : ∀ v' w', IOwn w' g v' xs → Below w.heap.size w w' → wpList Try.prog ops Q rest (a.put o.dst v') w') : wpList Try.prog ops Q (o :: rest) a w := by
  obtain ⟨v', w', hr, h1, h2⟩ := app_own o.type g hg vx xs hin hsz
  exact wpList_value hgd v' w' (run_appOp sv x ho _ _ _ hs hx hr) (h v' w' h1 h2)
theorem wpList_lenI {w0 : World} (x : Operand) (hgd : Region.wanted o (yielded ops a.tmps) = true) (ho : o.op = .call { callee := .builtin .len, args := #[x], argTypes := #[22] }) (v : Value) (l : List Int) (hx : a.eval x = v) (hin : IntsIn w0 v l)
    (h : wpList Try.prog ops Q rest (a.put o.dst (.int .i64 (l.length : Nat))) w) : wpList Try.prog ops Q (o :: rest) a w := by
  obtain ⟨p, cap, rfl, _⟩ := hin
  have e22 : Try.prog.elem 22 = 3 := by kernel_rfl
  have hu' : Try.prog.underlying 22 = some (.slice (Try.prog.elem 22)) := by rw [e22]; exact Try.underlying22
  refine BigFrame.wpList_want hgd fun K hK => ?_
  have hr := run_len_slice w 22 o.type p l.length cap hu'
  unfold Oper.wp
  rw [show (execOp a.eval o).run Try.prog w = .ok (.value (.int .i64 (l.length : Nat))) w by simp only [execOp, ho, resolve, invoke, builtin, Sem.run_bind, Sem.run_pure, Result.andThen_ok, List.map_toArray, List.map_cons, List.map_nil, hx, hr]; rfl]
  exact hK _ _ h
end
theorem IOwn.at {w : World} {base : Nat} {v : Value} {l : List Int} (h : IOwn w base v l) (k : Nat) (hk : k < l.length) : ∃ g cap, v = .slice (some ⟨g, 0, none⟩) l.length cap ∧ base ≤ g ∧ w.cell? ⟨g, k, none⟩ = some (.int .i64 (l.getD k 0)) := by
  rcases h.2 with ⟨rfl, h0⟩ | ⟨g, cap, cur, rfl, hb, _⟩
  · omega
  · have h2 := h.cells (g := g) rfl k (.int .i64 (l.getD k 0)) (by simp [hk])
    rw [add_none, Nat.zero_add] at h2
    exact ⟨g, cap, rfl, hb, h2⟩
theorem sized_new (ds ts : List Int) (h : shapeOk ds ts = true) : sized false (newPl ds ts).sh = ds.map (Value.int .i64) ∧ sized true (newPl ds ts).sh = ts.map (Value.int .i64) := by
  unfold shapeOk at h
  simp only [Bool.and_eq_true, decide_eq_true_eq] at h
  have key : ∀ l : List Int, sizesOk l = true → l.map (fun x => Value.int .i64 ((x.toNat : Nat) : Int)) = l.map (Value.int .i64) := by
    intro l hl
    apply List.map_congr_left
    intro x hx
    have := List.all_eq_true.1 hl x hx
    simp only [Bool.and_eq_true, decide_eq_true_eq] at this
    rw [Int.toNat_of_nonneg (by omega)]
  have e1 := key ds h.2.2.1
  have e2 := key ts h.2.2.2
  have f1 : (ds.map fun n => (false, n.toNat)).filter (fun x : Bool × Nat => x.1 == false) = ds.map fun n => (false, n.toNat) := List.filter_eq_self.2 (by simp)
  have f2 : (ts.map fun n => (true, n.toNat)).filter (fun x : Bool × Nat => x.1 == false) = [] := List.filter_eq_nil_iff.2 (by simp)
  have f3 : (ds.map fun n => (false, n.toNat)).filter (fun x : Bool × Nat => x.1 == true) = [] := List.filter_eq_nil_iff.2 (by simp)
  have f4 : (ts.map fun n => (true, n.toNat)).filter (fun x : Bool × Nat => x.1 == true) = ts.map fun n => (true, n.toNat) := List.filter_eq_self.2 (by simp)
  unfold sized newPl
  constructor
  · show List.map _ (List.filter _ (_ ++ _)) = _
    rw [← e1, List.filter_append, f1, f2, List.append_nil, List.map_map]
    rfl
  · show List.map _ (List.filter _ (_ ++ _)) = _
    rw [← e2, List.filter_append, f3, f4, List.nil_append, List.map_map]
    rfl

theorem run_indexI {w : World} {v : Value} {l : List Int} (h : IntsIn w v l) (k : Nat) (hk : k < l.length) : ∃ b j, (∀ w', (Instr.indexAt 22 v (.int .i64 (k : Nat))).run Try.prog w' = .ok (.pointer (some ⟨b, j, none⟩)) w') ∧ w.cell? ⟨b, j, none⟩ = some (.int .i64 (l.getD k 0)) := by
  obtain ⟨b, off, cap, rfl, hc⟩ := h.cell k hk
  have s3 : (Try.prog.info? 3).map (·.size) = some 1 := by kernel_rfl
  obtain ⟨i5, hi5, hsz⟩ := Option.map_eq_some_iff.1 s3
  exact ⟨b, off + k, fun w' => by simp [Instr.indexAt, asIntOf, run_underlying Try.underlying22, hk, sizeOf, typeInfo, hi5, hsz, add_none], hc⟩
section
variable {w : World} {ops : Array Oper} {rest : List Oper} {o : Oper} {a : Act} {Q : Exit → Act → World → Prop}
theorem run_indexIOp (x i : Operand) (ho : o.op = .indexAddr 22 x i) (v I p : Value) (hx : a.eval x = v) (hi : a.eval i = I) (hr : (Instr.indexAt 22 v I).run Try.prog w = .ok p w) : (execOp a.eval o).run Try.prog w = .ok (.value p) w := by
  simp only [execOp, ho, hx, hi, hr, Sem.run_bind, Sem.run_pure, Result.andThen_ok]
theorem run_moveOp (x : Operand) (ho : o.op = .move x) (v : Value) (hx : a.eval x = v) : (execOp a.eval o).run Try.prog w = .ok (.value v) w := by
  simp [execOp, ho, hx]
theorem run_neqOp (x y : Operand) (ho : o.op = .binOp .neq 3 x y 3) (n : Int) (hx : a.eval x = .int .i64 n) (hy : a.eval y = .int .i64 n) : (execOp a.eval o).run Try.prog w = .ok (.value (.bool false)) w := by
  simp only [execOp, ho, hx, hy]
  simp [go_sem]
/-- an element's address in a row of the call's own: it may be written -/
theorem wpList_indexIOwn (x i : Operand) (hgd : o.guard = none) (ho : o.op = .indexAddr 22 x i) (base : Nat) (v : Value) (l : List Int) (hx : a.eval x = v) (hown : IOwn w base v l) (k : Nat) (hk : k < l.length) (I : Int) (hi : a.eval i = .int .i64 I) (hI : I = (k : Int))
    (h : ∀ g, Hid (v.ownBlock = some g ∧ base ≤ g) → w.cell? ⟨g, k, none⟩ = some (.int .i64 (l.getD k 0)) → w.frozen? ⟨g, k, none⟩ = false → wpList Try.prog ops Q rest (a.put o.dst (.pointer (some ⟨g, k, none⟩))) w) : wpList Try.prog ops Q (o :: rest) a w := by
  subst hI
  obtain ⟨g, cap, rfl, hb, hc⟩ := hown.at k hk
  have s3 : (Try.prog.info? 3).map (·.size) = some 1 := by kernel_rfl
  obtain ⟨i5, hi5, hsz⟩ := Option.map_eq_some_iff.1 s3
  have hr : (Instr.indexAt 22 (.slice (some ⟨g, 0, none⟩) l.length cap) (.int .i64 (k : Nat))).run Try.prog w = .ok (.pointer (some ⟨g, k, none⟩)) w := by
    simp [Instr.indexAt, asIntOf, run_underlying Try.underlying22, hk, sizeOf, typeInfo, hi5, hsz, add_none]
  exact wpList_value hgd _ w (run_indexIOp x i ho _ _ _ hx hi hr) (h g ⟨rfl, hb⟩ hc (hown.set g rfl k 0).2)
end
/-- where the law stands between New and Shape -/
def MIn (w W : World) (B C n g : Nat) (c : Nat → Colour) (vD : Value) (m : Pl) (sl : List Value) : Prop := ∃ l : List Int, IOwn W C vD l ∧ l.length = n ∧ Live W c 0 g m ∧ Row W B 24 sl ∧ Below B w W ∧ (∀ q, vD.ownBlock = some q → (c q).1 ≠ 0)
theorem MIn.set {w W : World} {B C n g : Nat} {c : Nat → Colour} {vD : Value} {m : Pl} {sl : List Value} {l : List Int} (h1 : IOwn W C vD l) (h2 : l.length = n) (h3 : Live W c 0 g m) (h4 : Row W B 24 sl) (h5 : Below B w W) (h6 : ∀ q, vD.ownBlock = some q → (c q).1 ≠ 0) (hBC : B < C) (q k : Nat) (x : Int) (hq : vD.ownBlock = some q ∧ C ≤ q) :
    MIn w (W.setCell ⟨q, k, none⟩ (.int .i64 x)) B C n g c vD m sl := by
  refine ⟨l.set k x, (h1.set q hq.1 k x).1, by rw [List.length_set]; exact h2, ⟨h3.1.kept (by simp) fun b hb hcb => ⟨Below.heap_setCell W _ _ b (fun e => ?_), rfl⟩, h3.2.1, fun b hb => h3.2.2 b (by simpa using hb)⟩, h4.setCell_other (by omega) _ _, h5.trans ⟨rfl, rfl, rfl, by simp, fun k' hk' => Below.heap_setCell W _ _ k' (by show k' ≠ q; omega)⟩, h6⟩
  exact h6 q hq.1 (by rw [show q = b from e.symm]; exact hcb)
theorem one_two {u v : Value} (hu : u.oneCell' = true) (hv : v.oneCell' = true) : ∀ x ∈ [u, v], x.oneCell' = true := by
  intro x hx
  simp only [List.mem_cons, List.not_mem_nil, or_false] at hx
  rcases hx with rfl | rfl
  · exact hu
  · exact hv
/-- what the last loops read -/
def LastS (w9 : World) (W : World) : Prop := Below w9.heap.size w9 W

set_option maxHeartbeats 4000000 in
set_option maxRecDepth 100000 in
theorem makes_any (w : World) (vd vt : Value) (ds ts : List Int) (hd : IntsIn w vd ds) (ht : IntsIn w vt ts) (hl1 : ds.length ≤ 17592186043904) (hl2 : ts.length ≤ 17592186043904) :
    Calls Try.prog 3 #[.agg #[vd, vt]] w fun e w' => e = .returned (.bool true) ∧ Below w.heap.size w w' := by
  obtain ⟨B, hB⟩ : ∃ B, B = w.heap.size := ⟨_, rfl⟩
  have HB : Hid (B = w.heap.size) := hB
  obtain ⟨hcd, hsd⟩ := hd.isSlice
  obtain ⟨hct, hst⟩ := ht.isSlice
  have HD : Hid (IntsIn w vd ds) := hd
  have HT : Hid (IntsIn w vt ts) := ht
  rw [← hB]
  clear hd ht hB
  go_enter Try.func3, Try.ntmps3
  go_upto_region 0 with fail
  refine wp_region_lit ?_
  refine wpList_box (.tmp 0) rfl rfl [vd, vt] rfl ?_
  intro w1 r1 s1 b1
  refine wpList_assign (.const (.bool false)) rfl rfl (.bool false) rfl ?_
  refine wpList_nil ?_
  simp only [Act.put, List.setIfInBounds_toArray, List.set_cons_succ, List.set_cons_zero]
  rw [← HB.out] at r1 s1 b1 ⊢
  have HR1 : Hid (Row w1 B 24 [vd, vt]) := r1
  have HB1 : Hid (Below B w w1 ∧ w1.heap.size = B + 1) := ⟨b1, s1⟩
  clear r1 s1 b1
  go_wp2_with fail
  refine (shown_any w1).mono ?_
  rintro e w2 ⟨rfl, b2⟩
  have B2 : Hid (Below B w w2) := HB1.out.1.trans (b2.mono (by have := HB1.out.2; omega))
  have R2 : Hid (Row w2 B 24 [vd, vt]) := HR1.out.later b2 HR1.out.lt
  have HD2 : Hid (IntsIn w2 vd ds ∧ IntsIn w2 vt ts) := ⟨HD.out.later (by rw [← HB.out]; exact B2.out), HT.out.later (by rw [← HB.out]; exact B2.out)⟩
  clear b2 HB1 HR1
  go_wp2_with (first
    | (go_big_may; refine wpList_int0 rfl rfl ?_; intro w3 r3 b3; have R3 : Hid (Row w3 w2.heap.size 3 []) := r3; have B3 : Hid (Below w2.heap.size w2 w3) := b3; have k3 := (R2.out.later b3 R2.out.lt).at 0 _ rfl; clear r3 b3)
    | (refine wpList_appInts (.tmp 15) (.tmp 17) rfl rfl w2.heap.size R3.out rfl vd ds rfl (HD2.out.1.later B3.out) hl1 ?_; intro vD w4 o4 b4; have OD : Hid (IOwn w4 w2.heap.size vD ds) := o4; have B4 : Hid (Below w2.heap.size w2 w4) := B3.out.trans (b4.mono B3.out.size); clear o4 b4 k3 R3 B3)
    | (go_big_may; refine wpList_int0 rfl rfl ?_; intro w5 r5 b5; have R5 : Hid (Row w5 w4.heap.size 3 []) := r5; have B5 : Hid (Below w4.heap.size w4 w5) := b5; have k5 := (R2.out.later (B4.out.trans (b5.mono B4.out.size)) R2.out.lt).at 1 _ rfl; clear r5 b5)
    | (refine wpList_appInts (.tmp 19) (.tmp 21) rfl rfl w4.heap.size R5.out rfl vt ts rfl (HD2.out.2.later (B4.out.trans (B5.out.mono B4.out.size))) hl2 ?_; intro vT w6 o6 b6; have OT : Hid (IOwn w6 w4.heap.size vT ts) := o6; have B6 : Hid (Below w4.heap.size w4 w6) := B5.out.trans (b6.mono B5.out.size); clear o6 b6 k5 R5 B5)
    | (refine wpList_build24 (.tmp 24) (.tmp 25) rfl rfl vD vT (slice_of_own OD.out).1 (slice_of_own OT.out).1 rfl rfl ?_))
  have OD6 : Hid (IOwn w6 w2.heap.size vD ds) := OD.out.later B6.out
  have B26 : Hid (Below w2.heap.size w2 w6) := B4.out.trans (B6.out.mono B4.out.size)
  have HIN : Hid (IntsIn w6 vD ds ∧ IntsIn w6 vT ts) := ⟨OD6.out.ints (by omega), OT.out.ints (by omega)⟩
  have QD : Hid (∀ q, vD.ownBlock = some q → w2.heap.size ≤ q ∧ q < w6.heap.size) := fun q hq => OD6.out.lt q hq
  clear OD OT B4 B6
  have LD : Hid (∀ W : World, Below w2.heap.size w2 W → ∀ j v, ([vd, vt] : List Value)[j]? = some v → W.cell? ⟨B, 0 + j, none⟩ = some v) := fun W hW j v hv => by rw [Nat.zero_add]; exact (R2.out.later hW R2.out.lt).at j v hv
  cases hok : shapeOk ds ts
  · refine (newBad_any w6 vD vT ds ts HIN.out.1 HIN.out.2 (by omega) (by omega) hok).mono ?_
    rintro e w7 ⟨rfl, b7⟩
    have B7 : Hid (Below w2.heap.size w2 w7) := B26.out.trans (b7.mono B26.out.size)
    have BB7 : Hid (Below B w w7) := B2.out.trans (B7.out.mono (by have := R2.out.lt; omega))
    clear b7
    go_wp2_with (refine wpList_load agg24 (.tmp 1) rfl rfl B 0 rfl [vd, vt] rfl (LD.out w7 B7.out) ?_)
    have hrf := refNew_any w7 vd vt ds ts (HD.out.later (by rw [← HB.out]; exact BB7.out)) (HT.out.later (by rw [← HB.out]; exact BB7.out)) hl1 hl2
    rw [hok] at hrf
    refine hrf.mono ?_
    rintro e w8 ⟨vr, rfl, b8⟩
    have BB8 : Hid (Below B w w8) := BB7.out.trans (b8.mono (by have := BB7.out.size; rw [HB.out]; exact this))
    clear b8 hrf hok
    go_wp2
    go_ret
    exact ⟨rfl, BB8.out⟩
  · refine (Live.new w6 (fun _ => (1, 0)) 0 vD vT ds ts HIN.out.1 HIN.out.2 hok).mono ?_
    rintro e w7 ⟨g, c, rfl, hgw, hcc, hc2, hlive, b7⟩
    have B7 : Hid (Below w2.heap.size w2 w7) := B26.out.trans (b7.mono B26.out.size)
    have BB7 : Hid (Below B w w7) := B2.out.trans (B7.out.mono (by have := R2.out.lt; omega))
    have HLV : Hid (Live w7 c 0 g (newPl ds ts)) := hlive
    have HQC : Hid (∀ q, vD.ownBlock = some q → (c q).1 ≠ 0) := fun q hq => by rw [hcc q (QD.out q hq).2]; decide
    have OD7 : Hid (IOwn w7 w2.heap.size vD ds) := OD6.out.later b7
    clear b7 hgw hcc hc2 hlive
    go_wp2_with (refine wpList_load agg24 (.tmp 1) rfl rfl B 0 rfl [vd, vt] rfl (LD.out w7 B7.out) ?_)
    have hrf := refNew_any w7 vd vt ds ts (HD.out.later (by rw [← HB.out]; exact BB7.out)) (HT.out.later (by rw [← HB.out]; exact BB7.out)) hl1 hl2
    rw [hok] at hrf
    refine hrf.mono ?_
    rintro e w8 ⟨vr, rfl, b8⟩
    have M8 : Hid (MIn w w8 B w2.heap.size ds.length g c vD (newPl ds ts) [vd, vt]) := ⟨ds, OD7.out.later b8, rfl, HLV.out.below b8, R2.out.later (B7.out.trans (b8.mono B7.out.size)) R2.out.lt, BB7.out.trans (b8.mono (by have := BB7.out.size; rw [HB.out]; exact this)), HQC.out⟩
    have SZ : Hid (sized false (newPl ds ts).sh = ds.map (Value.int .i64) ∧ sized true (newPl ds ts).sh = ts.map (Value.int .i64)) := sized_new ds ts hok
    have HBC : Hid (B < w2.heap.size) := R2.out.lt
    have hlD := HIN.out.1
    obtain ⟨C, hC⟩ : ∃ C, C = w2.heap.size := ⟨_, rfl⟩
    rw [← hC] at M8 HBC
    clear b8 hrf hok OD7 OD6 HLV HQC QD LD B7 BB7 HIN B26 R2 HD2 B2 hC
    generalize newPl ds ts = m at M8 SZ
    go_wp2
    go_loopw [10] (fun i W => ∃ k : Nat, k ≤ ds.length ∧ i = .int .i64 k ∧ MIn w W B C ds.length g c vD m [vd, vt]) (fun i _ => ds.length - (intOf i).toNat)
    case atStart => exact ⟨0, Nat.zero_le _, rfl, M8.out⟩
    case round =>
      obtain ⟨k, hk, rfl, l, h1, h2, h3, h4, h5, h6⟩ := hrel
      have HM : Hid (IOwn wr C vD l ∧ l.length = ds.length ∧ Live wr c 0 g m ∧ Row wr B 24 [vd, vt] ∧ Below B w wr ∧ (∀ q, vD.ownBlock = some q → (c q).1 ≠ 0)) := ⟨h1, h2, h3, h4, h5, h6⟩
      clear h1 h2 h3 h4 h5 h6
      by_cases hlt : k < ds.length
      · go_wp2_with (first
          | (refine wpList_lenI (.tmp 52) rfl rfl vD ds rfl hlD ?_)
          | (refine wpList_indexIOwn (.tmp 57) (.tmp 58) rfl rfl C vD l rfl HM.out.1 k (by rw [HM.out.2.1]; exact hlt) _ rfl rfl ?_; intro q HQ kc kf))
        refine ⟨⟨k + 1, by omega, by go_num, MIn.set HM.out.1 HM.out.2.1 HM.out.2.2.1 HM.out.2.2.2.1 HM.out.2.2.2.2.1 HM.out.2.2.2.2.2 HBC.out q k (-5) HQ.out⟩, ?_⟩
        simp [intOf]; omega
      · obtain ⟨w9, rfl⟩ : ∃ w9, w9 = wr := ⟨_, rfl⟩
        obtain ⟨⟨db, cap, gs, hP⟩, hwf, _⟩ := HM.out.2.2.1
        have HSH := shape_any hP hwf
        have HSC : Hid (Calls Try.prog 11 #[ptr g] w9 fun e w' => ∃ vd vt, e = .returned (.agg #[vd, vt]) ∧ IOwn w' w9.heap.size vd ds ∧ IOwn w' w9.heap.size vt ts ∧ Below w9.heap.size w9 w') := by
          rw [SZ.out.1, SZ.out.2, List.length_map, List.length_map] at HSH
          exact HSH
        clear hP hwf HSH
        go_upto_region 15 with (first
          | (refine wpList_lenI (.tmp 52) rfl rfl vD ds rfl hlD ?_)
          | (go_at_call 11; refine HSC.out.mono ?_; rintro e w10 ⟨ve, vf, rfl, oe, of, b10⟩; have OE : Hid (IOwn w10 w9.heap.size ve ds ∧ IOwn w10 w9.heap.size vf ts) := ⟨oe, of⟩; have H1 : Hid (∀ u ∈ [ve, vf], u.oneCell' = true) := one_two (slice_of_own oe).2 (slice_of_own of).2; have B10 : Hid (Below w9.heap.size w9 w10) := b10; clear oe of b10)
          | (refine wpList_alloc_store agg24 _ zero24 rfl rfl rfl rfl rfl (.tmp 61) rfl [ve, vf] rfl rfl H1.out (fun _ => rfl) (fun _ => rfl) ?_; intro w11 r11 s11 b11; have R11 : Hid (Row w11 w10.heap.size 24 [ve, vf]) := r11; have B11 : Hid (Below w9.heap.size w9 w11) := B10.out.trans (b11.mono B10.out.size); have OE11 : Hid (IOwn w11 w9.heap.size ve ds ∧ IOwn w11 w9.heap.size vf ts) := ⟨OE.out.1.later b11, OE.out.2.later b11⟩; clear r11 s11 b11))
        have B11w : Hid (Below B w w11) := HM.out.2.2.2.2.1.trans (B11.out.mono (by have := HM.out.2.2.2.1.lt; omega))
        have IN11 : Hid ((IntsIn w11 vd ds ∧ IntsIn w11 vt ts) ∧ (IntsIn w11 ve ds ∧ IntsIn w11 vf ts)) := ⟨⟨HD.out.later (by rw [← HB.out]; exact B11w.out), HT.out.later (by rw [← HB.out]; exact B11w.out)⟩, OE11.out.1.ints (by omega), OE11.out.2.ints (by omega)⟩
        have iE := IN11.out.2.1
        have iF := IN11.out.2.2
        have iD := IN11.out.1.1
        have iT := IN11.out.1.2
        obtain ⟨D, hDd⟩ : ∃ D, D = w10.heap.size := ⟨_, rfl⟩
        rw [← hDd] at R11 ⊢
        have q0 := R11.out.at 0 _ rfl
        have q1 := R11.out.at 1 _ rfl
        have q2 := (HM.out.2.2.2.1.later B11.out HM.out.2.2.2.1.lt).at 0 _ rfl
        have q3 := (HM.out.2.2.2.1.later B11.out HM.out.2.2.2.1.lt).at 1 _ rfl
        clear hDd OE OE11 B10 B11 H1 HSC M8 hlD R11 hlt hk HM hcd hct hsd hst
        go_wp2_with (first
          | (refine wpList_lenI (.tmp 63) rfl rfl ve ds rfl iE ?_)
          | (refine wpList_lenI (.tmp 66) rfl rfl vd ds rfl iD ?_)
          | (refine wpList_lenI (.tmp 71) rfl rfl vf ts rfl iF ?_)
          | (refine wpList_lenI (.tmp 74) rfl rfl vt ts rfl iT ?_))
        go_loopw [12] (fun i W => ∃ k : Nat, k ≤ ds.length ∧ i = .int .i64 k ∧ ∃ d, W = { w11 with drawn := d }) (fun i _ => ds.length - (intOf i).toNat)
        case atStart => exact ⟨0, Nat.zero_le _, rfl, w11.drawn, rfl⟩
        case round =>
          obtain ⟨k, hk, rfl, d, hW⟩ := hrel
          have HWd : Hid (wr = { w11 with drawn := d }) := hW
          have kD : wr.cell? ⟨D, 0, none⟩ = some ve := by rw [hW]; exact q0
          have kB : wr.cell? ⟨B, 0, none⟩ = some vd := by rw [hW]; exact q2
          have jE : IntsIn wr ve ds := by rw [hW]; exact iE
          have jD : IntsIn wr vd ds := by rw [hW]; exact iD
          clear hW
          by_cases hlt : k < ds.length
          · go_wp2_with (refine wpList_lenI (.tmp 80) rfl rfl vd ds rfl jD ?_)
            obtain ⟨bE, jE, rE, cE⟩ := run_indexI (jE) k hlt
            obtain ⟨bD, jD, rD, cD⟩ := run_indexI (jD) k hlt
            generalize ds.getD k 0 = x at cE cD
            refine wp_region_held (S := fun W => W.cell? ⟨D, 0, none⟩ = some ve ∧ W.cell? ⟨B, 0, none⟩ = some vd ∧ W.cell? ⟨bE, jE, none⟩ = some (.int .i64 x) ∧ W.cell? ⟨bD, jD, none⟩ = some (.int .i64 x)) (by kernel_rfl) ?_
            show wpAnyH _ _ _ _ _ 11 (Array.replicate 11 false) _ _
            have hS : (fun W : World => W.cell? ⟨D, 0, none⟩ = some ve ∧ W.cell? ⟨B, 0, none⟩ = some vd ∧ W.cell? ⟨bE, jE, none⟩ = some (.int .i64 x) ∧ W.cell? ⟨bD, jD, none⟩ = some (.int .i64 x)) { wr with drawn := wr.drawn + 1 } := ⟨kD, kB, cE, cD⟩
            refine takeH (i := 0) (some 85) rfl rfl (by kernel_rfl) (by kernel_rfl) (by kernel_rfl) (fun _ _ _ h => h) (yRunH rfl (.pointer (some ⟨D, 0, none⟩)) (fun W' _ => run_fieldOp' f24_0 (.tmp 11) rfl D 0 rfl)) hS ?_
            simp only [Act.put, List.setIfInBounds_toArray, List.set_cons_succ, List.set_cons_zero]
            refine takeH (i := 1) (some 86) rfl rfl (by kernel_rfl) (by kernel_rfl) (by kernel_rfl) (fun _ _ _ h => h) (yRunH rfl ve (fun W' hW => run_load1 one22 (.tmp 85) rfl D 0 rfl _ hW.1)) hS ?_
            simp only [Act.put, List.setIfInBounds_toArray, List.set_cons_succ, List.set_cons_zero]
            refine takeH (i := 2) (some 87) rfl rfl (by kernel_rfl) (by kernel_rfl) (by kernel_rfl) (fun _ _ _ h => h) (yRunH rfl (.int .i64 (k : Nat)) (fun W' _ => run_moveOp (.tmp 12) rfl _ rfl)) hS ?_
            simp only [Act.put, List.setIfInBounds_toArray, List.set_cons_succ, List.set_cons_zero]
            refine takeH (i := 3) (some 88) rfl rfl (by kernel_rfl) (by kernel_rfl) (by kernel_rfl) (fun _ _ _ h => h) (yRunH rfl (.pointer (some ⟨bE, jE, none⟩)) (fun W' _ => run_indexIOp (.tmp 86) (.tmp 87) rfl _ _ _ rfl rfl (rE W'))) hS ?_
            simp only [Act.put, List.setIfInBounds_toArray, List.set_cons_succ, List.set_cons_zero]
            refine takeH (i := 4) (some 89) rfl rfl (by kernel_rfl) (by kernel_rfl) (by kernel_rfl) (fun _ _ _ h => h) (yRunH rfl (.int .i64 x) (fun W' hW => run_load1 one3 (.tmp 88) rfl bE jE rfl _ hW.2.2.1)) hS ?_
            simp only [Act.put, List.setIfInBounds_toArray, List.set_cons_succ, List.set_cons_zero]
            refine takeH (i := 5) (some 90) rfl rfl (by kernel_rfl) (by kernel_rfl) (by kernel_rfl) (fun _ _ _ h => h) (yRunH rfl (.pointer (some ⟨B, 0, none⟩)) (fun W' _ => run_fieldOp' f24_0 (.tmp 1) rfl B 0 rfl)) hS ?_
            simp only [Act.put, List.setIfInBounds_toArray, List.set_cons_succ, List.set_cons_zero]
            refine takeH (i := 6) (some 91) rfl rfl (by kernel_rfl) (by kernel_rfl) (by kernel_rfl) (fun _ _ _ h => h) (yRunH rfl vd (fun W' hW => run_load1 one22 (.tmp 90) rfl B 0 rfl _ hW.2.1)) hS ?_
            simp only [Act.put, List.setIfInBounds_toArray, List.set_cons_succ, List.set_cons_zero]
            refine takeH (i := 7) (some 92) rfl rfl (by kernel_rfl) (by kernel_rfl) (by kernel_rfl) (fun _ _ _ h => h) (yRunH rfl (.int .i64 (k : Nat)) (fun W' _ => run_moveOp (.tmp 12) rfl _ rfl)) hS ?_
            simp only [Act.put, List.setIfInBounds_toArray, List.set_cons_succ, List.set_cons_zero]
            refine takeH (i := 8) (some 93) rfl rfl (by kernel_rfl) (by kernel_rfl) (by kernel_rfl) (fun _ _ _ h => h) (yRunH rfl (.pointer (some ⟨bD, jD, none⟩)) (fun W' _ => run_indexIOp (.tmp 91) (.tmp 92) rfl _ _ _ rfl rfl (rD W'))) hS ?_
            simp only [Act.put, List.setIfInBounds_toArray, List.set_cons_succ, List.set_cons_zero]
            refine takeH (i := 9) (some 94) rfl rfl (by kernel_rfl) (by kernel_rfl) (by kernel_rfl) (fun _ _ _ h => h) (yRunH rfl (.int .i64 x) (fun W' hW => run_load1 one3 (.tmp 93) rfl bD jD rfl _ hW.2.2.2)) hS ?_
            simp only [Act.put, List.setIfInBounds_toArray, List.set_cons_succ, List.set_cons_zero]
            refine takeH (i := 10) (some 95) rfl rfl (by kernel_rfl) (by kernel_rfl) (by kernel_rfl) (fun _ _ _ h => h) (yRunH rfl (.bool false) (fun W' _ => run_neqOp (.tmp 89) (.tmp 94) rfl x rfl rfl)) hS ?_
            simp only [Act.put, List.setIfInBounds_toArray, List.set_cons_succ, List.set_cons_zero]
            refine wpAnyH_done (by kernel_rfl) ?_ _
            clear hS cE cD rE rD
            go_wp2
            refine ⟨⟨k + 1, by omega, by go_num, d + 1, by rw [HWd.out]; rfl⟩, ?_⟩
            simp [intOf]; omega
          · have p0 : wr.cell? ⟨D, 1, none⟩ = some vf := by rw [HWd.out]; exact q1
            have p1 : wr.cell? ⟨B, 1, none⟩ = some vt := by rw [HWd.out]; exact q3
            have jF : IntsIn wr vf ts := by rw [HWd.out]; exact iF
            have jT : IntsIn wr vt ts := by rw [HWd.out]; exact iT
            have HBd : Hid (Below B w wr) := by show Below _ _ _; rw [HWd.out]; exact ⟨B11w.out.os, B11w.out.tape, B11w.out.output, B11w.out.size, B11w.out.block⟩
            obtain ⟨wq, rfl⟩ : ∃ wq, wq = wr := ⟨_, rfl⟩
            go_wp2_with (refine wpList_lenI (.tmp 80) rfl rfl vd ds rfl jD ?_)
            clear q0 q1 q2 q3 kD kB jE jD iE iF iD iT HWd hlt hk
            go_loopw [13] (fun i W => ∃ k : Nat, k ≤ ts.length ∧ i = .int .i64 k ∧ ∃ d, W = { wq with drawn := d }) (fun i _ => ts.length - (intOf i).toNat)
            case atStart => exact ⟨0, Nat.zero_le _, rfl, wq.drawn, rfl⟩
            case round =>
              obtain ⟨k, hk, rfl, d, hW⟩ := hrel
              have HWd : Hid (wr = { wq with drawn := d }) := hW
              have kD : wr.cell? ⟨D, 1, none⟩ = some vf := by rw [hW]; exact p0
              have kB : wr.cell? ⟨B, 1, none⟩ = some vt := by rw [hW]; exact p1
              have jE : IntsIn wr vf ts := by rw [hW]; exact jF
              have jD : IntsIn wr vt ts := by rw [hW]; exact jT
              clear hW
              by_cases hlt : k < ts.length
              · go_wp2_with (refine wpList_lenI (.tmp 98) rfl rfl vt ts rfl jD ?_)
                obtain ⟨bE, jE, rE, cE⟩ := run_indexI (jE) k hlt
                obtain ⟨bD, jD, rD, cD⟩ := run_indexI (jD) k hlt
                generalize ts.getD k 0 = x at cE cD
                refine wp_region_held (S := fun W => W.cell? ⟨D, 1, none⟩ = some vf ∧ W.cell? ⟨B, 1, none⟩ = some vt ∧ W.cell? ⟨bE, jE, none⟩ = some (.int .i64 x) ∧ W.cell? ⟨bD, jD, none⟩ = some (.int .i64 x)) (by kernel_rfl) ?_
                show wpAnyH _ _ _ _ _ 11 (Array.replicate 11 false) _ _
                have hS : (fun W : World => W.cell? ⟨D, 1, none⟩ = some vf ∧ W.cell? ⟨B, 1, none⟩ = some vt ∧ W.cell? ⟨bE, jE, none⟩ = some (.int .i64 x) ∧ W.cell? ⟨bD, jD, none⟩ = some (.int .i64 x)) { wr with drawn := wr.drawn + 1 } := ⟨kD, kB, cE, cD⟩
                refine takeH (i := 0) (some 103) rfl rfl (by kernel_rfl) (by kernel_rfl) (by kernel_rfl) (fun _ _ _ h => h) (yRunH rfl (.pointer (some ⟨D, 1, none⟩)) (fun W' _ => run_fieldOp' f24_1 (.tmp 11) rfl D 0 rfl)) hS ?_
                simp only [Act.put, List.setIfInBounds_toArray, List.set_cons_succ, List.set_cons_zero]
                refine takeH (i := 1) (some 104) rfl rfl (by kernel_rfl) (by kernel_rfl) (by kernel_rfl) (fun _ _ _ h => h) (yRunH rfl vf (fun W' hW => run_load1 one22 (.tmp 103) rfl D 1 rfl _ hW.1)) hS ?_
                simp only [Act.put, List.setIfInBounds_toArray, List.set_cons_succ, List.set_cons_zero]
                refine takeH (i := 2) (some 105) rfl rfl (by kernel_rfl) (by kernel_rfl) (by kernel_rfl) (fun _ _ _ h => h) (yRunH rfl (.int .i64 (k : Nat)) (fun W' _ => run_moveOp (.tmp 13) rfl _ rfl)) hS ?_
                simp only [Act.put, List.setIfInBounds_toArray, List.set_cons_succ, List.set_cons_zero]
                refine takeH (i := 3) (some 106) rfl rfl (by kernel_rfl) (by kernel_rfl) (by kernel_rfl) (fun _ _ _ h => h) (yRunH rfl (.pointer (some ⟨bE, jE, none⟩)) (fun W' _ => run_indexIOp (.tmp 104) (.tmp 105) rfl _ _ _ rfl rfl (rE W'))) hS ?_
                simp only [Act.put, List.setIfInBounds_toArray, List.set_cons_succ, List.set_cons_zero]
                refine takeH (i := 4) (some 107) rfl rfl (by kernel_rfl) (by kernel_rfl) (by kernel_rfl) (fun _ _ _ h => h) (yRunH rfl (.int .i64 x) (fun W' hW => run_load1 one3 (.tmp 106) rfl bE jE rfl _ hW.2.2.1)) hS ?_
                simp only [Act.put, List.setIfInBounds_toArray, List.set_cons_succ, List.set_cons_zero]
                refine takeH (i := 5) (some 108) rfl rfl (by kernel_rfl) (by kernel_rfl) (by kernel_rfl) (fun _ _ _ h => h) (yRunH rfl (.pointer (some ⟨B, 1, none⟩)) (fun W' _ => run_fieldOp' f24_1 (.tmp 1) rfl B 0 rfl)) hS ?_
                simp only [Act.put, List.setIfInBounds_toArray, List.set_cons_succ, List.set_cons_zero]
                refine takeH (i := 6) (some 109) rfl rfl (by kernel_rfl) (by kernel_rfl) (by kernel_rfl) (fun _ _ _ h => h) (yRunH rfl vt (fun W' hW => run_load1 one22 (.tmp 108) rfl B 1 rfl _ hW.2.1)) hS ?_
                simp only [Act.put, List.setIfInBounds_toArray, List.set_cons_succ, List.set_cons_zero]
                refine takeH (i := 7) (some 110) rfl rfl (by kernel_rfl) (by kernel_rfl) (by kernel_rfl) (fun _ _ _ h => h) (yRunH rfl (.int .i64 (k : Nat)) (fun W' _ => run_moveOp (.tmp 13) rfl _ rfl)) hS ?_
                simp only [Act.put, List.setIfInBounds_toArray, List.set_cons_succ, List.set_cons_zero]
                refine takeH (i := 8) (some 111) rfl rfl (by kernel_rfl) (by kernel_rfl) (by kernel_rfl) (fun _ _ _ h => h) (yRunH rfl (.pointer (some ⟨bD, jD, none⟩)) (fun W' _ => run_indexIOp (.tmp 109) (.tmp 110) rfl _ _ _ rfl rfl (rD W'))) hS ?_
                simp only [Act.put, List.setIfInBounds_toArray, List.set_cons_succ, List.set_cons_zero]
                refine takeH (i := 9) (some 112) rfl rfl (by kernel_rfl) (by kernel_rfl) (by kernel_rfl) (fun _ _ _ h => h) (yRunH rfl (.int .i64 x) (fun W' hW => run_load1 one3 (.tmp 111) rfl bD jD rfl _ hW.2.2.2)) hS ?_
                simp only [Act.put, List.setIfInBounds_toArray, List.set_cons_succ, List.set_cons_zero]
                refine takeH (i := 10) (some 113) rfl rfl (by kernel_rfl) (by kernel_rfl) (by kernel_rfl) (fun _ _ _ h => h) (yRunH rfl (.bool false) (fun W' _ => run_neqOp (.tmp 107) (.tmp 112) rfl x rfl rfl)) hS ?_
                simp only [Act.put, List.setIfInBounds_toArray, List.set_cons_succ, List.set_cons_zero]
                refine wpAnyH_done (by kernel_rfl) ?_ _
                clear hS cE cD rE rD
                go_wp2
                refine ⟨⟨k + 1, by omega, by go_num, d + 1, by rw [HWd.out]; rfl⟩, ?_⟩
                simp [intOf]; omega
              · go_wp2_with (refine wpList_lenI (.tmp 98) rfl rfl vt ts rfl jD ?_)
                go_ret
                exact ⟨rfl, by rw [HWd.out]; exact ⟨HBd.out.os, HBd.out.tape, HBd.out.output, HBd.out.size, HBd.out.block⟩⟩
end Go.Proofs.Ytgkmegcejekbcaa

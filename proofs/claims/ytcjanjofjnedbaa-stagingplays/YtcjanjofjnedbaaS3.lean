/- Layer 13: New, Count, Begin. -/
import Derived.Test.YtcjanjofjnedbaaS2
namespace Go.Proofs.Ytcjanjofjnedbaa
open Go.RowKit Go.Maps Go.MapKept

theorem f47_0 : FieldAt 47 0 0 := fun w g off => by kernel_rfl
theorem f47_1 : FieldAt 47 1 1 := fun w g off => by kernel_rfl
theorem f50_0 : FieldAt 50 0 0 := fun w g off => by kernel_rfl
theorem f50_1 : FieldAt 50 1 1 := fun w g off => by kernel_rfl
theorem f52_0 : FieldAt 52 0 0 := fun w g off => by kernel_rfl
theorem f52_1 : FieldAt 52 1 1 := fun w g off => by kernel_rfl
theorem f30_0 : FieldAt 30 0 0 := fun w g off => by kernel_rfl
theorem f30_1 : FieldAt 30 1 1 := fun w g off => by kernel_rfl
theorem f30_2 : FieldAt 30 2 2 := fun w g off => by kernel_rfl
theorem ag30 : AggT 30 3 := ⟨Or.inl ⟨_, Try.underlying30⟩, by kernel_rfl⟩
theorem und48 : Try.prog.underlying 48 = some (.slice 52) := by kernel_rfl
theorem o28 : OneT 28 := fun w g o v h => by simp [loadVar, isAgg, run_underlying Try.underlying28, h]
theorem o45 : OneT 45 := fun w g o v h => by simp [loadVar, isAgg, run_underlying map45, h]
theorem o48 : OneT 48 := fun w g o v h => by simp [loadVar, isAgg, run_underlying und48, h]
theorem sz3 : (Try.prog.info? 3).map (·.size) = some 1 := by kernel_rfl
theorem eN6 : EntersF 6 := Go.Proofs.enters_of Try.func6 (by kernel_rfl) rfl
theorem eN7 : EntersF 7 := Go.Proofs.enters_of Try.func7 (by kernel_rfl) rfl
theorem eN8 : EntersF 8 := Go.Proofs.enters_of Try.func8 (by kernel_rfl) rfl
theorem eN9 : EntersF 9 := Go.Proofs.enters_of Try.func9 (by kernel_rfl) rfl
theorem eN10 : EntersF 10 := Go.Proofs.enters_of Try.func10 (by kernel_rfl) rfl
theorem eN11 : EntersF 11 := Go.Proofs.enters_of Try.func11 (by kernel_rfl) rfl
theorem eN12 : EntersF 12 := Go.Proofs.enters_of Try.func12 (by kernel_rfl) rfl
theorem eN13 : EntersF 13 := Go.Proofs.enters_of Try.func13 (by kernel_rfl) rfl
theorem eN14 : EntersF 14 := Go.Proofs.enters_of Try.func14 (by kernel_rfl) rfl
theorem eN15 : EntersF 15 := Go.Proofs.enters_of Try.func15 (by kernel_rfl) rfl
theorem eN16 : EntersF 16 := Go.Proofs.enters_of Try.func16 (by kernel_rfl) rfl
theorem eN17 : EntersF 17 := Go.Proofs.enters_of Try.func17 (by kernel_rfl) rfl
theorem eN18 : EntersF 18 := Go.Proofs.enters_of Try.func18 (by kernel_rfl) rfl
theorem eN19 : EntersF 19 := Go.Proofs.enters_of Try.func19 (by kernel_rfl) rfl
theorem eN20 : EntersF 20 := Go.Proofs.enters_of Try.func20 (by kernel_rfl) rfl
theorem eN21 : EntersF 21 := Go.Proofs.enters_of Try.func21 (by kernel_rfl) rfl
section
variable {w w0 : World} {a : Act} {o : Oper}
theorem run_lenB {v : Value} {cs : List Nat} (hin : SliceIn w0 v cs) (x : Operand) (ho : o.op = .call { callee := .builtin .len, args := #[x], argTypes := #[28] }) (hx : a.eval x = v) : (execOp a.eval o).run Try.prog w = .ok (.value (.int .i64 (cs.length : Nat))) w := by
  obtain ⟨p, cap, rfl, _⟩ := hin
  exact run_lenZ sl28 x ho p cs.length cap hx
theorem run_gtrZ (x y : Operand) (ho : o.op = .binOp .gtr 3 x y 3) (z z' : Int) (hx : a.eval x = .int .i64 z) (hy : a.eval y = .int .i64 z') (b : Bool) (hb : decide (z' < z) = b) : (execOp a.eval o).run Try.prog w = .ok (.value (.bool b)) w := by
  subst hb
  simp only [execOp, ho, hx, hy]
  simp [go_sem]
theorem run_leqZ (x y : Operand) (ho : o.op = .binOp .leq 3 x y 3) (z z' : Int) (hx : a.eval x = .int .i64 z) (hy : a.eval y = .int .i64 z') (b : Bool) (hb : decide (z ≤ z') = b) : (execOp a.eval o).run Try.prog w = .ok (.value (.bool b)) w := by
  subst hb
  simp only [execOp, ho, hx, hy]
  simp [go_sem]
theorem run_addI (x y : Operand) (ho : o.op = .binOp .add 3 x y 3) (m n r : Int) (h0 : -9223372036854775808 ≤ r) (h1 : r ≤ 9223372036854775807) (hr : m + n = r) (hx : a.eval x = .int .i64 m) (hy : a.eval y = .int .i64 n) : (execOp a.eval o).run Try.prog w = .ok (.value (.int .i64 r)) w :=
  run_binOp' x y ho (.int .i64 m) (.int .i64 n) _ hx hy rfl (by
    have hwr : IntKind.i64.wrap (m + n) = r := by rw [hr]; simp only [IntKind.wrap, IntKind.signed, IntKind.bits]; simp; omega
    simp [binOp, Op.intArith, hwr])
theorem run_subI (x y : Operand) (ho : o.op = .binOp .sub 3 x y 3) (m n r : Int) (h0 : -9223372036854775808 ≤ r) (h1 : r ≤ 9223372036854775807) (hr : m - n = r) (hx : a.eval x = .int .i64 m) (hy : a.eval y = .int .i64 n) : (execOp a.eval o).run Try.prog w = .ok (.value (.int .i64 r)) w :=
  run_binOp' x y ho (.int .i64 m) (.int .i64 n) _ hx hy rfl (by
    have hwr : IntKind.i64.wrap (m - n) = r := by rw [hr]; simp only [IntKind.wrap, IntKind.signed, IntKind.bits]; simp; omega
    simp [binOp, Op.intArith, hwr])
theorem run_mkMap (ho : o.op = .makeMap 45 none) : (execOp a.eval o).run Try.prog w = .ok (.value (.map (some w.heap.size))) (w.alloc (.map #[] 0)) := by
  simp [execOp, ho, run_makeMap]
theorem run_bld47 (x : Operand) (ho : o.op = .build 47 #[(0, x)]) (b : Nat) (hx : a.eval x = .map (some b)) : (execOp a.eval o).run Try.prog w = .ok (.value (.agg [.map (some b), .int .i64 ((0 : Nat) : Int)].toArray)) w := by
  have hr : (Instr.build 47 #[(0, .map (some b))]).run Try.prog w = .ok (.agg #[.map (some b), .int .i64 ((0 : Nat) : Int)]) w := by kernel_rfl
  simp only [execOp, ho, List.map_toArray, List.map_cons, List.map_nil, hx, hr, Sem.run_bind, Sem.run_pure, Result.andThen_ok]
end
theorem asz (w : World) (o : Obj) : (w.alloc o).heap.size = w.heap.size + 1 := by show (w.heap.push _).size = _; simp
/-- a stage without sessions -/
theorem StAt.made (w : World) : StAt ((w.alloc (.map #[] 0)).alloc (.cells [.map (some w.heap.size), .int .i64 ((0 : Nat) : Int)].toArray 47)) (fun k => w.heap.size ≤ k ∧ k < w.heap.size + 2) (w.alloc (.map #[] 0)).heap.size 0 [] :=
  ⟨⟨w.heap.size, Row.new _ _ _, (MapI.made w).kept (Below.heap_alloc _ _ _ (MapI.made w).lt), (by rw [asz]; omega), (by omega)⟩, fun x hx => (by cases hx), List.Pairwise.nil, fun x hx => (by cases hx), fun k hk => (by rw [asz, asz]; omega), (by decide), (by decide)⟩
set_option maxHeartbeats 4000000 in
set_option maxRecDepth 100000 in
theorem new_any (w : World) : Calls Try.prog 7 #[] w fun e w' => ∃ g F, e = .returned (ptr g) ∧ StAt w' F g 0 [] ∧ Below w.heap.size w w' ∧ ∀ k, F k → w.heap.size ≤ k := by
  have HS : Hid _ := StAt.made w
  obtain ⟨PQ, hPQ⟩ : ∃ PQ : Ending → World → Prop, PQ = fun (e : Ending) (w' : World) => ∃ g F, e = .returned (ptr g) ∧ StAt w' F g 0 [] ∧ Below w.heap.size w w' ∧ ∀ k, F k → w.heap.size ≤ k := ⟨_, rfl⟩
  have HPQ : Hid (PQ = fun (e : Ending) (w' : World) => ∃ g F, e = .returned (ptr g) ∧ StAt w' F g 0 [] ∧ Below w.heap.size w w' ∧ ∀ k, F k → w.heap.size ≤ k) := hPQ
  rw [← hPQ]
  clear hPQ
  go_enter Try.func7, Try.ntmps7
  go_upto_region 0 with fail
  refine wp_region_lit ?_
  refine wl rfl (.pointer none) _ (run_asZ (.const (.pointer none)) rfl (.pointer none) rfl) ?_
  simp only [Act.put, List.setIfInBounds_toArray, List.set_cons_zero]
  refine wpList_nil ?_
  go_upto_region 1 with fail
  refine wp_region_lit ?_
  refine wl rfl (.map (some w.heap.size)) _ (run_mkMap rfl) ?_
  simp only [Act.put, List.setIfInBounds_toArray, List.set_cons_succ, List.set_cons_zero]
  refine wl rfl (.agg [.map (some w.heap.size), .int .i64 ((0 : Nat) : Int)].toArray) _ (run_bld47 (.tmp 1) rfl w.heap.size rfl) ?_
  simp only [Act.put, List.setIfInBounds_toArray, List.set_cons_succ, List.set_cons_zero]
  refine wl rfl (ptr (w.alloc (.map #[] 0)).heap.size) _ (run_boxA (.tmp 2) rfl ([.map (some w.heap.size), .int .i64 ((0 : Nat) : Int)]) rfl) ?_
  simp only [Act.put, List.setIfInBounds_toArray, List.set_cons_succ, List.set_cons_zero]
  refine wl rfl (ptr (w.alloc (.map #[] 0)).heap.size) _ (run_asZ (.tmp 3) rfl (ptr (w.alloc (.map #[] 0)).heap.size) rfl) ?_
  simp only [Act.put, List.setIfInBounds_toArray, List.set_cons_zero]
  refine wpList_nil ?_
  go_wp2_with fail
  rw [HPQ.out]
  exact ⟨_, _, rfl, HS.out, Below.trans ((Below.refl _ w).alloc (Nat.le_refl _) _) (((Below.refl _ _).alloc (Nat.le_refl _) _).mono (by rw [asz]; omega)), fun k hk => hk.1⟩
set_option maxHeartbeats 4000000 in
set_option maxRecDepth 100000 in
theorem count_any {w : World} {F : Nat → Prop} {g nx : Nat} {l : List En} (h : StAt w F g nx l) : Calls Try.prog 18 #[ptr g] w fun e w' => e = .returned (.int .i64 (l.length : Nat)) ∧ w = w' := by
  obtain ⟨b, h1, h2, h3, h4⟩ := h.top
  have HT : Hid (Row w g 47 [.map (some b), .int .i64 (nx : Nat)] ∧ MapI w b l.length (fun p => (look l p).map (·.a))) := ⟨h1, h2⟩
  obtain ⟨PQ, hPQ⟩ : ∃ PQ : Ending → World → Prop, PQ = fun (e : Ending) (w' : World) => e = .returned (.int .i64 (l.length : Nat)) ∧ w = w' := ⟨_, rfl⟩
  have HPQ : Hid (PQ = fun (e : Ending) (w' : World) => e = .returned (.int .i64 (l.length : Nat)) ∧ w = w') := hPQ
  rw [← hPQ]
  clear hPQ h1 h2 h3 h4 h
  go_enter Try.func18, Try.ntmps18
  go_upto_region 0 with fail
  refine wp_region_lit ?_
  refine wl rfl (.int .i64 0) _ (run_asZ (.const (.int .i64 0)) rfl (.int .i64 0) rfl) ?_
  simp only [Act.put, List.setIfInBounds_toArray, List.set_cons_succ, List.set_cons_zero]
  refine wpList_nil ?_
  go_upto_region 1 with fail
  refine wp_region_lit ?_
  refine wl rfl (ptr g) _ (run_mvZ (.tmp 0) rfl (ptr g) rfl) ?_
  simp only [Act.put, List.setIfInBounds_toArray, List.set_cons_succ, List.set_cons_zero]
  refine wl rfl (ptr g) _ (run_nil (.tmp 3) rfl ⟨g, 0, none⟩ rfl) ?_
  simp only [Act.put, List.setIfInBounds_toArray, List.set_cons_succ, List.set_cons_zero]
  refine wl rfl (.pointer (some ⟨g, 0 + 0, none⟩)) _ (run_fieldOp' f47_0 (.tmp 4) rfl g (0) rfl) ?_
  simp only [Act.put, List.setIfInBounds_toArray, List.set_cons_succ, List.set_cons_zero]
  refine wl rfl (.map (some b)) _ (run_load1 o45 (.tmp 5) rfl g (0 + 0) rfl (.map (some b)) (HT.out.1.at 0 _ rfl)) ?_
  simp only [Act.put, List.setIfInBounds_toArray, List.set_cons_succ, List.set_cons_zero]
  refine wl rfl (.int .i64 (l.length : Nat)) _ (run_lenI HT.out.2 (.tmp 6) rfl rfl) ?_
  simp only [Act.put, List.setIfInBounds_toArray, List.set_cons_succ, List.set_cons_zero]
  refine wl rfl (.int .i64 (l.length : Nat)) _ (run_asZ (.tmp 7) rfl (.int .i64 (l.length : Nat)) rfl) ?_
  simp only [Act.put, List.setIfInBounds_toArray, List.set_cons_succ, List.set_cons_zero]
  refine wpList_nil ?_
  go_wp2_with fail
  rw [HPQ.out]
  exact ⟨rfl, rfl⟩
/-- Begin, plain: the number, the error, what is there then -/
def beginP (nx : Nat) (ss : List (Nat × List Nat)) : Int × Int × Nat × List (Nat × List Nat) := if ss.length ≥ 8 then (0, 131, nx, ss) else (nx, 0, nx + 1, ss ++ [(nx, [])])
theorem StAt.more {w : World} {F : Nat → Prop} {g nx b : Nat} {l : List En} (h : StAt w F g nx l) (hr : Row w g 47 [.map (some b), .int .i64 (nx : Nat)]) (hF : F b) (h8 : l.length < 8) {w1 : World} (hm : MapI w1 b (if ((look l (nx : Int)).map (·.a)).isSome then l.length else l.length + 1) (fun q => if q = (nx : Int) then some none else (look l q).map (·.a))) (ht : w.mapTurned w1 b) (hmb : MapI w b l.length (fun p => (look l p).map (·.a))) :
    StAt (w1.setCell ⟨g, 1, none⟩ (.int .i64 ((nx + 1 : Nat) : Int))) F g (nx + 1) (l ++ [⟨nx, none, []⟩]) ∧ Tn F F w (w1.setCell ⟨g, 1, none⟩ (.int .i64 ((nx + 1 : Nat) : Int))) ∧ Row w1 g 47 [.map (some b), .int .i64 (nx : Nat)] := by
  have hFg : F g := by obtain ⟨_, _, _, h3, _⟩ := h.top; exact h3
  have hbg : b ≠ g := hmb.ne_row hr
  have hc := mapTurned_ch ht
  have hr1 : Row w1 g 47 [.map (some b), .int .i64 (nx : Nat)] := hc.row (fun e => hbg e.symm) hr
  have hn : look l (nx : Int) = none := by
    cases hl : look l (nx : Int) with
    | none => rfl
    | some x =>
      have h1 := look_some hl
      have h2 := h.lt x h1.1
      omega
  have hT : Tn F F w (w1.setCell ⟨g, 1, none⟩ (.int .i64 ((nx + 1 : Nat) : Int))) := ⟨(hc.mono fun i _ e => by rw [e]; exact hF).setCell (Or.inl hFg) _ _, fun _ h => Or.inl h⟩
  have hrow := Row.setCell hr1 1 (.int .i64 ((nx + 1 : Nat) : Int))
  refine ⟨⟨⟨b, hrow, ?_, hFg, hF⟩, ?_, ?_, ?_, ?_, ?_, ?_⟩, hT, hr1⟩
  · rw [hn] at hm
    have hk := hm.kept (w' := w1.setCell ⟨g, 1, none⟩ (.int .i64 ((nx + 1 : Nat) : Int))) (Below.heap_setCell w1 _ _ b hbg)
    have e : (fun q : Int => if q = (nx : Int) then some none else (look l q).map (·.a)) = fun p => (look (l ++ [⟨nx, none, []⟩]) p).map (·.a) := by
      funext q
      rw [look_snoc l ⟨nx, none, []⟩ (fun x hx => h.lt x hx) q]
      split <;> rfl
    rw [e] at hk
    simpa using hk
  · intro x hx
    rcases List.mem_append.1 hx with hx | hx
    · obtain ⟨o1, o2, o3, o4⟩ := h.own x hx
      refine ⟨ownK o1 fun k e => ?_, o2, o3, o4⟩
      have hk := o1.lt k e
      have hkb : k ≠ b := by
        rintro rfl
        rcases o1.2 with ⟨e2, _⟩ | ⟨g', cap, cur, e2, _, hg, _⟩
        · rw [e2] at e; cases e
        · rw [e2] at e
          have : g' = k := Option.some.inj e
          subst this
          exact hmb.ne_row hg rfl
      have hkg : k ≠ g := by
        rintro rfl
        rcases o1.2 with ⟨e2, _⟩ | ⟨g', cap, cur, e2, _, hg, _⟩
        · rw [e2] at e; cases e
        · rw [e2] at e
          have : g' = k := Option.some.inj e
          subst this
          unfold Row at hr
          rw [hg] at hr
          injection hr with hr
          injection hr with _ h2
          exact absurd h2 (by decide)
      rw [Below.heap_setCell w1 _ _ k hkg]
      exact hc.one k hk.2 hkb
    · rw [List.mem_singleton.1 hx]
      exact ⟨World.ownsRow_nil _ _ _ _, fun k e => (by cases e), fun c hc => (by cases hc), Nat.zero_le _⟩
  · rw [List.pairwise_append]
    refine ⟨h.ord, List.pairwise_singleton _ _, fun x hx y hy => ?_⟩
    rw [List.mem_singleton.1 hy]
    exact ⟨h.lt x hx, fun k _ e => by cases e⟩
  · intro x hx
    rcases List.mem_append.1 hx with hx | hx
    · exact Nat.lt_succ_of_lt (h.lt x hx)
    · rw [List.mem_singleton.1 hx]
      exact Nat.lt_succ_self _
  · intro k hk
    exact Nat.lt_of_lt_of_le (h.low k hk) hT.ch.size
  · simp; omega
  · rw [total_snoc]; exact h.all
set_option maxHeartbeats 4000000 in
set_option maxRecDepth 100000 in
theorem begin_any {w : World} {F : Nat → Prop} {g nx : Nat} {l : List En} (h : StAt w F g nx l) (hnx : nx < 4611686018427387904) : Calls Try.prog 10 #[ptr g] w fun e w' => ∃ F' nx' l', e = .returned (.tuple #[.int .i64 (beginP nx (ssOf l)).1, .int .i64 (beginP nx (ssOf l)).2.1]) ∧ StAt w' F' g nx' l' ∧ (nx', ssOf l') = (beginP nx (ssOf l)).2.2 ∧ Tn F F' w w' := by
  obtain ⟨b, h1, h2, h3, h4⟩ := h.top
  have HT : Hid (Row w g 47 [.map (some b), .int .i64 (nx : Nat)] ∧ MapI w b l.length (fun p => (look l p).map (·.a))) := ⟨h1, h2⟩
  have HFB : Hid (F b) := h4
  have HST : Hid (StAt w F g nx l) := h
  obtain ⟨PQ, hPQ⟩ : ∃ PQ : Ending → World → Prop, PQ = fun (e : Ending) (w' : World) => ∃ F' nx' l', e = .returned (.tuple #[.int .i64 (beginP nx (ssOf l)).1, .int .i64 (beginP nx (ssOf l)).2.1]) ∧ StAt w' F' g nx' l' ∧ (nx', ssOf l') = (beginP nx (ssOf l)).2.2 ∧ Tn F F' w w' := ⟨_, rfl⟩
  have HPQ : Hid (PQ = fun (e : Ending) (w' : World) => ∃ F' nx' l', e = .returned (.tuple #[.int .i64 (beginP nx (ssOf l)).1, .int .i64 (beginP nx (ssOf l)).2.1]) ∧ StAt w' F' g nx' l' ∧ (nx', ssOf l') = (beginP nx (ssOf l)).2.2 ∧ Tn F F' w w') := hPQ
  rw [← hPQ]
  clear hPQ h1 h2 h3 h4 h
  by_cases h8 : l.length < 8
  · have hd : decide ((8 : Int) ≤ (l.length : Nat)) = false := decide_eq_false (by omega)
    have HB : Hid (beginP nx (ssOf l) = ((nx : Int), 0, nx + 1, ssOf l ++ [(nx, [])])) := by
      show _ = _
      unfold beginP
      rw [if_neg (by simp [ssOf]; omega)]
    go_enter Try.func10, Try.ntmps10
    go_upto_region 0 with fail
    refine wp_region_lit ?_
    refine wl rfl (.int .i64 0) _ (run_asZ (.const (.int .i64 0)) rfl (.int .i64 0) rfl) ?_
    simp only [Act.put, List.setIfInBounds_toArray, List.set_cons_succ, List.set_cons_zero]
    refine wl rfl (.int .i64 0) _ (run_asZ (.const (.int .i64 0)) rfl (.int .i64 0) rfl) ?_
    simp only [Act.put, List.setIfInBounds_toArray, List.set_cons_succ, List.set_cons_zero]
    refine wpList_nil ?_
    go_upto_region 1 with fail
    refine wp_region_lit ?_
    refine wl rfl (ptr g) _ (run_mvZ (.tmp 0) rfl (ptr g) rfl) ?_
    simp only [Act.put, List.setIfInBounds_toArray, List.set_cons_succ, List.set_cons_zero]
    refine wl rfl (ptr g) _ (run_nil (.tmp 5) rfl ⟨g, 0, none⟩ rfl) ?_
    simp only [Act.put, List.setIfInBounds_toArray, List.set_cons_succ, List.set_cons_zero]
    refine wl rfl (.pointer (some ⟨g, 0 + 0, none⟩)) _ (run_fieldOp' f47_0 (.tmp 6) rfl g (0) rfl) ?_
    simp only [Act.put, List.setIfInBounds_toArray, List.set_cons_succ, List.set_cons_zero]
    refine wl rfl (.map (some b)) _ (run_load1 o45 (.tmp 7) rfl g (0 + 0) rfl (.map (some b)) (HT.out.1.at 0 _ rfl)) ?_
    simp only [Act.put, List.setIfInBounds_toArray, List.set_cons_succ, List.set_cons_zero]
    refine wl rfl (.int .i64 (l.length : Nat)) _ (run_lenI HT.out.2 (.tmp 8) rfl rfl) ?_
    simp only [Act.put, List.setIfInBounds_toArray, List.set_cons_succ, List.set_cons_zero]
    refine wl rfl (.bool false) _ (run_geqZ (.tmp 9) (.const (.int .i64 8)) rfl (l.length : Nat) 8 rfl rfl false hd) ?_
    simp only [Act.put, List.setIfInBounds_toArray, List.set_cons_succ, List.set_cons_zero]
    refine wpList_nil ?_
    go_upto_region 3 with fail
    refine wp_region_lit ?_
    refine wl rfl (ptr g) _ (run_mvZ (.tmp 0) rfl (ptr g) rfl) ?_
    simp only [Act.put, List.setIfInBounds_toArray, List.set_cons_succ, List.set_cons_zero]
    refine wl rfl (ptr g) _ (run_nil (.tmp 11) rfl ⟨g, 0, none⟩ rfl) ?_
    simp only [Act.put, List.setIfInBounds_toArray, List.set_cons_succ, List.set_cons_zero]
    refine wl rfl (.pointer (some ⟨g, 0 + 1, none⟩)) _ (run_fieldOp' f47_1 (.tmp 12) rfl g (0) rfl) ?_
    simp only [Act.put, List.setIfInBounds_toArray, List.set_cons_succ, List.set_cons_zero]
    refine wl rfl (.int .i64 (nx : Nat)) _ (run_load1 o3 (.tmp 13) rfl g (0 + 1) rfl (.int .i64 (nx : Nat)) (HT.out.1.at 1 _ rfl)) ?_
    simp only [Act.put, List.setIfInBounds_toArray, List.set_cons_succ, List.set_cons_zero]
    refine wl rfl (.int .i64 (nx : Nat)) _ (run_asZ (.tmp 14) rfl (.int .i64 (nx : Nat)) rfl) ?_
    simp only [Act.put, List.setIfInBounds_toArray, List.set_cons_succ, List.set_cons_zero]
    refine wpList_nil ?_
    go_upto_region 4 with fail
    refine wp_region_lit ?_
    refine wl rfl (ptr g) _ (run_mvZ (.tmp 0) rfl (ptr g) rfl) ?_
    simp only [Act.put, List.setIfInBounds_toArray, List.set_cons_succ, List.set_cons_zero]
    refine wl rfl (ptr g) _ (run_nil (.tmp 15) rfl ⟨g, 0, none⟩ rfl) ?_
    simp only [Act.put, List.setIfInBounds_toArray, List.set_cons_succ, List.set_cons_zero]
    refine wl rfl (.pointer (some ⟨g, 0 + 0, none⟩)) _ (run_fieldOp' f47_0 (.tmp 16) rfl g (0) rfl) ?_
    simp only [Act.put, List.setIfInBounds_toArray, List.set_cons_succ, List.set_cons_zero]
    refine wl rfl (.map (some b)) _ (run_load1 o45 (.tmp 17) rfl g (0 + 0) rfl (.map (some b)) (HT.out.1.at 0 _ rfl)) ?_
    simp only [Act.put, List.setIfInBounds_toArray, List.set_cons_succ, List.set_cons_zero]
    refine wl rfl (.int .i64 (nx : Nat)) _ (run_mvZ (.tmp 4) rfl (.int .i64 (nx : Nat)) rfl) ?_
    simp only [Act.put, List.setIfInBounds_toArray, List.set_cons_succ, List.set_cons_zero]
    obtain ⟨w1, hrun, hm1, ht1⟩ := HT.out.2.store (by omega) (nx : Int) (Wf.of (by omega)) none
    have HM : Hid _ := HST.out.more HT.out.1 HFB.out h8 hm1 ht1 HT.out.2
    refine wlS rfl rfl w1 (run_putI (.tmp 18) (.tmp 19) (.const (.slice none 0 0)) rfl (nx : Int) (svV none) rfl rfl rfl hrun) ?_
    clear hrun hm1 ht1
    refine wpList_nil ?_
    go_upto_region 5 with fail
    refine wp_region_lit ?_
    refine wl rfl (ptr g) _ (run_mvZ (.tmp 0) rfl (ptr g) rfl) ?_
    simp only [Act.put, List.setIfInBounds_toArray, List.set_cons_succ, List.set_cons_zero]
    refine wl rfl (ptr g) _ (run_nil (.tmp 20) rfl ⟨g, 0, none⟩ rfl) ?_
    simp only [Act.put, List.setIfInBounds_toArray, List.set_cons_succ, List.set_cons_zero]
    refine wl rfl (.pointer (some ⟨g, 0 + 1, none⟩)) _ (run_fieldOp' f47_1 (.tmp 21) rfl g (0) rfl) ?_
    simp only [Act.put, List.setIfInBounds_toArray, List.set_cons_succ, List.set_cons_zero]
    refine wl rfl (.int .i64 (nx : Nat)) _ (run_load1 o3 (.tmp 22) rfl g (0 + 1) rfl (.int .i64 (nx : Nat)) (HM.out.2.2.at 1 _ rfl)) ?_
    simp only [Act.put, List.setIfInBounds_toArray, List.set_cons_succ, List.set_cons_zero]
    refine wl rfl (.int .i64 ((nx + 1 : Nat) : Int)) _ (run_addI (.tmp 23) (.const (.int .i64 1)) rfl (nx : Nat) 1 ((nx + 1 : Nat) : Int) (by omega) (by omega) (by omega) rfl rfl) ?_
    simp only [Act.put, List.setIfInBounds_toArray, List.set_cons_succ, List.set_cons_zero]
    refine wl rfl (ptr g) _ (run_nil (.tmp 20) rfl ⟨g, 0, none⟩ rfl) ?_
    simp only [Act.put, List.setIfInBounds_toArray, List.set_cons_succ, List.set_cons_zero]
    refine wl rfl (.pointer (some ⟨g, 0 + 1, none⟩)) _ (run_fieldOp' f47_1 (.tmp 25) rfl g (0) rfl) ?_
    simp only [Act.put, List.setIfInBounds_toArray, List.set_cons_succ, List.set_cons_zero]
    refine wlS rfl rfl _ (run_putRow sz3 (.tmp 26) (.tmp 24) rfl g (0 + 1) 47 [.map (some b), .int .i64 (nx : Nat)] rfl (.int .i64 ((nx + 1 : Nat) : Int)) rfl ⟨rfl, rfl⟩ HM.out.2.2 (by simp)) ?_
    refine wpList_nil ?_
    go_wp2_with fail
    rw [HPQ.out]
    exact ⟨F, nx + 1, l ++ [⟨nx, none, []⟩], by rw [HB.out]; rfl, HM.out.1, by rw [HB.out]; simp [ssOf], HM.out.2.1⟩
  · have hd : decide ((8 : Int) ≤ (l.length : Nat)) = true := decide_eq_true (by omega)
    have HB : Hid (beginP nx (ssOf l) = (0, 131, nx, ssOf l)) := by
      show _ = _
      unfold beginP
      rw [if_pos (by simp [ssOf]; omega)]
    go_enter Try.func10, Try.ntmps10
    go_upto_region 0 with fail
    refine wp_region_lit ?_
    refine wl rfl (.int .i64 0) _ (run_asZ (.const (.int .i64 0)) rfl (.int .i64 0) rfl) ?_
    simp only [Act.put, List.setIfInBounds_toArray, List.set_cons_succ, List.set_cons_zero]
    refine wl rfl (.int .i64 0) _ (run_asZ (.const (.int .i64 0)) rfl (.int .i64 0) rfl) ?_
    simp only [Act.put, List.setIfInBounds_toArray, List.set_cons_succ, List.set_cons_zero]
    refine wpList_nil ?_
    go_upto_region 1 with fail
    refine wp_region_lit ?_
    refine wl rfl (ptr g) _ (run_mvZ (.tmp 0) rfl (ptr g) rfl) ?_
    simp only [Act.put, List.setIfInBounds_toArray, List.set_cons_succ, List.set_cons_zero]
    refine wl rfl (ptr g) _ (run_nil (.tmp 5) rfl ⟨g, 0, none⟩ rfl) ?_
    simp only [Act.put, List.setIfInBounds_toArray, List.set_cons_succ, List.set_cons_zero]
    refine wl rfl (.pointer (some ⟨g, 0 + 0, none⟩)) _ (run_fieldOp' f47_0 (.tmp 6) rfl g (0) rfl) ?_
    simp only [Act.put, List.setIfInBounds_toArray, List.set_cons_succ, List.set_cons_zero]
    refine wl rfl (.map (some b)) _ (run_load1 o45 (.tmp 7) rfl g (0 + 0) rfl (.map (some b)) (HT.out.1.at 0 _ rfl)) ?_
    simp only [Act.put, List.setIfInBounds_toArray, List.set_cons_succ, List.set_cons_zero]
    refine wl rfl (.int .i64 (l.length : Nat)) _ (run_lenI HT.out.2 (.tmp 8) rfl rfl) ?_
    simp only [Act.put, List.setIfInBounds_toArray, List.set_cons_succ, List.set_cons_zero]
    refine wl rfl (.bool true) _ (run_geqZ (.tmp 9) (.const (.int .i64 8)) rfl (l.length : Nat) 8 rfl rfl true hd) ?_
    simp only [Act.put, List.setIfInBounds_toArray, List.set_cons_succ, List.set_cons_zero]
    refine wpList_nil ?_
    go_wp2_with fail
    rw [HPQ.out]
    exact ⟨F, nx, l, by rw [HB.out]; rfl, HST.out, by rw [HB.out], Tn.refl F w⟩

end Go.Proofs.Ytcjanjofjnedbaa

/- Layer 13: the document's New, Count, find, Begin. -/
import Derived.Test.YtcjanjofjnedbaaS11
namespace Go.Proofs.Ytcjanjofjnedbaa
open Go.RowKit Go.Maps Go.MapKept

theorem run_lenO {w0 w : World} {a : Act} {o : Oper} {v : Value} {l : List En} (h : RRow w0 v l) (x : Operand) (ho : o.op = .call { callee := .builtin .len, args := #[x], argTypes := #[48] }) (hx : a.eval x = v) : (execOp a.eval o).run Try.prog w = .ok (.value (.int .i64 (l.length : Nat))) w := by
  have hr := own_len (w := w) h sl48 o.type
  simp only [execOp, ho, resolve, invoke, builtin, Sem.run_bind, Sem.run_pure, Result.andThen_ok, List.map_toArray, List.map_cons, List.map_nil, hx, hr]
  rfl
/-- one session of the row -/
theorem ix_en {w : World} {v : Value} {l : List En} (h : RRow w v l) (k : Nat) (hk : k < l.length) : ∃ b, v.ownBlock = some b ∧ (∀ w', (Instr.indexAt 48 v (.int .i64 (k : Nat))).run Try.prog w' = .ok (.pointer (some ⟨b, k * 2, none⟩)) w') ∧ ∀ W, RRow W v l → W.cell? ⟨b, k * 2 + 0, none⟩ = some (.int .i64 (l[k].no : Nat)) ∧ W.cell? ⟨b, k * 2 + 1, none⟩ = some (svV l[k].a) := by
  obtain ⟨b, hb, hr, hc⟩ := own_index h und48 sz52 k hk
  refine ⟨b, hb, hr, fun W hW => ?_⟩
  obtain ⟨b', hb', _, hc'⟩ := own_index hW und48 sz52 k hk
  rw [hb] at hb'
  injection hb' with hb'
  subst hb'
  have := rcells_at l k hk
  exact ⟨by rw [hc' 0 (by decide)]; exact this.1, by rw [hc' 1 (by decide)]; exact this.2⟩
theorem run_bld50 {w : World} {a : Act} {o : Oper} (ho : o.op = .build 50 #[]) : (execOp a.eval o).run Try.prog w = .ok (.value (.agg [.int .i64 ((0 : Nat) : Int), .slice none 0 0].toArray)) w := by
  have hr : (Instr.build 50 #[]).run Try.prog w = .ok (.agg #[.int .i64 ((0 : Nat) : Int), .slice none 0 0]) w := by kernel_rfl
  simp only [execOp, ho, List.map_toArray, List.map_nil, hr, Sem.run_bind, Sem.run_pure, Result.andThen_ok]
theorem run_bld52 {w : World} {a : Act} {o : Oper} (x : Operand) (ho : o.op = .build 52 #[(0, x)]) (n : Nat) (hx : a.eval x = .int .i64 (n : Nat)) : (execOp a.eval o).run Try.prog w = .ok (.value (.agg #[.int .i64 (n : Nat), .slice none 0 0])) w := by
  have hr : (Instr.build 52 #[(0, .int .i64 (n : Nat))]).run Try.prog w = .ok (.agg #[.int .i64 (n : Nat), .slice none 0 0]) w := by kernel_rfl
  simp only [execOp, ho, List.map_toArray, List.map_cons, List.map_nil, hx, hr, Sem.run_bind, Sem.run_pure, Result.andThen_ok]
theorem run_rlit1 {w : World} {a : Act} {o : Oper} (x : Operand) (ho : o.op = .buildSlice 48 1 #[(0, x)]) (n : Nat) (hx : a.eval x = .agg #[.int .i64 (n : Nat), .slice none 0 0]) : (execOp a.eval o).run Try.prog w = .ok (.value (.slice (some ⟨w.heap.size, 0, none⟩) 1 1)) (w.alloc (.cells #[.int .i64 (n : Nat), .slice none 0 0] 52)) := by
  have hr : (Instr.buildSlice 48 1 #[(0, .agg #[.int .i64 (n : Nat), .slice none 0 0])]).run Try.prog w = .ok (.slice (some ⟨w.heap.size, 0, none⟩) 1 1) (w.alloc (.cells #[.int .i64 (n : Nat), .slice none 0 0] 52)) := by kernel_rfl
  simp only [execOp, ho, List.map_toArray, List.map_cons, List.map_nil, hx, hr, Sem.run_bind, Sem.run_pure, Result.andThen_ok]
theorem run_rlit0 {w : World} {a : Act} {o : Oper} (ho : o.op = .buildSlice 48 0 #[]) : (execOp a.eval o).run Try.prog w = .ok (.value (.slice (some ⟨w.heap.size, 0, none⟩) 0 0)) (w.alloc (.cells #[] 52)) := by
  have hr : (Instr.buildSlice 48 0 #[]).run Try.prog w = .ok (.slice (some ⟨w.heap.size, 0, none⟩) 0 0) (w.alloc (.cells #[] 52)) := by kernel_rfl
  simp only [execOp, ho, hr, List.map_toArray, List.map_nil, Sem.run_bind, Sem.run_pure, Result.andThen_ok]
theorem rlit0_row (w : World) : RRow (w.alloc (.cells #[] 52)) (.slice (some ⟨w.heap.size, 0, none⟩) 0 0) [] :=
  ⟨rfl, Or.inr ⟨w.heap.size, 0, #[], rfl, Nat.zero_le _, heap_alloc_new w _, Nat.le_refl _, by unfold maxLen; omega, rfl, rfl⟩⟩
theorem RfAt.made (w : World) : RfAt (w.alloc (.cells [.int .i64 ((0 : Nat) : Int), .slice none 0 0].toArray 50)) (fun k => k = w.heap.size) w.heap.size 0 [] :=
  ⟨⟨.slice none 0 0, Row.new _ _ _, World.ownsRow_nil _ _ _ _, rfl, fun k e => (by cases e)⟩, fun x hx => (by cases hx), List.Pairwise.nil, fun x hx => (by cases hx), fun k hk => (by rw [asz, hk]; omega), (by decide), (by decide)⟩
set_option maxHeartbeats 4000000 in
set_option maxRecDepth 100000 in
theorem rnew_any (w : World) : Calls Try.prog 8 #[] w fun e w' => ∃ g F, e = .returned (ptr g) ∧ RfAt w' F g 0 [] ∧ Below w.heap.size w w' ∧ ∀ k, F k → w.heap.size ≤ k := by
  have HS : Hid _ := RfAt.made w
  obtain ⟨PQ, hPQ⟩ : ∃ PQ : Ending → World → Prop, PQ = fun (e : Ending) (w' : World) => ∃ g F, e = .returned (ptr g) ∧ RfAt w' F g 0 [] ∧ Below w.heap.size w w' ∧ ∀ k, F k → w.heap.size ≤ k := ⟨_, rfl⟩
  have HPQ : Hid (PQ = fun (e : Ending) (w' : World) => ∃ g F, e = .returned (ptr g) ∧ RfAt w' F g 0 [] ∧ Below w.heap.size w w' ∧ ∀ k, F k → w.heap.size ≤ k) := hPQ
  rw [← hPQ]
  clear hPQ
  go_enter Try.func8, Try.ntmps8
  go_upto_region 0 with fail
  refine wp_region_lit ?_
  refine wl rfl (.pointer none) _ (run_asZ (.const (.pointer none)) rfl (.pointer none) rfl) ?_
  simp only [Act.put, List.setIfInBounds_toArray, List.set_cons_zero]
  refine wpList_nil ?_
  go_upto_region 1 with fail
  refine wp_region_lit ?_
  refine wl rfl (.agg [.int .i64 ((0 : Nat) : Int), .slice none 0 0].toArray) _ (run_bld50 rfl) ?_
  simp only [Act.put, List.setIfInBounds_toArray, List.set_cons_succ, List.set_cons_zero]
  refine wl rfl (ptr w.heap.size) _ (run_boxA (.tmp 1) rfl ([.int .i64 ((0 : Nat) : Int), .slice none 0 0]) rfl) ?_
  simp only [Act.put, List.setIfInBounds_toArray, List.set_cons_succ, List.set_cons_zero]
  refine wl rfl (ptr w.heap.size) _ (run_asZ (.tmp 2) rfl (ptr w.heap.size) rfl) ?_
  simp only [Act.put, List.setIfInBounds_toArray, List.set_cons_zero]
  refine wpList_nil ?_
  go_wp2_with fail
  rw [HPQ.out]
  exact ⟨_, _, rfl, HS.out, below_alloc w _, fun k hk => by rw [hk]; exact Nat.le_refl _⟩
set_option maxHeartbeats 4000000 in
set_option maxRecDepth 100000 in
theorem rcount_any {w : World} {F : Nat → Prop} {g nx : Nat} {l : List En} (h : RfAt w F g nx l) : Calls Try.prog 19 #[ptr g] w fun e w' => e = .returned (.int .i64 (l.length : Nat)) ∧ w = w' := by
  obtain ⟨v, h1, h2, h3, h4⟩ := h.top
  have HT : Hid (Row w g 50 [.int .i64 (nx : Nat), v] ∧ RRow w v l) := ⟨h1, h2⟩
  have HF : Hid (F g ∧ ∀ k, v.ownBlock = some k → F k) := ⟨h3, h4⟩
  have HR : Hid (RfAt w F g nx l) := h
  have H8 : Hid (l.length ≤ 8) := h.eight
  obtain ⟨PQ, hPQ⟩ : ∃ PQ : Ending → World → Prop, PQ = fun (e : Ending) (w' : World) => e = .returned (.int .i64 (l.length : Nat)) ∧ w = w' := ⟨_, rfl⟩
  have HPQ : Hid (PQ = fun (e : Ending) (w' : World) => e = .returned (.int .i64 (l.length : Nat)) ∧ w = w') := hPQ
  rw [← hPQ]
  clear hPQ h1 h2 h3 h4 h
  go_enter Try.func19, Try.ntmps19
  go_upto_region 0 with fail
  refine wp_region_lit ?_
  refine wl rfl (.int .i64 0) _ (run_asZ (.const (.int .i64 0)) rfl (.int .i64 0) rfl) ?_
  simp only [Act.put, List.setIfInBounds_toArray, List.set_cons_succ, List.set_cons_zero]
  refine wpList_nil ?_
  go_upto_region 1 with fail
  refine wp_region_lit ?_
  refine wl rfl (ptr g) _ (run_mvZ (.tmp 0) rfl (ptr g) rfl) ?_
  simp only [Act.put, List.setIfInBounds_toArray, List.set_cons_succ, List.set_cons_zero]
  refine wl rfl (ptr g) _ (run_nil (.tmp 3) rfl ⟨g, 0, none⟩ rfl) ?_
  simp only [Act.put, List.setIfInBounds_toArray, List.set_cons_succ, List.set_cons_zero]
  refine wl rfl (.pointer (some ⟨g, 0 + 1, none⟩)) _ (run_fieldOp' f50_1 (.tmp 4) rfl g (0) rfl) ?_
  simp only [Act.put, List.setIfInBounds_toArray, List.set_cons_succ, List.set_cons_zero]
  refine wl rfl v _ (run_load1 o48 (.tmp 5) rfl g (0 + 1) rfl v (HT.out.1.at 1 _ rfl)) ?_
  simp only [Act.put, List.setIfInBounds_toArray, List.set_cons_succ, List.set_cons_zero]
  refine wl rfl (.int .i64 (l.length : Nat)) _ (run_lenO HT.out.2 (.tmp 6) rfl rfl) ?_
  simp only [Act.put, List.setIfInBounds_toArray, List.set_cons_succ, List.set_cons_zero]
  refine wl rfl (.int .i64 (l.length : Nat)) _ (run_asZ (.tmp 7) rfl (.int .i64 (l.length : Nat)) rfl) ?_
  simp only [Act.put, List.setIfInBounds_toArray, List.set_cons_succ, List.set_cons_zero]
  refine wpList_nil ?_
  go_wp2_with fail
  rw [HPQ.out]
  exact ⟨rfl, rfl⟩
set_option maxHeartbeats 4000000 in
set_option maxRecDepth 100000 in
theorem find_any {w : World} {F : Nat → Prop} {g nx : Nat} {l : List En} (h : RfAt w F g nx l) (p : Int) : Calls Try.prog 21 #[ptr g, .int .i64 p] w fun e w' => ((∃ k, ∃ hk : k < l.length, (l[k].no : Int) = p ∧ e = .returned (.int .i64 (k : Nat))) ∨ ((∀ x ∈ l, (x.no : Int) ≠ p) ∧ e = .returned (.int .i64 (-1)))) ∧ w = w' := by
  obtain ⟨v, h1, h2, h3, h4⟩ := h.top
  have HT : Hid (Row w g 50 [.int .i64 (nx : Nat), v] ∧ RRow w v l) := ⟨h1, h2⟩
  have HF : Hid (F g ∧ ∀ k, v.ownBlock = some k → F k) := ⟨h3, h4⟩
  have HR : Hid (RfAt w F g nx l) := h
  have H8 : Hid (l.length ≤ 8) := h.eight
  obtain ⟨PQ, hPQ⟩ : ∃ PQ : Ending → World → Prop, PQ = fun (e : Ending) (w' : World) => ((∃ k, ∃ hk : k < l.length, (l[k].no : Int) = p ∧ e = .returned (.int .i64 (k : Nat))) ∨ ((∀ x ∈ l, (x.no : Int) ≠ p) ∧ e = .returned (.int .i64 (-1)))) ∧ w = w' := ⟨_, rfl⟩
  have HPQ : Hid (PQ = fun (e : Ending) (w' : World) => ((∃ k, ∃ hk : k < l.length, (l[k].no : Int) = p ∧ e = .returned (.int .i64 (k : Nat))) ∨ ((∀ x ∈ l, (x.no : Int) ≠ p) ∧ e = .returned (.int .i64 (-1)))) ∧ w = w') := hPQ
  rw [← hPQ]
  clear hPQ h1 h2 h3 h4 h
  go_enter Try.func21, Try.ntmps21
  go_upto_region 0 with fail
  refine wp_region_lit ?_
  refine wl rfl (.int .i64 0) _ (run_asZ (.const (.int .i64 0)) rfl (.int .i64 0) rfl) ?_
  simp only [Act.put, List.setIfInBounds_toArray, List.set_cons_succ, List.set_cons_zero]
  refine wpList_nil ?_
  go_upto_region 1 with fail
  go_wp2_with fail
  go_loopw [5] (fun vi W => ∃ (i : Nat), vi = .int .i64 (i : Nat) ∧ i ≤ l.length ∧ Hid (∀ j, ∀ hj : j < l.length, j < i → (l[j].no : Int) ≠ p) ∧ w = W) (fun vi _ => l.length - (intOf vi).toNat)
  case atStart => exact ⟨0, rfl, Nat.zero_le _, fun j _ hj => absurd hj (Nat.not_lt_zero _), rfl⟩
  case round =>
    obtain ⟨i, rfl, hil, HJ, hw⟩ := hrel
    subst hw
    have h8 := H8.out
    by_cases hlt : i < l.length
    · obtain ⟨b, hb, hx1, hx2⟩ := ix_en HT.out.2 i hlt
      have HX : Hid ((∀ w', (Instr.indexAt 48 v (.int .i64 (i : Nat))).run Try.prog w' = .ok (.pointer (some ⟨b, i * 2, none⟩)) w') ∧ w.cell? ⟨b, i * 2 + 0, none⟩ = some (.int .i64 (l[i].no : Nat))) := ⟨hx1, (hx2 w HT.out.2).1⟩
      obtain ⟨n, hn⟩ : ∃ n, n = l[i].no := ⟨_, rfl⟩
      have HN : Hid (n = l[i].no) := hn
      rw [← hn] at HX
      clear hb hx1 hx2 hn
      go_upto_region 2 with fail
      refine wp_region_lit ?_
      refine wl rfl (.int .i64 (i : Nat)) _ (run_mvZ (.tmp 5) rfl (.int .i64 (i : Nat)) rfl) ?_
      simp only [Act.put, List.setIfInBounds_toArray, List.set_cons_succ, List.set_cons_zero]
      refine wl rfl (ptr g) _ (run_mvZ (.tmp 0) rfl (ptr g) rfl) ?_
      simp only [Act.put, List.setIfInBounds_toArray, List.set_cons_succ, List.set_cons_zero]
      refine wl rfl (ptr g) _ (run_nil (.tmp 7) rfl ⟨g, 0, none⟩ rfl) ?_
      simp only [Act.put, List.setIfInBounds_toArray, List.set_cons_succ, List.set_cons_zero]
      refine wl rfl (.pointer (some ⟨g, 0 + 1, none⟩)) _ (run_fieldOp' f50_1 (.tmp 8) rfl g (0) rfl) ?_
      simp only [Act.put, List.setIfInBounds_toArray, List.set_cons_succ, List.set_cons_zero]
      refine wl rfl v _ (run_load1 o48 (.tmp 9) rfl g (0 + 1) rfl v (HT.out.1.at 1 _ rfl)) ?_
      simp only [Act.put, List.setIfInBounds_toArray, List.set_cons_succ, List.set_cons_zero]
      refine wl rfl (.int .i64 (l.length : Nat)) _ (run_lenO HT.out.2 (.tmp 10) rfl rfl) ?_
      simp only [Act.put, List.setIfInBounds_toArray, List.set_cons_succ, List.set_cons_zero]
      refine wl rfl (.bool true) _ (run_lssZ (.tmp 6) (.tmp 11) rfl (i : Nat) (l.length : Nat) rfl rfl true (decide_eq_true (by omega))) ?_
      simp only [Act.put, List.setIfInBounds_toArray, List.set_cons_succ, List.set_cons_zero]
      refine wpList_nil ?_
      by_cases hp : (n : Int) = p
      · go_upto_region 4 with fail
        refine wp_region_lit ?_
        refine wl rfl (ptr g) _ (run_mvZ (.tmp 0) rfl (ptr g) rfl) ?_
        simp only [Act.put, List.setIfInBounds_toArray, List.set_cons_succ, List.set_cons_zero]
        refine wl rfl (ptr g) _ (run_nil (.tmp 15) rfl ⟨g, 0, none⟩ rfl) ?_
        simp only [Act.put, List.setIfInBounds_toArray, List.set_cons_succ, List.set_cons_zero]
        refine wl rfl (.pointer (some ⟨g, 0 + 1, none⟩)) _ (run_fieldOp' f50_1 (.tmp 16) rfl g (0) rfl) ?_
        simp only [Act.put, List.setIfInBounds_toArray, List.set_cons_succ, List.set_cons_zero]
        refine wl rfl v _ (run_load1 o48 (.tmp 17) rfl g (0 + 1) rfl v (HT.out.1.at 1 _ rfl)) ?_
        simp only [Act.put, List.setIfInBounds_toArray, List.set_cons_succ, List.set_cons_zero]
        refine wl rfl (.int .i64 (i : Nat)) _ (run_mvZ (.tmp 5) rfl (.int .i64 (i : Nat)) rfl) ?_
        simp only [Act.put, List.setIfInBounds_toArray, List.set_cons_succ, List.set_cons_zero]
        refine wl rfl (.pointer (some ⟨b, i * 2, none⟩)) _ (run_idx (.tmp 18) (.tmp 19) rfl v _ _ rfl rfl HX.out.1) ?_
        simp only [Act.put, List.setIfInBounds_toArray, List.set_cons_succ, List.set_cons_zero]
        refine wl rfl (.pointer (some ⟨b, i * 2 + 0, none⟩)) _ (run_fieldOp' f52_0 (.tmp 20) rfl b (i * 2) rfl) ?_
        simp only [Act.put, List.setIfInBounds_toArray, List.set_cons_succ, List.set_cons_zero]
        refine wl rfl (.int .i64 (n : Nat)) _ (run_load1 o3 (.tmp 21) rfl b (i * 2 + 0) rfl (.int .i64 (n : Nat)) HX.out.2) ?_
        simp only [Act.put, List.setIfInBounds_toArray, List.set_cons_succ, List.set_cons_zero]
        refine wl rfl (.int .i64 p) _ (run_mvZ (.tmp 1) rfl (.int .i64 p) rfl) ?_
        simp only [Act.put, List.setIfInBounds_toArray, List.set_cons_succ, List.set_cons_zero]
        refine wl rfl (.bool true) _ (run_eqZ (.tmp 22) (.tmp 23) rfl (n : Nat) p rfl rfl true (decide_eq_true hp)) ?_
        simp only [Act.put, List.setIfInBounds_toArray, List.set_cons_succ, List.set_cons_zero]
        refine wpList_nil ?_
        go_wp2_with fail
        rw [HPQ.out]
        exact ⟨Or.inl ⟨i, hlt, by rw [← HN.out]; exact hp, rfl⟩, rfl⟩
      · go_upto_region 4 with fail
        refine wp_region_lit ?_
        refine wl rfl (ptr g) _ (run_mvZ (.tmp 0) rfl (ptr g) rfl) ?_
        simp only [Act.put, List.setIfInBounds_toArray, List.set_cons_succ, List.set_cons_zero]
        refine wl rfl (ptr g) _ (run_nil (.tmp 15) rfl ⟨g, 0, none⟩ rfl) ?_
        simp only [Act.put, List.setIfInBounds_toArray, List.set_cons_succ, List.set_cons_zero]
        refine wl rfl (.pointer (some ⟨g, 0 + 1, none⟩)) _ (run_fieldOp' f50_1 (.tmp 16) rfl g (0) rfl) ?_
        simp only [Act.put, List.setIfInBounds_toArray, List.set_cons_succ, List.set_cons_zero]
        refine wl rfl v _ (run_load1 o48 (.tmp 17) rfl g (0 + 1) rfl v (HT.out.1.at 1 _ rfl)) ?_
        simp only [Act.put, List.setIfInBounds_toArray, List.set_cons_succ, List.set_cons_zero]
        refine wl rfl (.int .i64 (i : Nat)) _ (run_mvZ (.tmp 5) rfl (.int .i64 (i : Nat)) rfl) ?_
        simp only [Act.put, List.setIfInBounds_toArray, List.set_cons_succ, List.set_cons_zero]
        refine wl rfl (.pointer (some ⟨b, i * 2, none⟩)) _ (run_idx (.tmp 18) (.tmp 19) rfl v _ _ rfl rfl HX.out.1) ?_
        simp only [Act.put, List.setIfInBounds_toArray, List.set_cons_succ, List.set_cons_zero]
        refine wl rfl (.pointer (some ⟨b, i * 2 + 0, none⟩)) _ (run_fieldOp' f52_0 (.tmp 20) rfl b (i * 2) rfl) ?_
        simp only [Act.put, List.setIfInBounds_toArray, List.set_cons_succ, List.set_cons_zero]
        refine wl rfl (.int .i64 (n : Nat)) _ (run_load1 o3 (.tmp 21) rfl b (i * 2 + 0) rfl (.int .i64 (n : Nat)) HX.out.2) ?_
        simp only [Act.put, List.setIfInBounds_toArray, List.set_cons_succ, List.set_cons_zero]
        refine wl rfl (.int .i64 p) _ (run_mvZ (.tmp 1) rfl (.int .i64 p) rfl) ?_
        simp only [Act.put, List.setIfInBounds_toArray, List.set_cons_succ, List.set_cons_zero]
        refine wl rfl (.bool false) _ (run_eqZ (.tmp 22) (.tmp 23) rfl (n : Nat) p rfl rfl false (decide_eq_false hp)) ?_
        simp only [Act.put, List.setIfInBounds_toArray, List.set_cons_succ, List.set_cons_zero]
        refine wpList_nil ?_
        have HJ2 : Hid (∀ j, ∀ hj : j < l.length, j < i + 1 → (l[j].no : Int) ≠ p) := fun j hj hji => by
          by_cases e : j = i
          · subst e; rw [← HN.out]; exact hp
          · exact HJ.out j hj (by omega)
        clear hp
        go_wp2_with fail
        refine ⟨⟨i + 1, by go_num, by omega, HJ2, trivial⟩, ?_⟩
        simp [intOf]; omega
    · go_upto_region 2 with fail
      refine wp_region_lit ?_
      refine wl rfl (.int .i64 (i : Nat)) _ (run_mvZ (.tmp 5) rfl (.int .i64 (i : Nat)) rfl) ?_
      simp only [Act.put, List.setIfInBounds_toArray, List.set_cons_succ, List.set_cons_zero]
      refine wl rfl (ptr g) _ (run_mvZ (.tmp 0) rfl (ptr g) rfl) ?_
      simp only [Act.put, List.setIfInBounds_toArray, List.set_cons_succ, List.set_cons_zero]
      refine wl rfl (ptr g) _ (run_nil (.tmp 7) rfl ⟨g, 0, none⟩ rfl) ?_
      simp only [Act.put, List.setIfInBounds_toArray, List.set_cons_succ, List.set_cons_zero]
      refine wl rfl (.pointer (some ⟨g, 0 + 1, none⟩)) _ (run_fieldOp' f50_1 (.tmp 8) rfl g (0) rfl) ?_
      simp only [Act.put, List.setIfInBounds_toArray, List.set_cons_succ, List.set_cons_zero]
      refine wl rfl v _ (run_load1 o48 (.tmp 9) rfl g (0 + 1) rfl v (HT.out.1.at 1 _ rfl)) ?_
      simp only [Act.put, List.setIfInBounds_toArray, List.set_cons_succ, List.set_cons_zero]
      refine wl rfl (.int .i64 (l.length : Nat)) _ (run_lenO HT.out.2 (.tmp 10) rfl rfl) ?_
      simp only [Act.put, List.setIfInBounds_toArray, List.set_cons_succ, List.set_cons_zero]
      refine wl rfl (.bool false) _ (run_lssZ (.tmp 6) (.tmp 11) rfl (i : Nat) (l.length : Nat) rfl rfl false (decide_eq_false (by omega))) ?_
      simp only [Act.put, List.setIfInBounds_toArray, List.set_cons_succ, List.set_cons_zero]
      refine wpList_nil ?_
      go_wp2_with fail
      rw [HPQ.out]
      refine ⟨Or.inr ⟨fun y hy => ?_, rfl⟩, rfl⟩
      obtain ⟨j, hj, rfl⟩ := List.getElem_of_mem hy
      exact HJ.out j hj (by omega)
theorem sz48 : (Try.prog.info? 48).map (·.size) = some 1 := by kernel_rfl
set_option maxHeartbeats 4000000 in
set_option maxRecDepth 100000 in
theorem rbegin_any {w : World} {F : Nat → Prop} {g nx : Nat} {l : List En} (h : RfAt w F g nx l) (hnx : nx < 4611686018427387904) : Calls Try.prog 11 #[ptr g] w fun e w' => ∃ F' nx' l', e = .returned (.tuple #[.int .i64 (beginP nx (ssOf l)).1, .int .i64 (beginP nx (ssOf l)).2.1]) ∧ RfAt w' F' g nx' l' ∧ (nx', ssOf l') = (beginP nx (ssOf l)).2.2 ∧ Tn F F' w w' := by
  obtain ⟨v, h1, h2, h3, h4⟩ := h.top
  have HT : Hid (Row w g 50 [.int .i64 (nx : Nat), v] ∧ RRow w v l) := ⟨h1, h2⟩
  have HF : Hid (F g ∧ ∀ k, v.ownBlock = some k → F k) := ⟨h3, h4⟩
  have HR : Hid (RfAt w F g nx l) := h
  have H8 : Hid (l.length ≤ 8) := h.eight
  obtain ⟨PQ, hPQ⟩ : ∃ PQ : Ending → World → Prop, PQ = fun (e : Ending) (w' : World) => ∃ F' nx' l', e = .returned (.tuple #[.int .i64 (beginP nx (ssOf l)).1, .int .i64 (beginP nx (ssOf l)).2.1]) ∧ RfAt w' F' g nx' l' ∧ (nx', ssOf l') = (beginP nx (ssOf l)).2.2 ∧ Tn F F' w w' := ⟨_, rfl⟩
  have HPQ : Hid (PQ = fun (e : Ending) (w' : World) => ∃ F' nx' l', e = .returned (.tuple #[.int .i64 (beginP nx (ssOf l)).1, .int .i64 (beginP nx (ssOf l)).2.1]) ∧ RfAt w' F' g nx' l' ∧ (nx', ssOf l') = (beginP nx (ssOf l)).2.2 ∧ Tn F F' w w') := hPQ
  rw [← hPQ]
  clear hPQ h1 h2 h3 h4 h
  by_cases h8 : l.length < 8
  · have hd : decide (((l.length : Nat) : Int) = 8) = false := decide_eq_false (by omega)
    have HB : Hid (beginP nx (ssOf l) = ((nx : Int), 0, nx + 1, ssOf l ++ [(nx, [])])) := by
      show _ = _
      unfold beginP
      rw [if_neg (by simp [ssOf]; omega)]
    go_enter Try.func11, Try.ntmps11
    go_upto_region 0 with fail
    refine wp_region_lit ?_
    refine wl rfl (.int .i64 0) _ (run_asZ (.const (.int .i64 0)) rfl (.int .i64 0) rfl) ?_
    simp only [Act.put, List.setIfInBounds_toArray, List.set_cons_succ, List.set_cons_zero]
    refine wl rfl (.int .i64 0) _ (run_asZ (.const (.int .i64 0)) rfl (.int .i64 0) rfl) ?_
    simp only [Act.put, List.setIfInBounds_toArray, List.set_cons_succ, List.set_cons_zero]
    refine wpList_nil ?_
    go_upto_region 1 with fail
    refine wp_region_lit ?_
    refine wl rfl (ptr g) _ (run_mvZ (.tmp 0) rfl (ptr g) rfl) ?_
    simp only [Act.put, List.setIfInBounds_toArray, List.set_cons_succ, List.set_cons_zero]
    refine wl rfl (ptr g) _ (run_nil (.tmp 4) rfl ⟨g, 0, none⟩ rfl) ?_
    simp only [Act.put, List.setIfInBounds_toArray, List.set_cons_succ, List.set_cons_zero]
    refine wl rfl (.pointer (some ⟨g, 0 + 1, none⟩)) _ (run_fieldOp' f50_1 (.tmp 5) rfl g (0) rfl) ?_
    simp only [Act.put, List.setIfInBounds_toArray, List.set_cons_succ, List.set_cons_zero]
    refine wl rfl v _ (run_load1 o48 (.tmp 6) rfl g (0 + 1) rfl v (HT.out.1.at 1 _ rfl)) ?_
    simp only [Act.put, List.setIfInBounds_toArray, List.set_cons_succ, List.set_cons_zero]
    refine wl rfl (.int .i64 (l.length : Nat)) _ (run_lenO HT.out.2 (.tmp 7) rfl rfl) ?_
    simp only [Act.put, List.setIfInBounds_toArray, List.set_cons_succ, List.set_cons_zero]
    refine wl rfl (.bool false) _ (run_eqZ (.tmp 8) (.const (.int .i64 8)) rfl (l.length : Nat) 8 rfl rfl false hd) ?_
    simp only [Act.put, List.setIfInBounds_toArray, List.set_cons_succ, List.set_cons_zero]
    refine wpList_nil ?_
    go_upto_region 3 with fail
    refine wp_region_until (S := fun X => Row X g 50 [.int .i64 (nx : Nat), v]) 14 (by kernel_rfl) ?_
    show wpAnyU _ _ _ _ _ _ 15 (Array.replicate 15 false) _ _
    obtain ⟨X, hX⟩ : ∃ X : World, X = { w with drawn := w.drawn + 1 } := ⟨_, rfl⟩
    rw [← hX]
    have HBX : Hid (Below w.heap.size w X) := by show Below _ _ _; rw [hX]; exact ⟨rfl, rfl, rfl, Nat.le_refl _, fun _ _ => rfl⟩
    have hS : Row X g 50 [.int .i64 (nx : Nat), v] := HT.out.1.later HBX.out HT.out.1.lt
    clear hX
    refine takeV (i := 0) [14] (some 10) rfl rfl (by kernel_rfl) (by kernel_rfl) (by kernel_rfl) (by kernel_rfl) (fun _ _ _ h => h) (gRun rfl (ptr g) fun _ h => run_mvZ (.tmp 0) rfl (ptr g) rfl) hS ?_
    simp only [Act.put, List.setIfInBounds_toArray, List.set_cons_succ, List.set_cons_zero]
    refine takeV (i := 1) [14] (some 11) rfl rfl (by kernel_rfl) (by kernel_rfl) (by kernel_rfl) (by kernel_rfl) (fun _ _ _ h => h) (gRun rfl (ptr g) fun _ h => run_mvZ (.tmp 0) rfl (ptr g) rfl) hS ?_
    simp only [Act.put, List.setIfInBounds_toArray, List.set_cons_succ, List.set_cons_zero]
    refine takeV (i := 2) [14] (some 12) rfl rfl (by kernel_rfl) (by kernel_rfl) (by kernel_rfl) (by kernel_rfl) (fun _ _ _ h => h) (gRun rfl (ptr g) fun _ h => run_nil (.tmp 11) rfl ⟨g, 0, none⟩ rfl) hS ?_
    simp only [Act.put, List.setIfInBounds_toArray, List.set_cons_succ, List.set_cons_zero]
    refine takeV (i := 3) [14] (some 13) rfl rfl (by kernel_rfl) (by kernel_rfl) (by kernel_rfl) (by kernel_rfl) (fun _ _ _ h => h) (gRun rfl (.pointer (some ⟨g, 0 + 1, none⟩)) fun _ h => run_fieldOp' f50_1 (.tmp 12) rfl g (0) rfl) hS ?_
    simp only [Act.put, List.setIfInBounds_toArray, List.set_cons_succ, List.set_cons_zero]
    refine takeV (i := 4) [14] (some 14) rfl rfl (by kernel_rfl) (by kernel_rfl) (by kernel_rfl) (by kernel_rfl) (fun _ _ _ h => h) (gRun rfl v fun _ h => run_load1 o48 (.tmp 13) rfl g (0 + 1) rfl v (h.at 1 _ rfl)) hS ?_
    simp only [Act.put, List.setIfInBounds_toArray, List.set_cons_succ, List.set_cons_zero]
    refine takeV (i := 5) [14] (some 15) rfl rfl (by kernel_rfl) (by kernel_rfl) (by kernel_rfl) (by kernel_rfl) (fun _ _ _ h => h) (gRun rfl (ptr g) fun _ h => run_mvZ (.tmp 0) rfl (ptr g) rfl) hS ?_
    simp only [Act.put, List.setIfInBounds_toArray, List.set_cons_succ, List.set_cons_zero]
    refine takeV (i := 6) [14] (some 16) rfl rfl (by kernel_rfl) (by kernel_rfl) (by kernel_rfl) (by kernel_rfl) (fun _ _ _ h => h) (gRun rfl (ptr g) fun _ h => run_nil (.tmp 15) rfl ⟨g, 0, none⟩ rfl) hS ?_
    simp only [Act.put, List.setIfInBounds_toArray, List.set_cons_succ, List.set_cons_zero]
    refine takeV (i := 7) [14] (some 17) rfl rfl (by kernel_rfl) (by kernel_rfl) (by kernel_rfl) (by kernel_rfl) (fun _ _ _ h => h) (gRun rfl (.pointer (some ⟨g, 0 + 0, none⟩)) fun _ h => run_fieldOp' f50_0 (.tmp 16) rfl g (0) rfl) hS ?_
    simp only [Act.put, List.setIfInBounds_toArray, List.set_cons_succ, List.set_cons_zero]
    refine takeV (i := 8) [14] (some 18) rfl rfl (by kernel_rfl) (by kernel_rfl) (by kernel_rfl) (by kernel_rfl) (fun _ _ _ h => h) (gRun rfl (.int .i64 (nx : Nat)) fun _ h => run_load1 o3 (.tmp 17) rfl g (0 + 0) rfl (.int .i64 (nx : Nat)) (h.at 0 _ rfl)) hS ?_
    simp only [Act.put, List.setIfInBounds_toArray, List.set_cons_succ, List.set_cons_zero]
    refine takeV (i := 9) [14] (some 19) rfl rfl (by kernel_rfl) (by kernel_rfl) (by kernel_rfl) (by kernel_rfl) (fun _ _ _ h => h) (gRun rfl (.agg #[.int .i64 (nx : Nat), .slice none 0 0]) fun _ h => run_bld52 (.tmp 18) rfl nx rfl) hS ?_
    simp only [Act.put, List.setIfInBounds_toArray, List.set_cons_succ, List.set_cons_zero]
    refine oneU (i := 10) (by kernel_rfl) ?_
    refine opValueG (some 20) rfl rfl rfl (.slice (some ⟨X.heap.size, 0, none⟩) 1 1) _ (run_rlit1 (.tmp 19) rfl nx rfl) ?_
    have HE0 : Hid (Row (X.alloc (.cells #[.int .i64 (nx : Nat), .slice none 0 0] 52)) X.heap.size 52 [.int .i64 (nx : Nat), .slice none 0 0] ∧ Below X.heap.size X (X.alloc (.cells #[.int .i64 (nx : Nat), .slice none 0 0] 52))) := ⟨Row.new X 52 _, below_alloc X _⟩
    obtain ⟨w1, hW_⟩ : ∃ W, W = X.alloc (.cells #[.int .i64 (nx : Nat), .slice none 0 0] 52) := ⟨_, rfl⟩
    obtain ⟨b1, hq_⟩ : ∃ q, q = X.heap.size := ⟨_, rfl⟩
    have HBX1 : Hid (Below w.heap.size w w1) := HBX.out.trans ((by rw [hW_]; exact below_alloc X _ : Below X.heap.size X w1).mono HBX.out.size)
    rw [← hW_, ← hq_] at HE0
    rw [← hW_, ← hq_]
    clear hW_ hq_
    have HT1 : Hid (Row w1 g 50 [.int .i64 (nx : Nat), v] ∧ RRow w1 v l) := ⟨HT.out.1.later HBX1.out HT.out.1.lt, own_later HT.out.2 HBX1.out⟩
    clear hS
    have hS := HT1.out.1
    refine ⟨fun _ => hS, ?_⟩
    simp only [Act.put, List.setIfInBounds_toArray, List.set_cons_succ, List.set_cons_zero]
    refine oneU (i := 11) (by kernel_rfl) ?_
    obtain ⟨v2, w2, hr2, ho2, hg2, hat2⟩ := run_rapp (Oper.type _) v l [⟨nx, none, []⟩] HT1.out.2 (.slice (some ⟨b1, 0, none⟩) 1 1) ⟨b1, 0, none⟩ 1 rfl (fun j u hu => by rw [add_none, Nat.zero_add]; exact HE0.out.1.at j u hu) (by simp; omega)
    refine opValueG (some 21) rfl rfl rfl v2 w2 (run_append (.tmp 14) (.tmp 20) rfl v _ v2 rfl rfl hr2) ?_
    have HT2 : Hid (Row w2 g 50 [.int .i64 (nx : Nat), v] ∧ RRow w2 v2 (l ++ [⟨nx, none, []⟩]) ∧ w1.grownBy w2 v.ownBlock ∧ (v2.ownBlock = v.ownBlock ∨ v2.ownBlock = some w1.heap.size)) := ⟨by
      show w2.heap[g]? = _
      rw [hg2.block g HT1.out.1.lt fun e => HT1.out.2.neG HT1.out.1 (by decide) e.symm]
      exact HT1.out.1, ho2, hg2, hat2⟩
    clear hr2 ho2 hg2 hat2 hS
    have hS := HT2.out.1
    refine ⟨fun _ => hS, ?_⟩
    simp only [Act.put, List.setIfInBounds_toArray, List.set_cons_succ, List.set_cons_zero]
    refine takeV (i := 12) [13, 14] (some 22) rfl rfl (by kernel_rfl) (by kernel_rfl) (by kernel_rfl) (by kernel_rfl) (fun _ _ _ h => h) (gRun rfl (ptr g) fun _ h => run_nil (.tmp 10) rfl ⟨g, 0, none⟩ rfl) hS ?_
    simp only [Act.put, List.setIfInBounds_toArray, List.set_cons_succ, List.set_cons_zero]
    refine takeV (i := 13) [14] (some 23) rfl rfl (by kernel_rfl) (by kernel_rfl) (by kernel_rfl) (by kernel_rfl) (fun _ _ _ h => h) (gRun rfl (.pointer (some ⟨g, 0 + 1, none⟩)) fun _ h => run_fieldOp' f50_1 (.tmp 22) rfl g (0) rfl) hS ?_
    simp only [Act.put, List.setIfInBounds_toArray, List.set_cons_succ, List.set_cons_zero]
    refine oneU (i := 14) (by kernel_rfl) ?_
    refine opSkipZ rfl rfl rfl _ (run_putRow sz48 (.tmp 23) (.tmp 21) rfl g (0 + 1) 50 [.int .i64 (nx : Nat), v] rfl v2 rfl (own_cells HT2.out.2.1) hS (by simp)) ?_
    have HT3 : Hid (Row (w2.setCell ⟨g, 0 + 1, none⟩ v2) g 50 [.int .i64 (nx : Nat), v2]) := Row.setCell hS 1 v2
    refine ⟨fun h => absurd (show true = false from h) (by decide), ?_⟩
    refine wpAnyU_done (by kernel_rfl) ?_ _
    obtain ⟨w3, hW_⟩ : ∃ W, W = w2.setCell ⟨g, 0 + 1, none⟩ v2 := ⟨_, rfl⟩
    have HW3 : Hid (w3 = w2.setCell ⟨g, 0 + 1, none⟩ v2) := hW_
    rw [← hW_] at HT3
    rw [← hW_]
    clear hW_ hS
    go_upto_region 4 with fail
    refine wp_region_lit ?_
    refine wl rfl (ptr g) _ (run_mvZ (.tmp 0) rfl (ptr g) rfl) ?_
    simp only [Act.put, List.setIfInBounds_toArray, List.set_cons_succ, List.set_cons_zero]
    refine wl rfl (ptr g) _ (run_nil (.tmp 24) rfl ⟨g, 0, none⟩ rfl) ?_
    simp only [Act.put, List.setIfInBounds_toArray, List.set_cons_succ, List.set_cons_zero]
    refine wl rfl (.pointer (some ⟨g, 0 + 0, none⟩)) _ (run_fieldOp' f50_0 (.tmp 25) rfl g (0) rfl) ?_
    simp only [Act.put, List.setIfInBounds_toArray, List.set_cons_succ, List.set_cons_zero]
    refine wl rfl (.int .i64 (nx : Nat)) _ (run_load1 o3 (.tmp 26) rfl g (0 + 0) rfl (.int .i64 (nx : Nat)) (HT3.out.at 0 _ rfl)) ?_
    simp only [Act.put, List.setIfInBounds_toArray, List.set_cons_succ, List.set_cons_zero]
    refine wl rfl (.int .i64 ((nx + 1 : Nat) : Int)) _ (run_addI (.tmp 27) (.const (.int .i64 1)) rfl (nx : Nat) 1 ((nx + 1 : Nat) : Int) (by omega) (by omega) (by omega) rfl rfl) ?_
    simp only [Act.put, List.setIfInBounds_toArray, List.set_cons_succ, List.set_cons_zero]
    refine wl rfl (ptr g) _ (run_nil (.tmp 24) rfl ⟨g, 0, none⟩ rfl) ?_
    simp only [Act.put, List.setIfInBounds_toArray, List.set_cons_succ, List.set_cons_zero]
    refine wl rfl (.pointer (some ⟨g, 0 + 0, none⟩)) _ (run_fieldOp' f50_0 (.tmp 29) rfl g (0) rfl) ?_
    simp only [Act.put, List.setIfInBounds_toArray, List.set_cons_succ, List.set_cons_zero]
    refine wlS rfl rfl _ (run_putRow sz3 (.tmp 30) (.tmp 28) rfl g (0 + 0) 50 [.int .i64 (nx : Nat), v2] rfl (.int .i64 ((nx + 1 : Nat) : Int)) rfl ⟨rfl, rfl⟩ HT3.out (by simp)) ?_
    have HT4 : Hid (Row (w3.setCell ⟨g, 0 + 0, none⟩ (.int .i64 ((nx + 1 : Nat) : Int))) g 50 [.int .i64 ((nx + 1 : Nat) : Int), v2]) := Row.setCell HT3.out 0 _
    obtain ⟨w4, hW_⟩ : ∃ W, W = w3.setCell ⟨g, 0 + 0, none⟩ (.int .i64 ((nx + 1 : Nat) : Int)) := ⟨_, rfl⟩
    have HW4 : Hid (w4 = w3.setCell ⟨g, 0 + 0, none⟩ (.int .i64 ((nx + 1 : Nat) : Int))) := hW_
    rw [← hW_] at HT4
    rw [← hW_]
    clear hW_
    refine wpList_nil ?_
    go_upto_region 5 with fail
    refine wp_region_lit ?_
    refine wl rfl (ptr g) _ (run_mvZ (.tmp 0) rfl (ptr g) rfl) ?_
    simp only [Act.put, List.setIfInBounds_toArray, List.set_cons_succ, List.set_cons_zero]
    refine wl rfl (ptr g) _ (run_nil (.tmp 31) rfl ⟨g, 0, none⟩ rfl) ?_
    simp only [Act.put, List.setIfInBounds_toArray, List.set_cons_succ, List.set_cons_zero]
    refine wl rfl (.pointer (some ⟨g, 0 + 0, none⟩)) _ (run_fieldOp' f50_0 (.tmp 32) rfl g (0) rfl) ?_
    simp only [Act.put, List.setIfInBounds_toArray, List.set_cons_succ, List.set_cons_zero]
    refine wl rfl (.int .i64 ((nx + 1 : Nat) : Int)) _ (run_load1 o3 (.tmp 33) rfl g (0 + 0) rfl (.int .i64 ((nx + 1 : Nat) : Int)) (HT4.out.at 0 _ rfl)) ?_
    simp only [Act.put, List.setIfInBounds_toArray, List.set_cons_succ, List.set_cons_zero]
    refine wl rfl (.int .i64 (nx : Nat)) _ (run_subI (.tmp 34) (.const (.int .i64 1)) rfl ((nx + 1 : Nat) : Int) 1 (nx : Nat) (by omega) (by omega) (by omega) rfl rfl) ?_
    simp only [Act.put, List.setIfInBounds_toArray, List.set_cons_succ, List.set_cons_zero]
    refine wl rfl (.int .i64 (nx : Nat)) _ (run_asZ (.tmp 35) rfl (.int .i64 (nx : Nat)) rfl) ?_
    simp only [Act.put, List.setIfInBounds_toArray, List.set_cons_succ, List.set_cons_zero]
    refine wl rfl (.int .i64 0) _ (run_asZ (.const (.int .i64 0)) rfl (.int .i64 0) rfl) ?_
    simp only [Act.put, List.setIfInBounds_toArray, List.set_cons_succ, List.set_cons_zero]
    refine wpList_nil ?_
    have HCH : Hid (Ch (fun k => k = g ∨ v.ownBlock = some k) w w4 ∧ RRow w4 v2 (l ++ [⟨nx, none, []⟩]) ∧ ∀ k, v2.ownBlock = some k → Nw F w w4 k) := by
      have c1 : Ch (fun k => k = g ∨ v.ownBlock = some k) w w1 := Ch.of_below HBX1.out
      have c2 : Ch (fun k => k = g ∨ v.ownBlock = some k) w w2 := c1.grown HT2.out.2.2.1 fun k e => Or.inl (Or.inr e)
      have c3 : Ch (fun k => k = g ∨ v.ownBlock = some k) w w3 := by rw [HW3.out]; exact c2.setCell (Or.inl (Or.inl rfl)) _ _
      have c4 : Ch (fun k => k = g ∨ v.ownBlock = some k) w w4 := by rw [HW4.out]; exact c3.setCell (Or.inl (Or.inl rfl)) _ _
      have hng : ∀ k, v2.ownBlock = some k → k ≠ g := fun k e e2 => by
        subst e2
        exact HT2.out.2.1.neG HT2.out.1 (by decide) e
      refine ⟨c4, ?_, fun k e => ?_⟩
      · refine ownK HT2.out.2.1 fun k e => ?_
        rw [HW4.out, Below.heap_setCell w3 _ _ k (hng k e), HW3.out, Below.heap_setCell w2 _ _ k (hng k e)]
      · rcases HT2.out.2.2.2 with h | h
        · exact Or.inl (HF.out.2 k (by rw [← h]; exact e))
        · rw [h] at e
          injection e with e
          have := HBX1.out.size
          have h6 := (HT2.out.2.1.lt k (by rw [h, e])).2
          have h7 : w4.heap.size = w2.heap.size := by rw [HW4.out, HW3.out]; simp
          exact Or.inr ⟨by omega, by omega⟩
    have HST : Hid _ := HR.out.step (l' := l ++ [⟨nx, none, []⟩]) HT.out.1 HT.out.2 HCH.out.1 HT4.out HCH.out.2.1 HCH.out.2.2 (fun x hx => by
      rcases List.mem_append.1 hx with hx | hx
      · exact Or.inl hx
      · rw [List.mem_singleton.1 hx]
        exact Or.inr ⟨World.ownsRow_nil _ _ _ _, fun k e => (by cases e), fun c hc => (by cases hc), Nat.zero_le _⟩)
      (List.pairwise_append.2 ⟨HR.out.ord, List.pairwise_singleton _ _, fun x hx y hy => by rw [List.mem_singleton.1 hy]; exact HR.out.lt x hx⟩)
      (fun x hx => by
        rcases List.mem_append.1 hx with hx | hx
        · exact Nat.lt_succ_of_lt (HR.out.lt x hx)
        · rw [List.mem_singleton.1 hx]; exact Nat.lt_succ_self _) (by simp; omega) (by rw [total_snoc]; exact HR.out.all)
    go_wp2_with fail
    rw [HPQ.out]
    exact ⟨_, nx + 1, l ++ [⟨nx, none, []⟩], by rw [HB.out]; rfl, HST.out.1, by rw [HB.out]; simp [ssOf], HST.out.2⟩
  · have hd : decide (((l.length : Nat) : Int) = 8) = true := decide_eq_true (by have := H8.out; omega)
    have HB : Hid (beginP nx (ssOf l) = (0, 131, nx, ssOf l)) := by
      show _ = _
      unfold beginP
      rw [if_pos (by simp [ssOf]; omega)]
    go_enter Try.func11, Try.ntmps11
    go_upto_region 0 with fail
    refine wp_region_lit ?_
    refine wl rfl (.int .i64 0) _ (run_asZ (.const (.int .i64 0)) rfl (.int .i64 0) rfl) ?_
    simp only [Act.put, List.setIfInBounds_toArray, List.set_cons_succ, List.set_cons_zero]
    refine wl rfl (.int .i64 0) _ (run_asZ (.const (.int .i64 0)) rfl (.int .i64 0) rfl) ?_
    simp only [Act.put, List.setIfInBounds_toArray, List.set_cons_succ, List.set_cons_zero]
    refine wpList_nil ?_
    go_upto_region 1 with fail
    refine wp_region_lit ?_
    refine wl rfl (ptr g) _ (run_mvZ (.tmp 0) rfl (ptr g) rfl) ?_
    simp only [Act.put, List.setIfInBounds_toArray, List.set_cons_succ, List.set_cons_zero]
    refine wl rfl (ptr g) _ (run_nil (.tmp 4) rfl ⟨g, 0, none⟩ rfl) ?_
    simp only [Act.put, List.setIfInBounds_toArray, List.set_cons_succ, List.set_cons_zero]
    refine wl rfl (.pointer (some ⟨g, 0 + 1, none⟩)) _ (run_fieldOp' f50_1 (.tmp 5) rfl g (0) rfl) ?_
    simp only [Act.put, List.setIfInBounds_toArray, List.set_cons_succ, List.set_cons_zero]
    refine wl rfl v _ (run_load1 o48 (.tmp 6) rfl g (0 + 1) rfl v (HT.out.1.at 1 _ rfl)) ?_
    simp only [Act.put, List.setIfInBounds_toArray, List.set_cons_succ, List.set_cons_zero]
    refine wl rfl (.int .i64 (l.length : Nat)) _ (run_lenO HT.out.2 (.tmp 7) rfl rfl) ?_
    simp only [Act.put, List.setIfInBounds_toArray, List.set_cons_succ, List.set_cons_zero]
    refine wl rfl (.bool true) _ (run_eqZ (.tmp 8) (.const (.int .i64 8)) rfl (l.length : Nat) 8 rfl rfl true hd) ?_
    simp only [Act.put, List.setIfInBounds_toArray, List.set_cons_succ, List.set_cons_zero]
    refine wpList_nil ?_
    go_wp2_with fail
    rw [HPQ.out]
    exact ⟨F, nx, l, by rw [HB.out]; rfl, HR.out, by rw [HB.out], Tn.refl F w⟩

end Go.Proofs.Ytcjanjofjnedbaa

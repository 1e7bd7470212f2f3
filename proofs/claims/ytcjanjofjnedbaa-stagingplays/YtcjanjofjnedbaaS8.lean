/- Layer 13: the law on numbers of sessions. -/
import Derived.Test.YtcjanjofjnedbaaS7
namespace Go.Proofs.Ytcjanjofjnedbaa
open Go.RowKit Go.Maps Go.MapKept

/-- sessions without bytes -/
def bare (l : List Nat) : List (Nat × List Nat) := l.map fun n => (n, [])
def nums (l : List Nat) : List Int := l.map fun n => ((n : Nat) : Int)
theorem findS_bare {l : List Nat} {n : Nat} (h : n ∈ l) : findS (bare l) (n : Int) = some (n, []) := by
  unfold findS bare
  induction l with
  | nil => cases h
  | cons x l ih =>
    by_cases hx : x = n
    · subst hx
      rw [List.map_cons, List.find?_cons_of_pos (by simp)]
    · rw [List.map_cons, List.find?_cons_of_neg (by simp; omega)]
      rcases List.mem_cons.1 h with e | h
      · exact absurd e.symm hx
      · exact ih h
theorem findS_gone (ss : List (Nat × List Nat)) (p : Int) : findS (ss.filter fun x => decide ((x.1 : Int) ≠ p)) p = none := by
  unfold findS
  rw [List.find?_eq_none]
  intro x hx
  have := (List.mem_filter.1 hx).2
  simpa using this
theorem bare_filter {l : List Nat} (k : Nat) (hk : k < l.length) (ho : l.Pairwise (· < ·)) : (bare l).filter (fun x => decide ((x.1 : Int) ≠ (l.getD k 0 : Nat))) = bare (l.take k ++ l.drop (k + 1)) := by
  unfold bare
  rw [List.filter_map]
  congr 1
  induction l generalizing k with
  | nil => simp at hk
  | cons x l ih =>
    rw [List.pairwise_cons] at ho
    cases k with
    | zero =>
      simp only [List.getD_cons_zero, List.take_zero, List.nil_append, List.drop_succ_cons, List.drop_zero]
      rw [List.filter_cons_of_neg (by simp), List.filter_eq_self.2]
      intro y hy
      have := ho.1 y hy
      simp only [Function.comp]
      exact decide_eq_true (by omega)
    | succ k =>
      have hk' : k < l.length := by simpa using hk
      have hm : l.getD k 0 ∈ l := by simp [hk']
      have := ho.1 _ hm
      simp only [List.getD_cons_succ, List.take_succ_cons, List.cons_append, List.drop_succ_cons]
      rw [List.filter_cons_of_pos (by simp only [Function.comp]; exact decide_eq_true (by omega)), ih k hk' ho.2]
theorem nums_at (l : List Nat) (k : Nat) (hk : k < l.length) : (nums l).getD k 0 = ((l.getD k 0 : Nat) : Int) := by simp [nums, hk]
/-- what the law holds -/
structure NI (w W : World) (g : Nat) (F : Nat → Prop) (v : Value) (nx : Nat) (l : List Nat) : Prop where
  sw : SW w W F g nx (bare l)
  own : IOwn W v (nums l)
  off : ∀ k, v.ownBlock = some k → ¬ F k ∧ w.heap.size ≤ k
  ord : l.Pairwise (· < ·)
  lt : ∀ n ∈ l, n < nx
theorem NI.len {w W : World} {g nx : Nat} {F : Nat → Prop} {v : Value} {l : List Nat} (h : NI w W g F v nx l) : l.length ≤ 8 := by
  have := h.sw.eight
  simpa [bare] using this
theorem NI.ints {w W : World} {g nx : Nat} {F : Nat → Prop} {v : Value} {l : List Nat} (h : NI w W g F v nx l) : IntsIn W v (nums l) := h.own.ints (by have := h.len; simp [nums]; omega)
theorem NI.turn {w W W' : World} {g nx : Nat} {F F' : Nat → Prop} {v : Value} {l : List Nat} (h : NI w W g F v nx l) (t : Tn F F' W W') : IOwn W' v (nums l) ∧ ∀ k, v.ownBlock = some k → ¬ F' k ∧ w.heap.size ≤ k :=
  ⟨ownK h.own fun k e => t.ch.block k (h.own.lt k e).2 (h.off k e).1, fun k e => ⟨fun hf => (t.ext k hf).elim (h.off k e).1 fun h2 => by have := (h.own.lt k e).2; omega, (h.off k e).2⟩⟩
theorem NI.grow {w W W' : World} {g nx : Nat} {F : Nat → Prop} {v v' : Value} {l' : List Nat} (hs : SW w W F g nx (bare l')) (hb : w.heap.size ≤ W.heap.size) (off : ∀ k, v.ownBlock = some k → ¬ F k ∧ w.heap.size ≤ k) (hg : W.grownBy W' v.ownBlock) (hat : v'.ownBlock = v.ownBlock ∨ ∃ k, v'.ownBlock = some k ∧ W.heap.size ≤ k) (ho : IOwn W' v' (nums l')) (ord : l'.Pairwise (· < ·)) (lt : ∀ n ∈ l', n < nx) : NI w W' g F v' nx l' :=
  ⟨hs.ch (S := fun k => v.ownBlock = some k) ⟨hg.os, hg.tape, hg.output, hg.size, fun k hk hn => hg.block k hk fun e => hn e.symm⟩ off, ho, fun k e => by
    rcases hat with h | ⟨q, h, hq⟩
    · exact off k (by rw [← h]; exact e)
    · rw [h] at e
      injection e with e
      subst e
      exact ⟨fun hf => by have := hs.low _ hf; omega, by omega⟩, ord, lt⟩
theorem cut_mem {l : List Nat} (k : Nat) {n : Nat} (h : n ∈ l.take k ++ l.drop (k + 1)) : n ∈ l := by
  rcases List.mem_append.1 h with h | h
  · exact List.mem_of_mem_take h
  · exact List.mem_of_mem_drop h
theorem cut_ord {l : List Nat} (h : l.Pairwise (· < ·)) (k : Nat) : (l.take k ++ l.drop (k + 1)).Pairwise (· < ·) := by
  rw [← List.eraseIdx_eq_take_drop_succ]
  exact h.sublist (List.eraseIdx_sublist l k)
theorem turnI {w W W' : World} {F F' : Nat → Prop} {v : Value} {l : List Int} (h : IOwn W v l ∧ ∀ k, v.ownBlock = some k → ¬ F k ∧ w.heap.size ≤ k) (t : Tn F F' W W') : IOwn W' v l ∧ ∀ k, v.ownBlock = some k → ¬ F' k ∧ w.heap.size ≤ k :=
  ⟨ownK h.1 fun k e => t.ch.block k (h.1.lt k e).2 (h.2 k e).1, fun k e => ⟨fun hf => (t.ext k hf).elim (h.2 k e).1 fun h2 => by have := (h.1.lt k e).2; omega, (h.2 k e).2⟩⟩
set_option maxHeartbeats 16000000 in
set_option maxRecDepth 100000 in
theorem numbers_any (w : World) (vl : Value) (zs : List Int) (hz : IntsIn w vl zs) (hb : ∀ i : Nat, -9223372036854775808 ≤ zs.getD i 0 ∧ zs.getD i 0 ≤ 9223372036854775807) : Calls Try.prog 5 #[vl] w fun e w' => e = .returned (.bool true) ∧ Below w.heap.size w w' := by
  have HZ0 : Hid (IntsIn w vl zs) := hz
  have HZ1 : Hid (∀ i : Nat, -9223372036854775808 ≤ zs.getD i 0 ∧ zs.getD i 0 ≤ 9223372036854775807) := hb
  obtain ⟨PQ, hPQ⟩ : ∃ PQ : Ending → World → Prop, PQ = fun (e : Ending) (w' : World) => e = .returned (.bool true) ∧ Below w.heap.size w w' := ⟨_, rfl⟩
  have HPQ : Hid (PQ = fun (e : Ending) (w' : World) => e = .returned (.bool true) ∧ Below w.heap.size w w') := hPQ
  rw [← hPQ]
  clear hPQ hz hb
  go_enter Try.func5, Try.ntmps5
  go_upto_region 0 with fail
  refine wp_region_lit ?_
  refine wl rfl (.bool false) _ (run_asZ (.const (.bool false)) rfl (.bool false) rfl) ?_
  simp only [Act.put, List.setIfInBounds_toArray, List.set_cons_succ, List.set_cons_zero]
  refine wpList_nil ?_
  go_upto_region 1 with fail
  refine wp_region_lit ?_
  refine wpList_callW eN6 [] _ rfl rfl [] rfl ?_
  refine (shown_any w).mono ?_
  rintro e w1 ⟨rfl, b1⟩
  refine ⟨_, rfl, ?_⟩
  have B1 : Hid (Below w.heap.size w w1) := b1
  clear b1
  simp only [Act.put, List.setIfInBounds_toArray, List.set_cons_succ, List.set_cons_zero]
  refine wl rfl (.bool true) _ (run_asZ (.tmp 15) rfl (.bool true) rfl) ?_
  simp only [Act.put, List.setIfInBounds_toArray, List.set_cons_succ, List.set_cons_zero]
  refine wpList_nil ?_
  go_upto_region 2 with fail
  refine wp_region_lit ?_
  refine wpList_callW eN7 [] _ rfl rfl [] rfl ?_
  refine (SW.new w w1 B1.out).mono ?_
  rintro e w2 ⟨g, F, rfl, s2, _, _⟩
  refine ⟨_, rfl, ?_⟩
  have S2 : Hid (SW w w2 F g 0 []) := s2
  clear s2
  simp only [Act.put, List.setIfInBounds_toArray, List.set_cons_succ, List.set_cons_zero]
  refine wl rfl (ptr g) _ (run_asZ (.tmp 16) rfl (ptr g) rfl) ?_
  simp only [Act.put, List.setIfInBounds_toArray, List.set_cons_succ, List.set_cons_zero]
  refine wpList_nil ?_
  go_upto_region 3 with fail
  refine wp_region_lit ?_
  refine wl rfl (.bool true) _ (run_mvZ (.tmp 3) rfl (.bool true) rfl) ?_
  simp only [Act.put, List.setIfInBounds_toArray, List.set_cons_succ, List.set_cons_zero]
  refine wl rfl (.bool false) _ (run_not (.tmp 17) 4 rfl true rfl) ?_
  simp only [Act.put, List.setIfInBounds_toArray, List.set_cons_succ, List.set_cons_zero]
  refine wl rfl (.bool false) _ (run_mvZ (.tmp 18) rfl (.bool false) rfl) ?_
  simp only [Act.put, List.setIfInBounds_toArray, List.set_cons_succ, List.set_cons_zero]
  refine wl (by kernel_rfl) (ptr g) _ (run_mvZ (.tmp 4) rfl (ptr g) rfl) ?_
  simp only [Act.put, List.setIfInBounds_toArray, List.set_cons_succ, List.set_cons_zero]
  refine wl (by kernel_rfl) (.bool false) _ (run_binOp' (.tmp 20) (.const (.pointer none)) rfl _ _ _ rfl rfl rfl (by kernel_rfl)) ?_
  simp only [Act.put, List.setIfInBounds_toArray, List.set_cons_succ, List.set_cons_zero]
  refine wl rfl (.bool false) _ (run_pickZ (.tmp 19) (.const (.bool true)) (.tmp 21) rfl false (.bool false) rfl rfl) ?_
  simp only [Act.put, List.setIfInBounds_toArray, List.set_cons_succ, List.set_cons_zero]
  refine wpList_nil ?_
  go_upto_region 5 with fail
  refine wp_region_lit ?_
  refine wl rfl (.slice (some ⟨w2.heap.size, 0, none⟩) 0 0) _ (run_ilit0 rfl) ?_
  have HN : Hid (NI w (w2.alloc (.cells #[] 3)) g F (.slice (some ⟨w2.heap.size, 0, none⟩) 0 0) 0 []) := ⟨S2.out.later (below_alloc w2 _), ints_lit0 w2, fun k e => by injection e with e; subst e; exact ⟨fun hf => Nat.lt_irrefl _ (S2.out.low _ hf), S2.out.bel.size⟩, List.Pairwise.nil, fun n h => by cases h⟩
  obtain ⟨w3, hW_⟩ : ∃ W, W = w2.alloc (.cells #[] 3) := ⟨_, rfl⟩
  obtain ⟨vo, hq_⟩ : ∃ q, q = Value.slice (some ⟨w2.heap.size, 0, none⟩) 0 0 := ⟨_, rfl⟩
  rw [← hW_, ← hq_] at HN
  rw [← hW_, ← hq_]
  clear hW_ hq_ S2 B1
  simp only [Act.put, List.setIfInBounds_toArray, List.set_cons_succ, List.set_cons_zero]
  refine wl rfl vo _ (run_asZ (.tmp 23) rfl vo rfl) ?_
  simp only [Act.put, List.setIfInBounds_toArray, List.set_cons_succ, List.set_cons_zero]
  refine wpList_nil ?_
  go_upto_region 6 with fail
  go_wp2_with fail
  go_loopw [5, 6, 7] (fun v vn vi W => ∃ (i : Nat), vi = .int .i64 (i : Nat) ∧ i ≤ zs.length ∧ i ≤ 80 ∧ ∃ (nx : Nat), vn = .int .i64 (nx : Nat) ∧ nx ≤ i ∧ ∃ F l, NI w W g F v nx l) (fun _ _ vi _ => 80 - (intOf vi).toNat)
  case atStart => exact ⟨0, rfl, Nat.zero_le _, by decide, 0, rfl, Nat.le_refl _, F, [], HN.out⟩
  case round =>
    obtain ⟨i, rfl, hil, hi80, nx, rfl, hnx, F', l, hN⟩ := hrel
    have HN' : Hid (NI w wr g F' u5 nx l) := hN
    have HLN : Hid (l.length ≤ 8) := hN.len
    have HZ : Hid (IntsIn wr vl zs) := HZ0.out.later hN.sw.bel
    clear hN HN
    have HLE : Hid (∀ {a : Act} {o : Oper} {W : World} (x : Operand), o.op = .call { callee := .builtin .len, args := #[x], argTypes := #[43] } → a.eval x = u5 → (execOp a.eval o).run Try.prog W = .ok (.value (.int .i64 (l.length : Nat))) W) := fun {_ _ W} x ho hx => by
      have := run_lenN (w := W) HN'.out.ints x ho hx
      simpa [nums] using this
    by_cases hlt : i < zs.length ∧ i < 80
    · obtain ⟨zb, zj, hz1, hz2⟩ := ix_num HZ.out i hlt.1
      obtain ⟨z, hz⟩ : ∃ z, z = zs.getD i 0 := ⟨_, rfl⟩
      rw [← hz] at hz2
      have HZI : Hid ((∀ w', (Instr.indexAt 43 vl (.int .i64 (i : Nat))).run Try.prog w' = .ok (.pointer (some ⟨zb, zj, none⟩)) w') ∧ wr.cell? ⟨zb, zj, none⟩ = some (.int .i64 z)) := ⟨hz1, hz2⟩
      have HZB : Hid (-9223372036854775808 ≤ z ∧ z ≤ 9223372036854775807) := by show _ ∧ _; rw [hz]; exact HZ1.out i
      clear hz1 hz2 hz
      go_upto_region 8 with fail
      refine wp_region_lit ?_
      refine wl rfl (.int .i64 (i : Nat)) _ (run_mvZ (.tmp 7) rfl (.int .i64 (i : Nat)) rfl) ?_
      simp only [Act.put, List.setIfInBounds_toArray, List.set_cons_succ, List.set_cons_zero]
      refine wl rfl vl _ (run_mvZ (.tmp 0) rfl vl rfl) ?_
      simp only [Act.put, List.setIfInBounds_toArray, List.set_cons_succ, List.set_cons_zero]
      refine wl rfl (.int .i64 (zs.length : Nat)) _ (run_lenN HZ.out (.tmp 25) rfl rfl) ?_
      simp only [Act.put, List.setIfInBounds_toArray, List.set_cons_succ, List.set_cons_zero]
      refine wl rfl (.bool true) _ (run_lssZ (.tmp 24) (.tmp 26) rfl (i : Nat) (zs.length : Nat) rfl rfl true (decide_eq_true (by omega))) ?_
      simp only [Act.put, List.setIfInBounds_toArray, List.set_cons_succ, List.set_cons_zero]
      refine wl rfl (.bool true) _ (run_mvZ (.tmp 27) rfl (.bool true) rfl) ?_
      simp only [Act.put, List.setIfInBounds_toArray, List.set_cons_succ, List.set_cons_zero]
      refine wl (by kernel_rfl) (.int .i64 (i : Nat)) _ (run_mvZ (.tmp 7) rfl (.int .i64 (i : Nat)) rfl) ?_
      simp only [Act.put, List.setIfInBounds_toArray, List.set_cons_succ, List.set_cons_zero]
      refine wl (by kernel_rfl) (.bool true) _ (run_lssZ (.tmp 29) (.const (.int .i64 80)) rfl (i : Nat) 80 rfl rfl true (decide_eq_true (by omega))) ?_
      simp only [Act.put, List.setIfInBounds_toArray, List.set_cons_succ, List.set_cons_zero]
      refine wl rfl (.bool true) _ (run_pickZ (.tmp 28) (.tmp 30) (.const (.bool false)) rfl true (.bool true) rfl rfl) ?_
      simp only [Act.put, List.setIfInBounds_toArray, List.set_cons_succ, List.set_cons_zero]
      refine wpList_nil ?_
      by_cases hm : z.tmod 3 = 0
      · go_upto_region 10 with fail
        refine wp_region_lit ?_
        refine wl rfl vl _ (run_mvZ (.tmp 0) rfl vl rfl) ?_
        simp only [Act.put, List.setIfInBounds_toArray, List.set_cons_succ, List.set_cons_zero]
        refine wl rfl (.int .i64 (i : Nat)) _ (run_mvZ (.tmp 7) rfl (.int .i64 (i : Nat)) rfl) ?_
        simp only [Act.put, List.setIfInBounds_toArray, List.set_cons_succ, List.set_cons_zero]
        refine wl rfl (.pointer (some ⟨zb, zj, none⟩)) _ (run_idx (.tmp 34) (.tmp 35) rfl vl _ _ rfl rfl (HZI.out.1)) ?_
        simp only [Act.put, List.setIfInBounds_toArray, List.set_cons_succ, List.set_cons_zero]
        refine wl rfl (.int .i64 z) _ (run_load1 o3 (.tmp 36) rfl zb zj rfl (.int .i64 z) HZI.out.2) ?_
        simp only [Act.put, List.setIfInBounds_toArray, List.set_cons_succ, List.set_cons_zero]
        refine wl rfl (.int .i64 (z.tmod 3)) _ (run_rem3 (.tmp 37) rfl z rfl) ?_
        simp only [Act.put, List.setIfInBounds_toArray, List.set_cons_succ, List.set_cons_zero]
        refine wl rfl (.bool false) _ (run_neZ (.tmp 38) (.const (.int .i64 0)) rfl (z.tmod 3) 0 rfl rfl false (by rw [decide_eq_true hm]; rfl)) ?_
        simp only [Act.put, List.setIfInBounds_toArray, List.set_cons_succ, List.set_cons_zero]
        refine wpList_nil ?_
        clear hm
        by_cases h0 : l.length = 0
        · go_upto_region 19 with fail
          refine wp_region_lit ?_
          refine wl rfl u5 _ (run_mvZ (.tmp 5) rfl u5 rfl) ?_
          simp only [Act.put, List.setIfInBounds_toArray, List.set_cons_succ, List.set_cons_zero]
          refine wl rfl (.int .i64 (l.length : Nat)) _ (HLE.out (.tmp 62) rfl rfl) ?_
          simp only [Act.put, List.setIfInBounds_toArray, List.set_cons_succ, List.set_cons_zero]
          refine wl rfl (.bool true) _ (run_eqZ (.tmp 63) (.const (.int .i64 0)) rfl (l.length : Nat) 0 rfl rfl true (decide_eq_true (by omega))) ?_
          simp only [Act.put, List.setIfInBounds_toArray, List.set_cons_succ, List.set_cons_zero]
          refine wpList_nil ?_
          go_wp2_with fail
          refine ⟨⟨i + 1, by go_num, by omega, by omega, nx, rfl, by omega, F', l, HN'.out⟩, ?_⟩
          simp [intOf]; omega
        · go_upto_region 19 with fail
          refine wp_region_lit ?_
          refine wl rfl u5 _ (run_mvZ (.tmp 5) rfl u5 rfl) ?_
          simp only [Act.put, List.setIfInBounds_toArray, List.set_cons_succ, List.set_cons_zero]
          refine wl rfl (.int .i64 (l.length : Nat)) _ (HLE.out (.tmp 62) rfl rfl) ?_
          simp only [Act.put, List.setIfInBounds_toArray, List.set_cons_succ, List.set_cons_zero]
          refine wl rfl (.bool false) _ (run_eqZ (.tmp 63) (.const (.int .i64 0)) rfl (l.length : Nat) 0 rfl rfl false (decide_eq_false (by omega))) ?_
          simp only [Act.put, List.setIfInBounds_toArray, List.set_cons_succ, List.set_cons_zero]
          refine wpList_nil ?_
          go_upto_region 20 with fail
          refine wp_region_lit ?_
          refine wl rfl vl _ (run_mvZ (.tmp 0) rfl vl rfl) ?_
          simp only [Act.put, List.setIfInBounds_toArray, List.set_cons_succ, List.set_cons_zero]
          refine wl rfl (.int .i64 (i : Nat)) _ (run_mvZ (.tmp 7) rfl (.int .i64 (i : Nat)) rfl) ?_
          simp only [Act.put, List.setIfInBounds_toArray, List.set_cons_succ, List.set_cons_zero]
          refine wl rfl (.pointer (some ⟨zb, zj, none⟩)) _ (run_idx (.tmp 65) (.tmp 66) rfl vl _ _ rfl rfl (HZI.out.1)) ?_
          simp only [Act.put, List.setIfInBounds_toArray, List.set_cons_succ, List.set_cons_zero]
          refine wl rfl (.int .i64 z) _ (run_load1 o3 (.tmp 67) rfl zb zj rfl (.int .i64 z) HZI.out.2) ?_
          simp only [Act.put, List.setIfInBounds_toArray, List.set_cons_succ, List.set_cons_zero]
          refine wl rfl (.int .i64 (z.tdiv 3)) _ (run_quo3 (.tmp 68) rfl z HZB.out rfl) ?_
          simp only [Act.put, List.setIfInBounds_toArray, List.set_cons_succ, List.set_cons_zero]
          refine wl rfl (.int .i64 (z.tdiv 3)) _ (run_asZ (.tmp 69) rfl (.int .i64 (z.tdiv 3)) rfl) ?_
          simp only [Act.put, List.setIfInBounds_toArray, List.set_cons_succ, List.set_cons_zero]
          refine wpList_nil ?_
          have HQB : Hid _ := tdiv3_bound z HZB.out
          obtain ⟨m, hm⟩ : ∃ m : Nat, m = (z.tdiv 3).natAbs := ⟨_, rfl⟩
          have hmb : m ≤ 3074457345618258605 := by have := HQB.out; omega
          by_cases hneg : z.tdiv 3 < 0
          · go_upto_region 21 with fail
            refine wp_region_lit ?_
            refine wl rfl (.int .i64 (z.tdiv 3)) _ (run_mvZ (.tmp 10) rfl (.int .i64 (z.tdiv 3)) rfl) ?_
            simp only [Act.put, List.setIfInBounds_toArray, List.set_cons_succ, List.set_cons_zero]
            refine wl rfl (.bool true) _ (run_lssZ (.tmp 70) (.const (.int .i64 0)) rfl (z.tdiv 3) 0 rfl rfl true (decide_eq_true hneg)) ?_
            simp only [Act.put, List.setIfInBounds_toArray, List.set_cons_succ, List.set_cons_zero]
            refine wpList_nil ?_
            go_upto_region 22 with fail
            refine wp_region_lit ?_
            refine wl rfl (.int .i64 (z.tdiv 3)) _ (run_mvZ (.tmp 10) rfl (.int .i64 (z.tdiv 3)) rfl) ?_
            simp only [Act.put, List.setIfInBounds_toArray, List.set_cons_succ, List.set_cons_zero]
            refine wl rfl (.int .i64 (m : Nat)) _ (run_neg3 (.tmp 72) rfl (z.tdiv 3) (m : Nat) (by omega) (by omega) rfl) ?_
            simp only [Act.put, List.setIfInBounds_toArray, List.set_cons_succ, List.set_cons_zero]
            refine wl rfl (.int .i64 (m : Nat)) _ (run_asZ (.tmp 73) rfl (.int .i64 (m : Nat)) rfl) ?_
            simp only [Act.put, List.setIfInBounds_toArray, List.set_cons_succ, List.set_cons_zero]
            refine wpList_nil ?_
            clear hm hneg HQB HZB HZI
            obtain ⟨k, hk⟩ : ∃ k, k = m % l.length := ⟨_, rfl⟩
            have hkl : k < l.length := by rw [hk]; exact Nat.mod_lt _ (by omega)
            obtain ⟨p, hp⟩ : ∃ p : Nat, p = l.getD k 0 := ⟨_, rfl⟩
            obtain ⟨ob, oj, ho1, ho2⟩ := ix_num HN'.out.ints k (by simp [nums]; exact hkl)
            rw [nums_at l k hkl, ← hp] at ho2
            have HPL : Hid (p ∈ l ∧ p < nx) := by
              have h1 : p ∈ l := by rw [hp]; simp [hkl]
              exact ⟨h1, HN'.out.lt p h1⟩
            have HPW : Hid (Wf ((p : Nat) : Int)) := Wf.of (by have := HPL.out.2; omega)
            have HT1 : Hid (takeP (bare l) (p : Int) = (0, [], bare (l.take k ++ l.drop (k + 1)))) := by
              show _ = _
              unfold takeP
              rw [findS_bare HPL.out.1]
              have := bare_filter k hkl HN'.out.ord
              rw [← hp] at this
              dsimp only
              rw [this]
            have HT2 : Hid (findS (bare (l.take k ++ l.drop (k + 1))) (p : Int) = none) := by
              have h1 := bare_filter k hkl HN'.out.ord
              rw [← hp] at h1
              show _ = _
              rw [← h1]
              exact findS_gone _ _
            have HT3 : Hid (takeP (bare (l.take k ++ l.drop (k + 1))) (p : Int) = (130, [], bare (l.take k ++ l.drop (k + 1)))) := by
              show _ = _
              unfold takeP
              rw [HT2.out]
            have HT4 : Hid (addP (bare (l.take k ++ l.drop (k + 1))) (p : Int) [] = (130, bare (l.take k ++ l.drop (k + 1)))) := by
              show _ = _
              unfold addP
              rw [HT2.out]
            have HOI : Hid ((∀ w', (Instr.indexAt 43 u5 (.int .i64 (k : Nat))).run Try.prog w' = .ok (.pointer (some ⟨ob, oj, none⟩)) w') ∧ ∀ W, IOwn W u5 (nums l) → W.cell? ⟨ob, oj, none⟩ = some (.int .i64 (p : Nat))) := ⟨ho1, fun W hW => by
              obtain ⟨b2, j2, h1, h2⟩ := ix_num (hW.ints (by have := HLN.out; simp [nums]; omega)) k (by simp [nums]; exact hkl)
              have e := (ho1 W).symm.trans (h1 W)
              injection e with e
              injection e with e
              injection e with e
              injection e with e1 e2
              rw [e1, e2, h2, nums_at l k hkl, hp]⟩
            clear ho1 ho2 hp
            go_upto_region 23 with fail
            refine wp_region_lit ?_
            refine wl rfl (.int .i64 (m : Nat)) _ (run_mvZ (.tmp 10) rfl (.int .i64 (m : Nat)) rfl) ?_
            simp only [Act.put, List.setIfInBounds_toArray, List.set_cons_succ, List.set_cons_zero]
            refine wl rfl u5 _ (run_mvZ (.tmp 5) rfl u5 rfl) ?_
            simp only [Act.put, List.setIfInBounds_toArray, List.set_cons_succ, List.set_cons_zero]
            refine wl rfl (.int .i64 (l.length : Nat)) _ (HLE.out (.tmp 75) rfl rfl) ?_
            simp only [Act.put, List.setIfInBounds_toArray, List.set_cons_succ, List.set_cons_zero]
            refine wl rfl (.int .i64 (k : Nat)) _ ((by rw [hk]; exact run_remN (.tmp 74) (.tmp 76) rfl m l.length (by omega) rfl rfl)) ?_
            simp only [Act.put, List.setIfInBounds_toArray, List.set_cons_succ, List.set_cons_zero]
            refine wl rfl (.int .i64 (k : Nat)) _ (run_asZ (.tmp 77) rfl (.int .i64 (k : Nat)) rfl) ?_
            simp only [Act.put, List.setIfInBounds_toArray, List.set_cons_succ, List.set_cons_zero]
            refine wpList_nil ?_
            clear hk
            go_upto_region 24 with fail
            refine wp_region_lit ?_
            refine wl rfl (ptr g) _ (run_mvZ (.tmp 4) rfl (ptr g) rfl) ?_
            simp only [Act.put, List.setIfInBounds_toArray, List.set_cons_succ, List.set_cons_zero]
            refine wl rfl u5 _ (run_mvZ (.tmp 5) rfl u5 rfl) ?_
            simp only [Act.put, List.setIfInBounds_toArray, List.set_cons_succ, List.set_cons_zero]
            refine wl rfl (.int .i64 (k : Nat)) _ (run_mvZ (.tmp 10) rfl (.int .i64 (k : Nat)) rfl) ?_
            simp only [Act.put, List.setIfInBounds_toArray, List.set_cons_succ, List.set_cons_zero]
            refine wl rfl (.pointer (some ⟨ob, oj, none⟩)) _ (run_idx (.tmp 80) (.tmp 81) rfl u5 _ _ rfl rfl (HOI.out.1)) ?_
            simp only [Act.put, List.setIfInBounds_toArray, List.set_cons_succ, List.set_cons_zero]
            refine wl rfl (.int .i64 (p : Nat)) _ (run_load1 o3 (.tmp 82) rfl ob oj rfl (.int .i64 (p : Nat)) (HOI.out.2 _ HN'.out.own)) ?_
            simp only [Act.put, List.setIfInBounds_toArray, List.set_cons_succ, List.set_cons_zero]
            refine wpList_callW eN14 [.tmp 79, .tmp 83] _ rfl rfl [(ptr g), (.int .i64 (p : Nat))] rfl ?_
            refine (SW.take HN'.out.sw (p : Int) HPW.out).mono ?_
            rintro e w4 ⟨F4, vt, rfl, s4, t4, o4, i4, d4⟩
            refine ⟨_, rfl, ?_⟩
            have H4 : Hid (SW w w4 F4 g nx (bare (l.take k ++ l.drop (k + 1))) ∧ IOwn w4 u5 (nums l) ∧ ∀ k, u5.ownBlock = some k → ¬ F4 k ∧ w.heap.size ≤ k) := ⟨by rw [HT1.out] at s4; exact s4, HN'.out.turn t4⟩
            rw [HT1.out]
            clear s4 t4 o4 i4 d4
            simp only [Act.put, List.setIfInBounds_toArray, List.set_cons_succ, List.set_cons_zero]
            refine wl rfl (.tuple #[vt, (.int .i64 0)]) _ (run_mvZ (.tmp 84) rfl (.tuple #[vt, (.int .i64 0)]) rfl) ?_
            simp only [Act.put, List.setIfInBounds_toArray, List.set_cons_succ, List.set_cons_zero]
            refine wl rfl vt _ (run_extZ (.tmp 78) 0 rfl #[vt, (.int .i64 0)] rfl vt rfl) ?_
            simp only [Act.put, List.setIfInBounds_toArray, List.set_cons_succ, List.set_cons_zero]
            refine wl rfl (.int .i64 0) _ (run_extZ (.tmp 78) 1 rfl #[vt, (.int .i64 0)] rfl (.int .i64 0) rfl) ?_
            simp only [Act.put, List.setIfInBounds_toArray, List.set_cons_succ, List.set_cons_zero]
            refine wl rfl vt _ (run_asZ (.tmp 85) rfl vt rfl) ?_
            simp only [Act.put, List.setIfInBounds_toArray, List.set_cons_succ, List.set_cons_zero]
            refine wl rfl (.int .i64 0) _ (run_asZ (.tmp 86) rfl (.int .i64 0) rfl) ?_
            simp only [Act.put, List.setIfInBounds_toArray, List.set_cons_succ, List.set_cons_zero]
            refine wpList_nil ?_
            go_upto_region 25 with fail
            refine wp_region_lit ?_
            refine wl rfl (ptr g) _ (run_mvZ (.tmp 4) rfl (ptr g) rfl) ?_
            simp only [Act.put, List.setIfInBounds_toArray, List.set_cons_succ, List.set_cons_zero]
            refine wl rfl u5 _ (run_mvZ (.tmp 5) rfl u5 rfl) ?_
            simp only [Act.put, List.setIfInBounds_toArray, List.set_cons_succ, List.set_cons_zero]
            refine wl rfl (.int .i64 (k : Nat)) _ (run_mvZ (.tmp 10) rfl (.int .i64 (k : Nat)) rfl) ?_
            simp only [Act.put, List.setIfInBounds_toArray, List.set_cons_succ, List.set_cons_zero]
            refine wl rfl (.pointer (some ⟨ob, oj, none⟩)) _ (run_idx (.tmp 88) (.tmp 89) rfl u5 _ _ rfl rfl (HOI.out.1)) ?_
            simp only [Act.put, List.setIfInBounds_toArray, List.set_cons_succ, List.set_cons_zero]
            refine wl rfl (.int .i64 (p : Nat)) _ (run_load1 o3 (.tmp 90) rfl ob oj rfl (.int .i64 (p : Nat)) (HOI.out.2 _ H4.out.2.1)) ?_
            simp only [Act.put, List.setIfInBounds_toArray, List.set_cons_succ, List.set_cons_zero]
            refine wpList_callW eN12 [.tmp 87, .tmp 91, .const (.slice none 0 0)] _ rfl rfl [(ptr g), (.int .i64 (p : Nat)), .slice none 0 0] rfl ?_
            refine (SW.add H4.out.1 (p : Int) HPW.out (.slice none 0 0) [] ⟨none, 0, rfl, ⟨Nat.le_refl _, Nat.zero_le _⟩, Or.inl rfl⟩).mono ?_
            rintro e w5 ⟨F5, rfl, s5, t5⟩
            refine ⟨_, rfl, ?_⟩
            have H5 : Hid (SW w w5 F5 g nx (bare (l.take k ++ l.drop (k + 1))) ∧ IOwn w5 u5 (nums l) ∧ ∀ k, u5.ownBlock = some k → ¬ F5 k ∧ w.heap.size ≤ k) := ⟨by rw [HT4.out] at s5; exact s5, turnI H4.out.2 t5⟩
            rw [HT4.out]
            clear s5 t5 H4
            simp only [Act.put, List.setIfInBounds_toArray, List.set_cons_succ, List.set_cons_zero]
            refine wl rfl (.int .i64 130) _ (run_asZ (.tmp 92) rfl (.int .i64 130) rfl) ?_
            simp only [Act.put, List.setIfInBounds_toArray, List.set_cons_succ, List.set_cons_zero]
            refine wpList_nil ?_
            go_upto_region 26 with fail
            refine wp_region_lit ?_
            refine wl rfl (ptr g) _ (run_mvZ (.tmp 4) rfl (ptr g) rfl) ?_
            simp only [Act.put, List.setIfInBounds_toArray, List.set_cons_succ, List.set_cons_zero]
            refine wl rfl u5 _ (run_mvZ (.tmp 5) rfl u5 rfl) ?_
            simp only [Act.put, List.setIfInBounds_toArray, List.set_cons_succ, List.set_cons_zero]
            refine wl rfl (.int .i64 (k : Nat)) _ (run_mvZ (.tmp 10) rfl (.int .i64 (k : Nat)) rfl) ?_
            simp only [Act.put, List.setIfInBounds_toArray, List.set_cons_succ, List.set_cons_zero]
            refine wl rfl (.pointer (some ⟨ob, oj, none⟩)) _ (run_idx (.tmp 94) (.tmp 95) rfl u5 _ _ rfl rfl (HOI.out.1)) ?_
            simp only [Act.put, List.setIfInBounds_toArray, List.set_cons_succ, List.set_cons_zero]
            refine wl rfl (.int .i64 (p : Nat)) _ (run_load1 o3 (.tmp 96) rfl ob oj rfl (.int .i64 (p : Nat)) (HOI.out.2 _ H5.out.2.1)) ?_
            simp only [Act.put, List.setIfInBounds_toArray, List.set_cons_succ, List.set_cons_zero]
            refine wpList_callW eN16 [.tmp 93, .tmp 97] _ rfl rfl [(ptr g), (.int .i64 (p : Nat))] rfl ?_
            refine (SW.abort H5.out.1 (p : Int) HPW.out).mono ?_
            rintro e w6 ⟨F6, rfl, s6, t6⟩
            refine ⟨_, rfl, ?_⟩
            have H6 : Hid (SW w w6 F6 g nx (bare (l.take k ++ l.drop (k + 1))) ∧ IOwn w6 u5 (nums l) ∧ ∀ k, u5.ownBlock = some k → ¬ F6 k ∧ w.heap.size ≤ k) := ⟨by rw [HT3.out] at s6; exact s6, turnI H5.out.2 t6⟩
            rw [HT3.out]
            clear s6 t6 H5 HOI HT1 HT2 HT3 HT4
            simp only [Act.put, List.setIfInBounds_toArray, List.set_cons_succ, List.set_cons_zero]
            refine wl rfl (.int .i64 130) _ (run_asZ (.tmp 98) rfl (.int .i64 130) rfl) ?_
            simp only [Act.put, List.setIfInBounds_toArray, List.set_cons_succ, List.set_cons_zero]
            refine wpList_nil ?_
            go_upto_region 27 with fail
            refine wp_region_lit ?_
            refine wl rfl (.int .i64 0) _ (run_mvZ (.tmp 12) rfl (.int .i64 0) rfl) ?_
            simp only [Act.put, List.setIfInBounds_toArray, List.set_cons_succ, List.set_cons_zero]
            refine wl rfl (.bool false) _ (run_neZ (.tmp 99) (.const (.int .i64 0)) rfl (0) (0) rfl rfl false rfl) ?_
            simp only [Act.put, List.setIfInBounds_toArray, List.set_cons_succ, List.set_cons_zero]
            refine wl rfl (.bool false) _ (run_mvZ (.tmp 100) rfl (.bool false) rfl) ?_
            simp only [Act.put, List.setIfInBounds_toArray, List.set_cons_succ, List.set_cons_zero]
            refine wl (by kernel_rfl) (.int .i64 130) _ (run_mvZ (.tmp 13) rfl (.int .i64 130) rfl) ?_
            simp only [Act.put, List.setIfInBounds_toArray, List.set_cons_succ, List.set_cons_zero]
            refine wl (by kernel_rfl) (.bool false) _ (run_neZ (.tmp 102) (.const (.int .i64 130)) rfl (130) (130) rfl rfl false rfl) ?_
            simp only [Act.put, List.setIfInBounds_toArray, List.set_cons_succ, List.set_cons_zero]
            refine wl rfl (.bool false) _ (run_pickZ (.tmp 101) (.const (.bool true)) (.tmp 103) rfl false (.bool false) rfl rfl) ?_
            simp only [Act.put, List.setIfInBounds_toArray, List.set_cons_succ, List.set_cons_zero]
            refine wl rfl (.bool false) _ (run_mvZ (.tmp 104) rfl (.bool false) rfl) ?_
            simp only [Act.put, List.setIfInBounds_toArray, List.set_cons_succ, List.set_cons_zero]
            refine wl (by kernel_rfl) (.int .i64 130) _ (run_mvZ (.tmp 14) rfl (.int .i64 130) rfl) ?_
            simp only [Act.put, List.setIfInBounds_toArray, List.set_cons_succ, List.set_cons_zero]
            refine wl (by kernel_rfl) (.bool false) _ (run_neZ (.tmp 106) (.const (.int .i64 130)) rfl (130) (130) rfl rfl false rfl) ?_
            simp only [Act.put, List.setIfInBounds_toArray, List.set_cons_succ, List.set_cons_zero]
            refine wl rfl (.bool false) _ (run_pickZ (.tmp 105) (.const (.bool true)) (.tmp 107) rfl false (.bool false) rfl rfl) ?_
            simp only [Act.put, List.setIfInBounds_toArray, List.set_cons_succ, List.set_cons_zero]
            refine wpList_nil ?_
            obtain ⟨va, hva1, hva2⟩ := ints_upto (H6.out.2.1.ints (by have := HLN.out; simp [nums]; omega)) k (by simp [nums]; omega)
            obtain ⟨vb, hvb1, hvb2⟩ := ints_from (H6.out.2.1.ints (by have := HLN.out; simp [nums]; omega)) (k + 1) (by simp [nums]; omega)
            have HSL : Hid ((∀ w', (Instr.slice 43 u5 none (some (.int .i64 (k : Nat))) none).run Try.prog w' = .ok va w') ∧ (∀ w', (Instr.slice 43 u5 (some (.int .i64 ((k + 1 : Nat) : Int))) none none).run Try.prog w' = .ok vb w') ∧ (∃ p n c, u5 = .slice p n c)) := ⟨hva1, hvb1, own_isSlice H6.out.2.1⟩
            have HSI : Hid (IntsIn w6 va (nums (l.take k)) ∧ IntsIn w6 vb (nums (l.drop (k + 1)))) := ⟨by unfold nums; rw [List.map_take]; exact hva2, by unfold nums; rw [List.map_drop]; exact hvb2⟩
            clear hva1 hva2 hvb1 hvb2
            go_upto_region 29 with fail
            refine wp_region_held (S := fun X => True) (by kernel_rfl) ?_
            show wpAnyH _ _ _ _ _ 11 (Array.replicate 11 false) _ _
            obtain ⟨X, hX⟩ : ∃ X : World, X = { w6 with drawn := w6.drawn + 1 } := ⟨_, rfl⟩
            rw [← hX]
            have HBX : Hid (Below w6.heap.size w6 X) := by show Below _ _ _; rw [hX]; exact ⟨rfl, rfl, rfl, Nat.le_refl _, fun _ _ => rfl⟩
            clear hX
            refine takeH (i := 1) (some 110) rfl rfl (by kernel_rfl) (by kernel_rfl) (by kernel_rfl) (fun _ _ _ h => h) (gRun rfl u5 fun _ h => run_mvZ (.tmp 5) rfl u5 rfl) trivial ?_
            simp only [Act.put, List.setIfInBounds_toArray, List.set_cons_succ, List.set_cons_zero]
            refine takeH (i := 2) (some 111) rfl rfl (by kernel_rfl) (by kernel_rfl) (by kernel_rfl) (fun _ _ _ h => h) (gRun rfl (.int .i64 (k : Nat)) fun _ h => run_mvZ (.tmp 10) rfl (.int .i64 (k : Nat)) rfl) trivial ?_
            simp only [Act.put, List.setIfInBounds_toArray, List.set_cons_succ, List.set_cons_zero]
            refine takeH (i := 3) (some 112) rfl rfl (by kernel_rfl) (by kernel_rfl) (by kernel_rfl) (fun _ _ _ h => h) (gRun rfl va fun _ h => run_subI43 (.tmp 110) none (some (.tmp 111)) rfl u5 va HSL.out.2.2 rfl none (some (.int .i64 (k : Nat))) rfl rfl HSL.out.1) trivial ?_
            simp only [Act.put, List.setIfInBounds_toArray, List.set_cons_succ, List.set_cons_zero]
            refine takeH (i := 5) (some 114) rfl rfl (by kernel_rfl) (by kernel_rfl) (by kernel_rfl) (fun _ _ _ h => h) (gRun rfl u5 fun _ h => run_mvZ (.tmp 5) rfl u5 rfl) trivial ?_
            simp only [Act.put, List.setIfInBounds_toArray, List.set_cons_succ, List.set_cons_zero]
            refine takeH (i := 6) (some 115) rfl rfl (by kernel_rfl) (by kernel_rfl) (by kernel_rfl) (fun _ _ _ h => h) (gRun rfl (.int .i64 (k : Nat)) fun _ h => run_mvZ (.tmp 10) rfl (.int .i64 (k : Nat)) rfl) trivial ?_
            simp only [Act.put, List.setIfInBounds_toArray, List.set_cons_succ, List.set_cons_zero]
            refine takeH (i := 7) (some 116) rfl rfl (by kernel_rfl) (by kernel_rfl) (by kernel_rfl) (fun _ _ _ h => h) (gRun rfl (.int .i64 ((k + 1 : Nat) : Int)) fun _ h => run_addI (.tmp 115) (.const (.int .i64 1)) rfl (k : Nat) 1 ((k + 1 : Nat) : Int) (by omega) (by have := HLN.out; omega) (by omega) rfl rfl) trivial ?_
            simp only [Act.put, List.setIfInBounds_toArray, List.set_cons_succ, List.set_cons_zero]
            refine takeH (i := 8) (some 117) rfl rfl (by kernel_rfl) (by kernel_rfl) (by kernel_rfl) (fun _ _ _ h => h) (gRun rfl vb fun _ h => run_subI43 (.tmp 114) (some (.tmp 116)) none rfl u5 vb HSL.out.2.2 rfl (some (.int .i64 ((k + 1 : Nat) : Int))) none rfl rfl HSL.out.2.1) trivial ?_
            simp only [Act.put, List.setIfInBounds_toArray, List.set_cons_succ, List.set_cons_zero]
            refine oneH (i := 0) (by kernel_rfl) ?_
            refine opValueG (some 109) rfl rfl rfl (.slice (some ⟨X.heap.size, 0, none⟩) 0 0) _ (run_ilit0 rfl) ?_
            have HE0 : Hid (IOwn (X.alloc (.cells #[] 3)) (.slice (some ⟨X.heap.size, 0, none⟩) 0 0) [] ∧ Below w6.heap.size w6 (X.alloc (.cells #[] 3))) := ⟨ints_lit0 X, HBX.out.trans ((below_alloc X _).mono HBX.out.size)⟩
            have HEB : Hid (∀ k, (Value.slice (some ⟨X.heap.size, 0, none⟩) 0 0).ownBlock = some k → w6.heap.size ≤ k) := fun k e => by injection e with e; rw [← e]; exact HBX.out.size
            obtain ⟨w7, hW_⟩ : ∃ W, W = X.alloc (.cells #[] 3) := ⟨_, rfl⟩
            obtain ⟨v7, hq_⟩ : ∃ q, q = Value.slice (some ⟨X.heap.size, 0, none⟩) 0 0 := ⟨_, rfl⟩
            rw [← hW_, ← hq_] at HE0
            rw [← hq_] at HEB
            rw [← hW_, ← hq_]
            clear hW_ hq_
            refine ⟨trivial, ?_⟩
            simp only [Act.put, List.setIfInBounds_toArray, List.set_cons_succ, List.set_cons_zero]
            refine oneH (i := 4) (by kernel_rfl) ?_
            obtain ⟨v8, w8, hr8, ho8, hg8, hat8⟩ := run_iapp (Oper.type _) v7 va [] (nums (l.take k)) HE0.out.1 (HSI.out.1.later HE0.out.2) (by have := HLN.out; simp [nums]; omega)
            refine opValueG (some 113) rfl rfl rfl v8 w8 (run_append (.tmp 109) (.tmp 112) rfl v7 va v8 rfl rfl hr8) ?_
            have HE8 : Hid (IOwn w8 v8 (nums (l.take k)) ∧ Below w6.heap.size w6 w8 ∧ ∀ k, v8.ownBlock = some k → w6.heap.size ≤ k) := ⟨ho8, HE0.out.2.grown hg8 HE0.out.2.size HEB.out, fun k e => hat8.elim (fun h => HEB.out k (by rw [← h]; exact e)) fun h => by rw [h] at e; injection e with e; rw [← e]; exact HE0.out.2.size⟩
            clear hr8 ho8 hg8 hat8 HE0 HEB
            refine ⟨trivial, ?_⟩
            simp only [Act.put, List.setIfInBounds_toArray, List.set_cons_succ, List.set_cons_zero]
            refine oneH (i := 9) (by kernel_rfl) ?_
            obtain ⟨v9, w9, hr9, ho9, hg9, hat9⟩ := run_iapp (Oper.type _) v8 vb (nums (l.take k)) (nums (l.drop (k + 1))) HE8.out.1 (HSI.out.2.later HE8.out.2.1) (by have := HLN.out; simp [nums]; omega)
            refine opValueG (some 118) rfl rfl rfl v9 w9 (run_append (.tmp 113) (.tmp 117) rfl v8 vb v9 rfl rfl hr9) ?_
            have HE9 : Hid (IOwn w9 v9 (nums (l.take k ++ l.drop (k + 1))) ∧ Below w6.heap.size w6 w9 ∧ ∀ k, v9.ownBlock = some k → w6.heap.size ≤ k) := ⟨by unfold nums at *; rw [List.map_append]; exact ho9, HE8.out.2.1.grown hg9 HE8.out.2.1.size HE8.out.2.2, fun k e => hat9.elim (fun h => HE8.out.2.2 k (by rw [← h]; exact e)) fun h => by rw [h] at e; injection e with e; rw [← e]; exact HE8.out.2.1.size⟩
            clear hr9 ho9 hg9 hat9 HE8 HSI
            refine ⟨trivial, ?_⟩
            simp only [Act.put, List.setIfInBounds_toArray, List.set_cons_succ, List.set_cons_zero]
            refine takeH (i := 10) (some 5) rfl rfl (by kernel_rfl) (by kernel_rfl) (by kernel_rfl) (fun _ _ _ h => h) (gRun rfl v9 fun _ h => run_asZ (.tmp 118) rfl v9 rfl) trivial ?_
            simp only [Act.put, List.setIfInBounds_toArray, List.set_cons_succ, List.set_cons_zero]
            refine wpAnyH_done (by kernel_rfl) ?_ _
            have HNN : Hid (NI w w9 g F6 v9 nx (l.take k ++ l.drop (k + 1))) := ⟨H6.out.1.later HE9.out.2.1, HE9.out.1, fun q e => ⟨fun hf => by have h1 := H6.out.1.low q hf; have h2 := HE9.out.2.2 q e; omega, Nat.le_trans H6.out.1.bel.size (HE9.out.2.2 q e)⟩, cut_ord HN'.out.ord k, fun n hn => HN'.out.lt n (cut_mem k hn)⟩
            have HLL : Hid ((l.take k ++ l.drop (k + 1)).length ≤ 8) := HNN.out.len
            have HLE2 : Hid (∀ {a : Act} {o : Oper} {W : World} (x : Operand), o.op = .call { callee := .builtin .len, args := #[x], argTypes := #[43] } → a.eval x = v9 → (execOp a.eval o).run Try.prog W = .ok (.value (.int .i64 ((l.take k ++ l.drop (k + 1)).length : Nat))) W) := fun {_ _ W} x ho hx => by
              have := run_lenN (w := W) HNN.out.ints x ho hx
              simpa [nums] using this
            have HCT : Hid (Calls Try.prog 18 #[ptr g] w9 fun e W' => e = .returned (.int .i64 ((l.take k ++ l.drop (k + 1)).length : Nat)) ∧ w9 = W') := by
              have := SW.count HNN.out.sw
              rw [show (bare (l.take k ++ l.drop (k + 1))).length = (l.take k ++ l.drop (k + 1)).length by simp [bare]] at this
              exact this
            obtain ⟨n9, hn9⟩ : ∃ n, n = (l.take k ++ l.drop (k + 1)).length := ⟨_, rfl⟩
            rw [← hn9] at HLE2 HCT
            clear hn9 HE9 H6 HSL HPL HPW
            go_upto_region 30 with fail
            refine wp_region_lit ?_
            refine wl rfl (ptr g) _ (run_mvZ (.tmp 4) rfl (ptr g) rfl) ?_
            simp only [Act.put, List.setIfInBounds_toArray, List.set_cons_succ, List.set_cons_zero]
            refine wpList_callW eN18 [.tmp 119] _ rfl rfl [(ptr g)] rfl ?_
            refine (show Calls _ _ _ _ _ from HCT.out).mono ?_
            rintro e wx ⟨rfl, ex⟩
            refine ⟨_, rfl, ?_⟩
            subst ex
            simp only [Act.put, List.setIfInBounds_toArray, List.set_cons_succ, List.set_cons_zero]
            refine wl rfl v9 _ (run_mvZ (.tmp 5) rfl v9 rfl) ?_
            simp only [Act.put, List.setIfInBounds_toArray, List.set_cons_succ, List.set_cons_zero]
            refine wl rfl (.int .i64 (n9 : Nat)) _ (HLE2.out (.tmp 121) rfl rfl) ?_
            simp only [Act.put, List.setIfInBounds_toArray, List.set_cons_succ, List.set_cons_zero]
            refine wl rfl (.bool false) _ (run_neZ (.tmp 120) (.tmp 122) rfl (n9 : Nat) (n9 : Nat) rfl rfl false (by simp)) ?_
            simp only [Act.put, List.setIfInBounds_toArray, List.set_cons_succ, List.set_cons_zero]
            refine wpList_nil ?_
            go_wp2_with fail
            refine ⟨⟨i + 1, by go_num, by omega, by omega, nx, rfl, by omega, F6, _, HNN.out⟩, ?_⟩
            simp [intOf]; omega
          · go_upto_region 21 with fail
            refine wp_region_lit ?_
            refine wl rfl (.int .i64 (z.tdiv 3)) _ (run_mvZ (.tmp 10) rfl (.int .i64 (z.tdiv 3)) rfl) ?_
            simp only [Act.put, List.setIfInBounds_toArray, List.set_cons_succ, List.set_cons_zero]
            refine wl rfl (.bool false) _ (run_lssZ (.tmp 70) (.const (.int .i64 0)) rfl (z.tdiv 3) 0 rfl rfl false (decide_eq_false hneg)) ?_
            simp only [Act.put, List.setIfInBounds_toArray, List.set_cons_succ, List.set_cons_zero]
            refine wpList_nil ?_
            have e10 : z.tdiv 3 = (m : Nat) := by omega
            rw [e10]
            clear e10
            clear hm hneg HQB HZB HZI
            obtain ⟨k, hk⟩ : ∃ k, k = m % l.length := ⟨_, rfl⟩
            have hkl : k < l.length := by rw [hk]; exact Nat.mod_lt _ (by omega)
            obtain ⟨p, hp⟩ : ∃ p : Nat, p = l.getD k 0 := ⟨_, rfl⟩
            obtain ⟨ob, oj, ho1, ho2⟩ := ix_num HN'.out.ints k (by simp [nums]; exact hkl)
            rw [nums_at l k hkl, ← hp] at ho2
            have HPL : Hid (p ∈ l ∧ p < nx) := by
              have h1 : p ∈ l := by rw [hp]; simp [hkl]
              exact ⟨h1, HN'.out.lt p h1⟩
            have HPW : Hid (Wf ((p : Nat) : Int)) := Wf.of (by have := HPL.out.2; omega)
            have HT1 : Hid (takeP (bare l) (p : Int) = (0, [], bare (l.take k ++ l.drop (k + 1)))) := by
              show _ = _
              unfold takeP
              rw [findS_bare HPL.out.1]
              have := bare_filter k hkl HN'.out.ord
              rw [← hp] at this
              dsimp only
              rw [this]
            have HT2 : Hid (findS (bare (l.take k ++ l.drop (k + 1))) (p : Int) = none) := by
              have h1 := bare_filter k hkl HN'.out.ord
              rw [← hp] at h1
              show _ = _
              rw [← h1]
              exact findS_gone _ _
            have HT3 : Hid (takeP (bare (l.take k ++ l.drop (k + 1))) (p : Int) = (130, [], bare (l.take k ++ l.drop (k + 1)))) := by
              show _ = _
              unfold takeP
              rw [HT2.out]
            have HT4 : Hid (addP (bare (l.take k ++ l.drop (k + 1))) (p : Int) [] = (130, bare (l.take k ++ l.drop (k + 1)))) := by
              show _ = _
              unfold addP
              rw [HT2.out]
            have HOI : Hid ((∀ w', (Instr.indexAt 43 u5 (.int .i64 (k : Nat))).run Try.prog w' = .ok (.pointer (some ⟨ob, oj, none⟩)) w') ∧ ∀ W, IOwn W u5 (nums l) → W.cell? ⟨ob, oj, none⟩ = some (.int .i64 (p : Nat))) := ⟨ho1, fun W hW => by
              obtain ⟨b2, j2, h1, h2⟩ := ix_num (hW.ints (by have := HLN.out; simp [nums]; omega)) k (by simp [nums]; exact hkl)
              have e := (ho1 W).symm.trans (h1 W)
              injection e with e
              injection e with e
              injection e with e
              injection e with e1 e2
              rw [e1, e2, h2, nums_at l k hkl, hp]⟩
            clear ho1 ho2 hp
            go_upto_region 23 with fail
            refine wp_region_lit ?_
            refine wl rfl (.int .i64 (m : Nat)) _ (run_mvZ (.tmp 10) rfl (.int .i64 (m : Nat)) rfl) ?_
            simp only [Act.put, List.setIfInBounds_toArray, List.set_cons_succ, List.set_cons_zero]
            refine wl rfl u5 _ (run_mvZ (.tmp 5) rfl u5 rfl) ?_
            simp only [Act.put, List.setIfInBounds_toArray, List.set_cons_succ, List.set_cons_zero]
            refine wl rfl (.int .i64 (l.length : Nat)) _ (HLE.out (.tmp 75) rfl rfl) ?_
            simp only [Act.put, List.setIfInBounds_toArray, List.set_cons_succ, List.set_cons_zero]
            refine wl rfl (.int .i64 (k : Nat)) _ ((by rw [hk]; exact run_remN (.tmp 74) (.tmp 76) rfl m l.length (by omega) rfl rfl)) ?_
            simp only [Act.put, List.setIfInBounds_toArray, List.set_cons_succ, List.set_cons_zero]
            refine wl rfl (.int .i64 (k : Nat)) _ (run_asZ (.tmp 77) rfl (.int .i64 (k : Nat)) rfl) ?_
            simp only [Act.put, List.setIfInBounds_toArray, List.set_cons_succ, List.set_cons_zero]
            refine wpList_nil ?_
            clear hk
            go_upto_region 24 with fail
            refine wp_region_lit ?_
            refine wl rfl (ptr g) _ (run_mvZ (.tmp 4) rfl (ptr g) rfl) ?_
            simp only [Act.put, List.setIfInBounds_toArray, List.set_cons_succ, List.set_cons_zero]
            refine wl rfl u5 _ (run_mvZ (.tmp 5) rfl u5 rfl) ?_
            simp only [Act.put, List.setIfInBounds_toArray, List.set_cons_succ, List.set_cons_zero]
            refine wl rfl (.int .i64 (k : Nat)) _ (run_mvZ (.tmp 10) rfl (.int .i64 (k : Nat)) rfl) ?_
            simp only [Act.put, List.setIfInBounds_toArray, List.set_cons_succ, List.set_cons_zero]
            refine wl rfl (.pointer (some ⟨ob, oj, none⟩)) _ (run_idx (.tmp 80) (.tmp 81) rfl u5 _ _ rfl rfl (HOI.out.1)) ?_
            simp only [Act.put, List.setIfInBounds_toArray, List.set_cons_succ, List.set_cons_zero]
            refine wl rfl (.int .i64 (p : Nat)) _ (run_load1 o3 (.tmp 82) rfl ob oj rfl (.int .i64 (p : Nat)) (HOI.out.2 _ HN'.out.own)) ?_
            simp only [Act.put, List.setIfInBounds_toArray, List.set_cons_succ, List.set_cons_zero]
            refine wpList_callW eN14 [.tmp 79, .tmp 83] _ rfl rfl [(ptr g), (.int .i64 (p : Nat))] rfl ?_
            refine (SW.take HN'.out.sw (p : Int) HPW.out).mono ?_
            rintro e w4 ⟨F4, vt, rfl, s4, t4, o4, i4, d4⟩
            refine ⟨_, rfl, ?_⟩
            have H4 : Hid (SW w w4 F4 g nx (bare (l.take k ++ l.drop (k + 1))) ∧ IOwn w4 u5 (nums l) ∧ ∀ k, u5.ownBlock = some k → ¬ F4 k ∧ w.heap.size ≤ k) := ⟨by rw [HT1.out] at s4; exact s4, HN'.out.turn t4⟩
            rw [HT1.out]
            clear s4 t4 o4 i4 d4
            simp only [Act.put, List.setIfInBounds_toArray, List.set_cons_succ, List.set_cons_zero]
            refine wl rfl (.tuple #[vt, (.int .i64 0)]) _ (run_mvZ (.tmp 84) rfl (.tuple #[vt, (.int .i64 0)]) rfl) ?_
            simp only [Act.put, List.setIfInBounds_toArray, List.set_cons_succ, List.set_cons_zero]
            refine wl rfl vt _ (run_extZ (.tmp 78) 0 rfl #[vt, (.int .i64 0)] rfl vt rfl) ?_
            simp only [Act.put, List.setIfInBounds_toArray, List.set_cons_succ, List.set_cons_zero]
            refine wl rfl (.int .i64 0) _ (run_extZ (.tmp 78) 1 rfl #[vt, (.int .i64 0)] rfl (.int .i64 0) rfl) ?_
            simp only [Act.put, List.setIfInBounds_toArray, List.set_cons_succ, List.set_cons_zero]
            refine wl rfl vt _ (run_asZ (.tmp 85) rfl vt rfl) ?_
            simp only [Act.put, List.setIfInBounds_toArray, List.set_cons_succ, List.set_cons_zero]
            refine wl rfl (.int .i64 0) _ (run_asZ (.tmp 86) rfl (.int .i64 0) rfl) ?_
            simp only [Act.put, List.setIfInBounds_toArray, List.set_cons_succ, List.set_cons_zero]
            refine wpList_nil ?_
            go_upto_region 25 with fail
            refine wp_region_lit ?_
            refine wl rfl (ptr g) _ (run_mvZ (.tmp 4) rfl (ptr g) rfl) ?_
            simp only [Act.put, List.setIfInBounds_toArray, List.set_cons_succ, List.set_cons_zero]
            refine wl rfl u5 _ (run_mvZ (.tmp 5) rfl u5 rfl) ?_
            simp only [Act.put, List.setIfInBounds_toArray, List.set_cons_succ, List.set_cons_zero]
            refine wl rfl (.int .i64 (k : Nat)) _ (run_mvZ (.tmp 10) rfl (.int .i64 (k : Nat)) rfl) ?_
            simp only [Act.put, List.setIfInBounds_toArray, List.set_cons_succ, List.set_cons_zero]
            refine wl rfl (.pointer (some ⟨ob, oj, none⟩)) _ (run_idx (.tmp 88) (.tmp 89) rfl u5 _ _ rfl rfl (HOI.out.1)) ?_
            simp only [Act.put, List.setIfInBounds_toArray, List.set_cons_succ, List.set_cons_zero]
            refine wl rfl (.int .i64 (p : Nat)) _ (run_load1 o3 (.tmp 90) rfl ob oj rfl (.int .i64 (p : Nat)) (HOI.out.2 _ H4.out.2.1)) ?_
            simp only [Act.put, List.setIfInBounds_toArray, List.set_cons_succ, List.set_cons_zero]
            refine wpList_callW eN12 [.tmp 87, .tmp 91, .const (.slice none 0 0)] _ rfl rfl [(ptr g), (.int .i64 (p : Nat)), .slice none 0 0] rfl ?_
            refine (SW.add H4.out.1 (p : Int) HPW.out (.slice none 0 0) [] ⟨none, 0, rfl, ⟨Nat.le_refl _, Nat.zero_le _⟩, Or.inl rfl⟩).mono ?_
            rintro e w5 ⟨F5, rfl, s5, t5⟩
            refine ⟨_, rfl, ?_⟩
            have H5 : Hid (SW w w5 F5 g nx (bare (l.take k ++ l.drop (k + 1))) ∧ IOwn w5 u5 (nums l) ∧ ∀ k, u5.ownBlock = some k → ¬ F5 k ∧ w.heap.size ≤ k) := ⟨by rw [HT4.out] at s5; exact s5, turnI H4.out.2 t5⟩
            rw [HT4.out]
            clear s5 t5 H4
            simp only [Act.put, List.setIfInBounds_toArray, List.set_cons_succ, List.set_cons_zero]
            refine wl rfl (.int .i64 130) _ (run_asZ (.tmp 92) rfl (.int .i64 130) rfl) ?_
            simp only [Act.put, List.setIfInBounds_toArray, List.set_cons_succ, List.set_cons_zero]
            refine wpList_nil ?_
            go_upto_region 26 with fail
            refine wp_region_lit ?_
            refine wl rfl (ptr g) _ (run_mvZ (.tmp 4) rfl (ptr g) rfl) ?_
            simp only [Act.put, List.setIfInBounds_toArray, List.set_cons_succ, List.set_cons_zero]
            refine wl rfl u5 _ (run_mvZ (.tmp 5) rfl u5 rfl) ?_
            simp only [Act.put, List.setIfInBounds_toArray, List.set_cons_succ, List.set_cons_zero]
            refine wl rfl (.int .i64 (k : Nat)) _ (run_mvZ (.tmp 10) rfl (.int .i64 (k : Nat)) rfl) ?_
            simp only [Act.put, List.setIfInBounds_toArray, List.set_cons_succ, List.set_cons_zero]
            refine wl rfl (.pointer (some ⟨ob, oj, none⟩)) _ (run_idx (.tmp 94) (.tmp 95) rfl u5 _ _ rfl rfl (HOI.out.1)) ?_
            simp only [Act.put, List.setIfInBounds_toArray, List.set_cons_succ, List.set_cons_zero]
            refine wl rfl (.int .i64 (p : Nat)) _ (run_load1 o3 (.tmp 96) rfl ob oj rfl (.int .i64 (p : Nat)) (HOI.out.2 _ H5.out.2.1)) ?_
            simp only [Act.put, List.setIfInBounds_toArray, List.set_cons_succ, List.set_cons_zero]
            refine wpList_callW eN16 [.tmp 93, .tmp 97] _ rfl rfl [(ptr g), (.int .i64 (p : Nat))] rfl ?_
            refine (SW.abort H5.out.1 (p : Int) HPW.out).mono ?_
            rintro e w6 ⟨F6, rfl, s6, t6⟩
            refine ⟨_, rfl, ?_⟩
            have H6 : Hid (SW w w6 F6 g nx (bare (l.take k ++ l.drop (k + 1))) ∧ IOwn w6 u5 (nums l) ∧ ∀ k, u5.ownBlock = some k → ¬ F6 k ∧ w.heap.size ≤ k) := ⟨by rw [HT3.out] at s6; exact s6, turnI H5.out.2 t6⟩
            rw [HT3.out]
            clear s6 t6 H5 HOI HT1 HT2 HT3 HT4
            simp only [Act.put, List.setIfInBounds_toArray, List.set_cons_succ, List.set_cons_zero]
            refine wl rfl (.int .i64 130) _ (run_asZ (.tmp 98) rfl (.int .i64 130) rfl) ?_
            simp only [Act.put, List.setIfInBounds_toArray, List.set_cons_succ, List.set_cons_zero]
            refine wpList_nil ?_
            go_upto_region 27 with fail
            refine wp_region_lit ?_
            refine wl rfl (.int .i64 0) _ (run_mvZ (.tmp 12) rfl (.int .i64 0) rfl) ?_
            simp only [Act.put, List.setIfInBounds_toArray, List.set_cons_succ, List.set_cons_zero]
            refine wl rfl (.bool false) _ (run_neZ (.tmp 99) (.const (.int .i64 0)) rfl (0) (0) rfl rfl false rfl) ?_
            simp only [Act.put, List.setIfInBounds_toArray, List.set_cons_succ, List.set_cons_zero]
            refine wl rfl (.bool false) _ (run_mvZ (.tmp 100) rfl (.bool false) rfl) ?_
            simp only [Act.put, List.setIfInBounds_toArray, List.set_cons_succ, List.set_cons_zero]
            refine wl (by kernel_rfl) (.int .i64 130) _ (run_mvZ (.tmp 13) rfl (.int .i64 130) rfl) ?_
            simp only [Act.put, List.setIfInBounds_toArray, List.set_cons_succ, List.set_cons_zero]
            refine wl (by kernel_rfl) (.bool false) _ (run_neZ (.tmp 102) (.const (.int .i64 130)) rfl (130) (130) rfl rfl false rfl) ?_
            simp only [Act.put, List.setIfInBounds_toArray, List.set_cons_succ, List.set_cons_zero]
            refine wl rfl (.bool false) _ (run_pickZ (.tmp 101) (.const (.bool true)) (.tmp 103) rfl false (.bool false) rfl rfl) ?_
            simp only [Act.put, List.setIfInBounds_toArray, List.set_cons_succ, List.set_cons_zero]
            refine wl rfl (.bool false) _ (run_mvZ (.tmp 104) rfl (.bool false) rfl) ?_
            simp only [Act.put, List.setIfInBounds_toArray, List.set_cons_succ, List.set_cons_zero]
            refine wl (by kernel_rfl) (.int .i64 130) _ (run_mvZ (.tmp 14) rfl (.int .i64 130) rfl) ?_
            simp only [Act.put, List.setIfInBounds_toArray, List.set_cons_succ, List.set_cons_zero]
            refine wl (by kernel_rfl) (.bool false) _ (run_neZ (.tmp 106) (.const (.int .i64 130)) rfl (130) (130) rfl rfl false rfl) ?_
            simp only [Act.put, List.setIfInBounds_toArray, List.set_cons_succ, List.set_cons_zero]
            refine wl rfl (.bool false) _ (run_pickZ (.tmp 105) (.const (.bool true)) (.tmp 107) rfl false (.bool false) rfl rfl) ?_
            simp only [Act.put, List.setIfInBounds_toArray, List.set_cons_succ, List.set_cons_zero]
            refine wpList_nil ?_
            obtain ⟨va, hva1, hva2⟩ := ints_upto (H6.out.2.1.ints (by have := HLN.out; simp [nums]; omega)) k (by simp [nums]; omega)
            obtain ⟨vb, hvb1, hvb2⟩ := ints_from (H6.out.2.1.ints (by have := HLN.out; simp [nums]; omega)) (k + 1) (by simp [nums]; omega)
            have HSL : Hid ((∀ w', (Instr.slice 43 u5 none (some (.int .i64 (k : Nat))) none).run Try.prog w' = .ok va w') ∧ (∀ w', (Instr.slice 43 u5 (some (.int .i64 ((k + 1 : Nat) : Int))) none none).run Try.prog w' = .ok vb w') ∧ (∃ p n c, u5 = .slice p n c)) := ⟨hva1, hvb1, own_isSlice H6.out.2.1⟩
            have HSI : Hid (IntsIn w6 va (nums (l.take k)) ∧ IntsIn w6 vb (nums (l.drop (k + 1)))) := ⟨by unfold nums; rw [List.map_take]; exact hva2, by unfold nums; rw [List.map_drop]; exact hvb2⟩
            clear hva1 hva2 hvb1 hvb2
            go_upto_region 29 with fail
            refine wp_region_held (S := fun X => True) (by kernel_rfl) ?_
            show wpAnyH _ _ _ _ _ 11 (Array.replicate 11 false) _ _
            obtain ⟨X, hX⟩ : ∃ X : World, X = { w6 with drawn := w6.drawn + 1 } := ⟨_, rfl⟩
            rw [← hX]
            have HBX : Hid (Below w6.heap.size w6 X) := by show Below _ _ _; rw [hX]; exact ⟨rfl, rfl, rfl, Nat.le_refl _, fun _ _ => rfl⟩
            clear hX
            refine takeH (i := 1) (some 110) rfl rfl (by kernel_rfl) (by kernel_rfl) (by kernel_rfl) (fun _ _ _ h => h) (gRun rfl u5 fun _ h => run_mvZ (.tmp 5) rfl u5 rfl) trivial ?_
            simp only [Act.put, List.setIfInBounds_toArray, List.set_cons_succ, List.set_cons_zero]
            refine takeH (i := 2) (some 111) rfl rfl (by kernel_rfl) (by kernel_rfl) (by kernel_rfl) (fun _ _ _ h => h) (gRun rfl (.int .i64 (k : Nat)) fun _ h => run_mvZ (.tmp 10) rfl (.int .i64 (k : Nat)) rfl) trivial ?_
            simp only [Act.put, List.setIfInBounds_toArray, List.set_cons_succ, List.set_cons_zero]
            refine takeH (i := 3) (some 112) rfl rfl (by kernel_rfl) (by kernel_rfl) (by kernel_rfl) (fun _ _ _ h => h) (gRun rfl va fun _ h => run_subI43 (.tmp 110) none (some (.tmp 111)) rfl u5 va HSL.out.2.2 rfl none (some (.int .i64 (k : Nat))) rfl rfl HSL.out.1) trivial ?_
            simp only [Act.put, List.setIfInBounds_toArray, List.set_cons_succ, List.set_cons_zero]
            refine takeH (i := 5) (some 114) rfl rfl (by kernel_rfl) (by kernel_rfl) (by kernel_rfl) (fun _ _ _ h => h) (gRun rfl u5 fun _ h => run_mvZ (.tmp 5) rfl u5 rfl) trivial ?_
            simp only [Act.put, List.setIfInBounds_toArray, List.set_cons_succ, List.set_cons_zero]
            refine takeH (i := 6) (some 115) rfl rfl (by kernel_rfl) (by kernel_rfl) (by kernel_rfl) (fun _ _ _ h => h) (gRun rfl (.int .i64 (k : Nat)) fun _ h => run_mvZ (.tmp 10) rfl (.int .i64 (k : Nat)) rfl) trivial ?_
            simp only [Act.put, List.setIfInBounds_toArray, List.set_cons_succ, List.set_cons_zero]
            refine takeH (i := 7) (some 116) rfl rfl (by kernel_rfl) (by kernel_rfl) (by kernel_rfl) (fun _ _ _ h => h) (gRun rfl (.int .i64 ((k + 1 : Nat) : Int)) fun _ h => run_addI (.tmp 115) (.const (.int .i64 1)) rfl (k : Nat) 1 ((k + 1 : Nat) : Int) (by omega) (by have := HLN.out; omega) (by omega) rfl rfl) trivial ?_
            simp only [Act.put, List.setIfInBounds_toArray, List.set_cons_succ, List.set_cons_zero]
            refine takeH (i := 8) (some 117) rfl rfl (by kernel_rfl) (by kernel_rfl) (by kernel_rfl) (fun _ _ _ h => h) (gRun rfl vb fun _ h => run_subI43 (.tmp 114) (some (.tmp 116)) none rfl u5 vb HSL.out.2.2 rfl (some (.int .i64 ((k + 1 : Nat) : Int))) none rfl rfl HSL.out.2.1) trivial ?_
            simp only [Act.put, List.setIfInBounds_toArray, List.set_cons_succ, List.set_cons_zero]
            refine oneH (i := 0) (by kernel_rfl) ?_
            refine opValueG (some 109) rfl rfl rfl (.slice (some ⟨X.heap.size, 0, none⟩) 0 0) _ (run_ilit0 rfl) ?_
            have HE0 : Hid (IOwn (X.alloc (.cells #[] 3)) (.slice (some ⟨X.heap.size, 0, none⟩) 0 0) [] ∧ Below w6.heap.size w6 (X.alloc (.cells #[] 3))) := ⟨ints_lit0 X, HBX.out.trans ((below_alloc X _).mono HBX.out.size)⟩
            have HEB : Hid (∀ k, (Value.slice (some ⟨X.heap.size, 0, none⟩) 0 0).ownBlock = some k → w6.heap.size ≤ k) := fun k e => by injection e with e; rw [← e]; exact HBX.out.size
            obtain ⟨w7, hW_⟩ : ∃ W, W = X.alloc (.cells #[] 3) := ⟨_, rfl⟩
            obtain ⟨v7, hq_⟩ : ∃ q, q = Value.slice (some ⟨X.heap.size, 0, none⟩) 0 0 := ⟨_, rfl⟩
            rw [← hW_, ← hq_] at HE0
            rw [← hq_] at HEB
            rw [← hW_, ← hq_]
            clear hW_ hq_
            refine ⟨trivial, ?_⟩
            simp only [Act.put, List.setIfInBounds_toArray, List.set_cons_succ, List.set_cons_zero]
            refine oneH (i := 4) (by kernel_rfl) ?_
            obtain ⟨v8, w8, hr8, ho8, hg8, hat8⟩ := run_iapp (Oper.type _) v7 va [] (nums (l.take k)) HE0.out.1 (HSI.out.1.later HE0.out.2) (by have := HLN.out; simp [nums]; omega)
            refine opValueG (some 113) rfl rfl rfl v8 w8 (run_append (.tmp 109) (.tmp 112) rfl v7 va v8 rfl rfl hr8) ?_
            have HE8 : Hid (IOwn w8 v8 (nums (l.take k)) ∧ Below w6.heap.size w6 w8 ∧ ∀ k, v8.ownBlock = some k → w6.heap.size ≤ k) := ⟨ho8, HE0.out.2.grown hg8 HE0.out.2.size HEB.out, fun k e => hat8.elim (fun h => HEB.out k (by rw [← h]; exact e)) fun h => by rw [h] at e; injection e with e; rw [← e]; exact HE0.out.2.size⟩
            clear hr8 ho8 hg8 hat8 HE0 HEB
            refine ⟨trivial, ?_⟩
            simp only [Act.put, List.setIfInBounds_toArray, List.set_cons_succ, List.set_cons_zero]
            refine oneH (i := 9) (by kernel_rfl) ?_
            obtain ⟨v9, w9, hr9, ho9, hg9, hat9⟩ := run_iapp (Oper.type _) v8 vb (nums (l.take k)) (nums (l.drop (k + 1))) HE8.out.1 (HSI.out.2.later HE8.out.2.1) (by have := HLN.out; simp [nums]; omega)
            refine opValueG (some 118) rfl rfl rfl v9 w9 (run_append (.tmp 113) (.tmp 117) rfl v8 vb v9 rfl rfl hr9) ?_
            have HE9 : Hid (IOwn w9 v9 (nums (l.take k ++ l.drop (k + 1))) ∧ Below w6.heap.size w6 w9 ∧ ∀ k, v9.ownBlock = some k → w6.heap.size ≤ k) := ⟨by unfold nums at *; rw [List.map_append]; exact ho9, HE8.out.2.1.grown hg9 HE8.out.2.1.size HE8.out.2.2, fun k e => hat9.elim (fun h => HE8.out.2.2 k (by rw [← h]; exact e)) fun h => by rw [h] at e; injection e with e; rw [← e]; exact HE8.out.2.1.size⟩
            clear hr9 ho9 hg9 hat9 HE8 HSI
            refine ⟨trivial, ?_⟩
            simp only [Act.put, List.setIfInBounds_toArray, List.set_cons_succ, List.set_cons_zero]
            refine takeH (i := 10) (some 5) rfl rfl (by kernel_rfl) (by kernel_rfl) (by kernel_rfl) (fun _ _ _ h => h) (gRun rfl v9 fun _ h => run_asZ (.tmp 118) rfl v9 rfl) trivial ?_
            simp only [Act.put, List.setIfInBounds_toArray, List.set_cons_succ, List.set_cons_zero]
            refine wpAnyH_done (by kernel_rfl) ?_ _
            have HNN : Hid (NI w w9 g F6 v9 nx (l.take k ++ l.drop (k + 1))) := ⟨H6.out.1.later HE9.out.2.1, HE9.out.1, fun q e => ⟨fun hf => by have h1 := H6.out.1.low q hf; have h2 := HE9.out.2.2 q e; omega, Nat.le_trans H6.out.1.bel.size (HE9.out.2.2 q e)⟩, cut_ord HN'.out.ord k, fun n hn => HN'.out.lt n (cut_mem k hn)⟩
            have HLL : Hid ((l.take k ++ l.drop (k + 1)).length ≤ 8) := HNN.out.len
            have HLE2 : Hid (∀ {a : Act} {o : Oper} {W : World} (x : Operand), o.op = .call { callee := .builtin .len, args := #[x], argTypes := #[43] } → a.eval x = v9 → (execOp a.eval o).run Try.prog W = .ok (.value (.int .i64 ((l.take k ++ l.drop (k + 1)).length : Nat))) W) := fun {_ _ W} x ho hx => by
              have := run_lenN (w := W) HNN.out.ints x ho hx
              simpa [nums] using this
            have HCT : Hid (Calls Try.prog 18 #[ptr g] w9 fun e W' => e = .returned (.int .i64 ((l.take k ++ l.drop (k + 1)).length : Nat)) ∧ w9 = W') := by
              have := SW.count HNN.out.sw
              rw [show (bare (l.take k ++ l.drop (k + 1))).length = (l.take k ++ l.drop (k + 1)).length by simp [bare]] at this
              exact this
            obtain ⟨n9, hn9⟩ : ∃ n, n = (l.take k ++ l.drop (k + 1)).length := ⟨_, rfl⟩
            rw [← hn9] at HLE2 HCT
            clear hn9 HE9 H6 HSL HPL HPW
            go_upto_region 30 with fail
            refine wp_region_lit ?_
            refine wl rfl (ptr g) _ (run_mvZ (.tmp 4) rfl (ptr g) rfl) ?_
            simp only [Act.put, List.setIfInBounds_toArray, List.set_cons_succ, List.set_cons_zero]
            refine wpList_callW eN18 [.tmp 119] _ rfl rfl [(ptr g)] rfl ?_
            refine (show Calls _ _ _ _ _ from HCT.out).mono ?_
            rintro e wx ⟨rfl, ex⟩
            refine ⟨_, rfl, ?_⟩
            subst ex
            simp only [Act.put, List.setIfInBounds_toArray, List.set_cons_succ, List.set_cons_zero]
            refine wl rfl v9 _ (run_mvZ (.tmp 5) rfl v9 rfl) ?_
            simp only [Act.put, List.setIfInBounds_toArray, List.set_cons_succ, List.set_cons_zero]
            refine wl rfl (.int .i64 (n9 : Nat)) _ (HLE2.out (.tmp 121) rfl rfl) ?_
            simp only [Act.put, List.setIfInBounds_toArray, List.set_cons_succ, List.set_cons_zero]
            refine wl rfl (.bool false) _ (run_neZ (.tmp 120) (.tmp 122) rfl (n9 : Nat) (n9 : Nat) rfl rfl false (by simp)) ?_
            simp only [Act.put, List.setIfInBounds_toArray, List.set_cons_succ, List.set_cons_zero]
            refine wpList_nil ?_
            go_wp2_with fail
            refine ⟨⟨i + 1, by go_num, by omega, by omega, nx, rfl, by omega, F6, _, HNN.out⟩, ?_⟩
            simp [intOf]; omega
      · go_upto_region 10 with fail
        refine wp_region_lit ?_
        refine wl rfl vl _ (run_mvZ (.tmp 0) rfl vl rfl) ?_
        simp only [Act.put, List.setIfInBounds_toArray, List.set_cons_succ, List.set_cons_zero]
        refine wl rfl (.int .i64 (i : Nat)) _ (run_mvZ (.tmp 7) rfl (.int .i64 (i : Nat)) rfl) ?_
        simp only [Act.put, List.setIfInBounds_toArray, List.set_cons_succ, List.set_cons_zero]
        refine wl rfl (.pointer (some ⟨zb, zj, none⟩)) _ (run_idx (.tmp 34) (.tmp 35) rfl vl _ _ rfl rfl (HZI.out.1)) ?_
        simp only [Act.put, List.setIfInBounds_toArray, List.set_cons_succ, List.set_cons_zero]
        refine wl rfl (.int .i64 z) _ (run_load1 o3 (.tmp 36) rfl zb zj rfl (.int .i64 z) HZI.out.2) ?_
        simp only [Act.put, List.setIfInBounds_toArray, List.set_cons_succ, List.set_cons_zero]
        refine wl rfl (.int .i64 (z.tmod 3)) _ (run_rem3 (.tmp 37) rfl z rfl) ?_
        simp only [Act.put, List.setIfInBounds_toArray, List.set_cons_succ, List.set_cons_zero]
        refine wl rfl (.bool true) _ (run_neZ (.tmp 38) (.const (.int .i64 0)) rfl (z.tmod 3) 0 rfl rfl true (by rw [decide_eq_false hm]; rfl)) ?_
        simp only [Act.put, List.setIfInBounds_toArray, List.set_cons_succ, List.set_cons_zero]
        refine wpList_nil ?_
        clear hm
        by_cases h8 : l.length < 8
        · have HB : Hid (beginP nx (bare l) = ((nx : Int), 0, (nx + 1), bare (l ++ [nx]))) := by
            show _ = _
            unfold beginP
            rw [if_neg (by simp [bare]; omega)]
            simp [bare]
          go_upto_region 11 with fail
          refine wp_region_lit ?_
          refine wl rfl (ptr g) _ (run_mvZ (.tmp 4) rfl (ptr g) rfl) ?_
          simp only [Act.put, List.setIfInBounds_toArray, List.set_cons_succ, List.set_cons_zero]
          refine wpList_callW eN10 [.tmp 41] _ rfl rfl [(ptr g)] rfl ?_
          refine (SW.begin HN'.out.sw (by omega)).mono ?_
          rintro e w4 ⟨F4, rfl, s4, t4⟩
          refine ⟨_, rfl, ?_⟩
          have H4 : Hid (SW w w4 F4 g (nx + 1) (bare (l ++ [nx])) ∧ IOwn w4 u5 (nums l) ∧ ∀ k, u5.ownBlock = some k → ¬ F4 k ∧ w.heap.size ≤ k) := ⟨by rw [HB.out] at s4; exact s4, HN'.out.turn t4⟩
          rw [HB.out]
          clear s4 t4
          simp only [Act.put, List.setIfInBounds_toArray, List.set_cons_succ, List.set_cons_zero]
          refine wl rfl (.tuple #[(.int .i64 (nx : Nat)), (.int .i64 0)]) _ (run_mvZ (.tmp 42) rfl (.tuple #[(.int .i64 (nx : Nat)), (.int .i64 0)]) rfl) ?_
          simp only [Act.put, List.setIfInBounds_toArray, List.set_cons_succ, List.set_cons_zero]
          refine wl rfl (.int .i64 (nx : Nat)) _ (run_extZ (.tmp 40) 0 rfl #[(.int .i64 (nx : Nat)), (.int .i64 0)] rfl (.int .i64 (nx : Nat)) rfl) ?_
          simp only [Act.put, List.setIfInBounds_toArray, List.set_cons_succ, List.set_cons_zero]
          refine wl rfl (.int .i64 0) _ (run_extZ (.tmp 40) 1 rfl #[(.int .i64 (nx : Nat)), (.int .i64 0)] rfl (.int .i64 0) rfl) ?_
          simp only [Act.put, List.setIfInBounds_toArray, List.set_cons_succ, List.set_cons_zero]
          refine wl rfl (.int .i64 (nx : Nat)) _ (run_asZ (.tmp 43) rfl (.int .i64 (nx : Nat)) rfl) ?_
          simp only [Act.put, List.setIfInBounds_toArray, List.set_cons_succ, List.set_cons_zero]
          refine wl rfl (.int .i64 0) _ (run_asZ (.tmp 44) rfl (.int .i64 0) rfl) ?_
          simp only [Act.put, List.setIfInBounds_toArray, List.set_cons_succ, List.set_cons_zero]
          refine wpList_nil ?_
          go_upto_region 12 with fail
          refine wp_region_lit ?_
          refine wl rfl (.int .i64 0) _ (run_mvZ (.tmp 9) rfl (.int .i64 0) rfl) ?_
          simp only [Act.put, List.setIfInBounds_toArray, List.set_cons_succ, List.set_cons_zero]
          refine wl rfl (.bool true) _ (run_eqZ (.tmp 45) (.const (.int .i64 0)) rfl (0) (0) rfl rfl true rfl) ?_
          simp only [Act.put, List.setIfInBounds_toArray, List.set_cons_succ, List.set_cons_zero]
          refine wl rfl u5 _ (run_mvZ (.tmp 5) rfl u5 rfl) ?_
          simp only [Act.put, List.setIfInBounds_toArray, List.set_cons_succ, List.set_cons_zero]
          refine wl rfl (.int .i64 (l.length : Nat)) _ (HLE.out (.tmp 47) rfl rfl) ?_
          simp only [Act.put, List.setIfInBounds_toArray, List.set_cons_succ, List.set_cons_zero]
          refine wl rfl (.bool true) _ (run_lssZ (.tmp 48) (.const (.int .i64 8)) rfl (l.length : Nat) 8 rfl rfl true (decide_eq_true (by omega))) ?_
          simp only [Act.put, List.setIfInBounds_toArray, List.set_cons_succ, List.set_cons_zero]
          refine wl rfl (.bool false) _ (run_neB (.tmp 46) (.tmp 49) rfl true true rfl rfl false rfl) ?_
          simp only [Act.put, List.setIfInBounds_toArray, List.set_cons_succ, List.set_cons_zero]
          refine wpList_nil ?_
          go_upto_region 14 with fail
          refine wp_region_lit ?_
          refine wl rfl (.int .i64 0) _ (run_mvZ (.tmp 9) rfl (.int .i64 0) rfl) ?_
          simp only [Act.put, List.setIfInBounds_toArray, List.set_cons_succ, List.set_cons_zero]
          refine wl rfl (.bool true) _ (run_eqZ (.tmp 51) (.const (.int .i64 0)) rfl (0) (0) rfl rfl true rfl) ?_
          simp only [Act.put, List.setIfInBounds_toArray, List.set_cons_succ, List.set_cons_zero]
          refine wpList_nil ?_
          go_upto_region 15 with fail
          refine wp_region_lit ?_
          refine wl rfl (.int .i64 (nx : Nat)) _ (run_mvZ (.tmp 8) rfl (.int .i64 (nx : Nat)) rfl) ?_
          simp only [Act.put, List.setIfInBounds_toArray, List.set_cons_succ, List.set_cons_zero]
          refine wl rfl (.int .i64 (nx : Nat)) _ (run_mvZ (.tmp 6) rfl (.int .i64 (nx : Nat)) rfl) ?_
          simp only [Act.put, List.setIfInBounds_toArray, List.set_cons_succ, List.set_cons_zero]
          refine wl rfl (.bool false) _ (run_neZ (.tmp 53) (.tmp 54) rfl (nx : Nat) (nx : Nat) rfl rfl false (by simp)) ?_
          simp only [Act.put, List.setIfInBounds_toArray, List.set_cons_succ, List.set_cons_zero]
          refine wpList_nil ?_
          go_upto_region 17 with fail
          refine wp_region_lit ?_
          refine wl rfl (.int .i64 (nx : Nat)) _ (run_mvZ (.tmp 6) rfl (.int .i64 (nx : Nat)) rfl) ?_
          simp only [Act.put, List.setIfInBounds_toArray, List.set_cons_succ, List.set_cons_zero]
          refine wl rfl (.int .i64 ((nx + 1 : Nat) : Int)) _ (run_addI (.tmp 56) (.const (.int .i64 1)) rfl (nx : Nat) 1 ((nx + 1 : Nat) : Int) (by omega) (by omega) (by omega) rfl rfl) ?_
          simp only [Act.put, List.setIfInBounds_toArray, List.set_cons_succ, List.set_cons_zero]
          refine wl rfl (.int .i64 ((nx + 1 : Nat) : Int)) _ (run_asZ (.tmp 57) rfl (.int .i64 ((nx + 1 : Nat) : Int)) rfl) ?_
          simp only [Act.put, List.setIfInBounds_toArray, List.set_cons_succ, List.set_cons_zero]
          refine wpList_nil ?_
          go_upto_region 18 with fail
          refine wp_region_lit ?_
          refine wl rfl u5 _ (run_mvZ (.tmp 5) rfl u5 rfl) ?_
          simp only [Act.put, List.setIfInBounds_toArray, List.set_cons_succ, List.set_cons_zero]
          refine wl rfl (.int .i64 (nx : Nat)) _ (run_mvZ (.tmp 8) rfl (.int .i64 (nx : Nat)) rfl) ?_
          simp only [Act.put, List.setIfInBounds_toArray, List.set_cons_succ, List.set_cons_zero]
          refine wl rfl (.slice (some ⟨w4.heap.size, 0, none⟩) 1 1) _ (run_ilit1 (.tmp 59) rfl ((nx : Nat) : Int) rfl) ?_
          have HB5 : Hid (Below w4.heap.size w4 (w4.alloc (.cells #[.int .i64 ((nx : Nat) : Int)] 3)) ∧ IntsIn (w4.alloc (.cells #[.int .i64 ((nx : Nat) : Int)] 3)) (.slice (some ⟨w4.heap.size, 0, none⟩) 1 1) [((nx : Nat) : Int)]) := ⟨below_alloc w4 _, ints_lit1 w4 _⟩
          obtain ⟨w5, hW_⟩ : ∃ W, W = w4.alloc (.cells #[.int .i64 ((nx : Nat) : Int)] 3) := ⟨_, rfl⟩
          obtain ⟨v5, hq_⟩ : ∃ q, q = Value.slice (some ⟨w4.heap.size, 0, none⟩) 1 1 := ⟨_, rfl⟩
          rw [← hW_, ← hq_] at HB5
          rw [← hW_, ← hq_]
          clear hW_ hq_
          simp only [Act.put, List.setIfInBounds_toArray, List.set_cons_succ, List.set_cons_zero]
          obtain ⟨v6, w6, hr6, ho6, hg6, hat6⟩ := run_iapp (Oper.type _) u5 v5 (nums l) [((nx : Nat) : Int)] (own_later H4.out.2.1 HB5.out.1) HB5.out.2 (by have := HLN.out; simp [nums]; omega)
          refine wl rfl v6 w6 (run_append (.tmp 58) (.tmp 60) rfl u5 v5 v6 rfl rfl hr6) ?_
          have HNN : Hid (NI w w6 g F4 v6 (nx + 1) (l ++ [nx])) := NI.grow (W := w5) (H4.out.1.later HB5.out.1) (Nat.le_trans H4.out.1.bel.size HB5.out.1.size) H4.out.2.2 hg6 (hat6.imp id fun h => ⟨_, h, Nat.le_refl _⟩) (by unfold nums at *; rw [List.map_append]; exact ho6) (List.pairwise_append.2 ⟨HN'.out.ord, List.pairwise_singleton _ _, fun x hx y hy => by rw [List.mem_singleton.1 hy]; exact HN'.out.lt x hx⟩) (fun n hn => by
            rcases List.mem_append.1 hn with hn | hn
            · exact Nat.lt_succ_of_lt (HN'.out.lt n hn)
            · rw [List.mem_singleton.1 hn]; exact Nat.lt_succ_self _)
          clear hr6 ho6 hg6 hat6 HB5
          simp only [Act.put, List.setIfInBounds_toArray, List.set_cons_succ, List.set_cons_zero]
          refine wl rfl v6 _ (run_asZ (.tmp 61) rfl v6 rfl) ?_
          simp only [Act.put, List.setIfInBounds_toArray, List.set_cons_succ, List.set_cons_zero]
          refine wpList_nil ?_
          go_wp2_with fail
          refine ⟨⟨i + 1, by go_num, by omega, by omega, nx + 1, rfl, by omega, F4, _, HNN.out⟩, ?_⟩
          simp [intOf]; omega
        · have HB : Hid (beginP nx (bare l) = (0, 131, nx, bare l)) := by
            show _ = _
            unfold beginP
            rw [if_pos (by simp [bare]; omega)]
          go_upto_region 11 with fail
          refine wp_region_lit ?_
          refine wl rfl (ptr g) _ (run_mvZ (.tmp 4) rfl (ptr g) rfl) ?_
          simp only [Act.put, List.setIfInBounds_toArray, List.set_cons_succ, List.set_cons_zero]
          refine wpList_callW eN10 [.tmp 41] _ rfl rfl [(ptr g)] rfl ?_
          refine (SW.begin HN'.out.sw (by omega)).mono ?_
          rintro e w4 ⟨F4, rfl, s4, t4⟩
          refine ⟨_, rfl, ?_⟩
          have H4 : Hid (SW w w4 F4 g nx (bare l) ∧ IOwn w4 u5 (nums l) ∧ ∀ k, u5.ownBlock = some k → ¬ F4 k ∧ w.heap.size ≤ k) := ⟨by rw [HB.out] at s4; exact s4, HN'.out.turn t4⟩
          rw [HB.out]
          clear s4 t4
          simp only [Act.put, List.setIfInBounds_toArray, List.set_cons_succ, List.set_cons_zero]
          refine wl rfl (.tuple #[(.int .i64 0), (.int .i64 131)]) _ (run_mvZ (.tmp 42) rfl (.tuple #[(.int .i64 0), (.int .i64 131)]) rfl) ?_
          simp only [Act.put, List.setIfInBounds_toArray, List.set_cons_succ, List.set_cons_zero]
          refine wl rfl (.int .i64 0) _ (run_extZ (.tmp 40) 0 rfl #[(.int .i64 0), (.int .i64 131)] rfl (.int .i64 0) rfl) ?_
          simp only [Act.put, List.setIfInBounds_toArray, List.set_cons_succ, List.set_cons_zero]
          refine wl rfl (.int .i64 131) _ (run_extZ (.tmp 40) 1 rfl #[(.int .i64 0), (.int .i64 131)] rfl (.int .i64 131) rfl) ?_
          simp only [Act.put, List.setIfInBounds_toArray, List.set_cons_succ, List.set_cons_zero]
          refine wl rfl (.int .i64 0) _ (run_asZ (.tmp 43) rfl (.int .i64 0) rfl) ?_
          simp only [Act.put, List.setIfInBounds_toArray, List.set_cons_succ, List.set_cons_zero]
          refine wl rfl (.int .i64 131) _ (run_asZ (.tmp 44) rfl (.int .i64 131) rfl) ?_
          simp only [Act.put, List.setIfInBounds_toArray, List.set_cons_succ, List.set_cons_zero]
          refine wpList_nil ?_
          go_upto_region 12 with fail
          refine wp_region_lit ?_
          refine wl rfl (.int .i64 131) _ (run_mvZ (.tmp 9) rfl (.int .i64 131) rfl) ?_
          simp only [Act.put, List.setIfInBounds_toArray, List.set_cons_succ, List.set_cons_zero]
          refine wl rfl (.bool false) _ (run_eqZ (.tmp 45) (.const (.int .i64 0)) rfl (131) (0) rfl rfl false rfl) ?_
          simp only [Act.put, List.setIfInBounds_toArray, List.set_cons_succ, List.set_cons_zero]
          refine wl rfl u5 _ (run_mvZ (.tmp 5) rfl u5 rfl) ?_
          simp only [Act.put, List.setIfInBounds_toArray, List.set_cons_succ, List.set_cons_zero]
          refine wl rfl (.int .i64 (l.length : Nat)) _ (HLE.out (.tmp 47) rfl rfl) ?_
          simp only [Act.put, List.setIfInBounds_toArray, List.set_cons_succ, List.set_cons_zero]
          refine wl rfl (.bool false) _ (run_lssZ (.tmp 48) (.const (.int .i64 8)) rfl (l.length : Nat) 8 rfl rfl false (decide_eq_false (by omega))) ?_
          simp only [Act.put, List.setIfInBounds_toArray, List.set_cons_succ, List.set_cons_zero]
          refine wl rfl (.bool false) _ (run_neB (.tmp 46) (.tmp 49) rfl false false rfl rfl false rfl) ?_
          simp only [Act.put, List.setIfInBounds_toArray, List.set_cons_succ, List.set_cons_zero]
          refine wpList_nil ?_
          go_upto_region 14 with fail
          refine wp_region_lit ?_
          refine wl rfl (.int .i64 131) _ (run_mvZ (.tmp 9) rfl (.int .i64 131) rfl) ?_
          simp only [Act.put, List.setIfInBounds_toArray, List.set_cons_succ, List.set_cons_zero]
          refine wl rfl (.bool false) _ (run_eqZ (.tmp 51) (.const (.int .i64 0)) rfl (131) (0) rfl rfl false rfl) ?_
          simp only [Act.put, List.setIfInBounds_toArray, List.set_cons_succ, List.set_cons_zero]
          refine wpList_nil ?_
          have HNN : Hid (NI w w4 g F4 u5 nx l) := ⟨H4.out.1, H4.out.2.1, H4.out.2.2, HN'.out.ord, HN'.out.lt⟩
          go_wp2_with fail
          refine ⟨⟨i + 1, by go_num, by omega, by omega, nx, rfl, by omega, F4, l, HNN.out⟩, ?_⟩
          simp [intOf]; omega
    · by_cases hl2 : i < zs.length
      · go_upto_region 8 with fail
        refine wp_region_lit ?_
        refine wl rfl (.int .i64 (i : Nat)) _ (run_mvZ (.tmp 7) rfl (.int .i64 (i : Nat)) rfl) ?_
        simp only [Act.put, List.setIfInBounds_toArray, List.set_cons_succ, List.set_cons_zero]
        refine wl rfl vl _ (run_mvZ (.tmp 0) rfl vl rfl) ?_
        simp only [Act.put, List.setIfInBounds_toArray, List.set_cons_succ, List.set_cons_zero]
        refine wl rfl (.int .i64 (zs.length : Nat)) _ (run_lenN HZ.out (.tmp 25) rfl rfl) ?_
        simp only [Act.put, List.setIfInBounds_toArray, List.set_cons_succ, List.set_cons_zero]
        refine wl rfl (.bool true) _ (run_lssZ (.tmp 24) (.tmp 26) rfl (i : Nat) (zs.length : Nat) rfl rfl true (decide_eq_true (by omega))) ?_
        simp only [Act.put, List.setIfInBounds_toArray, List.set_cons_succ, List.set_cons_zero]
        refine wl rfl (.bool true) _ (run_mvZ (.tmp 27) rfl (.bool true) rfl) ?_
        simp only [Act.put, List.setIfInBounds_toArray, List.set_cons_succ, List.set_cons_zero]
        refine wl (by kernel_rfl) (.int .i64 (i : Nat)) _ (run_mvZ (.tmp 7) rfl (.int .i64 (i : Nat)) rfl) ?_
        simp only [Act.put, List.setIfInBounds_toArray, List.set_cons_succ, List.set_cons_zero]
        refine wl (by kernel_rfl) (.bool false) _ (run_lssZ (.tmp 29) (.const (.int .i64 80)) rfl (i : Nat) 80 rfl rfl false (decide_eq_false (by omega))) ?_
        simp only [Act.put, List.setIfInBounds_toArray, List.set_cons_succ, List.set_cons_zero]
        refine wl rfl (.bool false) _ (run_pickZ (.tmp 28) (.tmp 30) (.const (.bool false)) rfl true (.bool false) rfl rfl) ?_
        simp only [Act.put, List.setIfInBounds_toArray, List.set_cons_succ, List.set_cons_zero]
        refine wpList_nil ?_
        have HCT : Hid (Calls Try.prog 18 #[ptr g] wr fun e W' => e = .returned (.int .i64 (l.length : Nat)) ∧ wr = W') := by
          have := SW.count HN'.out.sw
          rw [show (bare l).length = l.length by simp [bare]] at this
          exact this
        go_upto_region 32 with fail
        refine wp_region_lit ?_
        refine wl rfl (ptr g) _ (run_mvZ (.tmp 4) rfl (ptr g) rfl) ?_
        simp only [Act.put, List.setIfInBounds_toArray, List.set_cons_succ, List.set_cons_zero]
        refine wpList_callW eN18 [.tmp 124] _ rfl rfl [(ptr g)] rfl ?_
        refine (show Calls _ _ _ _ _ from HCT.out).mono ?_
        rintro e wx ⟨rfl, ex⟩
        refine ⟨_, rfl, ?_⟩
        subst ex
        simp only [Act.put, List.setIfInBounds_toArray, List.set_cons_succ, List.set_cons_zero]
        refine wl rfl u5 _ (run_mvZ (.tmp 5) rfl u5 rfl) ?_
        simp only [Act.put, List.setIfInBounds_toArray, List.set_cons_succ, List.set_cons_zero]
        refine wl rfl (.int .i64 (l.length : Nat)) _ (HLE.out (.tmp 126) rfl rfl) ?_
        simp only [Act.put, List.setIfInBounds_toArray, List.set_cons_succ, List.set_cons_zero]
        refine wl rfl (.bool true) _ (run_eqZ (.tmp 125) (.tmp 127) rfl (l.length : Nat) (l.length : Nat) rfl rfl true (decide_eq_true rfl)) ?_
        simp only [Act.put, List.setIfInBounds_toArray, List.set_cons_succ, List.set_cons_zero]
        refine wl rfl (.bool true) _ (run_asZ (.tmp 128) rfl (.bool true) rfl) ?_
        simp only [Act.put, List.setIfInBounds_toArray, List.set_cons_succ, List.set_cons_zero]
        refine wpList_nil ?_
        go_wp2_with fail
        rw [HPQ.out]
        exact ⟨rfl, HN'.out.sw.bel⟩
      · go_upto_region 8 with fail
        refine wp_region_lit ?_
        refine wl rfl (.int .i64 (i : Nat)) _ (run_mvZ (.tmp 7) rfl (.int .i64 (i : Nat)) rfl) ?_
        simp only [Act.put, List.setIfInBounds_toArray, List.set_cons_succ, List.set_cons_zero]
        refine wl rfl vl _ (run_mvZ (.tmp 0) rfl vl rfl) ?_
        simp only [Act.put, List.setIfInBounds_toArray, List.set_cons_succ, List.set_cons_zero]
        refine wl rfl (.int .i64 (zs.length : Nat)) _ (run_lenN HZ.out (.tmp 25) rfl rfl) ?_
        simp only [Act.put, List.setIfInBounds_toArray, List.set_cons_succ, List.set_cons_zero]
        refine wl rfl (.bool false) _ (run_lssZ (.tmp 24) (.tmp 26) rfl (i : Nat) (zs.length : Nat) rfl rfl false (decide_eq_false (by omega))) ?_
        simp only [Act.put, List.setIfInBounds_toArray, List.set_cons_succ, List.set_cons_zero]
        refine wl rfl (.bool false) _ (run_mvZ (.tmp 27) rfl (.bool false) rfl) ?_
        simp only [Act.put, List.setIfInBounds_toArray, List.set_cons_succ, List.set_cons_zero]
        refine wpList_skip (by kernel_rfl) ?_
        simp only [Act.put, List.setIfInBounds_toArray, List.set_cons_succ, List.set_cons_zero]
        refine wpList_skip (by kernel_rfl) ?_
        simp only [Act.put, List.setIfInBounds_toArray, List.set_cons_succ, List.set_cons_zero]
        refine wl rfl (.bool false) _ (run_pickZ (.tmp 28) (.tmp 30) (.const (.bool false)) rfl false (.bool false) rfl rfl) ?_
        simp only [Act.put, List.setIfInBounds_toArray, List.set_cons_succ, List.set_cons_zero]
        refine wpList_nil ?_
        have HCT : Hid (Calls Try.prog 18 #[ptr g] wr fun e W' => e = .returned (.int .i64 (l.length : Nat)) ∧ wr = W') := by
          have := SW.count HN'.out.sw
          rw [show (bare l).length = l.length by simp [bare]] at this
          exact this
        go_upto_region 32 with fail
        refine wp_region_lit ?_
        refine wl rfl (ptr g) _ (run_mvZ (.tmp 4) rfl (ptr g) rfl) ?_
        simp only [Act.put, List.setIfInBounds_toArray, List.set_cons_succ, List.set_cons_zero]
        refine wpList_callW eN18 [.tmp 124] _ rfl rfl [(ptr g)] rfl ?_
        refine (show Calls _ _ _ _ _ from HCT.out).mono ?_
        rintro e wx ⟨rfl, ex⟩
        refine ⟨_, rfl, ?_⟩
        subst ex
        simp only [Act.put, List.setIfInBounds_toArray, List.set_cons_succ, List.set_cons_zero]
        refine wl rfl u5 _ (run_mvZ (.tmp 5) rfl u5 rfl) ?_
        simp only [Act.put, List.setIfInBounds_toArray, List.set_cons_succ, List.set_cons_zero]
        refine wl rfl (.int .i64 (l.length : Nat)) _ (HLE.out (.tmp 126) rfl rfl) ?_
        simp only [Act.put, List.setIfInBounds_toArray, List.set_cons_succ, List.set_cons_zero]
        refine wl rfl (.bool true) _ (run_eqZ (.tmp 125) (.tmp 127) rfl (l.length : Nat) (l.length : Nat) rfl rfl true (decide_eq_true rfl)) ?_
        simp only [Act.put, List.setIfInBounds_toArray, List.set_cons_succ, List.set_cons_zero]
        refine wl rfl (.bool true) _ (run_asZ (.tmp 128) rfl (.bool true) rfl) ?_
        simp only [Act.put, List.setIfInBounds_toArray, List.set_cons_succ, List.set_cons_zero]
        refine wpList_nil ?_
        go_wp2_with fail
        rw [HPQ.out]
        exact ⟨rfl, HN'.out.sw.bel⟩

end Go.Proofs.Ytcjanjofjnedbaa

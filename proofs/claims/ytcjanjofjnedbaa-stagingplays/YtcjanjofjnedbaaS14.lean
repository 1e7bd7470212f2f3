/- Layer 13: both stages side by side. -/
import Derived.Test.YtcjanjofjnedbaaS13
namespace Go.Proofs.Ytcjanjofjnedbaa
open Go.RowKit Go.Maps Go.MapKept

theorem cell_belP {w W : World} {b i : Nat} {v : Value} (h : w.cell? ⟨b, i, none⟩ = some v) (hb : Below w.heap.size w W) : W.cell? ⟨b, i, none⟩ = some v := by
  have hl : b < w.heap.size := by
    unfold World.cell? at h
    cases hw : w.heap[b]? with
    | none => rw [hw] at h; cases h
    | some o => exact (Array.getElem?_eq_some_iff.1 hw).1
  unfold World.cell? at *
  rw [hb.block b hl]
  exact h
/-- the document's stage, made behind w0 -/
structure RW (w0 W : World) (F : Nat → Prop) (g nx : Nat) (ss : List (Nat × List Nat)) : Prop where
  bel : Below w0.heap.size w0 W
  st : ∃ l, RfAt W F g nx l ∧ ssOf l = ss
  ge : ∀ k, F k → w0.heap.size ≤ k
theorem at_or_none (l : List En) (p : Int) : (∃ k, ∃ hk : k < l.length, (l[k].no : Int) = p) ∨ ∀ x ∈ l, (x.no : Int) ≠ p := by
  by_cases h : ∀ x ∈ l, (x.no : Int) ≠ p
  · exact Or.inr h
  · left
    simp only [Classical.not_forall, Classical.not_not] at h
    obtain ⟨x, hx, e⟩ := h
    obtain ⟨k, hk, rfl⟩ := List.getElem_of_mem hx
    exact ⟨k, hk, e⟩
section
variable {w0 W : World} {F : Nat → Prop} {g nx : Nat} {ss : List (Nat × List Nat)}
theorem RW.low (h : RW w0 W F g nx ss) : ∀ k, F k → k < W.heap.size := by
  obtain ⟨l, hl, rfl⟩ := h.st
  exact hl.low
theorem RW.begin (h : RW w0 W F g nx ss) (hn : nx < 4611686018427387904) : Calls Try.prog 11 #[ptr g] W fun e W' => ∃ F', e = .returned (.tuple #[.int .i64 (beginP nx ss).1, .int .i64 (beginP nx ss).2.1]) ∧ RW w0 W' F' g (beginP nx ss).2.2.1 (beginP nx ss).2.2.2 ∧ Tn F F' W W' := by
  obtain ⟨l, hl, rfl⟩ := h.st
  refine (rbegin_any hl hn).mono fun e W' ⟨F', nx', l', h1, h2, h3, h4⟩ => ?_
  have hb := h4.below h.bel h.ge
  exact ⟨F', h1, ⟨hb.1, ⟨l', by rw [← h3]; exact h2, by rw [← h3]⟩, hb.2⟩, h4⟩
theorem RW.add (h : RW w0 W F g nx ss) (p : Int) (vb : Value) (cs : List Nat) (hin : SliceIn W vb cs) (hcs : cs.length ≤ 140737488355328) : Calls Try.prog 13 #[ptr g, .int .i64 p, vb] W fun e W' => ∃ F', e = .returned (.int .i64 (addP ss p cs).1) ∧ RW w0 W' F' g nx (addP ss p cs).2 ∧ Tn F F' W W' := by
  obtain ⟨l, hl, rfl⟩ := h.st
  rcases at_or_none l p with ⟨k, hk, hp⟩ | hp
  · refine (radd_yes hl p k hk hp vb cs hin hcs).mono fun e W' ⟨F', l', h1, h2, h3, h4⟩ => ?_
    have hb := h4.below h.bel h.ge
    exact ⟨F', h1, ⟨hb.1, ⟨l', h2, h3⟩, hb.2⟩, h4⟩
  · refine (radd_no hl p hp vb cs).mono fun e W' ⟨F', l', h1, h2, h3, h4⟩ => ?_
    have hb := h4.below h.bel h.ge
    exact ⟨F', h1, ⟨hb.1, ⟨l', h2, h3⟩, hb.2⟩, h4⟩
theorem RW.take (h : RW w0 W F g nx ss) (p : Int) : Calls Try.prog 15 #[ptr g, .int .i64 p] W fun e W' => ∃ F' v, e = .returned (.tuple #[v, .int .i64 (takeP ss p).1]) ∧ RW w0 W' F' g nx (takeP ss p).2.2 ∧ Tn F F' W W' ∧ SliceIn W' v (takeP ss p).2.1 := by
  obtain ⟨l, hl, rfl⟩ := h.st
  unfold takeP
  rw [findS_of]
  rcases at_or_none l p with ⟨k, hk, hp⟩ | hp
  · rw [look_at hl.ord k hk hp]
    refine (rtake_yes hl p k hk hp).mono ?_
    rintro e W' ⟨F', rfl, h2, h3, h4⟩
    have hb := h3.below h.bel h.ge
    refine ⟨F', _, rfl, ⟨hb.1, ⟨_, h2, ?_⟩, hb.2⟩, h3, h4⟩
    rw [← filter_cut hl.ord k hk hp]
    exact ssOf_filter l p
  · rw [look_no hp]
    refine (rtake_no hl p hp).mono ?_
    rintro e W' ⟨rfl, rfl⟩
    exact ⟨F, _, rfl, ⟨h.bel, ⟨l, hl, rfl⟩, h.ge⟩, Tn.refl F W, snil _⟩
theorem RW.abort (h : RW w0 W F g nx ss) (p : Int) : Calls Try.prog 17 #[ptr g, .int .i64 p] W fun e W' => ∃ F', e = .returned (.int .i64 (takeP ss p).1) ∧ RW w0 W' F' g nx (takeP ss p).2.2 ∧ Tn F F' W W' := by
  obtain ⟨l, hl, rfl⟩ := h.st
  unfold takeP
  rw [findS_of]
  rcases at_or_none l p with ⟨k, hk, hp⟩ | hp
  · rw [look_at hl.ord k hk hp]
    refine (rabort_yes hl p k hk hp).mono ?_
    rintro e W' ⟨F', rfl, h2, h3⟩
    have hb := h3.below h.bel h.ge
    refine ⟨F', rfl, ⟨hb.1, ⟨_, h2, ?_⟩, hb.2⟩, h3⟩
    rw [← filter_cut hl.ord k hk hp]
    exact ssOf_filter l p
  · rw [look_no hp]
    refine (rabort_no hl p hp).mono ?_
    rintro e W' ⟨rfl, rfl⟩
    exact ⟨F, rfl, ⟨h.bel, ⟨l, hl, rfl⟩, h.ge⟩, Tn.refl F W⟩
theorem RW.count (h : RW w0 W F g nx ss) : Calls Try.prog 19 #[ptr g] W fun e W' => e = .returned (.int .i64 (ss.length : Nat)) ∧ W = W' := by
  obtain ⟨l, hl, rfl⟩ := h.st
  refine (rcount_any hl).mono fun _ _ h1 => ⟨by rw [h1.1]; simp [ssOf], h1.2⟩
theorem RW.new (w0 W : World) (hb : Below w0.heap.size w0 W) : Calls Try.prog 8 #[] W fun e W' => ∃ g F, e = .returned (ptr g) ∧ RW w0 W' F g 0 [] ∧ Below W.heap.size W W' ∧ ∀ k, F k → W.heap.size ≤ k :=
  (rnew_any W).mono fun _ _ ⟨g, F, h1, h2, h3, h4⟩ => ⟨g, F, h1, ⟨hb.trans (h3.mono hb.size), ⟨[], h2, rfl⟩, fun k hk => Nat.le_trans hb.size (h4 k hk)⟩, h3, h4⟩
theorem RW.ch {W' : World} {S : Nat → Prop} (h : RW w0 W F g nx ss) (hc : Ch S W W') (hd : ∀ k, S k → ¬ F k ∧ w0.heap.size ≤ k) : RW w0 W' F g nx ss := by
  obtain ⟨l, hl, rfl⟩ := h.st
  exact ⟨h.bel.trans (hc.below h.bel.size fun i hi hs => by have := (hd i hs).2; omega), ⟨l, hl.ch hc fun k hk => (hd k hk).1, rfl⟩, h.ge⟩
end
/-- both stages -/
structure PI (w W : World) (gx gy : Nat) (Fx Fy : Nat → Prop) (nx : Nat) (ss : List (Nat × List Nat)) (ny : Nat) (tt : List (Nat × List Nat)) : Prop where
  sx : SW w W Fx gx nx ss
  sy : RW w W Fy gy ny tt
  dj : ∀ k, Fx k → ¬ Fy k
/-- a block that is of neither -/
def Out (w W : World) (Fx Fy : Nat → Prop) (q : Nat) : Prop := ¬ Fx q ∧ ¬ Fy q ∧ w.heap.size ≤ q ∧ q < W.heap.size
section
variable {w W W' : World} {gx gy nx ny nx' ny' : Nat} {Fx Fy F' : Nat → Prop} {ss tt ss' tt' : List (Nat × List Nat)}
theorem PI.x (h : PI w W gx gy Fx Fy nx ss ny tt) (t : Tn Fx F' W W') (hs : SW w W' F' gx nx' ss') : PI w W' gx gy F' Fy nx' ss' ny tt :=
  ⟨hs, h.sy.ch t.ch fun k hk => ⟨h.dj k hk, h.sx.ge k hk⟩, fun k hk => (t.ext k hk).elim (h.dj k) fun h2 h3 => by have := h.sy.low k h3; omega⟩
theorem PI.y (h : PI w W gx gy Fx Fy nx ss ny tt) (t : Tn Fy F' W W') (hs : RW w W' F' gy ny' tt') : PI w W' gx gy Fx F' nx ss ny' tt' :=
  ⟨h.sx.ch t.ch fun k hk => ⟨fun h2 => h.dj k h2 hk, h.sy.ge k hk⟩, hs, fun k hk h2 => (t.ext k h2).elim (h.dj k hk) fun h3 => by have := h.sx.low k hk; omega⟩
theorem PI.ch {S : Nat → Prop} (h : PI w W gx gy Fx Fy nx ss ny tt) (hc : Ch S W W') (hd : ∀ k, S k → Out w W Fx Fy k) : PI w W' gx gy Fx Fy nx ss ny tt :=
  ⟨h.sx.ch hc fun k hk => ⟨(hd k hk).1, (hd k hk).2.2.1⟩, h.sy.ch hc fun k hk => ⟨(hd k hk).2.1, (hd k hk).2.2.1⟩, h.dj⟩
theorem PI.later (h : PI w W gx gy Fx Fy nx ss ny tt) (hb : Below W.heap.size W W') : PI w W' gx gy Fx Fy nx ss ny tt :=
  h.ch (S := fun _ => False) (Ch.of_below hb) fun _ e => e.elim
theorem Out.x {q : Nat} (h : Out w W Fx Fy q) (t : Tn Fx F' W W') : Out w W' F' Fy q ∧ W'.heap[q]? = W.heap[q]? :=
  ⟨⟨fun h2 => (t.ext q h2).elim h.1 fun h3 => by have := h.2.2.2; omega, h.2.1, h.2.2.1, Nat.lt_of_lt_of_le h.2.2.2 t.ch.size⟩, t.ch.block q h.2.2.2 h.1⟩
theorem Out.y {q : Nat} (h : Out w W Fx Fy q) (t : Tn Fy F' W W') : Out w W' Fx F' q ∧ W'.heap[q]? = W.heap[q]? :=
  ⟨⟨h.1, fun h2 => (t.ext q h2).elim h.2.1 fun h3 => by have := h.2.2.2; omega, h.2.2.1, Nat.lt_of_lt_of_le h.2.2.2 t.ch.size⟩, t.ch.block q h.2.2.2 h.2.1⟩
theorem PI.out (h : PI w W gx gy Fx Fy nx ss ny tt) {q : Nat} (hq : W.heap.size ≤ q) (hq2 : q < W'.heap.size) : Out w W' Fx Fy q :=
  ⟨fun h2 => by have := h.sx.low q h2; omega, fun h2 => by have := h.sy.low q h2; omega, Nat.le_trans h.sx.bel.size hq, hq2⟩
end
/-- the call at hand lies in block q -/
def OpAt (w W : World) (Fx Fy : Nat → Prop) (q : Nat) (o : OpD) : Prop := Row W q 30 o.cells ∧ Out w W Fx Fy q
/-- bytes of the law's own -/
def OwnAt (w W : World) (Fx Fy : Nat → Prop) (v : Value) (cs : List Nat) : Prop := BOwn W 0 v cs ∧ ∀ k, v.ownBlock = some k → Out w W Fx Fy k
section
variable {w W W' : World} {Fx Fy F' : Nat → Prop} {q : Nat} {o : OpD} {v : Value} {cs : List Nat}
theorem OpAt.x (h : OpAt w W Fx Fy q o) (t : Tn Fx F' W W') : OpAt w W' F' Fy q o := ⟨by have := (h.2.x t).2; unfold Row; rw [this]; exact h.1, (h.2.x t).1⟩
theorem OpAt.y (h : OpAt w W Fx Fy q o) (t : Tn Fy F' W W') : OpAt w W' Fx F' q o := ⟨by have := (h.2.y t).2; unfold Row; rw [this]; exact h.1, (h.2.y t).1⟩
theorem OwnAt.x (h : OwnAt w W Fx Fy v cs) (t : Tn Fx F' W W') : OwnAt w W' F' Fy v cs := ⟨ownK h.1 fun k e => ((h.2 k e).x t).2, fun k e => ((h.2 k e).x t).1⟩
theorem OwnAt.y (h : OwnAt w W Fx Fy v cs) (t : Tn Fy F' W W') : OwnAt w W' Fx F' v cs := ⟨ownK h.1 fun k e => ((h.2 k e).y t).2, fun k e => ((h.2 k e).y t).1⟩
end
theorem spoil {W : World} {v : Value} {cs : List Nat} (h : BOwn W 0 v cs) (k : Nat) (hk : k < cs.length) : ∃ b cur, v.ownBlock = some b ∧ (∀ w', (Instr.indexAt 28 v (.int .i64 (k : Nat))).run Try.prog w' = .ok (.pointer (some ⟨b, k, none⟩)) w') ∧ Row W b 5 cur ∧ k < cur.length ∧ ∀ c : Nat, BOwn (W.setCell ⟨b, k, none⟩ (.int .u8 (c : Nat))) 0 v (cs.set k c) := by
  obtain ⟨b, hb, hr, _⟩ := own_index h Try.underlying28 info5 k hk
  rcases h.2 with ⟨rfl, h0⟩ | ⟨g, cap, cur, rfl, _, hg, hcap, hmax, hsz, htake⟩
  · omega
  · have e : g = b := Option.some.inj hb
    subst e
    refine ⟨g, cur.toList, rfl, fun w' => by rw [hr w', Nat.mul_one], by unfold Row; rw [hg], by rw [Array.length_toList, hsz]; omega, fun c => ?_⟩
    have h2 := (World.ownsRow.stored h k (.int .u8 (c : Nat))).1
    unfold BOwn
    rw [← bcells_set, List.length_set]
    exact h2
theorem run_negI {w : World} {a : Act} {o : Oper} (x : Operand) (ho : o.op = .unOp .neg 3 x) (z r : Int) (hb : -9223372036854775808 ≤ r ∧ r ≤ 9223372036854775807) (hr : -z = r) (hx : a.eval x = .int .i64 z) : (execOp a.eval o).run Try.prog w = .ok (.value (.int .i64 r)) w := by
  have hwr : IntKind.i64.wrap (-z) = r := by rw [hr]; simp only [IntKind.wrap, IntKind.signed, IntKind.bits]; simp; omega
  simp [execOp, ho, hx, Op.unary, Op.intArith, hwr]
theorem run_neS {w : World} {a : Act} {o : Oper} (x y : Operand) (ho : o.op = .binOp .neq 9 x y 9) (s t : ByteArray) (hx : a.eval x = .string s) (hy : a.eval y = .string t) (h : s = t) : (execOp a.eval o).run Try.prog w = .ok (.value (.bool false)) w := by
  subst h
  refine run_binOp' x y ho _ _ _ hx hy ?_ ?_
  · rfl
  · simp [go_sem]
theorem und22 : Try.prog.underlying 22 = some (.slice 30) := by kernel_rfl
theorem sl22 : Try.prog.underlying 22 = some (.slice (Try.prog.elem 22)) := by kernel_rfl
theorem sz30 : (Try.prog.info? 30).map (·.size) = some 3 := by kernel_rfl
def z30 : List Value := [.int .i64 0, .int .i64 0, .slice none 0 0]
theorem zero30 : (Try.prog.info? 30).map (·.zero) = some (some (.agg z30.toArray)) := by kernel_rfl
theorem op_one {w : World} {o : OpD} (h : OpIn w o) : ∀ v ∈ o.cells, v.oneCell' = true := by
  intro v hv
  obtain ⟨p, c, e, _⟩ := h.b
  simp [OpD.cells] at hv
  rcases hv with rfl | rfl | rfl
  · rfl
  · rfl
  · rw [e]; rfl
theorem ix_op {w : World} {v : Value} {os : List OpD} (hin : OpsIn w v os) (k : Nat) (hk : k < os.length) : ∃ b j o, (∀ w', (Instr.indexAt 22 v (.int .i64 (k : Nat))).run Try.prog w' = .ok (.pointer (some ⟨b, j, none⟩)) w') ∧ OpIn w o ∧ ∀ W, Below w.heap.size w W → ∀ (i : Nat) u, o.cells[i]? = some u → W.cell? ⟨b, j + i, none⟩ = some u := by
  obtain ⟨i3, hi3, hsz⟩ := Option.map_eq_some_iff.1 sz30
  obtain ⟨p, cap, rfl, hl, _, h, hop⟩ := hin
  rcases h with rfl | ⟨b, off, rfl, hc⟩
  · simp at hk
  · have hm : os.getD k default ∈ os := by rw [List.getD_eq_getElem?_getD, List.getElem?_eq_getElem hk]; exact List.getElem_mem hk
    refine ⟨b, off + k * 3, os.getD k default, fun w' => by simp [Instr.indexAt, asIntOf, run_underlying und22, hk, sizeOf, typeInfo, hi3, hsz, add_none], hop _ hm, fun W hW i u hu => ?_⟩
    have hi : i < 3 := by
      have := (List.getElem?_eq_some_iff.1 hu).1
      simpa [OpD.cells] using this
    have h9 := hc k hk i hi
    rw [hu] at h9
    rw [Nat.add_assoc]
    exact cell_belP h9 hW
set_option maxHeartbeats 4000000 in
set_option maxRecDepth 100000 in
theorem kind_any (w : World) (n : Int) (hn : -9223372036854775808 ≤ n ∧ n ≤ 9223372036854775807) : Calls Try.prog 9 #[.int .i64 n] w fun e w' => (∃ k : Nat, k < 8 ∧ e = .returned (.int .i64 (k : Nat))) ∧ w = w' := by
  obtain ⟨PQ, hPQ⟩ : ∃ PQ : Ending → World → Prop, PQ = fun (e : Ending) (w' : World) => (∃ k : Nat, k < 8 ∧ e = .returned (.int .i64 (k : Nat))) ∧ w = w' := ⟨_, rfl⟩
  have HPQ : Hid (PQ = fun (e : Ending) (w' : World) => (∃ k : Nat, k < 8 ∧ e = .returned (.int .i64 (k : Nat))) ∧ w = w') := hPQ
  rw [← hPQ]
  clear hPQ
  by_cases hneg : n < 0
  · obtain ⟨m, hm⟩ : ∃ m : Nat, m = (-(n + 1)).toNat := ⟨_, rfl⟩
    go_enter Try.func9, Try.ntmps9
    go_upto_region 0 with fail
    refine wp_region_lit ?_
    refine wl rfl (.int .i64 0) _ (run_asZ (.const (.int .i64 0)) rfl (.int .i64 0) rfl) ?_
    simp only [Act.put, List.setIfInBounds_toArray, List.set_cons_succ, List.set_cons_zero]
    refine wpList_nil ?_
    go_upto_region 1 with fail
    refine wp_region_lit ?_
    refine wl rfl (.int .i64 n) _ (run_mvZ (.tmp 0) rfl (.int .i64 n) rfl) ?_
    simp only [Act.put, List.setIfInBounds_toArray, List.set_cons_succ, List.set_cons_zero]
    refine wl rfl (.bool true) _ (run_lssZ (.tmp 3) (.const (.int .i64 0)) rfl n 0 rfl rfl true (decide_eq_true hneg)) ?_
    simp only [Act.put, List.setIfInBounds_toArray, List.set_cons_succ, List.set_cons_zero]
    refine wpList_nil ?_
    go_upto_region 2 with fail
    refine wp_region_lit ?_
    refine wl rfl (.int .i64 n) _ (run_mvZ (.tmp 0) rfl (.int .i64 n) rfl) ?_
    simp only [Act.put, List.setIfInBounds_toArray, List.set_cons_succ, List.set_cons_zero]
    refine wl rfl (.int .i64 (n + 1)) _ (run_addI (.tmp 5) (.const (.int .i64 1)) rfl n 1 (n + 1) (by omega) (by omega) rfl rfl rfl) ?_
    simp only [Act.put, List.setIfInBounds_toArray, List.set_cons_succ, List.set_cons_zero]
    refine wl rfl (.int .i64 (m : Nat)) _ (run_negI (.tmp 6) rfl (n + 1) (m : Nat) (by omega) (by omega) rfl) ?_
    simp only [Act.put, List.setIfInBounds_toArray, List.set_cons_succ, List.set_cons_zero]
    refine wl rfl (.int .i64 (m : Nat)) _ (run_asZ (.tmp 7) rfl (.int .i64 (m : Nat)) rfl) ?_
    simp only [Act.put, List.setIfInBounds_toArray, List.set_cons_zero]
    refine wpList_nil ?_
    go_upto_region 3 with fail
    refine wp_region_lit ?_
    refine wl rfl (.int .i64 (m : Nat)) _ (run_mvZ (.tmp 0) rfl (.int .i64 (m : Nat)) rfl) ?_
    simp only [Act.put, List.setIfInBounds_toArray, List.set_cons_succ, List.set_cons_zero]
    refine wl rfl (.int .i64 ((m % 8 : Nat) : Int)) _ (run_remN (.tmp 8) (.const (.int .i64 8)) rfl m 8 (by decide) rfl rfl) ?_
    simp only [Act.put, List.setIfInBounds_toArray, List.set_cons_succ, List.set_cons_zero]
    refine wl rfl (.int .i64 ((m % 8 : Nat) : Int)) _ (run_asZ (.tmp 9) rfl (.int .i64 ((m % 8 : Nat) : Int)) rfl) ?_
    simp only [Act.put, List.setIfInBounds_toArray, List.set_cons_succ, List.set_cons_zero]
    refine wpList_nil ?_
    have hlt : m % 8 < 8 := Nat.mod_lt _ (by decide)
    generalize m % 8 = r at hlt ⊢
    go_wp2_with fail
    rw [HPQ.out]
    exact ⟨⟨r, hlt, rfl⟩, rfl⟩
  · obtain ⟨m, rfl⟩ : ∃ m : Nat, n = (m : Nat) := ⟨n.toNat, by omega⟩
    go_enter Try.func9, Try.ntmps9
    go_upto_region 0 with fail
    refine wp_region_lit ?_
    refine wl rfl (.int .i64 0) _ (run_asZ (.const (.int .i64 0)) rfl (.int .i64 0) rfl) ?_
    simp only [Act.put, List.setIfInBounds_toArray, List.set_cons_succ, List.set_cons_zero]
    refine wpList_nil ?_
    go_upto_region 1 with fail
    refine wp_region_lit ?_
    refine wl rfl (.int .i64 (m : Nat)) _ (run_mvZ (.tmp 0) rfl (.int .i64 (m : Nat)) rfl) ?_
    simp only [Act.put, List.setIfInBounds_toArray, List.set_cons_succ, List.set_cons_zero]
    refine wl rfl (.bool false) _ (run_lssZ (.tmp 3) (.const (.int .i64 0)) rfl (m : Nat) 0 rfl rfl false (decide_eq_false (by omega))) ?_
    simp only [Act.put, List.setIfInBounds_toArray, List.set_cons_succ, List.set_cons_zero]
    refine wpList_nil ?_
    go_upto_region 3 with fail
    refine wp_region_lit ?_
    refine wl rfl (.int .i64 (m : Nat)) _ (run_mvZ (.tmp 0) rfl (.int .i64 (m : Nat)) rfl) ?_
    simp only [Act.put, List.setIfInBounds_toArray, List.set_cons_succ, List.set_cons_zero]
    refine wl rfl (.int .i64 ((m % 8 : Nat) : Int)) _ (run_remN (.tmp 8) (.const (.int .i64 8)) rfl m 8 (by decide) rfl rfl) ?_
    simp only [Act.put, List.setIfInBounds_toArray, List.set_cons_succ, List.set_cons_zero]
    refine wl rfl (.int .i64 ((m % 8 : Nat) : Int)) _ (run_asZ (.tmp 9) rfl (.int .i64 ((m % 8 : Nat) : Int)) rfl) ?_
    simp only [Act.put, List.setIfInBounds_toArray, List.set_cons_succ, List.set_cons_zero]
    refine wpList_nil ?_
    have hlt : m % 8 < 8 := Nat.mod_lt _ (by decide)
    generalize m % 8 = r at hlt ⊢
    go_wp2_with fail
    rw [HPQ.out]
    exact ⟨⟨r, hlt, rfl⟩, rfl⟩

end Go.Proofs.Ytcjanjofjnedbaa

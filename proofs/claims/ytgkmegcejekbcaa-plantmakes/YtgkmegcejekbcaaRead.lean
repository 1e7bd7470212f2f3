/- The walk of Plant.Read. -/
import Derived.Test.YtgkmegcejekbcaaAppend
import Derived.Shelf.Abstract
namespace Go.Proofs.Ytgkmegcejekbcaa
open Go.RowKit Go.Maps

section
variable {w : World} {ops : Array Oper} {rest : List Oper} {o : Oper} {a : Act} {Q : Exit → Act → World → Prop}
/-- a function that has a body is entered -/
def EntersF (f : Nat) : Prop := ∀ args w, (callFunc f args).run Try.prog w = .ok (.enter f args) w
theorem en49 : EntersF 49 := Go.Proofs.enters_of Try.func49 (by kernel_rfl) rfl
theorem run_call {f : Nat} (ef : EntersF f) (xs : List Operand) (ts : Array TypeId) (ho : o.op = .call { callee := .value (.func f), args := xs.toArray, argTypes := ts }) (vs : List Value) (hv : xs.map a.eval = vs) : (execOp a.eval o).run Try.prog w = .ok (.enter f vs.toArray) w := by
  subst hv
  have hen := ef (xs.map a.eval).toArray w
  simp [execOp, ho, resolve, BigFrame.eval_func, Deferred.ofValue, invoke, hen]
theorem wpList_callF {f : Nat} (ef : EntersF f) (xs : List Operand) (ts : Array TypeId) (hgd : o.guard = none) (ho : o.op = .call { callee := .value (.func f), args := xs.toArray, argTypes := ts }) (vs : List Value) (hv : xs.map a.eval = vs)
    (h : Calls Try.prog f vs.toArray w fun e w' => ∃ v, e = .returned v ∧ wpList Try.prog ops Q rest (a.put o.dst v) w') : wpList Try.prog ops Q (o :: rest) a w :=
  wpList_plain hgd fun K hK => by
    unfold Oper.wp
    rw [run_call ef xs ts ho vs hv]
    refine h.mono fun e w' he => ?_
    obtain ⟨v, rfl, hw⟩ := he
    exact hK _ _ hw
theorem run_make64 (w : World) : (Instr.makeSlice 40 (.int .i64 64) (.int .i64 64)).run Try.prog w = .ok (.slice (some ⟨w.heap.size, 0, none⟩) 64 64) (w.alloc (.cells (zerosU8 64).toArray 5)) := by kernel_rfl
theorem wpList_make64 (x y : Operand) (hgd : o.guard = none) (ho : o.op = .makeSlice 40 x y) (hx : a.eval x = .int .i64 64) (hy : a.eval y = .int .i64 64)
    (h : ∀ w', Row w' w.heap.size 5 (zerosU8 64) → w'.heap.size = w.heap.size + 1 → Below w.heap.size w w' → wpList Try.prog ops Q rest (a.put o.dst (.slice (some ⟨w.heap.size, 0, none⟩) 64 64)) w') : wpList Try.prog ops Q (o :: rest) a w :=
  wpList_value hgd _ _ (by simp [execOp, ho, hx, hy, run_make64]) (h (w.alloc (.cells (zerosU8 64).toArray 5)) (Row.new w 5 (zerosU8 64)) (by simp) ((Below.refl _ _).alloc (Nat.le_refl _) _))
end
theorem Pl.rd_sec {m : Pl} (h : m.WF) (i p : Nat) : Sec (m.rd i p) := by
  unfold Pl.rd
  cases hl : lastAt (m.wt i) p with
  | none =>
    show Sec ((m.fl i).getD p zeros)
    by_cases hp : p < (m.fl i).length
    · rw [List.getD_eq_getElem?_getD, List.getElem?_eq_getElem hp]
      exact h.secs i _ (List.getElem_mem hp)
    · rw [List.getD_eq_getElem?_getD, List.getElem?_eq_none (by omega)]
      exact sec_zero
  | some b =>
    show Sec b
    unfold lastAt at hl
    cases hj : lastIdx (m.wt i) p with
    | none => rw [hj] at hl; cases hl
    | some j =>
      rw [hj] at hl
      simp only [Option.bind_some, Option.map_eq_some_iff] at hl
      obtain ⟨x, hx, rfl⟩ := hl
      exact h.wsec x (Pl.wt_mem (List.mem_of_getElem? hx)).1
theorem lastR_hit : ∀ (l : List Wr) (p : Nat), (∃ x ∈ l, x.place = p) → (lastR l p).isSome = true
  | [], _, h => by obtain ⟨x, hx, _⟩ := h; simp at hx
  | y :: r, p, h => by
    unfold lastR
    split
    · rfl
    · rename_i hn
      obtain ⟨x, hx, hp⟩ := h
      rcases List.mem_cons.1 hx with rfl | hx
      · exact absurd hp hn
      · exact lastR_hit r p ⟨x, hx, hp⟩
theorem Pl.there {m : Pl} (h : m.WF) (i p : Nat) (hi : i < m.n) (hp : p < m.len i) : p < (m.fl i).length ∨ (lastIdx (m.wt i) p).isSome = true := by
  unfold Pl.len at hp
  split at hp
  · rename_i ht
    by_cases hl : p < (m.fl i).length
    · exact Or.inl hl
    · refine Or.inr (lastR_hit _ _ ?_)
      have hj : p - (m.fl i).length < (m.wt i).length := by omega
      refine ⟨_, List.mem_reverse.2 (List.getElem_mem hj), ?_⟩
      have := (h.tapes i hi ht).2 (p - (m.fl i).length) _ (List.getElem?_eq_getElem hj)
      omega
  · rename_i ht
    left
    rw [h.disk i hi (by simpa using ht)]
    exact hp

set_option maxHeartbeats 400000 in
set_option maxRecDepth 100000 in
theorem readP_any {w : World} {c : Nat → Colour} {t g db cap : Nat} {gs : Nat → Nat} {m : Pl} (h : PlantAt w c t g db cap gs m) (hwf : m.WF) (hst : m.steps < 1099511627776) (hon : m.on = true) (i p : Nat) (hi : i < m.n) (hp : p < m.len i) :
    Calls Try.prog 20 #[ptr g, .int .i64 (i : Int), .int .i64 (p : Int)] w fun e w' => ∃ b, e = .returned (.tuple #[.slice (some ⟨b, 0, none⟩) 64 64, .int .i64 0]) ∧ w.heap.size ≤ b ∧ Row w' b 5 (bcells (m.rd i p)) ∧ Below w.heap.size w w' := by
  have c1 := h.c1
  rw [hon] at c1
  obtain ⟨L, hL⟩ : ∃ L, L = m.len i := ⟨_, rfl⟩
  rw [← hL] at hp
  obtain ⟨s, hs⟩ : ∃ s, s = m.rd i p := ⟨_, rfl⟩
  rw [← hs]
  have hsec : Sec s := by rw [hs]; exact Pl.rd_sec hwf i p
  have hL4 : L ≤ 4096 := by rw [hL]; exact Pl.len_le hwf i hi
  have hlen : (bcells s).length = 64 := by rw [bcells_length]; exact hsec.1
  have HP : Hid (PlantAt w c t g db cap gs m) := h
  have HL : Hid (L = m.len i) := hL
  have HS : Hid (s = m.rd i p) := hs
  have t1 : decide ((p : Int) < 0) = false := by simp
  have t2 : decide ((L : Int) ≤ (p : Int)) = false := by simp; omega
  have t3 : decide (L ≤ p) = false := by simp; omega
  clear h hL hs
  go_enter Try.func20, Try.ntmps20
  go_upto_region 6 with (first | (go_at_call 41; refine (device_at HP.out _ i rfl hi).mono ?_; rintro e wd ⟨rfl, rfl⟩) | (go_at_call 46; refine (length_is0 HP.out hwf hst i hi L HL.out).mono ?_; rintro e w2 ⟨rfl, k, rfl⟩))
  refine wp_region_lit ?_
  refine wpList_move (.tmp 8) rfl rfl (ptr (gs i)) rfl ?_
  refine wpList_move (.tmp 2) rfl rfl (.int .i64 (p : Int)) rfl ?_
  simp only [Act.put, List.setIfInBounds_toArray, List.set_cons_succ, List.set_cons_zero]
  refine wpList_callF en49 [.tmp 33, .tmp 34] _ rfl rfl [ptr (gs i), .int .i64 (p : Int)] rfl ?_
  have hrd := read_any ((HP.out.dev i hi).drewN k) p (by omega) (fun x hx => (hwf.wsec x (Pl.wt_mem hx).1).1) (Pl.there hwf i p hi (by rw [← HL.out]; exact hp)) (fun x hx => (hwf.secs i x hx).1) s HS.out.symm
  refine hrd.mono ?_
  clear hrd
  rintro e w3 ⟨rfl, b3⟩
  refine ⟨_, rfl, ?_⟩
  simp only [Act.put, List.setIfInBounds_toArray, List.set_cons_succ, List.set_cons_zero]
  refine wpList_alloc_store agg84 _ zero84 rfl rfl rfl rfl rfl (.tmp 35) rfl (bcells s) hlen rfl (bcells_one s) (fun _ => rfl) (fun _ => rfl) ?_
  intro w4 r4 s4 b4
  refine wpList_nil ?_
  simp only [Act.put, List.setIfInBounds_toArray, List.set_cons_succ, List.set_cons_zero]
  obtain ⟨q, hq⟩ : ∃ q, q = w3.heap.size := ⟨_, rfl⟩
  rw [← hq] at r4 s4 b4 ⊢
  have HB4 : Hid (Below wd.heap.size wd w4 ∧ wd.heap.size ≤ q) := by
    have hb3 : Below wd.heap.size wd w3 := (Below.drewN (Below.refl _ wd) k).trans b3
    have := b3.size
    have e : (wd.drewN k).heap.size = wd.heap.size := rfl
    exact ⟨hb3.trans (b4.mono (by omega)), by omega⟩
  clear b4 b3 hq
  go_upto_region 7 with fail
  refine wp_region_lit ?_
  refine wpList_make64 _ _ rfl rfl rfl rfl ?_
  intro w5 r5 s5 b5
  refine wpList_assign (.tmp 36) rfl rfl _ rfl ?_
  refine wpList_nil ?_
  simp only [Act.put, List.setIfInBounds_toArray, List.set_cons_succ, List.set_cons_zero]
  obtain ⟨q2, hq2⟩ : ∃ q2, q2 = w4.heap.size := ⟨_, rfl⟩
  rw [← hq2] at r5 s5 b5 ⊢
  have r45 : Row w5 q 84 (bcells s) := r4.later b5 (by omega)
  have HB5 : Hid (Below wd.heap.size wd w5 ∧ wd.heap.size ≤ q2 ∧ q < q2) := by
    have := HB4.out.1.size
    exact ⟨HB4.out.1.trans (b5.mono (by omega)), by omega, by omega⟩
  clear b5 s5 s4 r4 hq2 HB4
  go_upto_region 8 with fail
  refine wp_region_lit ?_
  refine wpList_move (.tmp 10) rfl rfl (.slice (some ⟨q2, 0, none⟩) 64 64) rfl ?_
  refine wpList_slice84 (.tmp 9) rfl rfl q 0 rfl ?_
  simp only [Act.put, List.setIfInBounds_toArray, List.set_cons_succ, List.set_cons_zero]
  refine wpList_copy_row (.tmp 37) (.tmp 38) rfl rfl q2 0 64 64 q 0 64 64 5 64 rfl rfl _ r5 s hsec.1 rfl (fun j hj => ?_) (by simp [zerosU8]) ?_
  · rw [Nat.zero_add, r45.cell]
    exact bcells_at s j hj
  intro w6 r6 s6 ch6
  refine wpList_nil ?_
  simp only [Act.put, List.setIfInBounds_toArray, List.set_cons_succ, List.set_cons_zero]
  rw [splice_all _ _ (by rw [hlen]; simp [zerosU8])] at r6
  have HB6 : Hid (Below wd.heap.size wd w6 ∧ wd.heap.size ≤ q2) := ⟨HB5.out.1.trans (ch6.below HB5.out.1.size (fun b hb e => by have := HB5.out.2.1; omega)), HB5.out.2.1⟩
  have R6 : Hid (Row w6 q2 5 (bcells s)) := r6
  clear r6 s6 ch6 r5 r45 HB5
  go_wp2
  go_ret2
  exact ⟨q2, rfl, HB6.out.2, R6.out, HB6.out.1⟩
/-- nothing is told: no power, or no such place -/
theorem readN_any {w : World} {c : Nat → Colour} {t g db cap : Nat} {gs : Nat → Nat} {m : Pl} (h : PlantAt w c t g db cap gs m) (hwf : m.WF) (hst : m.steps < 1099511627776) (d p : Int) (hno : ¬ (m.on = true ∧ m.has d ∧ 0 ≤ p ∧ p < (m.len d.toNat : Int))) :
    Calls Try.prog 20 #[ptr g, .int .i64 d, .int .i64 p] w fun e w' => e = .returned (.tuple #[.slice none 0 0, .int .i64 (if m.on then 31 else 2)]) ∧ ∃ n, w' = w.drewN n := by
  have c1 := h.c1
  have HP : Hid (PlantAt w c t g db cap gs m) := h
  clear h
  by_cases hon : m.on = false
  · rw [hon] at c1 ⊢
    go_enter Try.func20, Try.ntmps20
    go_wp2_with (go_at_call 41; refine (device_any HP.out d).mono ?_; rintro e w' ⟨⟨vd, rfl, _, _⟩, rfl⟩)
    go_ret2
    exact ⟨rfl, 0, rfl⟩
  · have hon' : m.on = true := by simpa using hon
    rw [hon'] at c1 ⊢
    by_cases hd : m.has d
    · obtain ⟨i, rfl⟩ : ∃ i : Nat, d = (i : Int) := ⟨d.toNat, by have := hd.1; omega⟩
      have hi : i < m.n := by have := hd.2; omega
      rw [Int.toNat_natCast] at hno
      obtain ⟨L, hL⟩ : ∃ L, L = m.len i := ⟨_, rfl⟩
      have HL : Hid (L = m.len i) := hL
      have hL4 : L ≤ 4096 := by rw [hL]; exact Pl.len_le hwf i hi
      by_cases hp0 : p < 0
      · have t1 : decide (p < 0) = true := by simpa using hp0
        clear hL hno
        go_enter Try.func20, Try.ntmps20
        go_wp2_with (go_at_call 41; refine (device_at HP.out _ i rfl hi).mono ?_; rintro e w' ⟨rfl, rfl⟩)
        go_ret2
        exact ⟨rfl, 0, rfl⟩
      · have t1 : decide (p < 0) = false := by simpa using hp0
        have t2 : decide ((L : Int) ≤ p) = true := by
          simp only [decide_eq_true_eq]
          rw [hL]
          have : ¬ p < (m.len i : Int) := fun hh => hno ⟨hon', hd, by omega, hh⟩
          omega
        clear hL hno
        go_enter Try.func20, Try.ntmps20
        go_wp2_with (first | (go_at_call 41; refine (device_at HP.out _ i rfl hi).mono ?_; rintro e wd ⟨rfl, rfl⟩) | (go_at_call 46; refine (length_is0 HP.out hwf hst i hi L HL.out).mono ?_; rintro e w2 ⟨rfl, k, rfl⟩))
        go_ret2
        exact ⟨rfl, k, rfl⟩
    · go_enter Try.func20, Try.ntmps20
      go_wp2_with (go_at_call 41; refine (device_no HP.out d hd).mono ?_; rintro e w' ⟨rfl, rfl⟩)
      go_ret2
      exact ⟨rfl, 0, rfl⟩
end Go.Proofs.Ytgkmegcejekbcaa

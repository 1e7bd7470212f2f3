/- A reader: a record. -/
import Derived.Test.YtncjmolhofnpbaaR9
namespace Go.Proofs.Ytncjmolhofnpbaa
open Go.RowKit

/-- the places that were read so far -/
def RpS (w : World) (g q2 q3 : Nat) (r : Rc) (l5 : List Nat) (W : World) (i : Nat) : Prop :=
  ∃ ps li vc, rdPs i l5 = some (ps, li) ∧ ps.length = i ∧ Ru g (cutW w g) q2 q3 W li (rcells { r with cp := ps } vc) ∧ POwn W w.heap.size vc ps ∧ w.heap.size ≤ W.heap.size ∧ w.heap.size ≤ q3
theorem rdPs_len (k : Nat) : ∀ {l t : List Nat} {ps : List Pc}, rdPs k l = some (ps, t) → ps.length = k := by
  induction k with
  | zero =>
    intro l t ps h
    injection h with h
    injection h with h1 h2
    subst h1
    rfl
  | succ k ih =>
    intro l t ps h
    rw [rdPs_succ] at h
    cases h1 : rdP l with
    | none => rw [h1] at h; cases h
    | some a =>
      rw [h1, Option.bind_some] at h
      cases h2 : rdPs k a.2 with
      | none => rw [h2] at h; cases h
      | some b =>
        rw [h2, Option.bind_some] at h
        injection h with h
        injection h with h3 h4
        subst h3
        simp [ih h2]
section
variable {w : World} {a : Act} {o : Oper}
theorem run_and1 (x : Operand) (ho : o.op = .binOp .and 3 x (.const (.int .i64 1)) 3) (d : Nat) (hd : d ≤ 3) (hx : a.eval x = .int .i64 (d : Nat)) : (execOp a.eval o).run Try.prog w = .ok (.value (.int .i64 ((d % 2 : Nat) : Int))) w := by
  have e : (a.eval (.const (.int .i64 1))) = .int .i64 1 := rfl
  simp only [execOp, ho, hx, e]
  obtain h | h | h | h : d = 0 ∨ d = 1 ∨ d = 2 ∨ d = 3 := by omega
  all_goals (subst h; rfl)
theorem run_and2 (x : Operand) (ho : o.op = .binOp .and 3 x (.const (.int .i64 2)) 3) (d : Nat) (hd : d ≤ 3) (hx : a.eval x = .int .i64 (d : Nat)) : (execOp a.eval o).run Try.prog w = .ok (.value (.int .i64 ((2 * (d / 2 % 2) : Nat) : Int))) w := by
  have e : (a.eval (.const (.int .i64 2))) = .int .i64 2 := rfl
  simp only [execOp, ho, hx, e]
  obtain h | h | h | h : d = 0 ∨ d = 1 ∨ d = 2 ∨ d = 3 := by omega
  all_goals (subst h; rfl)
theorem run_litP (x : Operand) (ho : o.op = .buildSlice 24 1 #[(0, x)]) (p : Pc) (hx : a.eval x = .agg (pcells p).toArray) : (execOp a.eval o).run Try.prog w = .ok (.value (.slice (some ⟨w.heap.size, 0, none⟩) 1 1)) (w.alloc (.cells (pcells p).toArray 43)) := by
  simp only [execOp, ho, List.map_toArray, List.map_cons, List.map_nil, hx, run_lit43, Sem.run_bind, Sem.run_pure, Result.andThen_ok]
end
set_option maxHeartbeats 4000000 in
theorem record_any (g : Nat) (l : List Nat) (w : World) (hr : RdAt w g l) :
    Calls Try.prog 29 #[ptr g] w fun e w' => Below g w w' ∧ ((rdR l = none ∧ e = .panicked GU) ∨ (∃ r l' vc, rdR l = some (r, l') ∧ e = .returned (.agg (rcells r vc).toArray) ∧ RdAt w' g l' ∧ Fine r ∧ POwn w' w.heap.size vc r.cp ∧ r.cp.length ≤ 255)) := by
  have hg : g < w.heap.size := hr.lt
  have HR : Hid (RdAt w g l ∧ g < w.heap.size) := ⟨hr, hg⟩
  clear hr
  obtain ⟨PQ, HPQ⟩ : ∃ PQ : Ending → World → Prop, Hid (PQ = fun e w' => Below g w w' ∧ ((rdR l = none ∧ e = .panicked GU) ∨ (∃ r l' vc, rdR l = some (r, l') ∧ e = .returned (.agg (rcells r vc).toArray) ∧ RdAt w' g l' ∧ Fine r ∧ POwn w' w.heap.size vc r.cp ∧ r.cp.length ≤ 255))) := ⟨_, rfl⟩
  rw [← HPQ.out]
  obtain ⟨v0, hv0⟩ : ∃ v, Loc (cutW w g) w [(g, 62, [v])] ∧ Off w g v l := (by
    obtain ⟨v, h1, h2⟩ := HR.out.1
    have hz := cutW_size w g (Nat.le_of_lt hg)
    refine ⟨v, ⟨by rw [hz]; exact cutW_below w g (Nat.le_of_lt hg), fun i q T cs e => ?_, fun i j a b e1 e2 hij => ?_⟩, h2⟩
    · match i, e with
      | 0, e => cases e; exact ⟨h1, by rw [hz]; exact Nat.le_refl _⟩
      | i + 1, e => simp at e
    · match i, j, e1, e2 with
      | 0, 0, _, _ => exact absurd rfl hij
      | i + 1, _, e1, _ => simp at e1
      | 0, j + 1, _, e2 => simp at e2)
  have R0 : Hid (Loc (cutW w g) w [(g, 62, [v0])]) := hv0.1
  have O0 : Hid (Off w g v0 l) := hv0.2
  clear hv0 HR
  go_enter Try.func29, Try.ntmps29
  go_upto_region 0 with fail
  refine wp_region_lit ?_
  refine wl rfl (ptr w.heap.size) _ (run_allocA (rcells rz (.slice none 0 0)) zero26 rfl) ?_
  obtain ⟨q2, hq⟩ : ∃ q, q = w.heap.size := ⟨_, rfl⟩
  obtain ⟨w1, hw⟩ : ∃ W, W = w.alloc (.cells (rcells rz (.slice none 0 0)).toArray 26) := ⟨_, rfl⟩
  have A1 : Hid (Loc (cutW w g) w1 [(g, 62, [v0]), (q2, 26, rcells rz (.slice none 0 0))] ∧ Off w1 g v0 l ∧ w.heap.size ≤ w1.heap.size) := (by
    have hb := below_alloc w (.cells (rcells rz (.slice none 0 0)).toArray 26)
    rw [hq, hw]
    exact ⟨R0.out.box 26 (rcells rz (.slice none 0 0)), O0.out.later (hb.mono (Nat.le_of_lt hg)), hb.size⟩)
  rw [← hq, ← hw]
  clear hq hw R0 O0
  simp only [Act.put, List.setIfInBounds_toArray, List.set_cons_succ, List.set_cons_zero]
  refine wpList_nil ?_
  go_upto_region 1 with fail
  refine wp_region_lit ?_
  refine wl rfl (ptr w1.heap.size) _ (run_allocA (rcells rz (.slice none 0 0)) zero26 rfl) ?_
  obtain ⟨q3, hq⟩ : ∃ q, q = w1.heap.size := ⟨_, rfl⟩
  obtain ⟨w2, hw⟩ : ∃ W, W = w1.alloc (.cells (rcells rz (.slice none 0 0)).toArray 26) := ⟨_, rfl⟩
  have A2 : Hid (Ru g (cutW w g) q2 q3 w2 l (rcells rz (.slice none 0 0)) ∧ w.heap.size ≤ w2.heap.size ∧ w.heap.size ≤ q3) := (by
    have hb := below_alloc w1 (.cells (rcells rz (.slice none 0 0)).toArray 26)
    rw [hq, hw]
    exact ⟨⟨v0, A1.out.1.box 26 (rcells rz (.slice none 0 0)), A1.out.2.1.later (hb.mono (by have := A1.out.2.2; omega)), cutW_size w g (Nat.le_of_lt hg)⟩, Nat.le_trans A1.out.2.2 hb.size, A1.out.2.2⟩)
  rw [← hq, ← hw]
  clear hq hw A1
  simp only [Act.put, List.setIfInBounds_toArray, List.set_cons_succ, List.set_cons_zero]
  refine wpList_nil ?_
  go_upto_region 2 with fail
  refine wp_region_lit ?_
  refine wl rfl (ptr g) _ (run_mvZ (.tmp 0) rfl (ptr g) rfl) ?_
  simp only [Act.put, List.setIfInBounds_toArray, List.set_cons_succ, List.set_cons_zero]
  refine wpList_callP eN32 [.tmp 6] _ rfl rfl [(ptr g)] rfl ?_
  refine (entry_any g l w2 A2.out.1.rd).mono ?_
  rintro e u3x ⟨hc, ⟨hno, rfl⟩ | ⟨id, n, root, l1, hso, rfl, r1, b1, b2⟩⟩
  · refine Or.inr ⟨_, rfl, ?_⟩
    refine ⟨rfl, ?_⟩
    rw [HPQ.out]
    have hb : Below g w2 u3x := hc.under (by have := A2.out.2.1; omega)
    exact ⟨below_cut (A2.out.1.under.trans hb) (Nat.le_of_lt hg) (Nat.le_trans A2.out.2.1 hb.size), Or.inl ⟨by rw [rdR_eq, hno]; rfl, rfl⟩⟩
  refine Or.inl ⟨_, rfl, ?_⟩
  obtain ⟨r3, hr3⟩ : ∃ r : Rc, r = rz := ⟨_, rfl⟩
  have HR32 : Hid (root.length = 32) := (by
    obtain ⟨v, q1, q2'⟩ := A2.out.1.rd
    exact (rdE_some (SliceIn.lt256 q2'.1) hso).2.2)
  have HE : Hid (rdE l = some ((id, n, root), l1) ∧ (∀ c ∈ id, c < 256) ∧ (∀ c ∈ root, c < 256)) := ⟨hso, b1, b2⟩
  have H3 : Hid (Ru g (cutW w g) q2 q3 u3x l1 (rcells r3 (.slice none 0 0)) ∧ w.heap.size ≤ u3x.heap.size ∧ w.heap.size ≤ q3 ∧ Fine r3 ∧ r3.cp = [] ∧ r3 = rz) := (by
    rw [hr3]
    exact ⟨A2.out.1.step hc r1, Nat.le_trans A2.out.2.1 hc.size, A2.out.2.2, rz_fine, rfl, rfl⟩)
  clear hc hso r1 b1 b2 A2 hr3
  simp only [Act.put, List.setIfInBounds_toArray, List.set_cons_succ, List.set_cons_zero]
  refine wl rfl (.tuple #[(str id), (.int .i64 (n : Nat)), (.agg (bcells root).toArray)]) _ (run_mvZ (.tmp 7) rfl (.tuple #[(str id), (.int .i64 (n : Nat)), (.agg (bcells root).toArray)]) rfl) ?_
  simp only [Act.put, List.setIfInBounds_toArray, List.set_cons_succ, List.set_cons_zero]
  refine wl rfl (str id) _ (run_extZ (.tmp 5) 0 rfl #[(str id), (.int .i64 (n : Nat)), (.agg (bcells root).toArray)] rfl (str id) rfl) ?_
  simp only [Act.put, List.setIfInBounds_toArray, List.set_cons_succ, List.set_cons_zero]
  refine wl rfl (.int .i64 (n : Nat)) _ (run_extZ (.tmp 5) 1 rfl #[(str id), (.int .i64 (n : Nat)), (.agg (bcells root).toArray)] rfl (.int .i64 (n : Nat)) rfl) ?_
  simp only [Act.put, List.setIfInBounds_toArray, List.set_cons_succ, List.set_cons_zero]
  refine wl rfl (.agg (bcells root).toArray) _ (run_extZ (.tmp 5) 2 rfl #[(str id), (.int .i64 (n : Nat)), (.agg (bcells root).toArray)] rfl (.agg (bcells root).toArray) rfl) ?_
  simp only [Act.put, List.setIfInBounds_toArray, List.set_cons_succ, List.set_cons_zero]
  refine wl rfl (.pointer (some ⟨q3, 0 + 0, none⟩)) _ (run_fieldOp' f26_0 (.tmp 3) rfl q3 (0) rfl) ?_
  simp only [Act.put, List.setIfInBounds_toArray, List.set_cons_succ, List.set_cons_zero]
  refine wl_put (t := 9) (by kernel_rfl) (.tmp 11) (.tmp 8) rfl rfl rfl q3 (0 + 0) 26 (rcells r3 (.slice none 0 0)) rfl (str id) rfl ⟨rfl, rfl⟩ H3.out.1.row (by rw [rcells_length _ H3.out.2.2.2.1.1]; decide) ?_
  obtain ⟨r4, hr4⟩ : ∃ r : Rc, r = { r3 with id := id } := ⟨_, rfl⟩
  obtain ⟨u4x, hw⟩ : ∃ W, W = u3x.setCell ⟨q3, 0 + 0, none⟩ (str id) := ⟨_, rfl⟩
  have H4 : Hid (Ru g (cutW w g) q2 q3 u4x l1 (rcells r4 (.slice none 0 0)) ∧ w.heap.size ≤ u4x.heap.size ∧ w.heap.size ≤ q3 ∧ Fine r4 ∧ r4.cp = [] ∧ r4 = { rz with id := id }) := (by
    have h := H3.out
    have hc : Ch (· = q3) u3x u4x := hw ▸ (Ch.refl (· = q3) u3x).setCell (g := q3) (Or.inl rfl) _ _
    have hrow : Row u4x q3 26 (rcells r4 (.slice none 0 0)) := (by
      have h2 := row_cell' (i := 0 + 0) H3.out.1.row (str id)
      rw [← hw] at h2
      rw [hr4, ← show (rcells r3 (.slice none 0 0)).set 0 (str id) = rcells { r3 with id := id } (.slice none 0 0) from rfl]
      exact h2)
    exact ⟨h.1.put hc hrow, Nat.le_trans h.2.1 hc.size, h.2.2.1, (by rw [hr4]; exact ⟨h.2.2.2.1.1, HE.out.2.1, h.2.2.2.1.2.2⟩), (by rw [hr4]; exact h.2.2.2.2.1), (by rw [hr4, h.2.2.2.2.2])⟩)
  rw [← hw]
  clear hw H3 hr4
  refine wl rfl (.pointer (some ⟨q3, 0 + 1, none⟩)) _ (run_fieldOp' f26_1 (.tmp 3) rfl q3 (0) rfl) ?_
  simp only [Act.put, List.setIfInBounds_toArray, List.set_cons_succ, List.set_cons_zero]
  refine wl_put (t := 3) (by kernel_rfl) (.tmp 12) (.tmp 9) rfl rfl rfl q3 (0 + 1) 26 (rcells r4 (.slice none 0 0)) rfl (.int .i64 (n : Nat)) rfl ⟨rfl, rfl⟩ H4.out.1.row (by rw [rcells_length _ H4.out.2.2.2.1.1]; decide) ?_
  obtain ⟨r5, hr5⟩ : ∃ r : Rc, r = { r4 with length := (n : Nat) } := ⟨_, rfl⟩
  obtain ⟨u5x, hw⟩ : ∃ W, W = u4x.setCell ⟨q3, 0 + 1, none⟩ (.int .i64 (n : Nat)) := ⟨_, rfl⟩
  have H5 : Hid (Ru g (cutW w g) q2 q3 u5x l1 (rcells r5 (.slice none 0 0)) ∧ w.heap.size ≤ u5x.heap.size ∧ w.heap.size ≤ q3 ∧ Fine r5 ∧ r5.cp = [] ∧ r5 = { rz with id := id, length := (n : Nat) }) := (by
    have h := H4.out
    have hc : Ch (· = q3) u4x u5x := hw ▸ (Ch.refl (· = q3) u4x).setCell (g := q3) (Or.inl rfl) _ _
    have hrow : Row u5x q3 26 (rcells r5 (.slice none 0 0)) := (by
      have h2 := row_cell' (i := 0 + 1) H4.out.1.row (.int .i64 (n : Nat))
      rw [← hw] at h2
      rw [hr5, ← show (rcells r4 (.slice none 0 0)).set 1 (.int .i64 (n : Nat)) = rcells { r4 with length := (n : Nat) } (.slice none 0 0) from rfl]
      exact h2)
    exact ⟨h.1.put hc hrow, Nat.le_trans h.2.1 hc.size, h.2.2.1, (by rw [hr5]; exact h.2.2.2.1), (by rw [hr5]; exact h.2.2.2.2.1), (by rw [hr5, h.2.2.2.2.2])⟩)
  rw [← hw]
  clear hw H4 hr5
  refine wl rfl (.pointer (some ⟨q3, 0 + 2, none⟩)) _ (run_fieldOp' f26_2 (.tmp 3) rfl q3 (0) rfl) ?_
  simp only [Act.put, List.setIfInBounds_toArray, List.set_cons_succ, List.set_cons_zero]
  have hst := run_storeVar ag23 u5x q3 (0 + 2) 26 (rcells r5 (.slice none 0 0)) (bcells root) (bc32 HR32.out) H5.out.1.row (by rw [rcells_length _ H5.out.2.2.2.1.1, bc32 HR32.out]; decide) (bcells_one _)
  refine wlS rfl rfl _ (run_stV (.tmp 13) (.tmp 10) rfl q3 (0 + 2) rfl _ rfl hst) ?_
  clear hst
  obtain ⟨r6, hr6⟩ : ∃ r : Rc, r = { r5 with root := root } := ⟨_, rfl⟩
  obtain ⟨u6x, hw⟩ : ∃ W, W = u5x.setRow q3 (splice (rcells r5 (.slice none 0 0)) (0 + 2) (bcells root)).toArray := ⟨_, rfl⟩
  have H6 : Hid (Ru g (cutW w g) q2 q3 u6x l1 (rcells r6 (.slice none 0 0)) ∧ w.heap.size ≤ u6x.heap.size ∧ w.heap.size ≤ q3 ∧ Fine r6 ∧ r6.cp = [] ∧ rdR l = k1 r6 l1) := (by
    have h := H5.out
    have hc : Ch (· = q3) u5x u6x := hw ▸ (Ch.refl (· = q3) u5x).setRow (g := q3) (Or.inl rfl) _
    have hrow : Row u6x q3 26 (rcells r6 (.slice none 0 0)) := (by
      have h2 := H5.out.1.row.setRow (splice (rcells r5 (.slice none 0 0)) (0 + 2) (bcells root))
      rw [← hw] at h2
      rw [hr6, ← set2 r5 (.slice none 0 0) h.2.2.2.1.1 root HR32.out]
      exact h2)
    exact ⟨h.1.put hc hrow, Nat.le_trans h.2.1 hc.size, h.2.2.1, (by rw [hr6]; exact ⟨HR32.out, h.2.2.2.1.2.1, HE.out.2.2⟩), (by rw [hr6]; exact h.2.2.2.2.1), (by rw [hr6, h.2.2.2.2.2, rdR_eq, HE.out.1]; rfl)⟩)
  rw [← hw]
  clear hw H5 hr6
  refine wpList_nil ?_
  clear HE HR32
  go_upto_region 3 with fail
  refine wp_region_lit ?_
  refine wl rfl (ptr g) _ (run_mvZ (.tmp 0) rfl (ptr g) rfl) ?_
  simp only [Act.put, List.setIfInBounds_toArray, List.set_cons_succ, List.set_cons_zero]
  refine wpList_callP eN39 [.tmp 14, .const ((.int .i64 4))] _ rfl rfl [(ptr g), (.int .i64 4)] rfl ?_
  refine (number_any g 4 l1 u6x H6.out.1.rd (by decide) (by decide)).mono ?_
  rintro e c6x ⟨hc, ⟨hno, rfl⟩ | ⟨x6, l2, hso, rfl, r1⟩⟩
  · refine Or.inr ⟨_, rfl, ?_⟩
    refine ⟨rfl, ?_⟩
    rw [HPQ.out]
    have hb : Below g u6x c6x := hc.under (by have := H6.out.2.1; omega)
    exact ⟨below_cut (H6.out.1.under.trans hb) (Nat.le_of_lt hg) (Nat.le_trans H6.out.2.1 hb.size), Or.inl ⟨by rw [H6.out.2.2.2.2.2, k1, hno]; rfl, rfl⟩⟩
  refine Or.inl ⟨_, rfl, ?_⟩
  have G6 : Hid (Ru g (cutW w g) q2 q3 c6x l2 (rcells r6 (.slice none 0 0)) ∧ w.heap.size ≤ c6x.heap.size ∧ w.heap.size ≤ q3 ∧ Fine r6 ∧ r6.cp = [] ∧ rdR l = k2 { r6 with index := (x6 : Nat) } l2) := ⟨H6.out.1.step hc r1, Nat.le_trans H6.out.2.1 hc.size, H6.out.2.2.1, H6.out.2.2.2.1, H6.out.2.2.2.2.1, by rw [H6.out.2.2.2.2.2, k1, hso]; rfl⟩
  clear hc hso r1 H6
  simp only [Act.put, List.setIfInBounds_toArray, List.set_cons_succ, List.set_cons_zero]
  refine wl rfl (.pointer (some ⟨q3, 0 + 34, none⟩)) _ (run_fieldOp' f26_3 (.tmp 3) rfl q3 (0) rfl) ?_
  simp only [Act.put, List.setIfInBounds_toArray, List.set_cons_succ, List.set_cons_zero]
  refine wl_put (t := 3) (by kernel_rfl) (.tmp 16) (.tmp 15) rfl rfl rfl q3 (0 + 34) 26 (rcells r6 (.slice none 0 0)) rfl (.int .i64 (x6 : Nat)) rfl ⟨rfl, rfl⟩ G6.out.1.row (by rw [rcells_length _ G6.out.2.2.2.1.1]; decide) ?_
  obtain ⟨r7, hr7⟩ : ∃ r : Rc, r = { r6 with index := (x6 : Nat) } := ⟨_, rfl⟩
  obtain ⟨u7x, hw⟩ : ∃ W, W = c6x.setCell ⟨q3, 0 + 34, none⟩ (.int .i64 (x6 : Nat)) := ⟨_, rfl⟩
  have H7 : Hid (Ru g (cutW w g) q2 q3 u7x l2 (rcells r7 (.slice none 0 0)) ∧ w.heap.size ≤ u7x.heap.size ∧ w.heap.size ≤ q3 ∧ Fine r7 ∧ r7.cp = [] ∧ rdR l = k2 r7 l2) := (by
    have h := G6.out
    have hc : Ch (· = q3) c6x u7x := hw ▸ (Ch.refl (· = q3) c6x).setCell (g := q3) (Or.inl rfl) _ _
    have hrow : Row u7x q3 26 (rcells r7 (.slice none 0 0)) := (by
      have h2 := row_cell' (i := 0 + 34) h.1.row (.int .i64 (x6 : Nat))
      rw [← hw] at h2
      rw [hr7, ← set34 r6 _ h.2.2.2.1.1]
      exact h2)
    exact ⟨h.1.put hc hrow, Nat.le_trans h.2.1 hc.size, h.2.2.1, (by rw [hr7]; exact h.2.2.2.1), (by rw [hr7]; exact h.2.2.2.2.1), (by rw [hr7, h.2.2.2.2.2])⟩)
  rw [← hw]
  clear hw G6 hr7
  refine wpList_nil ?_
  go_upto_region 4 with fail
  refine wp_region_lit ?_
  refine wl rfl (ptr g) _ (run_mvZ (.tmp 0) rfl (ptr g) rfl) ?_
  simp only [Act.put, List.setIfInBounds_toArray, List.set_cons_succ, List.set_cons_zero]
  refine wpList_callP eN39 [.tmp 17, .const ((.int .i64 6))] _ rfl rfl [(ptr g), (.int .i64 6)] rfl ?_
  refine (number_any g 6 l2 u7x H7.out.1.rd (by decide) (by decide)).mono ?_
  rintro e c7x ⟨hc, ⟨hno, rfl⟩ | ⟨x7, l3, hso, rfl, r1⟩⟩
  · refine Or.inr ⟨_, rfl, ?_⟩
    refine ⟨rfl, ?_⟩
    rw [HPQ.out]
    have hb : Below g u7x c7x := hc.under (by have := H7.out.2.1; omega)
    exact ⟨below_cut (H7.out.1.under.trans hb) (Nat.le_of_lt hg) (Nat.le_trans H7.out.2.1 hb.size), Or.inl ⟨by rw [H7.out.2.2.2.2.2, k2, hno]; rfl, rfl⟩⟩
  refine Or.inl ⟨_, rfl, ?_⟩
  have G7 : Hid (Ru g (cutW w g) q2 q3 c7x l3 (rcells r7 (.slice none 0 0)) ∧ w.heap.size ≤ c7x.heap.size ∧ w.heap.size ≤ q3 ∧ Fine r7 ∧ r7.cp = [] ∧ rdR l = k3 { r7 with expiry := (x7 : Nat) } l3) := ⟨H7.out.1.step hc r1, Nat.le_trans H7.out.2.1 hc.size, H7.out.2.2.1, H7.out.2.2.2.1, H7.out.2.2.2.2.1, by rw [H7.out.2.2.2.2.2, k2, hso]; rfl⟩
  clear hc hso r1 H7
  simp only [Act.put, List.setIfInBounds_toArray, List.set_cons_succ, List.set_cons_zero]
  refine wl rfl (.pointer (some ⟨q3, 0 + 35, none⟩)) _ (run_fieldOp' f26_4 (.tmp 3) rfl q3 (0) rfl) ?_
  simp only [Act.put, List.setIfInBounds_toArray, List.set_cons_succ, List.set_cons_zero]
  refine wl_put (t := 3) (by kernel_rfl) (.tmp 19) (.tmp 18) rfl rfl rfl q3 (0 + 35) 26 (rcells r7 (.slice none 0 0)) rfl (.int .i64 (x7 : Nat)) rfl ⟨rfl, rfl⟩ G7.out.1.row (by rw [rcells_length _ G7.out.2.2.2.1.1]; decide) ?_
  obtain ⟨r8, hr8⟩ : ∃ r : Rc, r = { r7 with expiry := (x7 : Nat) } := ⟨_, rfl⟩
  obtain ⟨u8x, hw⟩ : ∃ W, W = c7x.setCell ⟨q3, 0 + 35, none⟩ (.int .i64 (x7 : Nat)) := ⟨_, rfl⟩
  have H8 : Hid (Ru g (cutW w g) q2 q3 u8x l3 (rcells r8 (.slice none 0 0)) ∧ w.heap.size ≤ u8x.heap.size ∧ w.heap.size ≤ q3 ∧ Fine r8 ∧ r8.cp = [] ∧ rdR l = k3 r8 l3) := (by
    have h := G7.out
    have hc : Ch (· = q3) c7x u8x := hw ▸ (Ch.refl (· = q3) c7x).setCell (g := q3) (Or.inl rfl) _ _
    have hrow : Row u8x q3 26 (rcells r8 (.slice none 0 0)) := (by
      have h2 := row_cell' (i := 0 + 35) h.1.row (.int .i64 (x7 : Nat))
      rw [← hw] at h2
      rw [hr8, ← set35 r7 _ h.2.2.2.1.1]
      exact h2)
    exact ⟨h.1.put hc hrow, Nat.le_trans h.2.1 hc.size, h.2.2.1, (by rw [hr8]; exact h.2.2.2.1), (by rw [hr8]; exact h.2.2.2.2.1), (by rw [hr8, h.2.2.2.2.2])⟩)
  rw [← hw]
  clear hw G7 hr8
  refine wpList_nil ?_
  go_upto_region 5 with fail
  refine wp_region_lit ?_
  refine wl rfl (ptr g) _ (run_mvZ (.tmp 0) rfl (ptr g) rfl) ?_
  simp only [Act.put, List.setIfInBounds_toArray, List.set_cons_succ, List.set_cons_zero]
  refine wpList_callP eN40 [.tmp 20, .const ((.int .i64 3))] _ rfl rfl [(ptr g), (.int .i64 3)] rfl ?_
  refine (upTo_any g 3 l3 u8x H8.out.1.rd).mono ?_
  rintro e c8x ⟨hc, ⟨hno, rfl⟩ | ⟨d, l4, hso, rfl, r1⟩⟩
  · refine Or.inr ⟨_, rfl, ?_⟩
    refine ⟨rfl, ?_⟩
    rw [HPQ.out]
    have hb : Below g u8x c8x := hc.under (by have := H8.out.2.1; omega)
    exact ⟨below_cut (H8.out.1.under.trans hb) (Nat.le_of_lt hg) (Nat.le_trans H8.out.2.1 hb.size), Or.inl ⟨by rw [H8.out.2.2.2.2.2, k3, hno]; rfl, rfl⟩⟩
  refine Or.inl ⟨_, rfl, ?_⟩
  have hd3 : d ≤ 3 := (by
    obtain ⟨vv, _, q2'⟩ := H8.out.1.rd
    exact (upTo_some (SliceIn.lt256 q2'.1) hso).2.1)
  have HD : Hid (d ≤ 3) := hd3
  have G8 : Hid (Ru g (cutW w g) q2 q3 c8x l4 (rcells r8 (.slice none 0 0)) ∧ w.heap.size ≤ c8x.heap.size ∧ w.heap.size ≤ q3 ∧ Fine r8 ∧ r8.cp = [] ∧ rdR l = k4 { r8 with hold := decide (d % 2 = 1), gone := decide (d / 2 % 2 = 1) } l4) := ⟨H8.out.1.step hc r1, Nat.le_trans H8.out.2.1 hc.size, H8.out.2.2.1, H8.out.2.2.2.1, H8.out.2.2.2.2.1, by rw [H8.out.2.2.2.2.2, k3, hso]; rfl⟩
  clear hc hso r1 H8 hd3
  simp only [Act.put, List.setIfInBounds_toArray, List.set_cons_succ, List.set_cons_zero]
  refine wl rfl (.int .i64 (d : Nat)) _ (run_asZ (.tmp 21) rfl (.int .i64 (d : Nat)) rfl) ?_
  simp only [Act.put, List.setIfInBounds_toArray, List.set_cons_succ, List.set_cons_zero]
  refine wpList_nil ?_
  go_upto_region 6 with fail
  refine wp_region_lit ?_
  refine wl rfl (.int .i64 (d : Nat)) _ (run_mvZ (.tmp 4) rfl (.int .i64 (d : Nat)) rfl) ?_
  simp only [Act.put, List.setIfInBounds_toArray, List.set_cons_succ, List.set_cons_zero]
  refine wl rfl (.int .i64 ((d % 2 : Nat) : Int)) _ (run_and1 (.tmp 22) rfl d HD.out rfl) ?_
  simp only [Act.put, List.setIfInBounds_toArray, List.set_cons_succ, List.set_cons_zero]
  refine wl rfl (.bool (decide (d % 2 = 1))) _ (run_neZ (.tmp 23) (.const (.int .i64 0)) rfl ((d % 2 : Nat) : Int) 0 rfl rfl _ (by rw [Bool.eq_iff_iff]; simp; omega)) ?_
  simp only [Act.put, List.setIfInBounds_toArray, List.set_cons_succ, List.set_cons_zero]
  refine wl rfl (.int .i64 (d : Nat)) _ (run_mvZ (.tmp 4) rfl (.int .i64 (d : Nat)) rfl) ?_
  simp only [Act.put, List.setIfInBounds_toArray, List.set_cons_succ, List.set_cons_zero]
  refine wl rfl (.int .i64 ((2 * (d / 2 % 2) : Nat) : Int)) _ (run_and2 (.tmp 25) rfl d HD.out rfl) ?_
  simp only [Act.put, List.setIfInBounds_toArray, List.set_cons_succ, List.set_cons_zero]
  refine wl rfl (.bool (decide (d / 2 % 2 = 1))) _ (run_neZ (.tmp 26) (.const (.int .i64 0)) rfl ((2 * (d / 2 % 2) : Nat) : Int) 0 rfl rfl _ (by rw [Bool.eq_iff_iff]; simp; omega)) ?_
  simp only [Act.put, List.setIfInBounds_toArray, List.set_cons_succ, List.set_cons_zero]
  refine wl rfl (.pointer (some ⟨q3, 0 + 36, none⟩)) _ (run_fieldOp' f26_5 (.tmp 3) rfl q3 (0) rfl) ?_
  simp only [Act.put, List.setIfInBounds_toArray, List.set_cons_succ, List.set_cons_zero]
  refine wl_put (t := 4) (by kernel_rfl) (.tmp 28) (.tmp 24) rfl rfl rfl q3 (0 + 36) 26 (rcells r8 (.slice none 0 0)) rfl (.bool (decide (d % 2 = 1))) rfl ⟨rfl, rfl⟩ G8.out.1.row (by rw [rcells_length _ G8.out.2.2.2.1.1]; decide) ?_
  obtain ⟨r9, hr9⟩ : ∃ r : Rc, r = { r8 with hold := decide (d % 2 = 1) } := ⟨_, rfl⟩
  obtain ⟨u9x, hw⟩ : ∃ W, W = c8x.setCell ⟨q3, 0 + 36, none⟩ (.bool (decide (d % 2 = 1))) := ⟨_, rfl⟩
  have H9 : Hid (Ru g (cutW w g) q2 q3 u9x l4 (rcells r9 (.slice none 0 0)) ∧ w.heap.size ≤ u9x.heap.size ∧ w.heap.size ≤ q3 ∧ Fine r9 ∧ r9.cp = [] ∧ rdR l = k4 { r9 with gone := decide (d / 2 % 2 = 1) } l4) := (by
    have h := G8.out
    have hc : Ch (· = q3) c8x u9x := hw ▸ (Ch.refl (· = q3) c8x).setCell (g := q3) (Or.inl rfl) _ _
    have hrow : Row u9x q3 26 (rcells r9 (.slice none 0 0)) := (by
      have h2 := row_cell' (i := 0 + 36) h.1.row (.bool (decide (d % 2 = 1)))
      rw [← hw] at h2
      rw [hr9, ← set36 r8 _ h.2.2.2.1.1]
      exact h2)
    exact ⟨h.1.put hc hrow, Nat.le_trans h.2.1 hc.size, h.2.2.1, (by rw [hr9]; exact h.2.2.2.1), (by rw [hr9]; exact h.2.2.2.2.1), (by rw [hr9, h.2.2.2.2.2])⟩)
  rw [← hw]
  clear hw G8 hr9
  refine wl rfl (.pointer (some ⟨q3, 0 + 37, none⟩)) _ (run_fieldOp' f26_6 (.tmp 3) rfl q3 (0) rfl) ?_
  simp only [Act.put, List.setIfInBounds_toArray, List.set_cons_succ, List.set_cons_zero]
  refine wl_put (t := 4) (by kernel_rfl) (.tmp 29) (.tmp 27) rfl rfl rfl q3 (0 + 37) 26 (rcells r9 (.slice none 0 0)) rfl (.bool (decide (d / 2 % 2 = 1))) rfl ⟨rfl, rfl⟩ H9.out.1.row (by rw [rcells_length _ H9.out.2.2.2.1.1]; decide) ?_
  obtain ⟨r10, hr10⟩ : ∃ r : Rc, r = { r9 with gone := decide (d / 2 % 2 = 1) } := ⟨_, rfl⟩
  obtain ⟨u10x, hw⟩ : ∃ W, W = u9x.setCell ⟨q3, 0 + 37, none⟩ (.bool (decide (d / 2 % 2 = 1))) := ⟨_, rfl⟩
  have H10 : Hid (Ru g (cutW w g) q2 q3 u10x l4 (rcells r10 (.slice none 0 0)) ∧ w.heap.size ≤ u10x.heap.size ∧ w.heap.size ≤ q3 ∧ Fine r10 ∧ r10.cp = [] ∧ rdR l = k4 r10 l4) := (by
    have h := H9.out
    have hc : Ch (· = q3) u9x u10x := hw ▸ (Ch.refl (· = q3) u9x).setCell (g := q3) (Or.inl rfl) _ _
    have hrow : Row u10x q3 26 (rcells r10 (.slice none 0 0)) := (by
      have h2 := row_cell' (i := 0 + 37) h.1.row (.bool (decide (d / 2 % 2 = 1)))
      rw [← hw] at h2
      rw [hr10, ← set37 r9 _ h.2.2.2.1.1]
      exact h2)
    exact ⟨h.1.put hc hrow, Nat.le_trans h.2.1 hc.size, h.2.2.1, (by rw [hr10]; exact h.2.2.2.1), (by rw [hr10]; exact h.2.2.2.2.1), (by rw [hr10, h.2.2.2.2.2])⟩)
  rw [← hw]
  clear hw H9 hr10
  refine wpList_nil ?_
  go_upto_region 7 with fail
  refine wp_region_lit ?_
  refine wl rfl (ptr g) _ (run_mvZ (.tmp 0) rfl (ptr g) rfl) ?_
  simp only [Act.put, List.setIfInBounds_toArray, List.set_cons_succ, List.set_cons_zero]
  refine wpList_callP eN39 [.tmp 30, .const ((.int .i64 1))] _ rfl rfl [(ptr g), (.int .i64 1)] rfl ?_
  refine (number_any g 1 l4 u10x H10.out.1.rd (by decide) (by decide)).mono ?_
  rintro e c10x ⟨hc, ⟨hno, rfl⟩ | ⟨k, l5, hso, rfl, r1⟩⟩
  · refine Or.inr ⟨_, rfl, ?_⟩
    refine ⟨rfl, ?_⟩
    rw [HPQ.out]
    have hb : Below g u10x c10x := hc.under (by have := H10.out.2.1; omega)
    exact ⟨below_cut (H10.out.1.under.trans hb) (Nat.le_of_lt hg) (Nat.le_trans H10.out.2.1 hb.size), Or.inl ⟨by rw [H10.out.2.2.2.2.2, k4, hno]; rfl, rfl⟩⟩
  refine Or.inl ⟨_, rfl, ?_⟩
  have hk256 : k < 256 := (by
    obtain ⟨vv, _, q2'⟩ := H10.out.1.rd
    simpa using (num_some (SliceIn.lt256 q2'.1) hso).2)
  have HK : Hid (k < 256 ∧ Fine r10 ∧ rdR l = k5 r10 k l5) := ⟨hk256, H10.out.2.2.2.1, by rw [H10.out.2.2.2.2.2, k4, hso]; rfl⟩
  have G0 : Hid (RpS w g q2 q3 r10 l5 c10x 0) := (by
    have h := H10.out
    refine ⟨[], l5, (.slice none 0 0), rfl, rfl, ?_, POwn.nil _ _, Nat.le_trans h.2.1 hc.size, h.2.2.1⟩
    have e : ({ r10 with cp := [] } : Rc) = r10 := (by rw [← h.2.2.2.2.1])
    rw [e]
    exact h.1.step hc r1)
  clear hc hso r1 H10 hk256
  simp only [Act.put, List.setIfInBounds_toArray, List.set_cons_succ, List.set_cons_zero]
  refine wl rfl (.int .i64 0) _ (run_mvZ (.const (.int .i64 0)) rfl (.int .i64 0) rfl) ?_
  simp only [Act.put, List.setIfInBounds_toArray, List.set_cons_succ, List.set_cons_zero]
  refine wpList_nil ?_
  go_wp2_with fail
  go_loopw [32] (fun vi W => ∃ i : Nat, vi = .int .i64 (i : Nat) ∧ i ≤ k ∧ RpS w g q2 q3 r10 l5 W i) (fun vi _ => k - (intOf vi).toNat)
  case atStart => exact ⟨0, rfl, Nat.zero_le _, G0.out⟩
  case round =>
    obtain ⟨i, rfl, hi, hS0⟩ := hrel
    have hk : k < 256 := HK.out.1
    by_cases hlt : i < k
    · have t1 : decide ((i : Int) < (k : Int)) = true := decide_eq_true (by omega)
      obtain ⟨ps, li, vc, hps, hpl, hru, hpo, hz1, hz2⟩ := hS0
      have GI : Hid (rdPs i l5 = some (ps, li) ∧ ps.length = i ∧ Ru g (cutW w g) q2 q3 wr li (rcells { r10 with cp := ps } vc) ∧ POwn wr w.heap.size vc ps ∧ w.heap.size ≤ wr.heap.size ∧ w.heap.size ≤ q3) := ⟨hps, hpl, hru, hpo, hz1, hz2⟩
      clear hps hpl hru hpo hz1 hz2 G0
      go_upto_region 9 with fail
      refine wp_region_until (S := fun X => Row X q3 26 (rcells { r10 with cp := ps } vc)) 7 (by kernel_rfl) ?_
      show wpAnyU _ _ _ _ _ _ 8 (Array.replicate 8 false) _ _
      obtain ⟨X, hX⟩ : ∃ X : World, X = { wr with drawn := wr.drawn + 1 } := ⟨_, rfl⟩
      rw [← hX]
      have hS : Ru g (cutW w g) q2 q3 X li (rcells { r10 with cp := ps } vc) ∧ POwn X w.heap.size vc ps ∧ w.heap.size ≤ X.heap.size ∧ w.heap.size ≤ q3 ∧ ps.length = i := (by rw [hX]; exact ⟨GI.out.2.2.1.later ⟨rfl, rfl, rfl, Nat.le_refl _, fun _ _ => rfl⟩, GI.out.2.2.2.1.later ⟨rfl, rfl, rfl, Nat.le_refl _, fun _ _ => rfl⟩, GI.out.2.2.2.2.1, GI.out.2.2.2.2.2, GI.out.2.1⟩)
      clear hX
      refine takeV (i := 0) [7] (some 34) rfl rfl (by kernel_rfl) (by kernel_rfl) (by kernel_rfl) (by kernel_rfl) (fun _ _ _ h => h) (gRun rfl (.pointer (some ⟨q3, 0 + 38, none⟩)) fun _ h => run_fieldOp' f26_7 (.tmp 3) rfl q3 (0) rfl) hS.1.row ?_
      simp only [Act.put, List.setIfInBounds_toArray, List.set_cons_succ, List.set_cons_zero]
      refine takeV (i := 1) [7] (some 35) rfl rfl (by kernel_rfl) (by kernel_rfl) (by kernel_rfl) (by kernel_rfl) (fun _ _ _ h => h) (gRun rfl vc fun _ h => run_load1 o24 (.tmp 34) rfl q3 (0 + 38) rfl vc (h.at 38 _ (rcB vc HK.out.2.1.1 4))) hS.1.row ?_
      simp only [Act.put, List.setIfInBounds_toArray, List.set_cons_succ, List.set_cons_zero]
      refine takeV (i := 2) [7] (some 36) rfl rfl (by kernel_rfl) (by kernel_rfl) (by kernel_rfl) (by kernel_rfl) (fun _ _ _ h => h) (gRun rfl (ptr g) fun _ h => run_mvZ (.tmp 0) rfl (ptr g) rfl) hS.1.row ?_
      simp only [Act.put, List.setIfInBounds_toArray, List.set_cons_succ, List.set_cons_zero]
      refine oneU (i := 3) (by kernel_rfl) ?_
      refine opCallP (some 37) rfl rfl rfl 41 _ (run_call eN41 [.tmp 36] _ rfl [(ptr g)] rfl) ?_
      refine (place_any g li X hS.1.rd).mono ?_
      rintro e w4 ⟨hc, ⟨hno, rfl⟩ | ⟨p, lj, hso, rfl, r1⟩⟩
      · refine Or.inr ⟨_, rfl, ?_⟩
        refine ⟨rfl, ?_⟩
        rw [HPQ.out]
        have hb : Below g X w4 := hc.under (by have := hS.2.2.1; omega)
        refine ⟨below_cut (hS.1.under.trans hb) (Nat.le_of_lt hg) (Nat.le_trans hS.2.2.1 hb.size), Or.inl ⟨?_, rfl⟩⟩
        have hn1 : rdPs (i + 1) l5 = none := (by rw [rdPs_snoc, GI.out.1, Option.bind_some, hno]; rfl)
        rw [HK.out.2.2, k5, rdPs_none hn1 k (by omega)]
        rfl
      refine Or.inl ⟨_, rfl, ?_⟩
      have G4 : Hid (rdPs (i + 1) l5 = some (ps ++ [p], lj) ∧ Ru g (cutW w g) q2 q3 w4 lj (rcells { r10 with cp := ps } vc) ∧ POwn w4 w.heap.size vc ps ∧ w.heap.size ≤ w4.heap.size ∧ w.heap.size ≤ q3 ∧ ps.length = i) := (by
        refine ⟨by rw [rdPs_snoc, GI.out.1, Option.bind_some, hso]; rfl, hS.1.step hc r1, hS.2.1.keep (fun b _ hb1 hb2 => hc.one b hb2 (by omega)), Nat.le_trans hS.2.2.1 hc.size, hS.2.2.2⟩)
      clear hc hso r1 hS GI
      refine ⟨fun _ => G4.out.2.1.row, ?_⟩
      simp only [Act.put, List.setIfInBounds_toArray, List.set_cons_succ, List.set_cons_zero]
      refine oneU (i := 4) (by kernel_rfl) ?_
      refine opValueG (some 38) rfl rfl rfl _ _ (run_litP (.tmp 37) rfl p rfl) ?_
      obtain ⟨b, hb⟩ : ∃ b, b = w4.heap.size := ⟨_, rfl⟩
      obtain ⟨w5, hw⟩ : ∃ W, W = w4.alloc (.cells (pcells p).toArray 43) := ⟨_, rfl⟩
      have G5 : Hid (rdPs (i + 1) l5 = some (ps ++ [p], lj) ∧ Ru g (cutW w g) q2 q3 w5 lj (rcells { r10 with cp := ps } vc) ∧ POwn w5 w.heap.size vc ps ∧ w.heap.size ≤ w5.heap.size ∧ w.heap.size ≤ q3 ∧ ps.length = i ∧ Row w5 b 43 (pcells p)) := (by
        have h := G4.out
        have hbl := below_alloc w4 (.cells (pcells p).toArray 43)
        rw [hb, hw]
        exact ⟨h.1, h.2.1.later hbl, h.2.2.1.later hbl, Nat.le_trans h.2.2.2.1 hbl.size, h.2.2.2.2.1, h.2.2.2.2.2, Row.new _ _ _⟩)
      rw [← hb, ← hw]
      clear hb hw G4
      refine ⟨fun _ => G5.out.2.1.row, ?_⟩
      simp only [Act.put, List.setIfInBounds_toArray, List.set_cons_succ, List.set_cons_zero]
      obtain ⟨vd, w6, hrun, ho6, hg6⟩ := run_papp w.heap.size 24 vc ps p G5.out.2.2.1 b G5.out.2.2.2.2.2.2 (by have := G5.out.2.2.2.2.2.1; omega) G5.out.2.2.2.1
      refine oneU (i := 5) (by kernel_rfl) ?_
      refine opValueG (some 39) rfl rfl rfl vd w6 (run_append (.tmp 35) (.tmp 38) rfl vc _ vd rfl rfl hrun) ?_
      have G6 : Hid (rdPs (i + 1) l5 = some (ps ++ [p], lj) ∧ Ru g (cutW w g) q2 q3 w6 lj (rcells { r10 with cp := ps } vc) ∧ POwn w6 w.heap.size vd (ps ++ [p]) ∧ w.heap.size ≤ w6.heap.size ∧ w.heap.size ≤ q3 ∧ ps.length = i) := (by
        have h := G5.out
        exact ⟨h.1, h.2.1.grow h.2.2.1 hg6 (Nat.le_of_lt hg), ho6, Nat.le_trans h.2.2.2.1 hg6.size, h.2.2.2.2.1, h.2.2.2.2.2.1⟩)
      clear hrun ho6 hg6 G5
      refine ⟨fun _ => G6.out.2.1.row, ?_⟩
      simp only [Act.put, List.setIfInBounds_toArray, List.set_cons_succ, List.set_cons_zero]
      refine takeV (i := 6) [7] (some 40) rfl rfl (by kernel_rfl) (by kernel_rfl) (by kernel_rfl) (by kernel_rfl) (fun _ _ _ h => h) (gRun rfl (.pointer (some ⟨q3, 0 + 38, none⟩)) fun _ h => run_fieldOp' f26_7 (.tmp 3) rfl q3 (0) rfl) G6.out.2.1.row ?_
      simp only [Act.put, List.setIfInBounds_toArray, List.set_cons_succ, List.set_cons_zero]
      refine oneU (i := 7) (by kernel_rfl) ?_
      refine opSkipZ rfl rfl rfl _ (run_putRow (t := 24) (by kernel_rfl) (.tmp 40) (.tmp 39) rfl q3 (0 + 38) 26 (rcells { r10 with cp := ps } vc) rfl vd rfl (own_cells G6.out.2.2.1) G6.out.2.1.row (by rw [rcells_length _ (show ({ r10 with cp := ps } : Rc).root.length = 32 from HK.out.2.1.1)]; decide)) ?_
      obtain ⟨w7, hw⟩ : ∃ W, W = w6.setCell ⟨q3, 0 + 38, none⟩ vd := ⟨_, rfl⟩
      have G7 : Hid (RpS w g q2 q3 r10 l5 w7 (i + 1) ∧ Row w7 q3 26 (rcells { r10 with cp := ps ++ [p] } vd)) := (by
        have h := G6.out
        have hc : Ch (· = q3) w6 w7 := hw ▸ (Ch.refl (· = q3) w6).setCell (g := q3) (Or.inl rfl) _ _
        have hrow : Row w7 q3 26 (rcells { r10 with cp := ps ++ [p] } vd) := (by
          have h2 := row_cell' (i := 0 + 38) h.2.1.row vd
          rw [← hw] at h2
          have e := set38 { r10 with cp := ps } vc vd HK.out.2.1.1 (ps ++ [p])
          rw [← e]
          exact h2)
        refine ⟨⟨ps ++ [p], lj, vd, h.1, by simp [h.2.2.2.2.2], h.2.1.put hc hrow, h.2.2.1.keep (fun b hb _ hb2 => hc.one b hb2 (fun e => h.2.2.1.ne h.2.1.row (by decide) (e ▸ hb))), Nat.le_trans h.2.2.2.1 hc.size, h.2.2.2.2.1⟩, hrow⟩)
      rw [← hw]
      clear hw G6
      refine ⟨fun h => absurd (show true = false from h) (by decide), ?_⟩
      refine wpAnyU_done (by kernel_rfl) ?_ _
      go_wp2_with fail
      refine ⟨⟨i + 1, by go_num, by omega, G7.out.1⟩, ?_⟩
      simp [intOf]; omega
    · have t1 : decide ((i : Int) < (k : Int)) = false := decide_eq_false (by omega)
      have ei : i = k := by omega
      subst ei
      obtain ⟨ps, li, vc, hps, hpl, hru, hpo, hz1, hz2⟩ := hS0
      obtain ⟨r, hr⟩ : ∃ r : Rc, r = { r10 with cp := ps } := ⟨_, rfl⟩
      have GE : Hid (rdR l = (if restB r then some (r, li) else none) ∧ Ru g (cutW w g) q2 q3 wr li (rcells r vc) ∧ POwn wr w.heap.size vc r.cp ∧ w.heap.size ≤ wr.heap.size ∧ Fine r ∧ r.cp.length < 256) := (by
        rw [hr]
        exact ⟨by rw [HK.out.2.2, k5, hps, Option.bind_some], hru, hpo, hz1, HK.out.2.1, by show ps.length < 256; omega⟩)
      clear hps hpl hru hpo hz1 hz2 G0 HK hr
      go_upto_region 11 with fail
      refine wp_region_lit ?_
      refine wl rfl (.agg (rcells r vc).toArray) _ (run_loadA ag26 (.tmp 3) rfl q3 (0) rfl (rcells r vc) (rcells_length vc GE.out.2.2.2.2.1.1) (fun j v hv => (by rw [Nat.zero_add]; exact GE.out.2.1.row.at j v hv))) ?_
      simp only [Act.put, List.setIfInBounds_toArray, List.set_cons_succ, List.set_cons_zero]
      refine wpList_callW eN20 [.tmp 42] _ rfl rfl [(.agg (rcells r vc).toArray)] rfl ?_
      refine (restHolds_any r vc wr ⟨GE.out.2.2.2.2.1.1, GE.out.2.2.2.2.1.2.1, GE.out.2.2.2.2.1.2.2, GE.out.2.2.1.isIn (by have := GE.out.2.2.2.2.2; omega)⟩).mono ?_
      rintro e w8 ⟨rfl, b8⟩
      refine ⟨_, rfl, ?_⟩
      obtain ⟨ok, hok⟩ : ∃ ok, ok = restB r := ⟨_, rfl⟩
      have G8 : Hid (rdR l = (if ok then some (r, li) else none) ∧ Ru g (cutW w g) q2 q3 w8 li (rcells r vc) ∧ POwn w8 w.heap.size vc r.cp ∧ w.heap.size ≤ w8.heap.size ∧ Fine r ∧ r.cp.length < 256) := (by
        have h := GE.out
        rw [hok]
        exact ⟨h.1, h.2.1.later b8, h.2.2.1.later b8, Nat.le_trans h.2.2.2.1 b8.size, h.2.2.2.2⟩)
      rw [← hok]
      clear hok b8 GE
      simp only [Act.put, List.setIfInBounds_toArray, List.set_cons_succ, List.set_cons_zero]
      refine wpList_callP eN42 [.tmp 43] _ rfl rfl [(.bool ok)] rfl ?_
      refine (must_any ok w8).mono ?_
      rintro e w9 (⟨hd, rfl, rfl⟩ | ⟨hd, rfl, rfl⟩)
      · refine Or.inr ⟨_, rfl, ?_⟩
        refine ⟨rfl, ?_⟩
        rw [HPQ.out]
        exact ⟨below_cut G8.out.2.1.under (Nat.le_of_lt hg) G8.out.2.2.2.1, Or.inl ⟨by rw [G8.out.1, hd]; rfl, rfl⟩⟩
      refine Or.inl ⟨_, rfl, ?_⟩
      subst hd
      simp only [Act.put, List.setIfInBounds_toArray, List.set_cons_succ, List.set_cons_zero]
      refine wpList_nil ?_
      go_upto_region 12 with fail
      refine wp_region_lit ?_
      refine wl rfl (.agg (rcells r vc).toArray) _ (run_loadA ag26 (.tmp 3) rfl q3 (0) rfl (rcells r vc) (rcells_length vc G8.out.2.2.2.2.1.1) (fun j v hv => (by rw [Nat.zero_add]; exact G8.out.2.1.row.at j v hv))) ?_
      simp only [Act.put, List.setIfInBounds_toArray, List.set_cons_succ, List.set_cons_zero]
      have hfit : Fits w8 r vc := ⟨G8.out.2.2.2.2.1.1, G8.out.2.2.2.2.1.2.1, G8.out.2.2.2.2.1.2.2, G8.out.2.2.1.isIn (by have := G8.out.2.2.2.2.2; omega)⟩
      have hl39 := rcells_length vc G8.out.2.2.2.2.1.1
      have hst := run_storeVar ag26 w8 q2 0 26 (rcells rz (.slice none 0 0)) (rcells r vc) hl39 G8.out.2.1.row2 (by rw [hl39, rcells_length _ rz_fine.1]; decide) (rcells_one hfit)
      rw [splice_all _ _ (by rw [hl39, rcells_length _ rz_fine.1])] at hst
      refine wlS rfl rfl _ (run_stV (.tmp 2) (.tmp 45) rfl q2 0 rfl _ rfl hst) ?_
      obtain ⟨w9, hw⟩ : ∃ W, W = w8.setRow q2 (rcells r vc).toArray := ⟨_, rfl⟩
      have G9 : Hid (Below g w w9 ∧ rdR l = some (r, li) ∧ RdAt w9 g li ∧ Fine r ∧ POwn w9 w.heap.size vc r.cp ∧ r.cp.length < 256 ∧ Row w9 q2 26 (rcells r vc)) := (by
        have h := G8.out
        have hq := h.2.1.ge
        have hc : Ch (· = q2) w8 w9 := hw ▸ (Ch.refl (· = q2) w8).setRow (g := q2) (Or.inl rfl) _
        have hb : Below g w8 w9 := hc.below (Nat.le_of_lt h.2.1.rd.lt) (fun i hi e => by omega)
        have hb' : Below (g + 1) w8 w9 := hc.below h.2.1.rd.lt (fun i hi e => by omega)
        exact ⟨below_cut (h.2.1.under.trans hb) (Nat.le_of_lt hg) (Nat.le_trans h.2.2.2.1 hc.size), h.1, h.2.1.rd.later hb', h.2.2.2.2.1, h.2.2.1.keep (fun b hb1 _ hb2 => hc.one b hb2 (fun e => h.2.2.1.ne h.2.1.row2 (by decide) (e ▸ hb1))), h.2.2.2.2.2, hw ▸ h.2.1.row2.setRow _⟩)
      rw [← hw]
      clear hw hst hfit hl39 G8
      refine wpList_nil ?_
      go_wp2_with fail
      refine bodyPost_ret (results_cell ag26 Try.results29 _ _ q2 26 rfl _ (rcells_length vc G9.out.2.2.2.1.1) G9.out.2.2.2.2.2.2) rfl ?_
      rw [HPQ.out]
      exact ⟨G9.out.1, Or.inr ⟨r, li, vc, G9.out.2.1, rfl, G9.out.2.2.1, G9.out.2.2.2.1, G9.out.2.2.2.2.1, by have := G9.out.2.2.2.2.2.1; omega⟩⟩

end Go.Proofs.Ytncjmolhofnpbaa

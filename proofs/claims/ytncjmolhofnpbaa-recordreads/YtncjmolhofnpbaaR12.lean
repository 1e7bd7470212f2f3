/- Decode. -/
import Derived.Test.YtncjmolhofnpbaaR11
namespace Go.Proofs.Ytncjmolhofnpbaa
open Go.RowKit

section
variable {w : World} {a : Act} {o : Oper}
theorem run_mkF1 (f : Nat) (x : Operand) (ho : o.op = .makeFunc (.func f) #[] #[x]) (v : Value) (hx : a.eval x = v) : (execOp a.eval o).run Try.prog w = .ok (.value (.func (.func f) #[] [v].toArray)) w := by
  have hmf : ∀ (fn : Fn) (first cap : Array Value) (w : World), (Instr.makeFunc fn first cap).run Try.prog w = .ok (.func fn first cap) w := fun _ _ _ _ => rfl
  simp [execOp, ho, hx, hmf]
theorem run_mkF3 (f : Nat) (x y z : Operand) (ho : o.op = .makeFunc (.func f) #[] #[x, y, z]) (u v t : Value) (hx : a.eval x = u) (hy : a.eval y = v) (hz : a.eval z = t) : (execOp a.eval o).run Try.prog w = .ok (.value (.func (.func f) #[] [u, v, t].toArray)) w := by
  have hmf : ∀ (fn : Fn) (first cap : Array Value) (w : World), (Instr.makeFunc fn first cap).run Try.prog w = .ok (.func fn first cap) w := fun _ _ _ _ => rfl
  simp [execOp, ho, hx, hy, hz, hmf]
theorem run_bld26 (ho : o.op = .build 26 #[]) : (execOp a.eval o).run Try.prog w = .ok (.value (.agg (rcells rz (.slice none 0 0)).toArray)) w := by
  have hr : (Instr.build 26 #[]).run Try.prog w = .ok (.agg (rcells rz (.slice none 0 0)).toArray) w := by kernel_rfl
  simp [execOp, ho, hr]
theorem run_bld23 (ho : o.op = .build 23 #[]) : (execOp a.eval o).run Try.prog w = .ok (.value (.agg (bcells (List.replicate 32 0)).toArray)) w := by
  have hr : (Instr.build 23 #[]).run Try.prog w = .ok (.agg (bcells (List.replicate 32 0)).toArray) w := by kernel_rfl
  simp [execOp, ho, hr]
end
theorem fits_of {w : World} {base : Nat} {r : Rc} {vc : Value} (f : Fine r) (ho : POwn w base vc r.cp) (hl : r.cp.length ≤ 255) : Fits w r vc := ⟨f.1, f.2.1, f.2.2, ho.isIn (by omega)⟩
/-- what Decode tells -/
def DecS (w w' : World) (b : List Nat) (r : Rc) (vc : Value) (er : Int) : Prop :=
  Fine r ∧ POwn w' w.heap.size vc r.cp ∧ r.cp.length ≤ 255 ∧ Below w.heap.size w w' ∧ ((decR b = none ∧ r = rz ∧ er = 110) ∨ (decR b = some r ∧ er = 0))
set_option maxHeartbeats 1000000 in
theorem decode_any (v : Value) (b : List Nat) (w : World) (hin : SliceIn w v b) : Calls Try.prog 15 #[v] w fun e w' => ∃ r vc er, e = .returned (.tuple #[.agg (rcells r vc).toArray, .int .i64 er]) ∧ DecS w w' b r vc er := by
  have HI : Hid (SliceIn w v b) := hin
  clear hin
  obtain ⟨PQ, HPQ⟩ : ∃ PQ : Ending → World → Prop, Hid (PQ = fun e w' => ∃ r vc er, e = .returned (.tuple #[.agg (rcells r vc).toArray, .int .i64 er]) ∧ DecS w w' b r vc er) := ⟨_, rfl⟩
  rw [← HPQ.out]
  have R0 : Hid (Loc w w []) := Loc.nil (Below.refl _ w)
  go_enter Try.func15, Try.ntmps15
  go_upto_region 0 with fail
  refine wp_region_lit ?_
  refine wl rfl (ptr w.heap.size) _ (run_allocA (rcells rz (.slice none 0 0)) zero26 rfl) ?_
  have k_ := R0.out.box 26 (rcells rz (.slice none 0 0))
  obtain ⟨w1, hW_⟩ : ∃ W, W = w.alloc (.cells (rcells rz (.slice none 0 0)).toArray 26) := ⟨_, rfl⟩
  obtain ⟨q2, hq_⟩ : ∃ q, q = w.heap.size := ⟨_, rfl⟩
  rw [← hW_, ← hq_] at k_
  rw [← hW_, ← hq_]
  clear hq_
  have Rw1 : Hid (Loc w w1 [(q2, 26, rcells rz (.slice none 0 0))]) := k_
  clear k_ hW_ R0
  simp only [Act.put, List.setIfInBounds_toArray, List.set_cons_succ, List.set_cons_zero]
  refine wl rfl (.int .i64 0) _ (run_asZ (.const (.int .i64 0)) rfl (.int .i64 0) rfl) ?_
  simp only [Act.put, List.setIfInBounds_toArray, List.set_cons_succ, List.set_cons_zero]
  refine wpList_nil ?_
  go_upto_region 1 with fail
  refine wp_region_lit ?_
  refine wl rfl (ptr w1.heap.size) _ (run_allocA (rcells rz (.slice none 0 0)) zero26 rfl) ?_
  have k_ := Rw1.out.box 26 (rcells rz (.slice none 0 0))
  obtain ⟨w2, hW_⟩ : ∃ W, W = w1.alloc (.cells (rcells rz (.slice none 0 0)).toArray 26) := ⟨_, rfl⟩
  obtain ⟨q4, hq_⟩ : ∃ q, q = w1.heap.size := ⟨_, rfl⟩
  rw [← hW_, ← hq_] at k_
  rw [← hW_, ← hq_]
  clear hq_
  have Rw2 : Hid (Loc w w2 [(q2, 26, rcells rz (.slice none 0 0)), (q4, 26, rcells rz (.slice none 0 0))]) := k_
  clear k_ hW_ Rw1
  simp only [Act.put, List.setIfInBounds_toArray, List.set_cons_succ, List.set_cons_zero]
  refine wpList_nil ?_
  go_upto_region 2 with fail
  refine wp_region_lit ?_
  refine wl rfl v _ (run_mvZ (.tmp 0) rfl v rfl) ?_
  simp only [Act.put, List.setIfInBounds_toArray, List.set_cons_succ, List.set_cons_zero]
  refine wl rfl (.func (.func 28) #[] [(ptr q4)].toArray) _ (run_mkF1 28 (.tmp 4) rfl (ptr q4) rfl) ?_
  simp only [Act.put, List.setIfInBounds_toArray, List.set_cons_succ, List.set_cons_zero]
  refine wpList_callW eN27 [.tmp 5, .tmp 6] _ rfl rfl [v, (.func (.func 28) #[] [(ptr q4)].toArray)] rfl ?_
  refine (readsAll_any 28 eN28 [ptr q4] v b w2 (HI.out.later Rw2.out.below) (DR w2 q4 b) (DR.keep (Rw2.out.at 1 rfl).lt) (fun W g h1 h2 h3 => decode1_any w2 q4 b (Rw2.out.at 1 rfl) W g h1 h2 h3)).mono ?_
  rintro e w3 ⟨od, hd, rfl⟩
  refine ⟨_, rfl, ?_⟩
  obtain ⟨ok, hok⟩ : ∃ ok, ok = doneB od := ⟨_, rfl⟩
  rw [← hok]
  have HD : Hid (DR w2 q4 b od w3 ∧ ok = doneB od) := ⟨hd, hok⟩
  clear hd hok
  simp only [Act.put, List.setIfInBounds_toArray, List.set_cons_succ, List.set_cons_zero]
  refine wl rfl (.bool (!ok)) _ (run_not (.tmp 7) 4 rfl ok rfl) ?_
  simp only [Act.put, List.setIfInBounds_toArray, List.set_cons_succ, List.set_cons_zero]
  refine wpList_nil ?_
  have HB2 : Hid (w.heap.size ≤ w2.heap.size ∧ q2 ≠ q4) := ⟨Rw2.out.below.size, Rw2.out.ne 0 1 _ _ rfl rfl (by decide)⟩
  cases ok with
  | false =>
    have HR3 : Hid (decR b = none ∧ Loc w w3 [(q2, 26, rcells rz (.slice none 0 0))]) := (by
      have h := HD.out
      have hc : Ch (· = q4) w2 w3 := (by cases od with | none => exact h.1.2 | some l => exact h.1.1)
      refine ⟨?_, (Rw2.out.take 1).keep ?_ ?_⟩
      · cases od with
        | none => unfold decR; rw [h.1.1]; rfl
        | some l =>
          obtain ⟨_, r, vc, h1, _⟩ := h.1
          have h2 := h.2
          simp [doneB] at h2
          unfold decR
          rw [h1, Option.bind_some, if_neg (by simpa using h2)]
      · exact hc.below Rw2.out.below.size (fun i hi e => by have := Rw2.out.ge 1 rfl; omega)
      · intro i g T cs e
        match i, e with
        | 0, e => cases e; exact hc.one _ (Rw2.out.at 0 rfl).lt HB2.out.2
        | i + 1, e => simp at e)
    clear HD Rw2
    go_upto_region 3 with fail
    refine wp_region_lit ?_
    refine wl rfl (.agg (rcells rz (.slice none 0 0)).toArray) _ (run_bld26 rfl) ?_
    simp only [Act.put, List.setIfInBounds_toArray, List.set_cons_succ, List.set_cons_zero]
    have hst := run_storeVar ag26 w3 q2 0 26 (rcells rz (.slice none 0 0)) (rcells rz (.slice none 0 0)) (rcells_length _ rz_fine.1) (HR3.out.2.at 0 rfl) (by rw [Nat.zero_add]; exact Nat.le_refl _) (rcells_one (fits_of rz_fine (POwn.nil w3 0) (by decide)))
    rw [splice_all _ _ rfl] at hst
    refine wlS rfl rfl _ (run_stV (.tmp 2) (.tmp 9) rfl q2 0 rfl _ rfl hst) ?_
    obtain ⟨w4, hw⟩ : ∃ W, W = w3.setRow q2 (rcells rz (.slice none 0 0)).toArray := ⟨_, rfl⟩
    have H4 : Hid (Fine rz ∧ Row w4 q2 26 (rcells rz (.slice none 0 0)) ∧ Below w.heap.size w w4) := (by
      have k := HR3.out.2.lay 0 rfl 0 (rcells rz (.slice none 0 0))
      rw [splice_all _ _ rfl, ← hw] at k
      exact ⟨rz_fine, k.at 0 rfl, k.below⟩)
    rw [← hw]
    clear hw hst
    refine wl rfl (.int .i64 110) _ (run_asZ (.const (.int .i64 110)) rfl (.int .i64 110) rfl) ?_
    simp only [Act.put, List.setIfInBounds_toArray, List.set_cons_succ, List.set_cons_zero]
    refine wpList_nil ?_
    go_wp2_with fail
    refine bodyPost_ret (results_cell_tmp ag26 Try.results15 _ _ q2 26 rfl _ (rcells_length _ H4.out.1.1) H4.out.2.1) rfl ?_
    rw [HPQ.out]
    exact ⟨rz, (.slice none 0 0), 110, rfl, rz_fine, POwn.nil _ _, by decide, H4.out.2.2, Or.inl ⟨HR3.out.1, rfl, rfl⟩⟩
  | true =>
    obtain ⟨r, vc, HR3⟩ : ∃ r vc, Hid (decR b = some r ∧ Loc w w3 [(q2, 26, rcells rz (.slice none 0 0)), (q4, 26, rcells r vc)] ∧ POwn w3 w.heap.size vc r.cp ∧ Fine r ∧ r.cp.length ≤ 255) := (by
      have h := HD.out
      cases od with
      | none => have h2 := h.2; simp [doneB] at h2
      | some l =>
        obtain ⟨hc, r, vc, h1, h2, h3, h4, h5⟩ := h.1
        have h6 := h.2
        simp [doneB] at h6
        refine ⟨r, vc, ?_, ?_, h3.weaken HB2.out.1, h4, h5⟩
        · unfold decR
          rw [h1, Option.bind_some, if_pos (by simpa using h6)]
        · exact Rw2.out.set 1 rfl h2 hc)
    clear HD Rw2
    go_upto_region 4 with fail
    refine wp_region_lit ?_
    refine wl rfl (.agg (rcells r vc).toArray) _ (run_loadA ag26 (.tmp 4) rfl q4 (0) rfl (rcells r vc) (rcells_length _ HR3.out.2.2.2.1.1) (rows_all HR3.out.2.1 1 rfl)) ?_
    simp only [Act.put, List.setIfInBounds_toArray, List.set_cons_succ, List.set_cons_zero]
    have hl39 := rcells_length vc HR3.out.2.2.2.1.1
    have hst := run_storeVar ag26 w3 q2 0 26 (rcells rz (.slice none 0 0)) (rcells r vc) hl39 (HR3.out.2.1.at 0 rfl) (by rw [hl39, rcells_length _ rz_fine.1]; decide) (rcells_one (fits_of HR3.out.2.2.2.1 HR3.out.2.2.1 HR3.out.2.2.2.2))
    rw [splice_all _ _ (by rw [hl39, rcells_length _ rz_fine.1])] at hst
    refine wlS rfl rfl _ (run_stV (.tmp 2) (.tmp 10) rfl q2 0 rfl _ rfl hst) ?_
    obtain ⟨w4, hw⟩ : ∃ W, W = w3.setRow q2 (rcells r vc).toArray := ⟨_, rfl⟩
    have H4 : Hid (Fine r ∧ Row w4 q2 26 (rcells r vc) ∧ Below w.heap.size w w4 ∧ POwn w4 w.heap.size vc r.cp) := (by
      have k := HR3.out.2.1.lay 0 rfl 0 (rcells r vc)
      rw [splice_all _ _ (by rw [hl39, rcells_length _ rz_fine.1]), ← hw] at k
      have hc : Ch (· = q2) w3 w4 := hw ▸ (Ch.refl (· = q2) w3).setRow (g := q2) (Or.inl rfl) _
      exact ⟨HR3.out.2.2.2.1, k.at 0 rfl, k.below, HR3.out.2.2.1.keep (fun i hi _ hlt => hc.one i hlt (fun e => HR3.out.2.2.1.ne (HR3.out.2.1.at 0 rfl) (by decide) (e ▸ hi)))⟩)
    rw [← hw]
    clear hw hst hl39
    refine wl rfl (.int .i64 0) _ (run_asZ (.const (.int .i64 0)) rfl (.int .i64 0) rfl) ?_
    simp only [Act.put, List.setIfInBounds_toArray, List.set_cons_succ, List.set_cons_zero]
    refine wpList_nil ?_
    go_wp2_with fail
    refine bodyPost_ret (results_cell_tmp ag26 Try.results15 _ _ q2 26 rfl _ (rcells_length _ H4.out.1.1) H4.out.2.1) rfl ?_
    rw [HPQ.out]
    exact ⟨r, vc, 0, rfl, H4.out.1, H4.out.2.2.2, HR3.out.2.2.2.2, H4.out.2.2.1, Or.inr ⟨HR3.out.1, rfl⟩⟩

end Go.Proofs.Ytncjmolhofnpbaa

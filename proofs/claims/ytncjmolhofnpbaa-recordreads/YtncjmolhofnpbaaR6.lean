/- Whether a record may be: the program. -/
import Derived.Test.YtncjmolhofnpbaaR5
namespace Go.Proofs.Ytncjmolhofnpbaa
open Go.RowKit

theorem rows_all {w W : World} {l : List (Nat × TypeId × List Value)} (h : Loc w W l) (i : Nat) {g : Nat} {T : TypeId} {cs : List Value} (e : l[i]? = some (g, T, cs)) : ∀ j v, cs[j]? = some v → W.cell? ⟨g, 0 + j, none⟩ = some v := fun j v hv => by
  rw [Nat.zero_add]
  exact (h.at i e).at j v hv
theorem run_lenPn {w0 w : World} {a : Act} {o : Oper} {v : Value} {ps : List Pc} (hin : PlIn w0 v ps) {n : Nat} (hn : n = ps.length) (x : Operand) (ho : o.op = .call { callee := .builtin .len, args := #[x], argTypes := #[24] }) (hx : a.eval x = v) : (execOp a.eval o).run Try.prog w = .ok (.value (.int .i64 (n : Nat))) w := by
  subst hn
  exact run_lenP hin x ho hx
theorem splice43 (p q : Pc) : splice (pcells p) 0 (pcells q) = pcells q := splice_all _ _ rfl
theorem all_snocP (ps : List Pc) (k : Nat) (p : Pc) (h : ps[k]? = some p) : (ps.take (k + 1)).all pcB = ((ps.take k).all pcB && pcB p) := by
  have e : ps.take (k + 1) = ps.take k ++ [p] := by rw [List.take_add_one, h]; rfl
  rw [e, List.all_append]
  simp
theorem all_notP (ps : List Pc) (k : Nat) (p : Pc) (h : ps[k]? = some p) (hb : pcB p = false) : ps.all pcB = false := by
  rw [List.all_eq_false]
  exact ⟨p, List.mem_of_getElem? h, by rw [hb]; decide⟩
set_option maxHeartbeats 4000000 in
theorem restHolds_any (r : Rc) (vc : Value) (w : World) (hf : Fits w r vc) : Calls Try.prog 20 #[.agg (rcells r vc).toArray] w fun e w' => e = .returned (.bool (restB r)) ∧ Below w.heap.size w w' := by
  have HF : Hid (Fits w r vc) := hf
  clear hf
  have H1 := fun W => within_any r.index 2147483647 W
  have H2 := fun W => within_any r.expiry 1099511627776 W
  obtain ⟨R, hR⟩ : ∃ R, R = restB r := ⟨_, rfl⟩
  have HR : R = (inB r.index 2147483647 && inB r.expiry 1099511627776 && decide (r.cp.length ≤ 8) && r.cp.all pcB) := hR
  generalize inB r.index 2147483647 = b1 at H1 HR
  generalize inB r.expiry 1099511627776 = b2 at H2 HR
  obtain ⟨n, hn⟩ : ∃ n, n = r.cp.length := ⟨_, rfl⟩
  have HN : Hid (n = r.cp.length ∧ n ≤ 9223372036854775807) := ⟨hn, by rw [hn]; obtain ⟨p, c, _, h, _⟩ := HF.out.cp; exact h.2⟩
  rw [← hn] at HR
  obtain ⟨b3, hb3⟩ : ∃ b3, b3 = decide ((8 : Int) < (n : Int)) := ⟨_, rfl⟩
  have HR : Hid (R = (b1 && b2 && !b3 && r.cp.all pcB) ∧ decide ((8 : Int) < (n : Int)) = b3) := ⟨by rw [HR, hb3]; congr 2; rw [Bool.eq_iff_iff]; simp; omega, hb3.symm⟩
  have H : Hid ((∀ W, Calls Try.prog 33 #[.int .i64 r.index, .int .i64 2147483647] W fun e w' => e = .returned (.bool b1) ∧ W = w') ∧ (∀ W, Calls Try.prog 33 #[.int .i64 r.expiry, .int .i64 1099511627776] W fun e w' => e = .returned (.bool b2) ∧ W = w')) := ⟨H1, H2⟩
  obtain ⟨PQ, HPQ⟩ : ∃ PQ : Ending → World → Prop, Hid (PQ = fun e w' => e = .returned (.bool R) ∧ Below w.heap.size w w') := ⟨_, rfl⟩
  rw [← hR, ← HPQ.out]
  clear H1 H2 hR hn hb3
  have R0 : Hid (Loc w w []) := Loc.nil (Below.refl _ w)
  go_enter Try.func20, Try.ntmps20
  go_upto_region 0 with fail
  refine wp_region_lit ?_
  refine wl rfl (ptr w.heap.size) _ (run_boxA (.tmp 0) rfl (rcells r vc) rfl) ?_
  have k_ := R0.out.box 26 (rcells r vc)
  obtain ⟨w1, hW_⟩ : ∃ W, W = w.alloc (.cells (rcells r vc).toArray 26) := ⟨_, rfl⟩
  obtain ⟨q, hq_⟩ : ∃ q, q = w.heap.size := ⟨_, rfl⟩
  rw [← hW_, ← hq_] at k_
  rw [← hW_, ← hq_]
  clear hq_
  have Rw1 : Hid (Loc w w1 [(q, 26, rcells r vc)]) := k_
  clear k_ hW_ R0
  simp only [Act.put, List.setIfInBounds_toArray, List.set_cons_succ, List.set_cons_zero]
  refine wl rfl (.bool false) _ (run_asZ (.const (.bool false)) rfl (.bool false) rfl) ?_
  simp only [Act.put, List.setIfInBounds_toArray, List.set_cons_succ, List.set_cons_zero]
  refine wpList_nil ?_
  cases b1 with
  | false =>
    go_upto_region 1 with fail
    refine wp_region_lit ?_
    refine wl rfl (.pointer (some ⟨q, 0 + 34, none⟩)) _ (run_fieldOp' f26_3 (.tmp 1) rfl q (0) rfl) ?_
    simp only [Act.put, List.setIfInBounds_toArray, List.set_cons_succ, List.set_cons_zero]
    refine wl rfl (.int .i64 r.index) _ (run_load1 o3 (.tmp 5) rfl q (0 + 34) rfl (.int .i64 r.index) ((Rw1.out.at 0 rfl).at 34 _ (rcB vc HF.out.root 0))) ?_
    simp only [Act.put, List.setIfInBounds_toArray, List.set_cons_succ, List.set_cons_zero]
    refine wpList_callW eN33 [.tmp 6, .const ((.int .i64 2147483647))] _ rfl rfl [(.int .i64 r.index), (.int .i64 2147483647)] rfl ?_
    refine (H.out.1 w1).mono ?_
    rintro e w2 ⟨rfl, rfl⟩
    refine ⟨_, rfl, ?_⟩
    simp only [Act.put, List.setIfInBounds_toArray, List.set_cons_succ, List.set_cons_zero]
    refine wl rfl (.bool true) _ (run_not (.tmp 7) 4 rfl false rfl) ?_
    simp only [Act.put, List.setIfInBounds_toArray, List.set_cons_succ, List.set_cons_zero]
    refine wl rfl (.bool true) _ (run_mvZ (.tmp 8) rfl (.bool true) rfl) ?_
    simp only [Act.put, List.setIfInBounds_toArray, List.set_cons_succ, List.set_cons_zero]
    refine wpList_skip (by kernel_rfl) ?_
    simp only [Act.put, List.setIfInBounds_toArray, List.set_cons_succ, List.set_cons_zero]
    refine wpList_skip (by kernel_rfl) ?_
    simp only [Act.put, List.setIfInBounds_toArray, List.set_cons_succ, List.set_cons_zero]
    refine wpList_skip (by kernel_rfl) ?_
    simp only [Act.put, List.setIfInBounds_toArray, List.set_cons_succ, List.set_cons_zero]
    refine wpList_skip (by kernel_rfl) ?_
    simp only [Act.put, List.setIfInBounds_toArray, List.set_cons_succ, List.set_cons_zero]
    refine wl rfl (.bool true) _ (run_pickZ (.tmp 9) (.const (.bool true)) (.tmp 13) rfl true (.bool true) rfl rfl) ?_
    simp only [Act.put, List.setIfInBounds_toArray, List.set_cons_succ, List.set_cons_zero]
    refine wl rfl (.bool true) _ (run_mvZ (.tmp 14) rfl (.bool true) rfl) ?_
    simp only [Act.put, List.setIfInBounds_toArray, List.set_cons_succ, List.set_cons_zero]
    refine wpList_skip (by kernel_rfl) ?_
    simp only [Act.put, List.setIfInBounds_toArray, List.set_cons_succ, List.set_cons_zero]
    refine wpList_skip (by kernel_rfl) ?_
    simp only [Act.put, List.setIfInBounds_toArray, List.set_cons_succ, List.set_cons_zero]
    refine wpList_skip (by kernel_rfl) ?_
    simp only [Act.put, List.setIfInBounds_toArray, List.set_cons_succ, List.set_cons_zero]
    refine wpList_skip (by kernel_rfl) ?_
    simp only [Act.put, List.setIfInBounds_toArray, List.set_cons_succ, List.set_cons_zero]
    refine wl rfl (.bool true) _ (run_pickZ (.tmp 15) (.const (.bool true)) (.tmp 19) rfl true (.bool true) rfl rfl) ?_
    simp only [Act.put, List.setIfInBounds_toArray, List.set_cons_succ, List.set_cons_zero]
    refine wpList_nil ?_
    have er : R = false := (by rw [HR.out.1]; rfl)
    subst er
    go_wp2_with fail
    rw [HPQ.out]
    exact ⟨rfl, Rw1.out.below⟩
  | true =>
  cases b2 with
  | false =>
    go_upto_region 1 with fail
    refine wp_region_lit ?_
    refine wl rfl (.pointer (some ⟨q, 0 + 34, none⟩)) _ (run_fieldOp' f26_3 (.tmp 1) rfl q (0) rfl) ?_
    simp only [Act.put, List.setIfInBounds_toArray, List.set_cons_succ, List.set_cons_zero]
    refine wl rfl (.int .i64 r.index) _ (run_load1 o3 (.tmp 5) rfl q (0 + 34) rfl (.int .i64 r.index) ((Rw1.out.at 0 rfl).at 34 _ (rcB vc HF.out.root 0))) ?_
    simp only [Act.put, List.setIfInBounds_toArray, List.set_cons_succ, List.set_cons_zero]
    refine wpList_callW eN33 [.tmp 6, .const ((.int .i64 2147483647))] _ rfl rfl [(.int .i64 r.index), (.int .i64 2147483647)] rfl ?_
    refine (H.out.1 w1).mono ?_
    rintro e w2 ⟨rfl, rfl⟩
    refine ⟨_, rfl, ?_⟩
    simp only [Act.put, List.setIfInBounds_toArray, List.set_cons_succ, List.set_cons_zero]
    refine wl rfl (.bool false) _ (run_not (.tmp 7) 4 rfl true rfl) ?_
    simp only [Act.put, List.setIfInBounds_toArray, List.set_cons_succ, List.set_cons_zero]
    refine wl rfl (.bool false) _ (run_mvZ (.tmp 8) rfl (.bool false) rfl) ?_
    simp only [Act.put, List.setIfInBounds_toArray, List.set_cons_succ, List.set_cons_zero]
    refine wl (by kernel_rfl) (.pointer (some ⟨q, 0 + 35, none⟩)) _ (run_fieldOp' f26_4 (.tmp 1) rfl q (0) rfl) ?_
    simp only [Act.put, List.setIfInBounds_toArray, List.set_cons_succ, List.set_cons_zero]
    refine wl (by kernel_rfl) (.int .i64 r.expiry) _ (run_load1 o3 (.tmp 10) rfl q (0 + 35) rfl (.int .i64 r.expiry) ((Rw1.out.at 0 rfl).at 35 _ (rcB vc HF.out.root 1))) ?_
    simp only [Act.put, List.setIfInBounds_toArray, List.set_cons_succ, List.set_cons_zero]
    refine wpList_callW eN33 [.tmp 11, .const ((.int .i64 1099511627776))] _ rfl rfl [(.int .i64 r.expiry), (.int .i64 1099511627776)] rfl ?_
    refine (H.out.2 w1).mono ?_
    rintro e w2 ⟨rfl, rfl⟩
    refine ⟨_, rfl, ?_⟩
    simp only [Act.put, List.setIfInBounds_toArray, List.set_cons_succ, List.set_cons_zero]
    refine wl (by kernel_rfl) (.bool true) _ (run_not (.tmp 12) 4 rfl false rfl) ?_
    simp only [Act.put, List.setIfInBounds_toArray, List.set_cons_succ, List.set_cons_zero]
    refine wl rfl (.bool true) _ (run_pickZ (.tmp 9) (.const (.bool true)) (.tmp 13) rfl false (.bool true) rfl rfl) ?_
    simp only [Act.put, List.setIfInBounds_toArray, List.set_cons_succ, List.set_cons_zero]
    refine wl rfl (.bool true) _ (run_mvZ (.tmp 14) rfl (.bool true) rfl) ?_
    simp only [Act.put, List.setIfInBounds_toArray, List.set_cons_succ, List.set_cons_zero]
    refine wpList_skip (by kernel_rfl) ?_
    simp only [Act.put, List.setIfInBounds_toArray, List.set_cons_succ, List.set_cons_zero]
    refine wpList_skip (by kernel_rfl) ?_
    simp only [Act.put, List.setIfInBounds_toArray, List.set_cons_succ, List.set_cons_zero]
    refine wpList_skip (by kernel_rfl) ?_
    simp only [Act.put, List.setIfInBounds_toArray, List.set_cons_succ, List.set_cons_zero]
    refine wpList_skip (by kernel_rfl) ?_
    simp only [Act.put, List.setIfInBounds_toArray, List.set_cons_succ, List.set_cons_zero]
    refine wl rfl (.bool true) _ (run_pickZ (.tmp 15) (.const (.bool true)) (.tmp 19) rfl true (.bool true) rfl rfl) ?_
    simp only [Act.put, List.setIfInBounds_toArray, List.set_cons_succ, List.set_cons_zero]
    refine wpList_nil ?_
    have er : R = false := (by rw [HR.out.1]; rfl)
    subst er
    go_wp2_with fail
    rw [HPQ.out]
    exact ⟨rfl, Rw1.out.below⟩
  | true =>
  cases b3 with
  | true =>
    go_upto_region 1 with fail
    refine wp_region_lit ?_
    refine wl rfl (.pointer (some ⟨q, 0 + 34, none⟩)) _ (run_fieldOp' f26_3 (.tmp 1) rfl q (0) rfl) ?_
    simp only [Act.put, List.setIfInBounds_toArray, List.set_cons_succ, List.set_cons_zero]
    refine wl rfl (.int .i64 r.index) _ (run_load1 o3 (.tmp 5) rfl q (0 + 34) rfl (.int .i64 r.index) ((Rw1.out.at 0 rfl).at 34 _ (rcB vc HF.out.root 0))) ?_
    simp only [Act.put, List.setIfInBounds_toArray, List.set_cons_succ, List.set_cons_zero]
    refine wpList_callW eN33 [.tmp 6, .const ((.int .i64 2147483647))] _ rfl rfl [(.int .i64 r.index), (.int .i64 2147483647)] rfl ?_
    refine (H.out.1 w1).mono ?_
    rintro e w2 ⟨rfl, rfl⟩
    refine ⟨_, rfl, ?_⟩
    simp only [Act.put, List.setIfInBounds_toArray, List.set_cons_succ, List.set_cons_zero]
    refine wl rfl (.bool false) _ (run_not (.tmp 7) 4 rfl true rfl) ?_
    simp only [Act.put, List.setIfInBounds_toArray, List.set_cons_succ, List.set_cons_zero]
    refine wl rfl (.bool false) _ (run_mvZ (.tmp 8) rfl (.bool false) rfl) ?_
    simp only [Act.put, List.setIfInBounds_toArray, List.set_cons_succ, List.set_cons_zero]
    refine wl (by kernel_rfl) (.pointer (some ⟨q, 0 + 35, none⟩)) _ (run_fieldOp' f26_4 (.tmp 1) rfl q (0) rfl) ?_
    simp only [Act.put, List.setIfInBounds_toArray, List.set_cons_succ, List.set_cons_zero]
    refine wl (by kernel_rfl) (.int .i64 r.expiry) _ (run_load1 o3 (.tmp 10) rfl q (0 + 35) rfl (.int .i64 r.expiry) ((Rw1.out.at 0 rfl).at 35 _ (rcB vc HF.out.root 1))) ?_
    simp only [Act.put, List.setIfInBounds_toArray, List.set_cons_succ, List.set_cons_zero]
    refine wpList_callW eN33 [.tmp 11, .const ((.int .i64 1099511627776))] _ rfl rfl [(.int .i64 r.expiry), (.int .i64 1099511627776)] rfl ?_
    refine (H.out.2 w1).mono ?_
    rintro e w2 ⟨rfl, rfl⟩
    refine ⟨_, rfl, ?_⟩
    simp only [Act.put, List.setIfInBounds_toArray, List.set_cons_succ, List.set_cons_zero]
    refine wl (by kernel_rfl) (.bool false) _ (run_not (.tmp 12) 4 rfl true rfl) ?_
    simp only [Act.put, List.setIfInBounds_toArray, List.set_cons_succ, List.set_cons_zero]
    refine wl rfl (.bool false) _ (run_pickZ (.tmp 9) (.const (.bool true)) (.tmp 13) rfl false (.bool false) rfl rfl) ?_
    simp only [Act.put, List.setIfInBounds_toArray, List.set_cons_succ, List.set_cons_zero]
    refine wl rfl (.bool false) _ (run_mvZ (.tmp 14) rfl (.bool false) rfl) ?_
    simp only [Act.put, List.setIfInBounds_toArray, List.set_cons_succ, List.set_cons_zero]
    refine wl (by kernel_rfl) (.pointer (some ⟨q, 0 + 38, none⟩)) _ (run_fieldOp' f26_7 (.tmp 1) rfl q (0) rfl) ?_
    simp only [Act.put, List.setIfInBounds_toArray, List.set_cons_succ, List.set_cons_zero]
    refine wl (by kernel_rfl) vc _ (run_load1 o24 (.tmp 16) rfl q (0 + 38) rfl vc ((Rw1.out.at 0 rfl).at 38 _ (rcB vc HF.out.root 4))) ?_
    simp only [Act.put, List.setIfInBounds_toArray, List.set_cons_succ, List.set_cons_zero]
    refine wl (by kernel_rfl) (.int .i64 (n : Nat)) _ (run_lenPn HF.out.cp HN.out.1 (.tmp 17) rfl rfl) ?_
    simp only [Act.put, List.setIfInBounds_toArray, List.set_cons_succ, List.set_cons_zero]
    refine wl (by kernel_rfl) (.bool true) _ (run_gtrZ (.tmp 18) (.const (.int .i64 8)) rfl (n : Nat) 8 rfl rfl true HR.out.2) ?_
    simp only [Act.put, List.setIfInBounds_toArray, List.set_cons_succ, List.set_cons_zero]
    refine wl rfl (.bool true) _ (run_pickZ (.tmp 15) (.const (.bool true)) (.tmp 19) rfl false (.bool true) rfl rfl) ?_
    simp only [Act.put, List.setIfInBounds_toArray, List.set_cons_succ, List.set_cons_zero]
    refine wpList_nil ?_
    have er : R = false := (by rw [HR.out.1]; rfl)
    subst er
    go_wp2_with fail
    rw [HPQ.out]
    exact ⟨rfl, Rw1.out.below⟩
  | false =>
    go_upto_region 1 with fail
    refine wp_region_lit ?_
    refine wl rfl (.pointer (some ⟨q, 0 + 34, none⟩)) _ (run_fieldOp' f26_3 (.tmp 1) rfl q (0) rfl) ?_
    simp only [Act.put, List.setIfInBounds_toArray, List.set_cons_succ, List.set_cons_zero]
    refine wl rfl (.int .i64 r.index) _ (run_load1 o3 (.tmp 5) rfl q (0 + 34) rfl (.int .i64 r.index) ((Rw1.out.at 0 rfl).at 34 _ (rcB vc HF.out.root 0))) ?_
    simp only [Act.put, List.setIfInBounds_toArray, List.set_cons_succ, List.set_cons_zero]
    refine wpList_callW eN33 [.tmp 6, .const ((.int .i64 2147483647))] _ rfl rfl [(.int .i64 r.index), (.int .i64 2147483647)] rfl ?_
    refine (H.out.1 w1).mono ?_
    rintro e w2 ⟨rfl, rfl⟩
    refine ⟨_, rfl, ?_⟩
    simp only [Act.put, List.setIfInBounds_toArray, List.set_cons_succ, List.set_cons_zero]
    refine wl rfl (.bool false) _ (run_not (.tmp 7) 4 rfl true rfl) ?_
    simp only [Act.put, List.setIfInBounds_toArray, List.set_cons_succ, List.set_cons_zero]
    refine wl rfl (.bool false) _ (run_mvZ (.tmp 8) rfl (.bool false) rfl) ?_
    simp only [Act.put, List.setIfInBounds_toArray, List.set_cons_succ, List.set_cons_zero]
    refine wl (by kernel_rfl) (.pointer (some ⟨q, 0 + 35, none⟩)) _ (run_fieldOp' f26_4 (.tmp 1) rfl q (0) rfl) ?_
    simp only [Act.put, List.setIfInBounds_toArray, List.set_cons_succ, List.set_cons_zero]
    refine wl (by kernel_rfl) (.int .i64 r.expiry) _ (run_load1 o3 (.tmp 10) rfl q (0 + 35) rfl (.int .i64 r.expiry) ((Rw1.out.at 0 rfl).at 35 _ (rcB vc HF.out.root 1))) ?_
    simp only [Act.put, List.setIfInBounds_toArray, List.set_cons_succ, List.set_cons_zero]
    refine wpList_callW eN33 [.tmp 11, .const ((.int .i64 1099511627776))] _ rfl rfl [(.int .i64 r.expiry), (.int .i64 1099511627776)] rfl ?_
    refine (H.out.2 w1).mono ?_
    rintro e w2 ⟨rfl, rfl⟩
    refine ⟨_, rfl, ?_⟩
    simp only [Act.put, List.setIfInBounds_toArray, List.set_cons_succ, List.set_cons_zero]
    refine wl (by kernel_rfl) (.bool false) _ (run_not (.tmp 12) 4 rfl true rfl) ?_
    simp only [Act.put, List.setIfInBounds_toArray, List.set_cons_succ, List.set_cons_zero]
    refine wl rfl (.bool false) _ (run_pickZ (.tmp 9) (.const (.bool true)) (.tmp 13) rfl false (.bool false) rfl rfl) ?_
    simp only [Act.put, List.setIfInBounds_toArray, List.set_cons_succ, List.set_cons_zero]
    refine wl rfl (.bool false) _ (run_mvZ (.tmp 14) rfl (.bool false) rfl) ?_
    simp only [Act.put, List.setIfInBounds_toArray, List.set_cons_succ, List.set_cons_zero]
    refine wl (by kernel_rfl) (.pointer (some ⟨q, 0 + 38, none⟩)) _ (run_fieldOp' f26_7 (.tmp 1) rfl q (0) rfl) ?_
    simp only [Act.put, List.setIfInBounds_toArray, List.set_cons_succ, List.set_cons_zero]
    refine wl (by kernel_rfl) vc _ (run_load1 o24 (.tmp 16) rfl q (0 + 38) rfl vc ((Rw1.out.at 0 rfl).at 38 _ (rcB vc HF.out.root 4))) ?_
    simp only [Act.put, List.setIfInBounds_toArray, List.set_cons_succ, List.set_cons_zero]
    refine wl (by kernel_rfl) (.int .i64 (n : Nat)) _ (run_lenPn HF.out.cp HN.out.1 (.tmp 17) rfl rfl) ?_
    simp only [Act.put, List.setIfInBounds_toArray, List.set_cons_succ, List.set_cons_zero]
    refine wl (by kernel_rfl) (.bool false) _ (run_gtrZ (.tmp 18) (.const (.int .i64 8)) rfl (n : Nat) 8 rfl rfl false HR.out.2) ?_
    simp only [Act.put, List.setIfInBounds_toArray, List.set_cons_succ, List.set_cons_zero]
    refine wl rfl (.bool false) _ (run_pickZ (.tmp 15) (.const (.bool true)) (.tmp 19) rfl false (.bool false) rfl rfl) ?_
    simp only [Act.put, List.setIfInBounds_toArray, List.set_cons_succ, List.set_cons_zero]
    refine wpList_nil ?_
    have HN8 : Hid (n ≤ 8) := (by have := HR.out.2; simp at this; omega : n ≤ 8)
    go_upto_region 3 with fail
    refine wp_region_lit ?_
    refine wl rfl (.pointer (some ⟨q, 0 + 38, none⟩)) _ (run_fieldOp' f26_7 (.tmp 1) rfl q (0) rfl) ?_
    simp only [Act.put, List.setIfInBounds_toArray, List.set_cons_succ, List.set_cons_zero]
    refine wl rfl vc _ (run_load1 o24 (.tmp 21) rfl q (0 + 38) rfl vc ((Rw1.out.at 0 rfl).at 38 _ (rcB vc HF.out.root 4))) ?_
    simp only [Act.put, List.setIfInBounds_toArray, List.set_cons_succ, List.set_cons_zero]
    refine wl rfl (.int .i64 (n : Nat)) _ (run_lenPn HF.out.cp HN.out.1 (.tmp 22) rfl rfl) ?_
    simp only [Act.put, List.setIfInBounds_toArray, List.set_cons_succ, List.set_cons_zero]
    refine wl rfl (.int .i64 0) _ (run_mvZ (.const (.int .i64 0)) rfl (.int .i64 0) rfl) ?_
    simp only [Act.put, List.setIfInBounds_toArray, List.set_cons_succ, List.set_cons_zero]
    refine wpList_nil ?_
    have HB : Hid (Below w.heap.size w w1) := Rw1.out.below
    clear Rw1
    go_wp2_with fail
    go_loopw [24] (fun vk W => ∃ k : Nat, vk = .int .i64 (k : Nat) ∧ k ≤ n ∧ (r.cp.take k).all pcB = true ∧ Below w.heap.size w W) (fun vk _ => n - (intOf vk).toNat)
    case atStart => exact ⟨0, rfl, Nat.zero_le _, rfl, HB.out⟩
    case round =>
      obtain ⟨k, rfl, hk, ha, hw⟩ := hrel
      have HA : Hid ((r.cp.take k).all pcB = true ∧ Below w.heap.size w wr) := ⟨ha, hw⟩
      clear ha hw
      have h8 : n ≤ 8 := HN8.out
      by_cases hlt : k < n
      · have t1 : decide ((k : Int) < (n : Int)) = true := decide_eq_true (by omega)
        obtain ⟨p, hp⟩ : ∃ p, r.cp[k]? = some p := ⟨_, List.getElem?_eq_getElem (by rw [← HN.out.1]; exact hlt)⟩
        obtain ⟨b, off, hx, hc⟩ := ix_place (HF.out.cp.later HA.out.2) k p hp
        have HX : Hid ((∀ w', (Instr.indexAt 24 vc (.int .i64 (k : Nat))).run Try.prog w' = .ok (.pointer (some ⟨b, off, none⟩)) w') ∧ (∀ j u, (pcells p)[j]? = some u → wr.cell? ⟨b, off + j, none⟩ = some u) ∧ r.cp[k]? = some p) := ⟨hx, hc, hp⟩
        clear hx hc hp
        have R2 : Hid (Loc wr wr []) := Loc.nil (Below.refl _ wr)
        go_upto_region 5 with fail
        refine wp_region_lit ?_
        refine wl rfl (.pointer (some ⟨b, off, none⟩)) _ (run_idx (.tmp 22) (.tmp 24) rfl vc _ _ rfl rfl HX.out.1) ?_
        simp only [Act.put, List.setIfInBounds_toArray, List.set_cons_succ, List.set_cons_zero]
        refine wl rfl (.agg (pcells p).toArray) _ (run_loadA ag43 (.tmp 26) rfl b (off) rfl (pcells p) rfl HX.out.2.1) ?_
        simp only [Act.put, List.setIfInBounds_toArray, List.set_cons_succ, List.set_cons_zero]
        refine wl rfl (ptr wr.heap.size) _ (run_allocA (pcells ⟨0, 0, 0, false⟩) zero43 rfl) ?_
        have k_ := R2.out.box 43 (pcells ⟨0, 0, 0, false⟩)
        obtain ⟨w2, hW_⟩ : ∃ W, W = wr.alloc (.cells (pcells ⟨0, 0, 0, false⟩).toArray 43) := ⟨_, rfl⟩
        obtain ⟨q2, hq_⟩ : ∃ q, q = wr.heap.size := ⟨_, rfl⟩
        rw [← hW_, ← hq_] at k_
        rw [← hW_, ← hq_]
        clear hq_
        have Rw2 : Hid (Loc wr w2 [(q2, 43, pcells ⟨0, 0, 0, false⟩)]) := k_
        clear k_ hW_ R2
        simp only [Act.put, List.setIfInBounds_toArray, List.set_cons_succ, List.set_cons_zero]
        refine wlS rfl rfl _ (run_storeL ag43 (.tmp 4) (.tmp 27) rfl Rw2.out 0 rfl (0) rfl (pcells p) rfl rfl (by simp [pcells]) (pcells_one p)).1 ?_
        have k_ := Rw2.out.lay 0 rfl (0) (pcells p)
        rw [splice43] at k_ ⊢
        obtain ⟨w3, hW_⟩ : ∃ W, W = w2.setRow q2 (pcells p).toArray := ⟨_, rfl⟩
        rw [← hW_] at k_ ⊢
        have Rw3 : Hid (Loc wr w3 [(q2, 43, pcells p)]) := k_
        clear k_ hW_ Rw2
        refine wpList_nil ?_
        go_upto_region 6 with fail
        refine wp_region_lit ?_
        refine wl rfl (.agg (pcells p).toArray) _ (run_loadA ag43 (.tmp 4) rfl q2 (0) rfl (pcells p) rfl (rows_all Rw3.out 0 rfl)) ?_
        simp only [Act.put, List.setIfInBounds_toArray, List.set_cons_succ, List.set_cons_zero]
        refine wpList_callW eN34 [.tmp 28] _ rfl rfl [(.agg (pcells p).toArray)] rfl ?_
        refine (copyHolds_any p w3).mono ?_
        rintro e w4 ⟨rfl, b4⟩
        refine ⟨_, rfl, ?_⟩
        have HB4 : Hid (Below w.heap.size w w4) := (HA.out.2.trans (Rw3.out.below.mono HA.out.2.size)).trans (b4.mono (Nat.le_trans HA.out.2.size Rw3.out.below.size))
        obtain ⟨pb, hpb⟩ : ∃ pb, pb = pcB p := ⟨_, rfl⟩
        have HPB : Hid (pb = pcB p) := hpb
        rw [← hpb]
        clear b4 Rw3 hpb
        simp only [Act.put, List.setIfInBounds_toArray, List.set_cons_succ, List.set_cons_zero]
        refine wl rfl (.bool (!pb)) _ (run_not (.tmp 29) 4 rfl pb rfl) ?_
        simp only [Act.put, List.setIfInBounds_toArray, List.set_cons_succ, List.set_cons_zero]
        refine wpList_nil ?_
        cases pb with
        | false =>
          have er : R = false := (by rw [HR.out.1, all_notP r.cp k p HX.out.2.2 HPB.out.symm]; rfl)
          subst er
          go_wp2_with fail
          rw [HPQ.out]
          exact ⟨rfl, HB4.out⟩
        | true =>
          go_wp2_with fail
          refine ⟨⟨k + 1, by go_num, by omega, by rw [all_snocP r.cp k p HX.out.2.2, HA.out.1, ← HPB.out]; rfl, HB4.out⟩, ?_⟩
          simp [intOf]; omega
      · have t1 : decide ((k : Int) < (n : Int)) = false := decide_eq_false (by omega)
        have ek : k = n := by omega
        have er : R = true := by
          have h2 := HA.out.1
          rw [ek, HN.out.1, List.take_length] at h2
          rw [HR.out.1, h2]
          rfl
        subst er
        clear ek
        go_wp2_with fail
        rw [HPQ.out]
        exact ⟨rfl, HA.out.2⟩

end Go.Proofs.Ytncjmolhofnpbaa

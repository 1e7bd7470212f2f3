/- What bytes begin with: the document's own Unpack. -/
import Derived.Test.YtflabbladikhbaaDoorUnpack
namespace Go.Proofs.YtflabbladikhbaaDoor
open Go.RowKit

/-- append, as a run -/
theorem run_append {w : World} (base : Nat) (v vx : Value) (cs ys : List Nat) (ty : TypeId) (hown : BOwn w base v cs) (hin : SliceIn w vx ys) (hsz : cs.length + ys.length ≤ 140737488355328) (hbase : base ≤ w.heap.size) :
    ∃ v' w', (Builtin.append_ #[22, 22] ty #[v, vx]).run Tryd.prog w = .ok v' w' ∧ BOwn w' base v' (cs ++ ys) ∧ Below base w w' := by
  obtain ⟨i, hi, hz0, hz1, hz2⟩ := info_parts info5
  obtain ⟨p, cap, rfl, hl, hin⟩ := hin
  have hgo : ∀ ad : Addr, (∀ j u, (bcells ys)[j]? = some u → w.cell? (ad.add j) = some u) → p = some ad → ∃ v' w', (Builtin.append_ #[22, 22] ty #[v, .slice p ys.length cap]).run Tryd.prog w = .ok v' w' ∧ BOwn w' base v' (cs ++ ys) ∧ Below base w w' := by
    rintro ad hnews rfl
    obtain ⟨v', w', hr, ho', hg, _⟩ := run_append_own (P := Tryd.prog) (w := w) base 22 ty 5 i (.int .u8 0) 1 1 Tryd.underlying22 hi hz0 hz1 hz2 rfl (by decide) v cs.length (bcells cs) hown
      ad ys.length cap (bcells ys) (by simp [bcells_length]) hnews (bcells_one ys) (by unfold maxLen; omega) (by omega) hbase
    refine ⟨v', w', hr, ?_, (Below.refl base w).grown hg hbase fun k hk => (hown.lt k hk).1⟩
    unfold BOwn
    rw [bcells_append, List.length_append]
    exact ho'
  rcases hin with rfl | ⟨b, off, rfl, hc, _⟩
  · cases p with
    | none =>
      refine ⟨v, w, ?_, by rw [List.append_nil]; exact hown, Below.refl _ _⟩
      rcases hown.2 with ⟨rfl, h0⟩ | ⟨g, cap', cur, rfl, _, hg, hcap, hmax, hsz, htake⟩
      · simp [Builtin.append_, run_underlying Tryd.underlying22, sizeOf, typeInfo, hi, Builtin.lenOf, Builtin.firstCells]
      · simp [Builtin.append_, run_underlying Tryd.underlying22, sizeOf, typeInfo, hi, Builtin.lenOf, Builtin.firstCells, hcap, storeCells]
    | some ad => exact hgo ad (by intro j u hu; simp [bcells] at hu) rfl
  · refine hgo ⟨b, off, none⟩ (fun j u hu => ?_) rfl
    have hj : j < ys.length := by
      have := (List.getElem?_eq_some_iff.1 hu).1
      rwa [bcells_length] at this
    rw [add_none, hc j hj, ← hu, bcells_at ys j hj]
theorem run_lit0Op {w : World} {a : Act} {o : Oper} (ho : o.op = .buildSlice 22 0 #[]) : (execOp a.eval o).run Tryd.prog w = .ok (.value (.slice (some ⟨w.heap.size, 0, none⟩) 0 0)) (w.alloc (.cells #[] 5)) := by
  simp [execOp, ho, run_lit0]
theorem run_appendOp {w w' : World} {a : Act} {o : Oper} (sv x : Operand) (ho : o.op = .call { callee := .builtin .append, args := #[sv, x], argTypes := #[22, 22] }) (v vx v' : Value) (hs : a.eval sv = v) (hx : a.eval x = vx) (hr : (Builtin.append_ #[22, 22] o.type #[v, vx]).run Tryd.prog w = .ok v' w') : (execOp a.eval o).run Tryd.prog w = .ok (.value v') w' := by
  simp only [execOp, ho, resolve, invoke, builtin, Sem.run_bind, Sem.run_pure, Result.andThen_ok, List.map_toArray, List.map_cons, List.map_nil, hs, hx, hr]
theorem sub_lhn {w : World} {v : Value} {cs : List Nat} (h : SliceIn w v cs) (l n : Nat) (hl : l ≤ n) (hn : n ≤ cs.length) : ∃ v', (∀ w', (Instr.slice 22 v (some (.int .i64 (l : Nat))) (some (.int .i64 (n : Nat))) none).run Tryd.prog w' = .ok v' w') ∧ SliceIn w v' ((cs.take n).drop l) :=
  run_sub h ⟨Or.inr ⟨_, rfl, rfl⟩, Or.inr ⟨_, rfl, rfl, Or.inl rfl⟩, hl, hn⟩

set_option maxHeartbeats 400000 in
theorem refUnpack_short (v : Value) (cs : List Nat) (w : World) (h : SliceIn w v cs) (hl : cs.length < 9) :
    Calls Tryd.prog 15 #[v] w fun e w' => e = .returned (.tuple #[.int .u8 0, .slice none 0 0, .slice none 0 0, .int .i64 40]) ∧ w = w' := by
  go_enter Tryd.func15, Tryd.ntmps15
  go_wp2_with (refine wpList_len (.tmp 13) rfl rfl v cs rfl h ?_)
  refine bodyPost_ret (results_tmp4 rfl _ _ _) rfl ?_
  exact ⟨rfl, rfl⟩
set_option maxHeartbeats 400000 in
theorem refUnpack_far (v : Value) (cs : List Nat) (n : Nat) (w : World) (h : SliceIn w v cs) (hl : 9 ≤ cs.length) (hn : Hid (Frame.lenOf cs = n)) (hf : cs.length < n + 9) (hsz : cs.length ≤ 140737488355328) :
    Calls Tryd.prog 15 #[v] w fun e w' => e = .returned (.tuple #[.int .u8 0, .slice none 0 0, .slice none 0 0, .int .i64 40]) ∧ Below w.heap.size w w' := by
  go_enter Tryd.func15, Tryd.ntmps15
  go_wp2_with (first
    | (refine wpList_len (.tmp 13) rfl rfl v cs rfl h ?_)
    | (go_at_call_of 18 v; refine (refTake_yes v cs 4 w h (by decide) (by decide) (by omega) hsz).mono ?_; rintro e w1 ⟨v1, rfl, o1, b1⟩; rw [show Frame.val (cs.take 4) = n from hn.out]; have B1 : Hid (Below w.heap.size w w1) := b1; clear o1 b1)
    | (refine wpList_len (.tmp 23) rfl rfl v cs rfl h ?_))
  refine bodyPost_ret (results_tmp4 rfl _ _ _) rfl ?_
  exact ⟨rfl, B1.out⟩

set_option maxHeartbeats 1000000 in
theorem refUnpack_wrong (v : Value) (cs : List Nat) (n : Nat) (w : World) (h : SliceIn w v cs) (hl : 9 ≤ cs.length) (hn : Hid (Frame.lenOf cs = n)) (hb : n < 4294967296) (hf : n + 9 ≤ cs.length) (hsz : cs.length ≤ 140737488355328) (s t : Nat) (hs : Hid (Frame.val ((cs.drop (5 + n)).take 4) = s)) (hv : Hid (Frame.crc (cs.take (5 + n)) = t)) (hst : t < 4294967296) (hne : s ≠ t) :
    Calls Tryd.prog 15 #[v] w fun e w' => e = .returned (.tuple #[.int .u8 0, .slice none 0 0, .slice none 0 0, .int .i64 40]) ∧ Below w.heap.size w w' := by
  have hlen : (cs.drop (5 + n)).length ≤ 140737488355328 := by simp; omega
  have hlen4 : 4 ≤ (cs.drop (5 + n)).length := by simp; omega
  have HL : Hid ((cs.drop (5 + n)).length ≤ 140737488355328 ∧ 4 ≤ (cs.drop (5 + n)).length) := ⟨hlen, hlen4⟩
  clear hlen hlen4
  have hd : ((s : Int) != (t : Int)) = true := by simpa using fun e => hne (by omega)
  have hd' : ((s : Int) == (t : Int)) = false := by simpa using fun e => hne (by omega)
  have hd2 : ¬ (s : Int) = (t : Int) := by omega
  clear hne
  go_enter Tryd.func15, Tryd.ntmps15
  go_wp2_with (first
    | (refine wpList_len (.tmp 13) rfl rfl v cs rfl h ?_)
    | (go_at_call_of 18 v; refine (refTake_yes v cs 4 w h (by decide) (by decide) (by omega) hsz).mono ?_; rintro e w1 ⟨v1, rfl, o1, b1⟩; rw [show Frame.val (cs.take 4) = n from hn.out]; have B1 : Hid (Below w.heap.size w w1) := b1; clear o1 b1)
    | (refine wpList_len (.tmp 23) rfl rfl v cs rfl h ?_)
    | (refine wpList_sub (.tmp 32) (some (.tmp 33)) none none rfl rfl v cs rfl (h.later B1.out) (5 + n) cs.length ⟨Or.inr ⟨_, rfl, by omega⟩, Or.inl ⟨rfl, rfl, rfl⟩, by omega, Nat.le_refl _⟩ ?_; intro v2 s2; rw [take_all_drop] at s2; have S2 : Hid (SliceIn w1 v2 (cs.drop (5 + n))) := s2; clear s2)
    | (go_at_call_of 18 v2; refine (refTake_yes v2 (cs.drop (5 + n)) 4 w1 S2.out (by decide) (by decide) HL.out.2 HL.out.1).mono ?_; rintro e w3 ⟨v3, rfl, o3, b3⟩; rw [hs.out]; have O3 : Hid (BOwn w3 w1.heap.size v3 ((cs.drop (5 + n)).drop 4)) := o3; have B3 : Hid (Below w.heap.size w w3) := below_append B1.out b3; have B13 : Hid (w.heap.size ≤ w1.heap.size) := B1.out.size; clear o3 b3 B1 S2)
    | (refine wpList_sub (.tmp 40) none (some (.tmp 41)) none rfl rfl v cs rfl (h.later B3.out) 0 (5 + n) ⟨Or.inl ⟨rfl, rfl⟩, Or.inr ⟨_, rfl, by omega, Or.inl rfl⟩, Nat.zero_le _, by omega⟩ ?_; intro v4 s4; have S4 : Hid (SliceIn w3 v4 (cs.take (5 + n))) := s4; clear s4)
    | (go_at_call 22; refine (refsum_any v4 (cs.take (5 + n)) w3 S4.out).mono ?_; rintro e w' ⟨rfl, rfl⟩; rw [hv.out]))
  refine bodyPost_ret (results_tmp4 rfl _ _ _) rfl ?_
  exact ⟨rfl, B3.out⟩
set_option maxHeartbeats 1000000 in
theorem refUnpack_right (v : Value) (cs : List Nat) (n : Nat) (w : World) (h : SliceIn w v cs) (hl : 9 ≤ cs.length) (hn : Hid (Frame.lenOf cs = n)) (hb : n < 4294967296) (hf : n + 9 ≤ cs.length) (hsz : cs.length ≤ 140737488355328) (s t : Nat) (hs : Hid (Frame.val ((cs.drop (5 + n)).take 4) = s)) (hv : Hid (Frame.crc (cs.take (5 + n)) = t)) (hst : t < 4294967296) (heq : s = t) (c : Nat) (hc : Hid (cs.getD 4 0 = c)) :
    Calls Tryd.prog 15 #[v] w fun e w' => ∃ vp vr, e = .returned (.tuple #[.int .u8 (c : Nat), vp, vr, .int .i64 0]) ∧ BOwn w' w.heap.size vp ((cs.take (5 + n)).drop 5) ∧ BOwn w' w.heap.size vr ((cs.drop (5 + n)).drop 4) ∧ Below w.heap.size w w' := by
  have hlen : (cs.drop (5 + n)).length ≤ 140737488355328 := by simp; omega
  have hlen4 : 4 ≤ (cs.drop (5 + n)).length := by simp; omega
  have HL : Hid ((cs.drop (5 + n)).length ≤ 140737488355328 ∧ 4 ≤ (cs.drop (5 + n)).length) := ⟨hlen, hlen4⟩
  clear hlen hlen4
  subst heq
  go_enter Tryd.func15, Tryd.ntmps15
  go_wp2_with (first
    | (refine wpList_len (.tmp 13) rfl rfl v cs rfl h ?_)
    | (go_at_call_of 18 v; refine (refTake_yes v cs 4 w h (by decide) (by decide) (by omega) hsz).mono ?_; rintro e w1 ⟨v1, rfl, o1, b1⟩; rw [show Frame.val (cs.take 4) = n from hn.out]; have B1 : Hid (Below w.heap.size w w1) := b1; clear o1 b1)
    | (refine wpList_len (.tmp 23) rfl rfl v cs rfl h ?_)
    | (refine wpList_sub (.tmp 32) (some (.tmp 33)) none none rfl rfl v cs rfl (h.later B1.out) (5 + n) cs.length ⟨Or.inr ⟨_, rfl, by omega⟩, Or.inl ⟨rfl, rfl, rfl⟩, by omega, Nat.le_refl _⟩ ?_; intro v2 s2; rw [take_all_drop] at s2; have S2 : Hid (SliceIn w1 v2 (cs.drop (5 + n))) := s2; clear s2)
    | (go_at_call_of 18 v2; refine (refTake_yes v2 (cs.drop (5 + n)) 4 w1 S2.out (by decide) (by decide) HL.out.2 HL.out.1).mono ?_; rintro e w3 ⟨v3, rfl, o3, b3⟩; rw [hs.out]; have O3 : Hid (BOwn w3 w1.heap.size v3 ((cs.drop (5 + n)).drop 4)) := o3; have B3 : Hid (Below w.heap.size w w3) := below_append B1.out b3; have B13 : Hid (w.heap.size ≤ w1.heap.size) := B1.out.size; clear o3 b3 B1 S2)
    | (refine wpList_sub (.tmp 40) none (some (.tmp 41)) none rfl rfl v cs rfl (h.later B3.out) 0 (5 + n) ⟨Or.inl ⟨rfl, rfl⟩, Or.inr ⟨_, rfl, by omega, Or.inl rfl⟩, Nat.zero_le _, by omega⟩ ?_; intro v4 s4; have S4 : Hid (SliceIn w3 v4 (cs.take (5 + n))) := s4; clear s4)
    | (go_at_call 22; refine (refsum_any v4 (cs.take (5 + n)) w3 S4.out).mono ?_; rintro e w' ⟨rfl, rfl⟩; rw [hv.out]))
  have h0 := h.later B3.out
  obtain ⟨vc, rc, sc⟩ := sub_lhn h0 5 (5 + n) (by omega) (by omega)
  rw [show ((5 + n : Nat) : Int) = 5 + (n : Int) by omega, show ((5 : Nat) : Int) = 5 from rfl] at rc
  obtain ⟨b, j, ri, ci⟩ := run_index h0 4 (by omega)
  rw [show ((4 : Nat) : Int) = 4 from rfl] at ri
  have hlt : b < w3.heap.size := block_lt_of_cell ci
  rw [hc.out] at ci
  refine wp_region_held (S := UnS w3 b j c vc vc ((cs.take (5 + n)).drop 5) ((cs.take (5 + n)).drop 5)) (by kernel_rfl) ?_
  show wpAnyH _ _ _ _ _ 13 (Array.replicate 13 false) _ _
  have hS : UnS w3 b j c vc vc ((cs.take (5 + n)).drop 5) ((cs.take (5 + n)).drop 5) { w3 with drawn := w3.drawn + 1 } := ⟨ci, sc.later (below_drawn w3 _), sc.later (below_drawn w3 _), below_drawn w3 _⟩
  refine takeH (i := 0) (some 46) rfl rfl (by kernel_rfl) (by kernel_rfl) (by kernel_rfl) (fun _ _ _ h => h) (yMove rfl (.tmp 0) rfl v rfl) hS ?_
  simp only [Act.put, List.setIfInBounds_toArray, List.set_cons_succ, List.set_cons_zero]
  refine takeH (i := 1) (some 47) rfl rfl (by kernel_rfl) (by kernel_rfl) (by kernel_rfl) (fun _ _ _ h => h) (yIndex rfl (.tmp 46) (.const (.int .i64 4)) rfl v rfl (.int .i64 4) rfl (.pointer (some ⟨b, j, none⟩)) ri) hS ?_
  simp only [Act.put, List.setIfInBounds_toArray, List.set_cons_succ, List.set_cons_zero]
  refine takeH (i := 2) (some 48) rfl rfl (by kernel_rfl) (by kernel_rfl) (by kernel_rfl) (fun _ _ _ h => h) (yLoad rfl (.tmp 47) rfl b j rfl c (fun W hW => hW.1)) hS ?_
  simp only [Act.put, List.setIfInBounds_toArray, List.set_cons_succ, List.set_cons_zero]
  refine takeH (i := 4) (some 50) rfl rfl (by kernel_rfl) (by kernel_rfl) (by kernel_rfl) (fun _ _ _ h => h) (yMove rfl (.tmp 0) rfl v rfl) hS ?_
  simp only [Act.put, List.setIfInBounds_toArray, List.set_cons_succ, List.set_cons_zero]
  refine takeH (i := 5) (some 51) rfl rfl (by kernel_rfl) (by kernel_rfl) (by kernel_rfl) (fun _ _ _ h => h) (yMove rfl (.tmp 9) rfl (.int .i64 (5 + (n : Int))) rfl) hS ?_
  simp only [Act.put, List.setIfInBounds_toArray, List.set_cons_succ, List.set_cons_zero]
  refine takeH (i := 6) (some 52) rfl rfl (by kernel_rfl) (by kernel_rfl) (by kernel_rfl) (fun _ _ _ h => h) (ySub rfl (.tmp 50) (some (.const (.int .i64 5))) (some (.tmp 51)) none rfl v vc rfl rc) hS ?_
  simp only [Act.put, List.setIfInBounds_toArray, List.set_cons_succ, List.set_cons_zero]
  refine takeH (i := 8) (some 54) rfl rfl (by kernel_rfl) (by kernel_rfl) (by kernel_rfl) (fun _ _ _ h => h) (yMove rfl (.tmp 11) rfl v3 rfl) hS ?_
  simp only [Act.put, List.setIfInBounds_toArray, List.set_cons_succ, List.set_cons_zero]
  refine oneH (i := 3) (by kernel_rfl) ?_
  refine opVal (some 49) rfl rfl rfl _ _ (run_lit0Op rfl) ?_
  generalize hw4 : World.alloc { w3 with drawn := w3.drawn + 1 } (Obj.cells #[] 5) = w4
  have b4 : Below w3.heap.size w3 w4 := by rw [← hw4]; exact (below_drawn w3 (w3.drawn + 1)).alloc (Nat.le_refl _) _
  have o4 : BOwn w4 w3.heap.size (.slice (some ⟨w3.heap.size, 0, none⟩) 0 0) [] := by rw [← hw4]; exact BOwn.new { w3 with drawn := w3.drawn + 1 } w3.heap.size (Nat.le_refl _)
  have hS4 : UnS w3 b j c vc vc ((cs.take (5 + n)).drop 5) ((cs.take (5 + n)).drop 5) w4 := ⟨by rw [b4.cell (p := ⟨b, j, none⟩) hlt]; exact ci, sc.later b4, sc.later b4, b4⟩
  refine ⟨hS4, ?_⟩
  clear hS hw4
  simp only [Act.put, List.setIfInBounds_toArray, List.set_cons_succ, List.set_cons_zero]
  obtain ⟨v5, w5, r5, o5, b5⟩ := run_append w3.heap.size (.slice (some ⟨w3.heap.size, 0, none⟩) 0 0) vc [] ((cs.take (5 + n)).drop 5) 22 o4 hS4.2.1 (by simp; omega) b4.size
  refine oneH (i := 7) (by kernel_rfl) ?_
  refine opVal (some 53) rfl rfl rfl v5 w5 (run_appendOp (.tmp 49) (.tmp 52) rfl _ vc v5 rfl rfl r5) ?_
  have b35 : Below w3.heap.size w3 w5 := b4.trans b5
  have hS5 : UnS w3 b j c vc vc ((cs.take (5 + n)).drop 5) ((cs.take (5 + n)).drop 5) w5 := ⟨by rw [b35.cell (p := ⟨b, j, none⟩) hlt]; exact ci, sc.later b35, sc.later b35, b35⟩
  refine ⟨hS5, ?_⟩
  have O5 : Hid (BOwn w5 w3.heap.size v5 ((cs.take (5 + n)).drop 5)) := o5
  have O35 : Hid (BOwn w5 w1.heap.size v3 ((cs.drop (5 + n)).drop 4)) := O3.out.later b35 (Nat.le_refl _)
  have B5 : Hid (Below w.heap.size w w5) := below_append B3.out b35
  clear hS4 o4 b4 r5 o5 b5 b35
  simp only [Act.put, List.setIfInBounds_toArray, List.set_cons_succ, List.set_cons_zero]
  refine takeH (i := 9) (some 2) rfl rfl (by kernel_rfl) (by kernel_rfl) (by kernel_rfl) (fun _ _ _ h => h) (yAssign rfl (.tmp 48) rfl (.int .u8 (c : Nat)) rfl) hS5 ?_
  simp only [Act.put, List.setIfInBounds_toArray, List.set_cons_succ, List.set_cons_zero]
  refine takeH (i := 10) (some 3) rfl rfl (by kernel_rfl) (by kernel_rfl) (by kernel_rfl) (fun _ _ _ h => h) (yAssign rfl (.tmp 53) rfl v5 rfl) hS5 ?_
  simp only [Act.put, List.setIfInBounds_toArray, List.set_cons_succ, List.set_cons_zero]
  refine takeH (i := 11) (some 4) rfl rfl (by kernel_rfl) (by kernel_rfl) (by kernel_rfl) (fun _ _ _ h => h) (yAssign rfl (.tmp 54) rfl v3 rfl) hS5 ?_
  simp only [Act.put, List.setIfInBounds_toArray, List.set_cons_succ, List.set_cons_zero]
  refine takeH (i := 12) (some 5) rfl rfl (by kernel_rfl) (by kernel_rfl) (by kernel_rfl) (fun _ _ _ h => h) (yAssign rfl (.const (.int .i64 0)) rfl (.int .i64 0) rfl) hS5 ?_
  simp only [Act.put, List.setIfInBounds_toArray, List.set_cons_succ, List.set_cons_zero]
  refine wpAnyH_done (by kernel_rfl) ?_ _
  clear hS5 rc ri sc ci hlt
  go_wp2
  refine bodyPost_ret (results_tmp4 rfl _ _ _) rfl ?_
  exact ⟨v5, v3, rfl, O5.out.weaken B3.out.size, O35.out.weaken B13.out, B5.out⟩

theorem refUnpack_any (v : Value) (cs : List Nat) (w : World) (h : SliceIn w v cs) (hsz : cs.length ≤ 140737488355328) :
    Calls Tryd.prog 15 #[v] w fun e w' => ∃ vp vr, e = .returned (.tuple #[.int .u8 (Frame.kindOf cs : Nat), vp, vr, .int .i64 (Frame.errOf cs : Nat)]) ∧ BOwn w' w.heap.size vp (Frame.payOf cs) ∧ BOwn w' w.heap.size vr (Frame.restOf cs) ∧ Below w.heap.size w w' := by
  have bad : Frame.okB cs = false → ∀ (e : Ending) (w' : World), e = .returned (.tuple #[.int .u8 0, .slice none 0 0, .slice none 0 0, .int .i64 40]) → Below w.heap.size w w' → ∃ vp vr, e = .returned (.tuple #[.int .u8 (Frame.kindOf cs : Nat), vp, vr, .int .i64 (Frame.errOf cs : Nat)]) ∧ BOwn w' w.heap.size vp (Frame.payOf cs) ∧ BOwn w' w.heap.size vr (Frame.restOf cs) ∧ Below w.heap.size w w' := by
    rintro ho e w' rfl hb
    unfold Frame.kindOf Frame.errOf Frame.payOf Frame.restOf
    rw [ho]
    exact ⟨_, _, rfl, BOwn.nil _ _, BOwn.nil _ _, hb⟩
  by_cases h9 : 9 ≤ cs.length
  · by_cases hf : Frame.lenOf cs + 9 ≤ cs.length
    · have e1 : (cs.drop (5 + Frame.lenOf cs)).take 4 = (cs.take (5 + Frame.lenOf cs + 4)).drop (5 + Frame.lenOf cs) := by rw [List.drop_take]; congr 1; omega
      have e2 : (cs.drop (5 + Frame.lenOf cs)).drop 4 = cs.drop (5 + Frame.lenOf cs + 4) := by rw [List.drop_drop]
      by_cases hs : Frame.val ((cs.take (5 + Frame.lenOf cs + 4)).drop (5 + Frame.lenOf cs)) = Frame.crc (cs.take (5 + Frame.lenOf cs))
      · have ho : Frame.okB cs = true := decide_eq_true ⟨h9, by omega, hs⟩
        refine (refUnpack_right v cs (Frame.lenOf cs) w h h9 rfl (Frame.lenOf_lt cs h.mem) hf hsz _ _ rfl rfl (Frame.crc_lt _) (by rw [e1]; exact hs) (cs.getD 4 0) rfl).mono ?_
        rintro e w' ⟨vp, vr, rfl, h1, h2, h4⟩
        unfold Frame.kindOf Frame.errOf Frame.payOf Frame.restOf
        rw [ho]
        rw [e2] at h2
        exact ⟨vp, vr, rfl, h1, h2, h4⟩
      · have ho : Frame.okB cs = false := decide_eq_false fun h => hs h.2.2
        exact (refUnpack_wrong v cs (Frame.lenOf cs) w h h9 rfl (Frame.lenOf_lt cs h.mem) hf hsz _ _ rfl rfl (Frame.crc_lt _) (by rw [e1]; exact hs)).mono fun e w' h => bad ho e w' h.1 h.2
    · have ho : Frame.okB cs = false := decide_eq_false fun h => hf (by omega)
      exact (refUnpack_far v cs (Frame.lenOf cs) w h h9 rfl (by omega) hsz).mono fun e w' h => bad ho e w' h.1 h.2
  · have ho : Frame.okB cs = false := decide_eq_false fun h => h9 h.1
    exact (refUnpack_short v cs w h (by omega)).mono fun e w' h => bad ho e w' h.1 (h.2 ▸ Below.refl _ _)
end Go.Proofs.YtflabbladikhbaaDoor

/- The walks of the statements' leaves and same. -/
import Derived.Test.YtjdmpanemdhbbaaDoorRoot
namespace Go.Proofs.YtjdmpanemdhbbaaDoor
open Go.RowKit

theorem elem22 : Tryd.prog.elem 57 = 5 := by kernel_rfl
theorem under22 : Tryd.prog.underlying 57 = some (.slice (Tryd.prog.elem 57)) := by rw [elem22]; exact Tryd.underlying57
section
variable {w w0 : World} {ops : Array Oper} {rest : List Oper} {o : Oper} {a : Act} {Q : Exit → Act → World → Prop}
theorem wl_blen (x : Operand) (hgd : Region.wanted o (yielded ops a.tmps) = true) (ho : o.op = .call { callee := .builtin .len, args := #[x], argTypes := #[57] }) (v : Value) (cs : List Nat) (hx : a.eval x = v) (hin : SliceIn w0 v cs)
    (h : wpList Tryd.prog ops Q rest (a.put o.dst (.int .i64 (cs.length : Nat))) w) : wpList Tryd.prog ops Q (o :: rest) a w := by
  obtain ⟨p, cap, rfl, hl, _⟩ := hin
  have hr : (Builtin.len_ #[57] o.type #[.slice p cs.length cap]).run Tryd.prog w = .ok (goInt cs.length) w := run_len_slice w _ _ _ _ _ under22
  refine wl hgd _ w ?_ h
  simp only [execOp, ho, resolve, invoke, builtin, Sem.run_bind, Sem.run_pure, Result.andThen_ok, List.map_toArray, List.map_cons, List.map_nil, hx, hr]
  rfl
theorem wl_bindex (x i : Operand) (hgd : Region.wanted o (yielded ops a.tmps) = true) (ho : o.op = .indexAddr 57 x i) (v : Value) (cs : List Nat) (hx : a.eval x = v) (hin : SliceIn w v cs) (k : Nat) (hi : a.eval i = .int .i64 (k : Nat)) (hk : k < cs.length)
    (h : ∀ b j, w.cell? ⟨b, j, none⟩ = some (.int .u8 (cs.getD k 0 : Nat)) → wpList Tryd.prog ops Q rest (a.put o.dst (.pointer (some ⟨b, j, none⟩))) w) : wpList Tryd.prog ops Q (o :: rest) a w := by
  obtain ⟨p, cap, rfl, hl, hin⟩ := hin
  rcases hin with rfl | ⟨b, off, rfl, hc, _⟩
  · simp at hk
  obtain ⟨i5, hi5, hsz⟩ := Option.map_eq_some_iff.1 info5
  have hr : (Instr.indexAt 57 (.slice (some ⟨b, off, none⟩) cs.length cap) (.int .i64 (k : Nat))).run Tryd.prog w = .ok (.pointer (some ⟨b, off + k, none⟩)) w := by
    simp [Instr.indexAt, asIntOf, run_underlying Tryd.underlying57, hk, sizeOf, typeInfo, hi5, hsz, add_none]
  refine wl hgd _ w ?_ (h b (off + k) (hc k hk))
  simp only [execOp, ho, hx, hi, hr, Sem.run_bind, Sem.run_pure, Result.andThen_ok]
end

/-- the leaves of numbers, the first k -/
def lv (l : List Nat) (k : Nat) : List (List Nat) := (List.range k).map fun i => Tree.leaf [l.getD i 0, i % 256]
theorem lv_length (l : List Nat) (k : Nat) : (lv l k).length = k := by simp [lv]
theorem lv_succ (l : List Nat) (k : Nat) : lv l (k + 1) = lv l k ++ [Tree.leaf [l.getD k 0, k % 256]] := by simp [lv, List.range_succ]
theorem lv_all (l : List Nat) (k : Nat) : AllH (lv l k) := by
  intro h hh
  obtain ⟨i, _, rfl⟩ := List.mem_map.1 hh
  exact leaf_isH _
def LvIn (w W : World) (x : Value) (cs : List Nat) (k : Nat) : Prop := HOwn W w.heap.size x (lv cs k) ∧ Below w.heap.size w W

/-! same -/
def SameTo (w W : World) (xs ys : List (List Nat)) (k : Nat) : Prop := xs.take k = ys.take k ∧ Below w.heap.size w W
theorem sameTo_next {xs ys : List (List Nat)} {k : Nat} (h : xs.take k = ys.take k) (hx : k < xs.length) (hy : k < ys.length) (he : xs.getD k [] = ys.getD k []) : xs.take (k + 1) = ys.take (k + 1) := by
  rw [List.take_succ_eq_append_getElem hx, List.take_succ_eq_append_getElem hy, h]
  simp [hx, hy] at he
  rw [he]
set_option maxHeartbeats 1000000 in
set_option maxRecDepth 100000 in
theorem same_loop (va vb : Value) (xs ys : List (List Nat)) (n : Nat) (w : World) (ha : HIn w va xs) (hb : HIn w vb ys) (hx : xs.length = n) (hy : ys.length = n) :
    Calls Tryd.prog 12 #[va, vb] w fun e w' => e = .returned (.bool (decide (xs = ys))) ∧ Below w.heap.size w w' := by
  have HX : Hid (xs.length = n) := hx
  have HY : Hid (ys.length = n) := hy
  have hmax : n ≤ 9223372036854775807 := hx ▸ ha.max
  clear hx hy
  go_enter Tryd.func12, Tryd.ntmps12
  go_wp2_with (first
    | (refine wl_lenN (.tmp 6) rfl rfl va xs rfl ha n HX.out ?_)
    | (refine wl_lenN (.tmp 8) rfl rfl vb ys rfl hb n HY.out ?_))
  go_loopw [5] (fun i W => ∃ k : Nat, k ≤ n ∧ i = .int .i64 (k : Nat) ∧ SameTo w W xs ys k) (fun i _ => n - (intOf i).toNat)
  case atStart => exact ⟨0, Nat.zero_le _, rfl, rfl, Below.refl _ _⟩
  case round =>
    obtain ⟨k, hk, rfl, hs⟩ := hrel
    have HS : Hid (SameTo w wr xs ys k) := hs
    clear hs
    by_cases hlt : k < n
    · have hlt' : (k : Int) < (n : Int) := by omega
      obtain ⟨p1, r1, h1⟩ := run_hindex (ha.later HS.out.2) k (by have := HX.out; omega)
      obtain ⟨p2, r2, h2⟩ := run_hindex (hb.later HS.out.2) k (by have := HY.out; omega)
      have HP1 : Hid ((∀ w', (Instr.indexAt 24 va (.int .i64 (k : Nat))).run Tryd.prog w' = .ok p1 w') ∧ HAt wr p1 (xs.getD k [])) := ⟨r1, h1⟩
      have HP2 : Hid ((∀ w', (Instr.indexAt 24 vb (.int .i64 (k : Nat))).run Tryd.prog w' = .ok p2 w') ∧ HAt wr p2 (ys.getD k [])) := ⟨r2, h2⟩
      have HH : Hid (IsH (xs.getD k []) ∧ IsH (ys.getD k [])) := ⟨h1.1, h2.1⟩
      have HD : Hid (xs.getD k [] = ys.getD k [] ∨ ¬ xs.getD k [] = ys.getD k []) := Classical.em _
      have HN : Hid (xs.getD k [] = ys.getD k [] → xs.take (k + 1) = ys.take (k + 1)) := fun e => sameTo_next HS.out.1 (by have := HX.out; omega) (by have := HY.out; omega) e
      have HF : Hid (¬ xs.getD k [] = ys.getD k [] → ¬ xs = ys) := fun e e' => e (by rw [e'])
      clear r1 h1 r2 h2
      generalize xs.getD k [] = x at HP1 HH HD HN HF
      generalize ys.getD k [] = y at HP2 HH HD HN HF
      go_wp2_with (first
        | (refine wl_lenN (.tmp 12) rfl rfl va xs rfl ha n HX.out ?_))
      refine wp_region_held (S := fun W => HAt W p1 x ∧ HAt W p2 y) (by kernel_rfl) ?_
      show wpAnyH _ _ _ _ _ 9 (Array.replicate 9 false) _ _
      have hS : HAt { wr with drawn := wr.drawn + 1 } p1 x ∧ HAt { wr with drawn := wr.drawn + 1 } p2 y := ⟨HP1.out.2, HP2.out.2⟩
      refine takeH (i := 0) (some 17) rfl rfl (by kernel_rfl) (by kernel_rfl) (by kernel_rfl) (fun _ _ _ h => h) (yMove rfl (.tmp 0) rfl (va) rfl) hS ?_
      simp only [Act.put, List.setIfInBounds_toArray, List.set_cons_succ, List.set_cons_zero]
      refine takeH (i := 1) (some 18) rfl rfl (by kernel_rfl) (by kernel_rfl) (by kernel_rfl) (fun _ _ _ h => h) (yMove rfl (.tmp 5) rfl (.int .i64 (k : Nat)) rfl) hS ?_
      simp only [Act.put, List.setIfInBounds_toArray, List.set_cons_succ, List.set_cons_zero]
      refine takeH (i := 2) (some 19) rfl rfl (by kernel_rfl) (by kernel_rfl) (by kernel_rfl) (fun _ _ _ h => h) (yIndex rfl (.tmp 17) (.tmp 18) rfl va p1 rfl _ rfl HP1.out.1) hS ?_
      simp only [Act.put, List.setIfInBounds_toArray, List.set_cons_succ, List.set_cons_zero]
      refine takeH (i := 3) (some 20) rfl rfl (by kernel_rfl) (by kernel_rfl) (by kernel_rfl) (fun _ _ _ h => h) (yLoad rfl (.tmp 19) rfl p1 rfl x (fun _ h => h.1)) hS ?_
      simp only [Act.put, List.setIfInBounds_toArray, List.set_cons_succ, List.set_cons_zero]
      refine takeH (i := 4) (some 21) rfl rfl (by kernel_rfl) (by kernel_rfl) (by kernel_rfl) (fun _ _ _ h => h) (yMove rfl (.tmp 1) rfl (vb) rfl) hS ?_
      simp only [Act.put, List.setIfInBounds_toArray, List.set_cons_succ, List.set_cons_zero]
      refine takeH (i := 5) (some 22) rfl rfl (by kernel_rfl) (by kernel_rfl) (by kernel_rfl) (fun _ _ _ h => h) (yMove rfl (.tmp 5) rfl (.int .i64 (k : Nat)) rfl) hS ?_
      simp only [Act.put, List.setIfInBounds_toArray, List.set_cons_succ, List.set_cons_zero]
      refine takeH (i := 6) (some 23) rfl rfl (by kernel_rfl) (by kernel_rfl) (by kernel_rfl) (fun _ _ _ h => h) (yIndex rfl (.tmp 21) (.tmp 22) rfl vb p2 rfl _ rfl HP2.out.1) hS ?_
      simp only [Act.put, List.setIfInBounds_toArray, List.set_cons_succ, List.set_cons_zero]
      refine takeH (i := 7) (some 24) rfl rfl (by kernel_rfl) (by kernel_rfl) (by kernel_rfl) (fun _ _ _ h => h) (yLoad rfl (.tmp 23) rfl p2 rfl y (fun _ h => h.2)) hS ?_
      simp only [Act.put, List.setIfInBounds_toArray, List.set_cons_succ, List.set_cons_zero]
      refine takeH (i := 8) (some 25) rfl rfl (by kernel_rfl) (by kernel_rfl) (by kernel_rfl) (fun _ _ _ h => h) (yRun rfl _ (fun _ _ => rx_ne (.tmp 20) (.tmp 24) rfl x y HH.out.1 HH.out.2 rfl rfl)) hS ?_
      simp only [Act.put, List.setIfInBounds_toArray, List.set_cons_succ, List.set_cons_zero]
      refine wpAnyH_done (by kernel_rfl) ?_ _
      have B1 : Hid (Below w.heap.size w { wr with drawn := wr.drawn + 1 }) := below_append HS.out.2 (below_drawn wr _)
      rcases HD.out with hd | hd
      · have HT : Hid (SameTo w { wr with drawn := wr.drawn + 1 } xs ys (k + 1)) := ⟨HN.out hd, B1.out⟩
        rw [decide_eq_true hd]
        clear hS hd
        go_wp2_with fail
        exact ⟨⟨k + 1, by omega, by go_num, HT.out⟩, by simp [intOf]; omega⟩
      · have HT : Hid (decide (xs = ys) = false) := decide_eq_false (HF.out hd)
        rw [decide_eq_false hd]
        clear hS hd
        go_wp2_with fail
        go_ret
        exact ⟨by rw [HT.out]; rfl, B1.out⟩
    · have hlt' : ¬ (k : Int) < (n : Int) := by omega
      have HE : Hid (decide (xs = ys) = true) := by
        refine decide_eq_true ?_
        have h := HS.out.1
        have hx := HX.out
        have hy := HY.out
        rwa [List.take_of_length_le (by omega), List.take_of_length_le (by omega)] at h
      go_wp2_with (first
        | (refine wl_lenN (.tmp 12) rfl rfl va xs rfl ha n HX.out ?_))
      go_ret
      exact ⟨by rw [HE.out]; rfl, HS.out.2⟩
set_option maxHeartbeats 1000000 in
theorem same_unlike (va vb : Value) (xs ys : List (List Nat)) (n m : Nat) (w : World) (ha : HIn w va xs) (hb : HIn w vb ys) (hx : xs.length = n) (hy : ys.length = m) (hne : n ≠ m) :
    Calls Tryd.prog 12 #[va, vb] w fun e w' => e = .returned (.bool (decide (xs = ys))) ∧ Below w.heap.size w w' := by
  have HX : Hid (xs.length = n) := hx
  have HY : Hid (ys.length = m) := hy
  have HE : Hid (decide (xs = ys) = false) := decide_eq_false (by rintro rfl; omega)
  have hne' : ¬ (n : Int) = (m : Int) := by omega
  clear hx hy
  go_enter Tryd.func12, Tryd.ntmps12
  go_wp2_with (first
    | (refine wl_lenN (.tmp 6) rfl rfl va xs rfl ha n HX.out ?_)
    | (refine wl_lenN (.tmp 8) rfl rfl vb ys rfl hb m HY.out ?_))
  go_ret
  exact ⟨by rw [HE.out]; rfl, Below.refl _ _⟩
theorem same_any (va vb : Value) (xs ys : List (List Nat)) (w : World) (ha : HIn w va xs) (hb : HIn w vb ys) :
    Calls Tryd.prog 12 #[va, vb] w fun e w' => e = .returned (.bool (decide (xs = ys))) ∧ Below w.heap.size w w' := by
  by_cases h : xs.length = ys.length
  · exact same_loop va vb xs ys _ w ha hb rfl h.symm
  · exact same_unlike va vb xs ys _ _ w ha hb rfl rfl h
end Go.Proofs.YtjdmpanemdhbbaaDoor

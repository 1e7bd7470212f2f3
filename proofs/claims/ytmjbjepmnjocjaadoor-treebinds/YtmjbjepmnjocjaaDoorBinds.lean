/- The law TreeBinds, walked out of its callees' contracts. -/
import Derived.Test.YtmjbjepmnjocjaaDoorShown
import Derived.Test.YtmjbjepmnjocjaaDoorMet
namespace Go.Proofs.YtmjbjepmnjocjaaDoor
open Go.RowKit

theorem run_bto {w : World} {v : Value} {cs : List Nat} (hin : SliceIn w v cs) (k : Nat) (hk : k ≤ cs.length) :
    ∃ v', (∀ w', (Instr.slice 22 v none (some (.int .i64 (k : Nat))) none).run Tryd.prog w' = .ok v' w') ∧ SliceIn w v' (cs.take k) := by
  obtain ⟨p, cap, rfl, hl, hin⟩ := hin
  obtain ⟨i5, hi5, hsz⟩ := Option.map_eq_some_iff.1 info5
  have hsize : ∀ w' : World, (sizeOf 5).run Tryd.prog w' = .ok 1 w' := fun w' => by simp [sizeOf, typeInfo, hi5, hsz]
  have hlen : (cs.take k).length = k := by rw [List.length_take]; omega
  refine ⟨sliced p 0 k cap 1, fun w' => ?_, ?_⟩
  · rw [run_slice_h _ _ _ _ _ under22 _ _ (by omega) (by omega), elem22, hsize]; rfl
  · unfold sliced
    by_cases h0 : k = 0
    · subst h0
      exact ⟨if cap = 0 then p else p.map (·.add (0 * 1)), cap - 0, by simp, ⟨by simp, by simp⟩, Or.inl (by simp)⟩
    · rcases hin with rfl | ⟨b, off, rfl, hc, hb⟩
      · simp at hk; omega
      · refine ⟨_, cap - 0, by rw [hlen, Nat.sub_zero], ⟨by rw [hlen]; omega, by rw [hlen]; omega⟩, Or.inr ⟨b, off, ?_, fun j hj => ?_, lt256 _ (fun c hc' => ?_)⟩⟩
        · rw [if_neg (by omega), Option.map_some, Nat.zero_mul, add_none]
          rfl
        · rw [hlen] at hj
          rw [hc j (by omega)]
          simp [hj]
        · have hm := List.mem_of_mem_take hc'
          obtain ⟨j, hj, rfl⟩ := List.getElem_of_mem hm
          simpa [hj] using hb j
section
variable {w : World} {ops : Array Oper} {rest : List Oper} {o : Oper} {a : Act} {Q : Exit → Act → World → Prop}
theorem wl_bto (x y : Operand) (hgd : Region.wanted o (yielded ops a.tmps) = true) (ho : o.op = .slice 22 x none (some y) none) (v : Value) (cs : List Nat) (hx : a.eval x = v) (hin : SliceIn w v cs) (k : Nat) (hy : a.eval y = .int .i64 (k : Nat)) (hk : k ≤ cs.length)
    (h : ∀ v', SliceIn w v' (cs.take k) → wpList Tryd.prog ops Q rest (a.put o.dst v') w) : wpList Tryd.prog ops Q (o :: rest) a w := by
  obtain ⟨v', hr, hv'⟩ := run_bto hin k hk
  refine wl hgd v' w ?_ (h v' hv')
  have hr' := hr w
  simp [execOp, ho, hx, hy, run_sliceAt_slice _ _ _ _ _ _ under22, hr']
theorem wl_min3 (x y z : Operand) (hgd : Region.wanted o (yielded ops a.tmps) = true) (ho : o.op = .call { callee := .builtin .min, args := #[x, y, z], argTypes := #[3, 3, 3] }) (A B C N : Nat) (hx : a.eval x = .int .i64 (A : Nat)) (hy : a.eval y = .int .i64 (B : Nat)) (hz : a.eval z = .int .i64 (C : Nat)) (hN : N = min (min A B) C)
    (h : wpList Tryd.prog ops Q rest (a.put o.dst (.int .i64 (N : Nat))) w) : wpList Tryd.prog ops Q (o :: rest) a w := by
  refine wl hgd _ w ?_ h
  have hr := run_min_int3 (P := Tryd.prog) (w := w) #[3, 3, 3] o.type .i64 .i64 .i64 (A : Int) (B : Int) (C : Int)
  simp only [execOp, ho, resolve, invoke, builtin, Sem.run_bind, Sem.run_pure, Result.andThen_ok, List.map_toArray, List.map_cons, List.map_nil, hx, hy, hz, hr]
  congr 3
  subst hN
  split <;> split <;> omega
end
set_option maxHeartbeats 4000000 in
set_option maxRecDepth 100000 in
theorem treeBinds_any (va vb : Value) (as' bs : List Nat) (w : World) (ha : SliceIn w va as') (hb : SliceIn w vb bs) (ht : TabIn w) (hst : StartIn w) :
    Calls Tryd.prog 7 #[va, vb] w fun e w' => e = .returned (.bool true) ∧ Below w.heap.size w w' := by
  go_enter Tryd.func7, Tryd.ntmps7
  go_wp2_with fail
  refine (shown_any w ht hst).mono ?_
  rintro e w1 ⟨rfl, b1⟩
  have R1 : Hid (Below w.heap.size w w1) := b1
  clear b1
  obtain ⟨n, hn⟩ : ∃ n, n = min (min as'.length bs.length) 40 := ⟨_, rfl⟩
  have HN : Hid (n = min (min as'.length bs.length) 40) := hn
  have hna : n ≤ as'.length := by omega
  have hnb : n ≤ bs.length := by omega
  have hn40 : n ≤ 40 := by omega
  clear hn
  go_wp2_with (first
    | (refine wl_blen (.tmp 13) rfl rfl va as' rfl ha ?_)
    | (refine wl_blen (.tmp 15) rfl rfl vb bs rfl hb ?_)
    | (refine wl_min3 (.tmp 14) (.tmp 16) (.const (.int .i64 40)) rfl rfl as'.length bs.length 40 n rfl rfl rfl HN.out ?_)
    | (refine wl_bto (.tmp 18) (.tmp 19) rfl rfl va as' rfl (ha.later R1.out) n rfl hna ?_; intro v1 s1; have S1 : Hid (SliceIn w1 v1 (as'.take n)) := s1; clear s1))
  refine (leaves_any v1 (as'.take n) w1 S1.out (by rw [List.length_take]; omega)).mono ?_
  rintro e w2 ⟨vx, rfl, o2, b2⟩
  have R2 : Hid (HIn w2 vx (lv (as'.take n) (as'.take n).length) ∧ Below w.heap.size w w2 ∧ (lv (as'.take n) (as'.take n).length).length = n) := ⟨o2.hin, below_append R1.out b2, by rw [lv_length, List.length_take]; omega⟩
  clear o2 b2 R1 S1
  generalize lv (as'.take n) (as'.take n).length = X at R2
  go_wp2_with (first
    | (refine wl_bto (.tmp 22) (.tmp 23) rfl rfl vb bs rfl (hb.later R2.out.2.1) n rfl hnb ?_; intro v2 s2; have S2 : Hid (SliceIn w2 v2 (bs.take n)) := s2; clear s2))
  refine (leaves_any v2 (bs.take n) w2 S2.out (by rw [List.length_take]; omega)).mono ?_
  rintro e w3 ⟨vy, rfl, o3, b3⟩
  have R3 : Hid (HIn w3 vx X ∧ HIn w3 vy (lv (bs.take n) (bs.take n).length) ∧ Below w.heap.size w w3 ∧ X.length = n ∧ (lv (bs.take n) (bs.take n).length).length = n) := ⟨R2.out.1.later b3, o3.hin, below_append R2.out.2.1 b3, R2.out.2.2, by rw [lv_length, List.length_take]; omega⟩
  clear o3 b3 R2 S2
  generalize lv (bs.take n) (bs.take n).length = Y at R3
  go_wp2_with fail
  refine (root_any _ vx X w3 R3.out.2.2.2.1 (by omega) R3.out.1 (ht.later R3.out.2.2.1) (hst.later R3.out.2.2.1)).mono ?_
  rintro e w4 ⟨rfl, b4⟩
  have R4 : Hid (HIn w4 vx X ∧ HIn w4 vy Y ∧ Below w.heap.size w w4 ∧ X.length = n ∧ Y.length = n ∧ IsH (Tree.root X)) := ⟨R3.out.1.later b4, R3.out.2.1.later b4, below_append R3.out.2.2.1 b4, R3.out.2.2.2.1, R3.out.2.2.2.2, R3.out.1.all.root⟩
  clear b4 R3
  obtain ⟨r, hr⟩ : ∃ r, r = Tree.root X := ⟨_, rfl⟩
  rw [← hr] at R4 ⊢
  have HR : Hid (Tree.root X = r) := hr.symm
  clear hr
  go_wp2_with (first
    | (refine wl_new rfl rfl rfl rfl rfl (.tmp 27) rfl r R4.out.2.2.2.2.2 (fun _ => rfl) (fun _ => rfl) ?_; intro w5 r5 s5 b5; have R5 : Hid (HIn w5 vx X ∧ HIn w5 vy Y ∧ Below w.heap.size w w5 ∧ X.length = n ∧ Y.length = n ∧ HIs w5 w4.heap.size r) := ⟨R4.out.1.later b5, R4.out.2.1.later b5, below_append R4.out.2.2.1 b5, R4.out.2.2.2.1, R4.out.2.2.2.2.1, r5⟩; clear r5 s5 b5))
  generalize w4.heap.size = g9 at R5 ⊢
  refine (root_any _ vy Y w5 R5.out.2.2.2.2.1 (by omega) R5.out.2.1 (ht.later R5.out.2.2.1) (hst.later R5.out.2.2.1)).mono ?_
  rintro e w6 ⟨rfl, b6⟩
  have R6 : Hid (HIn w6 vx X ∧ HIn w6 vy Y ∧ Below w.heap.size w w6 ∧ X.length = n ∧ Y.length = n ∧ HIs w6 g9 r ∧ IsH (Tree.root Y)) := ⟨R5.out.1.later b6, R5.out.2.1.later b6, below_append R5.out.2.2.1 b6, R5.out.2.2.2.1, R5.out.2.2.2.2.1, R5.out.2.2.2.2.2.next b6, R5.out.2.1.all.root⟩
  clear b6 R5 R4
  obtain ⟨s, hs⟩ : ∃ s, s = Tree.root Y := ⟨_, rfl⟩
  rw [← hs] at R6 ⊢
  have HS : Hid (Tree.root Y = s) := hs.symm
  clear hs
  go_wp2_with (first
    | (refine wl_new rfl rfl rfl rfl rfl (.tmp 29) rfl s R6.out.2.2.2.2.2.2 (fun _ => rfl) (fun _ => rfl) ?_; intro w7 r7 s7 b7; have R7 : Hid (HIn w7 vx X ∧ HIn w7 vy Y ∧ Below w.heap.size w w7 ∧ X.length = n ∧ Y.length = n ∧ HIs w7 g9 r ∧ HIs w7 w6.heap.size s) := ⟨R6.out.1.later b7, R6.out.2.1.later b7, below_append R6.out.2.2.1 b7, R6.out.2.2.2.1, R6.out.2.2.2.2.1, R6.out.2.2.2.2.2.1.next b7, r7⟩; clear r7 s7 b7))
  generalize w6.heap.size = g10 at R7 ⊢
  clear R6
  refine (same_any vx vy X Y w7 R7.out.1 R7.out.2.1).mono ?_
  rintro e w8 ⟨rfl, b8⟩
  have R8 : Hid (HIn w8 vx X ∧ HIn w8 vy Y ∧ Below w.heap.size w w8 ∧ X.length = n ∧ Y.length = n ∧ HIs w8 g9 r ∧ HIs w8 g10 s) := ⟨R7.out.1.later b8, R7.out.2.1.later b8, below_append R7.out.2.2.1 b8, R7.out.2.2.2.1, R7.out.2.2.2.2.1, R7.out.2.2.2.2.2.1.next b8, R7.out.2.2.2.2.2.2.next b8⟩
  clear b8 R7
  by_cases hxy : X = Y
  · rw [decide_eq_true hxy]
    have HRS : Hid (decide (r = s) = true) := decide_eq_true (by rw [← HR.out, ← HS.out, hxy])
    clear hxy
    go_wp2_with (first
      | (refine wl_load (.tmp 9) rfl rfl _ rfl r R8.out.2.2.2.2.2.1.at ?_)
      | (refine wl_load (.tmp 10) rfl rfl _ rfl s R8.out.2.2.2.2.2.2.at ?_)
      | (refine wl_eq (.tmp 36) (.tmp 37) rfl rfl r s R8.out.2.2.2.2.2.1.1 R8.out.2.2.2.2.2.2.1 rfl rfl ?_; rw [HRS.out]))
    go_ret
    exact ⟨rfl, R8.out.2.2.1⟩
  · rw [decide_eq_false hxy]
    have HXY : Hid (X ≠ Y) := hxy
    clear hxy
    by_cases hrs : r = s
    · have HRS : Hid (decide (r = s) = true) := decide_eq_true hrs
      have HRR : Hid (Tree.root X = Tree.root Y) := by show _ = _; rw [HR.out, HS.out]; exact hrs
      clear hrs
      go_wp2_with (first
        | (refine wl_load (.tmp 9) rfl rfl _ rfl r R8.out.2.2.2.2.2.1.at ?_)
        | (refine wl_load (.tmp 10) rfl rfl _ rfl s R8.out.2.2.2.2.2.2.at ?_)
        | (refine wl_eq (.tmp 40) (.tmp 41) rfl rfl r s R8.out.2.2.2.2.2.1.1 R8.out.2.2.2.2.2.2.1 rfl rfl ?_; rw [HRS.out]))
      refine (met_any n vx vy X Y w8 R8.out.2.2.2.1 R8.out.2.2.2.2.1 (by omega) R8.out.1 R8.out.2.1 (ht.later R8.out.2.2.1) (hst.later R8.out.2.2.1) HXY.out HRR.out).mono ?_
      rintro e w9 ⟨rfl, b9⟩
      have R9 : Hid (Below w.heap.size w w9) := below_append R8.out.2.2.1 b9
      clear b9
      go_wp2_with fail
      go_ret
      exact ⟨rfl, R9.out⟩
    · have HRS : Hid (decide (r = s) = false) := decide_eq_false hrs
      clear hrs
      go_wp2_with (first
        | (refine wl_load (.tmp 9) rfl rfl _ rfl r R8.out.2.2.2.2.2.1.at ?_)
        | (refine wl_load (.tmp 10) rfl rfl _ rfl s R8.out.2.2.2.2.2.2.at ?_)
        | (refine wl_eq (.tmp 40) (.tmp 41) rfl rfl r s R8.out.2.2.2.2.2.1.1 R8.out.2.2.2.2.2.2.1 rfl rfl ?_; rw [HRS.out]))
      go_ret
      exact ⟨rfl, R8.out.2.2.1⟩
end Go.Proofs.YtmjbjepmnjocjaaDoor

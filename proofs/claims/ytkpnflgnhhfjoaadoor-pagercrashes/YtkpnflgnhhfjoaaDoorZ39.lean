/- The document's pager: New . -/
import Derived.Test.YtkpnflgnhhfjoaaDoorZ38
namespace Go.Proofs.YtkpnflgnhhfjoaaDoor
open Go.RowKit Go.Maps

theorem threeH {ops : Array Oper} {Q : Exit → Act → World → Prop} {S : World → Prop} {fuel : Nat} {listed : Array Bool} {a : Act} {w : World} {i j k : Nat} (hr : Region.ready .any ops listed = [i, j, k]) (h1 : wpOp Tryd.prog ops Q i (fun a' w' => S w' ∧ wpAnyH Tryd.prog .any ops Q S fuel (listed.setIfInBounds i true) a' w') a w) (h2 : wpOp Tryd.prog ops Q j (fun a' w' => S w' ∧ wpAnyH Tryd.prog .any ops Q S fuel (listed.setIfInBounds j true) a' w') a w) (h3 : wpOp Tryd.prog ops Q k (fun a' w' => S w' ∧ wpAnyH Tryd.prog .any ops Q S fuel (listed.setIfInBounds k true) a' w') a w) : wpAnyH Tryd.prog .any ops Q S (fuel + 1) listed a w :=
  wpAnyH_all (rs := [i, j, k]) hr (by simp) fun m hm => by
    simp at hm
    rcases hm with rfl | rfl | rfl
    · exact h1
    · exact h2
    · exact h3
theorem fourH {ops : Array Oper} {Q : Exit → Act → World → Prop} {S : World → Prop} {fuel : Nat} {listed : Array Bool} {a : Act} {w : World} {i j k l : Nat} (hr : Region.ready .any ops listed = [i, j, k, l]) (h1 : wpOp Tryd.prog ops Q i (fun a' w' => S w' ∧ wpAnyH Tryd.prog .any ops Q S fuel (listed.setIfInBounds i true) a' w') a w) (h2 : wpOp Tryd.prog ops Q j (fun a' w' => S w' ∧ wpAnyH Tryd.prog .any ops Q S fuel (listed.setIfInBounds j true) a' w') a w) (h3 : wpOp Tryd.prog ops Q k (fun a' w' => S w' ∧ wpAnyH Tryd.prog .any ops Q S fuel (listed.setIfInBounds k true) a' w') a w) (h4 : wpOp Tryd.prog ops Q l (fun a' w' => S w' ∧ wpAnyH Tryd.prog .any ops Q S fuel (listed.setIfInBounds l true) a' w') a w) : wpAnyH Tryd.prog .any ops Q S (fuel + 1) listed a w :=
  wpAnyH_all (rs := [i, j, k, l]) hr (by simp) fun m hm => by
    simp at hm
    rcases hm with rfl | rfl | rfl | rfl
    · exact h1
    · exact h2
    · exact h3
    · exact h4
theorem made_rep (z : Value) (hz : z.cells = #[z]) (n : Nat) : (madeCells z.cells (n * 1)).toList = List.replicate n z := by
  rw [hz, Nat.mul_one]
  exact toList_madeCells_one z n
theorem run_makeY {S : Nat → Prop} {w : World} {a : Act} {o : Oper} (l c : Operand) (t e : TypeId) (z : Value) (bts : Nat) (ho : o.op = .makeSlice t l c) (hu : Tryd.prog.underlying t = some (.slice e)) (hinfo : (Tryd.prog.info? e).map (fun i => (i.zero, i.size, i.bytes)) = some (some z, 1, bts)) (hz : z.cells = #[z]) (hbt : bts ≤ 24)
    (n : Nat) (hl : a.eval l = .int .i64 (n : Nat)) (hc : a.eval c = .int .i64 (n : Nat)) (hn : n ≤ 384) (hS : ∀ b, w.heap.size ≤ b → S b) : ∃ w', (execOp a.eval o).run Tryd.prog w = .ok (.value (whole w.heap.size n)) w' ∧ Own1 S w' e (whole w.heap.size n) (List.replicate n z) ∧ w'.heap.size = w.heap.size + 1 ∧ Below w.heap.size w w' := by
  obtain ⟨i, hi, hz0, hz1, hz2⟩ := info_parts hinfo
  have hm : bts * n ≤ 24 * 384 := Nat.mul_le_mul hbt hn
  have hr := run_make (P := Tryd.prog) (w := w) t e i z hu hi hz0 .i64 .i64 (n : Nat) (n : Nat) (by omega) (Int.le_refl _) (by rw [hz2]; omega) (by omega)
  rw [Int.toNat_natCast, hz1] at hr
  refine ⟨_, by simp only [execOp, ho, hl, hc, hr, Sem.run_bind, Sem.run_pure, Result.andThen_ok]; rfl, ?_, by show (w.heap.push _).size = _; simp, below_alloc w _⟩
  have hrow := Row.new' w e (madeCells z.cells (n * 1))
  rw [made_rep z hz] at hrow
  refine ⟨⟨by simp, Or.inr ⟨w.heap.size, n, (List.replicate n z).toArray, by rw [List.length_replicate]; rfl, Nat.zero_le _, hrow, by simp, by (first | omega | (unfold maxLen; omega)), by simp, by simp⟩⟩, fun b hb => ?_⟩
  cases hb
  exact hS _ (Nat.le_refl _)
theorem run_build84 (w : World) (n rt : Int) (p1 p2 p3 p4 : Option Addr) (a1 b1 a2 b2 a3 b3 a4 b4 : Nat) : (Instr.build 84 #[(0, .int .i64 n), (1, .slice p1 a1 b1), (2, .slice p2 a2 b2), (3, .slice p3 a3 b3), (4, .int .i64 rt), (5, .slice p4 a4 b4)]).run Tryd.prog w = .ok (.agg #[.int .i64 n, .slice p1 a1 b1, .slice p2 a2 b2, .slice p3 a3 b3, .int .i64 rt, .slice p4 a4 b4]) w := by kernel_rfl
theorem run_bld84 {w : World} {a : Act} {o : Oper} (x0 x1 x2 x3 x4 x5 : Operand) (ho : o.op = .build 84 #[(0, x0), (1, x1), (2, x2), (3, x3), (4, x4), (5, x5)]) (n rt : Int) (p1 p2 p3 p4 : Option Addr) (a1 b1 a2 b2 a3 b3 a4 b4 : Nat) (h0 : a.eval x0 = .int .i64 n) (h1 : a.eval x1 = .slice p1 a1 b1) (h2 : a.eval x2 = .slice p2 a2 b2) (h3 : a.eval x3 = .slice p3 a3 b3) (h4 : a.eval x4 = .int .i64 rt) (h5 : a.eval x5 = .slice p4 a4 b4) : (execOp a.eval o).run Tryd.prog w = .ok (.value (.agg #[.int .i64 n, .slice p1 a1 b1, .slice p2 a2 b2, .slice p3 a3 b3, .int .i64 rt, .slice p4 a4 b4])) w := by
  simp only [execOp, ho, List.map_toArray, List.map_cons, List.map_nil, h0, h1, h2, h3, h4, h5, run_build84, Sem.run_bind, Sem.run_pure, Result.andThen_ok]
theorem run_subY {w : World} {a : Act} {o : Oper} (x : Operand) (ho : o.op = .binOp .sub 3 x (.const (.int .i64 2)) 3) (z : Int) (hx : a.eval x = .int .i64 z) : (execOp a.eval o).run Tryd.prog w = .ok (.value (.int .i64 (IntKind.i64.wrap (z - 2)))) w := by
  have e : a.eval (.const (.int .i64 2)) = .int .i64 2 := rfl
  simp only [execOp, ho, hx, e]
  simp [go_sem]
theorem run_quoY {w : World} {a : Act} {o : Oper} (x : Operand) (ho : o.op = .binOp .quo 3 x (.const (.int .i64 8)) 3) (z : Int) (hx : a.eval x = .int .i64 z) : (execOp a.eval o).run Tryd.prog w = .ok (.value (.int .i64 (IntKind.i64.wrap (z.tdiv 8)))) w := by
  have e : a.eval (.const (.int .i64 8)) = .int .i64 8 := rfl
  simp only [execOp, ho, hx, e]
  simp [go_sem]
theorem run_minY {w : World} {a : Act} {o : Oper} (x : Operand) (ho : o.op = .call { callee := .builtin .min, args := #[x, .const (.int .i64 384)], argTypes := #[3, 3] }) (z : Int) (hx : a.eval x = .int .i64 z) : (execOp a.eval o).run Tryd.prog w = .ok (.value (.int .i64 (min z 384))) w := by
  have e : a.eval (.const (.int .i64 384)) = .int .i64 384 := rfl
  have hr : (Builtin.min_ #[3, 3] o.type #[.int .i64 z, .int .i64 384]).run Tryd.prog w = .ok (.int .i64 (min z 384)) w := by
    simp [Builtin.min_, Builtin.min2, go_sem]
    split <;> omega
  simp only [execOp, ho, resolve, invoke, builtin, Sem.run_bind, Sem.run_pure, Result.andThen_ok, List.map_toArray, List.map_cons, List.map_nil, hx, e, hr]
theorem opMakeY {S : Nat → Prop} {ops : Array Oper} {Q : Exit → Act → World → Prop} {a : Act} {w : World} {i : Nat} (d : Option Tmp) {o : Oper} {K : Act → World → Prop} (hi : ops[i]? = some o) (hd : o.dst = d) (hw : Region.wanted o (yielded ops a.tmps) = true) (l c : Operand) (t e : TypeId) (z : Value) (bts : Nat) (ho : o.op = .makeSlice t l c) (hu : Tryd.prog.underlying t = some (.slice e)) (hinfo : (Tryd.prog.info? e).map (fun i => (i.zero, i.size, i.bytes)) = some (some z, 1, bts)) (hz : z.cells = #[z]) (hbt : bts ≤ 24)
    (n : Nat) (hl : a.eval l = .int .i64 (n : Nat)) (hc : a.eval c = .int .i64 (n : Nat)) (hn : n ≤ 384) (hS : ∀ b, w.heap.size ≤ b → S b) (h : ∀ w', Own1 S w' e (whole w.heap.size n) (List.replicate n z) → w'.heap.size = w.heap.size + 1 → Below w.heap.size w w' → K (a.put d (whole w.heap.size n)) w') : wpOp Tryd.prog ops Q i K a w := by
  obtain ⟨w', h1, h2, h3, h4⟩ := run_makeY (S := S) l c t e z bts ho hu hinfo hz hbt n hl hc hn hS
  exact opValueG d hi hd hw _ w' h1 (h w' h2 h3 h4)
/-- what New makes -/
def ref0 (n : Nat) : RefS := ⟨List.replicate n false, List.replicate n false, List.replicate n [], List.replicate n [], -1⟩
theorem byin_nil (S : Nat → Prop) (W : World) : ByIn S W (.slice none 0 0) [] := ⟨⟨World.ownsRow_nil W 0 5 1, fun b hb => (by cases hb)⟩, fun c hc => (by cases hc), (by decide)⟩
theorem ref0_of {S : Nat → Prop} {W : World} {gy n q1 q2 q3 q4 : Nat} (hs : S gy) (hr : Row W gy 84 [.int .i64 (n : Nat), whole q1 n, whole q2 n, whole q3 n, .int .i64 (-1), whole q4 n]) (h1 : Own1 S W 38 (whole q1 n) (List.replicate n (.slice none 0 0))) (h2 : Own1 S W 4 (whole q2 n) (List.replicate n (.bool false))) (h3 : Own1 S W 4 (whole q3 n) (List.replicate n (.bool false))) (h4 : Own1 S W 38 (whole q4 n) (List.replicate n (.slice none 0 0))) (h23 : q2 ≠ q3) (h14 : q1 ≠ q4) : Ref S W gy n (ref0 n) := by
  have hby : ∀ (i : Nat) v b, (List.replicate n (Value.slice none 0 0))[i]? = some v → (List.replicate n ([] : List Nat))[i]? = some b → ByIn S W v b := fun i v b e e' => by
    have e1 := List.eq_of_mem_replicate (List.mem_of_getElem? e)
    have e2 := List.eq_of_mem_replicate (List.mem_of_getElem? e')
    rw [e1, e2]
    exact byin_nil S W
  refine ⟨_, _, _, _, _, _, hr, hs, h1, by rw [show (ref0 n).us.map Value.bool = List.replicate n (.bool false) by simp [ref0]]; exact h2, by rw [show (ref0 n).ws.map Value.bool = List.replicate n (.bool false) by simp [ref0]]; exact h3, h4, fun b e e2 => ?_, fun b e e2 => ?_, by simp [ref0], by simp [ref0], by simp, by simp, by simp [ref0], by simp [ref0], hby, hby⟩
  · cases e
    injection e2 with e3
    exact h23 e3.symm
  · cases e
    injection e2 with e3
    exact h14 e3.symm
set_option maxHeartbeats 4000000 in
theorem rnew_any (S : Nat → Prop) (w : World) (s : Int) (hs : -9223372036854775808 ≤ s ∧ s ≤ 9223372036854775807) (hS : ∀ b, w.heap.size ≤ b → S b) : Calls Tryd.prog 12 #[.int .i64 s] w fun e w' => (s < 10 ∧ e = .returned (.tuple #[.pointer none, .int .i64 1]) ∧ w = w') ∨ (10 ≤ s ∧ ∃ gy, e = .returned (.tuple #[ptr gy, .int .i64 0]) ∧ w.heap.size ≤ gy ∧ Below w.heap.size w w' ∧ Ref S w' gy (min ((s - 2) / 8) 384).toNat (ref0 (min ((s - 2) / 8) 384).toNat)) := by
  have HS : Hid (∀ b, w.heap.size ≤ b → S b) := hS
  obtain ⟨PQ, HPQ⟩ : ∃ PQ : Ending → World → Prop, Hid (PQ = fun e w' => (s < 10 ∧ e = .returned (.tuple #[.pointer none, .int .i64 1]) ∧ w = w') ∨ (10 ≤ s ∧ ∃ gy, e = .returned (.tuple #[ptr gy, .int .i64 0]) ∧ w.heap.size ≤ gy ∧ Below w.heap.size w w' ∧ Ref S w' gy (min ((s - 2) / 8) 384).toNat (ref0 (min ((s - 2) / 8) 384).toNat))) := ⟨_, rfl⟩
  rw [← HPQ.out]
  obtain ⟨x6, hx6⟩ : ∃ x, x = IntKind.i64.wrap (s - 2) := ⟨_, rfl⟩
  obtain ⟨x7, hx7⟩ : ∃ x, x = IntKind.i64.wrap (x6.tdiv 8) := ⟨_, rfl⟩
  obtain ⟨m, hm⟩ : ∃ x, x = min x7 384 := ⟨_, rfl⟩
  obtain ⟨lt, hlt⟩ : ∃ x, decide (s < 10) = x := ⟨_, rfl⟩
  have HX : Hid (IntKind.i64.wrap (s - 2) = x6 ∧ IntKind.i64.wrap (x6.tdiv 8) = x7 ∧ m = min x7 384 ∧ decide (s < 10) = lt ∧ -9223372036854775808 ≤ s ∧ s ≤ 9223372036854775807) := ⟨hx6.symm, hx7.symm, hm, hlt, hs⟩
  clear hx6 hx7 hm hlt hs hS
  go_enter Tryd.func12, Tryd.ntmps12
  go_upto_region 1 with fail
  refine wp_region_lit ?_
  refine wl rfl (.int .i64 s) _ (run_mvZ (.tmp 0) rfl (.int .i64 s) rfl) ?_
  simp only [Act.put, aS, aC, aZ]
  refine wl rfl (.int .i64 x6) w (by rw [← HX.out.1]; exact run_subY (.tmp 5) rfl s rfl) ?_
  simp only [Act.put, aS, aC, aZ]
  refine wl rfl (.int .i64 x7) w (by rw [← HX.out.2.1]; exact run_quoY (.tmp 6) rfl x6 rfl) ?_
  simp only [Act.put, aS, aC, aZ]
  refine wl rfl (.int .i64 m) w (by rw [HX.out.2.2.1]; exact run_minY (.tmp 7) rfl x7 rfl) ?_
  simp only [Act.put, aS, aC, aZ]
  refine wl rfl (.int .i64 m) _ (run_asZ (.tmp 8) rfl (.int .i64 m) rfl) ?_
  simp only [Act.put, aS, aC, aZ]
  refine wpList_nil ?_
  go_upto_region 2 with fail
  refine wp_region_lit ?_
  refine wl rfl (.int .i64 s) _ (run_mvZ (.tmp 0) rfl (.int .i64 s) rfl) ?_
  simp only [Act.put, aS, aC, aZ]
  refine wl rfl (.bool lt) _ (run_lssZ (.tmp 9) (.const (.int .i64 10)) rfl s 10 rfl rfl lt HX.out.2.2.2.1) ?_
  simp only [Act.put, aS, aC, aZ]
  refine wpList_nil ?_
  cases lt with
  | true =>
    go_wp2_with fail
    rw [HPQ.out]
    exact Or.inl ⟨of_decide_eq_true HX.out.2.2.2.1, rfl, rfl⟩
  | false =>
    have hs10 : 10 ≤ s := (by have := of_decide_eq_false HX.out.2.2.2.1; omega)
    obtain ⟨n, hn⟩ : ∃ n : Nat, n = (min ((s - 2) / 8) 384).toNat := ⟨_, rfl⟩
    have hmn : m = (n : Nat) := (by
      have h := HX.out
      have e6 : x6 = s - 2 := (by rw [← h.1]; simp [IntKind.wrap, IntKind.signed, IntKind.bits]; omega)
      have e7 : x7 = (s - 2) / 8 := (by rw [← h.2.1, e6, Int.tdiv_eq_ediv_of_nonneg (by omega)]; simp [IntKind.wrap, IntKind.signed, IntKind.bits]; omega)
      rw [h.2.2.1, e7, hn]
      omega)
    have HN : Hid (n = (min ((s - 2) / 8) 384).toNat ∧ 10 ≤ s ∧ n ≤ 384) := ⟨hn, hs10, by omega⟩
    subst hmn
    clear hn hs10 HX
    go_upto_region 4 with fail
    refine wp_region_held (S := fun _ => True) (by kernel_rfl) ?_
    show wpAnyH _ _ _ _ _ 13 (Array.replicate 13 false) _ _
    obtain ⟨Y, hX⟩ : ∃ Y : World, Y = { w with drawn := w.drawn + 1 } := ⟨_, rfl⟩
    rw [← hX]
    have HB0 : Hid (Below w.heap.size w Y) := hX ▸ ⟨rfl, rfl, rfl, Nat.le_refl _, fun _ _ => rfl⟩
    clear hX
    refine takeH (i := 0) (some 11) rfl rfl (by kernel_rfl) (by kernel_rfl) (by kernel_rfl) (fun _ _ _ h => h) (gRun rfl (.int .i64 (n : Nat)) fun _ h => run_mvZ (.tmp 4) rfl (.int .i64 (n : Nat)) rfl) trivial ?_
    simp only [Act.put, aS, aC, aZ]
    refine takeH (i := 1) (some 12) rfl rfl (by kernel_rfl) (by kernel_rfl) (by kernel_rfl) (fun _ _ _ h => h) (gRun rfl (.int .i64 (n : Nat)) fun _ h => run_mvZ (.tmp 4) rfl (.int .i64 (n : Nat)) rfl) trivial ?_
    simp only [Act.put, aS, aC, aZ]
    refine takeH (i := 3) (some 14) rfl rfl (by kernel_rfl) (by kernel_rfl) (by kernel_rfl) (fun _ _ _ h => h) (gRun rfl (.int .i64 (n : Nat)) fun _ h => run_mvZ (.tmp 4) rfl (.int .i64 (n : Nat)) rfl) trivial ?_
    simp only [Act.put, aS, aC, aZ]
    refine takeH (i := 5) (some 16) rfl rfl (by kernel_rfl) (by kernel_rfl) (by kernel_rfl) (fun _ _ _ h => h) (gRun rfl (.int .i64 (n : Nat)) fun _ h => run_mvZ (.tmp 4) rfl (.int .i64 (n : Nat)) rfl) trivial ?_
    simp only [Act.put, aS, aC, aZ]
    refine takeH (i := 7) (some 18) rfl rfl (by kernel_rfl) (by kernel_rfl) (by kernel_rfl) (fun _ _ _ h => h) (gRun rfl (.int .i64 (n : Nat)) fun _ h => run_mvZ (.tmp 4) rfl (.int .i64 (n : Nat)) rfl) trivial ?_
    simp only [Act.put, aS, aC, aZ]
    refine fourH (i := 2) (j := 4) (k := 6) (l := 8) (by kernel_rfl) ?_ ?_ ?_ ?_
    · refine opMakeY (S := S) (some 13) rfl rfl rfl (.tmp 12) (.tmp 12) 50 38 (.slice none 0 0) 24 rfl und50 inf38 rfl (by decide) n rfl rfl HN.out.2.2 (fun b hb => HS.out b (Nat.le_trans HB0.out.size hb)) ?_
      intro m1 hown hsz hbl
      obtain ⟨q13, hq⟩ : ∃ q, q = Y.heap.size := ⟨_, rfl⟩
      rw [← hq] at hown hsz ⊢
      have HB1 : Hid (Below w.heap.size w m1) := HB0.out.trans (hbl.mono HB0.out.size)
      have HO13d1 : Hid (Own1 S m1 38 (whole q13 n) (List.replicate n (.slice none 0 0)) ∧ q13 < m1.heap.size) := ⟨hown, by omega⟩
      clear hown hsz hbl hq
      refine ⟨trivial, ?_⟩
      simp only [Act.put, aS, aC, aZ]
      refine threeH (i := 4) (j := 6) (k := 8) (by kernel_rfl) ?_ ?_ ?_
      · refine opMakeY (S := S) (some 15) rfl rfl rfl (.tmp 14) (.tmp 14) 82 4 (.bool false) 1 rfl und82 inf4 rfl (by decide) n rfl rfl HN.out.2.2 (fun b hb => HS.out b (Nat.le_trans HB1.out.size hb)) ?_
        intro m2 hown hsz hbl
        obtain ⟨q15, hq⟩ : ∃ q, q = m1.heap.size := ⟨_, rfl⟩
        rw [← hq] at hown hsz ⊢
        have HB2 : Hid (Below w.heap.size w m2) := HB1.out.trans (hbl.mono HB1.out.size)
        have HO15d2 : Hid (Own1 S m2 4 (whole q15 n) (List.replicate n (.bool false)) ∧ q15 < m2.heap.size) := ⟨hown, by omega⟩
        have HD13_15 : Hid (q13 < q15) := (by rw [hq]; exact HO13d1.out.2)
        have HO13d2 : Hid (Own1 S m2 38 (whole q13 n) (List.replicate n (.slice none 0 0)) ∧ q13 < m2.heap.size) := ⟨HO13d1.out.1.keep fun b hl _ => hbl.block b (by first | exact hl | (rw [← hq]; exact hl) | (rw [hq] at hl; exact hl)), by have := HO13d1.out.2; omega⟩
        clear HO13d1
        clear hown hsz hbl hq
        refine ⟨trivial, ?_⟩
        simp only [Act.put, aS, aC, aZ]
        refine twoH (i := 6) (j := 8) (by kernel_rfl) ?_ ?_
        · refine opMakeY (S := S) (some 17) rfl rfl rfl (.tmp 16) (.tmp 16) 82 4 (.bool false) 1 rfl und82 inf4 rfl (by decide) n rfl rfl HN.out.2.2 (fun b hb => HS.out b (Nat.le_trans HB2.out.size hb)) ?_
          intro m3 hown hsz hbl
          obtain ⟨q17, hq⟩ : ∃ q, q = m2.heap.size := ⟨_, rfl⟩
          rw [← hq] at hown hsz ⊢
          have HB3 : Hid (Below w.heap.size w m3) := HB2.out.trans (hbl.mono HB2.out.size)
          have HO17d3 : Hid (Own1 S m3 4 (whole q17 n) (List.replicate n (.bool false)) ∧ q17 < m3.heap.size) := ⟨hown, by omega⟩
          have HD13_17 : Hid (q13 < q17) := (by rw [hq]; exact HO13d2.out.2)
          have HO13d3 : Hid (Own1 S m3 38 (whole q13 n) (List.replicate n (.slice none 0 0)) ∧ q13 < m3.heap.size) := ⟨HO13d2.out.1.keep fun b hl _ => hbl.block b (by first | exact hl | (rw [← hq]; exact hl) | (rw [hq] at hl; exact hl)), by have := HO13d2.out.2; omega⟩
          clear HO13d2
          have HD15_17 : Hid (q15 < q17) := (by rw [hq]; exact HO15d2.out.2)
          have HO15d3 : Hid (Own1 S m3 4 (whole q15 n) (List.replicate n (.bool false)) ∧ q15 < m3.heap.size) := ⟨HO15d2.out.1.keep fun b hl _ => hbl.block b (by first | exact hl | (rw [← hq]; exact hl) | (rw [hq] at hl; exact hl)), by have := HO15d2.out.2; omega⟩
          clear HO15d2
          clear hown hsz hbl hq
          refine ⟨trivial, ?_⟩
          simp only [Act.put, aS, aC, aZ]
          refine oneH (i := 8) (by kernel_rfl) ?_
          refine opMakeY (S := S) (some 19) rfl rfl rfl (.tmp 18) (.tmp 18) 50 38 (.slice none 0 0) 24 rfl und50 inf38 rfl (by decide) n rfl rfl HN.out.2.2 (fun b hb => HS.out b (Nat.le_trans HB3.out.size hb)) ?_
          intro m4 hown hsz hbl
          obtain ⟨q19, hq⟩ : ∃ q, q = m3.heap.size := ⟨_, rfl⟩
          rw [← hq] at hown hsz ⊢
          have HB4 : Hid (Below w.heap.size w m4) := HB3.out.trans (hbl.mono HB3.out.size)
          have HO19d4 : Hid (Own1 S m4 38 (whole q19 n) (List.replicate n (.slice none 0 0)) ∧ q19 < m4.heap.size) := ⟨hown, by omega⟩
          have HD13_19 : Hid (q13 < q19) := (by rw [hq]; exact HO13d3.out.2)
          have HO13d4 : Hid (Own1 S m4 38 (whole q13 n) (List.replicate n (.slice none 0 0)) ∧ q13 < m4.heap.size) := ⟨HO13d3.out.1.keep fun b hl _ => hbl.block b (by first | exact hl | (rw [← hq]; exact hl) | (rw [hq] at hl; exact hl)), by have := HO13d3.out.2; omega⟩
          clear HO13d3
          have HD15_19 : Hid (q15 < q19) := (by rw [hq]; exact HO15d3.out.2)
          have HO15d4 : Hid (Own1 S m4 4 (whole q15 n) (List.replicate n (.bool false)) ∧ q15 < m4.heap.size) := ⟨HO15d3.out.1.keep fun b hl _ => hbl.block b (by first | exact hl | (rw [← hq]; exact hl) | (rw [hq] at hl; exact hl)), by have := HO15d3.out.2; omega⟩
          clear HO15d3
          have HD17_19 : Hid (q17 < q19) := (by rw [hq]; exact HO17d3.out.2)
          have HO17d4 : Hid (Own1 S m4 4 (whole q17 n) (List.replicate n (.bool false)) ∧ q17 < m4.heap.size) := ⟨HO17d3.out.1.keep fun b hl _ => hbl.block b (by first | exact hl | (rw [← hq]; exact hl) | (rw [hq] at hl; exact hl)), by have := HO17d3.out.2; omega⟩
          clear HO17d3
          clear hown hsz hbl hq
          refine ⟨trivial, ?_⟩
          simp only [Act.put, aS, aC, aZ]
          refine takeH (i := 9) (some 20) rfl rfl (by kernel_rfl) (by kernel_rfl) (by kernel_rfl) (fun _ _ _ h => h) (gRun rfl (.agg [.int .i64 (n : Nat), whole q13 n, whole q15 n, whole q17 n, .int .i64 (-1), whole q19 n].toArray) fun _ h => run_bld84 (.tmp 11) (.tmp 13) (.tmp 15) (.tmp 17) (.const (.int .i64 (-1))) (.tmp 19) rfl (n : Nat) (-1) _ _ _ _ _ _ _ _ _ _ _ _ rfl rfl rfl rfl rfl rfl) trivial ?_
          simp only [Act.put, aS, aC, aZ]
          refine oneH (i := 10) (by kernel_rfl) ?_
          refine opValueG (some 21) rfl rfl rfl (ptr m4.heap.size) _ (run_boxA (.tmp 20) rfl [.int .i64 (n : Nat), whole q13 n, whole q15 n, whole q17 n, .int .i64 (-1), whole q19 n] rfl) ?_
          obtain ⟨gy, hgy⟩ : ∃ q, q = m4.heap.size := ⟨_, rfl⟩
          obtain ⟨wf, hwf⟩ : ∃ W, W = m4.alloc (.cells [.int .i64 (n : Nat), whole q13 n, whole q15 n, whole q17 n, .int .i64 (-1), whole q19 n].toArray 84) := ⟨_, rfl⟩
          have HF : Hid (w.heap.size ≤ gy ∧ Below w.heap.size w wf ∧ Ref S wf gy n (ref0 n)) := (by
            have hb : Below m4.heap.size m4 wf := hwf ▸ below_alloc m4 _
            have hw : Below w.heap.size w m4 := HB4.out
            have hk : ∀ b, b < m4.heap.size → S b → wf.heap[b]? = m4.heap[b]? := fun b hl _ => hb.block b hl
            refine ⟨hgy ▸ hw.size, hw.trans (hb.mono hw.size), ref0_of (HS.out gy (hgy ▸ hw.size)) (by rw [hgy, hwf]; exact Row.new _ _ _) (HO13d4.out.1.keep hk) (HO15d4.out.1.keep hk) (HO17d4.out.1.keep hk) (HO19d4.out.1.keep hk) ?_ ?_⟩
            · exact Nat.ne_of_lt HD15_17.out
            · exact Nat.ne_of_lt HD13_19.out)
          rw [← hgy, ← hwf]
          clear hgy hwf
          refine ⟨trivial, ?_⟩
          simp only [Act.put, aS, aC, aZ]
          refine takeH (i := 11) (some 2) rfl rfl (by kernel_rfl) (by kernel_rfl) (by kernel_rfl) (fun _ _ _ h => h) (gRun rfl (ptr gy) fun _ h => run_asZ (.tmp 21) rfl (ptr gy) rfl) trivial ?_
          simp only [Act.put, aS, aC, aZ]
          refine takeH (i := 12) (some 3) rfl rfl (by kernel_rfl) (by kernel_rfl) (by kernel_rfl) (fun _ _ _ h => h) (gRun rfl (.int .i64 0) fun _ h => run_asZ (.const (.int .i64 0)) rfl (.int .i64 0) rfl) trivial ?_
          simp only [Act.put, aS, aC, aZ]
          refine wpAnyH_done (by kernel_rfl) ?_ _
          go_wp2_with fail
          rw [HPQ.out]
          exact Or.inr ⟨HN.out.2.1, gy, rfl, HF.out.1, HF.out.2.1, by rw [← HN.out.1]; exact HF.out.2.2⟩
        · refine opMakeY (S := S) (some 19) rfl rfl rfl (.tmp 18) (.tmp 18) 50 38 (.slice none 0 0) 24 rfl und50 inf38 rfl (by decide) n rfl rfl HN.out.2.2 (fun b hb => HS.out b (Nat.le_trans HB2.out.size hb)) ?_
          intro m3 hown hsz hbl
          obtain ⟨q19, hq⟩ : ∃ q, q = m2.heap.size := ⟨_, rfl⟩
          rw [← hq] at hown hsz ⊢
          have HB3 : Hid (Below w.heap.size w m3) := HB2.out.trans (hbl.mono HB2.out.size)
          have HO19d3 : Hid (Own1 S m3 38 (whole q19 n) (List.replicate n (.slice none 0 0)) ∧ q19 < m3.heap.size) := ⟨hown, by omega⟩
          have HD13_19 : Hid (q13 < q19) := (by rw [hq]; exact HO13d2.out.2)
          have HO13d3 : Hid (Own1 S m3 38 (whole q13 n) (List.replicate n (.slice none 0 0)) ∧ q13 < m3.heap.size) := ⟨HO13d2.out.1.keep fun b hl _ => hbl.block b (by first | exact hl | (rw [← hq]; exact hl) | (rw [hq] at hl; exact hl)), by have := HO13d2.out.2; omega⟩
          clear HO13d2
          have HD15_19 : Hid (q15 < q19) := (by rw [hq]; exact HO15d2.out.2)
          have HO15d3 : Hid (Own1 S m3 4 (whole q15 n) (List.replicate n (.bool false)) ∧ q15 < m3.heap.size) := ⟨HO15d2.out.1.keep fun b hl _ => hbl.block b (by first | exact hl | (rw [← hq]; exact hl) | (rw [hq] at hl; exact hl)), by have := HO15d2.out.2; omega⟩
          clear HO15d2
          clear hown hsz hbl hq
          refine ⟨trivial, ?_⟩
          simp only [Act.put, aS, aC, aZ]
          refine oneH (i := 6) (by kernel_rfl) ?_
          refine opMakeY (S := S) (some 17) rfl rfl rfl (.tmp 16) (.tmp 16) 82 4 (.bool false) 1 rfl und82 inf4 rfl (by decide) n rfl rfl HN.out.2.2 (fun b hb => HS.out b (Nat.le_trans HB3.out.size hb)) ?_
          intro m4 hown hsz hbl
          obtain ⟨q17, hq⟩ : ∃ q, q = m3.heap.size := ⟨_, rfl⟩
          rw [← hq] at hown hsz ⊢
          have HB4 : Hid (Below w.heap.size w m4) := HB3.out.trans (hbl.mono HB3.out.size)
          have HO17d4 : Hid (Own1 S m4 4 (whole q17 n) (List.replicate n (.bool false)) ∧ q17 < m4.heap.size) := ⟨hown, by omega⟩
          have HD13_17 : Hid (q13 < q17) := (by rw [hq]; exact HO13d3.out.2)
          have HO13d4 : Hid (Own1 S m4 38 (whole q13 n) (List.replicate n (.slice none 0 0)) ∧ q13 < m4.heap.size) := ⟨HO13d3.out.1.keep fun b hl _ => hbl.block b (by first | exact hl | (rw [← hq]; exact hl) | (rw [hq] at hl; exact hl)), by have := HO13d3.out.2; omega⟩
          clear HO13d3
          have HD15_17 : Hid (q15 < q17) := (by rw [hq]; exact HO15d3.out.2)
          have HO15d4 : Hid (Own1 S m4 4 (whole q15 n) (List.replicate n (.bool false)) ∧ q15 < m4.heap.size) := ⟨HO15d3.out.1.keep fun b hl _ => hbl.block b (by first | exact hl | (rw [← hq]; exact hl) | (rw [hq] at hl; exact hl)), by have := HO15d3.out.2; omega⟩
          clear HO15d3
          have HD19_17 : Hid (q19 < q17) := (by rw [hq]; exact HO19d3.out.2)
          have HO19d4 : Hid (Own1 S m4 38 (whole q19 n) (List.replicate n (.slice none 0 0)) ∧ q19 < m4.heap.size) := ⟨HO19d3.out.1.keep fun b hl _ => hbl.block b (by first | exact hl | (rw [← hq]; exact hl) | (rw [hq] at hl; exact hl)), by have := HO19d3.out.2; omega⟩
          clear HO19d3
          clear hown hsz hbl hq
          refine ⟨trivial, ?_⟩
          simp only [Act.put, aS, aC, aZ]
          refine takeH (i := 9) (some 20) rfl rfl (by kernel_rfl) (by kernel_rfl) (by kernel_rfl) (fun _ _ _ h => h) (gRun rfl (.agg [.int .i64 (n : Nat), whole q13 n, whole q15 n, whole q17 n, .int .i64 (-1), whole q19 n].toArray) fun _ h => run_bld84 (.tmp 11) (.tmp 13) (.tmp 15) (.tmp 17) (.const (.int .i64 (-1))) (.tmp 19) rfl (n : Nat) (-1) _ _ _ _ _ _ _ _ _ _ _ _ rfl rfl rfl rfl rfl rfl) trivial ?_
          simp only [Act.put, aS, aC, aZ]
          refine oneH (i := 10) (by kernel_rfl) ?_
          refine opValueG (some 21) rfl rfl rfl (ptr m4.heap.size) _ (run_boxA (.tmp 20) rfl [.int .i64 (n : Nat), whole q13 n, whole q15 n, whole q17 n, .int .i64 (-1), whole q19 n] rfl) ?_
          obtain ⟨gy, hgy⟩ : ∃ q, q = m4.heap.size := ⟨_, rfl⟩
          obtain ⟨wf, hwf⟩ : ∃ W, W = m4.alloc (.cells [.int .i64 (n : Nat), whole q13 n, whole q15 n, whole q17 n, .int .i64 (-1), whole q19 n].toArray 84) := ⟨_, rfl⟩
          have HF : Hid (w.heap.size ≤ gy ∧ Below w.heap.size w wf ∧ Ref S wf gy n (ref0 n)) := (by
            have hb : Below m4.heap.size m4 wf := hwf ▸ below_alloc m4 _
            have hw : Below w.heap.size w m4 := HB4.out
            have hk : ∀ b, b < m4.heap.size → S b → wf.heap[b]? = m4.heap[b]? := fun b hl _ => hb.block b hl
            refine ⟨hgy ▸ hw.size, hw.trans (hb.mono hw.size), ref0_of (HS.out gy (hgy ▸ hw.size)) (by rw [hgy, hwf]; exact Row.new _ _ _) (HO13d4.out.1.keep hk) (HO15d4.out.1.keep hk) (HO17d4.out.1.keep hk) (HO19d4.out.1.keep hk) ?_ ?_⟩
            · exact Nat.ne_of_lt HD15_17.out
            · exact Nat.ne_of_lt HD13_19.out)
          rw [← hgy, ← hwf]
          clear hgy hwf
          refine ⟨trivial, ?_⟩
          simp only [Act.put, aS, aC, aZ]
          refine takeH (i := 11) (some 2) rfl rfl (by kernel_rfl) (by kernel_rfl) (by kernel_rfl) (fun _ _ _ h => h) (gRun rfl (ptr gy) fun _ h => run_asZ (.tmp 21) rfl (ptr gy) rfl) trivial ?_
          simp only [Act.put, aS, aC, aZ]
          refine takeH (i := 12) (some 3) rfl rfl (by kernel_rfl) (by kernel_rfl) (by kernel_rfl) (fun _ _ _ h => h) (gRun rfl (.int .i64 0) fun _ h => run_asZ (.const (.int .i64 0)) rfl (.int .i64 0) rfl) trivial ?_
          simp only [Act.put, aS, aC, aZ]
          refine wpAnyH_done (by kernel_rfl) ?_ _
          go_wp2_with fail
          rw [HPQ.out]
          exact Or.inr ⟨HN.out.2.1, gy, rfl, HF.out.1, HF.out.2.1, by rw [← HN.out.1]; exact HF.out.2.2⟩
      · refine opMakeY (S := S) (some 17) rfl rfl rfl (.tmp 16) (.tmp 16) 82 4 (.bool false) 1 rfl und82 inf4 rfl (by decide) n rfl rfl HN.out.2.2 (fun b hb => HS.out b (Nat.le_trans HB1.out.size hb)) ?_
        intro m2 hown hsz hbl
        obtain ⟨q17, hq⟩ : ∃ q, q = m1.heap.size := ⟨_, rfl⟩
        rw [← hq] at hown hsz ⊢
        have HB2 : Hid (Below w.heap.size w m2) := HB1.out.trans (hbl.mono HB1.out.size)
        have HO17d2 : Hid (Own1 S m2 4 (whole q17 n) (List.replicate n (.bool false)) ∧ q17 < m2.heap.size) := ⟨hown, by omega⟩
        have HD13_17 : Hid (q13 < q17) := (by rw [hq]; exact HO13d1.out.2)
        have HO13d2 : Hid (Own1 S m2 38 (whole q13 n) (List.replicate n (.slice none 0 0)) ∧ q13 < m2.heap.size) := ⟨HO13d1.out.1.keep fun b hl _ => hbl.block b (by first | exact hl | (rw [← hq]; exact hl) | (rw [hq] at hl; exact hl)), by have := HO13d1.out.2; omega⟩
        clear HO13d1
        clear hown hsz hbl hq
        refine ⟨trivial, ?_⟩
        simp only [Act.put, aS, aC, aZ]
        refine twoH (i := 4) (j := 8) (by kernel_rfl) ?_ ?_
        · refine opMakeY (S := S) (some 15) rfl rfl rfl (.tmp 14) (.tmp 14) 82 4 (.bool false) 1 rfl und82 inf4 rfl (by decide) n rfl rfl HN.out.2.2 (fun b hb => HS.out b (Nat.le_trans HB2.out.size hb)) ?_
          intro m3 hown hsz hbl
          obtain ⟨q15, hq⟩ : ∃ q, q = m2.heap.size := ⟨_, rfl⟩
          rw [← hq] at hown hsz ⊢
          have HB3 : Hid (Below w.heap.size w m3) := HB2.out.trans (hbl.mono HB2.out.size)
          have HO15d3 : Hid (Own1 S m3 4 (whole q15 n) (List.replicate n (.bool false)) ∧ q15 < m3.heap.size) := ⟨hown, by omega⟩
          have HD13_15 : Hid (q13 < q15) := (by rw [hq]; exact HO13d2.out.2)
          have HO13d3 : Hid (Own1 S m3 38 (whole q13 n) (List.replicate n (.slice none 0 0)) ∧ q13 < m3.heap.size) := ⟨HO13d2.out.1.keep fun b hl _ => hbl.block b (by first | exact hl | (rw [← hq]; exact hl) | (rw [hq] at hl; exact hl)), by have := HO13d2.out.2; omega⟩
          clear HO13d2
          have HD17_15 : Hid (q17 < q15) := (by rw [hq]; exact HO17d2.out.2)
          have HO17d3 : Hid (Own1 S m3 4 (whole q17 n) (List.replicate n (.bool false)) ∧ q17 < m3.heap.size) := ⟨HO17d2.out.1.keep fun b hl _ => hbl.block b (by first | exact hl | (rw [← hq]; exact hl) | (rw [hq] at hl; exact hl)), by have := HO17d2.out.2; omega⟩
          clear HO17d2
          clear hown hsz hbl hq
          refine ⟨trivial, ?_⟩
          simp only [Act.put, aS, aC, aZ]
          refine oneH (i := 8) (by kernel_rfl) ?_
          refine opMakeY (S := S) (some 19) rfl rfl rfl (.tmp 18) (.tmp 18) 50 38 (.slice none 0 0) 24 rfl und50 inf38 rfl (by decide) n rfl rfl HN.out.2.2 (fun b hb => HS.out b (Nat.le_trans HB3.out.size hb)) ?_
          intro m4 hown hsz hbl
          obtain ⟨q19, hq⟩ : ∃ q, q = m3.heap.size := ⟨_, rfl⟩
          rw [← hq] at hown hsz ⊢
          have HB4 : Hid (Below w.heap.size w m4) := HB3.out.trans (hbl.mono HB3.out.size)
          have HO19d4 : Hid (Own1 S m4 38 (whole q19 n) (List.replicate n (.slice none 0 0)) ∧ q19 < m4.heap.size) := ⟨hown, by omega⟩
          have HD13_19 : Hid (q13 < q19) := (by rw [hq]; exact HO13d3.out.2)
          have HO13d4 : Hid (Own1 S m4 38 (whole q13 n) (List.replicate n (.slice none 0 0)) ∧ q13 < m4.heap.size) := ⟨HO13d3.out.1.keep fun b hl _ => hbl.block b (by first | exact hl | (rw [← hq]; exact hl) | (rw [hq] at hl; exact hl)), by have := HO13d3.out.2; omega⟩
          clear HO13d3
          have HD17_19 : Hid (q17 < q19) := (by rw [hq]; exact HO17d3.out.2)
          have HO17d4 : Hid (Own1 S m4 4 (whole q17 n) (List.replicate n (.bool false)) ∧ q17 < m4.heap.size) := ⟨HO17d3.out.1.keep fun b hl _ => hbl.block b (by first | exact hl | (rw [← hq]; exact hl) | (rw [hq] at hl; exact hl)), by have := HO17d3.out.2; omega⟩
          clear HO17d3
          have HD15_19 : Hid (q15 < q19) := (by rw [hq]; exact HO15d3.out.2)
          have HO15d4 : Hid (Own1 S m4 4 (whole q15 n) (List.replicate n (.bool false)) ∧ q15 < m4.heap.size) := ⟨HO15d3.out.1.keep fun b hl _ => hbl.block b (by first | exact hl | (rw [← hq]; exact hl) | (rw [hq] at hl; exact hl)), by have := HO15d3.out.2; omega⟩
          clear HO15d3
          clear hown hsz hbl hq
          refine ⟨trivial, ?_⟩
          simp only [Act.put, aS, aC, aZ]
          refine takeH (i := 9) (some 20) rfl rfl (by kernel_rfl) (by kernel_rfl) (by kernel_rfl) (fun _ _ _ h => h) (gRun rfl (.agg [.int .i64 (n : Nat), whole q13 n, whole q15 n, whole q17 n, .int .i64 (-1), whole q19 n].toArray) fun _ h => run_bld84 (.tmp 11) (.tmp 13) (.tmp 15) (.tmp 17) (.const (.int .i64 (-1))) (.tmp 19) rfl (n : Nat) (-1) _ _ _ _ _ _ _ _ _ _ _ _ rfl rfl rfl rfl rfl rfl) trivial ?_
          simp only [Act.put, aS, aC, aZ]
          refine oneH (i := 10) (by kernel_rfl) ?_
          refine opValueG (some 21) rfl rfl rfl (ptr m4.heap.size) _ (run_boxA (.tmp 20) rfl [.int .i64 (n : Nat), whole q13 n, whole q15 n, whole q17 n, .int .i64 (-1), whole q19 n] rfl) ?_
          obtain ⟨gy, hgy⟩ : ∃ q, q = m4.heap.size := ⟨_, rfl⟩
          obtain ⟨wf, hwf⟩ : ∃ W, W = m4.alloc (.cells [.int .i64 (n : Nat), whole q13 n, whole q15 n, whole q17 n, .int .i64 (-1), whole q19 n].toArray 84) := ⟨_, rfl⟩
          have HF : Hid (w.heap.size ≤ gy ∧ Below w.heap.size w wf ∧ Ref S wf gy n (ref0 n)) := (by
            have hb : Below m4.heap.size m4 wf := hwf ▸ below_alloc m4 _
            have hw : Below w.heap.size w m4 := HB4.out
            have hk : ∀ b, b < m4.heap.size → S b → wf.heap[b]? = m4.heap[b]? := fun b hl _ => hb.block b hl
            refine ⟨hgy ▸ hw.size, hw.trans (hb.mono hw.size), ref0_of (HS.out gy (hgy ▸ hw.size)) (by rw [hgy, hwf]; exact Row.new _ _ _) (HO13d4.out.1.keep hk) (HO15d4.out.1.keep hk) (HO17d4.out.1.keep hk) (HO19d4.out.1.keep hk) ?_ ?_⟩
            · exact (Nat.ne_of_lt HD17_15.out).symm
            · exact Nat.ne_of_lt HD13_19.out)
          rw [← hgy, ← hwf]
          clear hgy hwf
          refine ⟨trivial, ?_⟩
          simp only [Act.put, aS, aC, aZ]
          refine takeH (i := 11) (some 2) rfl rfl (by kernel_rfl) (by kernel_rfl) (by kernel_rfl) (fun _ _ _ h => h) (gRun rfl (ptr gy) fun _ h => run_asZ (.tmp 21) rfl (ptr gy) rfl) trivial ?_
          simp only [Act.put, aS, aC, aZ]
          refine takeH (i := 12) (some 3) rfl rfl (by kernel_rfl) (by kernel_rfl) (by kernel_rfl) (fun _ _ _ h => h) (gRun rfl (.int .i64 0) fun _ h => run_asZ (.const (.int .i64 0)) rfl (.int .i64 0) rfl) trivial ?_
          simp only [Act.put, aS, aC, aZ]
          refine wpAnyH_done (by kernel_rfl) ?_ _
          go_wp2_with fail
          rw [HPQ.out]
          exact Or.inr ⟨HN.out.2.1, gy, rfl, HF.out.1, HF.out.2.1, by rw [← HN.out.1]; exact HF.out.2.2⟩
        · refine opMakeY (S := S) (some 19) rfl rfl rfl (.tmp 18) (.tmp 18) 50 38 (.slice none 0 0) 24 rfl und50 inf38 rfl (by decide) n rfl rfl HN.out.2.2 (fun b hb => HS.out b (Nat.le_trans HB2.out.size hb)) ?_
          intro m3 hown hsz hbl
          obtain ⟨q19, hq⟩ : ∃ q, q = m2.heap.size := ⟨_, rfl⟩
          rw [← hq] at hown hsz ⊢
          have HB3 : Hid (Below w.heap.size w m3) := HB2.out.trans (hbl.mono HB2.out.size)
          have HO19d3 : Hid (Own1 S m3 38 (whole q19 n) (List.replicate n (.slice none 0 0)) ∧ q19 < m3.heap.size) := ⟨hown, by omega⟩
          have HD13_19 : Hid (q13 < q19) := (by rw [hq]; exact HO13d2.out.2)
          have HO13d3 : Hid (Own1 S m3 38 (whole q13 n) (List.replicate n (.slice none 0 0)) ∧ q13 < m3.heap.size) := ⟨HO13d2.out.1.keep fun b hl _ => hbl.block b (by first | exact hl | (rw [← hq]; exact hl) | (rw [hq] at hl; exact hl)), by have := HO13d2.out.2; omega⟩
          clear HO13d2
          have HD17_19 : Hid (q17 < q19) := (by rw [hq]; exact HO17d2.out.2)
          have HO17d3 : Hid (Own1 S m3 4 (whole q17 n) (List.replicate n (.bool false)) ∧ q17 < m3.heap.size) := ⟨HO17d2.out.1.keep fun b hl _ => hbl.block b (by first | exact hl | (rw [← hq]; exact hl) | (rw [hq] at hl; exact hl)), by have := HO17d2.out.2; omega⟩
          clear HO17d2
          clear hown hsz hbl hq
          refine ⟨trivial, ?_⟩
          simp only [Act.put, aS, aC, aZ]
          refine oneH (i := 4) (by kernel_rfl) ?_
          refine opMakeY (S := S) (some 15) rfl rfl rfl (.tmp 14) (.tmp 14) 82 4 (.bool false) 1 rfl und82 inf4 rfl (by decide) n rfl rfl HN.out.2.2 (fun b hb => HS.out b (Nat.le_trans HB3.out.size hb)) ?_
          intro m4 hown hsz hbl
          obtain ⟨q15, hq⟩ : ∃ q, q = m3.heap.size := ⟨_, rfl⟩
          rw [← hq] at hown hsz ⊢
          have HB4 : Hid (Below w.heap.size w m4) := HB3.out.trans (hbl.mono HB3.out.size)
          have HO15d4 : Hid (Own1 S m4 4 (whole q15 n) (List.replicate n (.bool false)) ∧ q15 < m4.heap.size) := ⟨hown, by omega⟩
          have HD13_15 : Hid (q13 < q15) := (by rw [hq]; exact HO13d3.out.2)
          have HO13d4 : Hid (Own1 S m4 38 (whole q13 n) (List.replicate n (.slice none 0 0)) ∧ q13 < m4.heap.size) := ⟨HO13d3.out.1.keep fun b hl _ => hbl.block b (by first | exact hl | (rw [← hq]; exact hl) | (rw [hq] at hl; exact hl)), by have := HO13d3.out.2; omega⟩
          clear HO13d3
          have HD17_15 : Hid (q17 < q15) := (by rw [hq]; exact HO17d3.out.2)
          have HO17d4 : Hid (Own1 S m4 4 (whole q17 n) (List.replicate n (.bool false)) ∧ q17 < m4.heap.size) := ⟨HO17d3.out.1.keep fun b hl _ => hbl.block b (by first | exact hl | (rw [← hq]; exact hl) | (rw [hq] at hl; exact hl)), by have := HO17d3.out.2; omega⟩
          clear HO17d3
          have HD19_15 : Hid (q19 < q15) := (by rw [hq]; exact HO19d3.out.2)
          have HO19d4 : Hid (Own1 S m4 38 (whole q19 n) (List.replicate n (.slice none 0 0)) ∧ q19 < m4.heap.size) := ⟨HO19d3.out.1.keep fun b hl _ => hbl.block b (by first | exact hl | (rw [← hq]; exact hl) | (rw [hq] at hl; exact hl)), by have := HO19d3.out.2; omega⟩
          clear HO19d3
          clear hown hsz hbl hq
          refine ⟨trivial, ?_⟩
          simp only [Act.put, aS, aC, aZ]
          refine takeH (i := 9) (some 20) rfl rfl (by kernel_rfl) (by kernel_rfl) (by kernel_rfl) (fun _ _ _ h => h) (gRun rfl (.agg [.int .i64 (n : Nat), whole q13 n, whole q15 n, whole q17 n, .int .i64 (-1), whole q19 n].toArray) fun _ h => run_bld84 (.tmp 11) (.tmp 13) (.tmp 15) (.tmp 17) (.const (.int .i64 (-1))) (.tmp 19) rfl (n : Nat) (-1) _ _ _ _ _ _ _ _ _ _ _ _ rfl rfl rfl rfl rfl rfl) trivial ?_
          simp only [Act.put, aS, aC, aZ]
          refine oneH (i := 10) (by kernel_rfl) ?_
          refine opValueG (some 21) rfl rfl rfl (ptr m4.heap.size) _ (run_boxA (.tmp 20) rfl [.int .i64 (n : Nat), whole q13 n, whole q15 n, whole q17 n, .int .i64 (-1), whole q19 n] rfl) ?_
          obtain ⟨gy, hgy⟩ : ∃ q, q = m4.heap.size := ⟨_, rfl⟩
          obtain ⟨wf, hwf⟩ : ∃ W, W = m4.alloc (.cells [.int .i64 (n : Nat), whole q13 n, whole q15 n, whole q17 n, .int .i64 (-1), whole q19 n].toArray 84) := ⟨_, rfl⟩
          have HF : Hid (w.heap.size ≤ gy ∧ Below w.heap.size w wf ∧ Ref S wf gy n (ref0 n)) := (by
            have hb : Below m4.heap.size m4 wf := hwf ▸ below_alloc m4 _
            have hw : Below w.heap.size w m4 := HB4.out
            have hk : ∀ b, b < m4.heap.size → S b → wf.heap[b]? = m4.heap[b]? := fun b hl _ => hb.block b hl
            refine ⟨hgy ▸ hw.size, hw.trans (hb.mono hw.size), ref0_of (HS.out gy (hgy ▸ hw.size)) (by rw [hgy, hwf]; exact Row.new _ _ _) (HO13d4.out.1.keep hk) (HO15d4.out.1.keep hk) (HO17d4.out.1.keep hk) (HO19d4.out.1.keep hk) ?_ ?_⟩
            · exact (Nat.ne_of_lt HD17_15.out).symm
            · exact Nat.ne_of_lt HD13_19.out)
          rw [← hgy, ← hwf]
          clear hgy hwf
          refine ⟨trivial, ?_⟩
          simp only [Act.put, aS, aC, aZ]
          refine takeH (i := 11) (some 2) rfl rfl (by kernel_rfl) (by kernel_rfl) (by kernel_rfl) (fun _ _ _ h => h) (gRun rfl (ptr gy) fun _ h => run_asZ (.tmp 21) rfl (ptr gy) rfl) trivial ?_
          simp only [Act.put, aS, aC, aZ]
          refine takeH (i := 12) (some 3) rfl rfl (by kernel_rfl) (by kernel_rfl) (by kernel_rfl) (fun _ _ _ h => h) (gRun rfl (.int .i64 0) fun _ h => run_asZ (.const (.int .i64 0)) rfl (.int .i64 0) rfl) trivial ?_
          simp only [Act.put, aS, aC, aZ]
          refine wpAnyH_done (by kernel_rfl) ?_ _
          go_wp2_with fail
          rw [HPQ.out]
          exact Or.inr ⟨HN.out.2.1, gy, rfl, HF.out.1, HF.out.2.1, by rw [← HN.out.1]; exact HF.out.2.2⟩
      · refine opMakeY (S := S) (some 19) rfl rfl rfl (.tmp 18) (.tmp 18) 50 38 (.slice none 0 0) 24 rfl und50 inf38 rfl (by decide) n rfl rfl HN.out.2.2 (fun b hb => HS.out b (Nat.le_trans HB1.out.size hb)) ?_
        intro m2 hown hsz hbl
        obtain ⟨q19, hq⟩ : ∃ q, q = m1.heap.size := ⟨_, rfl⟩
        rw [← hq] at hown hsz ⊢
        have HB2 : Hid (Below w.heap.size w m2) := HB1.out.trans (hbl.mono HB1.out.size)
        have HO19d2 : Hid (Own1 S m2 38 (whole q19 n) (List.replicate n (.slice none 0 0)) ∧ q19 < m2.heap.size) := ⟨hown, by omega⟩
        have HD13_19 : Hid (q13 < q19) := (by rw [hq]; exact HO13d1.out.2)
        have HO13d2 : Hid (Own1 S m2 38 (whole q13 n) (List.replicate n (.slice none 0 0)) ∧ q13 < m2.heap.size) := ⟨HO13d1.out.1.keep fun b hl _ => hbl.block b (by first | exact hl | (rw [← hq]; exact hl) | (rw [hq] at hl; exact hl)), by have := HO13d1.out.2; omega⟩
        clear HO13d1
        clear hown hsz hbl hq
        refine ⟨trivial, ?_⟩
        simp only [Act.put, aS, aC, aZ]
        refine twoH (i := 4) (j := 6) (by kernel_rfl) ?_ ?_
        · refine opMakeY (S := S) (some 15) rfl rfl rfl (.tmp 14) (.tmp 14) 82 4 (.bool false) 1 rfl und82 inf4 rfl (by decide) n rfl rfl HN.out.2.2 (fun b hb => HS.out b (Nat.le_trans HB2.out.size hb)) ?_
          intro m3 hown hsz hbl
          obtain ⟨q15, hq⟩ : ∃ q, q = m2.heap.size := ⟨_, rfl⟩
          rw [← hq] at hown hsz ⊢
          have HB3 : Hid (Below w.heap.size w m3) := HB2.out.trans (hbl.mono HB2.out.size)
          have HO15d3 : Hid (Own1 S m3 4 (whole q15 n) (List.replicate n (.bool false)) ∧ q15 < m3.heap.size) := ⟨hown, by omega⟩
          have HD13_15 : Hid (q13 < q15) := (by rw [hq]; exact HO13d2.out.2)
          have HO13d3 : Hid (Own1 S m3 38 (whole q13 n) (List.replicate n (.slice none 0 0)) ∧ q13 < m3.heap.size) := ⟨HO13d2.out.1.keep fun b hl _ => hbl.block b (by first | exact hl | (rw [← hq]; exact hl) | (rw [hq] at hl; exact hl)), by have := HO13d2.out.2; omega⟩
          clear HO13d2
          have HD19_15 : Hid (q19 < q15) := (by rw [hq]; exact HO19d2.out.2)
          have HO19d3 : Hid (Own1 S m3 38 (whole q19 n) (List.replicate n (.slice none 0 0)) ∧ q19 < m3.heap.size) := ⟨HO19d2.out.1.keep fun b hl _ => hbl.block b (by first | exact hl | (rw [← hq]; exact hl) | (rw [hq] at hl; exact hl)), by have := HO19d2.out.2; omega⟩
          clear HO19d2
          clear hown hsz hbl hq
          refine ⟨trivial, ?_⟩
          simp only [Act.put, aS, aC, aZ]
          refine oneH (i := 6) (by kernel_rfl) ?_
          refine opMakeY (S := S) (some 17) rfl rfl rfl (.tmp 16) (.tmp 16) 82 4 (.bool false) 1 rfl und82 inf4 rfl (by decide) n rfl rfl HN.out.2.2 (fun b hb => HS.out b (Nat.le_trans HB3.out.size hb)) ?_
          intro m4 hown hsz hbl
          obtain ⟨q17, hq⟩ : ∃ q, q = m3.heap.size := ⟨_, rfl⟩
          rw [← hq] at hown hsz ⊢
          have HB4 : Hid (Below w.heap.size w m4) := HB3.out.trans (hbl.mono HB3.out.size)
          have HO17d4 : Hid (Own1 S m4 4 (whole q17 n) (List.replicate n (.bool false)) ∧ q17 < m4.heap.size) := ⟨hown, by omega⟩
          have HD13_17 : Hid (q13 < q17) := (by rw [hq]; exact HO13d3.out.2)
          have HO13d4 : Hid (Own1 S m4 38 (whole q13 n) (List.replicate n (.slice none 0 0)) ∧ q13 < m4.heap.size) := ⟨HO13d3.out.1.keep fun b hl _ => hbl.block b (by first | exact hl | (rw [← hq]; exact hl) | (rw [hq] at hl; exact hl)), by have := HO13d3.out.2; omega⟩
          clear HO13d3
          have HD19_17 : Hid (q19 < q17) := (by rw [hq]; exact HO19d3.out.2)
          have HO19d4 : Hid (Own1 S m4 38 (whole q19 n) (List.replicate n (.slice none 0 0)) ∧ q19 < m4.heap.size) := ⟨HO19d3.out.1.keep fun b hl _ => hbl.block b (by first | exact hl | (rw [← hq]; exact hl) | (rw [hq] at hl; exact hl)), by have := HO19d3.out.2; omega⟩
          clear HO19d3
          have HD15_17 : Hid (q15 < q17) := (by rw [hq]; exact HO15d3.out.2)
          have HO15d4 : Hid (Own1 S m4 4 (whole q15 n) (List.replicate n (.bool false)) ∧ q15 < m4.heap.size) := ⟨HO15d3.out.1.keep fun b hl _ => hbl.block b (by first | exact hl | (rw [← hq]; exact hl) | (rw [hq] at hl; exact hl)), by have := HO15d3.out.2; omega⟩
          clear HO15d3
          clear hown hsz hbl hq
          refine ⟨trivial, ?_⟩
          simp only [Act.put, aS, aC, aZ]
          refine takeH (i := 9) (some 20) rfl rfl (by kernel_rfl) (by kernel_rfl) (by kernel_rfl) (fun _ _ _ h => h) (gRun rfl (.agg [.int .i64 (n : Nat), whole q13 n, whole q15 n, whole q17 n, .int .i64 (-1), whole q19 n].toArray) fun _ h => run_bld84 (.tmp 11) (.tmp 13) (.tmp 15) (.tmp 17) (.const (.int .i64 (-1))) (.tmp 19) rfl (n : Nat) (-1) _ _ _ _ _ _ _ _ _ _ _ _ rfl rfl rfl rfl rfl rfl) trivial ?_
          simp only [Act.put, aS, aC, aZ]
          refine oneH (i := 10) (by kernel_rfl) ?_
          refine opValueG (some 21) rfl rfl rfl (ptr m4.heap.size) _ (run_boxA (.tmp 20) rfl [.int .i64 (n : Nat), whole q13 n, whole q15 n, whole q17 n, .int .i64 (-1), whole q19 n] rfl) ?_
          obtain ⟨gy, hgy⟩ : ∃ q, q = m4.heap.size := ⟨_, rfl⟩
          obtain ⟨wf, hwf⟩ : ∃ W, W = m4.alloc (.cells [.int .i64 (n : Nat), whole q13 n, whole q15 n, whole q17 n, .int .i64 (-1), whole q19 n].toArray 84) := ⟨_, rfl⟩
          have HF : Hid (w.heap.size ≤ gy ∧ Below w.heap.size w wf ∧ Ref S wf gy n (ref0 n)) := (by
            have hb : Below m4.heap.size m4 wf := hwf ▸ below_alloc m4 _
            have hw : Below w.heap.size w m4 := HB4.out
            have hk : ∀ b, b < m4.heap.size → S b → wf.heap[b]? = m4.heap[b]? := fun b hl _ => hb.block b hl
            refine ⟨hgy ▸ hw.size, hw.trans (hb.mono hw.size), ref0_of (HS.out gy (hgy ▸ hw.size)) (by rw [hgy, hwf]; exact Row.new _ _ _) (HO13d4.out.1.keep hk) (HO15d4.out.1.keep hk) (HO17d4.out.1.keep hk) (HO19d4.out.1.keep hk) ?_ ?_⟩
            · exact Nat.ne_of_lt HD15_17.out
            · exact Nat.ne_of_lt HD13_19.out)
          rw [← hgy, ← hwf]
          clear hgy hwf
          refine ⟨trivial, ?_⟩
          simp only [Act.put, aS, aC, aZ]
          refine takeH (i := 11) (some 2) rfl rfl (by kernel_rfl) (by kernel_rfl) (by kernel_rfl) (fun _ _ _ h => h) (gRun rfl (ptr gy) fun _ h => run_asZ (.tmp 21) rfl (ptr gy) rfl) trivial ?_
          simp only [Act.put, aS, aC, aZ]
          refine takeH (i := 12) (some 3) rfl rfl (by kernel_rfl) (by kernel_rfl) (by kernel_rfl) (fun _ _ _ h => h) (gRun rfl (.int .i64 0) fun _ h => run_asZ (.const (.int .i64 0)) rfl (.int .i64 0) rfl) trivial ?_
          simp only [Act.put, aS, aC, aZ]
          refine wpAnyH_done (by kernel_rfl) ?_ _
          go_wp2_with fail
          rw [HPQ.out]
          exact Or.inr ⟨HN.out.2.1, gy, rfl, HF.out.1, HF.out.2.1, by rw [← HN.out.1]; exact HF.out.2.2⟩
        · refine opMakeY (S := S) (some 17) rfl rfl rfl (.tmp 16) (.tmp 16) 82 4 (.bool false) 1 rfl und82 inf4 rfl (by decide) n rfl rfl HN.out.2.2 (fun b hb => HS.out b (Nat.le_trans HB2.out.size hb)) ?_
          intro m3 hown hsz hbl
          obtain ⟨q17, hq⟩ : ∃ q, q = m2.heap.size := ⟨_, rfl⟩
          rw [← hq] at hown hsz ⊢
          have HB3 : Hid (Below w.heap.size w m3) := HB2.out.trans (hbl.mono HB2.out.size)
          have HO17d3 : Hid (Own1 S m3 4 (whole q17 n) (List.replicate n (.bool false)) ∧ q17 < m3.heap.size) := ⟨hown, by omega⟩
          have HD13_17 : Hid (q13 < q17) := (by rw [hq]; exact HO13d2.out.2)
          have HO13d3 : Hid (Own1 S m3 38 (whole q13 n) (List.replicate n (.slice none 0 0)) ∧ q13 < m3.heap.size) := ⟨HO13d2.out.1.keep fun b hl _ => hbl.block b (by first | exact hl | (rw [← hq]; exact hl) | (rw [hq] at hl; exact hl)), by have := HO13d2.out.2; omega⟩
          clear HO13d2
          have HD19_17 : Hid (q19 < q17) := (by rw [hq]; exact HO19d2.out.2)
          have HO19d3 : Hid (Own1 S m3 38 (whole q19 n) (List.replicate n (.slice none 0 0)) ∧ q19 < m3.heap.size) := ⟨HO19d2.out.1.keep fun b hl _ => hbl.block b (by first | exact hl | (rw [← hq]; exact hl) | (rw [hq] at hl; exact hl)), by have := HO19d2.out.2; omega⟩
          clear HO19d2
          clear hown hsz hbl hq
          refine ⟨trivial, ?_⟩
          simp only [Act.put, aS, aC, aZ]
          refine oneH (i := 4) (by kernel_rfl) ?_
          refine opMakeY (S := S) (some 15) rfl rfl rfl (.tmp 14) (.tmp 14) 82 4 (.bool false) 1 rfl und82 inf4 rfl (by decide) n rfl rfl HN.out.2.2 (fun b hb => HS.out b (Nat.le_trans HB3.out.size hb)) ?_
          intro m4 hown hsz hbl
          obtain ⟨q15, hq⟩ : ∃ q, q = m3.heap.size := ⟨_, rfl⟩
          rw [← hq] at hown hsz ⊢
          have HB4 : Hid (Below w.heap.size w m4) := HB3.out.trans (hbl.mono HB3.out.size)
          have HO15d4 : Hid (Own1 S m4 4 (whole q15 n) (List.replicate n (.bool false)) ∧ q15 < m4.heap.size) := ⟨hown, by omega⟩
          have HD13_15 : Hid (q13 < q15) := (by rw [hq]; exact HO13d3.out.2)
          have HO13d4 : Hid (Own1 S m4 38 (whole q13 n) (List.replicate n (.slice none 0 0)) ∧ q13 < m4.heap.size) := ⟨HO13d3.out.1.keep fun b hl _ => hbl.block b (by first | exact hl | (rw [← hq]; exact hl) | (rw [hq] at hl; exact hl)), by have := HO13d3.out.2; omega⟩
          clear HO13d3
          have HD19_15 : Hid (q19 < q15) := (by rw [hq]; exact HO19d3.out.2)
          have HO19d4 : Hid (Own1 S m4 38 (whole q19 n) (List.replicate n (.slice none 0 0)) ∧ q19 < m4.heap.size) := ⟨HO19d3.out.1.keep fun b hl _ => hbl.block b (by first | exact hl | (rw [← hq]; exact hl) | (rw [hq] at hl; exact hl)), by have := HO19d3.out.2; omega⟩
          clear HO19d3
          have HD17_15 : Hid (q17 < q15) := (by rw [hq]; exact HO17d3.out.2)
          have HO17d4 : Hid (Own1 S m4 4 (whole q17 n) (List.replicate n (.bool false)) ∧ q17 < m4.heap.size) := ⟨HO17d3.out.1.keep fun b hl _ => hbl.block b (by first | exact hl | (rw [← hq]; exact hl) | (rw [hq] at hl; exact hl)), by have := HO17d3.out.2; omega⟩
          clear HO17d3
          clear hown hsz hbl hq
          refine ⟨trivial, ?_⟩
          simp only [Act.put, aS, aC, aZ]
          refine takeH (i := 9) (some 20) rfl rfl (by kernel_rfl) (by kernel_rfl) (by kernel_rfl) (fun _ _ _ h => h) (gRun rfl (.agg [.int .i64 (n : Nat), whole q13 n, whole q15 n, whole q17 n, .int .i64 (-1), whole q19 n].toArray) fun _ h => run_bld84 (.tmp 11) (.tmp 13) (.tmp 15) (.tmp 17) (.const (.int .i64 (-1))) (.tmp 19) rfl (n : Nat) (-1) _ _ _ _ _ _ _ _ _ _ _ _ rfl rfl rfl rfl rfl rfl) trivial ?_
          simp only [Act.put, aS, aC, aZ]
          refine oneH (i := 10) (by kernel_rfl) ?_
          refine opValueG (some 21) rfl rfl rfl (ptr m4.heap.size) _ (run_boxA (.tmp 20) rfl [.int .i64 (n : Nat), whole q13 n, whole q15 n, whole q17 n, .int .i64 (-1), whole q19 n] rfl) ?_
          obtain ⟨gy, hgy⟩ : ∃ q, q = m4.heap.size := ⟨_, rfl⟩
          obtain ⟨wf, hwf⟩ : ∃ W, W = m4.alloc (.cells [.int .i64 (n : Nat), whole q13 n, whole q15 n, whole q17 n, .int .i64 (-1), whole q19 n].toArray 84) := ⟨_, rfl⟩
          have HF : Hid (w.heap.size ≤ gy ∧ Below w.heap.size w wf ∧ Ref S wf gy n (ref0 n)) := (by
            have hb : Below m4.heap.size m4 wf := hwf ▸ below_alloc m4 _
            have hw : Below w.heap.size w m4 := HB4.out
            have hk : ∀ b, b < m4.heap.size → S b → wf.heap[b]? = m4.heap[b]? := fun b hl _ => hb.block b hl
            refine ⟨hgy ▸ hw.size, hw.trans (hb.mono hw.size), ref0_of (HS.out gy (hgy ▸ hw.size)) (by rw [hgy, hwf]; exact Row.new _ _ _) (HO13d4.out.1.keep hk) (HO15d4.out.1.keep hk) (HO17d4.out.1.keep hk) (HO19d4.out.1.keep hk) ?_ ?_⟩
            · exact (Nat.ne_of_lt HD17_15.out).symm
            · exact Nat.ne_of_lt HD13_19.out)
          rw [← hgy, ← hwf]
          clear hgy hwf
          refine ⟨trivial, ?_⟩
          simp only [Act.put, aS, aC, aZ]
          refine takeH (i := 11) (some 2) rfl rfl (by kernel_rfl) (by kernel_rfl) (by kernel_rfl) (fun _ _ _ h => h) (gRun rfl (ptr gy) fun _ h => run_asZ (.tmp 21) rfl (ptr gy) rfl) trivial ?_
          simp only [Act.put, aS, aC, aZ]
          refine takeH (i := 12) (some 3) rfl rfl (by kernel_rfl) (by kernel_rfl) (by kernel_rfl) (fun _ _ _ h => h) (gRun rfl (.int .i64 0) fun _ h => run_asZ (.const (.int .i64 0)) rfl (.int .i64 0) rfl) trivial ?_
          simp only [Act.put, aS, aC, aZ]
          refine wpAnyH_done (by kernel_rfl) ?_ _
          go_wp2_with fail
          rw [HPQ.out]
          exact Or.inr ⟨HN.out.2.1, gy, rfl, HF.out.1, HF.out.2.1, by rw [← HN.out.1]; exact HF.out.2.2⟩
    · refine opMakeY (S := S) (some 15) rfl rfl rfl (.tmp 14) (.tmp 14) 82 4 (.bool false) 1 rfl und82 inf4 rfl (by decide) n rfl rfl HN.out.2.2 (fun b hb => HS.out b (Nat.le_trans HB0.out.size hb)) ?_
      intro m1 hown hsz hbl
      obtain ⟨q15, hq⟩ : ∃ q, q = Y.heap.size := ⟨_, rfl⟩
      rw [← hq] at hown hsz ⊢
      have HB1 : Hid (Below w.heap.size w m1) := HB0.out.trans (hbl.mono HB0.out.size)
      have HO15d1 : Hid (Own1 S m1 4 (whole q15 n) (List.replicate n (.bool false)) ∧ q15 < m1.heap.size) := ⟨hown, by omega⟩
      clear hown hsz hbl hq
      refine ⟨trivial, ?_⟩
      simp only [Act.put, aS, aC, aZ]
      refine threeH (i := 2) (j := 6) (k := 8) (by kernel_rfl) ?_ ?_ ?_
      · refine opMakeY (S := S) (some 13) rfl rfl rfl (.tmp 12) (.tmp 12) 50 38 (.slice none 0 0) 24 rfl und50 inf38 rfl (by decide) n rfl rfl HN.out.2.2 (fun b hb => HS.out b (Nat.le_trans HB1.out.size hb)) ?_
        intro m2 hown hsz hbl
        obtain ⟨q13, hq⟩ : ∃ q, q = m1.heap.size := ⟨_, rfl⟩
        rw [← hq] at hown hsz ⊢
        have HB2 : Hid (Below w.heap.size w m2) := HB1.out.trans (hbl.mono HB1.out.size)
        have HO13d2 : Hid (Own1 S m2 38 (whole q13 n) (List.replicate n (.slice none 0 0)) ∧ q13 < m2.heap.size) := ⟨hown, by omega⟩
        have HD15_13 : Hid (q15 < q13) := (by rw [hq]; exact HO15d1.out.2)
        have HO15d2 : Hid (Own1 S m2 4 (whole q15 n) (List.replicate n (.bool false)) ∧ q15 < m2.heap.size) := ⟨HO15d1.out.1.keep fun b hl _ => hbl.block b (by first | exact hl | (rw [← hq]; exact hl) | (rw [hq] at hl; exact hl)), by have := HO15d1.out.2; omega⟩
        clear HO15d1
        clear hown hsz hbl hq
        refine ⟨trivial, ?_⟩
        simp only [Act.put, aS, aC, aZ]
        refine twoH (i := 6) (j := 8) (by kernel_rfl) ?_ ?_
        · refine opMakeY (S := S) (some 17) rfl rfl rfl (.tmp 16) (.tmp 16) 82 4 (.bool false) 1 rfl und82 inf4 rfl (by decide) n rfl rfl HN.out.2.2 (fun b hb => HS.out b (Nat.le_trans HB2.out.size hb)) ?_
          intro m3 hown hsz hbl
          obtain ⟨q17, hq⟩ : ∃ q, q = m2.heap.size := ⟨_, rfl⟩
          rw [← hq] at hown hsz ⊢
          have HB3 : Hid (Below w.heap.size w m3) := HB2.out.trans (hbl.mono HB2.out.size)
          have HO17d3 : Hid (Own1 S m3 4 (whole q17 n) (List.replicate n (.bool false)) ∧ q17 < m3.heap.size) := ⟨hown, by omega⟩
          have HD15_17 : Hid (q15 < q17) := (by rw [hq]; exact HO15d2.out.2)
          have HO15d3 : Hid (Own1 S m3 4 (whole q15 n) (List.replicate n (.bool false)) ∧ q15 < m3.heap.size) := ⟨HO15d2.out.1.keep fun b hl _ => hbl.block b (by first | exact hl | (rw [← hq]; exact hl) | (rw [hq] at hl; exact hl)), by have := HO15d2.out.2; omega⟩
          clear HO15d2
          have HD13_17 : Hid (q13 < q17) := (by rw [hq]; exact HO13d2.out.2)
          have HO13d3 : Hid (Own1 S m3 38 (whole q13 n) (List.replicate n (.slice none 0 0)) ∧ q13 < m3.heap.size) := ⟨HO13d2.out.1.keep fun b hl _ => hbl.block b (by first | exact hl | (rw [← hq]; exact hl) | (rw [hq] at hl; exact hl)), by have := HO13d2.out.2; omega⟩
          clear HO13d2
          clear hown hsz hbl hq
          refine ⟨trivial, ?_⟩
          simp only [Act.put, aS, aC, aZ]
          refine oneH (i := 8) (by kernel_rfl) ?_
          refine opMakeY (S := S) (some 19) rfl rfl rfl (.tmp 18) (.tmp 18) 50 38 (.slice none 0 0) 24 rfl und50 inf38 rfl (by decide) n rfl rfl HN.out.2.2 (fun b hb => HS.out b (Nat.le_trans HB3.out.size hb)) ?_
          intro m4 hown hsz hbl
          obtain ⟨q19, hq⟩ : ∃ q, q = m3.heap.size := ⟨_, rfl⟩
          rw [← hq] at hown hsz ⊢
          have HB4 : Hid (Below w.heap.size w m4) := HB3.out.trans (hbl.mono HB3.out.size)
          have HO19d4 : Hid (Own1 S m4 38 (whole q19 n) (List.replicate n (.slice none 0 0)) ∧ q19 < m4.heap.size) := ⟨hown, by omega⟩
          have HD15_19 : Hid (q15 < q19) := (by rw [hq]; exact HO15d3.out.2)
          have HO15d4 : Hid (Own1 S m4 4 (whole q15 n) (List.replicate n (.bool false)) ∧ q15 < m4.heap.size) := ⟨HO15d3.out.1.keep fun b hl _ => hbl.block b (by first | exact hl | (rw [← hq]; exact hl) | (rw [hq] at hl; exact hl)), by have := HO15d3.out.2; omega⟩
          clear HO15d3
          have HD13_19 : Hid (q13 < q19) := (by rw [hq]; exact HO13d3.out.2)
          have HO13d4 : Hid (Own1 S m4 38 (whole q13 n) (List.replicate n (.slice none 0 0)) ∧ q13 < m4.heap.size) := ⟨HO13d3.out.1.keep fun b hl _ => hbl.block b (by first | exact hl | (rw [← hq]; exact hl) | (rw [hq] at hl; exact hl)), by have := HO13d3.out.2; omega⟩
          clear HO13d3
          have HD17_19 : Hid (q17 < q19) := (by rw [hq]; exact HO17d3.out.2)
          have HO17d4 : Hid (Own1 S m4 4 (whole q17 n) (List.replicate n (.bool false)) ∧ q17 < m4.heap.size) := ⟨HO17d3.out.1.keep fun b hl _ => hbl.block b (by first | exact hl | (rw [← hq]; exact hl) | (rw [hq] at hl; exact hl)), by have := HO17d3.out.2; omega⟩
          clear HO17d3
          clear hown hsz hbl hq
          refine ⟨trivial, ?_⟩
          simp only [Act.put, aS, aC, aZ]
          refine takeH (i := 9) (some 20) rfl rfl (by kernel_rfl) (by kernel_rfl) (by kernel_rfl) (fun _ _ _ h => h) (gRun rfl (.agg [.int .i64 (n : Nat), whole q13 n, whole q15 n, whole q17 n, .int .i64 (-1), whole q19 n].toArray) fun _ h => run_bld84 (.tmp 11) (.tmp 13) (.tmp 15) (.tmp 17) (.const (.int .i64 (-1))) (.tmp 19) rfl (n : Nat) (-1) _ _ _ _ _ _ _ _ _ _ _ _ rfl rfl rfl rfl rfl rfl) trivial ?_
          simp only [Act.put, aS, aC, aZ]
          refine oneH (i := 10) (by kernel_rfl) ?_
          refine opValueG (some 21) rfl rfl rfl (ptr m4.heap.size) _ (run_boxA (.tmp 20) rfl [.int .i64 (n : Nat), whole q13 n, whole q15 n, whole q17 n, .int .i64 (-1), whole q19 n] rfl) ?_
          obtain ⟨gy, hgy⟩ : ∃ q, q = m4.heap.size := ⟨_, rfl⟩
          obtain ⟨wf, hwf⟩ : ∃ W, W = m4.alloc (.cells [.int .i64 (n : Nat), whole q13 n, whole q15 n, whole q17 n, .int .i64 (-1), whole q19 n].toArray 84) := ⟨_, rfl⟩
          have HF : Hid (w.heap.size ≤ gy ∧ Below w.heap.size w wf ∧ Ref S wf gy n (ref0 n)) := (by
            have hb : Below m4.heap.size m4 wf := hwf ▸ below_alloc m4 _
            have hw : Below w.heap.size w m4 := HB4.out
            have hk : ∀ b, b < m4.heap.size → S b → wf.heap[b]? = m4.heap[b]? := fun b hl _ => hb.block b hl
            refine ⟨hgy ▸ hw.size, hw.trans (hb.mono hw.size), ref0_of (HS.out gy (hgy ▸ hw.size)) (by rw [hgy, hwf]; exact Row.new _ _ _) (HO13d4.out.1.keep hk) (HO15d4.out.1.keep hk) (HO17d4.out.1.keep hk) (HO19d4.out.1.keep hk) ?_ ?_⟩
            · exact Nat.ne_of_lt HD15_17.out
            · exact Nat.ne_of_lt HD13_19.out)
          rw [← hgy, ← hwf]
          clear hgy hwf
          refine ⟨trivial, ?_⟩
          simp only [Act.put, aS, aC, aZ]
          refine takeH (i := 11) (some 2) rfl rfl (by kernel_rfl) (by kernel_rfl) (by kernel_rfl) (fun _ _ _ h => h) (gRun rfl (ptr gy) fun _ h => run_asZ (.tmp 21) rfl (ptr gy) rfl) trivial ?_
          simp only [Act.put, aS, aC, aZ]
          refine takeH (i := 12) (some 3) rfl rfl (by kernel_rfl) (by kernel_rfl) (by kernel_rfl) (fun _ _ _ h => h) (gRun rfl (.int .i64 0) fun _ h => run_asZ (.const (.int .i64 0)) rfl (.int .i64 0) rfl) trivial ?_
          simp only [Act.put, aS, aC, aZ]
          refine wpAnyH_done (by kernel_rfl) ?_ _
          go_wp2_with fail
          rw [HPQ.out]
          exact Or.inr ⟨HN.out.2.1, gy, rfl, HF.out.1, HF.out.2.1, by rw [← HN.out.1]; exact HF.out.2.2⟩
        · refine opMakeY (S := S) (some 19) rfl rfl rfl (.tmp 18) (.tmp 18) 50 38 (.slice none 0 0) 24 rfl und50 inf38 rfl (by decide) n rfl rfl HN.out.2.2 (fun b hb => HS.out b (Nat.le_trans HB2.out.size hb)) ?_
          intro m3 hown hsz hbl
          obtain ⟨q19, hq⟩ : ∃ q, q = m2.heap.size := ⟨_, rfl⟩
          rw [← hq] at hown hsz ⊢
          have HB3 : Hid (Below w.heap.size w m3) := HB2.out.trans (hbl.mono HB2.out.size)
          have HO19d3 : Hid (Own1 S m3 38 (whole q19 n) (List.replicate n (.slice none 0 0)) ∧ q19 < m3.heap.size) := ⟨hown, by omega⟩
          have HD15_19 : Hid (q15 < q19) := (by rw [hq]; exact HO15d2.out.2)
          have HO15d3 : Hid (Own1 S m3 4 (whole q15 n) (List.replicate n (.bool false)) ∧ q15 < m3.heap.size) := ⟨HO15d2.out.1.keep fun b hl _ => hbl.block b (by first | exact hl | (rw [← hq]; exact hl) | (rw [hq] at hl; exact hl)), by have := HO15d2.out.2; omega⟩
          clear HO15d2
          have HD13_19 : Hid (q13 < q19) := (by rw [hq]; exact HO13d2.out.2)
          have HO13d3 : Hid (Own1 S m3 38 (whole q13 n) (List.replicate n (.slice none 0 0)) ∧ q13 < m3.heap.size) := ⟨HO13d2.out.1.keep fun b hl _ => hbl.block b (by first | exact hl | (rw [← hq]; exact hl) | (rw [hq] at hl; exact hl)), by have := HO13d2.out.2; omega⟩
          clear HO13d2
          clear hown hsz hbl hq
          refine ⟨trivial, ?_⟩
          simp only [Act.put, aS, aC, aZ]
          refine oneH (i := 6) (by kernel_rfl) ?_
          refine opMakeY (S := S) (some 17) rfl rfl rfl (.tmp 16) (.tmp 16) 82 4 (.bool false) 1 rfl und82 inf4 rfl (by decide) n rfl rfl HN.out.2.2 (fun b hb => HS.out b (Nat.le_trans HB3.out.size hb)) ?_
          intro m4 hown hsz hbl
          obtain ⟨q17, hq⟩ : ∃ q, q = m3.heap.size := ⟨_, rfl⟩
          rw [← hq] at hown hsz ⊢
          have HB4 : Hid (Below w.heap.size w m4) := HB3.out.trans (hbl.mono HB3.out.size)
          have HO17d4 : Hid (Own1 S m4 4 (whole q17 n) (List.replicate n (.bool false)) ∧ q17 < m4.heap.size) := ⟨hown, by omega⟩
          have HD15_17 : Hid (q15 < q17) := (by rw [hq]; exact HO15d3.out.2)
          have HO15d4 : Hid (Own1 S m4 4 (whole q15 n) (List.replicate n (.bool false)) ∧ q15 < m4.heap.size) := ⟨HO15d3.out.1.keep fun b hl _ => hbl.block b (by first | exact hl | (rw [← hq]; exact hl) | (rw [hq] at hl; exact hl)), by have := HO15d3.out.2; omega⟩
          clear HO15d3
          have HD13_17 : Hid (q13 < q17) := (by rw [hq]; exact HO13d3.out.2)
          have HO13d4 : Hid (Own1 S m4 38 (whole q13 n) (List.replicate n (.slice none 0 0)) ∧ q13 < m4.heap.size) := ⟨HO13d3.out.1.keep fun b hl _ => hbl.block b (by first | exact hl | (rw [← hq]; exact hl) | (rw [hq] at hl; exact hl)), by have := HO13d3.out.2; omega⟩
          clear HO13d3
          have HD19_17 : Hid (q19 < q17) := (by rw [hq]; exact HO19d3.out.2)
          have HO19d4 : Hid (Own1 S m4 38 (whole q19 n) (List.replicate n (.slice none 0 0)) ∧ q19 < m4.heap.size) := ⟨HO19d3.out.1.keep fun b hl _ => hbl.block b (by first | exact hl | (rw [← hq]; exact hl) | (rw [hq] at hl; exact hl)), by have := HO19d3.out.2; omega⟩
          clear HO19d3
          clear hown hsz hbl hq
          refine ⟨trivial, ?_⟩
          simp only [Act.put, aS, aC, aZ]
          refine takeH (i := 9) (some 20) rfl rfl (by kernel_rfl) (by kernel_rfl) (by kernel_rfl) (fun _ _ _ h => h) (gRun rfl (.agg [.int .i64 (n : Nat), whole q13 n, whole q15 n, whole q17 n, .int .i64 (-1), whole q19 n].toArray) fun _ h => run_bld84 (.tmp 11) (.tmp 13) (.tmp 15) (.tmp 17) (.const (.int .i64 (-1))) (.tmp 19) rfl (n : Nat) (-1) _ _ _ _ _ _ _ _ _ _ _ _ rfl rfl rfl rfl rfl rfl) trivial ?_
          simp only [Act.put, aS, aC, aZ]
          refine oneH (i := 10) (by kernel_rfl) ?_
          refine opValueG (some 21) rfl rfl rfl (ptr m4.heap.size) _ (run_boxA (.tmp 20) rfl [.int .i64 (n : Nat), whole q13 n, whole q15 n, whole q17 n, .int .i64 (-1), whole q19 n] rfl) ?_
          obtain ⟨gy, hgy⟩ : ∃ q, q = m4.heap.size := ⟨_, rfl⟩
          obtain ⟨wf, hwf⟩ : ∃ W, W = m4.alloc (.cells [.int .i64 (n : Nat), whole q13 n, whole q15 n, whole q17 n, .int .i64 (-1), whole q19 n].toArray 84) := ⟨_, rfl⟩
          have HF : Hid (w.heap.size ≤ gy ∧ Below w.heap.size w wf ∧ Ref S wf gy n (ref0 n)) := (by
            have hb : Below m4.heap.size m4 wf := hwf ▸ below_alloc m4 _
            have hw : Below w.heap.size w m4 := HB4.out
            have hk : ∀ b, b < m4.heap.size → S b → wf.heap[b]? = m4.heap[b]? := fun b hl _ => hb.block b hl
            refine ⟨hgy ▸ hw.size, hw.trans (hb.mono hw.size), ref0_of (HS.out gy (hgy ▸ hw.size)) (by rw [hgy, hwf]; exact Row.new _ _ _) (HO13d4.out.1.keep hk) (HO15d4.out.1.keep hk) (HO17d4.out.1.keep hk) (HO19d4.out.1.keep hk) ?_ ?_⟩
            · exact Nat.ne_of_lt HD15_17.out
            · exact Nat.ne_of_lt HD13_19.out)
          rw [← hgy, ← hwf]
          clear hgy hwf
          refine ⟨trivial, ?_⟩
          simp only [Act.put, aS, aC, aZ]
          refine takeH (i := 11) (some 2) rfl rfl (by kernel_rfl) (by kernel_rfl) (by kernel_rfl) (fun _ _ _ h => h) (gRun rfl (ptr gy) fun _ h => run_asZ (.tmp 21) rfl (ptr gy) rfl) trivial ?_
          simp only [Act.put, aS, aC, aZ]
          refine takeH (i := 12) (some 3) rfl rfl (by kernel_rfl) (by kernel_rfl) (by kernel_rfl) (fun _ _ _ h => h) (gRun rfl (.int .i64 0) fun _ h => run_asZ (.const (.int .i64 0)) rfl (.int .i64 0) rfl) trivial ?_
          simp only [Act.put, aS, aC, aZ]
          refine wpAnyH_done (by kernel_rfl) ?_ _
          go_wp2_with fail
          rw [HPQ.out]
          exact Or.inr ⟨HN.out.2.1, gy, rfl, HF.out.1, HF.out.2.1, by rw [← HN.out.1]; exact HF.out.2.2⟩
      · refine opMakeY (S := S) (some 17) rfl rfl rfl (.tmp 16) (.tmp 16) 82 4 (.bool false) 1 rfl und82 inf4 rfl (by decide) n rfl rfl HN.out.2.2 (fun b hb => HS.out b (Nat.le_trans HB1.out.size hb)) ?_
        intro m2 hown hsz hbl
        obtain ⟨q17, hq⟩ : ∃ q, q = m1.heap.size := ⟨_, rfl⟩
        rw [← hq] at hown hsz ⊢
        have HB2 : Hid (Below w.heap.size w m2) := HB1.out.trans (hbl.mono HB1.out.size)
        have HO17d2 : Hid (Own1 S m2 4 (whole q17 n) (List.replicate n (.bool false)) ∧ q17 < m2.heap.size) := ⟨hown, by omega⟩
        have HD15_17 : Hid (q15 < q17) := (by rw [hq]; exact HO15d1.out.2)
        have HO15d2 : Hid (Own1 S m2 4 (whole q15 n) (List.replicate n (.bool false)) ∧ q15 < m2.heap.size) := ⟨HO15d1.out.1.keep fun b hl _ => hbl.block b (by first | exact hl | (rw [← hq]; exact hl) | (rw [hq] at hl; exact hl)), by have := HO15d1.out.2; omega⟩
        clear HO15d1
        clear hown hsz hbl hq
        refine ⟨trivial, ?_⟩
        simp only [Act.put, aS, aC, aZ]
        refine twoH (i := 2) (j := 8) (by kernel_rfl) ?_ ?_
        · refine opMakeY (S := S) (some 13) rfl rfl rfl (.tmp 12) (.tmp 12) 50 38 (.slice none 0 0) 24 rfl und50 inf38 rfl (by decide) n rfl rfl HN.out.2.2 (fun b hb => HS.out b (Nat.le_trans HB2.out.size hb)) ?_
          intro m3 hown hsz hbl
          obtain ⟨q13, hq⟩ : ∃ q, q = m2.heap.size := ⟨_, rfl⟩
          rw [← hq] at hown hsz ⊢
          have HB3 : Hid (Below w.heap.size w m3) := HB2.out.trans (hbl.mono HB2.out.size)
          have HO13d3 : Hid (Own1 S m3 38 (whole q13 n) (List.replicate n (.slice none 0 0)) ∧ q13 < m3.heap.size) := ⟨hown, by omega⟩
          have HD15_13 : Hid (q15 < q13) := (by rw [hq]; exact HO15d2.out.2)
          have HO15d3 : Hid (Own1 S m3 4 (whole q15 n) (List.replicate n (.bool false)) ∧ q15 < m3.heap.size) := ⟨HO15d2.out.1.keep fun b hl _ => hbl.block b (by first | exact hl | (rw [← hq]; exact hl) | (rw [hq] at hl; exact hl)), by have := HO15d2.out.2; omega⟩
          clear HO15d2
          have HD17_13 : Hid (q17 < q13) := (by rw [hq]; exact HO17d2.out.2)
          have HO17d3 : Hid (Own1 S m3 4 (whole q17 n) (List.replicate n (.bool false)) ∧ q17 < m3.heap.size) := ⟨HO17d2.out.1.keep fun b hl _ => hbl.block b (by first | exact hl | (rw [← hq]; exact hl) | (rw [hq] at hl; exact hl)), by have := HO17d2.out.2; omega⟩
          clear HO17d2
          clear hown hsz hbl hq
          refine ⟨trivial, ?_⟩
          simp only [Act.put, aS, aC, aZ]
          refine oneH (i := 8) (by kernel_rfl) ?_
          refine opMakeY (S := S) (some 19) rfl rfl rfl (.tmp 18) (.tmp 18) 50 38 (.slice none 0 0) 24 rfl und50 inf38 rfl (by decide) n rfl rfl HN.out.2.2 (fun b hb => HS.out b (Nat.le_trans HB3.out.size hb)) ?_
          intro m4 hown hsz hbl
          obtain ⟨q19, hq⟩ : ∃ q, q = m3.heap.size := ⟨_, rfl⟩
          rw [← hq] at hown hsz ⊢
          have HB4 : Hid (Below w.heap.size w m4) := HB3.out.trans (hbl.mono HB3.out.size)
          have HO19d4 : Hid (Own1 S m4 38 (whole q19 n) (List.replicate n (.slice none 0 0)) ∧ q19 < m4.heap.size) := ⟨hown, by omega⟩
          have HD15_19 : Hid (q15 < q19) := (by rw [hq]; exact HO15d3.out.2)
          have HO15d4 : Hid (Own1 S m4 4 (whole q15 n) (List.replicate n (.bool false)) ∧ q15 < m4.heap.size) := ⟨HO15d3.out.1.keep fun b hl _ => hbl.block b (by first | exact hl | (rw [← hq]; exact hl) | (rw [hq] at hl; exact hl)), by have := HO15d3.out.2; omega⟩
          clear HO15d3
          have HD17_19 : Hid (q17 < q19) := (by rw [hq]; exact HO17d3.out.2)
          have HO17d4 : Hid (Own1 S m4 4 (whole q17 n) (List.replicate n (.bool false)) ∧ q17 < m4.heap.size) := ⟨HO17d3.out.1.keep fun b hl _ => hbl.block b (by first | exact hl | (rw [← hq]; exact hl) | (rw [hq] at hl; exact hl)), by have := HO17d3.out.2; omega⟩
          clear HO17d3
          have HD13_19 : Hid (q13 < q19) := (by rw [hq]; exact HO13d3.out.2)
          have HO13d4 : Hid (Own1 S m4 38 (whole q13 n) (List.replicate n (.slice none 0 0)) ∧ q13 < m4.heap.size) := ⟨HO13d3.out.1.keep fun b hl _ => hbl.block b (by first | exact hl | (rw [← hq]; exact hl) | (rw [hq] at hl; exact hl)), by have := HO13d3.out.2; omega⟩
          clear HO13d3
          clear hown hsz hbl hq
          refine ⟨trivial, ?_⟩
          simp only [Act.put, aS, aC, aZ]
          refine takeH (i := 9) (some 20) rfl rfl (by kernel_rfl) (by kernel_rfl) (by kernel_rfl) (fun _ _ _ h => h) (gRun rfl (.agg [.int .i64 (n : Nat), whole q13 n, whole q15 n, whole q17 n, .int .i64 (-1), whole q19 n].toArray) fun _ h => run_bld84 (.tmp 11) (.tmp 13) (.tmp 15) (.tmp 17) (.const (.int .i64 (-1))) (.tmp 19) rfl (n : Nat) (-1) _ _ _ _ _ _ _ _ _ _ _ _ rfl rfl rfl rfl rfl rfl) trivial ?_
          simp only [Act.put, aS, aC, aZ]
          refine oneH (i := 10) (by kernel_rfl) ?_
          refine opValueG (some 21) rfl rfl rfl (ptr m4.heap.size) _ (run_boxA (.tmp 20) rfl [.int .i64 (n : Nat), whole q13 n, whole q15 n, whole q17 n, .int .i64 (-1), whole q19 n] rfl) ?_
          obtain ⟨gy, hgy⟩ : ∃ q, q = m4.heap.size := ⟨_, rfl⟩
          obtain ⟨wf, hwf⟩ : ∃ W, W = m4.alloc (.cells [.int .i64 (n : Nat), whole q13 n, whole q15 n, whole q17 n, .int .i64 (-1), whole q19 n].toArray 84) := ⟨_, rfl⟩
          have HF : Hid (w.heap.size ≤ gy ∧ Below w.heap.size w wf ∧ Ref S wf gy n (ref0 n)) := (by
            have hb : Below m4.heap.size m4 wf := hwf ▸ below_alloc m4 _
            have hw : Below w.heap.size w m4 := HB4.out
            have hk : ∀ b, b < m4.heap.size → S b → wf.heap[b]? = m4.heap[b]? := fun b hl _ => hb.block b hl
            refine ⟨hgy ▸ hw.size, hw.trans (hb.mono hw.size), ref0_of (HS.out gy (hgy ▸ hw.size)) (by rw [hgy, hwf]; exact Row.new _ _ _) (HO13d4.out.1.keep hk) (HO15d4.out.1.keep hk) (HO17d4.out.1.keep hk) (HO19d4.out.1.keep hk) ?_ ?_⟩
            · exact Nat.ne_of_lt HD15_17.out
            · exact Nat.ne_of_lt HD13_19.out)
          rw [← hgy, ← hwf]
          clear hgy hwf
          refine ⟨trivial, ?_⟩
          simp only [Act.put, aS, aC, aZ]
          refine takeH (i := 11) (some 2) rfl rfl (by kernel_rfl) (by kernel_rfl) (by kernel_rfl) (fun _ _ _ h => h) (gRun rfl (ptr gy) fun _ h => run_asZ (.tmp 21) rfl (ptr gy) rfl) trivial ?_
          simp only [Act.put, aS, aC, aZ]
          refine takeH (i := 12) (some 3) rfl rfl (by kernel_rfl) (by kernel_rfl) (by kernel_rfl) (fun _ _ _ h => h) (gRun rfl (.int .i64 0) fun _ h => run_asZ (.const (.int .i64 0)) rfl (.int .i64 0) rfl) trivial ?_
          simp only [Act.put, aS, aC, aZ]
          refine wpAnyH_done (by kernel_rfl) ?_ _
          go_wp2_with fail
          rw [HPQ.out]
          exact Or.inr ⟨HN.out.2.1, gy, rfl, HF.out.1, HF.out.2.1, by rw [← HN.out.1]; exact HF.out.2.2⟩
        · refine opMakeY (S := S) (some 19) rfl rfl rfl (.tmp 18) (.tmp 18) 50 38 (.slice none 0 0) 24 rfl und50 inf38 rfl (by decide) n rfl rfl HN.out.2.2 (fun b hb => HS.out b (Nat.le_trans HB2.out.size hb)) ?_
          intro m3 hown hsz hbl
          obtain ⟨q19, hq⟩ : ∃ q, q = m2.heap.size := ⟨_, rfl⟩
          rw [← hq] at hown hsz ⊢
          have HB3 : Hid (Below w.heap.size w m3) := HB2.out.trans (hbl.mono HB2.out.size)
          have HO19d3 : Hid (Own1 S m3 38 (whole q19 n) (List.replicate n (.slice none 0 0)) ∧ q19 < m3.heap.size) := ⟨hown, by omega⟩
          have HD15_19 : Hid (q15 < q19) := (by rw [hq]; exact HO15d2.out.2)
          have HO15d3 : Hid (Own1 S m3 4 (whole q15 n) (List.replicate n (.bool false)) ∧ q15 < m3.heap.size) := ⟨HO15d2.out.1.keep fun b hl _ => hbl.block b (by first | exact hl | (rw [← hq]; exact hl) | (rw [hq] at hl; exact hl)), by have := HO15d2.out.2; omega⟩
          clear HO15d2
          have HD17_19 : Hid (q17 < q19) := (by rw [hq]; exact HO17d2.out.2)
          have HO17d3 : Hid (Own1 S m3 4 (whole q17 n) (List.replicate n (.bool false)) ∧ q17 < m3.heap.size) := ⟨HO17d2.out.1.keep fun b hl _ => hbl.block b (by first | exact hl | (rw [← hq]; exact hl) | (rw [hq] at hl; exact hl)), by have := HO17d2.out.2; omega⟩
          clear HO17d2
          clear hown hsz hbl hq
          refine ⟨trivial, ?_⟩
          simp only [Act.put, aS, aC, aZ]
          refine oneH (i := 2) (by kernel_rfl) ?_
          refine opMakeY (S := S) (some 13) rfl rfl rfl (.tmp 12) (.tmp 12) 50 38 (.slice none 0 0) 24 rfl und50 inf38 rfl (by decide) n rfl rfl HN.out.2.2 (fun b hb => HS.out b (Nat.le_trans HB3.out.size hb)) ?_
          intro m4 hown hsz hbl
          obtain ⟨q13, hq⟩ : ∃ q, q = m3.heap.size := ⟨_, rfl⟩
          rw [← hq] at hown hsz ⊢
          have HB4 : Hid (Below w.heap.size w m4) := HB3.out.trans (hbl.mono HB3.out.size)
          have HO13d4 : Hid (Own1 S m4 38 (whole q13 n) (List.replicate n (.slice none 0 0)) ∧ q13 < m4.heap.size) := ⟨hown, by omega⟩
          have HD15_13 : Hid (q15 < q13) := (by rw [hq]; exact HO15d3.out.2)
          have HO15d4 : Hid (Own1 S m4 4 (whole q15 n) (List.replicate n (.bool false)) ∧ q15 < m4.heap.size) := ⟨HO15d3.out.1.keep fun b hl _ => hbl.block b (by first | exact hl | (rw [← hq]; exact hl) | (rw [hq] at hl; exact hl)), by have := HO15d3.out.2; omega⟩
          clear HO15d3
          have HD17_13 : Hid (q17 < q13) := (by rw [hq]; exact HO17d3.out.2)
          have HO17d4 : Hid (Own1 S m4 4 (whole q17 n) (List.replicate n (.bool false)) ∧ q17 < m4.heap.size) := ⟨HO17d3.out.1.keep fun b hl _ => hbl.block b (by first | exact hl | (rw [← hq]; exact hl) | (rw [hq] at hl; exact hl)), by have := HO17d3.out.2; omega⟩
          clear HO17d3
          have HD19_13 : Hid (q19 < q13) := (by rw [hq]; exact HO19d3.out.2)
          have HO19d4 : Hid (Own1 S m4 38 (whole q19 n) (List.replicate n (.slice none 0 0)) ∧ q19 < m4.heap.size) := ⟨HO19d3.out.1.keep fun b hl _ => hbl.block b (by first | exact hl | (rw [← hq]; exact hl) | (rw [hq] at hl; exact hl)), by have := HO19d3.out.2; omega⟩
          clear HO19d3
          clear hown hsz hbl hq
          refine ⟨trivial, ?_⟩
          simp only [Act.put, aS, aC, aZ]
          refine takeH (i := 9) (some 20) rfl rfl (by kernel_rfl) (by kernel_rfl) (by kernel_rfl) (fun _ _ _ h => h) (gRun rfl (.agg [.int .i64 (n : Nat), whole q13 n, whole q15 n, whole q17 n, .int .i64 (-1), whole q19 n].toArray) fun _ h => run_bld84 (.tmp 11) (.tmp 13) (.tmp 15) (.tmp 17) (.const (.int .i64 (-1))) (.tmp 19) rfl (n : Nat) (-1) _ _ _ _ _ _ _ _ _ _ _ _ rfl rfl rfl rfl rfl rfl) trivial ?_
          simp only [Act.put, aS, aC, aZ]
          refine oneH (i := 10) (by kernel_rfl) ?_
          refine opValueG (some 21) rfl rfl rfl (ptr m4.heap.size) _ (run_boxA (.tmp 20) rfl [.int .i64 (n : Nat), whole q13 n, whole q15 n, whole q17 n, .int .i64 (-1), whole q19 n] rfl) ?_
          obtain ⟨gy, hgy⟩ : ∃ q, q = m4.heap.size := ⟨_, rfl⟩
          obtain ⟨wf, hwf⟩ : ∃ W, W = m4.alloc (.cells [.int .i64 (n : Nat), whole q13 n, whole q15 n, whole q17 n, .int .i64 (-1), whole q19 n].toArray 84) := ⟨_, rfl⟩
          have HF : Hid (w.heap.size ≤ gy ∧ Below w.heap.size w wf ∧ Ref S wf gy n (ref0 n)) := (by
            have hb : Below m4.heap.size m4 wf := hwf ▸ below_alloc m4 _
            have hw : Below w.heap.size w m4 := HB4.out
            have hk : ∀ b, b < m4.heap.size → S b → wf.heap[b]? = m4.heap[b]? := fun b hl _ => hb.block b hl
            refine ⟨hgy ▸ hw.size, hw.trans (hb.mono hw.size), ref0_of (HS.out gy (hgy ▸ hw.size)) (by rw [hgy, hwf]; exact Row.new _ _ _) (HO13d4.out.1.keep hk) (HO15d4.out.1.keep hk) (HO17d4.out.1.keep hk) (HO19d4.out.1.keep hk) ?_ ?_⟩
            · exact Nat.ne_of_lt HD15_17.out
            · exact (Nat.ne_of_lt HD19_13.out).symm)
          rw [← hgy, ← hwf]
          clear hgy hwf
          refine ⟨trivial, ?_⟩
          simp only [Act.put, aS, aC, aZ]
          refine takeH (i := 11) (some 2) rfl rfl (by kernel_rfl) (by kernel_rfl) (by kernel_rfl) (fun _ _ _ h => h) (gRun rfl (ptr gy) fun _ h => run_asZ (.tmp 21) rfl (ptr gy) rfl) trivial ?_
          simp only [Act.put, aS, aC, aZ]
          refine takeH (i := 12) (some 3) rfl rfl (by kernel_rfl) (by kernel_rfl) (by kernel_rfl) (fun _ _ _ h => h) (gRun rfl (.int .i64 0) fun _ h => run_asZ (.const (.int .i64 0)) rfl (.int .i64 0) rfl) trivial ?_
          simp only [Act.put, aS, aC, aZ]
          refine wpAnyH_done (by kernel_rfl) ?_ _
          go_wp2_with fail
          rw [HPQ.out]
          exact Or.inr ⟨HN.out.2.1, gy, rfl, HF.out.1, HF.out.2.1, by rw [← HN.out.1]; exact HF.out.2.2⟩
      · refine opMakeY (S := S) (some 19) rfl rfl rfl (.tmp 18) (.tmp 18) 50 38 (.slice none 0 0) 24 rfl und50 inf38 rfl (by decide) n rfl rfl HN.out.2.2 (fun b hb => HS.out b (Nat.le_trans HB1.out.size hb)) ?_
        intro m2 hown hsz hbl
        obtain ⟨q19, hq⟩ : ∃ q, q = m1.heap.size := ⟨_, rfl⟩
        rw [← hq] at hown hsz ⊢
        have HB2 : Hid (Below w.heap.size w m2) := HB1.out.trans (hbl.mono HB1.out.size)
        have HO19d2 : Hid (Own1 S m2 38 (whole q19 n) (List.replicate n (.slice none 0 0)) ∧ q19 < m2.heap.size) := ⟨hown, by omega⟩
        have HD15_19 : Hid (q15 < q19) := (by rw [hq]; exact HO15d1.out.2)
        have HO15d2 : Hid (Own1 S m2 4 (whole q15 n) (List.replicate n (.bool false)) ∧ q15 < m2.heap.size) := ⟨HO15d1.out.1.keep fun b hl _ => hbl.block b (by first | exact hl | (rw [← hq]; exact hl) | (rw [hq] at hl; exact hl)), by have := HO15d1.out.2; omega⟩
        clear HO15d1
        clear hown hsz hbl hq
        refine ⟨trivial, ?_⟩
        simp only [Act.put, aS, aC, aZ]
        refine twoH (i := 2) (j := 6) (by kernel_rfl) ?_ ?_
        · refine opMakeY (S := S) (some 13) rfl rfl rfl (.tmp 12) (.tmp 12) 50 38 (.slice none 0 0) 24 rfl und50 inf38 rfl (by decide) n rfl rfl HN.out.2.2 (fun b hb => HS.out b (Nat.le_trans HB2.out.size hb)) ?_
          intro m3 hown hsz hbl
          obtain ⟨q13, hq⟩ : ∃ q, q = m2.heap.size := ⟨_, rfl⟩
          rw [← hq] at hown hsz ⊢
          have HB3 : Hid (Below w.heap.size w m3) := HB2.out.trans (hbl.mono HB2.out.size)
          have HO13d3 : Hid (Own1 S m3 38 (whole q13 n) (List.replicate n (.slice none 0 0)) ∧ q13 < m3.heap.size) := ⟨hown, by omega⟩
          have HD15_13 : Hid (q15 < q13) := (by rw [hq]; exact HO15d2.out.2)
          have HO15d3 : Hid (Own1 S m3 4 (whole q15 n) (List.replicate n (.bool false)) ∧ q15 < m3.heap.size) := ⟨HO15d2.out.1.keep fun b hl _ => hbl.block b (by first | exact hl | (rw [← hq]; exact hl) | (rw [hq] at hl; exact hl)), by have := HO15d2.out.2; omega⟩
          clear HO15d2
          have HD19_13 : Hid (q19 < q13) := (by rw [hq]; exact HO19d2.out.2)
          have HO19d3 : Hid (Own1 S m3 38 (whole q19 n) (List.replicate n (.slice none 0 0)) ∧ q19 < m3.heap.size) := ⟨HO19d2.out.1.keep fun b hl _ => hbl.block b (by first | exact hl | (rw [← hq]; exact hl) | (rw [hq] at hl; exact hl)), by have := HO19d2.out.2; omega⟩
          clear HO19d2
          clear hown hsz hbl hq
          refine ⟨trivial, ?_⟩
          simp only [Act.put, aS, aC, aZ]
          refine oneH (i := 6) (by kernel_rfl) ?_
          refine opMakeY (S := S) (some 17) rfl rfl rfl (.tmp 16) (.tmp 16) 82 4 (.bool false) 1 rfl und82 inf4 rfl (by decide) n rfl rfl HN.out.2.2 (fun b hb => HS.out b (Nat.le_trans HB3.out.size hb)) ?_
          intro m4 hown hsz hbl
          obtain ⟨q17, hq⟩ : ∃ q, q = m3.heap.size := ⟨_, rfl⟩
          rw [← hq] at hown hsz ⊢
          have HB4 : Hid (Below w.heap.size w m4) := HB3.out.trans (hbl.mono HB3.out.size)
          have HO17d4 : Hid (Own1 S m4 4 (whole q17 n) (List.replicate n (.bool false)) ∧ q17 < m4.heap.size) := ⟨hown, by omega⟩
          have HD15_17 : Hid (q15 < q17) := (by rw [hq]; exact HO15d3.out.2)
          have HO15d4 : Hid (Own1 S m4 4 (whole q15 n) (List.replicate n (.bool false)) ∧ q15 < m4.heap.size) := ⟨HO15d3.out.1.keep fun b hl _ => hbl.block b (by first | exact hl | (rw [← hq]; exact hl) | (rw [hq] at hl; exact hl)), by have := HO15d3.out.2; omega⟩
          clear HO15d3
          have HD19_17 : Hid (q19 < q17) := (by rw [hq]; exact HO19d3.out.2)
          have HO19d4 : Hid (Own1 S m4 38 (whole q19 n) (List.replicate n (.slice none 0 0)) ∧ q19 < m4.heap.size) := ⟨HO19d3.out.1.keep fun b hl _ => hbl.block b (by first | exact hl | (rw [← hq]; exact hl) | (rw [hq] at hl; exact hl)), by have := HO19d3.out.2; omega⟩
          clear HO19d3
          have HD13_17 : Hid (q13 < q17) := (by rw [hq]; exact HO13d3.out.2)
          have HO13d4 : Hid (Own1 S m4 38 (whole q13 n) (List.replicate n (.slice none 0 0)) ∧ q13 < m4.heap.size) := ⟨HO13d3.out.1.keep fun b hl _ => hbl.block b (by first | exact hl | (rw [← hq]; exact hl) | (rw [hq] at hl; exact hl)), by have := HO13d3.out.2; omega⟩
          clear HO13d3
          clear hown hsz hbl hq
          refine ⟨trivial, ?_⟩
          simp only [Act.put, aS, aC, aZ]
          refine takeH (i := 9) (some 20) rfl rfl (by kernel_rfl) (by kernel_rfl) (by kernel_rfl) (fun _ _ _ h => h) (gRun rfl (.agg [.int .i64 (n : Nat), whole q13 n, whole q15 n, whole q17 n, .int .i64 (-1), whole q19 n].toArray) fun _ h => run_bld84 (.tmp 11) (.tmp 13) (.tmp 15) (.tmp 17) (.const (.int .i64 (-1))) (.tmp 19) rfl (n : Nat) (-1) _ _ _ _ _ _ _ _ _ _ _ _ rfl rfl rfl rfl rfl rfl) trivial ?_
          simp only [Act.put, aS, aC, aZ]
          refine oneH (i := 10) (by kernel_rfl) ?_
          refine opValueG (some 21) rfl rfl rfl (ptr m4.heap.size) _ (run_boxA (.tmp 20) rfl [.int .i64 (n : Nat), whole q13 n, whole q15 n, whole q17 n, .int .i64 (-1), whole q19 n] rfl) ?_
          obtain ⟨gy, hgy⟩ : ∃ q, q = m4.heap.size := ⟨_, rfl⟩
          obtain ⟨wf, hwf⟩ : ∃ W, W = m4.alloc (.cells [.int .i64 (n : Nat), whole q13 n, whole q15 n, whole q17 n, .int .i64 (-1), whole q19 n].toArray 84) := ⟨_, rfl⟩
          have HF : Hid (w.heap.size ≤ gy ∧ Below w.heap.size w wf ∧ Ref S wf gy n (ref0 n)) := (by
            have hb : Below m4.heap.size m4 wf := hwf ▸ below_alloc m4 _
            have hw : Below w.heap.size w m4 := HB4.out
            have hk : ∀ b, b < m4.heap.size → S b → wf.heap[b]? = m4.heap[b]? := fun b hl _ => hb.block b hl
            refine ⟨hgy ▸ hw.size, hw.trans (hb.mono hw.size), ref0_of (HS.out gy (hgy ▸ hw.size)) (by rw [hgy, hwf]; exact Row.new _ _ _) (HO13d4.out.1.keep hk) (HO15d4.out.1.keep hk) (HO17d4.out.1.keep hk) (HO19d4.out.1.keep hk) ?_ ?_⟩
            · exact Nat.ne_of_lt HD15_17.out
            · exact (Nat.ne_of_lt HD19_13.out).symm)
          rw [← hgy, ← hwf]
          clear hgy hwf
          refine ⟨trivial, ?_⟩
          simp only [Act.put, aS, aC, aZ]
          refine takeH (i := 11) (some 2) rfl rfl (by kernel_rfl) (by kernel_rfl) (by kernel_rfl) (fun _ _ _ h => h) (gRun rfl (ptr gy) fun _ h => run_asZ (.tmp 21) rfl (ptr gy) rfl) trivial ?_
          simp only [Act.put, aS, aC, aZ]
          refine takeH (i := 12) (some 3) rfl rfl (by kernel_rfl) (by kernel_rfl) (by kernel_rfl) (fun _ _ _ h => h) (gRun rfl (.int .i64 0) fun _ h => run_asZ (.const (.int .i64 0)) rfl (.int .i64 0) rfl) trivial ?_
          simp only [Act.put, aS, aC, aZ]
          refine wpAnyH_done (by kernel_rfl) ?_ _
          go_wp2_with fail
          rw [HPQ.out]
          exact Or.inr ⟨HN.out.2.1, gy, rfl, HF.out.1, HF.out.2.1, by rw [← HN.out.1]; exact HF.out.2.2⟩
        · refine opMakeY (S := S) (some 17) rfl rfl rfl (.tmp 16) (.tmp 16) 82 4 (.bool false) 1 rfl und82 inf4 rfl (by decide) n rfl rfl HN.out.2.2 (fun b hb => HS.out b (Nat.le_trans HB2.out.size hb)) ?_
          intro m3 hown hsz hbl
          obtain ⟨q17, hq⟩ : ∃ q, q = m2.heap.size := ⟨_, rfl⟩
          rw [← hq] at hown hsz ⊢
          have HB3 : Hid (Below w.heap.size w m3) := HB2.out.trans (hbl.mono HB2.out.size)
          have HO17d3 : Hid (Own1 S m3 4 (whole q17 n) (List.replicate n (.bool false)) ∧ q17 < m3.heap.size) := ⟨hown, by omega⟩
          have HD15_17 : Hid (q15 < q17) := (by rw [hq]; exact HO15d2.out.2)
          have HO15d3 : Hid (Own1 S m3 4 (whole q15 n) (List.replicate n (.bool false)) ∧ q15 < m3.heap.size) := ⟨HO15d2.out.1.keep fun b hl _ => hbl.block b (by first | exact hl | (rw [← hq]; exact hl) | (rw [hq] at hl; exact hl)), by have := HO15d2.out.2; omega⟩
          clear HO15d2
          have HD19_17 : Hid (q19 < q17) := (by rw [hq]; exact HO19d2.out.2)
          have HO19d3 : Hid (Own1 S m3 38 (whole q19 n) (List.replicate n (.slice none 0 0)) ∧ q19 < m3.heap.size) := ⟨HO19d2.out.1.keep fun b hl _ => hbl.block b (by first | exact hl | (rw [← hq]; exact hl) | (rw [hq] at hl; exact hl)), by have := HO19d2.out.2; omega⟩
          clear HO19d2
          clear hown hsz hbl hq
          refine ⟨trivial, ?_⟩
          simp only [Act.put, aS, aC, aZ]
          refine oneH (i := 2) (by kernel_rfl) ?_
          refine opMakeY (S := S) (some 13) rfl rfl rfl (.tmp 12) (.tmp 12) 50 38 (.slice none 0 0) 24 rfl und50 inf38 rfl (by decide) n rfl rfl HN.out.2.2 (fun b hb => HS.out b (Nat.le_trans HB3.out.size hb)) ?_
          intro m4 hown hsz hbl
          obtain ⟨q13, hq⟩ : ∃ q, q = m3.heap.size := ⟨_, rfl⟩
          rw [← hq] at hown hsz ⊢
          have HB4 : Hid (Below w.heap.size w m4) := HB3.out.trans (hbl.mono HB3.out.size)
          have HO13d4 : Hid (Own1 S m4 38 (whole q13 n) (List.replicate n (.slice none 0 0)) ∧ q13 < m4.heap.size) := ⟨hown, by omega⟩
          have HD15_13 : Hid (q15 < q13) := (by rw [hq]; exact HO15d3.out.2)
          have HO15d4 : Hid (Own1 S m4 4 (whole q15 n) (List.replicate n (.bool false)) ∧ q15 < m4.heap.size) := ⟨HO15d3.out.1.keep fun b hl _ => hbl.block b (by first | exact hl | (rw [← hq]; exact hl) | (rw [hq] at hl; exact hl)), by have := HO15d3.out.2; omega⟩
          clear HO15d3
          have HD19_13 : Hid (q19 < q13) := (by rw [hq]; exact HO19d3.out.2)
          have HO19d4 : Hid (Own1 S m4 38 (whole q19 n) (List.replicate n (.slice none 0 0)) ∧ q19 < m4.heap.size) := ⟨HO19d3.out.1.keep fun b hl _ => hbl.block b (by first | exact hl | (rw [← hq]; exact hl) | (rw [hq] at hl; exact hl)), by have := HO19d3.out.2; omega⟩
          clear HO19d3
          have HD17_13 : Hid (q17 < q13) := (by rw [hq]; exact HO17d3.out.2)
          have HO17d4 : Hid (Own1 S m4 4 (whole q17 n) (List.replicate n (.bool false)) ∧ q17 < m4.heap.size) := ⟨HO17d3.out.1.keep fun b hl _ => hbl.block b (by first | exact hl | (rw [← hq]; exact hl) | (rw [hq] at hl; exact hl)), by have := HO17d3.out.2; omega⟩
          clear HO17d3
          clear hown hsz hbl hq
          refine ⟨trivial, ?_⟩
          simp only [Act.put, aS, aC, aZ]
          refine takeH (i := 9) (some 20) rfl rfl (by kernel_rfl) (by kernel_rfl) (by kernel_rfl) (fun _ _ _ h => h) (gRun rfl (.agg [.int .i64 (n : Nat), whole q13 n, whole q15 n, whole q17 n, .int .i64 (-1), whole q19 n].toArray) fun _ h => run_bld84 (.tmp 11) (.tmp 13) (.tmp 15) (.tmp 17) (.const (.int .i64 (-1))) (.tmp 19) rfl (n : Nat) (-1) _ _ _ _ _ _ _ _ _ _ _ _ rfl rfl rfl rfl rfl rfl) trivial ?_
          simp only [Act.put, aS, aC, aZ]
          refine oneH (i := 10) (by kernel_rfl) ?_
          refine opValueG (some 21) rfl rfl rfl (ptr m4.heap.size) _ (run_boxA (.tmp 20) rfl [.int .i64 (n : Nat), whole q13 n, whole q15 n, whole q17 n, .int .i64 (-1), whole q19 n] rfl) ?_
          obtain ⟨gy, hgy⟩ : ∃ q, q = m4.heap.size := ⟨_, rfl⟩
          obtain ⟨wf, hwf⟩ : ∃ W, W = m4.alloc (.cells [.int .i64 (n : Nat), whole q13 n, whole q15 n, whole q17 n, .int .i64 (-1), whole q19 n].toArray 84) := ⟨_, rfl⟩
          have HF : Hid (w.heap.size ≤ gy ∧ Below w.heap.size w wf ∧ Ref S wf gy n (ref0 n)) := (by
            have hb : Below m4.heap.size m4 wf := hwf ▸ below_alloc m4 _
            have hw : Below w.heap.size w m4 := HB4.out
            have hk : ∀ b, b < m4.heap.size → S b → wf.heap[b]? = m4.heap[b]? := fun b hl _ => hb.block b hl
            refine ⟨hgy ▸ hw.size, hw.trans (hb.mono hw.size), ref0_of (HS.out gy (hgy ▸ hw.size)) (by rw [hgy, hwf]; exact Row.new _ _ _) (HO13d4.out.1.keep hk) (HO15d4.out.1.keep hk) (HO17d4.out.1.keep hk) (HO19d4.out.1.keep hk) ?_ ?_⟩
            · exact Nat.ne_of_lt HD15_17.out
            · exact (Nat.ne_of_lt HD19_13.out).symm)
          rw [← hgy, ← hwf]
          clear hgy hwf
          refine ⟨trivial, ?_⟩
          simp only [Act.put, aS, aC, aZ]
          refine takeH (i := 11) (some 2) rfl rfl (by kernel_rfl) (by kernel_rfl) (by kernel_rfl) (fun _ _ _ h => h) (gRun rfl (ptr gy) fun _ h => run_asZ (.tmp 21) rfl (ptr gy) rfl) trivial ?_
          simp only [Act.put, aS, aC, aZ]
          refine takeH (i := 12) (some 3) rfl rfl (by kernel_rfl) (by kernel_rfl) (by kernel_rfl) (fun _ _ _ h => h) (gRun rfl (.int .i64 0) fun _ h => run_asZ (.const (.int .i64 0)) rfl (.int .i64 0) rfl) trivial ?_
          simp only [Act.put, aS, aC, aZ]
          refine wpAnyH_done (by kernel_rfl) ?_ _
          go_wp2_with fail
          rw [HPQ.out]
          exact Or.inr ⟨HN.out.2.1, gy, rfl, HF.out.1, HF.out.2.1, by rw [← HN.out.1]; exact HF.out.2.2⟩
    · refine opMakeY (S := S) (some 17) rfl rfl rfl (.tmp 16) (.tmp 16) 82 4 (.bool false) 1 rfl und82 inf4 rfl (by decide) n rfl rfl HN.out.2.2 (fun b hb => HS.out b (Nat.le_trans HB0.out.size hb)) ?_
      intro m1 hown hsz hbl
      obtain ⟨q17, hq⟩ : ∃ q, q = Y.heap.size := ⟨_, rfl⟩
      rw [← hq] at hown hsz ⊢
      have HB1 : Hid (Below w.heap.size w m1) := HB0.out.trans (hbl.mono HB0.out.size)
      have HO17d1 : Hid (Own1 S m1 4 (whole q17 n) (List.replicate n (.bool false)) ∧ q17 < m1.heap.size) := ⟨hown, by omega⟩
      clear hown hsz hbl hq
      refine ⟨trivial, ?_⟩
      simp only [Act.put, aS, aC, aZ]
      refine threeH (i := 2) (j := 4) (k := 8) (by kernel_rfl) ?_ ?_ ?_
      · refine opMakeY (S := S) (some 13) rfl rfl rfl (.tmp 12) (.tmp 12) 50 38 (.slice none 0 0) 24 rfl und50 inf38 rfl (by decide) n rfl rfl HN.out.2.2 (fun b hb => HS.out b (Nat.le_trans HB1.out.size hb)) ?_
        intro m2 hown hsz hbl
        obtain ⟨q13, hq⟩ : ∃ q, q = m1.heap.size := ⟨_, rfl⟩
        rw [← hq] at hown hsz ⊢
        have HB2 : Hid (Below w.heap.size w m2) := HB1.out.trans (hbl.mono HB1.out.size)
        have HO13d2 : Hid (Own1 S m2 38 (whole q13 n) (List.replicate n (.slice none 0 0)) ∧ q13 < m2.heap.size) := ⟨hown, by omega⟩
        have HD17_13 : Hid (q17 < q13) := (by rw [hq]; exact HO17d1.out.2)
        have HO17d2 : Hid (Own1 S m2 4 (whole q17 n) (List.replicate n (.bool false)) ∧ q17 < m2.heap.size) := ⟨HO17d1.out.1.keep fun b hl _ => hbl.block b (by first | exact hl | (rw [← hq]; exact hl) | (rw [hq] at hl; exact hl)), by have := HO17d1.out.2; omega⟩
        clear HO17d1
        clear hown hsz hbl hq
        refine ⟨trivial, ?_⟩
        simp only [Act.put, aS, aC, aZ]
        refine twoH (i := 4) (j := 8) (by kernel_rfl) ?_ ?_
        · refine opMakeY (S := S) (some 15) rfl rfl rfl (.tmp 14) (.tmp 14) 82 4 (.bool false) 1 rfl und82 inf4 rfl (by decide) n rfl rfl HN.out.2.2 (fun b hb => HS.out b (Nat.le_trans HB2.out.size hb)) ?_
          intro m3 hown hsz hbl
          obtain ⟨q15, hq⟩ : ∃ q, q = m2.heap.size := ⟨_, rfl⟩
          rw [← hq] at hown hsz ⊢
          have HB3 : Hid (Below w.heap.size w m3) := HB2.out.trans (hbl.mono HB2.out.size)
          have HO15d3 : Hid (Own1 S m3 4 (whole q15 n) (List.replicate n (.bool false)) ∧ q15 < m3.heap.size) := ⟨hown, by omega⟩
          have HD17_15 : Hid (q17 < q15) := (by rw [hq]; exact HO17d2.out.2)
          have HO17d3 : Hid (Own1 S m3 4 (whole q17 n) (List.replicate n (.bool false)) ∧ q17 < m3.heap.size) := ⟨HO17d2.out.1.keep fun b hl _ => hbl.block b (by first | exact hl | (rw [← hq]; exact hl) | (rw [hq] at hl; exact hl)), by have := HO17d2.out.2; omega⟩
          clear HO17d2
          have HD13_15 : Hid (q13 < q15) := (by rw [hq]; exact HO13d2.out.2)
          have HO13d3 : Hid (Own1 S m3 38 (whole q13 n) (List.replicate n (.slice none 0 0)) ∧ q13 < m3.heap.size) := ⟨HO13d2.out.1.keep fun b hl _ => hbl.block b (by first | exact hl | (rw [← hq]; exact hl) | (rw [hq] at hl; exact hl)), by have := HO13d2.out.2; omega⟩
          clear HO13d2
          clear hown hsz hbl hq
          refine ⟨trivial, ?_⟩
          simp only [Act.put, aS, aC, aZ]
          refine oneH (i := 8) (by kernel_rfl) ?_
          refine opMakeY (S := S) (some 19) rfl rfl rfl (.tmp 18) (.tmp 18) 50 38 (.slice none 0 0) 24 rfl und50 inf38 rfl (by decide) n rfl rfl HN.out.2.2 (fun b hb => HS.out b (Nat.le_trans HB3.out.size hb)) ?_
          intro m4 hown hsz hbl
          obtain ⟨q19, hq⟩ : ∃ q, q = m3.heap.size := ⟨_, rfl⟩
          rw [← hq] at hown hsz ⊢
          have HB4 : Hid (Below w.heap.size w m4) := HB3.out.trans (hbl.mono HB3.out.size)
          have HO19d4 : Hid (Own1 S m4 38 (whole q19 n) (List.replicate n (.slice none 0 0)) ∧ q19 < m4.heap.size) := ⟨hown, by omega⟩
          have HD17_19 : Hid (q17 < q19) := (by rw [hq]; exact HO17d3.out.2)
          have HO17d4 : Hid (Own1 S m4 4 (whole q17 n) (List.replicate n (.bool false)) ∧ q17 < m4.heap.size) := ⟨HO17d3.out.1.keep fun b hl _ => hbl.block b (by first | exact hl | (rw [← hq]; exact hl) | (rw [hq] at hl; exact hl)), by have := HO17d3.out.2; omega⟩
          clear HO17d3
          have HD13_19 : Hid (q13 < q19) := (by rw [hq]; exact HO13d3.out.2)
          have HO13d4 : Hid (Own1 S m4 38 (whole q13 n) (List.replicate n (.slice none 0 0)) ∧ q13 < m4.heap.size) := ⟨HO13d3.out.1.keep fun b hl _ => hbl.block b (by first | exact hl | (rw [← hq]; exact hl) | (rw [hq] at hl; exact hl)), by have := HO13d3.out.2; omega⟩
          clear HO13d3
          have HD15_19 : Hid (q15 < q19) := (by rw [hq]; exact HO15d3.out.2)
          have HO15d4 : Hid (Own1 S m4 4 (whole q15 n) (List.replicate n (.bool false)) ∧ q15 < m4.heap.size) := ⟨HO15d3.out.1.keep fun b hl _ => hbl.block b (by first | exact hl | (rw [← hq]; exact hl) | (rw [hq] at hl; exact hl)), by have := HO15d3.out.2; omega⟩
          clear HO15d3
          clear hown hsz hbl hq
          refine ⟨trivial, ?_⟩
          simp only [Act.put, aS, aC, aZ]
          refine takeH (i := 9) (some 20) rfl rfl (by kernel_rfl) (by kernel_rfl) (by kernel_rfl) (fun _ _ _ h => h) (gRun rfl (.agg [.int .i64 (n : Nat), whole q13 n, whole q15 n, whole q17 n, .int .i64 (-1), whole q19 n].toArray) fun _ h => run_bld84 (.tmp 11) (.tmp 13) (.tmp 15) (.tmp 17) (.const (.int .i64 (-1))) (.tmp 19) rfl (n : Nat) (-1) _ _ _ _ _ _ _ _ _ _ _ _ rfl rfl rfl rfl rfl rfl) trivial ?_
          simp only [Act.put, aS, aC, aZ]
          refine oneH (i := 10) (by kernel_rfl) ?_
          refine opValueG (some 21) rfl rfl rfl (ptr m4.heap.size) _ (run_boxA (.tmp 20) rfl [.int .i64 (n : Nat), whole q13 n, whole q15 n, whole q17 n, .int .i64 (-1), whole q19 n] rfl) ?_
          obtain ⟨gy, hgy⟩ : ∃ q, q = m4.heap.size := ⟨_, rfl⟩
          obtain ⟨wf, hwf⟩ : ∃ W, W = m4.alloc (.cells [.int .i64 (n : Nat), whole q13 n, whole q15 n, whole q17 n, .int .i64 (-1), whole q19 n].toArray 84) := ⟨_, rfl⟩
          have HF : Hid (w.heap.size ≤ gy ∧ Below w.heap.size w wf ∧ Ref S wf gy n (ref0 n)) := (by
            have hb : Below m4.heap.size m4 wf := hwf ▸ below_alloc m4 _
            have hw : Below w.heap.size w m4 := HB4.out
            have hk : ∀ b, b < m4.heap.size → S b → wf.heap[b]? = m4.heap[b]? := fun b hl _ => hb.block b hl
            refine ⟨hgy ▸ hw.size, hw.trans (hb.mono hw.size), ref0_of (HS.out gy (hgy ▸ hw.size)) (by rw [hgy, hwf]; exact Row.new _ _ _) (HO13d4.out.1.keep hk) (HO15d4.out.1.keep hk) (HO17d4.out.1.keep hk) (HO19d4.out.1.keep hk) ?_ ?_⟩
            · exact (Nat.ne_of_lt HD17_15.out).symm
            · exact Nat.ne_of_lt HD13_19.out)
          rw [← hgy, ← hwf]
          clear hgy hwf
          refine ⟨trivial, ?_⟩
          simp only [Act.put, aS, aC, aZ]
          refine takeH (i := 11) (some 2) rfl rfl (by kernel_rfl) (by kernel_rfl) (by kernel_rfl) (fun _ _ _ h => h) (gRun rfl (ptr gy) fun _ h => run_asZ (.tmp 21) rfl (ptr gy) rfl) trivial ?_
          simp only [Act.put, aS, aC, aZ]
          refine takeH (i := 12) (some 3) rfl rfl (by kernel_rfl) (by kernel_rfl) (by kernel_rfl) (fun _ _ _ h => h) (gRun rfl (.int .i64 0) fun _ h => run_asZ (.const (.int .i64 0)) rfl (.int .i64 0) rfl) trivial ?_
          simp only [Act.put, aS, aC, aZ]
          refine wpAnyH_done (by kernel_rfl) ?_ _
          go_wp2_with fail
          rw [HPQ.out]
          exact Or.inr ⟨HN.out.2.1, gy, rfl, HF.out.1, HF.out.2.1, by rw [← HN.out.1]; exact HF.out.2.2⟩
        · refine opMakeY (S := S) (some 19) rfl rfl rfl (.tmp 18) (.tmp 18) 50 38 (.slice none 0 0) 24 rfl und50 inf38 rfl (by decide) n rfl rfl HN.out.2.2 (fun b hb => HS.out b (Nat.le_trans HB2.out.size hb)) ?_
          intro m3 hown hsz hbl
          obtain ⟨q19, hq⟩ : ∃ q, q = m2.heap.size := ⟨_, rfl⟩
          rw [← hq] at hown hsz ⊢
          have HB3 : Hid (Below w.heap.size w m3) := HB2.out.trans (hbl.mono HB2.out.size)
          have HO19d3 : Hid (Own1 S m3 38 (whole q19 n) (List.replicate n (.slice none 0 0)) ∧ q19 < m3.heap.size) := ⟨hown, by omega⟩
          have HD17_19 : Hid (q17 < q19) := (by rw [hq]; exact HO17d2.out.2)
          have HO17d3 : Hid (Own1 S m3 4 (whole q17 n) (List.replicate n (.bool false)) ∧ q17 < m3.heap.size) := ⟨HO17d2.out.1.keep fun b hl _ => hbl.block b (by first | exact hl | (rw [← hq]; exact hl) | (rw [hq] at hl; exact hl)), by have := HO17d2.out.2; omega⟩
          clear HO17d2
          have HD13_19 : Hid (q13 < q19) := (by rw [hq]; exact HO13d2.out.2)
          have HO13d3 : Hid (Own1 S m3 38 (whole q13 n) (List.replicate n (.slice none 0 0)) ∧ q13 < m3.heap.size) := ⟨HO13d2.out.1.keep fun b hl _ => hbl.block b (by first | exact hl | (rw [← hq]; exact hl) | (rw [hq] at hl; exact hl)), by have := HO13d2.out.2; omega⟩
          clear HO13d2
          clear hown hsz hbl hq
          refine ⟨trivial, ?_⟩
          simp only [Act.put, aS, aC, aZ]
          refine oneH (i := 4) (by kernel_rfl) ?_
          refine opMakeY (S := S) (some 15) rfl rfl rfl (.tmp 14) (.tmp 14) 82 4 (.bool false) 1 rfl und82 inf4 rfl (by decide) n rfl rfl HN.out.2.2 (fun b hb => HS.out b (Nat.le_trans HB3.out.size hb)) ?_
          intro m4 hown hsz hbl
          obtain ⟨q15, hq⟩ : ∃ q, q = m3.heap.size := ⟨_, rfl⟩
          rw [← hq] at hown hsz ⊢
          have HB4 : Hid (Below w.heap.size w m4) := HB3.out.trans (hbl.mono HB3.out.size)
          have HO15d4 : Hid (Own1 S m4 4 (whole q15 n) (List.replicate n (.bool false)) ∧ q15 < m4.heap.size) := ⟨hown, by omega⟩
          have HD17_15 : Hid (q17 < q15) := (by rw [hq]; exact HO17d3.out.2)
          have HO17d4 : Hid (Own1 S m4 4 (whole q17 n) (List.replicate n (.bool false)) ∧ q17 < m4.heap.size) := ⟨HO17d3.out.1.keep fun b hl _ => hbl.block b (by first | exact hl | (rw [← hq]; exact hl) | (rw [hq] at hl; exact hl)), by have := HO17d3.out.2; omega⟩
          clear HO17d3
          have HD13_15 : Hid (q13 < q15) := (by rw [hq]; exact HO13d3.out.2)
          have HO13d4 : Hid (Own1 S m4 38 (whole q13 n) (List.replicate n (.slice none 0 0)) ∧ q13 < m4.heap.size) := ⟨HO13d3.out.1.keep fun b hl _ => hbl.block b (by first | exact hl | (rw [← hq]; exact hl) | (rw [hq] at hl; exact hl)), by have := HO13d3.out.2; omega⟩
          clear HO13d3
          have HD19_15 : Hid (q19 < q15) := (by rw [hq]; exact HO19d3.out.2)
          have HO19d4 : Hid (Own1 S m4 38 (whole q19 n) (List.replicate n (.slice none 0 0)) ∧ q19 < m4.heap.size) := ⟨HO19d3.out.1.keep fun b hl _ => hbl.block b (by first | exact hl | (rw [← hq]; exact hl) | (rw [hq] at hl; exact hl)), by have := HO19d3.out.2; omega⟩
          clear HO19d3
          clear hown hsz hbl hq
          refine ⟨trivial, ?_⟩
          simp only [Act.put, aS, aC, aZ]
          refine takeH (i := 9) (some 20) rfl rfl (by kernel_rfl) (by kernel_rfl) (by kernel_rfl) (fun _ _ _ h => h) (gRun rfl (.agg [.int .i64 (n : Nat), whole q13 n, whole q15 n, whole q17 n, .int .i64 (-1), whole q19 n].toArray) fun _ h => run_bld84 (.tmp 11) (.tmp 13) (.tmp 15) (.tmp 17) (.const (.int .i64 (-1))) (.tmp 19) rfl (n : Nat) (-1) _ _ _ _ _ _ _ _ _ _ _ _ rfl rfl rfl rfl rfl rfl) trivial ?_
          simp only [Act.put, aS, aC, aZ]
          refine oneH (i := 10) (by kernel_rfl) ?_
          refine opValueG (some 21) rfl rfl rfl (ptr m4.heap.size) _ (run_boxA (.tmp 20) rfl [.int .i64 (n : Nat), whole q13 n, whole q15 n, whole q17 n, .int .i64 (-1), whole q19 n] rfl) ?_
          obtain ⟨gy, hgy⟩ : ∃ q, q = m4.heap.size := ⟨_, rfl⟩
          obtain ⟨wf, hwf⟩ : ∃ W, W = m4.alloc (.cells [.int .i64 (n : Nat), whole q13 n, whole q15 n, whole q17 n, .int .i64 (-1), whole q19 n].toArray 84) := ⟨_, rfl⟩
          have HF : Hid (w.heap.size ≤ gy ∧ Below w.heap.size w wf ∧ Ref S wf gy n (ref0 n)) := (by
            have hb : Below m4.heap.size m4 wf := hwf ▸ below_alloc m4 _
            have hw : Below w.heap.size w m4 := HB4.out
            have hk : ∀ b, b < m4.heap.size → S b → wf.heap[b]? = m4.heap[b]? := fun b hl _ => hb.block b hl
            refine ⟨hgy ▸ hw.size, hw.trans (hb.mono hw.size), ref0_of (HS.out gy (hgy ▸ hw.size)) (by rw [hgy, hwf]; exact Row.new _ _ _) (HO13d4.out.1.keep hk) (HO15d4.out.1.keep hk) (HO17d4.out.1.keep hk) (HO19d4.out.1.keep hk) ?_ ?_⟩
            · exact (Nat.ne_of_lt HD17_15.out).symm
            · exact Nat.ne_of_lt HD13_19.out)
          rw [← hgy, ← hwf]
          clear hgy hwf
          refine ⟨trivial, ?_⟩
          simp only [Act.put, aS, aC, aZ]
          refine takeH (i := 11) (some 2) rfl rfl (by kernel_rfl) (by kernel_rfl) (by kernel_rfl) (fun _ _ _ h => h) (gRun rfl (ptr gy) fun _ h => run_asZ (.tmp 21) rfl (ptr gy) rfl) trivial ?_
          simp only [Act.put, aS, aC, aZ]
          refine takeH (i := 12) (some 3) rfl rfl (by kernel_rfl) (by kernel_rfl) (by kernel_rfl) (fun _ _ _ h => h) (gRun rfl (.int .i64 0) fun _ h => run_asZ (.const (.int .i64 0)) rfl (.int .i64 0) rfl) trivial ?_
          simp only [Act.put, aS, aC, aZ]
          refine wpAnyH_done (by kernel_rfl) ?_ _
          go_wp2_with fail
          rw [HPQ.out]
          exact Or.inr ⟨HN.out.2.1, gy, rfl, HF.out.1, HF.out.2.1, by rw [← HN.out.1]; exact HF.out.2.2⟩
      · refine opMakeY (S := S) (some 15) rfl rfl rfl (.tmp 14) (.tmp 14) 82 4 (.bool false) 1 rfl und82 inf4 rfl (by decide) n rfl rfl HN.out.2.2 (fun b hb => HS.out b (Nat.le_trans HB1.out.size hb)) ?_
        intro m2 hown hsz hbl
        obtain ⟨q15, hq⟩ : ∃ q, q = m1.heap.size := ⟨_, rfl⟩
        rw [← hq] at hown hsz ⊢
        have HB2 : Hid (Below w.heap.size w m2) := HB1.out.trans (hbl.mono HB1.out.size)
        have HO15d2 : Hid (Own1 S m2 4 (whole q15 n) (List.replicate n (.bool false)) ∧ q15 < m2.heap.size) := ⟨hown, by omega⟩
        have HD17_15 : Hid (q17 < q15) := (by rw [hq]; exact HO17d1.out.2)
        have HO17d2 : Hid (Own1 S m2 4 (whole q17 n) (List.replicate n (.bool false)) ∧ q17 < m2.heap.size) := ⟨HO17d1.out.1.keep fun b hl _ => hbl.block b (by first | exact hl | (rw [← hq]; exact hl) | (rw [hq] at hl; exact hl)), by have := HO17d1.out.2; omega⟩
        clear HO17d1
        clear hown hsz hbl hq
        refine ⟨trivial, ?_⟩
        simp only [Act.put, aS, aC, aZ]
        refine twoH (i := 2) (j := 8) (by kernel_rfl) ?_ ?_
        · refine opMakeY (S := S) (some 13) rfl rfl rfl (.tmp 12) (.tmp 12) 50 38 (.slice none 0 0) 24 rfl und50 inf38 rfl (by decide) n rfl rfl HN.out.2.2 (fun b hb => HS.out b (Nat.le_trans HB2.out.size hb)) ?_
          intro m3 hown hsz hbl
          obtain ⟨q13, hq⟩ : ∃ q, q = m2.heap.size := ⟨_, rfl⟩
          rw [← hq] at hown hsz ⊢
          have HB3 : Hid (Below w.heap.size w m3) := HB2.out.trans (hbl.mono HB2.out.size)
          have HO13d3 : Hid (Own1 S m3 38 (whole q13 n) (List.replicate n (.slice none 0 0)) ∧ q13 < m3.heap.size) := ⟨hown, by omega⟩
          have HD17_13 : Hid (q17 < q13) := (by rw [hq]; exact HO17d2.out.2)
          have HO17d3 : Hid (Own1 S m3 4 (whole q17 n) (List.replicate n (.bool false)) ∧ q17 < m3.heap.size) := ⟨HO17d2.out.1.keep fun b hl _ => hbl.block b (by first | exact hl | (rw [← hq]; exact hl) | (rw [hq] at hl; exact hl)), by have := HO17d2.out.2; omega⟩
          clear HO17d2
          have HD15_13 : Hid (q15 < q13) := (by rw [hq]; exact HO15d2.out.2)
          have HO15d3 : Hid (Own1 S m3 4 (whole q15 n) (List.replicate n (.bool false)) ∧ q15 < m3.heap.size) := ⟨HO15d2.out.1.keep fun b hl _ => hbl.block b (by first | exact hl | (rw [← hq]; exact hl) | (rw [hq] at hl; exact hl)), by have := HO15d2.out.2; omega⟩
          clear HO15d2
          clear hown hsz hbl hq
          refine ⟨trivial, ?_⟩
          simp only [Act.put, aS, aC, aZ]
          refine oneH (i := 8) (by kernel_rfl) ?_
          refine opMakeY (S := S) (some 19) rfl rfl rfl (.tmp 18) (.tmp 18) 50 38 (.slice none 0 0) 24 rfl und50 inf38 rfl (by decide) n rfl rfl HN.out.2.2 (fun b hb => HS.out b (Nat.le_trans HB3.out.size hb)) ?_
          intro m4 hown hsz hbl
          obtain ⟨q19, hq⟩ : ∃ q, q = m3.heap.size := ⟨_, rfl⟩
          rw [← hq] at hown hsz ⊢
          have HB4 : Hid (Below w.heap.size w m4) := HB3.out.trans (hbl.mono HB3.out.size)
          have HO19d4 : Hid (Own1 S m4 38 (whole q19 n) (List.replicate n (.slice none 0 0)) ∧ q19 < m4.heap.size) := ⟨hown, by omega⟩
          have HD17_19 : Hid (q17 < q19) := (by rw [hq]; exact HO17d3.out.2)
          have HO17d4 : Hid (Own1 S m4 4 (whole q17 n) (List.replicate n (.bool false)) ∧ q17 < m4.heap.size) := ⟨HO17d3.out.1.keep fun b hl _ => hbl.block b (by first | exact hl | (rw [← hq]; exact hl) | (rw [hq] at hl; exact hl)), by have := HO17d3.out.2; omega⟩
          clear HO17d3
          have HD15_19 : Hid (q15 < q19) := (by rw [hq]; exact HO15d3.out.2)
          have HO15d4 : Hid (Own1 S m4 4 (whole q15 n) (List.replicate n (.bool false)) ∧ q15 < m4.heap.size) := ⟨HO15d3.out.1.keep fun b hl _ => hbl.block b (by first | exact hl | (rw [← hq]; exact hl) | (rw [hq] at hl; exact hl)), by have := HO15d3.out.2; omega⟩
          clear HO15d3
          have HD13_19 : Hid (q13 < q19) := (by rw [hq]; exact HO13d3.out.2)
          have HO13d4 : Hid (Own1 S m4 38 (whole q13 n) (List.replicate n (.slice none 0 0)) ∧ q13 < m4.heap.size) := ⟨HO13d3.out.1.keep fun b hl _ => hbl.block b (by first | exact hl | (rw [← hq]; exact hl) | (rw [hq] at hl; exact hl)), by have := HO13d3.out.2; omega⟩
          clear HO13d3
          clear hown hsz hbl hq
          refine ⟨trivial, ?_⟩
          simp only [Act.put, aS, aC, aZ]
          refine takeH (i := 9) (some 20) rfl rfl (by kernel_rfl) (by kernel_rfl) (by kernel_rfl) (fun _ _ _ h => h) (gRun rfl (.agg [.int .i64 (n : Nat), whole q13 n, whole q15 n, whole q17 n, .int .i64 (-1), whole q19 n].toArray) fun _ h => run_bld84 (.tmp 11) (.tmp 13) (.tmp 15) (.tmp 17) (.const (.int .i64 (-1))) (.tmp 19) rfl (n : Nat) (-1) _ _ _ _ _ _ _ _ _ _ _ _ rfl rfl rfl rfl rfl rfl) trivial ?_
          simp only [Act.put, aS, aC, aZ]
          refine oneH (i := 10) (by kernel_rfl) ?_
          refine opValueG (some 21) rfl rfl rfl (ptr m4.heap.size) _ (run_boxA (.tmp 20) rfl [.int .i64 (n : Nat), whole q13 n, whole q15 n, whole q17 n, .int .i64 (-1), whole q19 n] rfl) ?_
          obtain ⟨gy, hgy⟩ : ∃ q, q = m4.heap.size := ⟨_, rfl⟩
          obtain ⟨wf, hwf⟩ : ∃ W, W = m4.alloc (.cells [.int .i64 (n : Nat), whole q13 n, whole q15 n, whole q17 n, .int .i64 (-1), whole q19 n].toArray 84) := ⟨_, rfl⟩
          have HF : Hid (w.heap.size ≤ gy ∧ Below w.heap.size w wf ∧ Ref S wf gy n (ref0 n)) := (by
            have hb : Below m4.heap.size m4 wf := hwf ▸ below_alloc m4 _
            have hw : Below w.heap.size w m4 := HB4.out
            have hk : ∀ b, b < m4.heap.size → S b → wf.heap[b]? = m4.heap[b]? := fun b hl _ => hb.block b hl
            refine ⟨hgy ▸ hw.size, hw.trans (hb.mono hw.size), ref0_of (HS.out gy (hgy ▸ hw.size)) (by rw [hgy, hwf]; exact Row.new _ _ _) (HO13d4.out.1.keep hk) (HO15d4.out.1.keep hk) (HO17d4.out.1.keep hk) (HO19d4.out.1.keep hk) ?_ ?_⟩
            · exact (Nat.ne_of_lt HD17_15.out).symm
            · exact Nat.ne_of_lt HD13_19.out)
          rw [← hgy, ← hwf]
          clear hgy hwf
          refine ⟨trivial, ?_⟩
          simp only [Act.put, aS, aC, aZ]
          refine takeH (i := 11) (some 2) rfl rfl (by kernel_rfl) (by kernel_rfl) (by kernel_rfl) (fun _ _ _ h => h) (gRun rfl (ptr gy) fun _ h => run_asZ (.tmp 21) rfl (ptr gy) rfl) trivial ?_
          simp only [Act.put, aS, aC, aZ]
          refine takeH (i := 12) (some 3) rfl rfl (by kernel_rfl) (by kernel_rfl) (by kernel_rfl) (fun _ _ _ h => h) (gRun rfl (.int .i64 0) fun _ h => run_asZ (.const (.int .i64 0)) rfl (.int .i64 0) rfl) trivial ?_
          simp only [Act.put, aS, aC, aZ]
          refine wpAnyH_done (by kernel_rfl) ?_ _
          go_wp2_with fail
          rw [HPQ.out]
          exact Or.inr ⟨HN.out.2.1, gy, rfl, HF.out.1, HF.out.2.1, by rw [← HN.out.1]; exact HF.out.2.2⟩
        · refine opMakeY (S := S) (some 19) rfl rfl rfl (.tmp 18) (.tmp 18) 50 38 (.slice none 0 0) 24 rfl und50 inf38 rfl (by decide) n rfl rfl HN.out.2.2 (fun b hb => HS.out b (Nat.le_trans HB2.out.size hb)) ?_
          intro m3 hown hsz hbl
          obtain ⟨q19, hq⟩ : ∃ q, q = m2.heap.size := ⟨_, rfl⟩
          rw [← hq] at hown hsz ⊢
          have HB3 : Hid (Below w.heap.size w m3) := HB2.out.trans (hbl.mono HB2.out.size)
          have HO19d3 : Hid (Own1 S m3 38 (whole q19 n) (List.replicate n (.slice none 0 0)) ∧ q19 < m3.heap.size) := ⟨hown, by omega⟩
          have HD17_19 : Hid (q17 < q19) := (by rw [hq]; exact HO17d2.out.2)
          have HO17d3 : Hid (Own1 S m3 4 (whole q17 n) (List.replicate n (.bool false)) ∧ q17 < m3.heap.size) := ⟨HO17d2.out.1.keep fun b hl _ => hbl.block b (by first | exact hl | (rw [← hq]; exact hl) | (rw [hq] at hl; exact hl)), by have := HO17d2.out.2; omega⟩
          clear HO17d2
          have HD15_19 : Hid (q15 < q19) := (by rw [hq]; exact HO15d2.out.2)
          have HO15d3 : Hid (Own1 S m3 4 (whole q15 n) (List.replicate n (.bool false)) ∧ q15 < m3.heap.size) := ⟨HO15d2.out.1.keep fun b hl _ => hbl.block b (by first | exact hl | (rw [← hq]; exact hl) | (rw [hq] at hl; exact hl)), by have := HO15d2.out.2; omega⟩
          clear HO15d2
          clear hown hsz hbl hq
          refine ⟨trivial, ?_⟩
          simp only [Act.put, aS, aC, aZ]
          refine oneH (i := 2) (by kernel_rfl) ?_
          refine opMakeY (S := S) (some 13) rfl rfl rfl (.tmp 12) (.tmp 12) 50 38 (.slice none 0 0) 24 rfl und50 inf38 rfl (by decide) n rfl rfl HN.out.2.2 (fun b hb => HS.out b (Nat.le_trans HB3.out.size hb)) ?_
          intro m4 hown hsz hbl
          obtain ⟨q13, hq⟩ : ∃ q, q = m3.heap.size := ⟨_, rfl⟩
          rw [← hq] at hown hsz ⊢
          have HB4 : Hid (Below w.heap.size w m4) := HB3.out.trans (hbl.mono HB3.out.size)
          have HO13d4 : Hid (Own1 S m4 38 (whole q13 n) (List.replicate n (.slice none 0 0)) ∧ q13 < m4.heap.size) := ⟨hown, by omega⟩
          have HD17_13 : Hid (q17 < q13) := (by rw [hq]; exact HO17d3.out.2)
          have HO17d4 : Hid (Own1 S m4 4 (whole q17 n) (List.replicate n (.bool false)) ∧ q17 < m4.heap.size) := ⟨HO17d3.out.1.keep fun b hl _ => hbl.block b (by first | exact hl | (rw [← hq]; exact hl) | (rw [hq] at hl; exact hl)), by have := HO17d3.out.2; omega⟩
          clear HO17d3
          have HD15_13 : Hid (q15 < q13) := (by rw [hq]; exact HO15d3.out.2)
          have HO15d4 : Hid (Own1 S m4 4 (whole q15 n) (List.replicate n (.bool false)) ∧ q15 < m4.heap.size) := ⟨HO15d3.out.1.keep fun b hl _ => hbl.block b (by first | exact hl | (rw [← hq]; exact hl) | (rw [hq] at hl; exact hl)), by have := HO15d3.out.2; omega⟩
          clear HO15d3
          have HD19_13 : Hid (q19 < q13) := (by rw [hq]; exact HO19d3.out.2)
          have HO19d4 : Hid (Own1 S m4 38 (whole q19 n) (List.replicate n (.slice none 0 0)) ∧ q19 < m4.heap.size) := ⟨HO19d3.out.1.keep fun b hl _ => hbl.block b (by first | exact hl | (rw [← hq]; exact hl) | (rw [hq] at hl; exact hl)), by have := HO19d3.out.2; omega⟩
          clear HO19d3
          clear hown hsz hbl hq
          refine ⟨trivial, ?_⟩
          simp only [Act.put, aS, aC, aZ]
          refine takeH (i := 9) (some 20) rfl rfl (by kernel_rfl) (by kernel_rfl) (by kernel_rfl) (fun _ _ _ h => h) (gRun rfl (.agg [.int .i64 (n : Nat), whole q13 n, whole q15 n, whole q17 n, .int .i64 (-1), whole q19 n].toArray) fun _ h => run_bld84 (.tmp 11) (.tmp 13) (.tmp 15) (.tmp 17) (.const (.int .i64 (-1))) (.tmp 19) rfl (n : Nat) (-1) _ _ _ _ _ _ _ _ _ _ _ _ rfl rfl rfl rfl rfl rfl) trivial ?_
          simp only [Act.put, aS, aC, aZ]
          refine oneH (i := 10) (by kernel_rfl) ?_
          refine opValueG (some 21) rfl rfl rfl (ptr m4.heap.size) _ (run_boxA (.tmp 20) rfl [.int .i64 (n : Nat), whole q13 n, whole q15 n, whole q17 n, .int .i64 (-1), whole q19 n] rfl) ?_
          obtain ⟨gy, hgy⟩ : ∃ q, q = m4.heap.size := ⟨_, rfl⟩
          obtain ⟨wf, hwf⟩ : ∃ W, W = m4.alloc (.cells [.int .i64 (n : Nat), whole q13 n, whole q15 n, whole q17 n, .int .i64 (-1), whole q19 n].toArray 84) := ⟨_, rfl⟩
          have HF : Hid (w.heap.size ≤ gy ∧ Below w.heap.size w wf ∧ Ref S wf gy n (ref0 n)) := (by
            have hb : Below m4.heap.size m4 wf := hwf ▸ below_alloc m4 _
            have hw : Below w.heap.size w m4 := HB4.out
            have hk : ∀ b, b < m4.heap.size → S b → wf.heap[b]? = m4.heap[b]? := fun b hl _ => hb.block b hl
            refine ⟨hgy ▸ hw.size, hw.trans (hb.mono hw.size), ref0_of (HS.out gy (hgy ▸ hw.size)) (by rw [hgy, hwf]; exact Row.new _ _ _) (HO13d4.out.1.keep hk) (HO15d4.out.1.keep hk) (HO17d4.out.1.keep hk) (HO19d4.out.1.keep hk) ?_ ?_⟩
            · exact (Nat.ne_of_lt HD17_15.out).symm
            · exact (Nat.ne_of_lt HD19_13.out).symm)
          rw [← hgy, ← hwf]
          clear hgy hwf
          refine ⟨trivial, ?_⟩
          simp only [Act.put, aS, aC, aZ]
          refine takeH (i := 11) (some 2) rfl rfl (by kernel_rfl) (by kernel_rfl) (by kernel_rfl) (fun _ _ _ h => h) (gRun rfl (ptr gy) fun _ h => run_asZ (.tmp 21) rfl (ptr gy) rfl) trivial ?_
          simp only [Act.put, aS, aC, aZ]
          refine takeH (i := 12) (some 3) rfl rfl (by kernel_rfl) (by kernel_rfl) (by kernel_rfl) (fun _ _ _ h => h) (gRun rfl (.int .i64 0) fun _ h => run_asZ (.const (.int .i64 0)) rfl (.int .i64 0) rfl) trivial ?_
          simp only [Act.put, aS, aC, aZ]
          refine wpAnyH_done (by kernel_rfl) ?_ _
          go_wp2_with fail
          rw [HPQ.out]
          exact Or.inr ⟨HN.out.2.1, gy, rfl, HF.out.1, HF.out.2.1, by rw [← HN.out.1]; exact HF.out.2.2⟩
      · refine opMakeY (S := S) (some 19) rfl rfl rfl (.tmp 18) (.tmp 18) 50 38 (.slice none 0 0) 24 rfl und50 inf38 rfl (by decide) n rfl rfl HN.out.2.2 (fun b hb => HS.out b (Nat.le_trans HB1.out.size hb)) ?_
        intro m2 hown hsz hbl
        obtain ⟨q19, hq⟩ : ∃ q, q = m1.heap.size := ⟨_, rfl⟩
        rw [← hq] at hown hsz ⊢
        have HB2 : Hid (Below w.heap.size w m2) := HB1.out.trans (hbl.mono HB1.out.size)
        have HO19d2 : Hid (Own1 S m2 38 (whole q19 n) (List.replicate n (.slice none 0 0)) ∧ q19 < m2.heap.size) := ⟨hown, by omega⟩
        have HD17_19 : Hid (q17 < q19) := (by rw [hq]; exact HO17d1.out.2)
        have HO17d2 : Hid (Own1 S m2 4 (whole q17 n) (List.replicate n (.bool false)) ∧ q17 < m2.heap.size) := ⟨HO17d1.out.1.keep fun b hl _ => hbl.block b (by first | exact hl | (rw [← hq]; exact hl) | (rw [hq] at hl; exact hl)), by have := HO17d1.out.2; omega⟩
        clear HO17d1
        clear hown hsz hbl hq
        refine ⟨trivial, ?_⟩
        simp only [Act.put, aS, aC, aZ]
        refine twoH (i := 2) (j := 4) (by kernel_rfl) ?_ ?_
        · refine opMakeY (S := S) (some 13) rfl rfl rfl (.tmp 12) (.tmp 12) 50 38 (.slice none 0 0) 24 rfl und50 inf38 rfl (by decide) n rfl rfl HN.out.2.2 (fun b hb => HS.out b (Nat.le_trans HB2.out.size hb)) ?_
          intro m3 hown hsz hbl
          obtain ⟨q13, hq⟩ : ∃ q, q = m2.heap.size := ⟨_, rfl⟩
          rw [← hq] at hown hsz ⊢
          have HB3 : Hid (Below w.heap.size w m3) := HB2.out.trans (hbl.mono HB2.out.size)
          have HO13d3 : Hid (Own1 S m3 38 (whole q13 n) (List.replicate n (.slice none 0 0)) ∧ q13 < m3.heap.size) := ⟨hown, by omega⟩
          have HD17_13 : Hid (q17 < q13) := (by rw [hq]; exact HO17d2.out.2)
          have HO17d3 : Hid (Own1 S m3 4 (whole q17 n) (List.replicate n (.bool false)) ∧ q17 < m3.heap.size) := ⟨HO17d2.out.1.keep fun b hl _ => hbl.block b (by first | exact hl | (rw [← hq]; exact hl) | (rw [hq] at hl; exact hl)), by have := HO17d2.out.2; omega⟩
          clear HO17d2
          have HD19_13 : Hid (q19 < q13) := (by rw [hq]; exact HO19d2.out.2)
          have HO19d3 : Hid (Own1 S m3 38 (whole q19 n) (List.replicate n (.slice none 0 0)) ∧ q19 < m3.heap.size) := ⟨HO19d2.out.1.keep fun b hl _ => hbl.block b (by first | exact hl | (rw [← hq]; exact hl) | (rw [hq] at hl; exact hl)), by have := HO19d2.out.2; omega⟩
          clear HO19d2
          clear hown hsz hbl hq
          refine ⟨trivial, ?_⟩
          simp only [Act.put, aS, aC, aZ]
          refine oneH (i := 4) (by kernel_rfl) ?_
          refine opMakeY (S := S) (some 15) rfl rfl rfl (.tmp 14) (.tmp 14) 82 4 (.bool false) 1 rfl und82 inf4 rfl (by decide) n rfl rfl HN.out.2.2 (fun b hb => HS.out b (Nat.le_trans HB3.out.size hb)) ?_
          intro m4 hown hsz hbl
          obtain ⟨q15, hq⟩ : ∃ q, q = m3.heap.size := ⟨_, rfl⟩
          rw [← hq] at hown hsz ⊢
          have HB4 : Hid (Below w.heap.size w m4) := HB3.out.trans (hbl.mono HB3.out.size)
          have HO15d4 : Hid (Own1 S m4 4 (whole q15 n) (List.replicate n (.bool false)) ∧ q15 < m4.heap.size) := ⟨hown, by omega⟩
          have HD17_15 : Hid (q17 < q15) := (by rw [hq]; exact HO17d3.out.2)
          have HO17d4 : Hid (Own1 S m4 4 (whole q17 n) (List.replicate n (.bool false)) ∧ q17 < m4.heap.size) := ⟨HO17d3.out.1.keep fun b hl _ => hbl.block b (by first | exact hl | (rw [← hq]; exact hl) | (rw [hq] at hl; exact hl)), by have := HO17d3.out.2; omega⟩
          clear HO17d3
          have HD19_15 : Hid (q19 < q15) := (by rw [hq]; exact HO19d3.out.2)
          have HO19d4 : Hid (Own1 S m4 38 (whole q19 n) (List.replicate n (.slice none 0 0)) ∧ q19 < m4.heap.size) := ⟨HO19d3.out.1.keep fun b hl _ => hbl.block b (by first | exact hl | (rw [← hq]; exact hl) | (rw [hq] at hl; exact hl)), by have := HO19d3.out.2; omega⟩
          clear HO19d3
          have HD13_15 : Hid (q13 < q15) := (by rw [hq]; exact HO13d3.out.2)
          have HO13d4 : Hid (Own1 S m4 38 (whole q13 n) (List.replicate n (.slice none 0 0)) ∧ q13 < m4.heap.size) := ⟨HO13d3.out.1.keep fun b hl _ => hbl.block b (by first | exact hl | (rw [← hq]; exact hl) | (rw [hq] at hl; exact hl)), by have := HO13d3.out.2; omega⟩
          clear HO13d3
          clear hown hsz hbl hq
          refine ⟨trivial, ?_⟩
          simp only [Act.put, aS, aC, aZ]
          refine takeH (i := 9) (some 20) rfl rfl (by kernel_rfl) (by kernel_rfl) (by kernel_rfl) (fun _ _ _ h => h) (gRun rfl (.agg [.int .i64 (n : Nat), whole q13 n, whole q15 n, whole q17 n, .int .i64 (-1), whole q19 n].toArray) fun _ h => run_bld84 (.tmp 11) (.tmp 13) (.tmp 15) (.tmp 17) (.const (.int .i64 (-1))) (.tmp 19) rfl (n : Nat) (-1) _ _ _ _ _ _ _ _ _ _ _ _ rfl rfl rfl rfl rfl rfl) trivial ?_
          simp only [Act.put, aS, aC, aZ]
          refine oneH (i := 10) (by kernel_rfl) ?_
          refine opValueG (some 21) rfl rfl rfl (ptr m4.heap.size) _ (run_boxA (.tmp 20) rfl [.int .i64 (n : Nat), whole q13 n, whole q15 n, whole q17 n, .int .i64 (-1), whole q19 n] rfl) ?_
          obtain ⟨gy, hgy⟩ : ∃ q, q = m4.heap.size := ⟨_, rfl⟩
          obtain ⟨wf, hwf⟩ : ∃ W, W = m4.alloc (.cells [.int .i64 (n : Nat), whole q13 n, whole q15 n, whole q17 n, .int .i64 (-1), whole q19 n].toArray 84) := ⟨_, rfl⟩
          have HF : Hid (w.heap.size ≤ gy ∧ Below w.heap.size w wf ∧ Ref S wf gy n (ref0 n)) := (by
            have hb : Below m4.heap.size m4 wf := hwf ▸ below_alloc m4 _
            have hw : Below w.heap.size w m4 := HB4.out
            have hk : ∀ b, b < m4.heap.size → S b → wf.heap[b]? = m4.heap[b]? := fun b hl _ => hb.block b hl
            refine ⟨hgy ▸ hw.size, hw.trans (hb.mono hw.size), ref0_of (HS.out gy (hgy ▸ hw.size)) (by rw [hgy, hwf]; exact Row.new _ _ _) (HO13d4.out.1.keep hk) (HO15d4.out.1.keep hk) (HO17d4.out.1.keep hk) (HO19d4.out.1.keep hk) ?_ ?_⟩
            · exact (Nat.ne_of_lt HD17_15.out).symm
            · exact (Nat.ne_of_lt HD19_13.out).symm)
          rw [← hgy, ← hwf]
          clear hgy hwf
          refine ⟨trivial, ?_⟩
          simp only [Act.put, aS, aC, aZ]
          refine takeH (i := 11) (some 2) rfl rfl (by kernel_rfl) (by kernel_rfl) (by kernel_rfl) (fun _ _ _ h => h) (gRun rfl (ptr gy) fun _ h => run_asZ (.tmp 21) rfl (ptr gy) rfl) trivial ?_
          simp only [Act.put, aS, aC, aZ]
          refine takeH (i := 12) (some 3) rfl rfl (by kernel_rfl) (by kernel_rfl) (by kernel_rfl) (fun _ _ _ h => h) (gRun rfl (.int .i64 0) fun _ h => run_asZ (.const (.int .i64 0)) rfl (.int .i64 0) rfl) trivial ?_
          simp only [Act.put, aS, aC, aZ]
          refine wpAnyH_done (by kernel_rfl) ?_ _
          go_wp2_with fail
          rw [HPQ.out]
          exact Or.inr ⟨HN.out.2.1, gy, rfl, HF.out.1, HF.out.2.1, by rw [← HN.out.1]; exact HF.out.2.2⟩
        · refine opMakeY (S := S) (some 15) rfl rfl rfl (.tmp 14) (.tmp 14) 82 4 (.bool false) 1 rfl und82 inf4 rfl (by decide) n rfl rfl HN.out.2.2 (fun b hb => HS.out b (Nat.le_trans HB2.out.size hb)) ?_
          intro m3 hown hsz hbl
          obtain ⟨q15, hq⟩ : ∃ q, q = m2.heap.size := ⟨_, rfl⟩
          rw [← hq] at hown hsz ⊢
          have HB3 : Hid (Below w.heap.size w m3) := HB2.out.trans (hbl.mono HB2.out.size)
          have HO15d3 : Hid (Own1 S m3 4 (whole q15 n) (List.replicate n (.bool false)) ∧ q15 < m3.heap.size) := ⟨hown, by omega⟩
          have HD17_15 : Hid (q17 < q15) := (by rw [hq]; exact HO17d2.out.2)
          have HO17d3 : Hid (Own1 S m3 4 (whole q17 n) (List.replicate n (.bool false)) ∧ q17 < m3.heap.size) := ⟨HO17d2.out.1.keep fun b hl _ => hbl.block b (by first | exact hl | (rw [← hq]; exact hl) | (rw [hq] at hl; exact hl)), by have := HO17d2.out.2; omega⟩
          clear HO17d2
          have HD19_15 : Hid (q19 < q15) := (by rw [hq]; exact HO19d2.out.2)
          have HO19d3 : Hid (Own1 S m3 38 (whole q19 n) (List.replicate n (.slice none 0 0)) ∧ q19 < m3.heap.size) := ⟨HO19d2.out.1.keep fun b hl _ => hbl.block b (by first | exact hl | (rw [← hq]; exact hl) | (rw [hq] at hl; exact hl)), by have := HO19d2.out.2; omega⟩
          clear HO19d2
          clear hown hsz hbl hq
          refine ⟨trivial, ?_⟩
          simp only [Act.put, aS, aC, aZ]
          refine oneH (i := 2) (by kernel_rfl) ?_
          refine opMakeY (S := S) (some 13) rfl rfl rfl (.tmp 12) (.tmp 12) 50 38 (.slice none 0 0) 24 rfl und50 inf38 rfl (by decide) n rfl rfl HN.out.2.2 (fun b hb => HS.out b (Nat.le_trans HB3.out.size hb)) ?_
          intro m4 hown hsz hbl
          obtain ⟨q13, hq⟩ : ∃ q, q = m3.heap.size := ⟨_, rfl⟩
          rw [← hq] at hown hsz ⊢
          have HB4 : Hid (Below w.heap.size w m4) := HB3.out.trans (hbl.mono HB3.out.size)
          have HO13d4 : Hid (Own1 S m4 38 (whole q13 n) (List.replicate n (.slice none 0 0)) ∧ q13 < m4.heap.size) := ⟨hown, by omega⟩
          have HD17_13 : Hid (q17 < q13) := (by rw [hq]; exact HO17d3.out.2)
          have HO17d4 : Hid (Own1 S m4 4 (whole q17 n) (List.replicate n (.bool false)) ∧ q17 < m4.heap.size) := ⟨HO17d3.out.1.keep fun b hl _ => hbl.block b (by first | exact hl | (rw [← hq]; exact hl) | (rw [hq] at hl; exact hl)), by have := HO17d3.out.2; omega⟩
          clear HO17d3
          have HD19_13 : Hid (q19 < q13) := (by rw [hq]; exact HO19d3.out.2)
          have HO19d4 : Hid (Own1 S m4 38 (whole q19 n) (List.replicate n (.slice none 0 0)) ∧ q19 < m4.heap.size) := ⟨HO19d3.out.1.keep fun b hl _ => hbl.block b (by first | exact hl | (rw [← hq]; exact hl) | (rw [hq] at hl; exact hl)), by have := HO19d3.out.2; omega⟩
          clear HO19d3
          have HD15_13 : Hid (q15 < q13) := (by rw [hq]; exact HO15d3.out.2)
          have HO15d4 : Hid (Own1 S m4 4 (whole q15 n) (List.replicate n (.bool false)) ∧ q15 < m4.heap.size) := ⟨HO15d3.out.1.keep fun b hl _ => hbl.block b (by first | exact hl | (rw [← hq]; exact hl) | (rw [hq] at hl; exact hl)), by have := HO15d3.out.2; omega⟩
          clear HO15d3
          clear hown hsz hbl hq
          refine ⟨trivial, ?_⟩
          simp only [Act.put, aS, aC, aZ]
          refine takeH (i := 9) (some 20) rfl rfl (by kernel_rfl) (by kernel_rfl) (by kernel_rfl) (fun _ _ _ h => h) (gRun rfl (.agg [.int .i64 (n : Nat), whole q13 n, whole q15 n, whole q17 n, .int .i64 (-1), whole q19 n].toArray) fun _ h => run_bld84 (.tmp 11) (.tmp 13) (.tmp 15) (.tmp 17) (.const (.int .i64 (-1))) (.tmp 19) rfl (n : Nat) (-1) _ _ _ _ _ _ _ _ _ _ _ _ rfl rfl rfl rfl rfl rfl) trivial ?_
          simp only [Act.put, aS, aC, aZ]
          refine oneH (i := 10) (by kernel_rfl) ?_
          refine opValueG (some 21) rfl rfl rfl (ptr m4.heap.size) _ (run_boxA (.tmp 20) rfl [.int .i64 (n : Nat), whole q13 n, whole q15 n, whole q17 n, .int .i64 (-1), whole q19 n] rfl) ?_
          obtain ⟨gy, hgy⟩ : ∃ q, q = m4.heap.size := ⟨_, rfl⟩
          obtain ⟨wf, hwf⟩ : ∃ W, W = m4.alloc (.cells [.int .i64 (n : Nat), whole q13 n, whole q15 n, whole q17 n, .int .i64 (-1), whole q19 n].toArray 84) := ⟨_, rfl⟩
          have HF : Hid (w.heap.size ≤ gy ∧ Below w.heap.size w wf ∧ Ref S wf gy n (ref0 n)) := (by
            have hb : Below m4.heap.size m4 wf := hwf ▸ below_alloc m4 _
            have hw : Below w.heap.size w m4 := HB4.out
            have hk : ∀ b, b < m4.heap.size → S b → wf.heap[b]? = m4.heap[b]? := fun b hl _ => hb.block b hl
            refine ⟨hgy ▸ hw.size, hw.trans (hb.mono hw.size), ref0_of (HS.out gy (hgy ▸ hw.size)) (by rw [hgy, hwf]; exact Row.new _ _ _) (HO13d4.out.1.keep hk) (HO15d4.out.1.keep hk) (HO17d4.out.1.keep hk) (HO19d4.out.1.keep hk) ?_ ?_⟩
            · exact (Nat.ne_of_lt HD17_15.out).symm
            · exact (Nat.ne_of_lt HD19_13.out).symm)
          rw [← hgy, ← hwf]
          clear hgy hwf
          refine ⟨trivial, ?_⟩
          simp only [Act.put, aS, aC, aZ]
          refine takeH (i := 11) (some 2) rfl rfl (by kernel_rfl) (by kernel_rfl) (by kernel_rfl) (fun _ _ _ h => h) (gRun rfl (ptr gy) fun _ h => run_asZ (.tmp 21) rfl (ptr gy) rfl) trivial ?_
          simp only [Act.put, aS, aC, aZ]
          refine takeH (i := 12) (some 3) rfl rfl (by kernel_rfl) (by kernel_rfl) (by kernel_rfl) (fun _ _ _ h => h) (gRun rfl (.int .i64 0) fun _ h => run_asZ (.const (.int .i64 0)) rfl (.int .i64 0) rfl) trivial ?_
          simp only [Act.put, aS, aC, aZ]
          refine wpAnyH_done (by kernel_rfl) ?_ _
          go_wp2_with fail
          rw [HPQ.out]
          exact Or.inr ⟨HN.out.2.1, gy, rfl, HF.out.1, HF.out.2.1, by rw [← HN.out.1]; exact HF.out.2.2⟩
    · refine opMakeY (S := S) (some 19) rfl rfl rfl (.tmp 18) (.tmp 18) 50 38 (.slice none 0 0) 24 rfl und50 inf38 rfl (by decide) n rfl rfl HN.out.2.2 (fun b hb => HS.out b (Nat.le_trans HB0.out.size hb)) ?_
      intro m1 hown hsz hbl
      obtain ⟨q19, hq⟩ : ∃ q, q = Y.heap.size := ⟨_, rfl⟩
      rw [← hq] at hown hsz ⊢
      have HB1 : Hid (Below w.heap.size w m1) := HB0.out.trans (hbl.mono HB0.out.size)
      have HO19d1 : Hid (Own1 S m1 38 (whole q19 n) (List.replicate n (.slice none 0 0)) ∧ q19 < m1.heap.size) := ⟨hown, by omega⟩
      clear hown hsz hbl hq
      refine ⟨trivial, ?_⟩
      simp only [Act.put, aS, aC, aZ]
      refine threeH (i := 2) (j := 4) (k := 6) (by kernel_rfl) ?_ ?_ ?_
      · refine opMakeY (S := S) (some 13) rfl rfl rfl (.tmp 12) (.tmp 12) 50 38 (.slice none 0 0) 24 rfl und50 inf38 rfl (by decide) n rfl rfl HN.out.2.2 (fun b hb => HS.out b (Nat.le_trans HB1.out.size hb)) ?_
        intro m2 hown hsz hbl
        obtain ⟨q13, hq⟩ : ∃ q, q = m1.heap.size := ⟨_, rfl⟩
        rw [← hq] at hown hsz ⊢
        have HB2 : Hid (Below w.heap.size w m2) := HB1.out.trans (hbl.mono HB1.out.size)
        have HO13d2 : Hid (Own1 S m2 38 (whole q13 n) (List.replicate n (.slice none 0 0)) ∧ q13 < m2.heap.size) := ⟨hown, by omega⟩
        have HD19_13 : Hid (q19 < q13) := (by rw [hq]; exact HO19d1.out.2)
        have HO19d2 : Hid (Own1 S m2 38 (whole q19 n) (List.replicate n (.slice none 0 0)) ∧ q19 < m2.heap.size) := ⟨HO19d1.out.1.keep fun b hl _ => hbl.block b (by first | exact hl | (rw [← hq]; exact hl) | (rw [hq] at hl; exact hl)), by have := HO19d1.out.2; omega⟩
        clear HO19d1
        clear hown hsz hbl hq
        refine ⟨trivial, ?_⟩
        simp only [Act.put, aS, aC, aZ]
        refine twoH (i := 4) (j := 6) (by kernel_rfl) ?_ ?_
        · refine opMakeY (S := S) (some 15) rfl rfl rfl (.tmp 14) (.tmp 14) 82 4 (.bool false) 1 rfl und82 inf4 rfl (by decide) n rfl rfl HN.out.2.2 (fun b hb => HS.out b (Nat.le_trans HB2.out.size hb)) ?_
          intro m3 hown hsz hbl
          obtain ⟨q15, hq⟩ : ∃ q, q = m2.heap.size := ⟨_, rfl⟩
          rw [← hq] at hown hsz ⊢
          have HB3 : Hid (Below w.heap.size w m3) := HB2.out.trans (hbl.mono HB2.out.size)
          have HO15d3 : Hid (Own1 S m3 4 (whole q15 n) (List.replicate n (.bool false)) ∧ q15 < m3.heap.size) := ⟨hown, by omega⟩
          have HD19_15 : Hid (q19 < q15) := (by rw [hq]; exact HO19d2.out.2)
          have HO19d3 : Hid (Own1 S m3 38 (whole q19 n) (List.replicate n (.slice none 0 0)) ∧ q19 < m3.heap.size) := ⟨HO19d2.out.1.keep fun b hl _ => hbl.block b (by first | exact hl | (rw [← hq]; exact hl) | (rw [hq] at hl; exact hl)), by have := HO19d2.out.2; omega⟩
          clear HO19d2
          have HD13_15 : Hid (q13 < q15) := (by rw [hq]; exact HO13d2.out.2)
          have HO13d3 : Hid (Own1 S m3 38 (whole q13 n) (List.replicate n (.slice none 0 0)) ∧ q13 < m3.heap.size) := ⟨HO13d2.out.1.keep fun b hl _ => hbl.block b (by first | exact hl | (rw [← hq]; exact hl) | (rw [hq] at hl; exact hl)), by have := HO13d2.out.2; omega⟩
          clear HO13d2
          clear hown hsz hbl hq
          refine ⟨trivial, ?_⟩
          simp only [Act.put, aS, aC, aZ]
          refine oneH (i := 6) (by kernel_rfl) ?_
          refine opMakeY (S := S) (some 17) rfl rfl rfl (.tmp 16) (.tmp 16) 82 4 (.bool false) 1 rfl und82 inf4 rfl (by decide) n rfl rfl HN.out.2.2 (fun b hb => HS.out b (Nat.le_trans HB3.out.size hb)) ?_
          intro m4 hown hsz hbl
          obtain ⟨q17, hq⟩ : ∃ q, q = m3.heap.size := ⟨_, rfl⟩
          rw [← hq] at hown hsz ⊢
          have HB4 : Hid (Below w.heap.size w m4) := HB3.out.trans (hbl.mono HB3.out.size)
          have HO17d4 : Hid (Own1 S m4 4 (whole q17 n) (List.replicate n (.bool false)) ∧ q17 < m4.heap.size) := ⟨hown, by omega⟩
          have HD19_17 : Hid (q19 < q17) := (by rw [hq]; exact HO19d3.out.2)
          have HO19d4 : Hid (Own1 S m4 38 (whole q19 n) (List.replicate n (.slice none 0 0)) ∧ q19 < m4.heap.size) := ⟨HO19d3.out.1.keep fun b hl _ => hbl.block b (by first | exact hl | (rw [← hq]; exact hl) | (rw [hq] at hl; exact hl)), by have := HO19d3.out.2; omega⟩
          clear HO19d3
          have HD13_17 : Hid (q13 < q17) := (by rw [hq]; exact HO13d3.out.2)
          have HO13d4 : Hid (Own1 S m4 38 (whole q13 n) (List.replicate n (.slice none 0 0)) ∧ q13 < m4.heap.size) := ⟨HO13d3.out.1.keep fun b hl _ => hbl.block b (by first | exact hl | (rw [← hq]; exact hl) | (rw [hq] at hl; exact hl)), by have := HO13d3.out.2; omega⟩
          clear HO13d3
          have HD15_17 : Hid (q15 < q17) := (by rw [hq]; exact HO15d3.out.2)
          have HO15d4 : Hid (Own1 S m4 4 (whole q15 n) (List.replicate n (.bool false)) ∧ q15 < m4.heap.size) := ⟨HO15d3.out.1.keep fun b hl _ => hbl.block b (by first | exact hl | (rw [← hq]; exact hl) | (rw [hq] at hl; exact hl)), by have := HO15d3.out.2; omega⟩
          clear HO15d3
          clear hown hsz hbl hq
          refine ⟨trivial, ?_⟩
          simp only [Act.put, aS, aC, aZ]
          refine takeH (i := 9) (some 20) rfl rfl (by kernel_rfl) (by kernel_rfl) (by kernel_rfl) (fun _ _ _ h => h) (gRun rfl (.agg [.int .i64 (n : Nat), whole q13 n, whole q15 n, whole q17 n, .int .i64 (-1), whole q19 n].toArray) fun _ h => run_bld84 (.tmp 11) (.tmp 13) (.tmp 15) (.tmp 17) (.const (.int .i64 (-1))) (.tmp 19) rfl (n : Nat) (-1) _ _ _ _ _ _ _ _ _ _ _ _ rfl rfl rfl rfl rfl rfl) trivial ?_
          simp only [Act.put, aS, aC, aZ]
          refine oneH (i := 10) (by kernel_rfl) ?_
          refine opValueG (some 21) rfl rfl rfl (ptr m4.heap.size) _ (run_boxA (.tmp 20) rfl [.int .i64 (n : Nat), whole q13 n, whole q15 n, whole q17 n, .int .i64 (-1), whole q19 n] rfl) ?_
          obtain ⟨gy, hgy⟩ : ∃ q, q = m4.heap.size := ⟨_, rfl⟩
          obtain ⟨wf, hwf⟩ : ∃ W, W = m4.alloc (.cells [.int .i64 (n : Nat), whole q13 n, whole q15 n, whole q17 n, .int .i64 (-1), whole q19 n].toArray 84) := ⟨_, rfl⟩
          have HF : Hid (w.heap.size ≤ gy ∧ Below w.heap.size w wf ∧ Ref S wf gy n (ref0 n)) := (by
            have hb : Below m4.heap.size m4 wf := hwf ▸ below_alloc m4 _
            have hw : Below w.heap.size w m4 := HB4.out
            have hk : ∀ b, b < m4.heap.size → S b → wf.heap[b]? = m4.heap[b]? := fun b hl _ => hb.block b hl
            refine ⟨hgy ▸ hw.size, hw.trans (hb.mono hw.size), ref0_of (HS.out gy (hgy ▸ hw.size)) (by rw [hgy, hwf]; exact Row.new _ _ _) (HO13d4.out.1.keep hk) (HO15d4.out.1.keep hk) (HO17d4.out.1.keep hk) (HO19d4.out.1.keep hk) ?_ ?_⟩
            · exact Nat.ne_of_lt HD15_17.out
            · exact (Nat.ne_of_lt HD19_13.out).symm)
          rw [← hgy, ← hwf]
          clear hgy hwf
          refine ⟨trivial, ?_⟩
          simp only [Act.put, aS, aC, aZ]
          refine takeH (i := 11) (some 2) rfl rfl (by kernel_rfl) (by kernel_rfl) (by kernel_rfl) (fun _ _ _ h => h) (gRun rfl (ptr gy) fun _ h => run_asZ (.tmp 21) rfl (ptr gy) rfl) trivial ?_
          simp only [Act.put, aS, aC, aZ]
          refine takeH (i := 12) (some 3) rfl rfl (by kernel_rfl) (by kernel_rfl) (by kernel_rfl) (fun _ _ _ h => h) (gRun rfl (.int .i64 0) fun _ h => run_asZ (.const (.int .i64 0)) rfl (.int .i64 0) rfl) trivial ?_
          simp only [Act.put, aS, aC, aZ]
          refine wpAnyH_done (by kernel_rfl) ?_ _
          go_wp2_with fail
          rw [HPQ.out]
          exact Or.inr ⟨HN.out.2.1, gy, rfl, HF.out.1, HF.out.2.1, by rw [← HN.out.1]; exact HF.out.2.2⟩
        · refine opMakeY (S := S) (some 17) rfl rfl rfl (.tmp 16) (.tmp 16) 82 4 (.bool false) 1 rfl und82 inf4 rfl (by decide) n rfl rfl HN.out.2.2 (fun b hb => HS.out b (Nat.le_trans HB2.out.size hb)) ?_
          intro m3 hown hsz hbl
          obtain ⟨q17, hq⟩ : ∃ q, q = m2.heap.size := ⟨_, rfl⟩
          rw [← hq] at hown hsz ⊢
          have HB3 : Hid (Below w.heap.size w m3) := HB2.out.trans (hbl.mono HB2.out.size)
          have HO17d3 : Hid (Own1 S m3 4 (whole q17 n) (List.replicate n (.bool false)) ∧ q17 < m3.heap.size) := ⟨hown, by omega⟩
          have HD19_17 : Hid (q19 < q17) := (by rw [hq]; exact HO19d2.out.2)
          have HO19d3 : Hid (Own1 S m3 38 (whole q19 n) (List.replicate n (.slice none 0 0)) ∧ q19 < m3.heap.size) := ⟨HO19d2.out.1.keep fun b hl _ => hbl.block b (by first | exact hl | (rw [← hq]; exact hl) | (rw [hq] at hl; exact hl)), by have := HO19d2.out.2; omega⟩
          clear HO19d2
          have HD13_17 : Hid (q13 < q17) := (by rw [hq]; exact HO13d2.out.2)
          have HO13d3 : Hid (Own1 S m3 38 (whole q13 n) (List.replicate n (.slice none 0 0)) ∧ q13 < m3.heap.size) := ⟨HO13d2.out.1.keep fun b hl _ => hbl.block b (by first | exact hl | (rw [← hq]; exact hl) | (rw [hq] at hl; exact hl)), by have := HO13d2.out.2; omega⟩
          clear HO13d2
          clear hown hsz hbl hq
          refine ⟨trivial, ?_⟩
          simp only [Act.put, aS, aC, aZ]
          refine oneH (i := 4) (by kernel_rfl) ?_
          refine opMakeY (S := S) (some 15) rfl rfl rfl (.tmp 14) (.tmp 14) 82 4 (.bool false) 1 rfl und82 inf4 rfl (by decide) n rfl rfl HN.out.2.2 (fun b hb => HS.out b (Nat.le_trans HB3.out.size hb)) ?_
          intro m4 hown hsz hbl
          obtain ⟨q15, hq⟩ : ∃ q, q = m3.heap.size := ⟨_, rfl⟩
          rw [← hq] at hown hsz ⊢
          have HB4 : Hid (Below w.heap.size w m4) := HB3.out.trans (hbl.mono HB3.out.size)
          have HO15d4 : Hid (Own1 S m4 4 (whole q15 n) (List.replicate n (.bool false)) ∧ q15 < m4.heap.size) := ⟨hown, by omega⟩
          have HD19_15 : Hid (q19 < q15) := (by rw [hq]; exact HO19d3.out.2)
          have HO19d4 : Hid (Own1 S m4 38 (whole q19 n) (List.replicate n (.slice none 0 0)) ∧ q19 < m4.heap.size) := ⟨HO19d3.out.1.keep fun b hl _ => hbl.block b (by first | exact hl | (rw [← hq]; exact hl) | (rw [hq] at hl; exact hl)), by have := HO19d3.out.2; omega⟩
          clear HO19d3
          have HD13_15 : Hid (q13 < q15) := (by rw [hq]; exact HO13d3.out.2)
          have HO13d4 : Hid (Own1 S m4 38 (whole q13 n) (List.replicate n (.slice none 0 0)) ∧ q13 < m4.heap.size) := ⟨HO13d3.out.1.keep fun b hl _ => hbl.block b (by first | exact hl | (rw [← hq]; exact hl) | (rw [hq] at hl; exact hl)), by have := HO13d3.out.2; omega⟩
          clear HO13d3
          have HD17_15 : Hid (q17 < q15) := (by rw [hq]; exact HO17d3.out.2)
          have HO17d4 : Hid (Own1 S m4 4 (whole q17 n) (List.replicate n (.bool false)) ∧ q17 < m4.heap.size) := ⟨HO17d3.out.1.keep fun b hl _ => hbl.block b (by first | exact hl | (rw [← hq]; exact hl) | (rw [hq] at hl; exact hl)), by have := HO17d3.out.2; omega⟩
          clear HO17d3
          clear hown hsz hbl hq
          refine ⟨trivial, ?_⟩
          simp only [Act.put, aS, aC, aZ]
          refine takeH (i := 9) (some 20) rfl rfl (by kernel_rfl) (by kernel_rfl) (by kernel_rfl) (fun _ _ _ h => h) (gRun rfl (.agg [.int .i64 (n : Nat), whole q13 n, whole q15 n, whole q17 n, .int .i64 (-1), whole q19 n].toArray) fun _ h => run_bld84 (.tmp 11) (.tmp 13) (.tmp 15) (.tmp 17) (.const (.int .i64 (-1))) (.tmp 19) rfl (n : Nat) (-1) _ _ _ _ _ _ _ _ _ _ _ _ rfl rfl rfl rfl rfl rfl) trivial ?_
          simp only [Act.put, aS, aC, aZ]
          refine oneH (i := 10) (by kernel_rfl) ?_
          refine opValueG (some 21) rfl rfl rfl (ptr m4.heap.size) _ (run_boxA (.tmp 20) rfl [.int .i64 (n : Nat), whole q13 n, whole q15 n, whole q17 n, .int .i64 (-1), whole q19 n] rfl) ?_
          obtain ⟨gy, hgy⟩ : ∃ q, q = m4.heap.size := ⟨_, rfl⟩
          obtain ⟨wf, hwf⟩ : ∃ W, W = m4.alloc (.cells [.int .i64 (n : Nat), whole q13 n, whole q15 n, whole q17 n, .int .i64 (-1), whole q19 n].toArray 84) := ⟨_, rfl⟩
          have HF : Hid (w.heap.size ≤ gy ∧ Below w.heap.size w wf ∧ Ref S wf gy n (ref0 n)) := (by
            have hb : Below m4.heap.size m4 wf := hwf ▸ below_alloc m4 _
            have hw : Below w.heap.size w m4 := HB4.out
            have hk : ∀ b, b < m4.heap.size → S b → wf.heap[b]? = m4.heap[b]? := fun b hl _ => hb.block b hl
            refine ⟨hgy ▸ hw.size, hw.trans (hb.mono hw.size), ref0_of (HS.out gy (hgy ▸ hw.size)) (by rw [hgy, hwf]; exact Row.new _ _ _) (HO13d4.out.1.keep hk) (HO15d4.out.1.keep hk) (HO17d4.out.1.keep hk) (HO19d4.out.1.keep hk) ?_ ?_⟩
            · exact (Nat.ne_of_lt HD17_15.out).symm
            · exact (Nat.ne_of_lt HD19_13.out).symm)
          rw [← hgy, ← hwf]
          clear hgy hwf
          refine ⟨trivial, ?_⟩
          simp only [Act.put, aS, aC, aZ]
          refine takeH (i := 11) (some 2) rfl rfl (by kernel_rfl) (by kernel_rfl) (by kernel_rfl) (fun _ _ _ h => h) (gRun rfl (ptr gy) fun _ h => run_asZ (.tmp 21) rfl (ptr gy) rfl) trivial ?_
          simp only [Act.put, aS, aC, aZ]
          refine takeH (i := 12) (some 3) rfl rfl (by kernel_rfl) (by kernel_rfl) (by kernel_rfl) (fun _ _ _ h => h) (gRun rfl (.int .i64 0) fun _ h => run_asZ (.const (.int .i64 0)) rfl (.int .i64 0) rfl) trivial ?_
          simp only [Act.put, aS, aC, aZ]
          refine wpAnyH_done (by kernel_rfl) ?_ _
          go_wp2_with fail
          rw [HPQ.out]
          exact Or.inr ⟨HN.out.2.1, gy, rfl, HF.out.1, HF.out.2.1, by rw [← HN.out.1]; exact HF.out.2.2⟩
      · refine opMakeY (S := S) (some 15) rfl rfl rfl (.tmp 14) (.tmp 14) 82 4 (.bool false) 1 rfl und82 inf4 rfl (by decide) n rfl rfl HN.out.2.2 (fun b hb => HS.out b (Nat.le_trans HB1.out.size hb)) ?_
        intro m2 hown hsz hbl
        obtain ⟨q15, hq⟩ : ∃ q, q = m1.heap.size := ⟨_, rfl⟩
        rw [← hq] at hown hsz ⊢
        have HB2 : Hid (Below w.heap.size w m2) := HB1.out.trans (hbl.mono HB1.out.size)
        have HO15d2 : Hid (Own1 S m2 4 (whole q15 n) (List.replicate n (.bool false)) ∧ q15 < m2.heap.size) := ⟨hown, by omega⟩
        have HD19_15 : Hid (q19 < q15) := (by rw [hq]; exact HO19d1.out.2)
        have HO19d2 : Hid (Own1 S m2 38 (whole q19 n) (List.replicate n (.slice none 0 0)) ∧ q19 < m2.heap.size) := ⟨HO19d1.out.1.keep fun b hl _ => hbl.block b (by first | exact hl | (rw [← hq]; exact hl) | (rw [hq] at hl; exact hl)), by have := HO19d1.out.2; omega⟩
        clear HO19d1
        clear hown hsz hbl hq
        refine ⟨trivial, ?_⟩
        simp only [Act.put, aS, aC, aZ]
        refine twoH (i := 2) (j := 6) (by kernel_rfl) ?_ ?_
        · refine opMakeY (S := S) (some 13) rfl rfl rfl (.tmp 12) (.tmp 12) 50 38 (.slice none 0 0) 24 rfl und50 inf38 rfl (by decide) n rfl rfl HN.out.2.2 (fun b hb => HS.out b (Nat.le_trans HB2.out.size hb)) ?_
          intro m3 hown hsz hbl
          obtain ⟨q13, hq⟩ : ∃ q, q = m2.heap.size := ⟨_, rfl⟩
          rw [← hq] at hown hsz ⊢
          have HB3 : Hid (Below w.heap.size w m3) := HB2.out.trans (hbl.mono HB2.out.size)
          have HO13d3 : Hid (Own1 S m3 38 (whole q13 n) (List.replicate n (.slice none 0 0)) ∧ q13 < m3.heap.size) := ⟨hown, by omega⟩
          have HD19_13 : Hid (q19 < q13) := (by rw [hq]; exact HO19d2.out.2)
          have HO19d3 : Hid (Own1 S m3 38 (whole q19 n) (List.replicate n (.slice none 0 0)) ∧ q19 < m3.heap.size) := ⟨HO19d2.out.1.keep fun b hl _ => hbl.block b (by first | exact hl | (rw [← hq]; exact hl) | (rw [hq] at hl; exact hl)), by have := HO19d2.out.2; omega⟩
          clear HO19d2
          have HD15_13 : Hid (q15 < q13) := (by rw [hq]; exact HO15d2.out.2)
          have HO15d3 : Hid (Own1 S m3 4 (whole q15 n) (List.replicate n (.bool false)) ∧ q15 < m3.heap.size) := ⟨HO15d2.out.1.keep fun b hl _ => hbl.block b (by first | exact hl | (rw [← hq]; exact hl) | (rw [hq] at hl; exact hl)), by have := HO15d2.out.2; omega⟩
          clear HO15d2
          clear hown hsz hbl hq
          refine ⟨trivial, ?_⟩
          simp only [Act.put, aS, aC, aZ]
          refine oneH (i := 6) (by kernel_rfl) ?_
          refine opMakeY (S := S) (some 17) rfl rfl rfl (.tmp 16) (.tmp 16) 82 4 (.bool false) 1 rfl und82 inf4 rfl (by decide) n rfl rfl HN.out.2.2 (fun b hb => HS.out b (Nat.le_trans HB3.out.size hb)) ?_
          intro m4 hown hsz hbl
          obtain ⟨q17, hq⟩ : ∃ q, q = m3.heap.size := ⟨_, rfl⟩
          rw [← hq] at hown hsz ⊢
          have HB4 : Hid (Below w.heap.size w m4) := HB3.out.trans (hbl.mono HB3.out.size)
          have HO17d4 : Hid (Own1 S m4 4 (whole q17 n) (List.replicate n (.bool false)) ∧ q17 < m4.heap.size) := ⟨hown, by omega⟩
          have HD19_17 : Hid (q19 < q17) := (by rw [hq]; exact HO19d3.out.2)
          have HO19d4 : Hid (Own1 S m4 38 (whole q19 n) (List.replicate n (.slice none 0 0)) ∧ q19 < m4.heap.size) := ⟨HO19d3.out.1.keep fun b hl _ => hbl.block b (by first | exact hl | (rw [← hq]; exact hl) | (rw [hq] at hl; exact hl)), by have := HO19d3.out.2; omega⟩
          clear HO19d3
          have HD15_17 : Hid (q15 < q17) := (by rw [hq]; exact HO15d3.out.2)
          have HO15d4 : Hid (Own1 S m4 4 (whole q15 n) (List.replicate n (.bool false)) ∧ q15 < m4.heap.size) := ⟨HO15d3.out.1.keep fun b hl _ => hbl.block b (by first | exact hl | (rw [← hq]; exact hl) | (rw [hq] at hl; exact hl)), by have := HO15d3.out.2; omega⟩
          clear HO15d3
          have HD13_17 : Hid (q13 < q17) := (by rw [hq]; exact HO13d3.out.2)
          have HO13d4 : Hid (Own1 S m4 38 (whole q13 n) (List.replicate n (.slice none 0 0)) ∧ q13 < m4.heap.size) := ⟨HO13d3.out.1.keep fun b hl _ => hbl.block b (by first | exact hl | (rw [← hq]; exact hl) | (rw [hq] at hl; exact hl)), by have := HO13d3.out.2; omega⟩
          clear HO13d3
          clear hown hsz hbl hq
          refine ⟨trivial, ?_⟩
          simp only [Act.put, aS, aC, aZ]
          refine takeH (i := 9) (some 20) rfl rfl (by kernel_rfl) (by kernel_rfl) (by kernel_rfl) (fun _ _ _ h => h) (gRun rfl (.agg [.int .i64 (n : Nat), whole q13 n, whole q15 n, whole q17 n, .int .i64 (-1), whole q19 n].toArray) fun _ h => run_bld84 (.tmp 11) (.tmp 13) (.tmp 15) (.tmp 17) (.const (.int .i64 (-1))) (.tmp 19) rfl (n : Nat) (-1) _ _ _ _ _ _ _ _ _ _ _ _ rfl rfl rfl rfl rfl rfl) trivial ?_
          simp only [Act.put, aS, aC, aZ]
          refine oneH (i := 10) (by kernel_rfl) ?_
          refine opValueG (some 21) rfl rfl rfl (ptr m4.heap.size) _ (run_boxA (.tmp 20) rfl [.int .i64 (n : Nat), whole q13 n, whole q15 n, whole q17 n, .int .i64 (-1), whole q19 n] rfl) ?_
          obtain ⟨gy, hgy⟩ : ∃ q, q = m4.heap.size := ⟨_, rfl⟩
          obtain ⟨wf, hwf⟩ : ∃ W, W = m4.alloc (.cells [.int .i64 (n : Nat), whole q13 n, whole q15 n, whole q17 n, .int .i64 (-1), whole q19 n].toArray 84) := ⟨_, rfl⟩
          have HF : Hid (w.heap.size ≤ gy ∧ Below w.heap.size w wf ∧ Ref S wf gy n (ref0 n)) := (by
            have hb : Below m4.heap.size m4 wf := hwf ▸ below_alloc m4 _
            have hw : Below w.heap.size w m4 := HB4.out
            have hk : ∀ b, b < m4.heap.size → S b → wf.heap[b]? = m4.heap[b]? := fun b hl _ => hb.block b hl
            refine ⟨hgy ▸ hw.size, hw.trans (hb.mono hw.size), ref0_of (HS.out gy (hgy ▸ hw.size)) (by rw [hgy, hwf]; exact Row.new _ _ _) (HO13d4.out.1.keep hk) (HO15d4.out.1.keep hk) (HO17d4.out.1.keep hk) (HO19d4.out.1.keep hk) ?_ ?_⟩
            · exact Nat.ne_of_lt HD15_17.out
            · exact (Nat.ne_of_lt HD19_13.out).symm)
          rw [← hgy, ← hwf]
          clear hgy hwf
          refine ⟨trivial, ?_⟩
          simp only [Act.put, aS, aC, aZ]
          refine takeH (i := 11) (some 2) rfl rfl (by kernel_rfl) (by kernel_rfl) (by kernel_rfl) (fun _ _ _ h => h) (gRun rfl (ptr gy) fun _ h => run_asZ (.tmp 21) rfl (ptr gy) rfl) trivial ?_
          simp only [Act.put, aS, aC, aZ]
          refine takeH (i := 12) (some 3) rfl rfl (by kernel_rfl) (by kernel_rfl) (by kernel_rfl) (fun _ _ _ h => h) (gRun rfl (.int .i64 0) fun _ h => run_asZ (.const (.int .i64 0)) rfl (.int .i64 0) rfl) trivial ?_
          simp only [Act.put, aS, aC, aZ]
          refine wpAnyH_done (by kernel_rfl) ?_ _
          go_wp2_with fail
          rw [HPQ.out]
          exact Or.inr ⟨HN.out.2.1, gy, rfl, HF.out.1, HF.out.2.1, by rw [← HN.out.1]; exact HF.out.2.2⟩
        · refine opMakeY (S := S) (some 17) rfl rfl rfl (.tmp 16) (.tmp 16) 82 4 (.bool false) 1 rfl und82 inf4 rfl (by decide) n rfl rfl HN.out.2.2 (fun b hb => HS.out b (Nat.le_trans HB2.out.size hb)) ?_
          intro m3 hown hsz hbl
          obtain ⟨q17, hq⟩ : ∃ q, q = m2.heap.size := ⟨_, rfl⟩
          rw [← hq] at hown hsz ⊢
          have HB3 : Hid (Below w.heap.size w m3) := HB2.out.trans (hbl.mono HB2.out.size)
          have HO17d3 : Hid (Own1 S m3 4 (whole q17 n) (List.replicate n (.bool false)) ∧ q17 < m3.heap.size) := ⟨hown, by omega⟩
          have HD19_17 : Hid (q19 < q17) := (by rw [hq]; exact HO19d2.out.2)
          have HO19d3 : Hid (Own1 S m3 38 (whole q19 n) (List.replicate n (.slice none 0 0)) ∧ q19 < m3.heap.size) := ⟨HO19d2.out.1.keep fun b hl _ => hbl.block b (by first | exact hl | (rw [← hq]; exact hl) | (rw [hq] at hl; exact hl)), by have := HO19d2.out.2; omega⟩
          clear HO19d2
          have HD15_17 : Hid (q15 < q17) := (by rw [hq]; exact HO15d2.out.2)
          have HO15d3 : Hid (Own1 S m3 4 (whole q15 n) (List.replicate n (.bool false)) ∧ q15 < m3.heap.size) := ⟨HO15d2.out.1.keep fun b hl _ => hbl.block b (by first | exact hl | (rw [← hq]; exact hl) | (rw [hq] at hl; exact hl)), by have := HO15d2.out.2; omega⟩
          clear HO15d2
          clear hown hsz hbl hq
          refine ⟨trivial, ?_⟩
          simp only [Act.put, aS, aC, aZ]
          refine oneH (i := 2) (by kernel_rfl) ?_
          refine opMakeY (S := S) (some 13) rfl rfl rfl (.tmp 12) (.tmp 12) 50 38 (.slice none 0 0) 24 rfl und50 inf38 rfl (by decide) n rfl rfl HN.out.2.2 (fun b hb => HS.out b (Nat.le_trans HB3.out.size hb)) ?_
          intro m4 hown hsz hbl
          obtain ⟨q13, hq⟩ : ∃ q, q = m3.heap.size := ⟨_, rfl⟩
          rw [← hq] at hown hsz ⊢
          have HB4 : Hid (Below w.heap.size w m4) := HB3.out.trans (hbl.mono HB3.out.size)
          have HO13d4 : Hid (Own1 S m4 38 (whole q13 n) (List.replicate n (.slice none 0 0)) ∧ q13 < m4.heap.size) := ⟨hown, by omega⟩
          have HD19_13 : Hid (q19 < q13) := (by rw [hq]; exact HO19d3.out.2)
          have HO19d4 : Hid (Own1 S m4 38 (whole q19 n) (List.replicate n (.slice none 0 0)) ∧ q19 < m4.heap.size) := ⟨HO19d3.out.1.keep fun b hl _ => hbl.block b (by first | exact hl | (rw [← hq]; exact hl) | (rw [hq] at hl; exact hl)), by have := HO19d3.out.2; omega⟩
          clear HO19d3
          have HD15_13 : Hid (q15 < q13) := (by rw [hq]; exact HO15d3.out.2)
          have HO15d4 : Hid (Own1 S m4 4 (whole q15 n) (List.replicate n (.bool false)) ∧ q15 < m4.heap.size) := ⟨HO15d3.out.1.keep fun b hl _ => hbl.block b (by first | exact hl | (rw [← hq]; exact hl) | (rw [hq] at hl; exact hl)), by have := HO15d3.out.2; omega⟩
          clear HO15d3
          have HD17_13 : Hid (q17 < q13) := (by rw [hq]; exact HO17d3.out.2)
          have HO17d4 : Hid (Own1 S m4 4 (whole q17 n) (List.replicate n (.bool false)) ∧ q17 < m4.heap.size) := ⟨HO17d3.out.1.keep fun b hl _ => hbl.block b (by first | exact hl | (rw [← hq]; exact hl) | (rw [hq] at hl; exact hl)), by have := HO17d3.out.2; omega⟩
          clear HO17d3
          clear hown hsz hbl hq
          refine ⟨trivial, ?_⟩
          simp only [Act.put, aS, aC, aZ]
          refine takeH (i := 9) (some 20) rfl rfl (by kernel_rfl) (by kernel_rfl) (by kernel_rfl) (fun _ _ _ h => h) (gRun rfl (.agg [.int .i64 (n : Nat), whole q13 n, whole q15 n, whole q17 n, .int .i64 (-1), whole q19 n].toArray) fun _ h => run_bld84 (.tmp 11) (.tmp 13) (.tmp 15) (.tmp 17) (.const (.int .i64 (-1))) (.tmp 19) rfl (n : Nat) (-1) _ _ _ _ _ _ _ _ _ _ _ _ rfl rfl rfl rfl rfl rfl) trivial ?_
          simp only [Act.put, aS, aC, aZ]
          refine oneH (i := 10) (by kernel_rfl) ?_
          refine opValueG (some 21) rfl rfl rfl (ptr m4.heap.size) _ (run_boxA (.tmp 20) rfl [.int .i64 (n : Nat), whole q13 n, whole q15 n, whole q17 n, .int .i64 (-1), whole q19 n] rfl) ?_
          obtain ⟨gy, hgy⟩ : ∃ q, q = m4.heap.size := ⟨_, rfl⟩
          obtain ⟨wf, hwf⟩ : ∃ W, W = m4.alloc (.cells [.int .i64 (n : Nat), whole q13 n, whole q15 n, whole q17 n, .int .i64 (-1), whole q19 n].toArray 84) := ⟨_, rfl⟩
          have HF : Hid (w.heap.size ≤ gy ∧ Below w.heap.size w wf ∧ Ref S wf gy n (ref0 n)) := (by
            have hb : Below m4.heap.size m4 wf := hwf ▸ below_alloc m4 _
            have hw : Below w.heap.size w m4 := HB4.out
            have hk : ∀ b, b < m4.heap.size → S b → wf.heap[b]? = m4.heap[b]? := fun b hl _ => hb.block b hl
            refine ⟨hgy ▸ hw.size, hw.trans (hb.mono hw.size), ref0_of (HS.out gy (hgy ▸ hw.size)) (by rw [hgy, hwf]; exact Row.new _ _ _) (HO13d4.out.1.keep hk) (HO15d4.out.1.keep hk) (HO17d4.out.1.keep hk) (HO19d4.out.1.keep hk) ?_ ?_⟩
            · exact Nat.ne_of_lt HD15_17.out
            · exact (Nat.ne_of_lt HD19_13.out).symm)
          rw [← hgy, ← hwf]
          clear hgy hwf
          refine ⟨trivial, ?_⟩
          simp only [Act.put, aS, aC, aZ]
          refine takeH (i := 11) (some 2) rfl rfl (by kernel_rfl) (by kernel_rfl) (by kernel_rfl) (fun _ _ _ h => h) (gRun rfl (ptr gy) fun _ h => run_asZ (.tmp 21) rfl (ptr gy) rfl) trivial ?_
          simp only [Act.put, aS, aC, aZ]
          refine takeH (i := 12) (some 3) rfl rfl (by kernel_rfl) (by kernel_rfl) (by kernel_rfl) (fun _ _ _ h => h) (gRun rfl (.int .i64 0) fun _ h => run_asZ (.const (.int .i64 0)) rfl (.int .i64 0) rfl) trivial ?_
          simp only [Act.put, aS, aC, aZ]
          refine wpAnyH_done (by kernel_rfl) ?_ _
          go_wp2_with fail
          rw [HPQ.out]
          exact Or.inr ⟨HN.out.2.1, gy, rfl, HF.out.1, HF.out.2.1, by rw [← HN.out.1]; exact HF.out.2.2⟩
      · refine opMakeY (S := S) (some 17) rfl rfl rfl (.tmp 16) (.tmp 16) 82 4 (.bool false) 1 rfl und82 inf4 rfl (by decide) n rfl rfl HN.out.2.2 (fun b hb => HS.out b (Nat.le_trans HB1.out.size hb)) ?_
        intro m2 hown hsz hbl
        obtain ⟨q17, hq⟩ : ∃ q, q = m1.heap.size := ⟨_, rfl⟩
        rw [← hq] at hown hsz ⊢
        have HB2 : Hid (Below w.heap.size w m2) := HB1.out.trans (hbl.mono HB1.out.size)
        have HO17d2 : Hid (Own1 S m2 4 (whole q17 n) (List.replicate n (.bool false)) ∧ q17 < m2.heap.size) := ⟨hown, by omega⟩
        have HD19_17 : Hid (q19 < q17) := (by rw [hq]; exact HO19d1.out.2)
        have HO19d2 : Hid (Own1 S m2 38 (whole q19 n) (List.replicate n (.slice none 0 0)) ∧ q19 < m2.heap.size) := ⟨HO19d1.out.1.keep fun b hl _ => hbl.block b (by first | exact hl | (rw [← hq]; exact hl) | (rw [hq] at hl; exact hl)), by have := HO19d1.out.2; omega⟩
        clear HO19d1
        clear hown hsz hbl hq
        refine ⟨trivial, ?_⟩
        simp only [Act.put, aS, aC, aZ]
        refine twoH (i := 2) (j := 4) (by kernel_rfl) ?_ ?_
        · refine opMakeY (S := S) (some 13) rfl rfl rfl (.tmp 12) (.tmp 12) 50 38 (.slice none 0 0) 24 rfl und50 inf38 rfl (by decide) n rfl rfl HN.out.2.2 (fun b hb => HS.out b (Nat.le_trans HB2.out.size hb)) ?_
          intro m3 hown hsz hbl
          obtain ⟨q13, hq⟩ : ∃ q, q = m2.heap.size := ⟨_, rfl⟩
          rw [← hq] at hown hsz ⊢
          have HB3 : Hid (Below w.heap.size w m3) := HB2.out.trans (hbl.mono HB2.out.size)
          have HO13d3 : Hid (Own1 S m3 38 (whole q13 n) (List.replicate n (.slice none 0 0)) ∧ q13 < m3.heap.size) := ⟨hown, by omega⟩
          have HD19_13 : Hid (q19 < q13) := (by rw [hq]; exact HO19d2.out.2)
          have HO19d3 : Hid (Own1 S m3 38 (whole q19 n) (List.replicate n (.slice none 0 0)) ∧ q19 < m3.heap.size) := ⟨HO19d2.out.1.keep fun b hl _ => hbl.block b (by first | exact hl | (rw [← hq]; exact hl) | (rw [hq] at hl; exact hl)), by have := HO19d2.out.2; omega⟩
          clear HO19d2
          have HD17_13 : Hid (q17 < q13) := (by rw [hq]; exact HO17d2.out.2)
          have HO17d3 : Hid (Own1 S m3 4 (whole q17 n) (List.replicate n (.bool false)) ∧ q17 < m3.heap.size) := ⟨HO17d2.out.1.keep fun b hl _ => hbl.block b (by first | exact hl | (rw [← hq]; exact hl) | (rw [hq] at hl; exact hl)), by have := HO17d2.out.2; omega⟩
          clear HO17d2
          clear hown hsz hbl hq
          refine ⟨trivial, ?_⟩
          simp only [Act.put, aS, aC, aZ]
          refine oneH (i := 4) (by kernel_rfl) ?_
          refine opMakeY (S := S) (some 15) rfl rfl rfl (.tmp 14) (.tmp 14) 82 4 (.bool false) 1 rfl und82 inf4 rfl (by decide) n rfl rfl HN.out.2.2 (fun b hb => HS.out b (Nat.le_trans HB3.out.size hb)) ?_
          intro m4 hown hsz hbl
          obtain ⟨q15, hq⟩ : ∃ q, q = m3.heap.size := ⟨_, rfl⟩
          rw [← hq] at hown hsz ⊢
          have HB4 : Hid (Below w.heap.size w m4) := HB3.out.trans (hbl.mono HB3.out.size)
          have HO15d4 : Hid (Own1 S m4 4 (whole q15 n) (List.replicate n (.bool false)) ∧ q15 < m4.heap.size) := ⟨hown, by omega⟩
          have HD19_15 : Hid (q19 < q15) := (by rw [hq]; exact HO19d3.out.2)
          have HO19d4 : Hid (Own1 S m4 38 (whole q19 n) (List.replicate n (.slice none 0 0)) ∧ q19 < m4.heap.size) := ⟨HO19d3.out.1.keep fun b hl _ => hbl.block b (by first | exact hl | (rw [← hq]; exact hl) | (rw [hq] at hl; exact hl)), by have := HO19d3.out.2; omega⟩
          clear HO19d3
          have HD17_15 : Hid (q17 < q15) := (by rw [hq]; exact HO17d3.out.2)
          have HO17d4 : Hid (Own1 S m4 4 (whole q17 n) (List.replicate n (.bool false)) ∧ q17 < m4.heap.size) := ⟨HO17d3.out.1.keep fun b hl _ => hbl.block b (by first | exact hl | (rw [← hq]; exact hl) | (rw [hq] at hl; exact hl)), by have := HO17d3.out.2; omega⟩
          clear HO17d3
          have HD13_15 : Hid (q13 < q15) := (by rw [hq]; exact HO13d3.out.2)
          have HO13d4 : Hid (Own1 S m4 38 (whole q13 n) (List.replicate n (.slice none 0 0)) ∧ q13 < m4.heap.size) := ⟨HO13d3.out.1.keep fun b hl _ => hbl.block b (by first | exact hl | (rw [← hq]; exact hl) | (rw [hq] at hl; exact hl)), by have := HO13d3.out.2; omega⟩
          clear HO13d3
          clear hown hsz hbl hq
          refine ⟨trivial, ?_⟩
          simp only [Act.put, aS, aC, aZ]
          refine takeH (i := 9) (some 20) rfl rfl (by kernel_rfl) (by kernel_rfl) (by kernel_rfl) (fun _ _ _ h => h) (gRun rfl (.agg [.int .i64 (n : Nat), whole q13 n, whole q15 n, whole q17 n, .int .i64 (-1), whole q19 n].toArray) fun _ h => run_bld84 (.tmp 11) (.tmp 13) (.tmp 15) (.tmp 17) (.const (.int .i64 (-1))) (.tmp 19) rfl (n : Nat) (-1) _ _ _ _ _ _ _ _ _ _ _ _ rfl rfl rfl rfl rfl rfl) trivial ?_
          simp only [Act.put, aS, aC, aZ]
          refine oneH (i := 10) (by kernel_rfl) ?_
          refine opValueG (some 21) rfl rfl rfl (ptr m4.heap.size) _ (run_boxA (.tmp 20) rfl [.int .i64 (n : Nat), whole q13 n, whole q15 n, whole q17 n, .int .i64 (-1), whole q19 n] rfl) ?_
          obtain ⟨gy, hgy⟩ : ∃ q, q = m4.heap.size := ⟨_, rfl⟩
          obtain ⟨wf, hwf⟩ : ∃ W, W = m4.alloc (.cells [.int .i64 (n : Nat), whole q13 n, whole q15 n, whole q17 n, .int .i64 (-1), whole q19 n].toArray 84) := ⟨_, rfl⟩
          have HF : Hid (w.heap.size ≤ gy ∧ Below w.heap.size w wf ∧ Ref S wf gy n (ref0 n)) := (by
            have hb : Below m4.heap.size m4 wf := hwf ▸ below_alloc m4 _
            have hw : Below w.heap.size w m4 := HB4.out
            have hk : ∀ b, b < m4.heap.size → S b → wf.heap[b]? = m4.heap[b]? := fun b hl _ => hb.block b hl
            refine ⟨hgy ▸ hw.size, hw.trans (hb.mono hw.size), ref0_of (HS.out gy (hgy ▸ hw.size)) (by rw [hgy, hwf]; exact Row.new _ _ _) (HO13d4.out.1.keep hk) (HO15d4.out.1.keep hk) (HO17d4.out.1.keep hk) (HO19d4.out.1.keep hk) ?_ ?_⟩
            · exact (Nat.ne_of_lt HD17_15.out).symm
            · exact (Nat.ne_of_lt HD19_13.out).symm)
          rw [← hgy, ← hwf]
          clear hgy hwf
          refine ⟨trivial, ?_⟩
          simp only [Act.put, aS, aC, aZ]
          refine takeH (i := 11) (some 2) rfl rfl (by kernel_rfl) (by kernel_rfl) (by kernel_rfl) (fun _ _ _ h => h) (gRun rfl (ptr gy) fun _ h => run_asZ (.tmp 21) rfl (ptr gy) rfl) trivial ?_
          simp only [Act.put, aS, aC, aZ]
          refine takeH (i := 12) (some 3) rfl rfl (by kernel_rfl) (by kernel_rfl) (by kernel_rfl) (fun _ _ _ h => h) (gRun rfl (.int .i64 0) fun _ h => run_asZ (.const (.int .i64 0)) rfl (.int .i64 0) rfl) trivial ?_
          simp only [Act.put, aS, aC, aZ]
          refine wpAnyH_done (by kernel_rfl) ?_ _
          go_wp2_with fail
          rw [HPQ.out]
          exact Or.inr ⟨HN.out.2.1, gy, rfl, HF.out.1, HF.out.2.1, by rw [← HN.out.1]; exact HF.out.2.2⟩
        · refine opMakeY (S := S) (some 15) rfl rfl rfl (.tmp 14) (.tmp 14) 82 4 (.bool false) 1 rfl und82 inf4 rfl (by decide) n rfl rfl HN.out.2.2 (fun b hb => HS.out b (Nat.le_trans HB2.out.size hb)) ?_
          intro m3 hown hsz hbl
          obtain ⟨q15, hq⟩ : ∃ q, q = m2.heap.size := ⟨_, rfl⟩
          rw [← hq] at hown hsz ⊢
          have HB3 : Hid (Below w.heap.size w m3) := HB2.out.trans (hbl.mono HB2.out.size)
          have HO15d3 : Hid (Own1 S m3 4 (whole q15 n) (List.replicate n (.bool false)) ∧ q15 < m3.heap.size) := ⟨hown, by omega⟩
          have HD19_15 : Hid (q19 < q15) := (by rw [hq]; exact HO19d2.out.2)
          have HO19d3 : Hid (Own1 S m3 38 (whole q19 n) (List.replicate n (.slice none 0 0)) ∧ q19 < m3.heap.size) := ⟨HO19d2.out.1.keep fun b hl _ => hbl.block b (by first | exact hl | (rw [← hq]; exact hl) | (rw [hq] at hl; exact hl)), by have := HO19d2.out.2; omega⟩
          clear HO19d2
          have HD17_15 : Hid (q17 < q15) := (by rw [hq]; exact HO17d2.out.2)
          have HO17d3 : Hid (Own1 S m3 4 (whole q17 n) (List.replicate n (.bool false)) ∧ q17 < m3.heap.size) := ⟨HO17d2.out.1.keep fun b hl _ => hbl.block b (by first | exact hl | (rw [← hq]; exact hl) | (rw [hq] at hl; exact hl)), by have := HO17d2.out.2; omega⟩
          clear HO17d2
          clear hown hsz hbl hq
          refine ⟨trivial, ?_⟩
          simp only [Act.put, aS, aC, aZ]
          refine oneH (i := 2) (by kernel_rfl) ?_
          refine opMakeY (S := S) (some 13) rfl rfl rfl (.tmp 12) (.tmp 12) 50 38 (.slice none 0 0) 24 rfl und50 inf38 rfl (by decide) n rfl rfl HN.out.2.2 (fun b hb => HS.out b (Nat.le_trans HB3.out.size hb)) ?_
          intro m4 hown hsz hbl
          obtain ⟨q13, hq⟩ : ∃ q, q = m3.heap.size := ⟨_, rfl⟩
          rw [← hq] at hown hsz ⊢
          have HB4 : Hid (Below w.heap.size w m4) := HB3.out.trans (hbl.mono HB3.out.size)
          have HO13d4 : Hid (Own1 S m4 38 (whole q13 n) (List.replicate n (.slice none 0 0)) ∧ q13 < m4.heap.size) := ⟨hown, by omega⟩
          have HD19_13 : Hid (q19 < q13) := (by rw [hq]; exact HO19d3.out.2)
          have HO19d4 : Hid (Own1 S m4 38 (whole q19 n) (List.replicate n (.slice none 0 0)) ∧ q19 < m4.heap.size) := ⟨HO19d3.out.1.keep fun b hl _ => hbl.block b (by first | exact hl | (rw [← hq]; exact hl) | (rw [hq] at hl; exact hl)), by have := HO19d3.out.2; omega⟩
          clear HO19d3
          have HD17_13 : Hid (q17 < q13) := (by rw [hq]; exact HO17d3.out.2)
          have HO17d4 : Hid (Own1 S m4 4 (whole q17 n) (List.replicate n (.bool false)) ∧ q17 < m4.heap.size) := ⟨HO17d3.out.1.keep fun b hl _ => hbl.block b (by first | exact hl | (rw [← hq]; exact hl) | (rw [hq] at hl; exact hl)), by have := HO17d3.out.2; omega⟩
          clear HO17d3
          have HD15_13 : Hid (q15 < q13) := (by rw [hq]; exact HO15d3.out.2)
          have HO15d4 : Hid (Own1 S m4 4 (whole q15 n) (List.replicate n (.bool false)) ∧ q15 < m4.heap.size) := ⟨HO15d3.out.1.keep fun b hl _ => hbl.block b (by first | exact hl | (rw [← hq]; exact hl) | (rw [hq] at hl; exact hl)), by have := HO15d3.out.2; omega⟩
          clear HO15d3
          clear hown hsz hbl hq
          refine ⟨trivial, ?_⟩
          simp only [Act.put, aS, aC, aZ]
          refine takeH (i := 9) (some 20) rfl rfl (by kernel_rfl) (by kernel_rfl) (by kernel_rfl) (fun _ _ _ h => h) (gRun rfl (.agg [.int .i64 (n : Nat), whole q13 n, whole q15 n, whole q17 n, .int .i64 (-1), whole q19 n].toArray) fun _ h => run_bld84 (.tmp 11) (.tmp 13) (.tmp 15) (.tmp 17) (.const (.int .i64 (-1))) (.tmp 19) rfl (n : Nat) (-1) _ _ _ _ _ _ _ _ _ _ _ _ rfl rfl rfl rfl rfl rfl) trivial ?_
          simp only [Act.put, aS, aC, aZ]
          refine oneH (i := 10) (by kernel_rfl) ?_
          refine opValueG (some 21) rfl rfl rfl (ptr m4.heap.size) _ (run_boxA (.tmp 20) rfl [.int .i64 (n : Nat), whole q13 n, whole q15 n, whole q17 n, .int .i64 (-1), whole q19 n] rfl) ?_
          obtain ⟨gy, hgy⟩ : ∃ q, q = m4.heap.size := ⟨_, rfl⟩
          obtain ⟨wf, hwf⟩ : ∃ W, W = m4.alloc (.cells [.int .i64 (n : Nat), whole q13 n, whole q15 n, whole q17 n, .int .i64 (-1), whole q19 n].toArray 84) := ⟨_, rfl⟩
          have HF : Hid (w.heap.size ≤ gy ∧ Below w.heap.size w wf ∧ Ref S wf gy n (ref0 n)) := (by
            have hb : Below m4.heap.size m4 wf := hwf ▸ below_alloc m4 _
            have hw : Below w.heap.size w m4 := HB4.out
            have hk : ∀ b, b < m4.heap.size → S b → wf.heap[b]? = m4.heap[b]? := fun b hl _ => hb.block b hl
            refine ⟨hgy ▸ hw.size, hw.trans (hb.mono hw.size), ref0_of (HS.out gy (hgy ▸ hw.size)) (by rw [hgy, hwf]; exact Row.new _ _ _) (HO13d4.out.1.keep hk) (HO15d4.out.1.keep hk) (HO17d4.out.1.keep hk) (HO19d4.out.1.keep hk) ?_ ?_⟩
            · exact (Nat.ne_of_lt HD17_15.out).symm
            · exact (Nat.ne_of_lt HD19_13.out).symm)
          rw [← hgy, ← hwf]
          clear hgy hwf
          refine ⟨trivial, ?_⟩
          simp only [Act.put, aS, aC, aZ]
          refine takeH (i := 11) (some 2) rfl rfl (by kernel_rfl) (by kernel_rfl) (by kernel_rfl) (fun _ _ _ h => h) (gRun rfl (ptr gy) fun _ h => run_asZ (.tmp 21) rfl (ptr gy) rfl) trivial ?_
          simp only [Act.put, aS, aC, aZ]
          refine takeH (i := 12) (some 3) rfl rfl (by kernel_rfl) (by kernel_rfl) (by kernel_rfl) (fun _ _ _ h => h) (gRun rfl (.int .i64 0) fun _ h => run_asZ (.const (.int .i64 0)) rfl (.int .i64 0) rfl) trivial ?_
          simp only [Act.put, aS, aC, aZ]
          refine wpAnyH_done (by kernel_rfl) ?_ _
          go_wp2_with fail
          rw [HPQ.out]
          exact Or.inr ⟨HN.out.2.1, gy, rfl, HF.out.1, HF.out.2.1, by rw [← HN.out.1]; exact HF.out.2.2⟩

end Go.Proofs.YtkpnflgnhhfjoaaDoor

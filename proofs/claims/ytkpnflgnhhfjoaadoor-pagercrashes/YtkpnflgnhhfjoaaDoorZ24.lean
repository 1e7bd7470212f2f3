/- Layer 9: the last commit is read. Layer 9: heads are laid down. -/
import Derived.Test.YtkpnflgnhhfjoaaDoorZ23
namespace Go.Proofs.YtkpnflgnhhfjoaaDoor
open Go.RowKit Go.Maps
open Fr.Frame (be val)

theorem zero119 : (Tryd.prog.info? 119).map (·.zero) = some (some (.agg (hdCells zHd ++ hdCells zHd).toArray)) := by kernel_rfl
theorem hdRes_one (r : Option Hd) : ∀ v ∈ hdRes r, v.oneCell' = true := by
  cases r with
  | none => exact hdCells_one zHd
  | some H => exact hdCells_one H
/-- the heads that were found so far -/
def FoundTo (X : Nat → List Nat) (n j : Nat) (f : List Value) : Prop :=
  (j = 0 ∧ f = hdCells zHd ++ hdCells zHd) ∨ (∃ a, j = 1 ∧ a.WF ∧ headAt X n 0 = some a ∧ f = hdCells a ++ hdCells zHd) ∨ (∃ a b, j = 2 ∧ a.WF ∧ b.WF ∧ headAt X n 0 = some a ∧ headAt X n 1 = some b ∧ f = hdCells a ++ hdCells b)
theorem FoundTo.len {X : Nat → List Nat} {n j : Nat} {f : List Value} (h : FoundTo X n j f) : f.length = 100 := by
  rcases h with ⟨_, rfl⟩ | ⟨a, _, h1, _, rfl⟩ | ⟨a, b, _, h1, h2, _, _, rfl⟩
  · rw [List.length_append, zHd_len]
  · rw [List.length_append, zHd_len, hd50 h1]
  · rw [List.length_append, hd50 h1, hd50 h2]
theorem FoundTo.next {X : Nat → List Nat} {n j : Nat} {f : List Value} (h : FoundTo X n j f) (hj : j < 2) {H : Hd} (hw : H.WF) (hH : headAt X n j = some H) : FoundTo X n (j + 1) (splice f (j * 50) (hdCells H)) := by
  have hl := hd50 hw
  rcases h with ⟨rfl, rfl⟩ | ⟨a, rfl, h1, h2, rfl⟩ | ⟨a, b, rfl, _⟩
  · refine Or.inr (Or.inl ⟨H, rfl, hw, hH, ?_⟩)
    simp [splice, hl, zHd_len]
  · refine Or.inr (Or.inr ⟨a, H, rfl, h1, hw, h2, hH, ?_⟩)
    have ha := hd50 h1
    simp [splice, hl, ha, zHd_len]
  · omega
section
variable {w : World} {a : Act} {o : Oper}
theorem run_ix119 (x i : Operand) (ho : o.op = .indexAddr 119 x i) (g j : Nat) (hx : a.eval x = ptr g) (hi : a.eval i = .int .i64 (j : Nat)) (hj : j < 2) : (execOp a.eval o).run Tryd.prog w = .ok (.value (.pointer (some ⟨g, j * 50, none⟩))) w := by
  have h78 : (Tryd.prog.info? 78).map (·.size) = some 50 := by kernel_rfl
  obtain ⟨i5, hi5, hsz⟩ := Option.map_eq_some_iff.1 h78
  simp [execOp, ho, hx, hi, Instr.indexAt, asIntOf, run_underlying Tryd.underlying119, Instr.sureAddr, hj, sizeOf, typeInfo, hi5, hsz, add_none]
theorem run_inc64 (x : Operand) (ho : o.op = .binOp .add 74 x (.const (.int .u64 1)) 74) (n : Nat) (hx : a.eval x = .int .u64 (n : Nat)) : (execOp a.eval o).run Tryd.prog w = .ok (.value (.int .u64 ((nextNum n : Nat) : Int))) w :=
  run_binOp' x (.const (.int .u64 1)) ho (.int .u64 (n : Nat)) (.int .u64 1) _ hx rfl rfl (by
    have hwr : IntKind.u64.wrap ((n : Int) + 1) = ((nextNum n : Nat) : Int) := by
      unfold nextNum
      simp [IntKind.wrap, IntKind.signed, IntKind.bits]
    simp [binOp, Op.intArith, hwr])
theorem run_eq64 (x y : Operand) (ho : o.op = .binOp .eql 74 x y 74) (m n : Nat) (hx : a.eval x = .int .u64 (m : Nat)) (hy : a.eval y = .int .u64 (n : Nat)) (b : Bool) (hb : decide (m = n) = b) : (execOp a.eval o).run Tryd.prog w = .ok (.value (.bool b)) w := by
  subst hb
  simp only [execOp, ho, hx, hy]
  by_cases h : m = n
  · subst h; simp [go_sem]
  · have h' : ¬ (m : Int) = (n : Int) := by omega
    simp [go_sem, h, h']
end
set_option maxHeartbeats 8000000 in
set_option maxRecDepth 100000 in
theorem readLast_any {w : World} {c : Nat → Colour} {t g : Nat} {m : Pl} (h : Live w c t g m) {ds ts : List Nat} {i n : Nat} (hd : DkOn m ds ts i) (hn : n = pagesN (ds.getD i 0)) (hn1 : 1 ≤ n) (ht : Fr.TabIn w) : Calls Tryd.prog 38 #[ptr g, .int .i64 (i : Nat)] w fun e w' => e = .returned (.tuple #[.agg (hdRes (lastOf (m.rd i) n)).toArray, .int .i64 (hdErr (lastOf (m.rd i) n))]) ∧ Below w.heap.size w w' := by
  obtain ⟨X, hX⟩ : ∃ X, X = m.rd i := ⟨_, rfl⟩
  have HSEC : Hid (∀ k H, headAt X n k = some H → H.WF) := fun k H hh => by rw [hX] at hh; exact (headAt_some (Pl.rd_sec h.2.1 i k) hh).1
  have HRH : Hid (∀ W k, k < 2 → Below w.heap.size w W → Calls Tryd.prog 65 #[ptr g, .int .i64 (i : Nat), .int .i64 (k : Nat)] W fun e w' => e = .returned (.tuple #[.agg (hdRes (headAt X n k)).toArray, .int .i64 (hdErr (headAt X n k))]) ∧ Below W.heap.size W w') := fun W k hk hW => by rw [hX]; exact readHead_any (h.below hW) hd hn hn1 (Fr.TabIn.later hW ht) k hk
  obtain ⟨r, hr⟩ : ∃ r, r = lastOf (m.rd i) n := ⟨_, rfl⟩
  have HR : Hid (r = lastOf X n) := by show _ = _; rw [hr, hX]
  obtain ⟨PQ, hPQ⟩ : ∃ PQ : Ending → World → Prop, PQ = fun (e : Ending) (w' : World) => e = .returned (.tuple #[.agg (hdRes r).toArray, .int .i64 (hdErr r)]) ∧ Below w.heap.size w w' := ⟨_, rfl⟩
  have HPQ : Hid (PQ = fun (e : Ending) (w' : World) => e = .returned (.tuple #[.agg (hdRes r).toArray, .int .i64 (hdErr r)]) ∧ Below w.heap.size w w') := hPQ
  rw [← hr, ← hPQ]
  clear hX hr hPQ h hd hn hn1 ht
  have R0 : Hid (Loc w w []) := Loc.nil (Below.refl _ w)
  go_enter Tryd.func38, Tryd.ntmps38
  go_upto_region 0 with fail
  refine wp_region_lit ?_
  refine wl rfl (ptr w.heap.size) _ (run_allocA (hdCells zHd) zero78' rfl) ?_
  have k_ := R0.out.box 78 (hdCells zHd)
  obtain ⟨w1, hW_⟩ : ∃ W, W = w.alloc (.cells (hdCells zHd).toArray 78) := ⟨_, rfl⟩
  obtain ⟨q1, hq_⟩ : ∃ q, q = w.heap.size := ⟨_, rfl⟩
  rw [← hW_, ← hq_] at k_
  rw [← hW_, ← hq_]
  clear hq_
  have Rw1 : Hid (Loc w w1 [(q1, 78, hdCells zHd)]) := k_
  clear k_ hW_ R0
  simp only [Act.put, aS, aC, aZ]
  refine wl rfl (.int .i64 0) _ (run_asZ (.const (.int .i64 0)) rfl (.int .i64 0) rfl) ?_
  simp only [Act.put, aS, aC, aZ]
  refine wpList_nil ?_
  go_upto_region 1 with fail
  refine wp_region_lit ?_
  refine wl rfl (ptr w1.heap.size) _ (run_allocA (hdCells zHd ++ hdCells zHd) zero119 rfl) ?_
  have k_ := Rw1.out.box 119 (hdCells zHd ++ hdCells zHd)
  obtain ⟨w2, hW_⟩ : ∃ W, W = w1.alloc (.cells (hdCells zHd ++ hdCells zHd).toArray 119) := ⟨_, rfl⟩
  obtain ⟨q2, hq_⟩ : ∃ q, q = w1.heap.size := ⟨_, rfl⟩
  rw [← hW_, ← hq_] at k_
  rw [← hW_, ← hq_]
  clear hq_
  have Rw2 : Hid (Loc w w2 [(q1, 78, hdCells zHd), (q2, 119, hdCells zHd ++ hdCells zHd)]) := k_
  clear k_ hW_ Rw1
  simp only [Act.put, aS, aC, aZ]
  refine wpList_nil ?_
  go_upto_region 2 with fail
  go_wp2_with fail
  go_loopw [10] (fun vj W => ∃ (j : Nat) (f : List Value), vj = .int .i64 (j : Nat) ∧ j ≤ 2 ∧ FoundTo X n j f ∧ Loc w W [(q1, 78, hdCells zHd), (q2, 119, f)]) (fun vj _ => 2 - (intOf vj).toNat)
  case atStart => exact ⟨0, _, rfl, Nat.zero_le _, Or.inl ⟨rfl, rfl⟩, Rw2.out⟩
  case round =>
    obtain ⟨j, f, rfl, hj, hf, hI⟩ := hrel
    have R : Hid (FoundTo X n j f ∧ Loc w wr [(q1, 78, hdCells zHd), (q2, 119, f)]) := ⟨hf, hI⟩
    have RL : Hid (Loc w wr [(q1, 78, hdCells zHd), (q2, 119, f)]) := hI
    clear hf hI Rw2
    by_cases hlt : j < 2
    · have t1 : decide ((j : Int) < 2) = true := decide_eq_true (by omega)
      obtain ⟨o, ho⟩ : ∃ o, o = headAt X n j := ⟨_, rfl⟩
      have HO : Hid (o = headAt X n j) := ho
      have HOW : Hid (∀ H, o = some H → H.WF) := fun H hh => HSEC.out j H (by rw [← ho]; exact hh)
      clear ho
      go_upto_region 5 with fail
      refine wp_region_lit ?_
      refine wl rfl (ptr g) _ (run_mvZ (.tmp 0) rfl (ptr g) rfl) ?_
      simp only [Act.put, aS, aC, aZ]
      refine wl rfl (.int .i64 (i : Nat)) _ (run_mvZ (.tmp 1) rfl (.int .i64 (i : Nat)) rfl) ?_
      simp only [Act.put, aS, aC, aZ]
      refine wl rfl (.int .i64 (j : Nat)) _ (run_mvZ (.tmp 7) rfl (.int .i64 (j : Nat)) rfl) ?_
      simp only [Act.put, aS, aC, aZ]
      refine wpList_callW eN65 [.tmp 14, .tmp 15, .tmp 16] _ rfl rfl [(ptr g), (.int .i64 (i : Nat)), (.int .i64 (j : Nat))] rfl ?_
      refine (HRH.out wr j hlt RL.out.below).mono ?_
      rintro e w3 ⟨rfl, b3⟩
      refine ⟨_, rfl, ?_⟩
      rw [← HO.out]
      have Rw3 : Hid (Loc w w3 [(q1, 78, hdCells zHd), (q2, 119, f)]) := RL.out.later b3
      clear RL b3
      simp only [Act.put, aS, aC, aZ]
      refine wl rfl (.tuple #[(.agg (hdRes o).toArray), (.int .i64 (hdErr o))]) _ (run_mvZ (.tmp 17) rfl (.tuple #[(.agg (hdRes o).toArray), (.int .i64 (hdErr o))]) rfl) ?_
      simp only [Act.put, aS, aC, aZ]
      refine wl rfl (.agg (hdRes o).toArray) _ (run_extZ (.tmp 13) 0 rfl #[(.agg (hdRes o).toArray), (.int .i64 (hdErr o))] rfl (.agg (hdRes o).toArray) rfl) ?_
      simp only [Act.put, aS, aC, aZ]
      refine wl rfl (.int .i64 (hdErr o)) _ (run_extZ (.tmp 13) 1 rfl #[(.agg (hdRes o).toArray), (.int .i64 (hdErr o))] rfl (.int .i64 (hdErr o)) rfl) ?_
      simp only [Act.put, aS, aC, aZ]
      refine wl rfl (ptr w3.heap.size) _ (run_allocA (hdCells zHd) zero78' rfl) ?_
      have k_ := Rw3.out.box 78 (hdCells zHd)
      obtain ⟨w4, hW_⟩ : ∃ W, W = w3.alloc (.cells (hdCells zHd).toArray 78) := ⟨_, rfl⟩
      obtain ⟨q3, hq_⟩ : ∃ q, q = w3.heap.size := ⟨_, rfl⟩
      rw [← hW_, ← hq_] at k_
      rw [← hW_, ← hq_]
      clear hq_
      have Rw4 : Hid (Loc w w4 [(q1, 78, hdCells zHd), (q2, 119, f), (q3, 78, hdCells zHd)]) := k_
      clear k_ hW_ Rw3
      simp only [Act.put, aS, aC, aZ]
      refine wlS rfl rfl _ (run_storeL ag78 (.tmp 8) (.tmp 18) rfl Rw4.out 2 rfl (0) rfl (hdRes o) rfl (hdRes_len HOW.out) (by rw [hdRes_len HOW.out, zHd_len]; decide) (hdRes_one o)).1 ?_
      have k_ := Rw4.out.lay 2 rfl (0) (hdRes o)
      rw [splice_all _ _ (by rw [hdRes_len HOW.out, zHd_len])] at k_ ⊢
      obtain ⟨w5, hW_⟩ : ∃ W, W = w4.setRow q3 (hdRes o).toArray := ⟨_, rfl⟩
      rw [← hW_] at k_ ⊢
      have Rw5 : Hid (Loc w w5 [(q1, 78, hdCells zHd), (q2, 119, f), (q3, 78, hdRes o)]) := k_
      clear k_ hW_ Rw4
      refine wl rfl (.int .i64 (hdErr o)) _ (run_asZ (.tmp 19) rfl (.int .i64 (hdErr o)) rfl) ?_
      simp only [Act.put, aS, aC, aZ]
      refine wpList_nil ?_
      cases o with
      | none =>
        have er : r = none := by
          rw [HR.out]
          unfold lastOf
          have hh := HO.out
          have hj2 : j = 0 ∨ j = 1 := by omega
          rcases hj2 with rfl | rfl
          · rw [← hh]
          · rw [← hh]
            cases headAt X n 0 <;> rfl
        subst er
        have Rw5x : Hid (Loc w w5 [(q1, 78, hdCells zHd), (q2, 119, f), (q3, 78, hdCells zHd)]) := Rw5.out
        clear Rw5
        go_upto_region 6 with fail
        refine wp_region_lit ?_
        refine wl rfl (.int .i64 4) _ (run_mvZ (.tmp 9) rfl (.int .i64 4) rfl) ?_
        simp only [Act.put, aS, aC, aZ]
        refine wl rfl (.bool true) _ (run_neZ (.tmp 20) (.const (.int .i64 0)) rfl (4) (0) rfl rfl true rfl) ?_
        simp only [Act.put, aS, aC, aZ]
        refine wpList_nil ?_
        go_upto_region 7 with fail
        refine wp_region_lit ?_
        refine wl rfl (.agg (hdCells zHd).toArray) _ (run_zHd rfl) ?_
        simp only [Act.put, aS, aC, aZ]
        refine wl rfl (.int .i64 4) _ (run_mvZ (.tmp 9) rfl (.int .i64 4) rfl) ?_
        simp only [Act.put, aS, aC, aZ]
        refine wlS rfl rfl _ (run_storeL ag78 (.tmp 4) (.tmp 22) rfl Rw5x.out 0 rfl (0) rfl (hdCells zHd) rfl zHd_len (by rw [zHd_len]; decide) (hdCells_one zHd)).1 ?_
        have k_ := Rw5x.out.lay 0 rfl (0) (hdCells zHd)
        rw [splice_all _ _ rfl] at k_ ⊢
        obtain ⟨w6, hW_⟩ : ∃ W, W = w5.setRow q1 (hdCells zHd).toArray := ⟨_, rfl⟩
        rw [← hW_] at k_ ⊢
        have Rw6 : Hid (Loc w w6 [(q1, 78, hdCells zHd), (q2, 119, f), (q3, 78, hdCells zHd)]) := k_
        clear k_ hW_ Rw5x
        refine wl rfl (.int .i64 4) _ (run_asZ (.tmp 23) rfl (.int .i64 4) rfl) ?_
        simp only [Act.put, aS, aC, aZ]
        refine wpList_nil ?_
        go_wp2_with fail
        rw [HPQ.out]
        exact bodyPost_ret (results_cell_tmp ag78 Tryd.results38 _ _ q1 78 rfl (hdCells zHd) zHd_len (Rw6.out.at 0 rfl)) rfl ⟨rfl, Rw6.out.below⟩
      | some H =>
        have HHW : Hid H.WF := HOW.out H rfl
        have Rw5x : Hid (Loc w w5 [(q1, 78, hdCells zHd), (q2, 119, f), (q3, 78, hdCells H)]) := Rw5.out
        clear Rw5
        go_upto_region 6 with fail
        refine wp_region_lit ?_
        refine wl rfl (.int .i64 0) _ (run_mvZ (.tmp 9) rfl (.int .i64 0) rfl) ?_
        simp only [Act.put, aS, aC, aZ]
        refine wl rfl (.bool false) _ (run_neZ (.tmp 20) (.const (.int .i64 0)) rfl (0) (0) rfl rfl false rfl) ?_
        simp only [Act.put, aS, aC, aZ]
        refine wpList_nil ?_
        go_upto_region 8 with fail
        refine wp_region_lit ?_
        refine wl rfl (.int .i64 (j : Nat)) _ (run_mvZ (.tmp 7) rfl (.int .i64 (j : Nat)) rfl) ?_
        simp only [Act.put, aS, aC, aZ]
        refine wl rfl (.agg (hdCells H).toArray) _ (run_loadA ag78 (.tmp 8) rfl q3 (0) rfl (hdCells H) (hd50 HHW.out) (rows_all Rw5x.out 2 rfl)) ?_
        simp only [Act.put, aS, aC, aZ]
        refine wl rfl (.pointer (some ⟨q2, j * 50, none⟩)) _ (run_ix119 (.tmp 6) (.tmp 24) rfl q2 j rfl rfl hlt) ?_
        simp only [Act.put, aS, aC, aZ]
        refine wlS rfl rfl _ (run_storeL ag78 (.tmp 26) (.tmp 25) rfl Rw5x.out 1 rfl (j * 50) rfl (hdCells H) rfl (hd50 HHW.out) (by rw [hd50 HHW.out, R.out.1.len]; omega) (hdCells_one H)).1 ?_
        have k_ := Rw5x.out.lay 1 rfl (j * 50) (hdCells H)
        obtain ⟨w6, hW_⟩ : ∃ W, W = w5.setRow q2 (splice f (j * 50) (hdCells H)).toArray := ⟨_, rfl⟩
        rw [← hW_] at k_ ⊢
        have Rw6 : Hid (Loc w w6 [(q1, 78, hdCells zHd), (q2, 119, splice f (j * 50) (hdCells H)), (q3, 78, hdCells H)]) := k_
        clear k_ hW_ Rw5x
        refine wpList_nil ?_
        go_wp2_with fail
        refine ⟨⟨j + 1, _, by go_num, by omega, R.out.1.next hlt HHW.out HO.out.symm, Rw6.out.take 2⟩, ?_⟩
        simp [intOf]; omega
    · have t1 : decide ((j : Int) < 2) = false := decide_eq_false (by omega)
      obtain ⟨a, b, ha, hb, h0, h1, hf⟩ : ∃ a b, a.WF ∧ b.WF ∧ headAt X n 0 = some a ∧ headAt X n 1 = some b ∧ f = hdCells a ++ hdCells b := by
        rcases R.out.1 with ⟨h, _⟩ | ⟨a, h, _⟩ | ⟨a, b, _, h1, h2, h3, h4, h5⟩
        · omega
        · omega
        · exact ⟨a, b, h1, h2, h3, h4, h5⟩
      have HAB : Hid (a.WF ∧ b.WF) := ⟨ha, hb⟩
      have ER : Hid (r = later a b) := by
        show r = _
        rw [HR.out]
        unfold lastOf
        rw [h0, h1]
      have RF : Hid (Loc w wr [(q1, 78, hdCells zHd), (q2, 119, hdCells a ++ hdCells b)]) := by rw [← hf]; exact RL.out
      have HA : Hid ((hdCells a ++ hdCells b)[0]? = some (.int .u64 (a.num : Nat)) ∧ (hdCells a ++ hdCells b)[50]? = some (.int .u64 (b.num : Nat)) ∧ (∀ (k : Nat) (v : Value), (hdCells a)[k]? = some v → (hdCells a ++ hdCells b)[k]? = some v) ∧ ∀ (k : Nat) (v : Value), (hdCells b)[k]? = some v → (hdCells a ++ hdCells b)[50 + k]? = some v) := by
        have hl := hd50 ha
        refine ⟨by rfl, ?_, fun k v hv => ?_, fun k v hv => ?_⟩
        · rw [List.getElem?_append_right (by omega), hl]; rfl
        · rw [List.getElem?_append_left (List.getElem?_eq_some_iff.1 hv).1]; exact hv
        · rw [List.getElem?_append_right (by omega), hl, Nat.add_sub_cancel_left]; exact hv
      clear ha hb h0 h1 hf R RL
      go_upto_region 10 with fail
      by_cases hA : a.num = nextNum b.num
      · have hda : decide (a.num = nextNum b.num) = true := decide_eq_true hA
        have er : r = some a := by
          rw [ER.out]
          unfold later
          exact if_pos hA
        subst er
        clear hA
        refine wp_region_lit ?_
        refine wl rfl (.pointer (some ⟨q2, 0 * 50, none⟩)) _ (run_ix119 (.tmp 6) (.const (.int .i64 0)) rfl q2 0 rfl rfl (by decide)) ?_
        simp only [Act.put, aS, aC, aZ]
        refine wl rfl (.pointer (some ⟨q2, 0 * 50 + 0, none⟩)) _ (run_fieldOp' f78_0 (.tmp 29) rfl q2 (0 * 50) rfl) ?_
        simp only [Act.put, aS, aC, aZ]
        refine wl rfl (.int .u64 (a.num : Nat)) _ (run_load1 o74 (.tmp 30) rfl q2 (0 * 50 + 0) rfl (.int .u64 (a.num : Nat)) (rows_at RF.out 1 rfl 0 _ HA.out.1)) ?_
        simp only [Act.put, aS, aC, aZ]
        refine wl rfl (.pointer (some ⟨q2, 1 * 50, none⟩)) _ (run_ix119 (.tmp 6) (.const (.int .i64 1)) rfl q2 1 rfl rfl (by decide)) ?_
        simp only [Act.put, aS, aC, aZ]
        refine wl rfl (.pointer (some ⟨q2, 1 * 50 + 0, none⟩)) _ (run_fieldOp' f78_0 (.tmp 32) rfl q2 (1 * 50) rfl) ?_
        simp only [Act.put, aS, aC, aZ]
        refine wl rfl (.int .u64 (b.num : Nat)) _ (run_load1 o74 (.tmp 33) rfl q2 (1 * 50 + 0) rfl (.int .u64 (b.num : Nat)) (rows_at RF.out 1 rfl 50 _ HA.out.2.1)) ?_
        simp only [Act.put, aS, aC, aZ]
        refine wl rfl (.int .u64 ((nextNum b.num : Nat) : Int)) _ (run_inc64 (.tmp 34) rfl b.num rfl) ?_
        simp only [Act.put, aS, aC, aZ]
        refine wl rfl (.bool true) _ (run_eq64 (.tmp 31) (.tmp 35) rfl a.num (nextNum b.num) rfl rfl true hda) ?_
        simp only [Act.put, aS, aC, aZ]
        refine wl rfl (.bool true) _ (run_asZ (.tmp 36) rfl (.bool true) rfl) ?_
        simp only [Act.put, aS, aC, aZ]
        refine wpList_nil ?_
        go_upto_region 11 with fail
        refine wp_region_lit ?_
        refine wl rfl (.pointer (some ⟨q2, 0 * 50, none⟩)) _ (run_ix119 (.tmp 6) (.const (.int .i64 0)) rfl q2 0 rfl rfl (by decide)) ?_
        simp only [Act.put, aS, aC, aZ]
        refine wl rfl (.agg (hdCells a).toArray) _ (run_loadA ag78 (.tmp 37) rfl q2 (0 * 50) rfl (hdCells a) (hd50 HAB.out.1) (fun k v hv => by rw [Nat.zero_mul, Nat.zero_add]; exact rows_at RF.out 1 rfl k v (HA.out.2.2.1 k v hv))) ?_
        simp only [Act.put, aS, aC, aZ]
        refine wlS rfl rfl _ (run_storeL ag78 (.tmp 4) (.tmp 38) rfl RF.out 0 rfl (0) rfl (hdCells a) rfl (hd50 HAB.out.1) (by rw [hd50 HAB.out.1, zHd_len]; decide) (hdCells_one a)).1 ?_
        have k_ := RF.out.lay 0 rfl (0) (hdCells a)
        rw [spliceHd HAB.out.1] at k_ ⊢
        obtain ⟨w6, hW_⟩ : ∃ W, W = wr.setRow q1 (hdCells a).toArray := ⟨_, rfl⟩
        rw [← hW_] at k_ ⊢
        have Rw6 : Hid (Loc w w6 [(q1, 78, hdCells a), (q2, 119, hdCells a ++ hdCells b)]) := k_
        clear k_ hW_ RF
        refine wl rfl (.int .i64 0) _ (run_asZ (.const (.int .i64 0)) rfl (.int .i64 0) rfl) ?_
        simp only [Act.put, aS, aC, aZ]
        refine wpList_nil ?_
        go_wp2_with fail
        rw [HPQ.out]
        exact bodyPost_ret (results_cell_tmp ag78 Tryd.results38 _ _ q1 78 rfl (hdCells a) (hd50 HAB.out.1) (Rw6.out.at 0 rfl)) rfl ⟨rfl, Rw6.out.below⟩
      · have hda : decide (a.num = nextNum b.num) = false := decide_eq_false hA
        refine wp_region_lit ?_
        refine wl rfl (.pointer (some ⟨q2, 0 * 50, none⟩)) _ (run_ix119 (.tmp 6) (.const (.int .i64 0)) rfl q2 0 rfl rfl (by decide)) ?_
        simp only [Act.put, aS, aC, aZ]
        refine wl rfl (.pointer (some ⟨q2, 0 * 50 + 0, none⟩)) _ (run_fieldOp' f78_0 (.tmp 29) rfl q2 (0 * 50) rfl) ?_
        simp only [Act.put, aS, aC, aZ]
        refine wl rfl (.int .u64 (a.num : Nat)) _ (run_load1 o74 (.tmp 30) rfl q2 (0 * 50 + 0) rfl (.int .u64 (a.num : Nat)) (rows_at RF.out 1 rfl 0 _ HA.out.1)) ?_
        simp only [Act.put, aS, aC, aZ]
        refine wl rfl (.pointer (some ⟨q2, 1 * 50, none⟩)) _ (run_ix119 (.tmp 6) (.const (.int .i64 1)) rfl q2 1 rfl rfl (by decide)) ?_
        simp only [Act.put, aS, aC, aZ]
        refine wl rfl (.pointer (some ⟨q2, 1 * 50 + 0, none⟩)) _ (run_fieldOp' f78_0 (.tmp 32) rfl q2 (1 * 50) rfl) ?_
        simp only [Act.put, aS, aC, aZ]
        refine wl rfl (.int .u64 (b.num : Nat)) _ (run_load1 o74 (.tmp 33) rfl q2 (1 * 50 + 0) rfl (.int .u64 (b.num : Nat)) (rows_at RF.out 1 rfl 50 _ HA.out.2.1)) ?_
        simp only [Act.put, aS, aC, aZ]
        refine wl rfl (.int .u64 ((nextNum b.num : Nat) : Int)) _ (run_inc64 (.tmp 34) rfl b.num rfl) ?_
        simp only [Act.put, aS, aC, aZ]
        refine wl rfl (.bool false) _ (run_eq64 (.tmp 31) (.tmp 35) rfl a.num (nextNum b.num) rfl rfl false hda) ?_
        simp only [Act.put, aS, aC, aZ]
        refine wl rfl (.bool false) _ (run_asZ (.tmp 36) rfl (.bool false) rfl) ?_
        simp only [Act.put, aS, aC, aZ]
        refine wpList_nil ?_
        go_upto_region 12 with fail
        by_cases hB : b.num = nextNum a.num
        · have hdb : decide (b.num = nextNum a.num) = true := decide_eq_true hB
          have er : r = some b := by
            rw [ER.out]
            unfold later
            exact (if_neg hA).trans (if_pos hB)
          subst er
          clear hA hB
          refine wp_region_lit ?_
          refine wl rfl (.pointer (some ⟨q2, 1 * 50, none⟩)) _ (run_ix119 (.tmp 6) (.const (.int .i64 1)) rfl q2 1 rfl rfl (by decide)) ?_
          simp only [Act.put, aS, aC, aZ]
          refine wl rfl (.pointer (some ⟨q2, 1 * 50 + 0, none⟩)) _ (run_fieldOp' f78_0 (.tmp 40) rfl q2 (1 * 50) rfl) ?_
          simp only [Act.put, aS, aC, aZ]
          refine wl rfl (.int .u64 (b.num : Nat)) _ (run_load1 o74 (.tmp 41) rfl q2 (1 * 50 + 0) rfl (.int .u64 (b.num : Nat)) (rows_at RF.out 1 rfl 50 _ HA.out.2.1)) ?_
          simp only [Act.put, aS, aC, aZ]
          refine wl rfl (.pointer (some ⟨q2, 0 * 50, none⟩)) _ (run_ix119 (.tmp 6) (.const (.int .i64 0)) rfl q2 0 rfl rfl (by decide)) ?_
          simp only [Act.put, aS, aC, aZ]
          refine wl rfl (.pointer (some ⟨q2, 0 * 50 + 0, none⟩)) _ (run_fieldOp' f78_0 (.tmp 43) rfl q2 (0 * 50) rfl) ?_
          simp only [Act.put, aS, aC, aZ]
          refine wl rfl (.int .u64 (a.num : Nat)) _ (run_load1 o74 (.tmp 44) rfl q2 (0 * 50 + 0) rfl (.int .u64 (a.num : Nat)) (rows_at RF.out 1 rfl 0 _ HA.out.1)) ?_
          simp only [Act.put, aS, aC, aZ]
          refine wl rfl (.int .u64 ((nextNum a.num : Nat) : Int)) _ (run_inc64 (.tmp 45) rfl a.num rfl) ?_
          simp only [Act.put, aS, aC, aZ]
          refine wl rfl (.bool true) _ (run_eq64 (.tmp 42) (.tmp 46) rfl b.num (nextNum a.num) rfl rfl true hdb) ?_
          simp only [Act.put, aS, aC, aZ]
          refine wl rfl (.bool true) _ (run_asZ (.tmp 47) rfl (.bool true) rfl) ?_
          simp only [Act.put, aS, aC, aZ]
          refine wpList_nil ?_
          go_upto_region 13 with fail
          refine wp_region_lit ?_
          refine wl rfl (.pointer (some ⟨q2, 1 * 50, none⟩)) _ (run_ix119 (.tmp 6) (.const (.int .i64 1)) rfl q2 1 rfl rfl (by decide)) ?_
          simp only [Act.put, aS, aC, aZ]
          refine wl rfl (.agg (hdCells b).toArray) _ (run_loadA ag78 (.tmp 48) rfl q2 (1 * 50) rfl (hdCells b) (hd50 HAB.out.2) (fun k v hv => by rw [Nat.one_mul]; exact rows_at RF.out 1 rfl (50 + k) v (HA.out.2.2.2 k v hv))) ?_
          simp only [Act.put, aS, aC, aZ]
          refine wlS rfl rfl _ (run_storeL ag78 (.tmp 4) (.tmp 49) rfl RF.out 0 rfl (0) rfl (hdCells b) rfl (hd50 HAB.out.2) (by rw [hd50 HAB.out.2, zHd_len]; decide) (hdCells_one b)).1 ?_
          have k_ := RF.out.lay 0 rfl (0) (hdCells b)
          rw [spliceHd HAB.out.2] at k_ ⊢
          obtain ⟨w6, hW_⟩ : ∃ W, W = wr.setRow q1 (hdCells b).toArray := ⟨_, rfl⟩
          rw [← hW_] at k_ ⊢
          have Rw6 : Hid (Loc w w6 [(q1, 78, hdCells b), (q2, 119, hdCells a ++ hdCells b)]) := k_
          clear k_ hW_ RF
          refine wl rfl (.int .i64 0) _ (run_asZ (.const (.int .i64 0)) rfl (.int .i64 0) rfl) ?_
          simp only [Act.put, aS, aC, aZ]
          refine wpList_nil ?_
          go_wp2_with fail
          rw [HPQ.out]
          exact bodyPost_ret (results_cell_tmp ag78 Tryd.results38 _ _ q1 78 rfl (hdCells b) (hd50 HAB.out.2) (Rw6.out.at 0 rfl)) rfl ⟨rfl, Rw6.out.below⟩
        · have hdb : decide (b.num = nextNum a.num) = false := decide_eq_false hB
          have er : r = none := by
            rw [ER.out]
            unfold later
            exact (if_neg hA).trans (if_neg hB)
          subst er
          clear hA hB
          refine wp_region_lit ?_
          refine wl rfl (.pointer (some ⟨q2, 1 * 50, none⟩)) _ (run_ix119 (.tmp 6) (.const (.int .i64 1)) rfl q2 1 rfl rfl (by decide)) ?_
          simp only [Act.put, aS, aC, aZ]
          refine wl rfl (.pointer (some ⟨q2, 1 * 50 + 0, none⟩)) _ (run_fieldOp' f78_0 (.tmp 40) rfl q2 (1 * 50) rfl) ?_
          simp only [Act.put, aS, aC, aZ]
          refine wl rfl (.int .u64 (b.num : Nat)) _ (run_load1 o74 (.tmp 41) rfl q2 (1 * 50 + 0) rfl (.int .u64 (b.num : Nat)) (rows_at RF.out 1 rfl 50 _ HA.out.2.1)) ?_
          simp only [Act.put, aS, aC, aZ]
          refine wl rfl (.pointer (some ⟨q2, 0 * 50, none⟩)) _ (run_ix119 (.tmp 6) (.const (.int .i64 0)) rfl q2 0 rfl rfl (by decide)) ?_
          simp only [Act.put, aS, aC, aZ]
          refine wl rfl (.pointer (some ⟨q2, 0 * 50 + 0, none⟩)) _ (run_fieldOp' f78_0 (.tmp 43) rfl q2 (0 * 50) rfl) ?_
          simp only [Act.put, aS, aC, aZ]
          refine wl rfl (.int .u64 (a.num : Nat)) _ (run_load1 o74 (.tmp 44) rfl q2 (0 * 50 + 0) rfl (.int .u64 (a.num : Nat)) (rows_at RF.out 1 rfl 0 _ HA.out.1)) ?_
          simp only [Act.put, aS, aC, aZ]
          refine wl rfl (.int .u64 ((nextNum a.num : Nat) : Int)) _ (run_inc64 (.tmp 45) rfl a.num rfl) ?_
          simp only [Act.put, aS, aC, aZ]
          refine wl rfl (.bool false) _ (run_eq64 (.tmp 42) (.tmp 46) rfl b.num (nextNum a.num) rfl rfl false hdb) ?_
          simp only [Act.put, aS, aC, aZ]
          refine wl rfl (.bool false) _ (run_asZ (.tmp 47) rfl (.bool false) rfl) ?_
          simp only [Act.put, aS, aC, aZ]
          refine wpList_nil ?_
          go_upto_region 14 with fail
          refine wp_region_lit ?_
          refine wl rfl (.agg (hdCells zHd).toArray) _ (run_zHd rfl) ?_
          simp only [Act.put, aS, aC, aZ]
          refine wlS rfl rfl _ (run_storeL ag78 (.tmp 4) (.tmp 50) rfl RF.out 0 rfl (0) rfl (hdCells zHd) rfl zHd_len (by rw [zHd_len]; decide) (hdCells_one zHd)).1 ?_
          have k_ := RF.out.lay 0 rfl (0) (hdCells zHd)
          rw [splice_all _ _ rfl] at k_ ⊢
          obtain ⟨w6, hW_⟩ : ∃ W, W = wr.setRow q1 (hdCells zHd).toArray := ⟨_, rfl⟩
          rw [← hW_] at k_ ⊢
          have Rw6 : Hid (Loc w w6 [(q1, 78, hdCells zHd), (q2, 119, hdCells a ++ hdCells b)]) := k_
          clear k_ hW_ RF
          refine wl rfl (.int .i64 4) _ (run_asZ (.const (.int .i64 4)) rfl (.int .i64 4) rfl) ?_
          simp only [Act.put, aS, aC, aZ]
          refine wpList_nil ?_
          go_wp2_with fail
          rw [HPQ.out]
          exact bodyPost_ret (results_cell_tmp ag78 Tryd.results38 _ _ q1 78 rfl (hdCells zHd) zHd_len (Rw6.out.at 0 rfl)) rfl ⟨rfl, Rw6.out.below⟩
end Go.Proofs.YtkpnflgnhhfjoaaDoor

namespace Go.Proofs.YtkpnflgnhhfjoaaDoor
open Go.RowKit Go.Maps
open Fr.Frame (be val)

theorem Nx.tab {w : World} {c : Nat → Colour} {t g : Nat} {m : Pl} {w1 : World} (h : Nx w c t g m w1) (ht : Fr.TabIn w) (hc : (c 0).1 ≠ t) : Fr.TabIn w1 := by obtain ⟨_, _, _, h3⟩ := h; exact fun r => h3.cell hc (ht r)
set_option maxHeartbeats 8000000 in
set_option maxRecDepth 100000 in
theorem layHead_any {w : World} {c : Nat → Colour} {t g : Nat} {m : Pl} (h : Live w c t g m) (hst : m.steps + 20 < 1099511627775) (ht : Fr.TabIn w) (d : Int) (H : Hd) (hw : H.WF) : Calls Tryd.prog 39 #[ptr g, .int .i64 d, .agg (hdCells H).toArray] w fun e w' => e = .returned (.int .i64 (m.lay d (H.num % 2) [hdSec H]).1) ∧ Nx w c t g (m.lay d (H.num % 2) [hdSec H]).2 w' := by
  have HW : Hid H.WF := hw
  obtain ⟨s, hs⟩ : ∃ s, s = hdSec H := ⟨_, rfl⟩
  obtain ⟨sl, hsl⟩ : ∃ sl, sl = H.num % 2 := ⟨_, rfl⟩
  have hsec : Sec s := by rw [hs]; exact hdSec_sec hw
  obtain ⟨e1, he1⟩ : ∃ e1, e1 = (m.write d (sl : Nat) s).1 := ⟨_, rfl⟩
  obtain ⟨M1, hM1⟩ : ∃ M1, M1 = (m.write d (sl : Nat) s).2 := ⟨_, rfl⟩
  obtain ⟨er, her⟩ : ∃ er, er = (m.lay d sl [s]).1 := ⟨_, rfl⟩
  obtain ⟨M, hM⟩ : ∃ M, M = (m.lay d sl [s]).2 := ⟨_, rfl⟩
  have HSL : Hid (∀ W, Calls Tryd.prog 67 #[.agg (hdCells H).toArray] W fun e w' => e = .returned (.int .i64 (sl : Nat)) ∧ Below W.heap.size W w') := fun W => by rw [hsl]; exact slot_any W H hw
  have HSC : Hid (∀ W, Below w.heap.size w W → Calls Tryd.prog 68 #[.agg (hdCells H).toArray] W fun e w' => e = .returned (.agg (bcells s).toArray) ∧ Below W.heap.size W w') := fun W hW => by rw [hs]; exact sector_any W (Fr.TabIn.later hW ht) H hw
  have HWR : Hid (∀ W, Below w.heap.size w W → Calls Tryd.prog 66 #[ptr g, .int .i64 d, .int .i64 (sl : Nat), .agg (bcells s).toArray] W fun e w' => e = .returned (.int .i64 e1) ∧ Nx w c t g M1 w') := fun W hW => by
    refine (writeSector_any (h.below hW) hst d (sl : Nat) s hsec).mono fun e w' he => ⟨by rw [he1]; exact he.1, ?_⟩
    rw [hM1]
    exact Nx.after (fun _ _ => rfl) (Ch.of_below hW) he.2
  have hlay : m.lay d sl [s] = if e1 = 0 then M1.flush d else (e1, M1) := by
    rw [he1, hM1]
    rfl
  have hst1 : M1.steps ≤ m.steps + 1 := by
    rw [hM1]
    unfold Pl.write
    have := m.step_le
    split
    · exact Nat.le_succ _
    · split
      · exact Nat.le_succ _
      · split
        · exact Nat.le_succ _
        · split
          · exact this
          · exact this
  have HFL : Hid (∀ W, Nx w c t g M1 W → Calls Tryd.prog 34 #[ptr g, .int .i64 d] W fun e w' => e = .returned (.int .i64 (M1.flush d).1) ∧ Nx w c t g (M1.flush d).2 w') := fun W hW => by
    obtain ⟨c', h1, h2, h3⟩ := hW
    exact (h2.flush (by omega) d).mono fun e w' he => ⟨he.1, Nx.after h1 h3 he.2.nx⟩
  have HER : Hid ((e1 = 0 → er = (M1.flush d).1 ∧ M = (M1.flush d).2) ∧ (e1 ≠ 0 → er = e1 ∧ M = M1)) := by
    refine ⟨fun h0 => ?_, fun h0 => ?_⟩
    · rw [her, hM, hlay, if_pos h0]; exact ⟨rfl, rfl⟩
    · rw [her, hM, hlay, if_neg h0]; exact ⟨rfl, rfl⟩
  obtain ⟨PQ, hPQ⟩ : ∃ PQ : Ending → World → Prop, PQ = fun (e : Ending) (w' : World) => e = .returned (.int .i64 er) ∧ Nx w c t g M w' := ⟨_, rfl⟩
  have HPQ : Hid (PQ = fun (e : Ending) (w' : World) => e = .returned (.int .i64 er) ∧ Nx w c t g M w') := hPQ
  rw [← hs, ← hsl, ← her, ← hM, ← hPQ]
  clear hs hsl her hM he1 hM1 hlay hst1 hPQ h hst ht hw hsec
  have R0 : Hid (Loc w w []) := Loc.nil (Below.refl _ w)
  go_enter Tryd.func39, Tryd.ntmps39
  go_upto_region 0 with fail
  refine wp_region_lit ?_
  refine wl rfl (ptr w.heap.size) _ (run_boxA (.tmp 2) rfl (hdCells H) rfl) ?_
  have k_ := R0.out.box 78 (hdCells H)
  obtain ⟨w1, hW_⟩ : ∃ W, W = w.alloc (.cells (hdCells H).toArray 78) := ⟨_, rfl⟩
  obtain ⟨q1, hq_⟩ : ∃ q, q = w.heap.size := ⟨_, rfl⟩
  rw [← hW_, ← hq_] at k_
  rw [← hW_, ← hq_]
  clear hq_
  have Rw1 : Hid (Loc w w1 [(q1, 78, hdCells H)]) := k_
  clear k_ hW_ R0
  simp only [Act.put, aS, aC, aZ]
  refine wl rfl (.int .i64 0) _ (run_asZ (.const (.int .i64 0)) rfl (.int .i64 0) rfl) ?_
  simp only [Act.put, aS, aC, aZ]
  refine wpList_nil ?_
  go_upto_region 1 with fail
  refine wp_region_until (S := fun X => Row X q1 78 (hdCells H)) 6 (by kernel_rfl) ?_
  show wpAnyU _ _ _ _ _ _ 8 (Array.replicate 8 false) _ _
  obtain ⟨X, hX⟩ : ∃ X : World, X = { w1 with drawn := w1.drawn + 1 } := ⟨_, rfl⟩
  rw [← hX]
  have hL : Loc w X [(q1, 78, hdCells H)] := by rw [hX]; exact Rw1.out.drew
  clear Rw1
  clear hX
  refine takeV (i := 0) [6] (some 8) rfl rfl (by kernel_rfl) (by kernel_rfl) (by kernel_rfl) (by kernel_rfl) (fun _ _ _ h => h) (gRun rfl (ptr g) fun _ h => run_mvZ (.tmp 0) rfl (ptr g) rfl) (hL.at 0 rfl) ?_
  simp only [Act.put, aS, aC, aZ]
  refine takeV (i := 1) [6] (some 9) rfl rfl (by kernel_rfl) (by kernel_rfl) (by kernel_rfl) (by kernel_rfl) (fun _ _ _ h => h) (gRun rfl (.int .i64 d) fun _ h => run_mvZ (.tmp 1) rfl (.int .i64 d) rfl) (hL.at 0 rfl) ?_
  simp only [Act.put, aS, aC, aZ]
  refine takeV (i := 2) [3, 6] (some 10) rfl rfl (by kernel_rfl) (by kernel_rfl) (by kernel_rfl) (by kernel_rfl) (fun _ _ _ h => h) (gRun rfl (.agg (hdCells H).toArray) fun _ h => run_loadA ag78 (.tmp 5) rfl q1 (0) rfl (hdCells H) (hd50 HW.out) (fun j v hv => by rw [Nat.zero_add]; exact h.at j v hv)) (hL.at 0 rfl) ?_
  simp only [Act.put, aS, aC, aZ]
  refine takeV (i := 4) [5, 6] (some 12) rfl rfl (by kernel_rfl) (by kernel_rfl) (by kernel_rfl) (by kernel_rfl) (fun _ _ _ h => h) (gRun rfl (.agg (hdCells H).toArray) fun _ h => run_loadA ag78 (.tmp 5) rfl q1 (0) rfl (hdCells H) (hd50 HW.out) (fun j v hv => by rw [Nat.zero_add]; exact h.at j v hv)) (hL.at 0 rfl) ?_
  simp only [Act.put, aS, aC, aZ]
  refine oneU (i := 3) (by kernel_rfl) ?_
  refine opCallG (some 11) rfl rfl rfl 67 _ (run_call eN67 [.tmp 10] _ rfl [(.agg (hdCells H).toArray)] rfl) ?_
  refine (HSL.out _).mono ?_
  rintro e w2 ⟨rfl, b_⟩
  refine ⟨_, rfl, ?_⟩
  have k_ := hL.later b_
  clear hL b_
  have hL : Loc w w2 [(q1, 78, hdCells H)] := k_
  clear k_
  refine ⟨fun _ => hL.at 0 rfl, ?_⟩
  simp only [Act.put, aS, aC, aZ]
  refine oneU (i := 5) (by kernel_rfl) ?_
  refine opCallG (some 13) rfl rfl rfl 68 _ (run_call eN68 [.tmp 12] _ rfl [(.agg (hdCells H).toArray)] rfl) ?_
  refine (HSC.out _ hL.below).mono ?_
  rintro e w3 ⟨rfl, b_⟩
  refine ⟨_, rfl, ?_⟩
  have k_ := hL.later b_
  clear hL b_
  have hL : Loc w w3 [(q1, 78, hdCells H)] := k_
  clear k_
  refine ⟨fun _ => hL.at 0 rfl, ?_⟩
  simp only [Act.put, aS, aC, aZ]
  refine oneU (i := 6) (by kernel_rfl) ?_
  refine opCallG (some 14) rfl rfl rfl 66 _ (run_call eN66 [.tmp 8, .tmp 9, .tmp 11, .tmp 13] _ rfl [(ptr g), (.int .i64 d), (.int .i64 (sl : Nat)), (.agg (bcells s).toArray)] rfl) ?_
  refine (HWR.out _ hL.below).mono ?_
  rintro e w4 ⟨rfl, b_⟩
  refine ⟨_, rfl, ?_⟩
  have RN : Hid (Nx w c t g M1 w4) := b_
  clear b_ hL
  refine ⟨fun h => absurd (show true = false from h) (by decide), ?_⟩
  simp only [Act.put, aS, aC, aZ]
  refine oneU (i := 7) (by kernel_rfl) ?_
  refine opValueG (some 7) rfl rfl rfl (.int .i64 e1) _ (run_asZ (.tmp 14) rfl (.int .i64 e1) rfl) ?_
  refine ⟨fun h => absurd (show true = false from h) (by decide), ?_⟩
  simp only [Act.put, aS, aC, aZ]
  refine wpAnyU_done (by kernel_rfl) ?_ _
  go_upto_region 2 with fail
  by_cases h0 : e1 = 0
  · have hd0 : (!decide (e1 = 0)) = false := by rw [decide_eq_true h0]; rfl
    refine wp_region_lit ?_
    refine wl rfl (.int .i64 e1) _ (run_mvZ (.tmp 7) rfl (.int .i64 e1) rfl) ?_
    simp only [Act.put, aS, aC, aZ]
    refine wl rfl (.bool false) _ (run_neZ (.tmp 15) (.const (.int .i64 0)) rfl e1 0 rfl rfl false hd0) ?_
    simp only [Act.put, aS, aC, aZ]
    refine wpList_nil ?_
    go_upto_region 4 with fail
    refine wp_region_lit ?_
    refine wl rfl (ptr g) _ (run_mvZ (.tmp 0) rfl (ptr g) rfl) ?_
    simp only [Act.put, aS, aC, aZ]
    refine wl rfl (.int .i64 d) _ (run_mvZ (.tmp 1) rfl (.int .i64 d) rfl) ?_
    simp only [Act.put, aS, aC, aZ]
    refine wpList_callW eN34 [.tmp 18, .tmp 19] _ rfl rfl [(ptr g), (.int .i64 d)] rfl ?_
    refine (HFL.out w4 RN.out).mono ?_
    rintro e w5 ⟨rfl, n5⟩
    refine ⟨_, rfl, ?_⟩
    have R5 : Hid (Nx w c t g (M1.flush d).2 w5) := n5
    clear n5 RN
    simp only [Act.put, aS, aC, aZ]
    refine wl rfl (.int .i64 (M1.flush d).1) _ (run_asZ (.tmp 20) rfl (.int .i64 (M1.flush d).1) rfl) ?_
    simp only [Act.put, aS, aC, aZ]
    refine wpList_nil ?_
    have HE : Hid (er = (M1.flush d).1 ∧ M = (M1.flush d).2) := HER.out.1 h0
    clear h0 hd0
    go_wp2_with fail
    rw [HPQ.out]
    exact ⟨by rw [HE.out.1]; rfl, by rw [HE.out.2]; exact R5.out⟩
  · have hd0 : (!decide (e1 = 0)) = true := by rw [decide_eq_false h0]; rfl
    refine wp_region_lit ?_
    refine wl rfl (.int .i64 e1) _ (run_mvZ (.tmp 7) rfl (.int .i64 e1) rfl) ?_
    simp only [Act.put, aS, aC, aZ]
    refine wl rfl (.bool true) _ (run_neZ (.tmp 15) (.const (.int .i64 0)) rfl e1 0 rfl rfl true hd0) ?_
    simp only [Act.put, aS, aC, aZ]
    refine wpList_nil ?_
    have HE : Hid (er = e1 ∧ M = M1) := HER.out.2 h0
    clear h0 hd0
    go_wp2_with fail
    rw [HPQ.out]
    exact ⟨by rw [HE.out.1]; rfl, by rw [HE.out.2]; exact RN.out⟩
end Go.Proofs.YtkpnflgnhhfjoaaDoor

/- Layer 9: both heads are laid down; a disk is formatted. Layer 9: both heads are laid down; a disk without a pager is formatted. -/
import Derived.Test.YtkpnflgnhhfjoaaDoorZ24
namespace Go.Proofs.YtkpnflgnhhfjoaaDoor
open Go.RowKit Go.Maps
open Fr.Frame (be val)

theorem run_build125z (w : World) : (Instr.build 125 #[]).run Tryd.prog w = .ok (.agg (bcells (zeros ++ zeros)).toArray) w := by kernel_rfl
theorem run_build125zOp {w : World} {a : Act} {o : Oper} (ho : o.op = .build 125 #[]) : (execOp a.eval o).run Tryd.prog w = .ok (.value (.agg (bcells (zeros ++ zeros)).toArray)) w := by
  simp only [execOp, ho, List.map_toArray, List.map_nil, run_build125z, Sem.run_bind, Sem.run_pure, Result.andThen_ok]
theorem run_build125 (w : World) (s0 s1 : List Nat) (h0 : s0.length = 64) (h1 : s1.length = 64) : (Instr.build 125 #[(0, .agg (bcells s0).toArray), (1, .agg (bcells s1).toArray)]).run Tryd.prog w = .ok (.agg (bcells (s0 ++ s1)).toArray) w := by
  have b0 := bc64 s0 h0
  have b1 := bc64 s1 h1
  have hz : (zeroValue 125).run Tryd.prog w = .ok (.agg (zerosU8 128).toArray) w := by kernel_rfl
  have h122 : (Tryd.prog.info? 122).map (·.size) = some 64 := by kernel_rfl
  obtain ⟨i5, hi5, hsz⟩ := Option.map_eq_some_iff.1 h122
  have e0 : splice (zerosU8 128) 0 (bcells s0) = bcells s0 ++ zerosU8 64 := by
    unfold splice
    simp [b0, zerosU8]
  have e1 : splice (bcells s0 ++ zerosU8 64) 64 (bcells s1) = bcells (s0 ++ s1) := by
    unfold splice
    simp [b0, b1, zerosU8, bcells_append]
  have hf : ∀ place : Nat → Option (Nat × Nat), place 0 = some (0, 64) → place 1 = some (64, 64) → Instr.fill place (zerosU8 128).toArray [(0, .agg (bcells s0).toArray), (1, .agg (bcells s1).toArray)] = some (bcells (s0 ++ s1)).toArray := fun place p0 p1 => by
    rw [fill_step _ _ 0 (.agg (bcells s0).toArray) _ 0 64 (bcells s0) p0 rfl b0 (by simp [zerosU8, b0]), fill_step _ _ 1 (.agg (bcells s1).toArray) _ 64 64 (bcells s1) p1 rfl b1 (by simp [splice, zerosU8, b0, b1])]
    rw [show (splice (zerosU8 128).toArray.toList 0 (bcells s0)) = bcells s0 ++ zerosU8 64 from e0, show (splice (bcells s0 ++ zerosU8 64).toArray.toList 64 (bcells s1)) = bcells (s0 ++ s1) from e1]
    rfl
  simp [Instr.build, hz, run_underlying Tryd.underlying125, Value.cells, sizeOf, typeInfo, hi5, hsz]
  rw [hf _ rfl rfl]
  rfl
theorem run_index125 {w : World} {a : Act} {o : Oper} (x i : Operand) (ho : o.op = .index 125 x i) (s0 s1 : List Nat) (h0 : s0.length = 64) (h1 : s1.length = 64) (j : Nat) (hj : j < 2) (hx : a.eval x = .agg (bcells (s0 ++ s1)).toArray) (hi : a.eval i = .int .i64 (j : Nat)) : (execOp a.eval o).run Tryd.prog w = .ok (.value (.agg (bcells ([s0, s1].getD j [])).toArray)) w := by
  have h122 : (Tryd.prog.info? 122).map (·.size) = some 64 := by kernel_rfl
  obtain ⟨i5, hi5, hsz⟩ := Option.map_eq_some_iff.1 h122
  have b0 := bc64 s0 h0
  have b1 := bc64 s1 h1
  have hm : j = 0 ∨ j = 1 := by omega
  rcases hm with rfl | rfl
  · simp [execOp, ho, hx, hi, Instr.index, asIntOf, run_underlying Tryd.underlying125, sizeOf, typeInfo, hi5, hsz, part, isAgg, run_underlying Tryd.underlying122, bcells_append, b0, b1]
  · simp [execOp, ho, hx, hi, Instr.index, asIntOf, run_underlying Tryd.underlying125, sizeOf, typeInfo, hi5, hsz, part, isAgg, run_underlying Tryd.underlying122, bcells_append, b0]
    exact List.take_of_length_le (by omega)
end Go.Proofs.YtkpnflgnhhfjoaaDoor

namespace Go.Proofs.YtkpnflgnhhfjoaaDoor
open Go.RowKit Go.Maps
open Fr.Frame (be val)

theorem Pl.write_le (m : Pl) (d p : Int) (s : List Nat) : (m.write d p s).2.steps ≤ m.steps + 1 := by
  unfold Pl.write
  have := m.step_le
  split
  · exact Nat.le_succ _
  · split
    · exact Nat.le_succ _
    · split
      · exact Nat.le_succ _
      · split
        · exact this
        · exact this
theorem Pl.flush_le (m : Pl) (d : Int) : (m.flush d).2.steps ≤ m.steps + 1 := by
  unfold Pl.flush
  have := m.step_le
  split
  · exact Nat.le_succ _
  · split
    · exact Nat.le_succ _
    · split
      · exact this
      · exact this
theorem Pl.lay_le (m : Pl) (d : Int) : ∀ (L : List (List Nat)) (a : Nat), (m.lay d a L).2.steps ≤ m.steps + L.length + 1 := by
  intro L
  induction L generalizing m with
  | nil => intro a; exact m.flush_le d
  | cons s L ih =>
    intro a
    unfold Pl.lay
    have h1 := m.write_le d (a : Int) s
    split
    · have := ih (m.write d (a : Int) s).2 (a + 1)
      rw [List.length_cons]; omega
    · rw [List.length_cons]; omega
theorem run_build125Op {w : World} {a : Act} {o : Oper} (x y : Operand) (ho : o.op = .build 125 #[(0, x), (1, y)]) (s0 s1 : List Nat) (h0 : s0.length = 64) (h1 : s1.length = 64) (hx : a.eval x = .agg (bcells s0).toArray) (hy : a.eval y = .agg (bcells s1).toArray) : (execOp a.eval o).run Tryd.prog w = .ok (.value (.agg (bcells (s0 ++ s1)).toArray)) w := by
  simp only [execOp, ho, List.map_toArray, List.map_cons, List.map_nil, hx, hy, run_build125 w s0 s1 h0 h1, Sem.run_bind, Sem.run_pure, Result.andThen_ok]
/-- what holds ahead of each round -/
structure LyI (w W : World) (c c1 : Nat → Colour) (t g : Nat) (m m1 : Pl) (d : Int) (L : List (List Nat)) (j : Nat) : Prop where
  cc : ∀ b, b < w.heap.size → c1 b = c b
  live : Live W c1 t g m1
  ch : Ch (fun b => (c b).1 = t) w W
  lay : m.lay d 0 L = m1.lay d j (L.drop j)
  le : m1.steps ≤ m.steps + j
set_option maxHeartbeats 8000000 in
set_option maxRecDepth 100000 in
theorem layBoth_any {w : World} {c : Nat → Colour} {t g : Nat} {m : Pl} (h : Live w c t g m) (hst : m.steps + 40 < 1099511627775) (d : Int) (s0 s1 : List Nat) (h0 : Sec s0) (h1 : Sec s1) : Calls Tryd.prog 69 #[ptr g, .int .i64 d, .agg (bcells (s0 ++ s1)).toArray] w fun e w' => e = .returned (.int .i64 (m.lay d 0 [s0, s1]).1) ∧ Nx w c t g (m.lay d 0 [s0, s1]).2 w' := by
  have HS : Hid (Sec s0 ∧ Sec s1) := ⟨h0, h1⟩
  have HSJ : Hid (∀ j, j < 2 → Sec ([s0, s1].getD j [])) := fun j hj => by
    have hm : j = 0 ∨ j = 1 := by omega
    rcases hm with rfl | rfl
    · exact h0
    · exact h1
  obtain ⟨er, her⟩ : ∃ er, er = (m.lay d 0 [s0, s1]).1 := ⟨_, rfl⟩
  obtain ⟨M, hM⟩ : ∃ M, M = (m.lay d 0 [s0, s1]).2 := ⟨_, rfl⟩
  have HER : Hid (m.lay d 0 [s0, s1] = (er, M)) := by rw [her, hM]; exact rfl
  have HST : Hid (m.steps + 40 < 1099511627775) := hst
  have HL0 : Hid (Live w c t g m) := h
  obtain ⟨PQ, hPQ⟩ : ∃ PQ : Ending → World → Prop, PQ = fun (e : Ending) (w' : World) => e = .returned (.int .i64 er) ∧ Nx w c t g M w' := ⟨_, rfl⟩
  have HPQ : Hid (PQ = fun (e : Ending) (w' : World) => e = .returned (.int .i64 er) ∧ Nx w c t g M w') := hPQ
  rw [← her, ← hM, ← hPQ]
  clear her hM hPQ h hst h0 h1
  have R0 : Hid (Loc w w []) := Loc.nil (Below.refl _ w)
  go_enter Tryd.func69, Tryd.ntmps69
  go_upto_region 0 with fail
  refine wp_region_lit ?_
  refine wl rfl (ptr w.heap.size) _ (run_boxA (.tmp 2) rfl (bcells (s0 ++ s1)) rfl) ?_
  have k_ := R0.out.box 125 (bcells (s0 ++ s1))
  obtain ⟨w1, hW_⟩ : ∃ W, W = w.alloc (.cells (bcells (s0 ++ s1)).toArray 125) := ⟨_, rfl⟩
  obtain ⟨q1, hq_⟩ : ∃ q, q = w.heap.size := ⟨_, rfl⟩
  rw [← hW_, ← hq_] at k_
  rw [← hW_, ← hq_]
  clear hq_
  have Rw1 : Hid (Loc w w1 [(q1, 125, bcells (s0 ++ s1))]) := k_
  clear k_ hW_ R0
  simp only [Act.put, aS, aC, aZ]
  refine wl rfl (.int .i64 0) _ (run_asZ (.const (.int .i64 0)) rfl (.int .i64 0) rfl) ?_
  simp only [Act.put, aS, aC, aZ]
  refine wpList_nil ?_
  go_upto_region 1 with fail
  refine wp_region_lit ?_
  refine wl rfl (.agg (bcells (s0 ++ s1)).toArray) _ (run_loadA ag125 (.tmp 5) rfl q1 (0) rfl (bcells (s0 ++ s1)) (by rw [bcells_length, List.length_append, HS.out.1.1, HS.out.2.1]) (rows_all Rw1.out 0 rfl)) ?_
  simp only [Act.put, aS, aC, aZ]
  refine wl rfl (.int .i64 0) _ (run_mvZ (.const (.int .i64 0)) rfl (.int .i64 0) rfl) ?_
  simp only [Act.put, aS, aC, aZ]
  refine wpList_nil ?_
  go_wp2_with fail
  go_loopw [11] (fun vj W => ∃ (j : Nat) (c1 : Nat → Colour) (m1 : Pl), vj = .int .i64 (j : Nat) ∧ j ≤ 2 ∧ LyI w W c c1 t g m m1 d [s0, s1] j) (fun vj _ => 2 - (intOf vj).toNat)
  case atStart => exact ⟨0, c, m, rfl, Nat.zero_le _, fun _ _ => rfl, HL0.out.below Rw1.out.below, Ch.of_below Rw1.out.below, rfl, Nat.le_refl _⟩
  case round =>
    obtain ⟨j, c1, m1, rfl, hj, hI⟩ := hrel
    have HI : Hid (LyI w wr c c1 t g m m1 d [s0, s1] j) := hI
    clear hI Rw1
    by_cases hlt : j < 2
    · have t1 : decide ((j : Int) < 2) = true := decide_eq_true (by omega)
      obtain ⟨s, hs⟩ : ∃ s, s = [s0, s1].getD j [] := ⟨_, rfl⟩
      have HSS : Hid (Sec s) := by show Sec s; rw [hs]; exact HSJ.out j hlt
      have HDR : Hid ([s0, s1].drop j = s :: [s0, s1].drop (j + 1)) := by
        show _ = _
        have hm : j = 0 ∨ j = 1 := by omega
        rcases hm with rfl | rfl
        · rw [hs]; rfl
        · rw [hs]; rfl
      obtain ⟨e1, he1⟩ : ∃ e1, e1 = (m1.write d (j : Nat) s).1 := ⟨_, rfl⟩
      obtain ⟨M1, hM1⟩ : ∃ M1, M1 = (m1.write d (j : Nat) s).2 := ⟨_, rfl⟩
      have HWR : Hid (∀ W, Below wr.heap.size wr W → Calls Tryd.prog 66 #[ptr g, .int .i64 d, .int .i64 (j : Nat), .agg (bcells s).toArray] W fun e w' => e = .returned (.int .i64 e1) ∧ Nx wr c1 t g M1 w') := fun W hW => by
        refine (writeSector_any (HI.out.live.below hW) (by have := HST.out; have := HI.out.le; omega) d (j : Nat) s HSS.out).mono fun e w' he => ⟨by rw [he1]; exact he.1, ?_⟩
        rw [hM1]
        exact Nx.after (fun _ _ => rfl) (Ch.of_below hW) he.2
      have HM1 : Hid (M1.steps ≤ m1.steps + 1) := by show _ ≤ _; rw [hM1]; exact m1.write_le d _ s
      have HLY : Hid (m.lay d 0 [s0, s1] = if e1 = 0 then M1.lay d (j + 1) ([s0, s1].drop (j + 1)) else (e1, M1)) := by
        show _ = _
        rw [HI.out.lay, HDR.out, he1, hM1]
        rfl
      have HSX : Hid (s = [s0, s1].getD j []) := hs
      clear hs he1 hM1
      have RL : Hid (Loc wr wr []) := Loc.nil (Below.refl _ wr)
      go_upto_region 3 with fail
      refine wp_region_lit ?_
      refine wl rfl (.int .i64 (j : Nat)) _ (run_mvZ (.tmp 11) rfl (.int .i64 (j : Nat)) rfl) ?_
      simp only [Act.put, aS, aC, aZ]
      refine wl rfl (.agg (bcells s).toArray) _ ((run_index125 (.tmp 10) (.tmp 11) rfl s0 s1 HS.out.1.1 HS.out.2.1 j hlt rfl rfl).trans (by rw [← HSX.out])) ?_
      simp only [Act.put, aS, aC, aZ]
      refine wl rfl (ptr wr.heap.size) _ (run_allocA (zerosU8 64) zero122 rfl) ?_
      have k_ := RL.out.box 122 (zerosU8 64)
      obtain ⟨w2, hW_⟩ : ∃ W, W = wr.alloc (.cells (zerosU8 64).toArray 122) := ⟨_, rfl⟩
      obtain ⟨q2, hq_⟩ : ∃ q, q = wr.heap.size := ⟨_, rfl⟩
      rw [← hW_, ← hq_] at k_
      rw [← hW_, ← hq_]
      clear hq_
      have Rw2 : Hid (Loc wr w2 [(q2, 122, zerosU8 64)]) := k_
      clear k_ hW_ RL
      simp only [Act.put, aS, aC, aZ]
      refine wl rfl (.int .i64 (j : Nat)) _ (run_asZ (.tmp 13) rfl (.int .i64 (j : Nat)) rfl) ?_
      simp only [Act.put, aS, aC, aZ]
      refine wlS rfl rfl _ (run_storeL ag122 (.tmp 8) (.tmp 14) rfl Rw2.out 0 rfl (0) rfl (bcells s) rfl (bc64 s HSS.out.1) (by rw [bc64 s HSS.out.1, z64]; decide) (bcells_one s)).1 ?_
      have k_ := Rw2.out.lay 0 rfl (0) (bcells s)
      rw [splice64 s HSS.out.1] at k_ ⊢
      obtain ⟨w3, hW_⟩ : ∃ W, W = w2.setRow q2 (bcells s).toArray := ⟨_, rfl⟩
      rw [← hW_] at k_ ⊢
      have Rw3 : Hid (Loc wr w3 [(q2, 122, bcells s)]) := k_
      clear k_ hW_ Rw2
      refine wpList_nil ?_
      go_upto_region 4 with fail
      refine wp_region_lit ?_
      refine wl rfl (ptr g) _ (run_mvZ (.tmp 0) rfl (ptr g) rfl) ?_
      simp only [Act.put, aS, aC, aZ]
      refine wl rfl (.int .i64 d) _ (run_mvZ (.tmp 1) rfl (.int .i64 d) rfl) ?_
      simp only [Act.put, aS, aC, aZ]
      refine wl rfl (.int .i64 (j : Nat)) _ (run_mvZ (.tmp 7) rfl (.int .i64 (j : Nat)) rfl) ?_
      simp only [Act.put, aS, aC, aZ]
      refine wl rfl (.agg (bcells s).toArray) _ (run_loadA ag122 (.tmp 8) rfl q2 (0) rfl (bcells s) (bc64 s HSS.out.1) (rows_all Rw3.out 0 rfl)) ?_
      simp only [Act.put, aS, aC, aZ]
      refine wpList_callW eN66 [.tmp 15, .tmp 16, .tmp 17, .tmp 18] _ rfl rfl [(ptr g), (.int .i64 d), (.int .i64 (j : Nat)), (.agg (bcells s).toArray)] rfl ?_
      refine (HWR.out w3 Rw3.out.below).mono ?_
      rintro e w4 ⟨rfl, n4⟩
      refine ⟨_, rfl, ?_⟩
      have RN : Hid (Nx wr c1 t g M1 w4) := n4
      clear n4 Rw3
      simp only [Act.put, aS, aC, aZ]
      refine wl rfl (.int .i64 e1) _ (run_asZ (.tmp 19) rfl (.int .i64 e1) rfl) ?_
      simp only [Act.put, aS, aC, aZ]
      refine wpList_nil ?_
      go_upto_region 5 with fail
      by_cases hz : e1 = 0
      · have hd0 : (!decide (e1 = 0)) = false := by rw [decide_eq_true hz]; rfl
        refine wp_region_lit ?_
        refine wl rfl (.int .i64 e1) _ (run_mvZ (.tmp 9) rfl (.int .i64 e1) rfl) ?_
        simp only [Act.put, aS, aC, aZ]
        refine wl rfl (.bool false) _ (run_neZ (.tmp 20) (.const (.int .i64 0)) rfl e1 0 rfl rfl false hd0) ?_
        simp only [Act.put, aS, aC, aZ]
        refine wpList_nil ?_
        have HN : Hid (∃ c2, LyI w w4 c c2 t g m M1 d [s0, s1] (j + 1)) := by
          obtain ⟨c2, k1, k2, k3⟩ := RN.out
          refine ⟨c2, fun b hb => by rw [k1 b (Nat.lt_of_lt_of_le hb HI.out.ch.size)]; exact HI.out.cc b hb, k2, HI.out.ch.trans' k3 fun b hb e => by rw [← HI.out.cc b hb]; exact e, by rw [HLY.out, if_pos hz], by have := HM1.out; have := HI.out.le; omega⟩
        clear hz hd0 RN HI HWR
        go_wp2_with fail
        obtain ⟨c2, hN⟩ := HN.out
        refine ⟨⟨j + 1, c2, M1, by go_num, by omega, hN⟩, ?_⟩
        simp [intOf]; omega
      · have hd0 : (!decide (e1 = 0)) = true := by rw [decide_eq_false hz]; rfl
        refine wp_region_lit ?_
        refine wl rfl (.int .i64 e1) _ (run_mvZ (.tmp 9) rfl (.int .i64 e1) rfl) ?_
        simp only [Act.put, aS, aC, aZ]
        refine wl rfl (.bool true) _ (run_neZ (.tmp 20) (.const (.int .i64 0)) rfl e1 0 rfl rfl true hd0) ?_
        simp only [Act.put, aS, aC, aZ]
        refine wpList_nil ?_
        have HE : Hid (er = e1 ∧ M = M1) := by
          have h1 := HER.out
          rw [HLY.out, if_neg hz] at h1
          injection h1 with h1 h2
          exact ⟨h1.symm, h2.symm⟩
        clear hz hd0
        go_wp2_with fail
        rw [HPQ.out]
        exact ⟨by rw [HE.out.1]; rfl, by rw [HE.out.2]; exact Nx.after HI.out.cc HI.out.ch RN.out⟩
    · have t1 : decide ((j : Int) < 2) = false := decide_eq_false (by omega)
      have HFL : Hid (Calls Tryd.prog 34 #[ptr g, .int .i64 d] wr fun e w' => e = .returned (.int .i64 er) ∧ Nx w c t g M w') := by
        have h1 := HER.out
        have ej : j = 2 := by omega
        subst ej
        rw [HI.out.lay] at h1
        have h2 : m1.flush d = (er, M) := h1
        refine (HI.out.live.flush (by have := HST.out; have := HI.out.le; omega) d).mono fun e w' he => ⟨by rw [he.1, h2], ?_⟩
        have h3 := he.2
        rw [h2] at h3
        exact Nx.after HI.out.cc HI.out.ch h3.nx
      go_upto_region 8 with fail
      refine wp_region_lit ?_
      refine wl rfl (ptr g) _ (run_mvZ (.tmp 0) rfl (ptr g) rfl) ?_
      simp only [Act.put, aS, aC, aZ]
      refine wl rfl (.int .i64 d) _ (run_mvZ (.tmp 1) rfl (.int .i64 d) rfl) ?_
      simp only [Act.put, aS, aC, aZ]
      refine wpList_callW eN34 [.tmp 24, .tmp 25] _ rfl rfl [(ptr g), (.int .i64 d)] rfl ?_
      refine (HFL.out).mono ?_
      rintro e w5 ⟨rfl, n5⟩
      refine ⟨_, rfl, ?_⟩
      have R5 : Hid (Nx w c t g M w5) := n5
      clear n5
      simp only [Act.put, aS, aC, aZ]
      refine wl rfl (.int .i64 er) _ (run_asZ (.tmp 26) rfl (.int .i64 er) rfl) ?_
      simp only [Act.put, aS, aC, aZ]
      refine wpList_nil ?_
      go_wp2_with fail
      rw [HPQ.out]
      exact ⟨rfl, R5.out⟩
set_option maxHeartbeats 8000000 in
set_option maxRecDepth 100000 in
theorem layFirst_any {w : World} {c : Nat → Colour} {t g : Nat} {m : Pl} (h : Live w c t g m) (hst : m.steps + 60 < 1099511627775) (ht : Fr.TabIn w) (htc : (c 0).1 ≠ t) (i : Nat) : Calls Tryd.prog 40 #[ptr g, .int .i64 (i : Nat)] w fun e w' => e = .returned (.int .i64 (m.layFirst i).1) ∧ Nx w c t g (m.layFirst i).2 w' := by
  obtain ⟨s0, hs0⟩ : ∃ s0, s0 = hdSec (noHd 0) := ⟨_, rfl⟩
  obtain ⟨s1, hs1⟩ : ∃ s1, s1 = hdSec (noHd 1) := ⟨_, rfl⟩
  have hc0 : Sec s0 := by rw [hs0]; exact hdSec_sec (noHd_wf 0 (by decide))
  have hc1 : Sec s1 := by rw [hs1]; exact hdSec_sec (noHd_wf 1 (by decide))
  have HS : Hid (Sec s0 ∧ Sec s1) := ⟨hc0, hc1⟩
  obtain ⟨e1, he1⟩ : ∃ e1, e1 = (m.lay (i : Int) 0 [zeros, zeros]).1 := ⟨_, rfl⟩
  obtain ⟨M1, hM1⟩ : ∃ M1, M1 = (m.lay (i : Int) 0 [zeros, zeros]).2 := ⟨_, rfl⟩
  have HB1 : Hid (∀ W, Below w.heap.size w W → Calls Tryd.prog 69 #[ptr g, .int .i64 (i : Nat), .agg (bcells (zeros ++ zeros)).toArray] W fun e w' => e = .returned (.int .i64 e1) ∧ Nx w c t g M1 w') := fun W hW => by
    refine (layBoth_any (h.below hW) (by omega) (i : Int) zeros zeros zeros_sec zeros_sec).mono fun e w' he => ⟨by rw [he1]; exact he.1, ?_⟩
    rw [hM1]
    exact Nx.after (fun _ _ => rfl) (Ch.of_below hW) he.2
  have hle := m.lay_le (i : Int) [zeros, zeros] 0
  rw [← hM1] at hle
  have HB2 : Hid (∀ W0 W, Nx w c t g M1 W0 → Below W0.heap.size W0 W → Calls Tryd.prog 69 #[ptr g, .int .i64 (i : Nat), .agg (bcells (s0 ++ s1)).toArray] W fun e w' => e = .returned (.int .i64 (M1.lay (i : Int) 0 [s0, s1]).1) ∧ Nx w c t g (M1.lay (i : Int) 0 [s0, s1]).2 w') := fun W0 W h0 hW => by
    obtain ⟨c', k1, k2, k3⟩ := h0
    refine (layBoth_any (k2.below hW) (by simp at hle; omega) (i : Int) s0 s1 hc0 hc1).mono fun e w' he => ⟨he.1, ?_⟩
    exact Nx.after k1 k3 (Nx.after (fun _ _ => rfl) (Ch.of_below hW) he.2)
  have HSC : Hid (∀ W k, (k = 0 ∨ k = 1) → Fr.TabIn W → Calls Tryd.prog 68 #[.agg (hdCells (noHd k)).toArray] W fun e w' => e = .returned (.agg (bcells (hdSec (noHd k))).toArray) ∧ Below W.heap.size W w') := fun W k hk hT => sector_any W hT (noHd k) (noHd_wf k (by omega))
  have HTN : Hid (∀ W, Nx w c t g M1 W → Fr.TabIn W) := fun W hW => hW.tab ht htc
  obtain ⟨er, her⟩ : ∃ er, er = (m.layFirst i).1 := ⟨_, rfl⟩
  obtain ⟨M, hM⟩ : ∃ M, M = (m.layFirst i).2 := ⟨_, rfl⟩
  have HER : Hid ((e1 = 0 → er = (M1.lay (i : Int) 0 [s0, s1]).1 ∧ M = (M1.lay (i : Int) 0 [s0, s1]).2) ∧ (e1 ≠ 0 → er = e1 ∧ M = M1)) := by
    rw [her, hM, he1, hM1, hs0, hs1]
    unfold Pl.layFirst
    refine ⟨fun h0 => ?_, fun h0 => ?_⟩
    · rw [if_pos h0]; exact ⟨rfl, rfl⟩
    · rw [if_neg h0]; exact ⟨rfl, rfl⟩
  have HS0 : Hid (hdSec (noHd 0) = s0 ∧ hdSec (noHd 1) = s1) := ⟨hs0.symm, hs1.symm⟩
  obtain ⟨PQ, hPQ⟩ : ∃ PQ : Ending → World → Prop, PQ = fun (e : Ending) (w' : World) => e = .returned (.int .i64 er) ∧ Nx w c t g M w' := ⟨_, rfl⟩
  have HPQ : Hid (PQ = fun (e : Ending) (w' : World) => e = .returned (.int .i64 er) ∧ Nx w c t g M w') := hPQ
  rw [← her, ← hM, ← hPQ]
  clear her hM hPQ h hst hc0 hc1 hs0 hs1 he1 hM1 hle ht
  have HW0 : Hid (Below w.heap.size w w) := Below.refl _ w
  go_enter Tryd.func40, Tryd.ntmps40
  go_upto_region 0 with fail
  refine wp_region_lit ?_
  refine wl rfl (.int .i64 0) _ (run_asZ (.const (.int .i64 0)) rfl (.int .i64 0) rfl) ?_
  simp only [Act.put, aS, aC, aZ]
  refine wpList_nil ?_
  go_upto_region 1 with fail
  refine wp_region_lit ?_
  refine wl rfl (ptr g) _ (run_mvZ (.tmp 0) rfl (ptr g) rfl) ?_
  simp only [Act.put, aS, aC, aZ]
  refine wl rfl (.int .i64 (i : Nat)) _ (run_mvZ (.tmp 1) rfl (.int .i64 (i : Nat)) rfl) ?_
  simp only [Act.put, aS, aC, aZ]
  refine wl rfl (.agg (bcells (zeros ++ zeros)).toArray) _ (run_build125zOp rfl) ?_
  simp only [Act.put, aS, aC, aZ]
  refine wpList_callW eN69 [.tmp 8, .tmp 9, .tmp 10] _ rfl rfl [(ptr g), (.int .i64 (i : Nat)), (.agg (bcells (zeros ++ zeros)).toArray)] rfl ?_
  refine (HB1.out w HW0.out).mono ?_
  rintro e w1 ⟨rfl, n1⟩
  refine ⟨_, rfl, ?_⟩
  have RN : Hid (Nx w c t g M1 w1) := n1
  clear n1
  simp only [Act.put, aS, aC, aZ]
  refine wl rfl (.int .i64 e1) _ (run_asZ (.tmp 11) rfl (.int .i64 e1) rfl) ?_
  simp only [Act.put, aS, aC, aZ]
  refine wpList_nil ?_
  go_upto_region 2 with fail
  by_cases hz : e1 = 0
  · have hd0 : (!decide (e1 = 0)) = false := by rw [decide_eq_true hz]; rfl
    refine wp_region_lit ?_
    refine wl rfl (.int .i64 e1) _ (run_mvZ (.tmp 5) rfl (.int .i64 e1) rfl) ?_
    simp only [Act.put, aS, aC, aZ]
    refine wl rfl (.bool false) _ (run_neZ (.tmp 12) (.const (.int .i64 0)) rfl e1 0 rfl rfl false hd0) ?_
    simp only [Act.put, aS, aC, aZ]
    refine wpList_nil ?_
    have HE : Hid (er = (M1.lay (i : Int) 0 [s0, s1]).1 ∧ M = (M1.lay (i : Int) 0 [s0, s1]).2) := HER.out.1 hz
    clear hz hd0
    have RL : Hid (Loc w1 w1 []) := Loc.nil (Below.refl _ w1)
    go_upto_region 4 with fail
    refine wp_region_lit ?_
    refine wl rfl (.agg (hdCells (noHd 0)).toArray) _ (run_build78Op (.const (.int .u64 0)) (.const (.int .i64 (-1))) rfl 0 (-1) rfl rfl) ?_
    simp only [Act.put, aS, aC, aZ]
    refine wl rfl (.agg (hdCells (noHd 1)).toArray) _ (run_build78Op (.const (.int .u64 1)) (.const (.int .i64 (-1))) rfl 1 (-1) rfl rfl) ?_
    simp only [Act.put, aS, aC, aZ]
    refine wl rfl (ptr w1.heap.size) _ (run_allocA (hdCells zHd) zero78' rfl) ?_
    have k_ := RL.out.box 78 (hdCells zHd)
    obtain ⟨w2, hW_⟩ : ∃ W, W = w1.alloc (.cells (hdCells zHd).toArray 78) := ⟨_, rfl⟩
    obtain ⟨q1, hq_⟩ : ∃ q, q = w1.heap.size := ⟨_, rfl⟩
    rw [← hW_, ← hq_] at k_
    rw [← hW_, ← hq_]
    clear hq_
    have Rw2 : Hid (Loc w1 w2 [(q1, 78, hdCells zHd)]) := k_
    clear k_ hW_ RL
    simp only [Act.put, aS, aC, aZ]
    refine wl rfl (ptr w2.heap.size) _ (run_allocA (hdCells zHd) zero78' rfl) ?_
    have k_ := Rw2.out.box 78 (hdCells zHd)
    obtain ⟨w3, hW_⟩ : ∃ W, W = w2.alloc (.cells (hdCells zHd).toArray 78) := ⟨_, rfl⟩
    obtain ⟨q2, hq_⟩ : ∃ q, q = w2.heap.size := ⟨_, rfl⟩
    rw [← hW_, ← hq_] at k_
    rw [← hW_, ← hq_]
    clear hq_
    have Rw3 : Hid (Loc w1 w3 [(q1, 78, hdCells zHd), (q2, 78, hdCells zHd)]) := k_
    clear k_ hW_ Rw2
    simp only [Act.put, aS, aC, aZ]
    refine wlS rfl rfl _ (run_storeL ag78 (.tmp 6) (.tmp 15) rfl Rw3.out 0 rfl (0) rfl (hdCells (noHd 0)) rfl (hdCells_length uset_none) (by rw [zHd_len, hdCells_length (h := noHd 0) uset_none]; decide) (hdCells_one _)).1 ?_
    have k_ := Rw3.out.lay 0 rfl (0) (hdCells (noHd 0))
    rw [splice_all _ _ (by rw [zHd_len, hdCells_length (h := noHd 0) uset_none])] at k_ ⊢
    obtain ⟨w4, hW_⟩ : ∃ W, W = w3.setRow q1 (hdCells (noHd 0)).toArray := ⟨_, rfl⟩
    rw [← hW_] at k_ ⊢
    have Rw4 : Hid (Loc w1 w4 [(q1, 78, hdCells (noHd 0)), (q2, 78, hdCells zHd)]) := k_
    clear k_ hW_ Rw3
    refine wlS rfl rfl _ (run_storeL ag78 (.tmp 7) (.tmp 16) rfl Rw4.out 1 rfl (0) rfl (hdCells (noHd 1)) rfl (hdCells_length uset_none) (by rw [zHd_len, hdCells_length (h := noHd 1) uset_none]; decide) (hdCells_one _)).1 ?_
    have k_ := Rw4.out.lay 1 rfl (0) (hdCells (noHd 1))
    rw [splice_all _ _ (by rw [zHd_len, hdCells_length (h := noHd 1) uset_none])] at k_ ⊢
    obtain ⟨w5, hW_⟩ : ∃ W, W = w4.setRow q2 (hdCells (noHd 1)).toArray := ⟨_, rfl⟩
    rw [← hW_] at k_ ⊢
    have Rw5 : Hid (Loc w1 w5 [(q1, 78, hdCells (noHd 0)), (q2, 78, hdCells (noHd 1))]) := k_
    clear k_ hW_ Rw4
    refine wpList_nil ?_
    go_upto_region 5 with fail
    refine wp_region_until (S := fun X => Row X q1 78 (hdCells (noHd 0)) ∧ Row X q2 78 (hdCells (noHd 1))) 7 (by kernel_rfl) ?_
    show wpAnyU _ _ _ _ _ _ 9 (Array.replicate 9 false) _ _
    obtain ⟨X, hX⟩ : ∃ X : World, X = { w5 with drawn := w5.drawn + 1 } := ⟨_, rfl⟩
    rw [← hX]
    have hL : Loc w1 X [(q1, 78, hdCells (noHd 0)), (q2, 78, hdCells (noHd 1))] := by rw [hX]; exact Rw5.out.drew
    clear Rw5
    clear hX
    refine takeV (i := 0) [7] (some 17) rfl rfl (by kernel_rfl) (by kernel_rfl) (by kernel_rfl) (by kernel_rfl) (fun _ _ _ h => h) (gRun rfl (ptr g) fun _ h => run_mvZ (.tmp 0) rfl (ptr g) rfl) ⟨hL.at 0 rfl, hL.at 1 rfl⟩ ?_
    simp only [Act.put, aS, aC, aZ]
    refine takeV (i := 1) [7] (some 18) rfl rfl (by kernel_rfl) (by kernel_rfl) (by kernel_rfl) (by kernel_rfl) (fun _ _ _ h => h) (gRun rfl (.int .i64 (i : Nat)) fun _ h => run_mvZ (.tmp 1) rfl (.int .i64 (i : Nat)) rfl) ⟨hL.at 0 rfl, hL.at 1 rfl⟩ ?_
    simp only [Act.put, aS, aC, aZ]
    refine takeV (i := 2) [3, 5, 7] (some 19) rfl rfl (by kernel_rfl) (by kernel_rfl) (by kernel_rfl) (by kernel_rfl) (fun _ _ _ h => h) (gRun rfl (.agg (hdCells (noHd 0)).toArray) fun _ h => run_loadA ag78 (.tmp 6) rfl q1 (0) rfl (hdCells (noHd 0)) (hdCells_length uset_none) (fun j v hv => by rw [Nat.zero_add]; exact h.1.at j v hv)) ⟨hL.at 0 rfl, hL.at 1 rfl⟩ ?_
    simp only [Act.put, aS, aC, aZ]
    refine takeV (i := 4) [5, 7] (some 21) rfl rfl (by kernel_rfl) (by kernel_rfl) (by kernel_rfl) (by kernel_rfl) (fun _ _ _ h => h) (gRun rfl (.agg (hdCells (noHd 1)).toArray) fun _ h => run_loadA ag78 (.tmp 7) rfl q2 (0) rfl (hdCells (noHd 1)) (hdCells_length uset_none) (fun j v hv => by rw [Nat.zero_add]; exact h.2.at j v hv)) ⟨hL.at 0 rfl, hL.at 1 rfl⟩ ?_
    simp only [Act.put, aS, aC, aZ]
    refine oneU (i := 3) (by kernel_rfl) ?_
    refine opCallG (some 20) rfl rfl rfl 68 _ (run_call eN68 [.tmp 19] _ rfl [(.agg (hdCells (noHd 0)).toArray)] rfl) ?_
    refine (HSC.out _ 0 (Or.inl rfl) (Fr.TabIn.later hL.below (HTN.out w1 RN.out))).mono ?_
    rintro e w6 ⟨rfl, b_⟩
    refine ⟨_, rfl, ?_⟩
    rw [HS0.out.1]
    have k_ := hL.later b_
    clear hL b_
    have hL : Loc w1 w6 [(q1, 78, hdCells (noHd 0)), (q2, 78, hdCells (noHd 1))] := k_
    clear k_
    refine ⟨fun _ => ⟨hL.at 0 rfl, hL.at 1 rfl⟩, ?_⟩
    simp only [Act.put, aS, aC, aZ]
    refine oneU (i := 5) (by kernel_rfl) ?_
    refine opCallG (some 22) rfl rfl rfl 68 _ (run_call eN68 [.tmp 21] _ rfl [(.agg (hdCells (noHd 1)).toArray)] rfl) ?_
    refine (HSC.out _ 1 (Or.inr rfl) (Fr.TabIn.later hL.below (HTN.out w1 RN.out))).mono ?_
    rintro e w7 ⟨rfl, b_⟩
    refine ⟨_, rfl, ?_⟩
    rw [HS0.out.2]
    have k_ := hL.later b_
    clear hL b_
    have hL : Loc w1 w7 [(q1, 78, hdCells (noHd 0)), (q2, 78, hdCells (noHd 1))] := k_
    clear k_
    refine ⟨fun _ => ⟨hL.at 0 rfl, hL.at 1 rfl⟩, ?_⟩
    simp only [Act.put, aS, aC, aZ]
    refine takeV (i := 6) [7] (some 23) rfl rfl (by kernel_rfl) (by kernel_rfl) (by kernel_rfl) (by kernel_rfl) (fun _ _ _ h => h) (gRun rfl (.agg (bcells (s0 ++ s1)).toArray) fun _ h => run_build125Op (.tmp 20) (.tmp 22) rfl s0 s1 HS.out.1.1 HS.out.2.1 rfl rfl) ⟨hL.at 0 rfl, hL.at 1 rfl⟩ ?_
    simp only [Act.put, aS, aC, aZ]
    refine oneU (i := 7) (by kernel_rfl) ?_
    refine opCallG (some 24) rfl rfl rfl 69 _ (run_call eN69 [.tmp 17, .tmp 18, .tmp 23] _ rfl [(ptr g), (.int .i64 (i : Nat)), (.agg (bcells (s0 ++ s1)).toArray)] rfl) ?_
    refine (HB2.out w1 _ RN.out hL.below).mono ?_
    rintro e w8 ⟨rfl, b_⟩
    refine ⟨_, rfl, ?_⟩
    have R9 : Hid (Nx w c t g (M1.lay (i : Int) 0 [s0, s1]).2 w8) := b_
    clear b_ hL
    refine ⟨fun h => absurd (show true = false from h) (by decide), ?_⟩
    simp only [Act.put, aS, aC, aZ]
    refine oneU (i := 8) (by kernel_rfl) ?_
    refine opValueG (some 4) rfl rfl rfl (.int .i64 (M1.lay (i : Int) 0 [s0, s1]).1) _ (run_asZ (.tmp 24) rfl (.int .i64 (M1.lay (i : Int) 0 [s0, s1]).1) rfl) ?_
    refine ⟨fun h => absurd (show true = false from h) (by decide), ?_⟩
    simp only [Act.put, aS, aC, aZ]
    refine wpAnyU_done (by kernel_rfl) ?_ _
    go_wp2_with fail
    rw [HPQ.out]
    exact ⟨by rw [HE.out.1]; rfl, by rw [HE.out.2]; exact R9.out⟩
  · have hd0 : (!decide (e1 = 0)) = true := by rw [decide_eq_false hz]; rfl
    refine wp_region_lit ?_
    refine wl rfl (.int .i64 e1) _ (run_mvZ (.tmp 5) rfl (.int .i64 e1) rfl) ?_
    simp only [Act.put, aS, aC, aZ]
    refine wl rfl (.bool true) _ (run_neZ (.tmp 12) (.const (.int .i64 0)) rfl e1 0 rfl rfl true hd0) ?_
    simp only [Act.put, aS, aC, aZ]
    refine wpList_nil ?_
    have HE : Hid (er = e1 ∧ M = M1) := HER.out.2 hz
    clear hz hd0
    go_wp2_with fail
    rw [HPQ.out]
    exact ⟨by rw [HE.out.1]; rfl, by rw [HE.out.2]; exact RN.out⟩
end Go.Proofs.YtkpnflgnhhfjoaaDoor

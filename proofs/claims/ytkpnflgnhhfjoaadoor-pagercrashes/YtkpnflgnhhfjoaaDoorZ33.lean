/- Layer 9: Commit. -/
import Derived.Test.YtkpnflgnhhfjoaaDoorZ32
namespace Go.Proofs.YtkpnflgnhhfjoaaDoor
open Go.RowKit Go.Maps
open Fr.Frame (be val)

/-- the commit that is made -/
def nextHd (L : Hd) (r : Int) (U : List Nat) : Hd := ⟨nextNum L.num, r, U⟩
theorem run_build78f (w : World) (n : Nat) (r : Int) (U : List Nat) (hu : USet U) : (Instr.build 78 #[(0, .int .u64 (n : Nat)), (1, .int .i64 r), (2, .agg (bcells U).toArray)]).run Tryd.prog w = .ok (.agg (hdCells ⟨n, r, U⟩).toArray) w := by
  have hul : (bcells U).length = 48 := by rw [bcells_length]; exact hu.1
  have hz : (zeroValue 78).run Tryd.prog w = .ok (.agg (hdCells zHd).toArray) w := by kernel_rfl
  have hzl := zHd_len
  have hf : Instr.fill (fun i => #[(0, 1), (1, 1), (2, 48)][i]?) (hdCells zHd).toArray [(0, .int .u64 (n : Nat)), (1, .int .i64 r), (2, .agg (bcells U).toArray)] = some (hdCells ⟨n, r, U⟩).toArray := by
    rw [fill_step _ _ 0 (.int .u64 (n : Nat)) _ 0 1 [.int .u64 (n : Nat)] rfl rfl rfl (by simp [hzl]), fill_step _ _ 1 (.int .i64 r) _ 1 1 [.int .i64 r] rfl rfl rfl (by simp [splice, hzl]), fill_step _ _ 2 (.agg (bcells U).toArray) _ 2 48 (bcells U) rfl rfl hul (by simp [splice, hzl, hul])]
    simp [splice, hdCells, zHd, bcells, noneP, hu.1, Instr.fill]
  simp [Instr.build, hz, run_underlying Tryd.underlying78, Value.cells]
  simp at hf
  rw [hf]
  rfl
theorem run_build78fOp {w : World} {a : Act} {o : Oper} (x y z : Operand) (ho : o.op = .build 78 #[(0, x), (1, y), (2, z)]) (n : Nat) (r : Int) (U : List Nat) (hu : USet U) (hx : a.eval x = .int .u64 (n : Nat)) (hy : a.eval y = .int .i64 r) (hz : a.eval z = .agg (bcells U).toArray) : (execOp a.eval o).run Tryd.prog w = .ok (.value (.agg (hdCells ⟨n, r, U⟩).toArray)) w := by
  simp only [execOp, ho, List.map_toArray, List.map_cons, List.map_nil, hx, hy, hz, run_build78f w n r U hu, Sem.run_bind, Sem.run_pure, Result.andThen_ok]
/-- may this root be committed? -/
def rootOk (U : List Nat) (r : Int) : Bool := decide (r = -1) || hasP U r
theorem nextHd_wf {L : Hd} {U : List Nat} {r : Int} (hu : USet U) (h : rootOk U r = true) : (nextHd L r U).WF := by
  unfold rootOk at h
  rcases Bool.or_eq_true _ _ ▸ h with h | h
  · have := of_decide_eq_true h
    exact ⟨nextNum_lt _, by show -1 ≤ r; omega, by show r ≤ 65534; omega, hu⟩
  · have := hasP_bound h
    exact ⟨nextNum_lt _, by show -1 ≤ r; omega, by show r ≤ 65534; omega, hu⟩
/-- what Commit answers and leaves -/
structure ComR (w : World) (c : Nat → Colour) (t gp g : Nat) (m : Pl) (ds ts : List Nat) (i n : Nat) (L : Hd) (U : List Nat) (r : Int) (e : Ending) (w' : World) : Prop where
  bad : rootOk U r = false → e = .returned (.int .i64 90) ∧ Below w.heap.size w w'
  off : rootOk U r = true → (m.commit i (nextHd L r U)).1 ≠ 0 → e = .returned (.int .i64 (m.commit i (nextHd L r U)).1) ∧ Nx w c t g (m.commit i (nextHd L r U)).2 w'
  com : rootOk U r = true → (m.commit i (nextHd L r U)).1 = 0 → DkOn (m.commit i (nextHd L r U)).2 ds ts i → e = .returned (.int .i64 0) ∧ ∃ c', (∀ b, b < w.heap.size → c' b = c b) ∧ Ch (fun b => (c b).1 = t ∨ b = gp) w w' ∧ PgS w' c' t gp g (m.commit i (nextHd L r U)).2 ds ts i n (nextHd L r U) U
set_option maxHeartbeats 8000000 in
set_option maxRecDepth 100000 in
theorem commit_any {w : World} {c : Nat → Colour} {t gp g : Nat} {m : Pl} {ds ts : List Nat} {i n : Nat} {L : Hd} {U : List Nat} (h : PgS w c t gp g m ds ts i n L U) (hst : m.steps + 60 < 1099511627775) (r : Int) (hdk : rootOk U r = true → (m.commit i (nextHd L r U)).1 = 0 → DkOn (m.commit i (nextHd L r U)).2 ds ts i) : Calls Tryd.prog 19 #[ptr gp, .int .i64 r] w fun e w' => ComR w c t gp g m ds ts i n L U r e w' := by
  have HP : Hid (PgS w c t gp g m ds ts i n L U) := h
  obtain ⟨b, hb⟩ : ∃ b, b = hasP U r := ⟨_, rfl⟩
  have HHB : Hid (b = hasP U r) := hb
  have HHAS : Hid (∀ W, Calls Tryd.prog 45 #[.agg (bcells U).toArray, .int .i64 r] W fun e w' => e = .returned (.bool b) ∧ Below W.heap.size W w') := fun W => by rw [hb]; exact has_any W U h.pg.us r
  obtain ⟨N, hN⟩ : ∃ N, N = nextHd L r U := ⟨_, rfl⟩
  have HN : Hid (N = ⟨nextNum L.num, r, U⟩ ∧ N = nextHd L r U) := ⟨hN, hN⟩
  obtain ⟨e1, he1⟩ : ∃ e1, e1 = (m.flush (i : Int)).1 := ⟨_, rfl⟩
  obtain ⟨M1, hM1⟩ : ∃ M1, M1 = (m.flush (i : Int)).2 := ⟨_, rfl⟩
  have hle : M1.steps ≤ m.steps + 1 := by rw [hM1]; exact m.flush_le _
  have HFL : Hid (∀ W, Below w.heap.size w W → Calls Tryd.prog 34 #[ptr g, .int .i64 (i : Nat)] W fun e w' => e = .returned (.int .i64 e1) ∧ Nx w c t g M1 w') := fun W hW => by
    refine ((h.live.below hW).flush (by omega) (i : Int)).mono fun e w' he => ⟨by rw [he1]; exact he.1, ?_⟩
    rw [hM1]
    exact Nx.after (fun _ _ => rfl) (Ch.of_below hW) he.2.nx
  obtain ⟨e2, he2⟩ : ∃ e2, e2 = (M1.lay (i : Int) (N.num % 2) [hdSec N]).1 := ⟨_, rfl⟩
  obtain ⟨M2, hM2⟩ : ∃ M2, M2 = (M1.lay (i : Int) (N.num % 2) [hdSec N]).2 := ⟨_, rfl⟩
  have HLH : Hid (N.WF → ∀ W0 W, Nx w c t g M1 W0 → Below W0.heap.size W0 W → Calls Tryd.prog 39 #[ptr g, .int .i64 (i : Nat), .agg (hdCells N).toArray] W fun e w' => e = .returned (.int .i64 e2) ∧ Nx w c t g M2 w' ∧ ∀ q, W0.heap.size ≤ q → q < W.heap.size → w'.heap[q]? = W.heap[q]?) := fun hw W0 W h0 hW => by
    have htab := h0.tab h.tab h.tap
    obtain ⟨c', k1, k2, k3⟩ := h0
    refine (layHead_any (k2.below hW) (by omega) (Fr.TabIn.later hW htab) (i : Int) N hw).mono fun e w' he => ⟨by rw [he2]; exact he.1, ?_⟩
    rw [hM2]
    refine ⟨Nx.after k1 k3 (Nx.after (fun _ _ => rfl) (Ch.of_below hW) he.2), fun q hq1 hq2 => ?_⟩
    exact he.2.block q hq2 (k2.2.2 q hq1)
  have HCM : Hid ((e1 ≠ 0 → m.commit i N = (e1, M1)) ∧ (e1 = 0 → m.commit i N = (e2, M2))) := by
    rw [he1, hM1] at *
    rw [he2, hM2]
    unfold Pl.commit
    exact ⟨fun h0 => if_neg h0, fun h0 => if_pos h0⟩
  have HDK : Hid (rootOk U r = true → (m.commit i N).1 = 0 → DkOn (m.commit i N).2 ds ts i) := by rw [hN]; exact hdk
  obtain ⟨PQ, hPQ⟩ : ∃ PQ : Ending → World → Prop, PQ = fun (e : Ending) (w' : World) => ComR w c t gp g m ds ts i n L U r e w' := ⟨_, rfl⟩
  have HPQ : Hid (PQ = fun (e : Ending) (w' : World) => ComR w c t gp g m ds ts i n L U r e w') := hPQ
  have HRO : Hid (rootOk U r = (decide (r = -1) || b)) := by show _ = _; rw [hb]; rfl
  rw [← hPQ]
  clear hb hN he1 hM1 hle he2 hM2 hPQ hst hdk h
  have R0 : Hid (Loc w w []) := Loc.nil (Below.refl _ w)
  go_enter Tryd.func19, Tryd.ntmps19
  go_upto_region 0 with fail
  refine wp_region_lit ?_
  refine wl rfl (.int .i64 0) _ (run_asZ (.const (.int .i64 0)) rfl (.int .i64 0) rfl) ?_
  simp only [Act.put, aS, aC, aZ]
  refine wpList_nil ?_
  go_upto_region 1 with fail
  by_cases hr1 : r = -1
  · have hd1 : (!decide (r = -1)) = false := by rw [decide_eq_true hr1]; rfl
    have HOK : Hid (rootOk U r = true) := by show _ = _; rw [HRO.out, decide_eq_true hr1]; rfl
    clear hr1
    refine wp_region_lit ?_
    refine wl rfl (.int .i64 r) _ (run_mvZ (.tmp 1) rfl (.int .i64 r) rfl) ?_
    simp only [Act.put, aS, aC, aZ]
    refine wl rfl (.bool false) _ (run_neZ (.tmp 8) (.const (.int .i64 (-1))) rfl r (-1) rfl rfl false hd1) ?_
    simp only [Act.put, aS, aC, aZ]
    refine wl rfl (.bool false) _ (run_mvZ (.tmp 9) rfl (.bool false) rfl) ?_
    simp only [Act.put, aS, aC, aZ]
    refine wpList_skip (by kernel_rfl) ?_
    simp only [Act.put, aS, aC, aZ]
    refine wpList_skip (by kernel_rfl) ?_
    simp only [Act.put, aS, aC, aZ]
    refine wpList_skip (by kernel_rfl) ?_
    simp only [Act.put, aS, aC, aZ]
    refine wpList_skip (by kernel_rfl) ?_
    simp only [Act.put, aS, aC, aZ]
    refine wpList_skip (by kernel_rfl) ?_
    simp only [Act.put, aS, aC, aZ]
    refine wpList_skip (by kernel_rfl) ?_
    simp only [Act.put, aS, aC, aZ]
    refine wpList_skip (by kernel_rfl) ?_
    simp only [Act.put, aS, aC, aZ]
    refine wl rfl (.bool false) _ (run_pickZ (.tmp 10) (.tmp 17) (.const (.bool false)) rfl false (.bool false) rfl rfl) ?_
    simp only [Act.put, aS, aC, aZ]
    refine wpList_nil ?_
    have HWN : Hid N.WF := by show N.WF; rw [HN.out.2]; exact nextHd_wf HP.out.pg.us HOK.out
    go_upto_region 3 with fail
    refine wp_region_until (S := fun X => (Loc w X [] ∧ Row X gp 86 (pgCells g i n L U))) 8 (by kernel_rfl) ?_
    show wpAnyU _ _ _ _ _ _ 10 (Array.replicate 10 false) _ _
    obtain ⟨X, hX⟩ : ∃ X : World, X = { w with drawn := w.drawn + 1 } := ⟨_, rfl⟩
    rw [← hX]
    have hL : Loc w X [] := by rw [hX]; exact R0.out.drew
    have hR : Row X gp 86 (pgCells g i n L U) := HP.out.pg.row.later hL.below HP.out.pg.row.lt
    clear R0
    clear hX
    refine takeV (i := 0) [1, 2, 3, 8] (some 19) rfl rfl (by kernel_rfl) (by kernel_rfl) (by kernel_rfl) (by kernel_rfl) (fun _ _ _ h => h) (gRun rfl (ptr gp) fun _ h => run_mvZ (.tmp 0) rfl (ptr gp) rfl) ⟨hL, hR⟩ ?_
    simp only [Act.put, aS, aC, aZ]
    refine takeV (i := 1) [2, 3, 8] (some 20) rfl rfl (by kernel_rfl) (by kernel_rfl) (by kernel_rfl) (by kernel_rfl) (fun _ _ _ h => h) (gRun rfl (ptr gp) fun _ h => run_nil (.tmp 19) rfl ⟨gp, 0, none⟩ rfl) ⟨hL, hR⟩ ?_
    simp only [Act.put, aS, aC, aZ]
    refine takeV (i := 2) [3, 8] (some 21) rfl rfl (by kernel_rfl) (by kernel_rfl) (by kernel_rfl) (by kernel_rfl) (fun _ _ _ h => h) (gRun rfl (.pointer (some ⟨gp, 0 + 0, none⟩)) fun _ h => run_fieldOp' f86_0 (.tmp 20) rfl gp (0) rfl) ⟨hL, hR⟩ ?_
    simp only [Act.put, aS, aC, aZ]
    refine takeV (i := 3) [8] (some 22) rfl rfl (by kernel_rfl) (by kernel_rfl) (by kernel_rfl) (by kernel_rfl) (fun _ _ _ h => h) (gRun rfl (ptr g) fun _ h => run_load1 o24 (.tmp 21) rfl gp (0 + 0) rfl (ptr g) (h.2.at 0 _ rfl)) ⟨hL, hR⟩ ?_
    simp only [Act.put, aS, aC, aZ]
    refine takeV (i := 4) [5, 6, 7, 8] (some 23) rfl rfl (by kernel_rfl) (by kernel_rfl) (by kernel_rfl) (by kernel_rfl) (fun _ _ _ h => h) (gRun rfl (ptr gp) fun _ h => run_mvZ (.tmp 0) rfl (ptr gp) rfl) ⟨hL, hR⟩ ?_
    simp only [Act.put, aS, aC, aZ]
    refine takeV (i := 5) [6, 7, 8] (some 24) rfl rfl (by kernel_rfl) (by kernel_rfl) (by kernel_rfl) (by kernel_rfl) (fun _ _ _ h => h) (gRun rfl (ptr gp) fun _ h => run_nil (.tmp 23) rfl ⟨gp, 0, none⟩ rfl) ⟨hL, hR⟩ ?_
    simp only [Act.put, aS, aC, aZ]
    refine takeV (i := 6) [7, 8] (some 25) rfl rfl (by kernel_rfl) (by kernel_rfl) (by kernel_rfl) (by kernel_rfl) (fun _ _ _ h => h) (gRun rfl (.pointer (some ⟨gp, 0 + 1, none⟩)) fun _ h => run_fieldOp' f86_1 (.tmp 24) rfl gp (0) rfl) ⟨hL, hR⟩ ?_
    simp only [Act.put, aS, aC, aZ]
    refine takeV (i := 7) [8] (some 26) rfl rfl (by kernel_rfl) (by kernel_rfl) (by kernel_rfl) (by kernel_rfl) (fun _ _ _ h => h) (gRun rfl (.int .i64 (i : Nat)) fun _ h => run_load1 o3 (.tmp 25) rfl gp (0 + 1) rfl (.int .i64 (i : Nat)) (h.2.at 1 _ rfl)) ⟨hL, hR⟩ ?_
    simp only [Act.put, aS, aC, aZ]
    refine oneU (i := 8) (by kernel_rfl) ?_
    refine opCallG (some 27) rfl rfl rfl 34 _ (run_call eN34 [.tmp 22, .tmp 26] _ rfl [(ptr g), (.int .i64 (i : Nat))] rfl) ?_
    refine (HFL.out _ hL.below).mono ?_
    rintro e w2 ⟨rfl, n2⟩
    refine ⟨_, rfl, ?_⟩
    have RN : Hid (Nx w c t g M1 w2) := n2
    clear n2 hL hR
    refine ⟨fun h => absurd (show true = false from h) (by decide), ?_⟩
    simp only [Act.put, aS, aC, aZ]
    refine oneU (i := 9) (by kernel_rfl) ?_
    refine opValueG (some 5) rfl rfl rfl (.int .i64 e1) _ (run_asZ (.tmp 27) rfl (.int .i64 e1) rfl) ?_
    refine ⟨fun h => absurd (show true = false from h) (by decide), ?_⟩
    simp only [Act.put, aS, aC, aZ]
    refine wpAnyU_done (by kernel_rfl) ?_ _
    go_upto_region 4 with fail
    by_cases hz : e1 = 0
    · have hd0 : (!decide (e1 = 0)) = false := by rw [decide_eq_true hz]; rfl
      refine wp_region_lit ?_
      refine wl rfl (.int .i64 e1) _ (run_mvZ (.tmp 5) rfl (.int .i64 e1) rfl) ?_
      simp only [Act.put, aS, aC, aZ]
      refine wl rfl (.bool false) _ (run_neZ (.tmp 28) (.const (.int .i64 0)) rfl e1 0 rfl rfl false hd0) ?_
      simp only [Act.put, aS, aC, aZ]
      refine wpList_nil ?_
      have HC : Hid (m.commit i (nextHd L r U) = (e2, M2)) := by show _ = _; rw [← HN.out.2]; exact HCM.out.2 hz
      clear hz hd0
      have RP : Hid (Row w2 gp 86 (pgCells g i n L U)) := by
        obtain ⟨c', k1, k2, k3⟩ := RN.out
        exact k3.row HP.out.ap HP.out.pg.row
      have RL : Hid (Loc w2 w2 []) := Loc.nil (Below.refl _ w2)
      go_upto_region 6 with fail
      refine wp_region_held (S := fun X => Row X gp 86 (pgCells g i n L U)) (by kernel_rfl) ?_
      show wpAnyH _ _ _ _ _ 14 (Array.replicate 14 false) _ _
      obtain ⟨Y, hX⟩ : ∃ Y : World, Y = { w2 with drawn := w2.drawn + 1 } := ⟨_, rfl⟩
      rw [← hX]
      have hL : Loc w2 Y [] := by rw [hX]; exact RL.out.drew
      have hR : Row Y gp 86 (pgCells g i n L U) := RP.out.later hL.below RP.out.lt
      clear RL
      clear hX
      refine takeH (i := 0) (some 31) rfl rfl (by kernel_rfl) (by kernel_rfl) (by kernel_rfl) (fun _ _ _ h => h) (gRun rfl (ptr gp) fun _ h => run_mvZ (.tmp 0) rfl (ptr gp) rfl) hR ?_
      simp only [Act.put, aS, aC, aZ]
      refine takeH (i := 1) (some 32) rfl rfl (by kernel_rfl) (by kernel_rfl) (by kernel_rfl) (fun _ _ _ h => h) (gRun rfl (ptr gp) fun _ h => run_nil (.tmp 31) rfl ⟨gp, 0, none⟩ rfl) hR ?_
      simp only [Act.put, aS, aC, aZ]
      refine takeH (i := 2) (some 33) rfl rfl (by kernel_rfl) (by kernel_rfl) (by kernel_rfl) (fun _ _ _ h => h) (gRun rfl (.pointer (some ⟨gp, 0 + 3, none⟩)) fun _ h => run_fieldOp' f86_3 (.tmp 32) rfl gp (0) rfl) hR ?_
      simp only [Act.put, aS, aC, aZ]
      refine takeH (i := 3) (some 34) rfl rfl (by kernel_rfl) (by kernel_rfl) (by kernel_rfl) (fun _ _ _ h => h) (gRun rfl (.pointer (some ⟨gp, 0 + 3 + 0, none⟩)) fun _ h => run_fieldOp' f78_0 (.tmp 33) rfl gp (0 + 3) rfl) hR ?_
      simp only [Act.put, aS, aC, aZ]
      refine takeH (i := 4) (some 35) rfl rfl (by kernel_rfl) (by kernel_rfl) (by kernel_rfl) (fun _ _ _ h => h) (gRun rfl (.int .u64 (L.num : Nat)) fun _ h => run_load1 o74 (.tmp 34) rfl gp (0 + 3 + 0) rfl (.int .u64 (L.num : Nat)) (h.at (3 + 0) _ (pg_head 0 _ rfl))) hR ?_
      simp only [Act.put, aS, aC, aZ]
      refine takeH (i := 5) (some 36) rfl rfl (by kernel_rfl) (by kernel_rfl) (by kernel_rfl) (fun _ _ _ h => h) (gRun rfl (.int .u64 ((nextNum L.num : Nat) : Int)) fun _ h => run_inc64 (.tmp 35) rfl L.num rfl) hR ?_
      simp only [Act.put, aS, aC, aZ]
      refine takeH (i := 6) (some 37) rfl rfl (by kernel_rfl) (by kernel_rfl) (by kernel_rfl) (fun _ _ _ h => h) (gRun rfl (.int .i64 r) fun _ h => run_mvZ (.tmp 1) rfl (.int .i64 r) rfl) hR ?_
      simp only [Act.put, aS, aC, aZ]
      refine takeH (i := 7) (some 38) rfl rfl (by kernel_rfl) (by kernel_rfl) (by kernel_rfl) (fun _ _ _ h => h) (gRun rfl (ptr gp) fun _ h => run_mvZ (.tmp 0) rfl (ptr gp) rfl) hR ?_
      simp only [Act.put, aS, aC, aZ]
      refine takeH (i := 8) (some 39) rfl rfl (by kernel_rfl) (by kernel_rfl) (by kernel_rfl) (fun _ _ _ h => h) (gRun rfl (ptr gp) fun _ h => run_nil (.tmp 38) rfl ⟨gp, 0, none⟩ rfl) hR ?_
      simp only [Act.put, aS, aC, aZ]
      refine takeH (i := 9) (some 40) rfl rfl (by kernel_rfl) (by kernel_rfl) (by kernel_rfl) (fun _ _ _ h => h) (gRun rfl (.pointer (some ⟨gp, 0 + 53, none⟩)) fun _ h => run_fieldOp' f86_4 (.tmp 39) rfl gp (0) rfl) hR ?_
      simp only [Act.put, aS, aC, aZ]
      refine takeH (i := 10) (some 41) rfl rfl (by kernel_rfl) (by kernel_rfl) (by kernel_rfl) (fun _ _ _ h => h) (gRun rfl (.agg (bcells U).toArray) fun _ h => run_loadA ag76 (.tmp 40) rfl gp (0 + 53) rfl (bcells U) (by rw [bcells_length]; exact HP.out.pg.us.1) (fun j v hv => by rw [Nat.zero_add]; exact h.at _ _ (pg_used HP.out.pg.wf j v hv))) hR ?_
      simp only [Act.put, aS, aC, aZ]
      refine takeH (i := 11) (some 42) rfl rfl (by kernel_rfl) (by kernel_rfl) (by kernel_rfl) (fun _ _ _ h => h) (gRun rfl (.agg (hdCells N).toArray) fun _ h => (run_build78fOp (.tmp 36) (.tmp 37) (.tmp 41) rfl (nextNum L.num) r U HP.out.pg.us rfl rfl rfl).trans (by rw [HN.out.1])) hR ?_
      simp only [Act.put, aS, aC, aZ]
      refine oneH (i := 12) (by kernel_rfl) ?_
      refine opValueG (some 6) rfl rfl rfl (ptr Y.heap.size) _ (run_allocA (hdCells zHd) zero78' rfl) ?_
      have kR := hR.later (below_alloc' Y (.cells (hdCells zHd).toArray 78)) hR.lt
      have k_ := hL.box 78 (hdCells zHd)
      obtain ⟨w3, hW_⟩ : ∃ W, W = Y.alloc (.cells (hdCells zHd).toArray 78) := ⟨_, rfl⟩
      obtain ⟨q1, hq_⟩ : ∃ q, q = Y.heap.size := ⟨_, rfl⟩
      rw [← hW_, ← hq_] at k_
      rw [← hW_] at kR
      rw [← hW_, ← hq_]
      clear hq_ hW_ hR hL
      have hR : Row w3 gp 86 (pgCells g i n L U) := kR
      have hL : Loc w2 w3 [(q1, 78, hdCells zHd)] := k_
      clear kR k_
      refine ⟨hR, ?_⟩
      simp only [Act.put, aS, aC, aZ]
      refine oneH (i := 13) (by kernel_rfl) ?_
      refine opSkipZ rfl rfl rfl _ (run_storeL ag78 (.tmp 6) (.tmp 42) rfl hL 0 rfl 0 rfl (hdCells N) rfl (hd50 HWN.out) (by rw [hd50 HWN.out, zHd_len]; decide) (hdCells_one N)).1 ?_
      have k_ := hL.lay 0 rfl 0 (hdCells N)
      have kR := (Row.setRow_other hR (by have := hL.ge 0 rfl; have := RP.out.lt; omega : gp ≠ q1) (splice (hdCells zHd) 0 (hdCells N)).toArray)
      rw [spliceHd HWN.out] at k_ kR ⊢
      obtain ⟨w4, hW_⟩ : ∃ W, W = w3.setRow q1 (hdCells N).toArray := ⟨_, rfl⟩
      rw [← hW_] at k_ kR ⊢
      clear hW_ hR hL
      have hR : Row w4 gp 86 (pgCells g i n L U) := kR
      have hL : Loc w2 w4 [(q1, 78, hdCells N)] := k_
      clear kR k_
      refine ⟨hR, ?_⟩
      refine wpAnyH_done (by kernel_rfl) ?_ _
      have R4 : Hid (Loc w2 w4 [(q1, 78, hdCells N)] ∧ Row w4 gp 86 (pgCells g i n L U)) := ⟨hL, hR⟩
      clear hL hR
      go_upto_region 7 with fail
      refine wp_region_until (S := fun X => (Loc w2 X [(q1, 78, hdCells N)] ∧ Row X gp 86 (pgCells g i n L U))) 9 (by kernel_rfl) ?_
      show wpAnyU _ _ _ _ _ _ 11 (Array.replicate 11 false) _ _
      obtain ⟨Z, hX⟩ : ∃ Z : World, Z = { w4 with drawn := w4.drawn + 1 } := ⟨_, rfl⟩
      rw [← hX]
      have hL : Loc w2 Z [(q1, 78, hdCells N)] := by rw [hX]; exact R4.out.1.drew
      have hR : Row Z gp 86 (pgCells g i n L U) := by rw [hX]; exact R4.out.2
      clear R4
      clear hX
      refine takeV (i := 0) [1, 2, 3, 9] (some 43) rfl rfl (by kernel_rfl) (by kernel_rfl) (by kernel_rfl) (by kernel_rfl) (fun _ _ _ h => h) (gRun rfl (ptr gp) fun _ h => run_mvZ (.tmp 0) rfl (ptr gp) rfl) ⟨hL, hR⟩ ?_
      simp only [Act.put, aS, aC, aZ]
      refine takeV (i := 1) [2, 3, 9] (some 44) rfl rfl (by kernel_rfl) (by kernel_rfl) (by kernel_rfl) (by kernel_rfl) (fun _ _ _ h => h) (gRun rfl (ptr gp) fun _ h => run_nil (.tmp 43) rfl ⟨gp, 0, none⟩ rfl) ⟨hL, hR⟩ ?_
      simp only [Act.put, aS, aC, aZ]
      refine takeV (i := 2) [3, 9] (some 45) rfl rfl (by kernel_rfl) (by kernel_rfl) (by kernel_rfl) (by kernel_rfl) (fun _ _ _ h => h) (gRun rfl (.pointer (some ⟨gp, 0 + 0, none⟩)) fun _ h => run_fieldOp' f86_0 (.tmp 44) rfl gp (0) rfl) ⟨hL, hR⟩ ?_
      simp only [Act.put, aS, aC, aZ]
      refine takeV (i := 3) [9] (some 46) rfl rfl (by kernel_rfl) (by kernel_rfl) (by kernel_rfl) (by kernel_rfl) (fun _ _ _ h => h) (gRun rfl (ptr g) fun _ h => run_load1 o24 (.tmp 45) rfl gp (0 + 0) rfl (ptr g) (h.2.at 0 _ rfl)) ⟨hL, hR⟩ ?_
      simp only [Act.put, aS, aC, aZ]
      refine takeV (i := 4) [5, 6, 7, 9] (some 47) rfl rfl (by kernel_rfl) (by kernel_rfl) (by kernel_rfl) (by kernel_rfl) (fun _ _ _ h => h) (gRun rfl (ptr gp) fun _ h => run_mvZ (.tmp 0) rfl (ptr gp) rfl) ⟨hL, hR⟩ ?_
      simp only [Act.put, aS, aC, aZ]
      refine takeV (i := 5) [6, 7, 9] (some 48) rfl rfl (by kernel_rfl) (by kernel_rfl) (by kernel_rfl) (by kernel_rfl) (fun _ _ _ h => h) (gRun rfl (ptr gp) fun _ h => run_nil (.tmp 47) rfl ⟨gp, 0, none⟩ rfl) ⟨hL, hR⟩ ?_
      simp only [Act.put, aS, aC, aZ]
      refine takeV (i := 6) [7, 9] (some 49) rfl rfl (by kernel_rfl) (by kernel_rfl) (by kernel_rfl) (by kernel_rfl) (fun _ _ _ h => h) (gRun rfl (.pointer (some ⟨gp, 0 + 1, none⟩)) fun _ h => run_fieldOp' f86_1 (.tmp 48) rfl gp (0) rfl) ⟨hL, hR⟩ ?_
      simp only [Act.put, aS, aC, aZ]
      refine takeV (i := 7) [9] (some 50) rfl rfl (by kernel_rfl) (by kernel_rfl) (by kernel_rfl) (by kernel_rfl) (fun _ _ _ h => h) (gRun rfl (.int .i64 (i : Nat)) fun _ h => run_load1 o3 (.tmp 49) rfl gp (0 + 1) rfl (.int .i64 (i : Nat)) (h.2.at 1 _ rfl)) ⟨hL, hR⟩ ?_
      simp only [Act.put, aS, aC, aZ]
      refine takeV (i := 8) [9] (some 51) rfl rfl (by kernel_rfl) (by kernel_rfl) (by kernel_rfl) (by kernel_rfl) (fun _ _ _ h => h) (gRun rfl (.agg (hdCells N).toArray) fun _ h => run_loadA ag78 (.tmp 6) rfl q1 (0) rfl (hdCells N) (hd50 HWN.out) (rows_all h.1 0 rfl)) ⟨hL, hR⟩ ?_
      simp only [Act.put, aS, aC, aZ]
      refine oneU (i := 9) (by kernel_rfl) ?_
      refine opCallG (some 52) rfl rfl rfl 39 _ (run_call eN39 [.tmp 46, .tmp 50, .tmp 51] _ rfl [(ptr g), (.int .i64 (i : Nat)), (.agg (hdCells N).toArray)] rfl) ?_
      refine (HLH.out HWN.out w2 _ RN.out hL.below).mono ?_
      rintro e w5 ⟨rfl, n5, k5⟩
      refine ⟨_, rfl, ?_⟩
      have RN5 : Hid (Nx w c t g M2 w5 ∧ Row w5 q1 78 (hdCells N)) := ⟨n5, by unfold Row; rw [k5 q1 (hL.ge 0 rfl) (hL.at 0 rfl).lt]; exact hL.at 0 rfl⟩
      clear n5 k5 hL hR
      refine ⟨fun h => absurd (show true = false from h) (by decide), ?_⟩
      simp only [Act.put, aS, aC, aZ]
      refine oneU (i := 10) (by kernel_rfl) ?_
      refine opValueG (some 7) rfl rfl rfl (.int .i64 e2) _ (run_asZ (.tmp 52) rfl (.int .i64 e2) rfl) ?_
      refine ⟨fun h => absurd (show true = false from h) (by decide), ?_⟩
      simp only [Act.put, aS, aC, aZ]
      refine wpAnyU_done (by kernel_rfl) ?_ _
      go_upto_region 8 with fail
      by_cases hy : e2 = 0
      · have hd2 : (!decide (e2 = 0)) = false := by rw [decide_eq_true hy]; rfl
        refine wp_region_lit ?_
        refine wl rfl (.int .i64 e2) _ (run_mvZ (.tmp 7) rfl (.int .i64 e2) rfl) ?_
        simp only [Act.put, aS, aC, aZ]
        refine wl rfl (.bool false) _ (run_neZ (.tmp 53) (.const (.int .i64 0)) rfl e2 0 rfl rfl false hd2) ?_
        simp only [Act.put, aS, aC, aZ]
        refine wpList_nil ?_
        have HD : Hid (DkOn M2 ds ts i) := by
          have h1 := HDK.out HOK.out
          rw [HN.out.2, HC.out] at h1
          exact h1 hy
        have HE2 : Hid (e2 = 0) := hy
        clear hy hd2
        have HX : Hid (∃ c', (∀ b, b < w.heap.size → c' b = c b) ∧ Ch (fun b => (c b).1 = t) w w5 ∧ PgS w5 c' t gp g M2 ds ts i n L U) := HP.out.nx RN5.out.1 HD.out
        obtain ⟨c5, hc5⟩ := HX.out
        have HP5 : Hid ((∀ b, b < w.heap.size → c5 b = c b) ∧ Ch (fun b => (c b).1 = t) w w5 ∧ PgS w5 c5 t gp g M2 ds ts i n L U) := hc5
        clear hc5 HX
        go_upto_region 10 with fail
        refine wp_region_lit ?_
        refine wl rfl (ptr gp) _ (run_mvZ (.tmp 0) rfl (ptr gp) rfl) ?_
        simp only [Act.put, aS, aC, aZ]
        refine wl rfl (.agg (hdCells N).toArray) _ (run_loadA ag78 (.tmp 6) rfl q1 (0) rfl (hdCells N) (hd50 HWN.out) (fun j v hv => by rw [Nat.zero_add]; exact RN5.out.2.at j v hv)) ?_
        simp only [Act.put, aS, aC, aZ]
        refine wl rfl (ptr gp) _ (run_nil (.tmp 56) rfl ⟨gp, 0, none⟩ rfl) ?_
        simp only [Act.put, aS, aC, aZ]
        refine wl rfl (.pointer (some ⟨gp, 0 + 3, none⟩)) _ (run_fieldOp' f86_3 (.tmp 58) rfl gp (0) rfl) ?_
        simp only [Act.put, aS, aC, aZ]
        refine wlS rfl rfl _ (run_storeP ag78 (.tmp 59) (.tmp 57) rfl HP5.out.2.2.pg.row (0 + 3) rfl (hdCells N) rfl (hd50 HWN.out) (by rw [pgCells_length HP5.out.2.2.pg.wf HP5.out.2.2.pg.us, hd50 HWN.out]; decide) (hdCells_one N)) ?_
        rw [Nat.zero_add, pg_setL HP5.out.2.2.pg.wf HWN.out]
        obtain ⟨w6, hw6⟩ : ∃ W, W = w5.setRow gp (pgCells g i n N U).toArray := ⟨_, rfl⟩
        rw [← hw6]
        have R6 : Hid (Ch (fun b => (c b).1 = t ∨ b = gp) w w6 ∧ PgS w6 c5 t gp g M2 ds ts i n N U) := by
          rw [hw6]
          exact ⟨Ch.setRow (S := fun b => (c b).1 = t ∨ b = gp) (HP5.out.2.1.mono fun b _ e => Or.inl e) (g := gp) (Or.inl (Or.inr rfl)) _, HP5.out.2.2.set HWN.out HP.out.pg.us HP.out.out⟩
        clear hw6
        refine wpList_nil ?_
        go_wp2_with fail
        rw [HPQ.out]
        refine ⟨fun h => (by rw [HOK.out] at h; cases h), fun _ h0 => ?_, fun _ _ _ => ?_⟩
        · rw [HC.out] at h0
          exact absurd HE2.out h0
        · rw [HC.out, ← HN.out.2]
          exact ⟨rfl, c5, HP5.out.1, R6.out.1, R6.out.2⟩
      · have hd2 : (!decide (e2 = 0)) = true := by rw [decide_eq_false hy]; rfl
        refine wp_region_lit ?_
        refine wl rfl (.int .i64 e2) _ (run_mvZ (.tmp 7) rfl (.int .i64 e2) rfl) ?_
        simp only [Act.put, aS, aC, aZ]
        refine wl rfl (.bool true) _ (run_neZ (.tmp 53) (.const (.int .i64 0)) rfl e2 0 rfl rfl true hd2) ?_
        simp only [Act.put, aS, aC, aZ]
        refine wpList_nil ?_
        have HY : Hid (e2 ≠ 0) := hy
        clear hy hd2
        go_wp2_with fail
        rw [HPQ.out]
        refine ⟨fun h => (by rw [HOK.out] at h; cases h), fun _ _ => ?_, fun _ h0 => ?_⟩
        · rw [HC.out]
          exact ⟨rfl, RN5.out.1⟩
        · rw [HC.out] at h0
          exact absurd h0 HY.out
    · have hd0 : (!decide (e1 = 0)) = true := by rw [decide_eq_false hz]; rfl
      refine wp_region_lit ?_
      refine wl rfl (.int .i64 e1) _ (run_mvZ (.tmp 5) rfl (.int .i64 e1) rfl) ?_
      simp only [Act.put, aS, aC, aZ]
      refine wl rfl (.bool true) _ (run_neZ (.tmp 28) (.const (.int .i64 0)) rfl e1 0 rfl rfl true hd0) ?_
      simp only [Act.put, aS, aC, aZ]
      refine wpList_nil ?_
      have HC : Hid (m.commit i (nextHd L r U) = (e1, M1) ∧ e1 ≠ 0) := ⟨by rw [← HN.out.2]; exact HCM.out.1 hz, hz⟩
      clear hz hd0
      go_wp2_with fail
      rw [HPQ.out]
      refine ⟨fun h => (by rw [HOK.out] at h; cases h), fun _ _ => ?_, fun _ h0 => ?_⟩
      · rw [HC.out.1]
        exact ⟨rfl, RN.out⟩
      · rw [HC.out.1] at h0
        exact absurd h0 HC.out.2
  · have hd1 : (!decide (r = -1)) = true := by rw [decide_eq_false hr1]; rfl
    have HRB : Hid (rootOk U r = b) := by show _ = _; rw [HRO.out, decide_eq_false hr1]; rfl
    clear hr1
    refine wp_region_lit ?_
    refine wl rfl (.int .i64 r) _ (run_mvZ (.tmp 1) rfl (.int .i64 r) rfl) ?_
    simp only [Act.put, aS, aC, aZ]
    refine wl rfl (.bool true) _ (run_neZ (.tmp 8) (.const (.int .i64 (-1))) rfl r (-1) rfl rfl true hd1) ?_
    simp only [Act.put, aS, aC, aZ]
    refine wl rfl (.bool true) _ (run_mvZ (.tmp 9) rfl (.bool true) rfl) ?_
    simp only [Act.put, aS, aC, aZ]
    refine wl (by kernel_rfl) (ptr gp) _ (run_mvZ (.tmp 0) rfl (ptr gp) rfl) ?_
    simp only [Act.put, aS, aC, aZ]
    refine wl (by kernel_rfl) (ptr gp) _ (run_nil (.tmp 11) rfl ⟨gp, 0, none⟩ rfl) ?_
    simp only [Act.put, aS, aC, aZ]
    refine wl (by kernel_rfl) (.pointer (some ⟨gp, 0 + 53, none⟩)) _ (run_fieldOp' f86_4 (.tmp 12) rfl gp (0) rfl) ?_
    simp only [Act.put, aS, aC, aZ]
    refine wl (by kernel_rfl) (.agg (bcells U).toArray) _ (run_loadA ag76 (.tmp 13) rfl gp (0 + 53) rfl (bcells U) (by rw [bcells_length]; exact HP.out.pg.us.1) (fun j v hv => by rw [Nat.zero_add]; exact HP.out.pg.used j v hv)) ?_
    simp only [Act.put, aS, aC, aZ]
    refine wl (by kernel_rfl) (.int .i64 r) _ (run_mvZ (.tmp 1) rfl (.int .i64 r) rfl) ?_
    simp only [Act.put, aS, aC, aZ]
    refine wpList_callW eN45 [.tmp 14, .tmp 15] _ rfl rfl [(.agg (bcells U).toArray), (.int .i64 r)] rfl ?_
    refine (HHAS.out w).mono ?_
    rintro e w1 ⟨rfl, b1⟩
    refine ⟨_, rfl, ?_⟩
    have Rw1 : Hid (Loc w w1 []) := R0.out.later b1
    clear R0 b1
    simp only [Act.put, aS, aC, aZ]
    refine wl (by kernel_rfl) (.bool (!b)) _ (run_not (.tmp 16) 4 rfl b rfl) ?_
    simp only [Act.put, aS, aC, aZ]
    refine wl rfl (.bool (!b)) _ (run_pickZ (.tmp 10) (.tmp 17) (.const (.bool false)) rfl true (.bool (!b)) rfl rfl) ?_
    simp only [Act.put, aS, aC, aZ]
    refine wpList_nil ?_
    cases b with
    | false =>
      go_wp2_with fail
      rw [HPQ.out]
      exact ⟨fun _ => ⟨rfl, Rw1.out.below⟩, fun h => (by rw [HRB.out] at h; cases h), fun h => (by rw [HRB.out] at h; cases h)⟩
    | true =>
      have HOK : Hid (rootOk U r = true) := HRB.out
      have HWN : Hid N.WF := by show N.WF; rw [HN.out.2]; exact nextHd_wf HP.out.pg.us HOK.out
      go_upto_region 3 with fail
      refine wp_region_until (S := fun X => (Loc w X [] ∧ Row X gp 86 (pgCells g i n L U))) 8 (by kernel_rfl) ?_
      show wpAnyU _ _ _ _ _ _ 10 (Array.replicate 10 false) _ _
      obtain ⟨X, hX⟩ : ∃ X : World, X = { w1 with drawn := w1.drawn + 1 } := ⟨_, rfl⟩
      rw [← hX]
      have hL : Loc w X [] := by rw [hX]; exact Rw1.out.drew
      have hR : Row X gp 86 (pgCells g i n L U) := HP.out.pg.row.later hL.below HP.out.pg.row.lt
      clear Rw1
      clear hX
      refine takeV (i := 0) [1, 2, 3, 8] (some 19) rfl rfl (by kernel_rfl) (by kernel_rfl) (by kernel_rfl) (by kernel_rfl) (fun _ _ _ h => h) (gRun rfl (ptr gp) fun _ h => run_mvZ (.tmp 0) rfl (ptr gp) rfl) ⟨hL, hR⟩ ?_
      simp only [Act.put, aS, aC, aZ]
      refine takeV (i := 1) [2, 3, 8] (some 20) rfl rfl (by kernel_rfl) (by kernel_rfl) (by kernel_rfl) (by kernel_rfl) (fun _ _ _ h => h) (gRun rfl (ptr gp) fun _ h => run_nil (.tmp 19) rfl ⟨gp, 0, none⟩ rfl) ⟨hL, hR⟩ ?_
      simp only [Act.put, aS, aC, aZ]
      refine takeV (i := 2) [3, 8] (some 21) rfl rfl (by kernel_rfl) (by kernel_rfl) (by kernel_rfl) (by kernel_rfl) (fun _ _ _ h => h) (gRun rfl (.pointer (some ⟨gp, 0 + 0, none⟩)) fun _ h => run_fieldOp' f86_0 (.tmp 20) rfl gp (0) rfl) ⟨hL, hR⟩ ?_
      simp only [Act.put, aS, aC, aZ]
      refine takeV (i := 3) [8] (some 22) rfl rfl (by kernel_rfl) (by kernel_rfl) (by kernel_rfl) (by kernel_rfl) (fun _ _ _ h => h) (gRun rfl (ptr g) fun _ h => run_load1 o24 (.tmp 21) rfl gp (0 + 0) rfl (ptr g) (h.2.at 0 _ rfl)) ⟨hL, hR⟩ ?_
      simp only [Act.put, aS, aC, aZ]
      refine takeV (i := 4) [5, 6, 7, 8] (some 23) rfl rfl (by kernel_rfl) (by kernel_rfl) (by kernel_rfl) (by kernel_rfl) (fun _ _ _ h => h) (gRun rfl (ptr gp) fun _ h => run_mvZ (.tmp 0) rfl (ptr gp) rfl) ⟨hL, hR⟩ ?_
      simp only [Act.put, aS, aC, aZ]
      refine takeV (i := 5) [6, 7, 8] (some 24) rfl rfl (by kernel_rfl) (by kernel_rfl) (by kernel_rfl) (by kernel_rfl) (fun _ _ _ h => h) (gRun rfl (ptr gp) fun _ h => run_nil (.tmp 23) rfl ⟨gp, 0, none⟩ rfl) ⟨hL, hR⟩ ?_
      simp only [Act.put, aS, aC, aZ]
      refine takeV (i := 6) [7, 8] (some 25) rfl rfl (by kernel_rfl) (by kernel_rfl) (by kernel_rfl) (by kernel_rfl) (fun _ _ _ h => h) (gRun rfl (.pointer (some ⟨gp, 0 + 1, none⟩)) fun _ h => run_fieldOp' f86_1 (.tmp 24) rfl gp (0) rfl) ⟨hL, hR⟩ ?_
      simp only [Act.put, aS, aC, aZ]
      refine takeV (i := 7) [8] (some 26) rfl rfl (by kernel_rfl) (by kernel_rfl) (by kernel_rfl) (by kernel_rfl) (fun _ _ _ h => h) (gRun rfl (.int .i64 (i : Nat)) fun _ h => run_load1 o3 (.tmp 25) rfl gp (0 + 1) rfl (.int .i64 (i : Nat)) (h.2.at 1 _ rfl)) ⟨hL, hR⟩ ?_
      simp only [Act.put, aS, aC, aZ]
      refine oneU (i := 8) (by kernel_rfl) ?_
      refine opCallG (some 27) rfl rfl rfl 34 _ (run_call eN34 [.tmp 22, .tmp 26] _ rfl [(ptr g), (.int .i64 (i : Nat))] rfl) ?_
      refine (HFL.out _ hL.below).mono ?_
      rintro e w2 ⟨rfl, n2⟩
      refine ⟨_, rfl, ?_⟩
      have RN : Hid (Nx w c t g M1 w2) := n2
      clear n2 hL hR
      refine ⟨fun h => absurd (show true = false from h) (by decide), ?_⟩
      simp only [Act.put, aS, aC, aZ]
      refine oneU (i := 9) (by kernel_rfl) ?_
      refine opValueG (some 5) rfl rfl rfl (.int .i64 e1) _ (run_asZ (.tmp 27) rfl (.int .i64 e1) rfl) ?_
      refine ⟨fun h => absurd (show true = false from h) (by decide), ?_⟩
      simp only [Act.put, aS, aC, aZ]
      refine wpAnyU_done (by kernel_rfl) ?_ _
      go_upto_region 4 with fail
      by_cases hz : e1 = 0
      · have hd0 : (!decide (e1 = 0)) = false := by rw [decide_eq_true hz]; rfl
        refine wp_region_lit ?_
        refine wl rfl (.int .i64 e1) _ (run_mvZ (.tmp 5) rfl (.int .i64 e1) rfl) ?_
        simp only [Act.put, aS, aC, aZ]
        refine wl rfl (.bool false) _ (run_neZ (.tmp 28) (.const (.int .i64 0)) rfl e1 0 rfl rfl false hd0) ?_
        simp only [Act.put, aS, aC, aZ]
        refine wpList_nil ?_
        have HC : Hid (m.commit i (nextHd L r U) = (e2, M2)) := by show _ = _; rw [← HN.out.2]; exact HCM.out.2 hz
        clear hz hd0
        have RP : Hid (Row w2 gp 86 (pgCells g i n L U)) := by
          obtain ⟨c', k1, k2, k3⟩ := RN.out
          exact k3.row HP.out.ap HP.out.pg.row
        have RL : Hid (Loc w2 w2 []) := Loc.nil (Below.refl _ w2)
        go_upto_region 6 with fail
        refine wp_region_held (S := fun X => Row X gp 86 (pgCells g i n L U)) (by kernel_rfl) ?_
        show wpAnyH _ _ _ _ _ 14 (Array.replicate 14 false) _ _
        obtain ⟨Y, hX⟩ : ∃ Y : World, Y = { w2 with drawn := w2.drawn + 1 } := ⟨_, rfl⟩
        rw [← hX]
        have hL : Loc w2 Y [] := by rw [hX]; exact RL.out.drew
        have hR : Row Y gp 86 (pgCells g i n L U) := RP.out.later hL.below RP.out.lt
        clear RL
        clear hX
        refine takeH (i := 0) (some 31) rfl rfl (by kernel_rfl) (by kernel_rfl) (by kernel_rfl) (fun _ _ _ h => h) (gRun rfl (ptr gp) fun _ h => run_mvZ (.tmp 0) rfl (ptr gp) rfl) hR ?_
        simp only [Act.put, aS, aC, aZ]
        refine takeH (i := 1) (some 32) rfl rfl (by kernel_rfl) (by kernel_rfl) (by kernel_rfl) (fun _ _ _ h => h) (gRun rfl (ptr gp) fun _ h => run_nil (.tmp 31) rfl ⟨gp, 0, none⟩ rfl) hR ?_
        simp only [Act.put, aS, aC, aZ]
        refine takeH (i := 2) (some 33) rfl rfl (by kernel_rfl) (by kernel_rfl) (by kernel_rfl) (fun _ _ _ h => h) (gRun rfl (.pointer (some ⟨gp, 0 + 3, none⟩)) fun _ h => run_fieldOp' f86_3 (.tmp 32) rfl gp (0) rfl) hR ?_
        simp only [Act.put, aS, aC, aZ]
        refine takeH (i := 3) (some 34) rfl rfl (by kernel_rfl) (by kernel_rfl) (by kernel_rfl) (fun _ _ _ h => h) (gRun rfl (.pointer (some ⟨gp, 0 + 3 + 0, none⟩)) fun _ h => run_fieldOp' f78_0 (.tmp 33) rfl gp (0 + 3) rfl) hR ?_
        simp only [Act.put, aS, aC, aZ]
        refine takeH (i := 4) (some 35) rfl rfl (by kernel_rfl) (by kernel_rfl) (by kernel_rfl) (fun _ _ _ h => h) (gRun rfl (.int .u64 (L.num : Nat)) fun _ h => run_load1 o74 (.tmp 34) rfl gp (0 + 3 + 0) rfl (.int .u64 (L.num : Nat)) (h.at (3 + 0) _ (pg_head 0 _ rfl))) hR ?_
        simp only [Act.put, aS, aC, aZ]
        refine takeH (i := 5) (some 36) rfl rfl (by kernel_rfl) (by kernel_rfl) (by kernel_rfl) (fun _ _ _ h => h) (gRun rfl (.int .u64 ((nextNum L.num : Nat) : Int)) fun _ h => run_inc64 (.tmp 35) rfl L.num rfl) hR ?_
        simp only [Act.put, aS, aC, aZ]
        refine takeH (i := 6) (some 37) rfl rfl (by kernel_rfl) (by kernel_rfl) (by kernel_rfl) (fun _ _ _ h => h) (gRun rfl (.int .i64 r) fun _ h => run_mvZ (.tmp 1) rfl (.int .i64 r) rfl) hR ?_
        simp only [Act.put, aS, aC, aZ]
        refine takeH (i := 7) (some 38) rfl rfl (by kernel_rfl) (by kernel_rfl) (by kernel_rfl) (fun _ _ _ h => h) (gRun rfl (ptr gp) fun _ h => run_mvZ (.tmp 0) rfl (ptr gp) rfl) hR ?_
        simp only [Act.put, aS, aC, aZ]
        refine takeH (i := 8) (some 39) rfl rfl (by kernel_rfl) (by kernel_rfl) (by kernel_rfl) (fun _ _ _ h => h) (gRun rfl (ptr gp) fun _ h => run_nil (.tmp 38) rfl ⟨gp, 0, none⟩ rfl) hR ?_
        simp only [Act.put, aS, aC, aZ]
        refine takeH (i := 9) (some 40) rfl rfl (by kernel_rfl) (by kernel_rfl) (by kernel_rfl) (fun _ _ _ h => h) (gRun rfl (.pointer (some ⟨gp, 0 + 53, none⟩)) fun _ h => run_fieldOp' f86_4 (.tmp 39) rfl gp (0) rfl) hR ?_
        simp only [Act.put, aS, aC, aZ]
        refine takeH (i := 10) (some 41) rfl rfl (by kernel_rfl) (by kernel_rfl) (by kernel_rfl) (fun _ _ _ h => h) (gRun rfl (.agg (bcells U).toArray) fun _ h => run_loadA ag76 (.tmp 40) rfl gp (0 + 53) rfl (bcells U) (by rw [bcells_length]; exact HP.out.pg.us.1) (fun j v hv => by rw [Nat.zero_add]; exact h.at _ _ (pg_used HP.out.pg.wf j v hv))) hR ?_
        simp only [Act.put, aS, aC, aZ]
        refine takeH (i := 11) (some 42) rfl rfl (by kernel_rfl) (by kernel_rfl) (by kernel_rfl) (fun _ _ _ h => h) (gRun rfl (.agg (hdCells N).toArray) fun _ h => (run_build78fOp (.tmp 36) (.tmp 37) (.tmp 41) rfl (nextNum L.num) r U HP.out.pg.us rfl rfl rfl).trans (by rw [HN.out.1])) hR ?_
        simp only [Act.put, aS, aC, aZ]
        refine oneH (i := 12) (by kernel_rfl) ?_
        refine opValueG (some 6) rfl rfl rfl (ptr Y.heap.size) _ (run_allocA (hdCells zHd) zero78' rfl) ?_
        have kR := hR.later (below_alloc' Y (.cells (hdCells zHd).toArray 78)) hR.lt
        have k_ := hL.box 78 (hdCells zHd)
        obtain ⟨w3, hW_⟩ : ∃ W, W = Y.alloc (.cells (hdCells zHd).toArray 78) := ⟨_, rfl⟩
        obtain ⟨q1, hq_⟩ : ∃ q, q = Y.heap.size := ⟨_, rfl⟩
        rw [← hW_, ← hq_] at k_
        rw [← hW_] at kR
        rw [← hW_, ← hq_]
        clear hq_ hW_ hR hL
        have hR : Row w3 gp 86 (pgCells g i n L U) := kR
        have hL : Loc w2 w3 [(q1, 78, hdCells zHd)] := k_
        clear kR k_
        refine ⟨hR, ?_⟩
        simp only [Act.put, aS, aC, aZ]
        refine oneH (i := 13) (by kernel_rfl) ?_
        refine opSkipZ rfl rfl rfl _ (run_storeL ag78 (.tmp 6) (.tmp 42) rfl hL 0 rfl 0 rfl (hdCells N) rfl (hd50 HWN.out) (by rw [hd50 HWN.out, zHd_len]; decide) (hdCells_one N)).1 ?_
        have k_ := hL.lay 0 rfl 0 (hdCells N)
        have kR := (Row.setRow_other hR (by have := hL.ge 0 rfl; have := RP.out.lt; omega : gp ≠ q1) (splice (hdCells zHd) 0 (hdCells N)).toArray)
        rw [spliceHd HWN.out] at k_ kR ⊢
        obtain ⟨w4, hW_⟩ : ∃ W, W = w3.setRow q1 (hdCells N).toArray := ⟨_, rfl⟩
        rw [← hW_] at k_ kR ⊢
        clear hW_ hR hL
        have hR : Row w4 gp 86 (pgCells g i n L U) := kR
        have hL : Loc w2 w4 [(q1, 78, hdCells N)] := k_
        clear kR k_
        refine ⟨hR, ?_⟩
        refine wpAnyH_done (by kernel_rfl) ?_ _
        have R4 : Hid (Loc w2 w4 [(q1, 78, hdCells N)] ∧ Row w4 gp 86 (pgCells g i n L U)) := ⟨hL, hR⟩
        clear hL hR
        go_upto_region 7 with fail
        refine wp_region_until (S := fun X => (Loc w2 X [(q1, 78, hdCells N)] ∧ Row X gp 86 (pgCells g i n L U))) 9 (by kernel_rfl) ?_
        show wpAnyU _ _ _ _ _ _ 11 (Array.replicate 11 false) _ _
        obtain ⟨Z, hX⟩ : ∃ Z : World, Z = { w4 with drawn := w4.drawn + 1 } := ⟨_, rfl⟩
        rw [← hX]
        have hL : Loc w2 Z [(q1, 78, hdCells N)] := by rw [hX]; exact R4.out.1.drew
        have hR : Row Z gp 86 (pgCells g i n L U) := by rw [hX]; exact R4.out.2
        clear R4
        clear hX
        refine takeV (i := 0) [1, 2, 3, 9] (some 43) rfl rfl (by kernel_rfl) (by kernel_rfl) (by kernel_rfl) (by kernel_rfl) (fun _ _ _ h => h) (gRun rfl (ptr gp) fun _ h => run_mvZ (.tmp 0) rfl (ptr gp) rfl) ⟨hL, hR⟩ ?_
        simp only [Act.put, aS, aC, aZ]
        refine takeV (i := 1) [2, 3, 9] (some 44) rfl rfl (by kernel_rfl) (by kernel_rfl) (by kernel_rfl) (by kernel_rfl) (fun _ _ _ h => h) (gRun rfl (ptr gp) fun _ h => run_nil (.tmp 43) rfl ⟨gp, 0, none⟩ rfl) ⟨hL, hR⟩ ?_
        simp only [Act.put, aS, aC, aZ]
        refine takeV (i := 2) [3, 9] (some 45) rfl rfl (by kernel_rfl) (by kernel_rfl) (by kernel_rfl) (by kernel_rfl) (fun _ _ _ h => h) (gRun rfl (.pointer (some ⟨gp, 0 + 0, none⟩)) fun _ h => run_fieldOp' f86_0 (.tmp 44) rfl gp (0) rfl) ⟨hL, hR⟩ ?_
        simp only [Act.put, aS, aC, aZ]
        refine takeV (i := 3) [9] (some 46) rfl rfl (by kernel_rfl) (by kernel_rfl) (by kernel_rfl) (by kernel_rfl) (fun _ _ _ h => h) (gRun rfl (ptr g) fun _ h => run_load1 o24 (.tmp 45) rfl gp (0 + 0) rfl (ptr g) (h.2.at 0 _ rfl)) ⟨hL, hR⟩ ?_
        simp only [Act.put, aS, aC, aZ]
        refine takeV (i := 4) [5, 6, 7, 9] (some 47) rfl rfl (by kernel_rfl) (by kernel_rfl) (by kernel_rfl) (by kernel_rfl) (fun _ _ _ h => h) (gRun rfl (ptr gp) fun _ h => run_mvZ (.tmp 0) rfl (ptr gp) rfl) ⟨hL, hR⟩ ?_
        simp only [Act.put, aS, aC, aZ]
        refine takeV (i := 5) [6, 7, 9] (some 48) rfl rfl (by kernel_rfl) (by kernel_rfl) (by kernel_rfl) (by kernel_rfl) (fun _ _ _ h => h) (gRun rfl (ptr gp) fun _ h => run_nil (.tmp 47) rfl ⟨gp, 0, none⟩ rfl) ⟨hL, hR⟩ ?_
        simp only [Act.put, aS, aC, aZ]
        refine takeV (i := 6) [7, 9] (some 49) rfl rfl (by kernel_rfl) (by kernel_rfl) (by kernel_rfl) (by kernel_rfl) (fun _ _ _ h => h) (gRun rfl (.pointer (some ⟨gp, 0 + 1, none⟩)) fun _ h => run_fieldOp' f86_1 (.tmp 48) rfl gp (0) rfl) ⟨hL, hR⟩ ?_
        simp only [Act.put, aS, aC, aZ]
        refine takeV (i := 7) [9] (some 50) rfl rfl (by kernel_rfl) (by kernel_rfl) (by kernel_rfl) (by kernel_rfl) (fun _ _ _ h => h) (gRun rfl (.int .i64 (i : Nat)) fun _ h => run_load1 o3 (.tmp 49) rfl gp (0 + 1) rfl (.int .i64 (i : Nat)) (h.2.at 1 _ rfl)) ⟨hL, hR⟩ ?_
        simp only [Act.put, aS, aC, aZ]
        refine takeV (i := 8) [9] (some 51) rfl rfl (by kernel_rfl) (by kernel_rfl) (by kernel_rfl) (by kernel_rfl) (fun _ _ _ h => h) (gRun rfl (.agg (hdCells N).toArray) fun _ h => run_loadA ag78 (.tmp 6) rfl q1 (0) rfl (hdCells N) (hd50 HWN.out) (rows_all h.1 0 rfl)) ⟨hL, hR⟩ ?_
        simp only [Act.put, aS, aC, aZ]
        refine oneU (i := 9) (by kernel_rfl) ?_
        refine opCallG (some 52) rfl rfl rfl 39 _ (run_call eN39 [.tmp 46, .tmp 50, .tmp 51] _ rfl [(ptr g), (.int .i64 (i : Nat)), (.agg (hdCells N).toArray)] rfl) ?_
        refine (HLH.out HWN.out w2 _ RN.out hL.below).mono ?_
        rintro e w5 ⟨rfl, n5, k5⟩
        refine ⟨_, rfl, ?_⟩
        have RN5 : Hid (Nx w c t g M2 w5 ∧ Row w5 q1 78 (hdCells N)) := ⟨n5, by unfold Row; rw [k5 q1 (hL.ge 0 rfl) (hL.at 0 rfl).lt]; exact hL.at 0 rfl⟩
        clear n5 k5 hL hR
        refine ⟨fun h => absurd (show true = false from h) (by decide), ?_⟩
        simp only [Act.put, aS, aC, aZ]
        refine oneU (i := 10) (by kernel_rfl) ?_
        refine opValueG (some 7) rfl rfl rfl (.int .i64 e2) _ (run_asZ (.tmp 52) rfl (.int .i64 e2) rfl) ?_
        refine ⟨fun h => absurd (show true = false from h) (by decide), ?_⟩
        simp only [Act.put, aS, aC, aZ]
        refine wpAnyU_done (by kernel_rfl) ?_ _
        go_upto_region 8 with fail
        by_cases hy : e2 = 0
        · have hd2 : (!decide (e2 = 0)) = false := by rw [decide_eq_true hy]; rfl
          refine wp_region_lit ?_
          refine wl rfl (.int .i64 e2) _ (run_mvZ (.tmp 7) rfl (.int .i64 e2) rfl) ?_
          simp only [Act.put, aS, aC, aZ]
          refine wl rfl (.bool false) _ (run_neZ (.tmp 53) (.const (.int .i64 0)) rfl e2 0 rfl rfl false hd2) ?_
          simp only [Act.put, aS, aC, aZ]
          refine wpList_nil ?_
          have HD : Hid (DkOn M2 ds ts i) := by
            have h1 := HDK.out HOK.out
            rw [HN.out.2, HC.out] at h1
            exact h1 hy
          have HE2 : Hid (e2 = 0) := hy
          clear hy hd2
          have HX : Hid (∃ c', (∀ b, b < w.heap.size → c' b = c b) ∧ Ch (fun b => (c b).1 = t) w w5 ∧ PgS w5 c' t gp g M2 ds ts i n L U) := HP.out.nx RN5.out.1 HD.out
          obtain ⟨c5, hc5⟩ := HX.out
          have HP5 : Hid ((∀ b, b < w.heap.size → c5 b = c b) ∧ Ch (fun b => (c b).1 = t) w w5 ∧ PgS w5 c5 t gp g M2 ds ts i n L U) := hc5
          clear hc5 HX
          go_upto_region 10 with fail
          refine wp_region_lit ?_
          refine wl rfl (ptr gp) _ (run_mvZ (.tmp 0) rfl (ptr gp) rfl) ?_
          simp only [Act.put, aS, aC, aZ]
          refine wl rfl (.agg (hdCells N).toArray) _ (run_loadA ag78 (.tmp 6) rfl q1 (0) rfl (hdCells N) (hd50 HWN.out) (fun j v hv => by rw [Nat.zero_add]; exact RN5.out.2.at j v hv)) ?_
          simp only [Act.put, aS, aC, aZ]
          refine wl rfl (ptr gp) _ (run_nil (.tmp 56) rfl ⟨gp, 0, none⟩ rfl) ?_
          simp only [Act.put, aS, aC, aZ]
          refine wl rfl (.pointer (some ⟨gp, 0 + 3, none⟩)) _ (run_fieldOp' f86_3 (.tmp 58) rfl gp (0) rfl) ?_
          simp only [Act.put, aS, aC, aZ]
          refine wlS rfl rfl _ (run_storeP ag78 (.tmp 59) (.tmp 57) rfl HP5.out.2.2.pg.row (0 + 3) rfl (hdCells N) rfl (hd50 HWN.out) (by rw [pgCells_length HP5.out.2.2.pg.wf HP5.out.2.2.pg.us, hd50 HWN.out]; decide) (hdCells_one N)) ?_
          rw [Nat.zero_add, pg_setL HP5.out.2.2.pg.wf HWN.out]
          obtain ⟨w6, hw6⟩ : ∃ W, W = w5.setRow gp (pgCells g i n N U).toArray := ⟨_, rfl⟩
          rw [← hw6]
          have R6 : Hid (Ch (fun b => (c b).1 = t ∨ b = gp) w w6 ∧ PgS w6 c5 t gp g M2 ds ts i n N U) := by
            rw [hw6]
            exact ⟨Ch.setRow (S := fun b => (c b).1 = t ∨ b = gp) (HP5.out.2.1.mono fun b _ e => Or.inl e) (g := gp) (Or.inl (Or.inr rfl)) _, HP5.out.2.2.set HWN.out HP.out.pg.us HP.out.out⟩
          clear hw6
          refine wpList_nil ?_
          go_wp2_with fail
          rw [HPQ.out]
          refine ⟨fun h => (by rw [HOK.out] at h; cases h), fun _ h0 => ?_, fun _ _ _ => ?_⟩
          · rw [HC.out] at h0
            exact absurd HE2.out h0
          · rw [HC.out, ← HN.out.2]
            exact ⟨rfl, c5, HP5.out.1, R6.out.1, R6.out.2⟩
        · have hd2 : (!decide (e2 = 0)) = true := by rw [decide_eq_false hy]; rfl
          refine wp_region_lit ?_
          refine wl rfl (.int .i64 e2) _ (run_mvZ (.tmp 7) rfl (.int .i64 e2) rfl) ?_
          simp only [Act.put, aS, aC, aZ]
          refine wl rfl (.bool true) _ (run_neZ (.tmp 53) (.const (.int .i64 0)) rfl e2 0 rfl rfl true hd2) ?_
          simp only [Act.put, aS, aC, aZ]
          refine wpList_nil ?_
          have HY : Hid (e2 ≠ 0) := hy
          clear hy hd2
          go_wp2_with fail
          rw [HPQ.out]
          refine ⟨fun h => (by rw [HOK.out] at h; cases h), fun _ _ => ?_, fun _ h0 => ?_⟩
          · rw [HC.out]
            exact ⟨rfl, RN5.out.1⟩
          · rw [HC.out] at h0
            exact absurd h0 HY.out
      · have hd0 : (!decide (e1 = 0)) = true := by rw [decide_eq_false hz]; rfl
        refine wp_region_lit ?_
        refine wl rfl (.int .i64 e1) _ (run_mvZ (.tmp 5) rfl (.int .i64 e1) rfl) ?_
        simp only [Act.put, aS, aC, aZ]
        refine wl rfl (.bool true) _ (run_neZ (.tmp 28) (.const (.int .i64 0)) rfl e1 0 rfl rfl true hd0) ?_
        simp only [Act.put, aS, aC, aZ]
        refine wpList_nil ?_
        have HC : Hid (m.commit i (nextHd L r U) = (e1, M1) ∧ e1 ≠ 0) := ⟨by rw [← HN.out.2]; exact HCM.out.1 hz, hz⟩
        clear hz hd0
        go_wp2_with fail
        rw [HPQ.out]
        refine ⟨fun h => (by rw [HOK.out] at h; cases h), fun _ _ => ?_, fun _ h0 => ?_⟩
        · rw [HC.out.1]
          exact ⟨rfl, RN.out⟩
        · rw [HC.out.1] at h0
          exact absurd h0 HC.out.2
end Go.Proofs.YtkpnflgnhhfjoaaDoor

/- Layer 9: Put. -/
import Derived.Test.YtkpnflgnhhfjoaaDoorZ31
namespace Go.Proofs.YtkpnflgnhhfjoaaDoor
open Go.RowKit Go.Maps
open Fr.Frame (be val)

/-- the plant has gone on, and nothing else turned that was there -/
theorem PgS.nx {w w' : World} {c : Nat → Colour} {t gp g : Nat} {m m' : Pl} {ds ts : List Nat} {i n : Nat} {L : Hd} {U : List Nat} (h : PgS w c t gp g m ds ts i n L U) (hx : Nx w c t g m' w') (hd : DkOn m' ds ts i) : ∃ c', (∀ b, b < w.heap.size → c' b = c b) ∧ Ch (fun b => (c b).1 = t) w w' ∧ PgS w' c' t gp g m' ds ts i n L U := by
  obtain ⟨c', h1, h2, h3⟩ := hx
  exact ⟨c', h1, h3, ⟨h2, ⟨h3.row h.ap h.pg.row, h.pg.wf, h.pg.us⟩, by rw [h1 gp h.pg.row.lt]; exact h.ap, fun r => h3.cell h.tap (h.tab r), by rw [h1 0 (block_lt_of_cell (h.tab 0#32))]; exact h.tap, hd, h.npg, h.pos, h.out⟩⟩
theorem Pl.wrs_le (m : Pl) (d : Int) : ∀ (L : List (List Nat)) (a : Nat), (m.wrs d a L).2.steps ≤ m.steps + L.length := by
  intro L
  induction L generalizing m with
  | nil => intro a; exact Nat.le_refl _
  | cons s L ih =>
    intro a
    unfold Pl.wrs
    have h1 := m.write_le d (a : Int) s
    split
    · have := ih (m.write d (a : Int) s).2 (a + 1)
      rw [List.length_cons]; omega
    · rw [List.length_cons]; omega
/-- what Put answers and leaves -/
structure PutR (w : World) (c : Nat → Colour) (t gp g : Nat) (m : Pl) (ds ts : List Nat) (i n : Nat) (L : Hd) (U : List Nat) (b : List Nat) (e : Ending) (w' : World) : Prop where
  long : 500 < b.length → e = .returned (.tuple #[.int .i64 0, .int .i64 5]) ∧ Below w.heap.size w w'
  full : b.length ≤ 500 → leastP L U n = none → e = .returned (.tuple #[.int .i64 0, .int .i64 3]) ∧ Below w.heap.size w w'
  off : b.length ≤ 500 → ∀ p, leastP L U n = some p → (m.wrs (i : Int) (2 + 8 * p) (secs8 (imOf b))).1 ≠ 0 → e = .returned (.tuple #[.int .i64 0, .int .i64 (m.wrs (i : Int) (2 + 8 * p) (secs8 (imOf b))).1]) ∧ Nx w c t g (m.wrs (i : Int) (2 + 8 * p) (secs8 (imOf b))).2 w'
  put : b.length ≤ 500 → ∀ p, leastP L U n = some p → (m.wrs (i : Int) (2 + 8 * p) (secs8 (imOf b))).1 = 0 → DkOn (m.wrs (i : Int) (2 + 8 * p) (secs8 (imOf b))).2 ds ts i → e = .returned (.tuple #[.int .i64 (p : Nat), .int .i64 0]) ∧ ∃ c', (∀ b, b < w.heap.size → c' b = c b) ∧ Ch (fun b => (c b).1 = t ∨ b = gp) w w' ∧ PgS w' c' t gp g (m.wrs (i : Int) (2 + 8 * p) (secs8 (imOf b))).2 ds ts i n L (withP U p)
set_option maxHeartbeats 8000000 in
set_option maxRecDepth 100000 in
theorem put_any {w : World} {c : Nat → Colour} {t gp g : Nat} {m : Pl} {ds ts : List Nat} {i n : Nat} {L : Hd} {U : List Nat} (h : PgS w c t gp g m ds ts i n L U) (hst : m.steps + 60 < 1099511627775) (v : Value) (b : List Nat) (hv : SliceIn w v b) (hdk : ∀ p, p < n → b.length ≤ 500 → (m.wrs (i : Int) (2 + 8 * p) (secs8 (imOf b))).1 = 0 → DkOn (m.wrs (i : Int) (2 + 8 * p) (secs8 (imOf b))).2 ds ts i) : Calls Tryd.prog 15 #[ptr gp, v] w fun e w' => PutR w c t gp g m ds ts i n L U b e w' := by
  have HP : Hid (PgS w c t gp g m ds ts i n L U) := h
  have HV : Hid (SliceIn w v b) := hv
  obtain ⟨vp, vc, rfl, hvl, _⟩ := id hv
  obtain ⟨bl, hbl⟩ : ∃ bl, bl = b.length := ⟨_, rfl⟩
  have HBL : Hid (bl = b.length ∧ bl ≤ 9223372036854775807) := ⟨hbl, by rw [hbl]; exact hvl.2⟩
  have HBB : Hid (∀ c ∈ b, c < 256) := hv.lt256
  obtain ⟨r, hr⟩ : ∃ r, r = leastP L U n := ⟨_, rfl⟩
  have HR : Hid (r = leastP L U n) := hr
  have HRP : Hid (∀ p, r = some p → p < n ∧ n ≤ 384) := fun p hp => by rw [hr] at hp; exact ⟨(leastP_some hp).1, h.n384⟩
  have HLE : Hid (∀ W, Below w.heap.size w W → Calls Tryd.prog 41 #[ptr gp] W fun e w' => e = .returned (.tuple #[.int .i64 ((r.getD 0 : Nat) : Int), .bool r.isSome]) ∧ Below W.heap.size W w') := fun W hW => by rw [hr]; exact least_any (h.pg.later hW) h.n384
  have HIM : Hid (b.length ≤ 500 → ∀ W, Below w.heap.size w W → Calls Tryd.prog 43 #[.slice vp b.length vc] W fun e w' => e = .returned (.agg (bcells (imOf b)).toArray) ∧ Below W.heap.size W w') := fun h5 W hW => imageOf_any W (Fr.TabIn.later hW h.tab) _ b (SliceIn.later hW hv) h5
  have HWI : Hid (∀ p, p < 384 → b.length ≤ 500 → ∀ W, Below w.heap.size w W → Calls Tryd.prog 42 #[ptr g, .int .i64 (i : Nat), .int .i64 (p : Nat), .agg (bcells (imOf b)).toArray] W fun e w' => e = .returned (.int .i64 (m.wrs (i : Int) (2 + 8 * p) (secs8 (imOf b))).1) ∧ Nx w c t g (m.wrs (i : Int) (2 + 8 * p) (secs8 (imOf b))).2 w') := fun p hp h5 W hW => by
    refine (writeImage_any (h.live.below hW) hst (i : Int) p hp (imOf b) (imOf_length (by omega)) (imOf_lt HBB.out)).mono fun e w' he => ⟨he.1, ?_⟩
    exact Nx.after (fun _ _ => rfl) (Ch.of_below hW) he.2
  have HDK : Hid (∀ p, p < n → b.length ≤ 500 → (m.wrs (i : Int) (2 + 8 * p) (secs8 (imOf b))).1 = 0 → DkOn (m.wrs (i : Int) (2 + 8 * p) (secs8 (imOf b))).2 ds ts i) := hdk
  obtain ⟨PQ, hPQ⟩ : ∃ PQ : Ending → World → Prop, PQ = fun (e : Ending) (w' : World) => PutR w c t gp g m ds ts i n L U b e w' := ⟨_, rfl⟩
  have HPQ : Hid (PQ = fun (e : Ending) (w' : World) => PutR w c t gp g m ds ts i n L U b e w') := hPQ
  rw [← hPQ, ← hbl]
  rw [← hbl] at HIM
  clear hbl hr hPQ h hv hvl hst hdk
  have R0 : Hid (Loc w w []) := Loc.nil (Below.refl _ w)
  go_enter Tryd.func15, Tryd.ntmps15
  go_upto_region 0 with fail
  refine wp_region_lit ?_
  refine wl rfl (.int .i64 0) _ (run_asZ (.const (.int .i64 0)) rfl (.int .i64 0) rfl) ?_
  simp only [Act.put, aS, aC, aZ]
  refine wl rfl (.int .i64 0) _ (run_asZ (.const (.int .i64 0)) rfl (.int .i64 0) rfl) ?_
  simp only [Act.put, aS, aC, aZ]
  refine wpList_nil ?_
  go_upto_region 1 with fail
  by_cases h5 : 500 < bl
  · have hg : decide ((500 : Int) < (bl : Int)) = true := decide_eq_true (by omega)
    refine wp_region_lit ?_
    refine wl rfl (.slice vp bl vc) _ (run_mvZ (.tmp 1) rfl (.slice vp bl vc) rfl) ?_
    simp only [Act.put, aS, aC, aZ]
    refine wl rfl (.int .i64 (bl : Nat)) _ (run_lenZ sl38 (.tmp 9) rfl vp bl vc rfl) ?_
    simp only [Act.put, aS, aC, aZ]
    refine wl rfl (.bool true) _ (run_gtrZ (.tmp 10) (.const (.int .i64 500)) rfl (bl : Nat) 500 rfl rfl true hg) ?_
    simp only [Act.put, aS, aC, aZ]
    refine wpList_nil ?_
    have HB5 : Hid (500 < b.length) := by rw [← HBL.out.1]; exact h5
    clear h5 hg
    go_wp2_with fail
    rw [HPQ.out]
    exact ⟨fun _ => ⟨rfl, R0.out.below⟩, fun h => absurd HB5.out (by omega), fun h => absurd HB5.out (by omega), fun h => absurd HB5.out (by omega)⟩
  · have hg : decide ((500 : Int) < (bl : Int)) = false := decide_eq_false (by omega)
    refine wp_region_lit ?_
    refine wl rfl (.slice vp bl vc) _ (run_mvZ (.tmp 1) rfl (.slice vp bl vc) rfl) ?_
    simp only [Act.put, aS, aC, aZ]
    refine wl rfl (.int .i64 (bl : Nat)) _ (run_lenZ sl38 (.tmp 9) rfl vp bl vc rfl) ?_
    simp only [Act.put, aS, aC, aZ]
    refine wl rfl (.bool false) _ (run_gtrZ (.tmp 10) (.const (.int .i64 500)) rfl (bl : Nat) 500 rfl rfl false hg) ?_
    simp only [Act.put, aS, aC, aZ]
    refine wpList_nil ?_
    have HB5 : Hid (b.length ≤ 500) := by show _ ≤ _; rw [← HBL.out.1]; omega
    clear h5 hg
    go_upto_region 3 with fail
    refine wp_region_lit ?_
    refine wl rfl (ptr gp) _ (run_mvZ (.tmp 0) rfl (ptr gp) rfl) ?_
    simp only [Act.put, aS, aC, aZ]
    refine wpList_callW eN41 [.tmp 13] _ rfl rfl [(ptr gp)] rfl ?_
    refine (HLE.out w R0.out.below).mono ?_
    rintro e w1 ⟨rfl, b1⟩
    refine ⟨_, rfl, ?_⟩
    have Rw1 : Hid (Loc w w1 []) := R0.out.later b1
    clear R0 b1
    simp only [Act.put, aS, aC, aZ]
    refine wl rfl (.tuple #[(.int .i64 ((r.getD 0 : Nat) : Int)), (.bool r.isSome)]) _ (run_mvZ (.tmp 14) rfl (.tuple #[(.int .i64 ((r.getD 0 : Nat) : Int)), (.bool r.isSome)]) rfl) ?_
    simp only [Act.put, aS, aC, aZ]
    refine wl rfl (.int .i64 ((r.getD 0 : Nat) : Int)) _ (run_extZ (.tmp 12) 0 rfl #[(.int .i64 ((r.getD 0 : Nat) : Int)), (.bool r.isSome)] rfl (.int .i64 ((r.getD 0 : Nat) : Int)) rfl) ?_
    simp only [Act.put, aS, aC, aZ]
    refine wl rfl (.bool r.isSome) _ (run_extZ (.tmp 12) 1 rfl #[(.int .i64 ((r.getD 0 : Nat) : Int)), (.bool r.isSome)] rfl (.bool r.isSome) rfl) ?_
    simp only [Act.put, aS, aC, aZ]
    refine wl rfl (.int .i64 ((r.getD 0 : Nat) : Int)) _ (run_asZ (.tmp 15) rfl (.int .i64 ((r.getD 0 : Nat) : Int)) rfl) ?_
    simp only [Act.put, aS, aC, aZ]
    refine wl rfl (.bool r.isSome) _ (run_asZ (.tmp 16) rfl (.bool r.isSome) rfl) ?_
    simp only [Act.put, aS, aC, aZ]
    refine wpList_nil ?_
    cases r with
    | none =>
      go_upto_region 4 with fail
      refine wp_region_lit ?_
      refine wl rfl (.bool false) _ (run_mvZ (.tmp 7) rfl (.bool false) rfl) ?_
      simp only [Act.put, aS, aC, aZ]
      refine wl rfl (.bool true) _ (run_not (.tmp 17) 4 rfl false rfl) ?_
      simp only [Act.put, aS, aC, aZ]
      refine wpList_nil ?_
      go_wp2_with fail
      rw [HPQ.out]
      exact ⟨fun h => absurd HB5.out (by omega), fun _ _ => ⟨rfl, Rw1.out.below⟩, fun _ p hp => (by rw [← HR.out] at hp; cases hp), fun _ p hp => (by rw [← HR.out] at hp; cases hp)⟩
    | some p =>
      go_upto_region 4 with fail
      refine wp_region_lit ?_
      refine wl rfl (.bool true) _ (run_mvZ (.tmp 7) rfl (.bool true) rfl) ?_
      simp only [Act.put, aS, aC, aZ]
      refine wl rfl (.bool false) _ (run_not (.tmp 17) 4 rfl true rfl) ?_
      simp only [Act.put, aS, aC, aZ]
      refine wpList_nil ?_
      obtain ⟨hpn, hp384⟩ := HRP.out p rfl
      obtain ⟨e1, he1⟩ : ∃ e1, e1 = (m.wrs (i : Int) (2 + 8 * p) (secs8 (imOf b))).1 := ⟨_, rfl⟩
      obtain ⟨M, hM⟩ : ∃ M, M = (m.wrs (i : Int) (2 + 8 * p) (secs8 (imOf b))).2 := ⟨_, rfl⟩
      have HE : Hid (e1 = (m.wrs (i : Int) (2 + 8 * p) (secs8 (imOf b))).1 ∧ M = (m.wrs (i : Int) (2 + 8 * p) (secs8 (imOf b))).2) := ⟨he1, hM⟩
      have HWP : Hid (∀ W, Below w.heap.size w W → Calls Tryd.prog 42 #[ptr g, .int .i64 (i : Nat), .int .i64 (p : Nat), .agg (bcells (imOf b)).toArray] W fun e w' => e = .returned (.int .i64 e1) ∧ Nx w c t g M w') := fun W hW => by rw [he1, hM]; exact HWI.out p (by omega) HB5.out W hW
      clear he1 hM
      go_upto_region 6 with fail
      refine wp_region_until (S := fun X => (Loc w X [] ∧ Row X gp 86 (pgCells g i n L U))) 11 (by kernel_rfl) ?_
      show wpAnyU _ _ _ _ _ _ 13 (Array.replicate 13 false) _ _
      obtain ⟨X, hX⟩ : ∃ X : World, X = { w1 with drawn := w1.drawn + 1 } := ⟨_, rfl⟩
      rw [← hX]
      have hL : Loc w X [] := by rw [hX]; exact Rw1.out.drew
      have hR : Row X gp 86 (pgCells g i n L U) := HP.out.pg.row.later hL.below HP.out.pg.row.lt
      clear Rw1
      clear hX
      refine takeV (i := 0) [1, 2, 3, 11] (some 19) rfl rfl (by kernel_rfl) (by kernel_rfl) (by kernel_rfl) (by kernel_rfl) (fun _ _ _ h => h) (gRun rfl (ptr gp) fun _ h => run_mvZ (.tmp 0) rfl (ptr gp) rfl) ⟨hL, hR⟩ ?_
      simp only [Act.put, aS, aC, aZ]
      refine takeV (i := 1) [2, 3, 11] (some 20) rfl rfl (by kernel_rfl) (by kernel_rfl) (by kernel_rfl) (by kernel_rfl) (fun _ _ _ h => h) (gRun rfl (ptr gp) fun _ h => run_nil (.tmp 19) rfl ⟨gp, 0, none⟩ rfl) ⟨hL, hR⟩ ?_
      simp only [Act.put, aS, aC, aZ]
      refine takeV (i := 2) [3, 11] (some 21) rfl rfl (by kernel_rfl) (by kernel_rfl) (by kernel_rfl) (by kernel_rfl) (fun _ _ _ h => h) (gRun rfl (.pointer (some ⟨gp, 0 + 0, none⟩)) fun _ h => run_fieldOp' f86_0 (.tmp 20) rfl gp (0) rfl) ⟨hL, hR⟩ ?_
      simp only [Act.put, aS, aC, aZ]
      refine takeV (i := 3) [11] (some 22) rfl rfl (by kernel_rfl) (by kernel_rfl) (by kernel_rfl) (by kernel_rfl) (fun _ _ _ h => h) (gRun rfl (ptr g) fun _ h => run_load1 o24 (.tmp 21) rfl gp (0 + 0) rfl (ptr g) (h.2.at 0 _ rfl)) ⟨hL, hR⟩ ?_
      simp only [Act.put, aS, aC, aZ]
      refine takeV (i := 4) [5, 6, 7, 11] (some 23) rfl rfl (by kernel_rfl) (by kernel_rfl) (by kernel_rfl) (by kernel_rfl) (fun _ _ _ h => h) (gRun rfl (ptr gp) fun _ h => run_mvZ (.tmp 0) rfl (ptr gp) rfl) ⟨hL, hR⟩ ?_
      simp only [Act.put, aS, aC, aZ]
      refine takeV (i := 5) [6, 7, 11] (some 24) rfl rfl (by kernel_rfl) (by kernel_rfl) (by kernel_rfl) (by kernel_rfl) (fun _ _ _ h => h) (gRun rfl (ptr gp) fun _ h => run_nil (.tmp 23) rfl ⟨gp, 0, none⟩ rfl) ⟨hL, hR⟩ ?_
      simp only [Act.put, aS, aC, aZ]
      refine takeV (i := 6) [7, 11] (some 25) rfl rfl (by kernel_rfl) (by kernel_rfl) (by kernel_rfl) (by kernel_rfl) (fun _ _ _ h => h) (gRun rfl (.pointer (some ⟨gp, 0 + 1, none⟩)) fun _ h => run_fieldOp' f86_1 (.tmp 24) rfl gp (0) rfl) ⟨hL, hR⟩ ?_
      simp only [Act.put, aS, aC, aZ]
      refine takeV (i := 7) [11] (some 26) rfl rfl (by kernel_rfl) (by kernel_rfl) (by kernel_rfl) (by kernel_rfl) (fun _ _ _ h => h) (gRun rfl (.int .i64 (i : Nat)) fun _ h => run_load1 o3 (.tmp 25) rfl gp (0 + 1) rfl (.int .i64 (i : Nat)) (h.2.at 1 _ rfl)) ⟨hL, hR⟩ ?_
      simp only [Act.put, aS, aC, aZ]
      refine takeV (i := 8) [11] (some 27) rfl rfl (by kernel_rfl) (by kernel_rfl) (by kernel_rfl) (by kernel_rfl) (fun _ _ _ h => h) (gRun rfl (.int .i64 (p : Nat)) fun _ h => run_mvZ (.tmp 6) rfl (.int .i64 (p : Nat)) rfl) ⟨hL, hR⟩ ?_
      simp only [Act.put, aS, aC, aZ]
      refine takeV (i := 9) [10, 11] (some 28) rfl rfl (by kernel_rfl) (by kernel_rfl) (by kernel_rfl) (by kernel_rfl) (fun _ _ _ h => h) (gRun rfl (.slice vp bl vc) fun _ h => run_mvZ (.tmp 1) rfl (.slice vp bl vc) rfl) ⟨hL, hR⟩ ?_
      simp only [Act.put, aS, aC, aZ]
      refine oneU (i := 10) (by kernel_rfl) ?_
      refine opCallG (some 29) rfl rfl rfl 43 _ (run_call eN43 [.tmp 28] _ rfl [(.slice vp bl vc)] rfl) ?_
      refine (HIM.out (by rw [HBL.out.1]; exact HB5.out) _ hL.below).mono ?_
      rintro e w2 ⟨rfl, b2⟩
      refine ⟨_, rfl, ?_⟩
      have kR := hR.later b2 hR.lt
      have k_ := hL.later b2
      clear hR hL b2
      have hR : Row w2 gp 86 (pgCells g i n L U) := kR
      have hL : Loc w w2 [] := k_
      clear kR k_
      refine ⟨fun _ => ⟨hL, hR⟩, ?_⟩
      simp only [Act.put, aS, aC, aZ]
      refine oneU (i := 11) (by kernel_rfl) ?_
      refine opCallG (some 30) rfl rfl rfl 42 _ (run_call eN42 [.tmp 22, .tmp 26, .tmp 27, .tmp 29] _ rfl [(ptr g), (.int .i64 (i : Nat)), (.int .i64 (p : Nat)), (.agg (bcells (imOf b)).toArray)] rfl) ?_
      refine (HWP.out _ hL.below).mono ?_
      rintro e w3 ⟨rfl, n3⟩
      refine ⟨_, rfl, ?_⟩
      have RN : Hid (Nx w c t g M w3) := n3
      clear n3 hL hR
      refine ⟨fun h => absurd (show true = false from h) (by decide), ?_⟩
      simp only [Act.put, aS, aC, aZ]
      refine oneU (i := 12) (by kernel_rfl) ?_
      refine opValueG (some 8) rfl rfl rfl (.int .i64 e1) _ (run_asZ (.tmp 30) rfl (.int .i64 e1) rfl) ?_
      refine ⟨fun h => absurd (show true = false from h) (by decide), ?_⟩
      simp only [Act.put, aS, aC, aZ]
      refine wpAnyU_done (by kernel_rfl) ?_ _
      go_upto_region 7 with fail
      by_cases hz : e1 = 0
      · have hd0 : (!decide (e1 = 0)) = false := by rw [decide_eq_true hz]; rfl
        refine wp_region_lit ?_
        refine wl rfl (.int .i64 e1) _ (run_mvZ (.tmp 8) rfl (.int .i64 e1) rfl) ?_
        simp only [Act.put, aS, aC, aZ]
        refine wl rfl (.bool false) _ (run_neZ (.tmp 31) (.const (.int .i64 0)) rfl e1 0 rfl rfl false hd0) ?_
        simp only [Act.put, aS, aC, aZ]
        refine wpList_nil ?_
        have HD : Hid (DkOn M ds ts i) := by rw [HE.out.2]; exact HDK.out p hpn HB5.out (by rw [← HE.out.1]; exact hz)
        have HZ : Hid (e1 = 0) := hz
        clear hz hd0
        have HX : Hid (∃ c', (∀ b, b < w.heap.size → c' b = c b) ∧ Ch (fun b => (c b).1 = t) w w3 ∧ PgS w3 c' t gp g M ds ts i n L U) := HP.out.nx RN.out HD.out
        obtain ⟨c3, hc3⟩ := HX.out
        have HP3 : Hid ((∀ b, b < w.heap.size → c3 b = c b) ∧ Ch (fun b => (c b).1 = t) w w3 ∧ PgS w3 c3 t gp g M ds ts i n L U) := hc3
        clear hc3 HX RN
        obtain ⟨V, hV⟩ : ∃ V, V = withP U p := ⟨_, rfl⟩
        have HV2 : Hid (V = withP U p ∧ USet V) := ⟨hV, by rw [hV]; exact uset_with HP.out.pg.us p⟩
        have HWT : Hid (∀ W, Calls Tryd.prog 44 #[.agg (bcells U).toArray, .int .i64 (p : Nat)] W fun e w' => e = .returned (.agg (bcells V).toArray) ∧ Below W.heap.size W w') := fun W => by rw [hV]; exact with_any W U HP.out.pg.us p (by omega)
        clear hV
        go_upto_region 9 with fail
        refine wp_region_lit ?_
        refine wl rfl (ptr gp) _ (run_mvZ (.tmp 0) rfl (ptr gp) rfl) ?_
        simp only [Act.put, aS, aC, aZ]
        refine wl rfl (ptr gp) _ (run_mvZ (.tmp 0) rfl (ptr gp) rfl) ?_
        simp only [Act.put, aS, aC, aZ]
        refine wl rfl (ptr gp) _ (run_nil (.tmp 35) rfl ⟨gp, 0, none⟩ rfl) ?_
        simp only [Act.put, aS, aC, aZ]
        refine wl rfl (.pointer (some ⟨gp, 0 + 53, none⟩)) _ (run_fieldOp' f86_4 (.tmp 36) rfl gp (0) rfl) ?_
        simp only [Act.put, aS, aC, aZ]
        refine wl rfl (.agg (bcells U).toArray) _ (run_loadA ag76 (.tmp 37) rfl gp (0 + 53) rfl (bcells U) (by rw [bcells_length]; exact HP.out.pg.us.1) (fun j v hv => by rw [Nat.zero_add]; exact HP3.out.2.2.pg.used j v hv)) ?_
        simp only [Act.put, aS, aC, aZ]
        refine wl rfl (.int .i64 (p : Nat)) _ (run_mvZ (.tmp 6) rfl (.int .i64 (p : Nat)) rfl) ?_
        simp only [Act.put, aS, aC, aZ]
        refine wpList_callW eN44 [.tmp 38, .tmp 39] _ rfl rfl [(.agg (bcells U).toArray), (.int .i64 (p : Nat))] rfl ?_
        refine (HWT.out w3).mono ?_
        rintro e w4 ⟨rfl, b4⟩
        refine ⟨_, rfl, ?_⟩
        have HP4 : Hid (Below w3.heap.size w3 w4 ∧ PgS w4 c3 t gp g M ds ts i n L U) := ⟨b4, HP3.out.2.2.below b4⟩
        clear b4
        simp only [Act.put, aS, aC, aZ]
        refine wl rfl (ptr gp) _ (run_nil (.tmp 34) rfl ⟨gp, 0, none⟩ rfl) ?_
        simp only [Act.put, aS, aC, aZ]
        refine wl rfl (.pointer (some ⟨gp, 0 + 53, none⟩)) _ (run_fieldOp' f86_4 (.tmp 41) rfl gp (0) rfl) ?_
        simp only [Act.put, aS, aC, aZ]
        refine wlS rfl rfl _ (run_storeP ag76 (.tmp 42) (.tmp 40) rfl HP4.out.2.pg.row (0 + 53) rfl (bcells V) rfl (by rw [bcells_length]; exact HV2.out.2.1) (by rw [pgCells_length HP4.out.2.pg.wf HP4.out.2.pg.us, bcells_length, HV2.out.2.1]; decide) (bcells_one V)) ?_
        rw [Nat.zero_add, pg_setU HP4.out.2.pg.wf HP4.out.2.pg.us HV2.out.2]
        obtain ⟨w5, hw5⟩ : ∃ W, W = w4.setRow gp (pgCells g i n L V).toArray := ⟨_, rfl⟩
        rw [← hw5]
        have R5 : Hid (Ch (fun b => (c b).1 = t ∨ b = gp) w w5 ∧ PgS w5 c3 t gp g M ds ts i n L V) := by
          rw [hw5]
          refine ⟨Ch.setRow (S := fun b => (c b).1 = t ∨ b = gp) ((HP3.out.2.1.mono fun b _ e => Or.inl e).trans (Ch.of_below HP4.out.1)) (g := gp) (Or.inl (Or.inr rfl)) _, HP4.out.2.setU HV2.out.2 fun q h1 h2 => ?_⟩
          rw [HV2.out.1, bitP_with HP.out.pg.us (by omega), HP.out.out q h1 h2, decide_eq_false (by omega)]
          rfl
        clear hw5
        refine wpList_nil ?_
        go_wp2_with fail
        rw [HPQ.out]
        refine ⟨fun h => absurd HB5.out (by omega), fun _ h0 => (by rw [← HR.out] at h0; cases h0), fun _ p2 hp2 h0 => ?_, fun _ p2 hp2 _ _ => ?_⟩
        · rw [← HR.out] at hp2
          injection hp2 with hp2
          subst hp2
          rw [← HE.out.1] at h0
          exact absurd HZ.out h0
        · rw [← HR.out] at hp2
          injection hp2 with hp2
          subst hp2
          rw [← HE.out.2, ← HV2.out.1]
          exact ⟨rfl, c3, HP3.out.1, R5.out.1, R5.out.2⟩
      · have hd0 : (!decide (e1 = 0)) = true := by rw [decide_eq_false hz]; rfl
        refine wp_region_lit ?_
        refine wl rfl (.int .i64 e1) _ (run_mvZ (.tmp 8) rfl (.int .i64 e1) rfl) ?_
        simp only [Act.put, aS, aC, aZ]
        refine wl rfl (.bool true) _ (run_neZ (.tmp 31) (.const (.int .i64 0)) rfl e1 0 rfl rfl true hd0) ?_
        simp only [Act.put, aS, aC, aZ]
        refine wpList_nil ?_
        have HZ : Hid (e1 ≠ 0) := hz
        clear hz hd0
        go_wp2_with fail
        rw [HPQ.out]
        refine ⟨fun h => absurd HB5.out (by omega), fun _ h0 => (by rw [← HR.out] at h0; cases h0), fun _ p2 hp2 _ => ?_, fun _ p2 hp2 h0 => ?_⟩
        · rw [← HR.out] at hp2
          injection hp2 with hp2
          subst hp2
          rw [← HE.out.1, ← HE.out.2]
          exact ⟨rfl, RN.out⟩
        · rw [← HR.out] at hp2
          injection hp2 with hp2
          subst hp2
          rw [← HE.out.1] at h0
          exact absurd h0 HZ.out
end Go.Proofs.YtkpnflgnhhfjoaaDoor

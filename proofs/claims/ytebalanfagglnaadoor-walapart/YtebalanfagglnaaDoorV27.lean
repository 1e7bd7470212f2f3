/- Layer 8: a sector of the log read. -/
import Derived.Test.YtebalanfagglnaaDoorV26
namespace Go.Proofs.YtebalanfagglnaaDoor
open Go.RowKit Go.Maps

theorem eN81 : EntersF 73 := Go.Proofs.enters_of Tryd.func73 (by kernel_rfl) rfl
/-- what a place of the log tells: is there a part, is there a fault -/
def partIs (n : Nat) (b : List Nat) (a : Nat) : Bool := decide (a < n - 1) && (!decide (b = zeros) && partOk b)
def partEr (n : Nat) (b : List Nat) (a : Nat) : Int := if decide (a < n - 1) && (!decide (b = zeros) && !partOk b) then 4 else 0
set_option maxHeartbeats 4000000 in
set_option maxRecDepth 100000 in
theorem readPart_any {w : World} {c : Nat → Colour} {t g : Nat} {m : Pl} (h : Live w c t g m) {ds ts : List Nat} {i : Nat} (hd : DiskOn m ds ts i) (ht : Fr.TabIn w) (a : Nat) (ha : a ≤ 1000000) :
    Calls Tryd.prog 52 #[ptr g, .int .i64 (i : Nat), .int .i64 (a : Nat)] w fun e w' => ∃ s k l pv, e = .returned (.tuple #[.agg (partCells s k l pv).toArray, .bool (partIs (ds.getD i 0) (m.rd i (1 + a)) a), .int .i64 (partEr (ds.getD i 0) (m.rd i (1 + a)) a)]) ∧ (∃ p l c, pv = .slice p l c) ∧ (partIs (ds.getD i 0) (m.rd i (1 + a)) a = true → s = pS (m.rd i (1 + a)) ∧ k = pI (m.rd i (1 + a)) ∧ l = pL (m.rd i (1 + a)) ∧ SliceIn w' pv (pP (m.rd i (1 + a))) ∧ (pP (m.rd i (1 + a))).length = 44 ∧ ∀ b', pv.ownBlock = some b' → w.heap.size < b') ∧ Below w.heap.size w w' := by
  obtain ⟨n, hn⟩ : ∃ n, n = ds.getD i 0 := ⟨_, rfl⟩
  obtain ⟨b, hb⟩ : ∃ b, b = m.rd i (1 + a) := ⟨_, rfl⟩
  have hsec := Pl.rd_sec h.2.1 i (1 + a)
  have h4096 : n ≤ 4096 := by rw [hn]; have := (h.2.1.sizes i (by have := hd.shape.n; have := hd.lt; unfold Pl.n at *; omega)).2; rw [(hd.shape.disk i hd.lt).2] at this; exact this
  have hn8 : 8 ≤ n := by rw [hn]; exact hd.big
  have HRD : Hid (a < n - 1 → ∀ W, Below w.heap.size w W → Calls Tryd.prog 49 #[ptr g, .int .i64 (i : Nat), .int .i64 ((1 + a : Nat) : Int)] W fun e w' => ∃ q, e = .returned (.tuple #[.slice (some ⟨q, 0, none⟩) 64 64, .int .i64 0]) ∧ SliceIn w' (.slice (some ⟨q, 0, none⟩) 64 64) b ∧ Below W.heap.size W w') := fun hlt W hW => by
    refine ((h.below hW).read (by have := hd.steps; omega) hd.on i (1 + a) hd.len.1 (by rw [hd.len.2, ← hn]; omega)).mono fun e w' ⟨q, h1, _, h3, h4⟩ => ⟨q, h1, by rw [hb]; exact rd_slice h.2.1 h3, h4⟩
  have HLS : Hid (∀ W, Below w.heap.size w W → Calls Tryd.prog 27 #[ptr g, .int .i64 (i : Nat)] W fun e w' => e = .returned (.int .i64 ((n - 1 : Nat) : Int)) ∧ Below W.heap.size W w') := fun W hW => by rw [hn]; exact logSize_any (h.below hW) (by have := hd.steps; omega) hd.shape i hd.lt (by have := hd.big; omega)
  have HLB : Hid (b.length = 64) := by show _ = _; rw [hb]; exact hsec.1
  have HT : Hid (Fr.TabIn w) := ht
  obtain ⟨ok, hok⟩ : ∃ ok, ok = partIs n b a := ⟨_, rfl⟩
  obtain ⟨er, her⟩ : ∃ er, er = partEr n b a := ⟨_, rfl⟩
  have HOK : Hid (ok = partIs n b a ∧ er = partEr n b a) := ⟨hok, her⟩
  obtain ⟨PR, hPR⟩ : ∃ PR : World → Nat → Nat → Nat → Value → Prop, PR = fun w' s k l pv => (∃ p l c, pv = .slice p l c) ∧ (partIs n b a = true → s = pS b ∧ k = pI b ∧ l = pL b ∧ SliceIn w' pv (pP b) ∧ (pP b).length = 44 ∧ ∀ b', pv.ownBlock = some b' → w.heap.size < b') := ⟨_, rfl⟩
  have HPR : Hid (PR = fun w' s k l pv => (∃ p l c, pv = .slice p l c) ∧ (partIs n b a = true → s = pS b ∧ k = pI b ∧ l = pL b ∧ SliceIn w' pv (pP b) ∧ (pP b).length = 44 ∧ ∀ b', pv.ownBlock = some b' → w.heap.size < b')) := hPR
  rw [← hn, ← hb, ← hok, ← her]
  refine Calls.mono (R := fun e w' => ∃ s k l pv, e = .returned (.tuple #[.agg (partCells s k l pv).toArray, .bool ok, .int .i64 er]) ∧ PR w' s k l pv ∧ Below w.heap.size w w') ?_ (fun e w' ⟨s, k, l, pv, h1, h2, h3⟩ => ⟨s, k, l, pv, h1, by rw [HPR.out] at h2; exact h2.1, by rw [HPR.out] at h2; rw [hok]; exact h2.2, h3⟩)
  clear hn hb hsec h hd ht hok her hPR
  obtain ⟨q, hq⟩ : ∃ q, q = w.heap.size := ⟨_, rfl⟩
  have HQ : Hid (q = w.heap.size) := hq
  rw [← hq]
  clear hq
  go_enter Tryd.func52, Tryd.ntmps52
  go_upto_region 0 with fail
  refine wp_region_lit ?_
  refine wpList_alloc' (partCells 0 0 0 (.slice none 0 0)) zero126 rfl rfl ?_
  intro w1 r1 s1 b1
  rw [← HQ.out] at r1 s1 b1 ⊢
  refine wpList_assign (.const (.bool false)) rfl rfl (.bool false) rfl ?_
  refine wpList_assign (.const (.int .i64 0)) rfl rfl (.int .i64 0) rfl ?_
  refine wpList_nil ?_
  simp only [Act.put, aS, aC, aZ]
  have R1 : Hid (Row w1 q 104 (partCells 0 0 0 (.slice none 0 0)) ∧ Below q w w1) := ⟨r1, b1⟩
  clear r1 s1 b1
  by_cases hlt : a < n - 1
  · have t1 : decide (((n - 1 : Nat) : Int) ≤ (a : Int)) = false := decide_eq_false (by omega)
    go_upto_region 3 with (go_at_call 27; refine (HLS.out w1 (by rw [← HQ.out]; exact R1.out.2)).mono ?_; rintro e w2 ⟨rfl, b2⟩; have R2 : Hid (Row w2 q 104 (partCells 0 0 0 (.slice none 0 0)) ∧ Below q w w2) := ⟨R1.out.1.later b2 R1.out.1.lt, R1.out.2.trans (b2.mono (by have := R1.out.1.lt; omega))⟩; clear b2)
    refine wp_region_lit ?_
    refine wl_mv (.tmp 0) rfl rfl (ptr g) rfl ?_
    simp only [Act.put, aS, aC, aZ]
    refine wl_mv (.tmp 1) rfl rfl (.int .i64 (i : Nat)) rfl ?_
    simp only [Act.put, aS, aC, aZ]
    refine wl_mv (.tmp 2) rfl rfl (.int .i64 (a : Nat)) rfl ?_
    simp only [Act.put, aS, aC, aZ]
    refine wl rfl (.int .i64 ((1 + a : Nat) : Int)) w2 ?_ ?_
    · have e : (eqGuard .add 3 (.const (.int .i64 1)) (.tmp 22) (.int .i64 1) (.int .i64 (a : Nat))).run Tryd.prog w2 = .ok () w2 := rfl
      have hwr : IntKind.i64.wrap (1 + (a : Int)) = ((1 + a : Nat) : Int) := by
        simp [IntKind.wrap, IntKind.signed, IntKind.bits]
        omega
      have hr : (binOp .add 3 (.int .i64 1) (.int .i64 (a : Nat))).run Tryd.prog w2 = .ok (.int .i64 ((1 + a : Nat) : Int)) w2 := by simp [binOp, Op.intArith, hwr]
      exact run_binOp' (.const (.int .i64 1)) (.tmp 22) rfl (.int .i64 1) (.int .i64 (a : Nat)) _ rfl rfl e hr
    simp only [Act.put, aS, aC, aZ]
    refine wpList_callF eN27 [.tmp 20, .tmp 21, .tmp 23] _ rfl rfl [ptr g, .int .i64 (i : Nat), .int .i64 ((1 + a : Nat) : Int)] rfl ?_
    refine (HRD.out hlt w2 (by rw [← HQ.out]; exact R2.out.2)).mono ?_
    rintro e w3 ⟨qb, rfl, hs3, b3⟩
    refine ⟨_, rfl, ?_⟩
    have R3 : Hid (Row w3 q 104 (partCells 0 0 0 (.slice none 0 0)) ∧ Below q w w3 ∧ SliceIn w3 (.slice (some ⟨qb, 0, none⟩) 64 64) b) := ⟨R2.out.1.later b3 R2.out.1.lt, R2.out.2.trans (b3.mono (by have := R2.out.1.lt; omega)), hs3⟩
    clear hs3 b3 R2 R1
    obtain ⟨zb, hzb⟩ : ∃ zb, zb = decide (b = zeros) := ⟨_, rfl⟩
    have HZ : Hid (zb = decide (b = zeros)) := hzb
    have HBL : Hid (Calls Tryd.prog 72 #[.slice (some ⟨qb, 0, none⟩) 64 64] w3 fun e w' => e = .returned (.bool zb) ∧ Below w3.heap.size w3 w') := by rw [hzb]; exact isBlank_any w3 _ b R3.out.2.2
    clear hzb
    go_upto_region 4 with fail
    cases zb with
    | true =>
      have hz := of_decide_eq_true HZ.out.symm
      have e1 : ok = false := by rw [HOK.out.1]; unfold partIs; rw [decide_eq_true hz, Bool.not_true, Bool.false_and, Bool.and_false]
      have e2 : er = 0 := by rw [HOK.out.2]; unfold partEr; rw [decide_eq_true hz, Bool.not_true, Bool.false_and, Bool.and_false]; rfl
      subst e1 e2
      have HPN : Hid (∀ W, PR W 0 0 0 (.slice none 0 0)) := fun W => by rw [HPR.out]; exact ⟨⟨_, _, _, rfl⟩, fun h => by rw [← HOK.out.1] at h; cases h⟩
      go_upto_region 5 with (go_at_call 72; refine HBL.out.mono ?_; rintro e w4 ⟨rfl, b4⟩; have R4 : Hid (Row w4 q 104 (partCells 0 0 0 (.slice none 0 0)) ∧ Below q w w4) := ⟨R3.out.1.later b4 R3.out.1.lt, R3.out.2.1.trans (b4.mono (by have := R3.out.1.lt; omega))⟩; clear b4)
      refine wp_region_lit ?_
      refine wl rfl _ w4 (run_build126Op rfl) ?_
      simp only [Act.put, aS, aC, aZ]
      refine wl_mv (.tmp 10) rfl rfl (.int .i64 0) rfl ?_
      simp only [Act.put, aS, aC, aZ]
      refine wpList_store0 agg126 (.tmp 6) (.tmp 33) rfl rfl rfl q 0 104 rfl (partCells 0 0 0 (.slice none 0 0)) _ rfl rfl R4.out.1 (by simp [partCells]) (partCells_one 0 0 0 _ ⟨_, _, _, rfl⟩) ?_
      rw [splice_all _ _ rfl]
      refine wpList_assign (.const (.bool false)) rfl rfl (.bool false) rfl ?_
      simp only [Act.put, aS, aC, aZ]
      refine wl_as (.tmp 34) rfl rfl (.int .i64 0) rfl ?_
      simp only [Act.put, aS, aC, aZ]
      refine wpList_nil ?_
      have R5 : Hid (Row (w4.setRow q (partCells 0 0 0 (.slice none 0 0)).toArray) q 104 (partCells 0 0 0 (.slice none 0 0)) ∧ Below q w (w4.setRow q (partCells 0 0 0 (.slice none 0 0)).toArray)) := ⟨R4.out.1.setRow _, below_setRow R4.out.2 (Nat.le_refl _) _⟩
      generalize w4.setRow q (partCells 0 0 0 (.slice none 0 0)).toArray = w5 at R5 ⊢
      go_wp2_with fail
      exact bodyPost_ret (results_cell_tmp2 agg126 Tryd.results52 _ _ q 104 rfl _ rfl R5.out.1) rfl ⟨0, 0, 0, _, rfl, HPN.out _, R5.out.2⟩
    | false =>
      have hz := of_decide_eq_false HZ.out.symm
      obtain ⟨pk, hpk⟩ : ∃ pk, pk = partOk b := ⟨_, rfl⟩
      have HPK : Hid (pk = partOk b) := hpk
      have e1 : ok = pk := by rw [HOK.out.1, hpk]; unfold partIs; rw [decide_eq_true hlt, decide_eq_false hz]; rfl
      have e2 : er = if pk then 0 else 4 := by rw [HOK.out.2, hpk]; unfold partEr; rw [decide_eq_true hlt, decide_eq_false hz]; cases partOk b <;> rfl
      have HPO : Hid (∀ W, Below w.heap.size w W → SliceIn W (.slice (some ⟨qb, 0, none⟩) 64 64) b → Calls Tryd.prog 73 #[.slice (some ⟨qb, 0, none⟩) 64 64] W fun e w' => ∃ s i n pv, e = .returned (.tuple #[.agg (partCells s i n pv).toArray, .bool pk]) ∧ (∃ p l c, pv = .slice p l c) ∧ (pk = true → s = pS b ∧ i = pI b ∧ n = pL b ∧ SliceIn w' pv (pP b) ∧ (pP b).length = 44 ∧ ∀ b', pv.ownBlock = some b' → W.heap.size < b') ∧ Below W.heap.size W w') := fun W hW hS => by rw [hpk]; exact partOf_own W _ b hS (by rw [HLB.out]; decide) (TabIn.later HT.out hW)
      clear hpk hz
      subst e1
      go_upto_region 6 with (go_at_call 72; refine HBL.out.mono ?_; rintro e w4 ⟨rfl, b4⟩; have R4 : Hid (Row w4 q 104 (partCells 0 0 0 (.slice none 0 0)) ∧ Below q w w4 ∧ SliceIn w4 (.slice (some ⟨qb, 0, none⟩) 64 64) b) := ⟨R3.out.1.later b4 R3.out.1.lt, R3.out.2.1.trans (b4.mono (by have := R3.out.1.lt; omega)), R3.out.2.2.later b4⟩; clear b4)
      refine wp_region_lit ?_
      refine wl_mv (.tmp 9) rfl rfl (.slice (some ⟨qb, 0, none⟩) 64 64) rfl ?_
      simp only [Act.put, aS, aC, aZ]
      refine wpList_callF eN81 [.tmp 36] _ rfl rfl [.slice (some ⟨qb, 0, none⟩) 64 64] rfl ?_
      refine (HPO.out w4 (by rw [← HQ.out]; exact R4.out.2.1) R4.out.2.2).mono ?_
      rintro e w5 ⟨s, k, l, pv, rfl, hsl, hpp, b5⟩
      refine ⟨_, rfl, ?_⟩
      have R5 : Hid (Row w5 q 104 (partCells 0 0 0 (.slice none 0 0)) ∧ Below q w w5 ∧ (∃ p l c, pv = .slice p l c) ∧ (ok = true → s = pS b ∧ k = pI b ∧ l = pL b ∧ SliceIn w5 pv (pP b) ∧ (pP b).length = 44 ∧ ∀ b', pv.ownBlock = some b' → q < b')) := ⟨R4.out.1.later b5 R4.out.1.lt, R4.out.2.1.trans (b5.mono (by have := R4.out.1.lt; omega)), hsl, fun h => by have h2 := hpp h; exact ⟨h2.1, h2.2.1, h2.2.2.1, h2.2.2.2.1, h2.2.2.2.2.1, fun b' hb' => by have h3 := h2.2.2.2.2.2 b' hb'; have h4 := R4.out.1.lt; omega⟩⟩
      clear hsl hpp b5 R4 R3
      simp only [Act.put, aS, aC, aZ]
      refine wl_mv (.tmp 37) rfl rfl _ rfl ?_
      simp only [Act.put, aS, aC, aZ]
      refine wl rfl (.agg (partCells s k l pv).toArray) w5 (by simp [execOp, Act.eval, Instr.extract]) ?_
      simp only [Act.put, aS, aC, aZ]
      refine wl rfl (.bool ok) w5 (by simp [execOp, Act.eval, Instr.extract]) ?_
      simp only [Act.put, aS, aC, aZ]
      refine wpList_alloc_store agg126 _ zero126 rfl rfl rfl rfl rfl (.tmp 38) rfl (partCells s k l pv) rfl rfl (partCells_one s k l pv R5.out.2.2.1) (fun _ => rfl) (fun _ => rfl) ?_
      intro w6 r6 s6 b6
      obtain ⟨q6, hq6⟩ : ∃ q6, q6 = w5.heap.size := ⟨_, rfl⟩
      rw [← hq6] at r6 s6 b6 ⊢
      have R6 : Hid (Row w6 q6 104 (partCells s k l pv) ∧ Row w6 q 104 (partCells 0 0 0 (.slice none 0 0)) ∧ Below q w w6 ∧ q < q6 ∧ (ok = true → s = pS b ∧ k = pI b ∧ l = pL b ∧ SliceIn w6 pv (pP b) ∧ (pP b).length = 44 ∧ ∀ b', pv.ownBlock = some b' → q < b')) := ⟨r6, R5.out.1.later (by rw [← hq6]; exact b6) R5.out.1.lt, R5.out.2.1.trans (b6.mono (by have := R5.out.1.lt; omega)), by rw [hq6]; exact R5.out.1.lt, fun h => by have h2 := R5.out.2.2.2 h; exact ⟨h2.1, h2.2.1, h2.2.2.1, h2.2.2.2.1.later (by rw [← hq6]; exact b6), h2.2.2.2.2⟩⟩
      clear r6 s6 b6 hq6
      simp only [Act.put, aS, aC, aZ]
      refine wl_as (.tmp 39) rfl rfl (.bool ok) rfl ?_
      simp only [Act.put, aS, aC, aZ]
      refine wpList_nil ?_
      cases ok with
      | false =>
        have e4 : er = 4 := by rw [e2]; rfl
        subst e4
        have HPN : Hid (∀ W, PR W 0 0 0 (.slice none 0 0)) := fun W => by rw [HPR.out]; exact ⟨⟨_, _, _, rfl⟩, fun h => by rw [← HOK.out.1] at h; cases h⟩
        clear e2
        go_upto_region 8 with fail
        refine wp_region_lit ?_
        refine wl rfl _ w6 (run_build126Op rfl) ?_
        simp only [Act.put, aS, aC, aZ]
        refine wpList_store0 agg126 (.tmp 6) (.tmp 42) rfl rfl rfl q 0 104 rfl (partCells 0 0 0 (.slice none 0 0)) _ rfl rfl R6.out.2.1 (by simp [partCells]) (partCells_one 0 0 0 _ ⟨_, _, _, rfl⟩) ?_
        rw [splice_all _ _ rfl]
        refine wpList_assign (.const (.bool false)) rfl rfl (.bool false) rfl ?_
        refine wpList_assign (.const (.int .i64 4)) rfl rfl (.int .i64 4) rfl ?_
        refine wpList_nil ?_
        simp only [Act.put, aS, aC, aZ]
        have R7 : Hid (Row (w6.setRow q (partCells 0 0 0 (.slice none 0 0)).toArray) q 104 (partCells 0 0 0 (.slice none 0 0)) ∧ Below q w (w6.setRow q (partCells 0 0 0 (.slice none 0 0)).toArray)) := ⟨R6.out.2.1.setRow _, below_setRow R6.out.2.2.1 (Nat.le_refl _) _⟩
        generalize w6.setRow q (partCells 0 0 0 (.slice none 0 0)).toArray = w7 at R7 ⊢
        go_wp2_with fail
        exact bodyPost_ret (results_cell_tmp2 agg126 Tryd.results52 _ _ q 104 rfl _ rfl R7.out.1) rfl ⟨0, 0, 0, _, rfl, HPN.out _, R7.out.2⟩
      | true =>
        have e4 : er = 0 := by rw [e2]; rfl
        subst e4
        clear e2
        go_upto_region 9 with fail
        refine wp_region_lit ?_
        refine wpList_load agg126 (.tmp 11) rfl rfl q6 0 rfl (partCells s k l pv) rfl (fun j v hj => by rw [Nat.zero_add]; exact R6.out.1.at j v hj) ?_
        simp only [Act.put, aS, aC, aZ]
        refine wpList_store0 agg126 (.tmp 6) (.tmp 43) rfl rfl rfl q 0 104 rfl (partCells s k l pv) _ rfl rfl R6.out.2.1 (by simp [partCells]) (partCells_one s k l pv R5.out.2.2.1) ?_
        rw [splice_all (partCells 0 0 0 (.slice none 0 0)) (partCells s k l pv) rfl]
        refine wpList_assign (.const (.bool true)) rfl rfl (.bool true) rfl ?_
        refine wpList_assign (.const (.int .i64 0)) rfl rfl (.int .i64 0) rfl ?_
        refine wpList_nil ?_
        simp only [Act.put, aS, aC, aZ]
        have R7 : Hid (Row (w6.setRow q (partCells s k l pv).toArray) q 104 (partCells s k l pv) ∧ Below q w (w6.setRow q (partCells s k l pv).toArray) ∧ PR (w6.setRow q (partCells s k l pv).toArray) s k l pv) := ⟨R6.out.2.1.setRow _, below_setRow R6.out.2.2.1 (Nat.le_refl _) _, by
          rw [HPR.out]
          have h2 := R6.out.2.2.2.2 rfl
          exact ⟨R5.out.2.2.1, fun _ => ⟨h2.1, h2.2.1, h2.2.2.1, sliceK h2.2.2.2.1 fun b' hb' _ => Go.setRow_other _ _ _ _ (by have := h2.2.2.2.2.2 b' hb'; omega), h2.2.2.2.2.1, fun b' hb' => by rw [← HQ.out]; exact h2.2.2.2.2.2 b' hb'⟩⟩⟩
        generalize w6.setRow q (partCells s k l pv).toArray = w7 at R7 ⊢
        go_wp2_with fail
        exact bodyPost_ret (results_cell_tmp2 agg126 Tryd.results52 _ _ q 104 rfl _ rfl R7.out.1) rfl ⟨s, k, l, pv, rfl, R7.out.2.2, R7.out.2.1⟩
  · have t1 : decide (((n - 1 : Nat) : Int) ≤ (a : Int)) = true := decide_eq_true (by omega)
    have e1 : ok = false := by rw [HOK.out.1]; unfold partIs; rw [decide_eq_false hlt]; rfl
    have e2 : er = 0 := by rw [HOK.out.2]; unfold partEr; rw [decide_eq_false hlt]; rfl
    subst e1 e2
    have HPN : Hid (∀ W, PR W 0 0 0 (.slice none 0 0)) := fun W => by rw [HPR.out]; exact ⟨⟨_, _, _, rfl⟩, fun h => by rw [← HOK.out.1] at h; cases h⟩
    go_upto_region 2 with (go_at_call 27; refine (HLS.out w1 (by rw [← HQ.out]; exact R1.out.2)).mono ?_; rintro e w2 ⟨rfl, b2⟩; have R2 : Hid (Row w2 q 104 (partCells 0 0 0 (.slice none 0 0)) ∧ Below q w w2) := ⟨R1.out.1.later b2 R1.out.1.lt, R1.out.2.trans (b2.mono (by have := R1.out.1.lt; omega))⟩; clear b2)
    refine wp_region_lit ?_
    refine wl rfl _ w2 (run_build126Op rfl) ?_
    simp only [Act.put, aS, aC, aZ]
    refine wpList_store0 agg126 (.tmp 6) (.tmp 18) rfl rfl rfl q 0 104 rfl (partCells 0 0 0 (.slice none 0 0)) _ rfl rfl R2.out.1 (by simp [partCells]) (partCells_one 0 0 0 _ ⟨_, _, _, rfl⟩) ?_
    rw [splice_all _ _ rfl]
    refine wpList_assign (.const (.bool false)) rfl rfl (.bool false) rfl ?_
    refine wpList_assign (.const (.int .i64 0)) rfl rfl (.int .i64 0) rfl ?_
    refine wpList_nil ?_
    simp only [Act.put, aS, aC, aZ]
    have R3 : Hid (Row (w2.setRow q (partCells 0 0 0 (.slice none 0 0)).toArray) q 104 (partCells 0 0 0 (.slice none 0 0)) ∧ Below q w (w2.setRow q (partCells 0 0 0 (.slice none 0 0)).toArray)) := ⟨R2.out.1.setRow _, below_setRow R2.out.2 (Nat.le_refl _) _⟩
    generalize w2.setRow q (partCells 0 0 0 (.slice none 0 0)).toArray = w3 at R3 ⊢
    go_wp2_with fail
    exact bodyPost_ret (results_cell_tmp2 agg126 Tryd.results52 _ _ q 104 rfl _ rfl R3.out.1) rfl ⟨0, 0, 0, _, rfl, HPN.out _, R3.out.2⟩
end Go.Proofs.YtebalanfagglnaaDoor

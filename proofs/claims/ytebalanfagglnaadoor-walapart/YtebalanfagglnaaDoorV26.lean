/- Layer 8: Append. Layer 8: Format. Layer 8: the head read. Layer 8: parts opened, and whose their bytes are. -/
import Derived.Test.YtebalanfagglnaaDoorV25
namespace Go.Proofs.YtebalanfagglnaaDoor
open Go.RowKit Go.Maps

theorem eN49 : EntersF 33 := Go.Proofs.enters_of Tryd.func33 (by kernel_rfl) rfl
theorem eN50 : EntersF 34 := Go.Proofs.enters_of Tryd.func34 (by kernel_rfl) rfl
theorem eN51 : EntersF 35 := Go.Proofs.enters_of Tryd.func35 (by kernel_rfl) rfl
theorem gAdd1 {ops : Array Oper} {a : Act} {S : World → Prop} {o : Oper} (hw : Region.wanted o (yielded ops a.tmps) = true) (y : Operand) (ho : o.op = .binOp .add 3 (.const (.int .i64 1)) y 3) (n : Nat) (hn : n ≤ 1000000) (hy : a.eval y = .int .i64 (n : Nat)) : YieldsIf Tryd.prog ops S o (.int .i64 ((1 + n : Nat) : Int)) a := gRun hw _ fun w _ => by
  have hx : a.eval (.const (.int .i64 1)) = .int .i64 1 := rfl
  have e : (eqGuard .add 3 (.const (.int .i64 1)) y (.int .i64 1) (.int .i64 (n : Nat))).run Tryd.prog w = .ok () w := rfl
  have hwr : IntKind.i64.wrap (1 + (n : Int)) = ((1 + n : Nat) : Int) := by
    simp [IntKind.wrap, IntKind.signed, IntKind.bits]
    omega
  have hr : (binOp .add 3 (.int .i64 1) (.int .i64 (n : Nat))).run Tryd.prog w = .ok (.int .i64 ((1 + n : Nat) : Int)) w := by simp [binOp, Op.intArith, hwr]
  simp only [execOp, ho, hx, hy, e, hr, Sem.run_bind, Sem.run_pure, Result.andThen_ok]
theorem run_binOp' {w : World} {a : Act} {o : Oper} {k : BinOp} {t : TypeId} (x y : Operand) (ho : o.op = .binOp k t x y t) (u v r : Value) (hx : a.eval x = u) (hy : a.eval y = v) (e : (eqGuard k t x y u v).run Tryd.prog w = .ok () w) (hr : (binOp k t u v).run Tryd.prog w = .ok r w) : (execOp a.eval o).run Tryd.prog w = .ok (.value r) w := by
  simp only [execOp, ho, hx, hy, e, hr, Sem.run_bind, Sem.run_pure, Result.andThen_ok]
/-- Append: the answer, the plant, how many sectors are taken -/
def Pl.app (m : Pl) (i s used n : Nat) (L : List (List Nat)) : Int × Pl × Nat :=
  if longTx L then (5, m, used) else if fitsB L n used then ((m.lay (i : Int) (1 + used) (rowSecs s (bodyOf L))).1, (m.lay (i : Int) (1 + used) (rowSecs s (bodyOf L))).2, if (m.lay (i : Int) (1 + used) (rowSecs s (bodyOf L))).1 = 0 then used + secsOf (txSize L) else used) else (3, m, used)
set_option maxHeartbeats 4000000 in
set_option maxRecDepth 100000 in
theorem append_any' {w : World} {c : Nat → Colour} {t g gw : Nat} {m : Pl} (h : Live w c t g m) (i : Nat) (s used : Nat) (hw : WalAt w c t gw g (i : Int) s used) (hst : m.steps + 2000 < 1099511627775) {ds ts : List Nat} (hsh : ShapeOf m ds ts) (hi : i < ds.length) (h1 : 1 ≤ ds.getD i 0) (hu : used ≤ 10000) (v : Value) (L : List (List Nat)) (hr : RowsIn w v L) (hsz : txSize L ≤ 100000000) :
    Calls Tryd.prog 14 #[ptr gw, v] w fun e w' => e = .returned (.int .i64 (m.app i s used (ds.getD i 0) L).1) ∧ ∃ c', (∀ b, b < w.heap.size → c' b = c b) ∧ Live w' c' t g (m.app i s used (ds.getD i 0) L).2.1 ∧ Ch (fun b => (c b).1 = t ∨ b = gw) w w' ∧ WalAt w' c' t gw g (i : Int) s (m.app i s used (ds.getD i 0) L).2.2 := by
  have hby : bytesOf L ≤ 1099511627776 := by unfold txSize at hsz; omega
  have hFi := fits_any h i s used hw (by omega) hsh hi h1 (by omega) v L hr hsz
  obtain ⟨n, hn⟩ : ∃ n, n = ds.getD i 0 := ⟨_, rfl⟩
  rw [← hn] at hFi ⊢
  obtain ⟨lg, hlg⟩ : ∃ lg, lg = longTx L := ⟨_, rfl⟩
  obtain ⟨fb, hfb⟩ : ∃ fb, fb = fitsB L n used := ⟨_, rfl⟩
  have HLO : Hid (Calls Tryd.prog 32 #[v] w fun e w' => e = .returned (.bool lg) ∧ w = w') := by rw [hlg]; exact long_any w v L hr hby
  have HFI : Hid (Calls Tryd.prog 33 #[ptr gw, v] w fun e w' => e = .returned (.bool fb) ∧ Below w.heap.size w w') := by rw [hfb]; exact hFi
  obtain ⟨er, her⟩ : ∃ er, er = (m.app i s used n L).1 := ⟨_, rfl⟩
  obtain ⟨M, hM⟩ : ∃ M, M = (m.app i s used n L).2.1 := ⟨_, rfl⟩
  obtain ⟨un, hun⟩ : ∃ un, un = (m.app i s used n L).2.2 := ⟨_, rfl⟩
  have HEM : Hid ((er, M, un) = if lg then (5, m, used) else if fb then ((m.lay (i : Int) (1 + used) (rowSecs s (bodyOf L))).1, (m.lay (i : Int) (1 + used) (rowSecs s (bodyOf L))).2, if (m.lay (i : Int) (1 + used) (rowSecs s (bodyOf L))).1 = 0 then used + secsOf (txSize L) else used) else (3, m, used)) := by
    show _ = _
    rw [her, hM, hun, hlg, hfb]
    rfl
  have HFB : Hid (fb = fitsB L n used) := hfb
  have HLG : Hid (lg = longTx L) := hlg
  have HL : Hid (Live w c t g m) := h
  have HW : Hid (WalAt w c t gw g (i : Int) s used) := hw
  have HRI : Hid (RowsIn w v L) := hr
  rw [← her, ← hM, ← hun]
  clear h hw hr hFi her hM hun hfb hlg hn hsh
  go_enter Tryd.func14, Tryd.ntmps14
  cases lg with
  | true =>
    have e1 := HEM.out
    rw [if_pos rfl] at e1
    injection e1 with e1 e2
    injection e2 with e2 e3
    subst e1 e2 e3
    go_wp2_with (go_at_call 32; refine HLO.out.mono ?_; rintro e w2 ⟨rfl, rfl⟩)
    go_ret
    exact ⟨rfl, c, fun _ _ => rfl, HL.out, Ch.refl _ _, HW.out⟩
  | false =>
    cases fb with
    | false =>
      have e1 := HEM.out
      rw [if_neg (by decide), if_neg (by decide)] at e1
      injection e1 with e1 e2
      injection e2 with e2 e3
      subst e1 e2 e3
      go_wp2_with (first | (go_at_call 32; refine HLO.out.mono ?_; rintro e w2 ⟨rfl, rfl⟩) | (go_at_call 33; refine HFI.out.mono ?_; rintro e w3 ⟨rfl, b3⟩; have R3 : Hid (Below w.heap.size w w3) := b3; clear b3))
      go_ret
      exact ⟨rfl, c, fun _ _ => rfl, HL.out.below R3.out, Ch.of_below R3.out, HW.out.below R3.out⟩
    | true =>
      obtain ⟨B, hB⟩ : ∃ B, B = bodyOf L := ⟨_, rfl⟩
      have HBD : Hid (B = bodyOf L ∧ B.length = txSize L ∧ B.length ≤ 1056 ∧ ∀ c ∈ B, c < 256) := by
        refine ⟨hB, by rw [hB, bodyOf_length], ?_, by rw [hB]; exact bodyOf_lt L HRI.out.mem⟩
        have h1 := HLG.out
        unfold longTx at h1
        have h2 : ¬ 16 < L.length ∧ ¬ 1024 < bytesOf L := by
          constructor
          · intro h; rw [decide_eq_true h] at h1; cases h1
          · intro h; rw [decide_eq_true h, Bool.or_true] at h1; cases h1
        rw [hB, bodyOf_length]
        unfold txSize
        omega
      have hbl := HBD.out.2.2.1
      obtain ⟨k, hk⟩ : ∃ k, k = secsOf (txSize L) := ⟨_, rfl⟩
      have HK : Hid (k = (rowSecs s B).length ∧ k ≤ 100) := ⟨by rw [rowSecs_length, HBD.out.2.1, hk], by rw [hk, ← HBD.out.2.1]; unfold secsOf; omega⟩
      have HE2 : Hid (er = (m.lay (i : Int) (1 + used) (rowSecs s B)).1 ∧ M = (m.lay (i : Int) (1 + used) (rowSecs s B)).2 ∧ un = if er = 0 then used + k else used) := by
        have e1 := HEM.out
        rw [if_neg (by decide), if_pos rfl, ← hB, ← hk] at e1
        injection e1 with e1 e2
        injection e2 with e2 e3
        exact ⟨e1, e2, by rw [e1]; exact e3⟩
      clear hB hk HEM
      go_upto_region 5 with (first | (go_at_call 32; refine HLO.out.mono ?_; rintro e w2 ⟨rfl, rfl⟩) | (go_at_call 33; refine HFI.out.mono ?_; rintro e w3 ⟨rfl, b3⟩; have R3 : Hid (Below w.heap.size w w3) := b3; clear b3))
      refine wp_region_held (S := fun X => Row X gw 70 (walCells g (i : Int) s used)) (by kernel_rfl) ?_
      show wpAnyH _ _ _ _ _ 8 (Array.replicate 8 false) _ _
      obtain ⟨X, hX⟩ : ∃ X : World, X = { w3 with drawn := w3.drawn + 1 } := ⟨_, rfl⟩
      rw [← hX]
      have hbX : Below w3.heap.size w3 X := by rw [hX]; exact ⟨rfl, rfl, rfl, Nat.le_refl _, fun _ _ => rfl⟩
      have HBX : Hid (Below w.heap.size w X) := R3.out.trans (hbX.mono R3.out.size)
      have hS0 : Row X gw 70 (walCells g (i : Int) s used) := HW.out.row.later HBX.out HW.out.row.lt
      clear hX hbX R3
      refine takeH (i := 0) (some 15) rfl rfl (by kernel_rfl) (by kernel_rfl) (by kernel_rfl) (fun _ _ _ h => h) (gMove rfl (.tmp 0) rfl (ptr gw) rfl) hS0 ?_
      simp only [Act.put, aS, aC, aZ]
      refine takeH (i := 1) (some 16) rfl rfl (by kernel_rfl) (by kernel_rfl) (by kernel_rfl) (fun _ _ _ h => h) (nilOp rfl (.tmp 15) rfl ⟨gw, 0, none⟩ rfl) hS0 ?_
      simp only [Act.put, aS, aC, aZ]
      refine takeH (i := 2) (some 17) rfl rfl (by kernel_rfl) (by kernel_rfl) (by kernel_rfl) (fun _ _ _ h => h) (gField f108_2 rfl (.tmp 16) rfl gw 0 rfl) hS0 ?_
      simp only [Act.put, aS, aC, aZ]
      refine takeH (i := 3) (some 18) rfl rfl (by kernel_rfl) (by kernel_rfl) (by kernel_rfl) (fun _ _ _ h => h) (gLoad o99 rfl (.tmp 17) rfl gw (0 + 2) rfl (.int .u64 (s : Nat)) (fun _ h => h.at 2 _ rfl)) hS0 ?_
      simp only [Act.put, aS, aC, aZ]
      refine takeH (i := 4) (some 19) rfl rfl (by kernel_rfl) (by kernel_rfl) (by kernel_rfl) (fun _ _ _ h => h) (gMove rfl (.tmp 1) rfl v rfl) hS0 ?_
      simp only [Act.put, aS, aC, aZ]
      refine oneH (i := 5) (by kernel_rfl) ?_
      refine opCallG (some 20) rfl rfl rfl 35 _ (run_call eN51 [.tmp 19] _ rfl [v] rfl) ?_
      refine (body_any X v L (HRI.out.later HBX.out) (by rw [← HBD.out.2.1]; omega)).mono ?_
      rintro e w4 ⟨v4, rfl, o4, b4⟩
      refine ⟨_, rfl, ?_⟩
      have R4 : Hid (SliceIn w4 v4 B ∧ Below w.heap.size w w4) := ⟨by rw [HBD.out.1]; exact BOwn.slice o4 (by rw [← HBD.out.1]; exact HBD.out.2.2.2) (by rw [← HBD.out.1]; omega), HBX.out.trans (b4.mono HBX.out.size)⟩
      have hS4 : Row w4 gw 70 (walCells g (i : Int) s used) := HW.out.row.later R4.out.2 HW.out.row.lt
      clear o4 b4 hS0
      refine ⟨hS4, ?_⟩
      simp only [Act.put, aS, aC, aZ]
      refine oneH (i := 6) (by kernel_rfl) ?_
      refine opCallG (some 21) rfl rfl rfl 34 _ (run_call eN50 [.tmp 18, .tmp 20] _ rfl [.int .u64 (s : Nat), v4] rfl) ?_
      refine (rowOf_any w4 s v4 B R4.out.1 (by omega) (HW.out.below R4.out.2).tab).mono ?_
      rintro e w5 ⟨v5, rfl, o5, b5⟩
      refine ⟨_, rfl, ?_⟩
      have R5 : Hid (RowsAp w5 c t v5 (rowSecs s B) ∧ Below w.heap.size w w5) := ⟨o5.ap fun b hb => HL.out.2.2 b (Nat.le_trans R4.out.2.size hb), R4.out.2.trans (b5.mono R4.out.2.size)⟩
      have hS5 : Row w5 gw 70 (walCells g (i : Int) s used) := HW.out.row.later R5.out.2 HW.out.row.lt
      clear o5 b5 hS4 R4
      refine ⟨hS5, ?_⟩
      simp only [Act.put, aS, aC, aZ]
      refine takeH (i := 7) (some 5) rfl rfl (by kernel_rfl) (by kernel_rfl) (by kernel_rfl) (fun _ _ _ h => h) (gAssign rfl (.tmp 21) rfl v5 rfl) hS5 ?_
      simp only [Act.put, aS, aC, aZ]
      clear hS5
      refine wpAnyH_done (by kernel_rfl) ?_ _
      go_upto_region 6 with fail
      refine wp_region_held (S := fun X => Row X gw 70 (walCells g (i : Int) s used)) (by kernel_rfl) ?_
      show wpAnyH _ _ _ _ _ 16 (Array.replicate 16 false) _ _
      obtain ⟨Y, hY⟩ : ∃ Y : World, Y = { w5 with drawn := w5.drawn + 1 } := ⟨_, rfl⟩
      rw [← hY]
      have hbY : Below w5.heap.size w5 Y := by rw [hY]; exact ⟨rfl, rfl, rfl, Nat.le_refl _, fun _ _ => rfl⟩
      have R6 : Hid (RowsAp Y c t v5 (rowSecs s B) ∧ Below w.heap.size w Y ∧ Live Y c t g m ∧ WalAt Y c t gw g (i : Int) s used) := ⟨R5.out.1.kept (fun _ _ => rfl) (Ch.of_below hbY), R5.out.2.trans (hbY.mono R5.out.2.size), (HL.out.below R5.out.2).below hbY, (HW.out.below R5.out.2).below hbY⟩
      have hS6 := R6.out.2.2.2.row
      clear hY hbY R5
      refine takeH (i := 0) (some 22) rfl rfl (by kernel_rfl) (by kernel_rfl) (by kernel_rfl) (fun _ _ _ h => h) (gMove rfl (.tmp 0) rfl (ptr gw) rfl) hS6 ?_
      simp only [Act.put, aS, aC, aZ]
      refine takeH (i := 1) (some 23) rfl rfl (by kernel_rfl) (by kernel_rfl) (by kernel_rfl) (fun _ _ _ h => h) (nilOp rfl (.tmp 22) rfl ⟨gw, 0, none⟩ rfl) hS6 ?_
      simp only [Act.put, aS, aC, aZ]
      refine takeH (i := 2) (some 24) rfl rfl (by kernel_rfl) (by kernel_rfl) (by kernel_rfl) (fun _ _ _ h => h) (gField f108_0 rfl (.tmp 23) rfl gw 0 rfl) hS6 ?_
      simp only [Act.put, aS, aC, aZ]
      refine takeH (i := 3) (some 25) rfl rfl (by kernel_rfl) (by kernel_rfl) (by kernel_rfl) (fun _ _ _ h => h) (gLoad o25 rfl (.tmp 24) rfl gw (0 + 0) rfl (ptr g) (fun _ h => h.at 0 _ rfl)) hS6 ?_
      simp only [Act.put, aS, aC, aZ]
      refine takeH (i := 4) (some 26) rfl rfl (by kernel_rfl) (by kernel_rfl) (by kernel_rfl) (fun _ _ _ h => h) (gMove rfl (.tmp 0) rfl (ptr gw) rfl) hS6 ?_
      simp only [Act.put, aS, aC, aZ]
      refine takeH (i := 5) (some 27) rfl rfl (by kernel_rfl) (by kernel_rfl) (by kernel_rfl) (fun _ _ _ h => h) (nilOp rfl (.tmp 26) rfl ⟨gw, 0, none⟩ rfl) hS6 ?_
      simp only [Act.put, aS, aC, aZ]
      refine takeH (i := 6) (some 28) rfl rfl (by kernel_rfl) (by kernel_rfl) (by kernel_rfl) (fun _ _ _ h => h) (gField f108_1 rfl (.tmp 27) rfl gw 0 rfl) hS6 ?_
      simp only [Act.put, aS, aC, aZ]
      refine takeH (i := 7) (some 29) rfl rfl (by kernel_rfl) (by kernel_rfl) (by kernel_rfl) (fun _ _ _ h => h) (gLoad o3' rfl (.tmp 28) rfl gw (0 + 1) rfl (.int .i64 (i : Nat)) (fun _ h => h.at 1 _ rfl)) hS6 ?_
      simp only [Act.put, aS, aC, aZ]
      refine takeH (i := 8) (some 30) rfl rfl (by kernel_rfl) (by kernel_rfl) (by kernel_rfl) (fun _ _ _ h => h) (gMove rfl (.tmp 0) rfl (ptr gw) rfl) hS6 ?_
      simp only [Act.put, aS, aC, aZ]
      refine takeH (i := 9) (some 31) rfl rfl (by kernel_rfl) (by kernel_rfl) (by kernel_rfl) (fun _ _ _ h => h) (nilOp rfl (.tmp 30) rfl ⟨gw, 0, none⟩ rfl) hS6 ?_
      simp only [Act.put, aS, aC, aZ]
      refine takeH (i := 10) (some 32) rfl rfl (by kernel_rfl) (by kernel_rfl) (by kernel_rfl) (fun _ _ _ h => h) (gField f108_3 rfl (.tmp 31) rfl gw 0 rfl) hS6 ?_
      simp only [Act.put, aS, aC, aZ]
      refine takeH (i := 11) (some 33) rfl rfl (by kernel_rfl) (by kernel_rfl) (by kernel_rfl) (fun _ _ _ h => h) (gLoad o3' rfl (.tmp 32) rfl gw (0 + 3) rfl (.int .i64 (used : Nat)) (fun _ h => h.at 3 _ rfl)) hS6 ?_
      simp only [Act.put, aS, aC, aZ]
      refine takeH (i := 12) (some 34) rfl rfl (by kernel_rfl) (by kernel_rfl) (by kernel_rfl) (fun _ _ _ h => h) (gAdd1 rfl (.tmp 33) rfl used (by omega) rfl) hS6 ?_
      simp only [Act.put, aS, aC, aZ]
      refine takeH (i := 13) (some 35) rfl rfl (by kernel_rfl) (by kernel_rfl) (by kernel_rfl) (fun _ _ _ h => h) (gMove rfl (.tmp 5) rfl v5 rfl) hS6 ?_
      simp only [Act.put, aS, aC, aZ]
      have HLAY : Hid (Calls Tryd.prog 25 #[ptr g, .int .i64 (i : Int), .int .i64 ((1 + used : Nat) : Int), v5] Y fun e w' => e = .returned (.int .i64 er) ∧ Nx Y c t g M w') := by
        rw [HE2.out.1, HE2.out.2.1]
        exact lay_any R6.out.2.2.1 (i : Int) (1 + used) v5 (rowSecs s B) R6.out.1 (by have := HK.out; omega) (by omega)
      refine oneH (i := 14) (by kernel_rfl) ?_
      refine opCallG (some 36) rfl rfl rfl 25 _ (run_call eN41 [.tmp 25, .tmp 29, .tmp 34, .tmp 35] _ rfl [ptr g, .int .i64 (i : Nat), .int .i64 ((1 + used : Nat) : Int), v5] rfl) ?_
      refine HLAY.out.mono ?_
      rintro e w7 ⟨rfl, c7, q1, q2, q4⟩
      refine ⟨_, rfl, ?_⟩
      have R7 : Hid ((∀ b, b < w.heap.size → c7 b = c b) ∧ Live w7 c7 t g M ∧ Ch (fun b => (c b).1 = t) w w7 ∧ WalAt w7 c7 t gw g (i : Int) s used ∧ ∃ p cap, v5 = .slice p k cap) := ⟨fun b hb => q1 b (Nat.lt_of_lt_of_le hb R6.out.2.1.size), q2, (Ch.of_below R6.out.2.1).trans q4, R6.out.2.2.2.kept q1 q4, by obtain ⟨p, cap, e, _⟩ := R6.out.1; exact ⟨p, cap, by rw [e, ← HK.out.1]⟩⟩
      have hS7 := R7.out.2.2.2.1.row
      clear q1 q2 q4 hS6 R6 HLAY
      refine ⟨hS7, ?_⟩
      simp only [Act.put, aS, aC, aZ]
      refine takeH (i := 15) (some 6) rfl rfl (by kernel_rfl) (by kernel_rfl) (by kernel_rfl) (fun _ _ _ h => h) (gAssign rfl (.tmp 36) rfl (.int .i64 er) rfl) hS7 ?_
      simp only [Act.put, aS, aC, aZ]
      clear hS7
      refine wpAnyH_done (by kernel_rfl) ?_ _
      by_cases he : er = 0
      · subst he
        have eun : un = used + k := by rw [HE2.out.2.2]; rfl
        subst eun
        have hk100 := HK.out.2
        obtain ⟨p5, cap5, hv5⟩ := R7.out.2.2.2.2
        subst hv5
        go_upto_region 9 with fail
        refine wp_region_lit ?_
        refine wl_mv (.tmp 0) rfl rfl (ptr gw) rfl ?_
        simp only [Act.put, aS, aC, aZ]
        refine wl_nil (.tmp 40) rfl rfl ⟨gw, 0, none⟩ rfl ?_
        simp only [Act.put, aS, aC, aZ]
        refine wl_fld f108_3 (.tmp 41) rfl rfl gw 0 rfl ?_
        simp only [Act.put, aS, aC, aZ]
        refine wl_ld o3' (.tmp 42) rfl rfl gw (0 + 3) rfl (.int .i64 (used : Nat)) (R7.out.2.2.2.1.row.at 3 _ rfl) ?_
        simp only [Act.put, aS, aC, aZ]
        refine wl_mv (.tmp 5) rfl rfl (.slice p5 k cap5) rfl ?_
        simp only [Act.put, aS, aC, aZ]
        refine wl_sl sl30 (.tmp 44) rfl rfl p5 k cap5 rfl ?_
        simp only [Act.put, aS, aC, aZ]
        refine wl rfl (.int .i64 ((used + k : Nat) : Int)) w7 ?_ ?_
        · have e : (eqGuard .add 3 (.tmp 43) (.tmp 45) (.int .i64 (used : Nat)) (.int .i64 (k : Nat))).run Tryd.prog w7 = .ok () w7 := rfl
          have hwr : IntKind.i64.wrap ((used : Int) + (k : Int)) = ((used + k : Nat) : Int) := by
            simp [IntKind.wrap, IntKind.signed, IntKind.bits]
            omega
          have hr : (binOp .add 3 (.int .i64 (used : Nat)) (.int .i64 (k : Nat))).run Tryd.prog w7 = .ok (.int .i64 ((used + k : Nat) : Int)) w7 := by simp [binOp, Op.intArith, hwr]
          exact run_binOp' (.tmp 43) (.tmp 45) rfl (.int .i64 (used : Nat)) (.int .i64 (k : Nat)) _ rfl rfl e hr
        simp only [Act.put, aS, aC, aZ]
        refine wl_nil (.tmp 40) rfl rfl ⟨gw, 0, none⟩ rfl ?_
        simp only [Act.put, aS, aC, aZ]
        refine wl_fld f108_3 (.tmp 47) rfl rfl gw 0 rfl ?_
        simp only [Act.put, aS, aC, aZ]
        refine wl_put size3' (.tmp 48) (.tmp 46) rfl rfl rfl gw 3 70 _ rfl (.int .i64 ((used + k : Nat) : Int)) rfl ⟨rfl, rfl⟩ R7.out.2.2.2.1.row (by show 3 < 4; decide) ?_
        refine wpList_nil ?_
        have hset := R7.out.2.2.2.1.set R7.out.2.1 (used + k)
        have R8 : Hid ((∀ b, b < w.heap.size → c7 b = c b) ∧ Live (w7.setCell ⟨gw, 3, none⟩ (.int .i64 ((used + k : Nat) : Int))) c7 t g M ∧ Ch (fun b => (c b).1 = t ∨ b = gw) w (w7.setCell ⟨gw, 3, none⟩ (.int .i64 ((used + k : Nat) : Int))) ∧ WalAt (w7.setCell ⟨gw, 3, none⟩ (.int .i64 ((used + k : Nat) : Int))) c7 t gw g (i : Int) s (used + k)) := ⟨R7.out.1, hset.1, (R7.out.2.2.1.mono fun _ _ e => Or.inl e).trans' hset.2.2 (fun _ _ e => Or.inr e), hset.2.1⟩
        clear hset
        generalize w7.setCell ⟨gw, 3, none⟩ (.int .i64 ((used + k : Nat) : Int)) = w8 at R8 ⊢
        simp only [Nat.zero_add]
        go_wp2_with fail
        go_ret
        exact ⟨rfl, c7, R8.out⟩
      · have t1 : (er != 0) = true := by simp [he]
        have t2 : decide (er = 0) = false := decide_eq_false he
        have t3 : (er == 0) = false := by simp [he]
        have eun : un = used := by rw [HE2.out.2.2, if_neg he]
        subst eun
        go_wp2_with fail
        go_ret
        exact ⟨rfl, c7, R7.out.1, R7.out.2.1, R7.out.2.2.1.mono (fun _ _ e => Or.inl e), R7.out.2.2.2.1⟩
end Go.Proofs.YtebalanfagglnaaDoor

namespace Go.Proofs.YtebalanfagglnaaDoor
open Go.RowKit Go.Maps

theorem headSec_len (s f : Nat) : (headSec s f).length = 64 := wsec_length 74 _ (by simp only [List.length_append, Fr.Frame.be_length]; decide)
theorem headSec_lt (s f : Nat) : ∀ c ∈ headSec s f, c < 256 := wsec_lt 74 _ (by decide) fun c hc => by
  rcases List.mem_append.1 hc with h | h
  · exact Fr.Frame.be_lt _ _ c h
  · exact Fr.Frame.be_lt _ _ c h
theorem Pl.write_sh (m : Pl) (d p : Int) (s : List Nat) : (m.write d p s).2.sh = m.sh := by
  have := m.step_sh
  unfold Pl.write
  repeat' split
  all_goals first
    | rfl
    | exact this
theorem Pl.flush_sh (m : Pl) (d : Int) : (m.flush d).2.sh = m.sh := by
  have := m.step_sh
  unfold Pl.flush
  repeat' split
  all_goals first
    | rfl
    | exact this
theorem Pl.lay_sh (m : Pl) (d : Int) (a : Nat) (L : List (List Nat)) : (m.lay d a L).2.sh = m.sh := by
  induction L generalizing m a with
  | nil => exact m.flush_sh d
  | cons s L ih =>
    unfold Pl.lay
    split
    · rw [ih, m.write_sh]
    · exact m.write_sh d _ s
theorem Pl.lay_le (m : Pl) (d : Int) (a : Nat) (L : List (List Nat)) : (m.lay d a L).2.steps ≤ m.steps + L.length + 1 := by
  induction L generalizing m a with
  | nil => have := m.flush_le d; exact this
  | cons s L ih =>
    unfold Pl.lay
    have h1 := m.write_le d (a : Int) s
    split
    · have h2 := ih (m.write d (a : Int) s).2 (a + 1)
      simp only [List.length_cons]
      omega
    · simp only [List.length_cons]
      omega
theorem ShapeOf.of {m m' : Pl} {ds ts : List Nat} (h : ShapeOf m ds ts) (e : m'.sh = m.sh) : ShapeOf m' ds ts := by unfold ShapeOf; rw [e]; exact h
/-- Format: the answer, the plant -/
def Pl.format3 (m : Pl) (i n : Nat) : Int × Pl :=
  if (m.lay (i : Int) 0 [zeros]).1 = 0 then
    if ((m.lay (i : Int) 0 [zeros]).2.lay (i : Int) 1 (List.replicate (n - 1) zeros)).1 = 0 then ((m.lay (i : Int) 0 [zeros]).2.lay (i : Int) 1 (List.replicate (n - 1) zeros)).2.lay (i : Int) 0 [headSec 1 1]
    else (m.lay (i : Int) 0 [zeros]).2.lay (i : Int) 1 (List.replicate (n - 1) zeros)
  else m.lay (i : Int) 0 [zeros]
def Pl.format (m : Pl) (ds : List Nat) (d : Int) : Int × Pl := if holds ds d then m.format3 d.toNat (ds.getD d.toNat 0) else (1, m)
set_option maxHeartbeats 4000000 in
set_option maxRecDepth 100000 in
theorem format_any {w : World} {c : Nat → Colour} {t g : Nat} {m : Pl} (h : Live w c t g m) {ds ts : List Nat} (hsh : ShapeOf m ds ts) (d : Int) (ht : Fr.TabIn w) (htc : (c 0).1 ≠ t) (hst : m.steps + 20000 < 1099511627775) :
    Calls Tryd.prog 11 #[ptr g, .int .i64 d] w fun e w' => e = .returned (.int .i64 (m.format ds d).1) ∧ Nx w c t g (m.format ds d).2 w' := by
  obtain ⟨hb, hhb⟩ : ∃ hb, hb = holds ds d := ⟨_, rfl⟩
  have HMH : Hid (Calls Tryd.prog 24 #[ptr g, .int .i64 d] w fun e w' => e = .returned (.bool hb) ∧ Below w.heap.size w w') := by rw [hhb]; exact mayHold_any h hsh d
  have HL : Hid (Live w c t g m) := h
  have HSH : Hid (ShapeOf m ds ts) := hsh
  have HT : Hid (Fr.TabIn w ∧ (c 0).1 ≠ t) := ⟨ht, htc⟩
  obtain ⟨er, her⟩ : ∃ er, er = (m.format ds d).1 := ⟨_, rfl⟩
  obtain ⟨M, hM⟩ : ∃ M, M = (m.format ds d).2 := ⟨_, rfl⟩
  have HEM : Hid ((er, M) = if hb then m.format3 d.toNat (ds.getD d.toNat 0) else (1, m)) := by show _ = _; rw [her, hM, hhb]; rfl
  rw [← her, ← hM]
  have HHB : Hid (hb = holds ds d) := hhb
  clear h hsh ht htc her hM hhb
  go_enter Tryd.func11, Tryd.ntmps11
  cases hb with
  | false =>
    have e1 := HEM.out
    rw [if_neg (by decide)] at e1
    injection e1 with e1 e2
    subst e1 e2
    go_wp2_with (go_at_call 24; refine HMH.out.mono ?_; rintro e w2 ⟨rfl, b2⟩; have R2 : Hid (Below w.heap.size w w2) := b2; clear b2)
    go_ret
    exact ⟨rfl, Nx.below HL.out R2.out⟩
  | true =>
    have hh := HHB.out
    unfold holds at hh
    have hh2 := of_decide_eq_true hh.symm
    obtain ⟨i, hdi⟩ : ∃ i : Nat, d = (i : Int) := ⟨d.toNat, by omega⟩
    subst hdi
    rw [Int.toNat_natCast] at hh2 HEM
    obtain ⟨n, hn⟩ : ∃ n, n = ds.getD i 0 := ⟨_, rfl⟩
    have HI : Hid (i < ds.length ∧ 8 ≤ ds.getD i 0 ∧ n = ds.getD i 0) := ⟨by omega, hh2.2.2, hn⟩
    have h4096 : n ≤ 4096 := by rw [hn]; have := (HL.out.2.1.sizes i (by have := HSH.out.n; unfold Pl.n at this; omega)).2; rw [(HSH.out.disk i (by omega)).2] at this; exact this
    have hn8 : 8 ≤ n := by rw [hn]; exact hh2.2.2
    rw [← hn, if_pos rfl] at HEM
    clear hh hh2 hn HHB
    obtain ⟨e1, he1⟩ : ∃ e1, e1 = (m.lay (i : Int) 0 [zeros]).1 := ⟨_, rfl⟩
    obtain ⟨M1, hM1⟩ : ∃ M1, M1 = (m.lay (i : Int) 0 [zeros]).2 := ⟨_, rfl⟩
    obtain ⟨e2, he2⟩ : ∃ e2, e2 = (M1.lay (i : Int) 1 (List.replicate (n - 1) zeros)).1 := ⟨_, rfl⟩
    obtain ⟨M2, hM2⟩ : ∃ M2, M2 = (M1.lay (i : Int) 1 (List.replicate (n - 1) zeros)).2 := ⟨_, rfl⟩
    have HE : Hid (e1 = (m.lay (i : Int) 0 [zeros]).1 ∧ M1 = (m.lay (i : Int) 0 [zeros]).2 ∧ e2 = (M1.lay (i : Int) 1 (List.replicate (n - 1) zeros)).1 ∧ M2 = (M1.lay (i : Int) 1 (List.replicate (n - 1) zeros)).2) := ⟨he1, hM1, he2, hM2⟩
    have HF : Hid ((er, M) = if e1 = 0 then if e2 = 0 then M2.lay (i : Int) 0 [headSec 1 1] else (e2, M2) else (e1, M1)) := by
      show _ = _
      rw [HEM.out]
      unfold Pl.format3
      rw [← he1, ← hM1, ← he2, ← hM2]
      by_cases hx : e1 = 0
      · rw [if_pos hx, if_pos hx]
        by_cases hy : e2 = 0
        · rw [if_pos hy, if_pos hy]
        · rw [if_neg hy, if_neg hy, he2, hM2]
      · rw [if_neg hx, if_neg hx, he1, hM1]
    have hs1 : M1.steps ≤ m.steps + 2 := by rw [hM1]; exact m.lay_le _ _ _
    have hs2 : M2.steps ≤ m.steps + 2 + n + 1 := by rw [hM2]; have := M1.lay_le (i : Int) 1 (List.replicate (n - 1) zeros); rw [List.length_replicate] at this; omega
    have HSH1 : Hid (ShapeOf M1 ds ts) := HSH.out.of (by rw [hM1]; exact m.lay_sh _ _ _)
    clear he1 hM1 he2 hM2 HEM
    go_upto_region 3 with (go_at_call 24; refine HMH.out.mono ?_; rintro e w2 ⟨rfl, b2⟩; have R2 : Hid (Below w.heap.size w w2) := b2; clear b2)
    refine wp_region_lit ?_
    refine wl_mv (.tmp 0) rfl rfl (ptr g) rfl ?_
    simp only [Act.put, aS, aC, aZ]
    refine wl_mv (.tmp 1) rfl rfl (.int .i64 (i : Nat)) rfl ?_
    simp only [Act.put, aS, aC, aZ]
    refine wpList_callF eN42 [.const (.int .i64 1)] _ rfl rfl [.int .i64 ((1 : Nat) : Int)] rfl ?_
    refine (blank_any w2 1 (by decide)).mono ?_
    rintro e w3 ⟨v3, rfl, rf3, b3, _⟩
    refine ⟨_, rfl, ?_⟩
    have R3 : Hid (Below w.heap.size w w3 ∧ RowsAp w3 c t v3 [zeros]) := ⟨R2.out.trans (b3.mono R2.out.size), rf3.ap fun b hb => HL.out.2.2 b (Nat.le_trans R2.out.size hb)⟩
    clear rf3 b3 R2
    simp only [Act.put, aS, aC, aZ]
    refine wpList_callF eN41 [.tmp 12, .tmp 13, .const (.int .i64 0), .tmp 14] _ rfl rfl [ptr g, .int .i64 (i : Nat), .int .i64 ((0 : Nat) : Int), v3] rfl ?_
    refine (lay_any (HL.out.below R3.out.1) (i : Int) 0 v3 [zeros] R3.out.2 (by simp; omega) (by decide)).mono ?_
    rw [← HE.out.1, ← HE.out.2.1]
    rintro e w4 ⟨rfl, hn4⟩
    refine ⟨_, rfl, ?_⟩
    have R4 : Hid (Nx w c t g M1 w4) := Nx.after (fun _ _ => rfl) (Ch.of_below R3.out.1) hn4
    clear hn4 R3
    by_cases hx : e1 = 0
    · subst hx
      go_upto_region 6 with fail
      obtain ⟨c4, q1, q2, q3⟩ := R4.out
      have R5 : Hid ((∀ b, b < w.heap.size → c4 b = c b) ∧ Live w4 c4 t g M1 ∧ Ch (fun b => (c b).1 = t) w w4 ∧ Fr.TabIn w4 ∧ (c4 0).1 ≠ t) := ⟨q1, q2, q3, TabIn.ch HT.out.1 q3 HT.out.2, by rw [q1 0 (tab_lt HT.out.1)]; exact HT.out.2⟩
      clear q1 q2 q3 R4
      refine wp_region_lit ?_
      refine wl_mv (.tmp 0) rfl rfl (ptr g) rfl ?_
      simp only [Act.put, aS, aC, aZ]
      refine wl_mv (.tmp 1) rfl rfl (.int .i64 (i : Nat)) rfl ?_
      simp only [Act.put, aS, aC, aZ]
      refine wl_mv (.tmp 0) rfl rfl (ptr g) rfl ?_
      simp only [Act.put, aS, aC, aZ]
      refine wl_mv (.tmp 1) rfl rfl (.int .i64 (i : Nat)) rfl ?_
      simp only [Act.put, aS, aC, aZ]
      refine wpList_callF eN43 [.tmp 21, .tmp 22] _ rfl rfl [ptr g, .int .i64 (i : Nat)] rfl ?_
      refine (logSize_any R5.out.2.1 (by omega) HSH1.out i HI.out.1 (by have := HI.out.2.1; omega)).mono ?_
      rw [← HI.out.2.2]
      rintro e w5 ⟨rfl, b5⟩
      refine ⟨_, rfl, ?_⟩
      simp only [Act.put, aS, aC, aZ]
      refine wpList_callF eN42 [.tmp 23] _ rfl rfl [.int .i64 ((n - 1 : Nat) : Int)] rfl ?_
      refine (blank_any w5 (n - 1) (by omega)).mono ?_
      rintro e w6 ⟨v6, rfl, rf6, b6, _⟩
      refine ⟨_, rfl, ?_⟩
      have R6 : Hid (Below w4.heap.size w4 w6 ∧ RowsAp w6 c4 t v6 (List.replicate (n - 1) zeros)) := ⟨b5.trans (b6.mono b5.size), rf6.ap fun b hb => R5.out.2.1.2.2 b (Nat.le_trans b5.size hb)⟩
      clear rf6 b6 b5
      simp only [Act.put, aS, aC, aZ]
      refine wpList_callF eN41 [.tmp 19, .tmp 20, .const (.int .i64 1), .tmp 24] _ rfl rfl [ptr g, .int .i64 (i : Nat), .int .i64 ((1 : Nat) : Int), v6] rfl ?_
      refine (lay_any (R5.out.2.1.below R6.out.1) (i : Int) 1 v6 (List.replicate (n - 1) zeros) R6.out.2 (by rw [List.length_replicate]; omega) (by decide)).mono ?_
      rw [← HE.out.2.2.1, ← HE.out.2.2.2]
      rintro e w7 ⟨rfl, hn7⟩
      refine ⟨_, rfl, ?_⟩
      have R7 : Hid (Nx w c t g M2 w7) := Nx.after R5.out.1 R5.out.2.2.1 (Nx.after (fun _ _ => rfl) (Ch.of_below R6.out.1) hn7)
      clear hn7 R6 R5
      by_cases hy : e2 = 0
      · subst hy
        have e9 := HF.out
        rw [if_pos rfl, if_pos rfl] at e9
        have HF3 : Hid (er = (M2.lay (i : Int) 0 [headSec 1 1]).1 ∧ M = (M2.lay (i : Int) 0 [headSec 1 1]).2) := by
          constructor
          · exact congrArg Prod.fst e9
          · exact congrArg Prod.snd e9
        clear e9 HF
        go_upto_region 9 with fail
        obtain ⟨c7, q1, q2, q3⟩ := R7.out
        have R8 : Hid ((∀ b, b < w.heap.size → c7 b = c b) ∧ Live w7 c7 t g M2 ∧ Ch (fun b => (c b).1 = t) w w7 ∧ Fr.TabIn w7) := ⟨q1, q2, q3, TabIn.ch HT.out.1 q3 HT.out.2⟩
        clear q1 q2 q3 R7
        refine wp_region_lit ?_
        refine wl rfl _ w7 (run_build101xOp (.const (.int .u64 1)) (.const (.int .u64 1)) rfl 1 1 rfl rfl) ?_
        simp only [Act.put, aS, aC, aZ]
        refine wpList_alloc_store agg101 _ zero101 rfl rfl rfl rfl rfl (.tmp 29) rfl (headCells 1 1) rfl rfl (headCells_one 1 1) (fun _ => rfl) (fun _ => rfl) ?_
        intro w8 r8 s8 b8
        obtain ⟨q, hq⟩ : ∃ q, q = w7.heap.size := ⟨_, rfl⟩
        rw [← hq] at r8 s8 b8 ⊢
        simp only [Act.put, aS, aC, aZ]
        refine wpList_nil ?_
        have R9 : Hid (Row w8 q 63 (headCells 1 1) ∧ Below w7.heap.size w7 w8) := ⟨r8, by rw [← hq]; exact b8⟩
        clear r8 s8 b8 hq
        go_upto_region 10 with fail
        refine wp_region_lit ?_
        refine wl_mv (.tmp 0) rfl rfl (ptr g) rfl ?_
        simp only [Act.put, aS, aC, aZ]
        refine wl_mv (.tmp 1) rfl rfl (.int .i64 (i : Nat)) rfl ?_
        simp only [Act.put, aS, aC, aZ]
        refine wpList_load agg101 (.tmp 7) rfl rfl q 0 rfl (headCells 1 1) rfl (fun j v hj => by rw [Nat.zero_add]; exact R9.out.1.at j v hj) ?_
        simp only [Act.put, aS, aC, aZ]
        refine wpList_callF eN44 [.tmp 32] _ rfl rfl [.agg (headCells 1 1).toArray] rfl ?_
        refine (headSector_any w8 1 1 (TabIn.later R8.out.2.2.2 R9.out.2)).mono ?_
        rintro e w9 ⟨v9, rfl, o9, b9⟩
        refine ⟨_, rfl, ?_⟩
        have hs9 : SliceIn w9 v9 (headSec 1 1) := BOwn.slice o9 (headSec_lt 1 1) (by rw [headSec_len]; decide)
        have R10 : Hid (Below w7.heap.size w7 w9 ∧ SliceIn w9 v9 (headSec 1 1) ∧ ∀ b, v9.ownBlock = some b → w7.heap.size ≤ b) := ⟨R9.out.2.trans (b9.mono R9.out.2.size), hs9, fun b hb => Nat.le_trans R9.out.2.size (World.ownsRow.lt o9 b hb).1⟩
        clear o9 b9 hs9 R9
        simp only [Act.put, aS, aC, aZ]
        refine wl rfl _ _ (run_lit30 (.tmp 33) rfl v9 R10.out.2.1.isSl rfl) ?_
        obtain ⟨w10, hw10⟩ : ∃ w10, w10 = w9.alloc (.cells #[v9] 50) := ⟨_, rfl⟩
        rw [← hw10]
        have b10 : Below w9.heap.size w9 w10 := by rw [hw10]; exact below_alloc w9 _
        have r10 : Row w10 w9.heap.size 50 [v9] := by rw [hw10]; exact Row.new w9 50 [v9]
        have hrf : RowsFrom w10 w7.heap.size (.slice (some ⟨w9.heap.size, 0, none⟩) 1 1) [headSec 1 1] := ⟨_, 1, rfl, (by show 1 ≤ 1099511627776; decide), Or.inr ⟨w9.heap.size, 0, rfl, R10.out.1.size, fun j hj => by
          obtain rfl : j = 0 := by simp at hj; omega
          exact ⟨v9, r10.at 0 _ rfl, R10.out.2.1.later b10, R10.out.2.2⟩⟩⟩
        have R11 : Hid (Below w7.heap.size w7 w10 ∧ RowsAp w10 c7 t (.slice (some ⟨w9.heap.size, 0, none⟩) 1 1) [headSec 1 1]) := ⟨R10.out.1.trans (b10.mono R10.out.1.size), hrf.ap fun b hb => R8.out.2.1.2.2 b hb⟩
        obtain ⟨q9, hq9⟩ : ∃ q9, q9 = w9.heap.size := ⟨_, rfl⟩
        rw [← hq9] at R11 ⊢
        clear hw10 b10 r10 hrf hq9 R10
        simp only [Act.put, aS, aC, aZ]
        refine wpList_callF eN41 [.tmp 30, .tmp 31, .const (.int .i64 0), .tmp 34] _ rfl rfl [ptr g, .int .i64 (i : Nat), .int .i64 ((0 : Nat) : Int), .slice (some ⟨q9, 0, none⟩) 1 1] rfl ?_
        refine (lay_any (R8.out.2.1.below R11.out.1) (i : Int) 0 _ [headSec 1 1] R11.out.2 (by simp; omega) (by decide)).mono ?_
        rw [← HF3.out.1, ← HF3.out.2]
        rintro e w11 ⟨rfl, hn11⟩
        refine ⟨_, rfl, ?_⟩
        have R12 : Hid (Nx w c t g M w11) := Nx.after R8.out.1 R8.out.2.2.1 (Nx.after (fun _ _ => rfl) (Ch.of_below R11.out.1) hn11)
        clear hn11 R11 R8
        go_wp2_with fail
        go_ret
        exact ⟨rfl, R12.out⟩
      · have e9 := HF.out
        rw [if_pos rfl, if_neg hy] at e9
        injection e9 with e9 e10
        subst e9 e10
        have t1 : (er != 0) = true := by simp [hy]
        have t2 : decide (er = 0) = false := decide_eq_false hy
        have t3 : (er == 0) = false := by simp [hy]
        go_wp2_with fail
        go_ret
        exact ⟨rfl, R7.out⟩
    · have e9 := HF.out
      rw [if_neg hx] at e9
      injection e9 with e9 e10
      subst e9 e10
      have t1 : (er != 0) = true := by simp [hx]
      have t2 : decide (er = 0) = false := decide_eq_false hx
      have t3 : (er == 0) = false := by simp [hx]
      go_wp2_with fail
      go_ret
      exact ⟨rfl, R4.out⟩
end Go.Proofs.YtebalanfagglnaaDoor

namespace Go.Proofs.YtebalanfagglnaaDoor
open Go.RowKit Go.Maps

theorem eN27 : EntersF 49 := Go.Proofs.enters_of Tryd.func49 (by kernel_rfl) rfl
theorem eN64 : EntersF 50 := Go.Proofs.enters_of Tryd.func50 (by kernel_rfl) rfl
/-- a journal's disk, with the power on -/
structure DiskOn (m : Pl) (ds ts : List Nat) (i : Nat) : Prop where
  shape : ShapeOf m ds ts
  lt : i < ds.length
  big : 8 ≤ ds.getD i 0
  on : m.on = true
  steps : m.steps + 20000 < 1099511627775
theorem DiskOn.len {m : Pl} {ds ts : List Nat} {i : Nat} (h : DiskOn m ds ts i) : i < m.n ∧ m.len i = ds.getD i 0 := by
  refine ⟨by have := h.shape.n; have := h.lt; omega, ?_⟩
  unfold Pl.len
  rw [(h.shape.disk i h.lt).1, (h.shape.disk i h.lt).2]
  rfl
theorem rd_slice {w : World} {m : Pl} (hwf : m.WF) {b i p : Nat} (h : Row w b 5 (bcells (m.rd i p))) : SliceIn w (.slice (some ⟨b, 0, none⟩) 64 64) (m.rd i p) := by
  have hs := Pl.rd_sec hwf i p
  have h1 := Row.slice h hs.2 (by rw [hs.1]; decide)
  rw [hs.1] at h1
  exact h1
set_option maxHeartbeats 2000000 in
set_option maxRecDepth 100000 in
theorem readHead_any {w : World} {c : Nat → Colour} {t g : Nat} {m : Pl} (h : Live w c t g m) {ds ts : List Nat} {i : Nat} (hd : DiskOn m ds ts i) (ht : Fr.TabIn w) :
    Calls Tryd.prog 29 #[ptr g, .int .i64 (i : Nat)] w fun e w' => ∃ s f, e = .returned (.tuple #[.agg (headCells s f).toArray, .int .i64 (if headOk (m.rd i 0) then 0 else 4)]) ∧ (headOk (m.rd i 0) = true → s = hS (m.rd i 0) ∧ f = hF (m.rd i 0)) ∧ Below w.heap.size w w' := by
  obtain ⟨b, hb⟩ : ∃ b, b = m.rd i 0 := ⟨_, rfl⟩
  have hsec := Pl.rd_sec h.2.1 i 0
  have hrd := h.read (by have := hd.steps; omega) hd.on i 0 hd.len.1 (by rw [hd.len.2]; have := hd.big; omega)
  have HRD : Hid (∀ W, Below w.heap.size w W → Calls Tryd.prog 49 #[ptr g, .int .i64 (i : Nat), .int .i64 ((0 : Nat) : Int)] W fun e w' => ∃ q, e = .returned (.tuple #[.slice (some ⟨q, 0, none⟩) 64 64, .int .i64 0]) ∧ SliceIn w' (.slice (some ⟨q, 0, none⟩) 64 64) b ∧ Below W.heap.size W w') := fun W hW => by
    refine ((h.below hW).read (by have := hd.steps; omega) hd.on i 0 hd.len.1 (by rw [hd.len.2]; have := hd.big; omega)).mono fun e w' ⟨q, h1, _, h3, h4⟩ => ⟨q, h1, by rw [hb]; exact rd_slice h.2.1 h3, h4⟩
  have HLB : Hid (b.length = 64) := by show _ = _; rw [hb]; exact hsec.1
  have HT : Hid (Fr.TabIn w) := ht
  obtain ⟨ok, hok⟩ : ∃ ok, ok = headOk b := ⟨_, rfl⟩
  have HOK : Hid (ok = headOk b) := hok
  obtain ⟨PR, hPR⟩ : ∃ PR : Nat → Nat → Prop, PR = fun s f => (headOk b = true → s = hS b ∧ f = hF b) := ⟨_, rfl⟩
  have HPR : Hid (PR = fun s f => (headOk b = true → s = hS b ∧ f = hF b)) := hPR
  obtain ⟨er, her⟩ : ∃ er : Int, er = if headOk b then 0 else 4 := ⟨_, rfl⟩
  have HER : Hid (er = if ok then 0 else 4) := by show _ = _; rw [hok]; exact her
  rw [← hb, ← her]
  refine Calls.mono (R := fun e w' => ∃ s f, e = .returned (.tuple #[.agg (headCells s f).toArray, .int .i64 er]) ∧ PR s f ∧ Below w.heap.size w w') ?_ (fun e w' ⟨s, f, h1, h2, h3⟩ => ⟨s, f, h1, by rw [HPR.out] at h2; exact h2, h3⟩)
  clear hb hsec hrd h hd ht hok hPR her
  obtain ⟨q, hq⟩ : ∃ q, q = w.heap.size := ⟨_, rfl⟩
  have HQ : Hid (q = w.heap.size) := hq
  rw [← hq]
  clear hq
  go_enter Tryd.func29, Tryd.ntmps29
  go_upto_region 0 with fail
  refine wp_region_lit ?_
  refine wpList_alloc' (headCells 0 0) zero101 rfl rfl ?_
  intro w1 r1 s1 b1
  rw [← HQ.out] at r1 s1 b1 ⊢
  refine wpList_assign (.const (.int .i64 0)) rfl rfl (.int .i64 0) rfl ?_
  refine wpList_nil ?_
  simp only [Act.put, aS, aC, aZ]
  have R1 : Hid (Row w1 q 63 (headCells 0 0) ∧ Below q w w1) := ⟨r1, b1⟩
  clear r1 s1 b1
  go_upto_region 1 with fail
  refine wp_region_lit ?_
  refine wl_mv (.tmp 0) rfl rfl (ptr g) rfl ?_
  simp only [Act.put, aS, aC, aZ]
  refine wl_mv (.tmp 1) rfl rfl (.int .i64 (i : Nat)) rfl ?_
  simp only [Act.put, aS, aC, aZ]
  refine wpList_callF eN27 [.tmp 11, .tmp 12, .const (.int .i64 0)] _ rfl rfl [ptr g, .int .i64 (i : Nat), .int .i64 ((0 : Nat) : Int)] rfl ?_
  refine (HRD.out w1 (by rw [← HQ.out]; exact R1.out.2)).mono ?_
  rintro e w2 ⟨qb, rfl, hs2, b2⟩
  refine ⟨_, rfl, ?_⟩
  have R2 : Hid (Row w2 q 63 (headCells 0 0) ∧ Below q w w2 ∧ SliceIn w2 (.slice (some ⟨qb, 0, none⟩) 64 64) b) := ⟨R1.out.1.later b2 R1.out.1.lt, R1.out.2.trans (b2.mono (by have := R1.out.1.lt; omega)), hs2⟩
  clear hs2 b2 R1
  go_upto_region 4 with fail
  refine wp_region_lit ?_
  refine wl_mv (.tmp 6) rfl rfl (.slice (some ⟨qb, 0, none⟩) 64 64) rfl ?_
  simp only [Act.put, aS, aC, aZ]
  refine wpList_callF eN64 [.tmp 21] _ rfl rfl [.slice (some ⟨qb, 0, none⟩) 64 64] rfl ?_
  refine (headOf_any w2 _ b R2.out.2.2 (by rw [HLB.out]; decide) (TabIn.later HT.out (by rw [← HQ.out]; exact R2.out.2.1))).mono ?_
  rw [← HOK.out]
  rintro e w3 ⟨s, f, rfl, hsf, b3⟩
  refine ⟨_, rfl, ?_⟩
  have R3 : Hid (Row w3 q 63 (headCells 0 0) ∧ Below q w w3 ∧ (ok = true → s = hS b ∧ f = hF b)) := ⟨R2.out.1.later b3 R2.out.1.lt, R2.out.2.1.trans (b3.mono (by have := R2.out.1.lt; omega)), hsf⟩
  clear hsf b3 R2
  simp only [Act.put, aS, aC, aZ]
  refine wl_mv (.tmp 22) rfl rfl _ rfl ?_
  simp only [Act.put, aS, aC, aZ]
  refine wl rfl (.agg (headCells s f).toArray) w3 (by simp [execOp, Act.eval, Instr.extract]) ?_
  simp only [Act.put, aS, aC, aZ]
  refine wl rfl (.bool ok) w3 (by simp [execOp, Act.eval, Instr.extract]) ?_
  simp only [Act.put, aS, aC, aZ]
  refine wpList_alloc_store agg101 _ zero101 rfl rfl rfl rfl rfl (.tmp 23) rfl (headCells s f) rfl rfl (headCells_one s f) (fun _ => rfl) (fun _ => rfl) ?_
  intro w4 r4 s4 b4
  obtain ⟨q4, hq4⟩ : ∃ q4, q4 = w3.heap.size := ⟨_, rfl⟩
  rw [← hq4] at r4 s4 b4 ⊢
  have R4 : Hid (Row w4 q4 63 (headCells s f) ∧ Row w4 q 63 (headCells 0 0) ∧ Below q w w4 ∧ q < q4) := ⟨r4, R3.out.1.later (by rw [← hq4]; exact b4) R3.out.1.lt, R3.out.2.1.trans (b4.mono (by have := R3.out.1.lt; omega)), by rw [hq4]; exact R3.out.1.lt⟩
  clear r4 s4 b4 hq4
  simp only [Act.put, aS, aC, aZ]
  refine wl_as (.tmp 24) rfl rfl (.bool ok) rfl ?_
  simp only [Act.put, aS, aC, aZ]
  refine wpList_nil ?_
  cases ok with
  | false =>
    have e4 : er = 4 := by rw [HER.out]; rfl
    subst e4
    have HP0 : Hid (PR 0 0) := by show PR 0 0; rw [HPR.out]; intro h; rw [← HOK.out] at h; cases h
    go_upto_region 6 with fail
    refine wp_region_lit ?_
    refine wl rfl _ w4 (run_build101Op rfl) ?_
    simp only [Act.put, aS, aC, aZ]
    refine wpList_store0 agg101 (.tmp 4) (.tmp 27) rfl rfl rfl q 0 63 rfl (headCells 0 0) _ rfl rfl R4.out.2.1 (by simp [headCells]) (headCells_one 0 0) ?_
    rw [splice_all _ _ rfl]
    refine wpList_assign (.const (.int .i64 4)) rfl rfl (.int .i64 4) rfl ?_
    refine wpList_nil ?_
    simp only [Act.put, aS, aC, aZ]
    have R5 : Hid (Row (w4.setRow q (headCells 0 0).toArray) q 63 (headCells 0 0) ∧ Below q w (w4.setRow q (headCells 0 0).toArray)) := ⟨R4.out.2.1.setRow _, below_setRow R4.out.2.2.1 (Nat.le_refl _) _⟩
    generalize w4.setRow q (headCells 0 0).toArray = w5 at R5 ⊢
    go_wp2_with fail
    exact bodyPost_ret (results_cell_tmp agg101 Tryd.results29 _ _ q 63 rfl _ rfl R5.out.1) rfl ⟨0, 0, rfl, HP0.out, R5.out.2⟩
  | true =>
    have e0 : er = 0 := by rw [HER.out]; rfl
    subst e0
    have HP0 : Hid (PR s f) := by show PR s f; rw [HPR.out]; intro _; exact R3.out.2.2 rfl
    go_upto_region 7 with fail
    refine wp_region_lit ?_
    refine wpList_load agg101 (.tmp 8) rfl rfl q4 0 rfl (headCells s f) rfl (fun j v hj => by rw [Nat.zero_add]; exact R4.out.1.at j v hj) ?_
    simp only [Act.put, aS, aC, aZ]
    refine wpList_store0 agg101 (.tmp 4) (.tmp 28) rfl rfl rfl q 0 63 rfl (headCells s f) _ rfl rfl R4.out.2.1 (by simp [headCells]) (headCells_one s f) ?_
    rw [splice_all (headCells 0 0) (headCells s f) rfl]
    refine wpList_assign (.const (.int .i64 0)) rfl rfl (.int .i64 0) rfl ?_
    refine wpList_nil ?_
    simp only [Act.put, aS, aC, aZ]
    have R5 : Hid (Row (w4.setRow q (headCells s f).toArray) q 63 (headCells s f) ∧ Below q w (w4.setRow q (headCells s f).toArray)) := ⟨R4.out.2.1.setRow _, below_setRow R4.out.2.2.1 (Nat.le_refl _) _⟩
    generalize w4.setRow q (headCells s f).toArray = w5 at R5 ⊢
    go_wp2_with fail
    exact bodyPost_ret (results_cell_tmp agg101 Tryd.results29 _ _ q 63 rfl _ rfl R5.out.1) rfl ⟨s, f, rfl, HP0.out, R5.out.2⟩
end Go.Proofs.YtebalanfagglnaaDoor

namespace Go.Proofs.YtebalanfagglnaaDoor
open Go.RowKit Go.Maps

set_option maxHeartbeats 2000000 in
set_option maxRecDepth 100000 in
theorem partOf_own (w : World) (v : Value) (b : List Nat) (h : SliceIn w v b) (hl : b.length ≤ 1000000) (ht : Fr.TabIn w) :
    Calls Tryd.prog 73 #[v] w fun e w' => ∃ s i n pv, e = .returned (.tuple #[.agg (partCells s i n pv).toArray, .bool (partOk b)]) ∧ (∃ p l c, pv = .slice p l c) ∧ (partOk b = true → s = pS b ∧ i = pI b ∧ n = pL b ∧ SliceIn w' pv (pP b) ∧ (pP b).length = 44 ∧ ∀ b', pv.ownBlock = some b' → w.heap.size < b') ∧ Below w.heap.size w w' := by
  obtain ⟨q, hq⟩ : ∃ q, q = w.heap.size := ⟨_, rfl⟩
  have HQ : Hid (q = w.heap.size) := hq
  have HT : Hid (Fr.TabIn w) := ht
  have HV : Hid (SliceIn w v b) := h
  obtain ⟨r, hr⟩ : ∃ r, r = partOk b := ⟨_, rfl⟩
  have HR : Hid (r = partOk b) := hr
  rw [← hq, ← hr]
  clear hq ht h hr
  go_enter Tryd.func73, Tryd.ntmps73
  go_upto_region 0 with fail
  refine wp_region_lit ?_
  refine wpList_alloc' (partCells 0 0 0 (.slice none 0 0)) zero126 rfl rfl ?_
  intro w1 r1 s1 b1
  rw [← HQ.out] at r1 s1 b1 ⊢
  refine wpList_assign (.const (.bool false)) rfl rfl (.bool false) rfl ?_
  refine wpList_nil ?_
  simp only [Act.put, aS, aC, aZ]
  have R1 : Hid (Row w1 q 104 (partCells 0 0 0 (.slice none 0 0)) ∧ w1.heap.size = q + 1 ∧ Below q w w1) := ⟨r1, s1, b1⟩
  clear r1 s1 b1
  go_upto_region 1 with fail
  refine wp_region_lit ?_
  refine wl_mv (.tmp 0) rfl rfl v rfl ?_
  simp only [Act.put, aS, aC, aZ]
  refine wpList_callF en77 [.const (.int .u8 84), .tmp 14] _ rfl rfl [.int .u8 ((84 : Nat) : Int), v] rfl ?_
  refine (payload_any w1 84 (by decide) v b (HV.out.later (by rw [← HQ.out]; exact R1.out.2.2)) hl (TabIn.later HT.out (by rw [← HQ.out]; exact R1.out.2.2))).mono ?_
  rintro e w2 ⟨vp, rfl, o2, b2⟩
  refine ⟨_, rfl, ?_⟩
  have R2 : Hid (BOwn w2 w1.heap.size vp (Fr.Frame.payOf b)) := o2
  have R2r : Hid (Row w2 q 104 (partCells 0 0 0 (.slice none 0 0))) := R1.out.1.later b2 R1.out.1.lt
  have B2 : Hid (Below q w w2) := R1.out.2.2.trans (b2.mono (by have := R1.out.2.1; omega))
  clear o2 b2
  cases hpb : payB 84 b with
  | false =>
    have er : r = false := by rw [HR.out]; unfold partOk; rw [hpb]; rfl
    subst er
    go_upto_region 3 with fail
    refine wp_region_lit ?_
    refine wl rfl _ w2 (run_build126Op rfl) ?_
    simp only [Act.put, aS, aC, aZ]
    refine wpList_store0 agg126 (.tmp 2) (.tmp 20) rfl rfl rfl q 0 104 rfl (partCells 0 0 0 (.slice none 0 0)) _ rfl rfl R2r.out (by simp [partCells]) (partCells_one 0 0 0 _ ⟨_, _, _, rfl⟩) ?_
    rw [splice_all _ _ rfl]
    refine wpList_assign (.const (.bool false)) rfl rfl (.bool false) rfl ?_
    refine wpList_nil ?_
    simp only [Act.put, aS, aC, aZ]
    have R3 : Hid (Row (w2.setRow q (partCells 0 0 0 (.slice none 0 0)).toArray) q 104 (partCells 0 0 0 (.slice none 0 0)) ∧ Below q w (w2.setRow q (partCells 0 0 0 (.slice none 0 0)).toArray)) := ⟨R2r.out.setRow _, below_setRow B2.out (Nat.le_refl _) _⟩
    generalize w2.setRow q (partCells 0 0 0 (.slice none 0 0)).toArray = w3 at R3 ⊢
    go_wp2_with fail
    exact bodyPost_ret (results_cell_tmp agg126 Tryd.results73 _ _ q 104 rfl _ rfl R3.out.1) rfl ⟨0, 0, 0, _, rfl, ⟨_, _, _, rfl⟩, fun h => (by cases h), R3.out.2⟩
  | true =>
    obtain ⟨P, hP⟩ : ∃ P, P = Fr.Frame.payOf b := ⟨_, rfl⟩
    have HPL : Hid (P.length = 55 ∧ P = Fr.Frame.payOf b ∧ ∀ c ∈ P, c < 256) := by
      refine ⟨?_, hP, fun c hc => ?_⟩
      · unfold payB at hpb
        simp only [Bool.and_eq_true, decide_eq_true_eq] at hpb
        rw [hP]
        exact hpb.2.2
      · rw [hP] at hc
        exact HV.out.lt256 c (Fr.Frame.payOf_mem b c hc)
    obtain ⟨s, hs⟩ : ∃ s, s = pS b := ⟨_, rfl⟩
    obtain ⟨i, hi⟩ : ∃ i, i = pI b := ⟨_, rfl⟩
    obtain ⟨n, hn⟩ : ∃ n, n = pL b := ⟨_, rfl⟩
    have HRR : Hid (r = decide (i < secsOf n)) := by
      show _ = _
      rw [HR.out, hi, hn]
      unfold partOk
      rw [hpb, Bool.true_and]
    have HSF : Hid (s = pS b ∧ i = pI b ∧ n = pL b ∧ s = Fr.Frame.val (P.take 8) ∧ i = Fr.Frame.val ((P.drop 8).take 1) ∧ n = Fr.Frame.val (((P.drop 8).drop 1).take 2)) := ⟨hs, hi, hn, by rw [hs, hP]; rfl, by rw [hi, hP]; rfl, by rw [hn, hP]; rfl⟩
    have hi1 : i < 256 := by
      rw [HSF.out.2.2.2.2.1]
      have := Fr.Frame.val_lt ((P.drop 8).take 1) (fun c hc => HPL.out.2.2 c (List.mem_of_mem_drop (List.mem_of_mem_take hc)))
      rw [List.length_take, List.length_drop, HPL.out.1] at this
      exact this
    have hn1 : n < 65536 := by
      rw [HSF.out.2.2.2.2.2]
      have := Fr.Frame.val_lt (((P.drop 8).drop 1).take 2) (fun c hc => HPL.out.2.2 c (List.mem_of_mem_drop (List.mem_of_mem_drop (List.mem_of_mem_take hc))))
      rw [List.length_take, List.length_drop, List.length_drop, HPL.out.1] at this
      exact this
    rw [← hP] at R2
    clear hs hi hn hP hpb
    have hS2 : SliceIn w2 vp P := BOwn.slice R2.out HPL.out.2.2 (by rw [HPL.out.1]; decide)
    have HS2 : Hid (SliceIn w2 vp P) := hS2
    clear hS2 R2
    go_upto_region 4 with fail
    refine wp_region_lit ?_
    refine wl_mv (.tmp 4) rfl rfl vp rfl ?_
    simp only [Act.put, aS, aC, aZ]
    refine wpList_callF en78 [.tmp 22, .const (.int .i64 8)] _ rfl rfl [vp, .int .i64 ((8 : Nat) : Int)] rfl ?_
    refine (Fr.take_yes vp P 8 w2 HS2.out (by decide) (by decide) (by rw [HPL.out.1]; decide) (by rw [HPL.out.1]; decide)).mono ?_
    rintro e w3 ⟨v3, rfl, o3, b3⟩
    refine ⟨_, rfl, ?_⟩
    rw [← HSF.out.2.2.2.1]
    have HS3 : Hid (SliceIn w3 v3 (P.drop 8)) := BOwn.slice o3 (fun c hc => HPL.out.2.2 c (List.mem_of_mem_drop (hc))) (by rw [List.length_drop, HPL.out.1]; decide)
    have R3 : Hid (Row w3 q 104 (partCells 0 0 0 (.slice none 0 0)) ∧ Below q w w3) := ⟨R2r.out.later b3 R2r.out.lt, B2.out.trans (b3.mono (by have := R2r.out.lt; omega))⟩
    have HNB3 : Hid (∀ b', v3.ownBlock = some b' → q < b') := fun b' hb' => by have h1 := (World.ownsRow.lt o3 b' hb').1; have h2 := R2r.out.lt; omega
    clear o3 b3
    go_upto_region 5 with fail
    refine wp_region_lit ?_
    refine wl_mv (.tmp 4) rfl rfl v3 rfl ?_
    simp only [Act.put, aS, aC, aZ]
    refine wpList_callF en78 [.tmp 28, .const (.int .i64 1)] _ rfl rfl [v3, .int .i64 ((1 : Nat) : Int)] rfl ?_
    refine (Fr.take_yes v3 (P.drop 8) 1 w3 HS3.out (by decide) (by decide) (by rw [List.length_drop, HPL.out.1]; decide) (by rw [List.length_drop, HPL.out.1]; decide)).mono ?_
    rintro e w4 ⟨v4, rfl, o4, b4⟩
    refine ⟨_, rfl, ?_⟩
    rw [← HSF.out.2.2.2.2.1]
    have HS4 : Hid (SliceIn w4 v4 ((P.drop 8).drop 1)) := BOwn.slice o4 (fun c hc => HPL.out.2.2 c (List.mem_of_mem_drop (List.mem_of_mem_drop (hc)))) (by rw [List.length_drop, List.length_drop, HPL.out.1]; decide)
    have R4 : Hid (Row w4 q 104 (partCells 0 0 0 (.slice none 0 0)) ∧ Below q w w4) := ⟨R3.out.1.later b4 R3.out.1.lt, R3.out.2.trans (b4.mono (by have := R3.out.1.lt; omega))⟩
    have HNB4 : Hid (∀ b', v4.ownBlock = some b' → q < b') := fun b' hb' => by have h1 := (World.ownsRow.lt o4 b' hb').1; have h2 := R3.out.1.lt; omega
    clear o4 b4
    go_upto_region 6 with fail
    refine wp_region_lit ?_
    refine wl_mv (.tmp 4) rfl rfl v4 rfl ?_
    simp only [Act.put, aS, aC, aZ]
    refine wpList_callF en78 [.tmp 34, .const (.int .i64 2)] _ rfl rfl [v4, .int .i64 ((2 : Nat) : Int)] rfl ?_
    refine (Fr.take_yes v4 ((P.drop 8).drop 1) 2 w4 HS4.out (by decide) (by decide) (by rw [List.length_drop, List.length_drop, HPL.out.1]; decide) (by rw [List.length_drop, List.length_drop, HPL.out.1]; decide)).mono ?_
    rintro e w5 ⟨v5, rfl, o5, b5⟩
    refine ⟨_, rfl, ?_⟩
    rw [← HSF.out.2.2.2.2.2]
    have HS5 : Hid (SliceIn w5 v5 (((P.drop 8).drop 1).drop 2)) := BOwn.slice o5 (fun c hc => HPL.out.2.2 c (List.mem_of_mem_drop (List.mem_of_mem_drop (List.mem_of_mem_drop (hc))))) (by rw [List.length_drop, List.length_drop, List.length_drop, HPL.out.1]; decide)
    have R5 : Hid (Row w5 q 104 (partCells 0 0 0 (.slice none 0 0)) ∧ Below q w w5) := ⟨R4.out.1.later b5 R4.out.1.lt, R4.out.2.trans (b5.mono (by have := R4.out.1.lt; omega))⟩
    have HNB5 : Hid (∀ b', v5.ownBlock = some b' → q < b') := fun b' hb' => by have h1 := (World.ownsRow.lt o5 b' hb').1; have h2 := R4.out.1.lt; omega
    clear o5 b5
    go_upto_region 7 with fail
    have HSV : Hid (∃ p l c, v5 = .slice p l c) := HS5.out.isSl
    refine wp_region_lit ?_
    refine wl_mv (.tmp 6) rfl rfl (.int .u64 (s : Nat)) rfl ?_
    simp only [Act.put, aS, aC, aZ]
    refine wl_mv (.tmp 8) rfl rfl (.int .u64 (i : Nat)) rfl ?_
    simp only [Act.put, aS, aC, aZ]
    refine wl_cv993 (.tmp 40) rfl rfl i (by omega) rfl ?_
    simp only [Act.put, aS, aC, aZ]
    refine wl_mv (.tmp 10) rfl rfl (.int .u64 (n : Nat)) rfl ?_
    simp only [Act.put, aS, aC, aZ]
    refine wl_cv993 (.tmp 42) rfl rfl n (by omega) rfl ?_
    simp only [Act.put, aS, aC, aZ]
    refine wl_mv (.tmp 4) rfl rfl v5 rfl ?_
    simp only [Act.put, aS, aC, aZ]
    refine wl rfl _ w5 (run_build126xOp (.tmp 39) (.tmp 41) (.tmp 43) (.tmp 44) rfl s i n v5 HSV.out rfl rfl rfl rfl) ?_
    simp only [Act.put, aS, aC, aZ]
    refine wpList_alloc_store agg126 _ zero126 rfl rfl rfl rfl rfl (.tmp 45) rfl (partCells s i n v5) rfl rfl (partCells_one s i n v5 HSV.out) (fun _ => rfl) (fun _ => rfl) ?_
    intro w6 r6 s6 b6
    obtain ⟨g, hg⟩ : ∃ g, g = w5.heap.size := ⟨_, rfl⟩
    rw [← hg] at r6 s6 b6 ⊢
    simp only [Act.put, aS, aC, aZ]
    refine wpList_nil ?_
    have hqg : q < g := by rw [hg]; exact R5.out.1.lt
    have R6 : Hid (Row w6 g 104 (partCells s i n v5) ∧ Row w6 q 104 (partCells 0 0 0 (.slice none 0 0)) ∧ Below q w w6 ∧ SliceIn w6 v5 (((P.drop 8).drop 1).drop 2)) := ⟨r6, R5.out.1.later (by rw [← hg]; exact b6) R5.out.1.lt, R5.out.2.trans (b6.mono (by omega)), HS5.out.later (by rw [← hg]; exact b6)⟩
    clear r6 s6 b6 hg HS5 R5 HS4 R4 HS3 R3 HS2 R2r B2
    have HSC : Hid (∀ W, Calls Tryd.prog 55 #[.int .i64 (n : Nat)] W fun e w' => e = .returned (.int .i64 (secsOf n : Nat)) ∧ W = w') := fun W => sectors_any W n (by omega)
    go_upto_region 8 with fail
    refine wp_region_held (S := fun X => Row X g 104 (partCells s i n v5)) (by kernel_rfl) ?_
    show wpAnyH _ _ _ _ _ 9 (Array.replicate 9 false) _ _
    obtain ⟨X, hX⟩ : ∃ X : World, X = { w6 with drawn := w6.drawn + 1 } := ⟨_, rfl⟩
    rw [← hX]
    have hbX : Below w6.heap.size w6 X := by rw [hX]; exact ⟨rfl, rfl, rfl, Nat.le_refl _, fun _ _ => rfl⟩
    have RX : Hid (Row X g 104 (partCells s i n v5) ∧ Row X q 104 (partCells 0 0 0 (.slice none 0 0)) ∧ Below q w X ∧ SliceIn X v5 (((P.drop 8).drop 1).drop 2)) := ⟨R6.out.1.later hbX R6.out.1.lt, R6.out.2.1.later hbX R6.out.2.1.lt, R6.out.2.2.1.trans (hbX.mono (by have := R6.out.2.1.lt; omega)), R6.out.2.2.2.later hbX⟩
    have hS0 := RX.out.1
    clear hX hbX R6
    refine takeH (i := 0) (some 46) rfl rfl (by kernel_rfl) (by kernel_rfl) (by kernel_rfl) (fun _ _ _ h => h) (gLoadA agg126 rfl (.tmp 12) rfl g rfl (partCells s i n v5) rfl (fun _ h => h)) hS0 ?_
    simp only [Act.put, aS, aC, aZ]
    refine takeH (i := 1) (some 47) rfl rfl (by kernel_rfl) (by kernel_rfl) (by kernel_rfl) (fun _ _ _ h => h) (gField f126_1 rfl (.tmp 12) rfl g 0 rfl) hS0 ?_
    simp only [Act.put, aS, aC, aZ]
    refine takeH (i := 2) (some 48) rfl rfl (by kernel_rfl) (by kernel_rfl) (by kernel_rfl) (fun _ _ _ h => h) (gLoad o3' rfl (.tmp 47) rfl g (0 + 1) rfl (.int .i64 (i : Nat)) (fun _ h => h.at 1 _ rfl)) hS0 ?_
    simp only [Act.put, aS, aC, aZ]
    refine takeH (i := 3) (some 49) rfl rfl (by kernel_rfl) (by kernel_rfl) (by kernel_rfl) (fun _ _ _ h => h) (gField f126_2 rfl (.tmp 12) rfl g 0 rfl) hS0 ?_
    simp only [Act.put, aS, aC, aZ]
    refine takeH (i := 4) (some 50) rfl rfl (by kernel_rfl) (by kernel_rfl) (by kernel_rfl) (fun _ _ _ h => h) (gLoad o3' rfl (.tmp 49) rfl g (0 + 2) rfl (.int .i64 (n : Nat)) (fun _ h => h.at 2 _ rfl)) hS0 ?_
    simp only [Act.put, aS, aC, aZ]
    refine oneH (i := 5) (by kernel_rfl) ?_
    refine opCallA (some 51) rfl rfl rfl 55 _ (run_call en69 [.tmp 50] _ rfl [.int .i64 (n : Nat)] rfl) ?_
    refine (HSC.out X).mono ?_
    rintro e w9 ⟨rfl, rfl⟩
    refine ⟨_, rfl, ?_⟩
    refine ⟨hS0, ?_⟩
    simp only [Act.put, aS, aC, aZ]
    refine takeH (i := 6) (some 52) rfl rfl (by kernel_rfl) (by kernel_rfl) (by kernel_rfl) (fun _ _ _ h => h) (gLss rfl (.tmp 48) (.tmp 51) rfl i (secsOf n) rfl rfl) hS0 ?_
    simp only [Act.put, aS, aC, aZ]
    rw [← HRR.out]
    refine oneH (i := 7) (by kernel_rfl) ?_
    refine opSkip rfl rfl rfl _ (run_storeA agg126 (.tmp 2) (.tmp 46) rfl q 104 rfl (partCells s i n v5) _ rfl rfl RX.out.2.1 rfl (partCells_one s i n v5 HSV.out)) ?_
    have R9 : Hid (Row (X.setRow q (partCells s i n v5).toArray) g 104 (partCells s i n v5) ∧ Row (X.setRow q (partCells s i n v5).toArray) q 104 (partCells s i n v5) ∧ Below q w (X.setRow q (partCells s i n v5).toArray) ∧ SliceIn (X.setRow q (partCells s i n v5).toArray) v5 (((P.drop 8).drop 1).drop 2)) := ⟨RX.out.1.setRow_other (by omega) _, RX.out.2.1.setRow _, below_setRow RX.out.2.2.1 (Nat.le_refl _) _, sliceK RX.out.2.2.2 fun b' hb' _ => Go.setRow_other _ _ _ _ (by have := HNB5.out b' hb'; omega)⟩
    generalize X.setRow q (partCells s i n v5).toArray = w10 at R9 ⊢
    have hS9 := R9.out.1
    refine ⟨hS9, ?_⟩
    refine takeH (i := 8) (some 3) rfl rfl (by kernel_rfl) (by kernel_rfl) (by kernel_rfl) (fun _ _ _ h => h) (gAssign rfl (.tmp 52) rfl (.bool r) rfl) hS9 ?_
    simp only [Act.put, aS, aC, aZ]
    refine wpAnyH_done (by kernel_rfl) ?_ _
    go_wp2_with fail
    exact bodyPost_ret (results_cell_tmp agg126 Tryd.results73 _ _ q 104 rfl _ rfl R9.out.2.1) rfl ⟨s, i, n, v5, rfl, HSV.out, fun _ => ⟨HSF.out.1, HSF.out.2.1, HSF.out.2.2.1, by unfold pP; rw [← HPL.out.2.1]; exact R9.out.2.2.2, by unfold pP; rw [← HPL.out.2.1, List.length_drop, List.length_drop, List.length_drop, HPL.out.1], HNB5.out⟩, R9.out.2.2.1⟩
end Go.Proofs.YtebalanfagglnaaDoor

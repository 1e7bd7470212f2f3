/- Layer 8: the log read. Layer 8: the log of a journal. -/
import Derived.Test.YtebalanfagglnaaDoorV29
namespace Go.Proofs.YtebalanfagglnaaDoor
open Go.RowKit Go.Maps

theorem eN82 : EntersF 74 := Go.Proofs.enters_of Tryd.func74 (by kernel_rfl) rfl
theorem eN83 : EntersF 75 := Go.Proofs.enters_of Tryd.func75 (by kernel_rfl) rfl
structure TxSt (TT : Option (List (List (List Nat)) × Nat) × Int) (gf B : Nat) (W : World) (A : Nat → Bool) (X : Nat → List Nat) (E : Int → Nat → Int) (used : Nat) (tv : Value) (D : List (List (List Nat))) (f' : Int) (wr : World) : Prop where
  told : TT = txsGo A X E (4200 - used) used D f'
  le : used ≤ 4096
  only : OnlyG gf B W wr
  fl : Row wr gf 41 [.int .i64 f']
  txs : TxsTo wr B tv D
  len : D.length ≤ used
  size : B ≤ wr.heap.size
theorem txsGo_stop (A : Nat → Bool) (X : Nat → List Nat) (E : Int → Nat → Int) (n used : Nat) (D : List (List (List Nat))) (f : Int) (hn : 0 < n) (h : (rowRd A X E used f).2.1 = 0) : txsGo A X E n used D f = (some (D, used), (rowRd A X E used f).2.2) := by
  cases n with
  | zero => omega
  | succ n =>
    unfold txsGo
    rw [if_pos h]
theorem txsGo_none (A : Nat → Bool) (X : Nat → List Nat) (E : Int → Nat → Int) (n used : Nat) (D : List (List (List Nat))) (f : Int) (hn : 0 < n) (h : ¬ (rowRd A X E used f).2.1 = 0) (h2 : recordsOf (rowRd A X E used f).1 = none) : txsGo A X E n used D f = (none, (rowRd A X E used f).2.2) := by
  cases n with
  | zero => omega
  | succ n =>
    unfold txsGo
    rw [if_neg h, h2]
theorem txsGo_long (A : Nat → Bool) (X : Nat → List Nat) (E : Int → Nat → Int) (n used : Nat) (D : List (List (List Nat))) (f : Int) (hn : 0 < n) (h : ¬ (rowRd A X E used f).2.1 = 0) (tx : List (List Nat)) (h2 : recordsOf (rowRd A X E used f).1 = some tx) (h3 : longTx tx = true) : txsGo A X E n used D f = (none, (rowRd A X E used f).2.2) := by
  cases n with
  | zero => omega
  | succ n =>
    unfold txsGo
    rw [if_neg h, h2]
    simp only [h3, if_true]
theorem txsGo_on (A : Nat → Bool) (X : Nat → List Nat) (E : Int → Nat → Int) (n used : Nat) (D : List (List (List Nat))) (f : Int) (hn : 0 < n) (h : ¬ (rowRd A X E used f).2.1 = 0) (tx : List (List Nat)) (h2 : recordsOf (rowRd A X E used f).1 = some tx) (h3 : longTx tx = false) : txsGo A X E n used D f = txsGo A X E (n - 1) (used + (rowRd A X E used f).2.1) (D ++ [tx]) (rowRd A X E used f).2.2 := by
  cases n with
  | zero => omega
  | succ n =>
    conv => lhs; unfold txsGo
    rw [if_neg h, h2]
    simp only [h3, Bool.false_eq_true, if_false]
    rfl
theorem txsGo_enough (A : Nat → Bool) (X : Nat → List Nat) (E : Int → Nat → Int) (hA : ∀ a, A a = true → a < 4096) : ∀ (n m used : Nat) (D : List (List (List Nat))) (f : Int), used ≤ 4096 → 4096 - used < n → 4096 - used < m → txsGo A X E n used D f = txsGo A X E m used D f := by
  intro n
  induction n with
  | zero => intro m used D f _ h; omega
  | succ n ih =>
    intro m used D f hu hn hm
    by_cases h : (rowRd A X E used f).2.1 = 0
    · rw [txsGo_stop _ _ _ _ _ _ _ (by omega) h, txsGo_stop _ _ _ _ _ _ _ (by omega) h]
    · cases h2 : recordsOf (rowRd A X E used f).1 with
      | none => rw [txsGo_none _ _ _ _ _ _ _ (by omega) h h2, txsGo_none _ _ _ _ _ _ _ (by omega) h h2]
      | some tx =>
        cases h3 : longTx tx with
        | true => rw [txsGo_long _ _ _ _ _ _ _ (by omega) h tx h2 h3, txsGo_long _ _ _ _ _ _ _ (by omega) h tx h2 h3]
        | false =>
          have h4 := hA _ (rowGo_len A X E used _ _ _ _ h).1
          have h5 : (rowGo A X E used (secsOf (pL (X used))) 0 [] (E f used)).2.1 = (rowRd A X E used f).2.1 := rfl
          rw [h5] at h4
          rw [txsGo_on _ _ _ _ _ _ _ (by omega) h tx h2 h3, txsGo_on _ _ _ _ _ _ _ (by omega) h tx h2 h3]
          exact ih _ _ _ _ (by omega) (by omega) (by omega)
set_option maxHeartbeats 4000000 in
set_option maxRecDepth 100000 in
theorem transactions_any {W : World} {gp gd gh gf : Nat} {A : Nat → Bool} {X : Nat → List Nat} {E : Int → Nat → Int} (hR : Reads W W.heap.size gp gd gh gf A X E) (hX : ∀ a, pL (X a) < 65536) (hA : ∀ a, A a = true → a < 4096) (f : Int) (hgf : Row W gf 41 [.int .i64 f]) :
    Calls Tryd.prog 53 #[rdV gp gd gh gf] W fun e w' => ∃ tv z ok, e = .returned (.tuple #[tv, .int .i64 z, .bool ok]) ∧ (((txsGo A X E 4200 0 [] f).1 = none ∧ ok = false) ∨ ∃ D used, (txsGo A X E 4200 0 [] f).1 = some (D, used) ∧ ok = true ∧ z = ((used : Nat) : Int) ∧ used ≤ 4096 ∧ TxsTo w' W.heap.size tv D) ∧ Row w' gf 41 [.int .i64 (txsGo A X E 4200 0 [] f).2] ∧ OnlyG gf W.heap.size W w' := by
  obtain ⟨B, hB⟩ : ∃ B, B = W.heap.size := ⟨_, rfl⟩
  obtain ⟨TT, hTT⟩ : ∃ TT, TT = txsGo A X E 4200 0 [] f := ⟨_, rfl⟩
  have HRD : Hid (Reads W B gp gd gh gf A X E) := by rw [hB]; exact hR
  have HX : Hid (∀ a, pL (X a) < 65536) := hX
  have HA : Hid (∀ a, A a = true → a < 4096) := hA
  have HB : Hid (B = W.heap.size ∧ gf < B) := ⟨hB, by rw [hB]; exact hgf.lt⟩
  have H0 : Hid (TxSt TT gf B W A X E 0 (.slice none 0 0) [] f W) := ⟨by rw [hTT], Nat.zero_le _, OnlyG.of (Below.refl _ _), hgf, TxsTo.nil _ _, Nat.le_refl _, by omega⟩
  obtain ⟨PO, hPO⟩ : ∃ PO : Value → Int → Bool → World → Prop, PO = fun (tv : Value) (z : Int) (ok : Bool) (w' : World) => ((TT.1 = none ∧ ok = false) ∨ ∃ D used, TT.1 = some (D, used) ∧ ok = true ∧ z = ((used : Nat) : Int) ∧ used ≤ 4096 ∧ TxsTo w' B tv D) ∧ Row w' gf 41 [.int .i64 TT.2] ∧ OnlyG gf B W w' := ⟨_, rfl⟩
  have HPO : Hid (PO = fun (tv : Value) (z : Int) (ok : Bool) (w' : World) => ((TT.1 = none ∧ ok = false) ∨ ∃ D used, TT.1 = some (D, used) ∧ ok = true ∧ z = ((used : Nat) : Int) ∧ used ≤ 4096 ∧ TxsTo w' B tv D) ∧ Row w' gf 41 [.int .i64 TT.2] ∧ OnlyG gf B W w') := hPO
  rw [← hB, ← hTT]
  obtain ⟨PQ, hPQ⟩ : ∃ PQ : Ending → World → Prop, PQ = fun (e : Ending) (w' : World) => ∃ tv z ok, e = .returned (.tuple #[tv, .int .i64 z, .bool ok]) ∧ PO tv z ok w' := ⟨_, rfl⟩
  have HPQ : Hid (PQ = fun (e : Ending) (w' : World) => ∃ tv z ok, e = .returned (.tuple #[tv, .int .i64 z, .bool ok]) ∧ PO tv z ok w') := hPQ
  refine Calls.mono (R := PQ) ?_ (fun e w' h => by rw [hPQ] at h; obtain ⟨tv, z, ok, h1, h2⟩ := h; exact ⟨tv, z, ok, h1, by rw [hPO] at h2; exact h2⟩)
  clear hPQ hR hX hA hgf hPO hTT hB
  go_enter Tryd.func53, Tryd.ntmps53
  go_upto_region 2 with fail
  go_wp2_with fail
  go_loopw [5, 6] (fun vt vn W' => ∃ (used : Nat) (D : List (List (List Nat))) (f' : Int), vn = .int .i64 (used : Nat) ∧ TxSt TT gf B W A X E used vt D f' W') (fun _ vn _ => 5000 - (intOf vn).toNat)
  case atStart => exact ⟨0, [], f, rfl, H0.out⟩
  case round =>
    obtain ⟨used, D, f', rfl, hI⟩ := hrel
    have HI : Hid (TxSt TT gf B W A X E used u5 D f' wr) := hI
    have hu := hI.le
    clear hI H0
    obtain ⟨rr, hrr⟩ : ∃ rr, rr = rowRd A X E used f' := ⟨_, rfl⟩
    have HRR : Hid (rr = rowRd A X E used f') := hrr
    have HCR : Hid (Calls Tryd.prog 74 #[rdV gp gd gh gf, .int .i64 (used : Nat)] wr fun e w' => ∃ bv, e = .returned (.tuple #[bv, .int .i64 (rr.2.1 : Nat)]) ∧ (rr.2.1 ≠ 0 → SliceIn w' bv rr.1) ∧ Row w' gf 41 [.int .i64 rr.2.2] ∧ OnlyG gf wr.heap.size wr w') := by
      rw [hrr]
      exact readRow_any (HRD.out.later HI.out.only HI.out.size) HX.out f' HI.out.fl used (by omega)
    have HLN : Hid (rr.2.1 ≠ 0 → used + rr.2.1 ≤ 4096 ∧ rr.1.length < 65536) := fun h => by
      rw [hrr] at h ⊢
      have h2 := rowGo_len A X E used _ _ _ _ h
      have h3 := HA.out _ h2.1
      have h5 : (rowGo A X E used (secsOf (pL (X used))) 0 [] (E f' used)) = (rowRd A X E used f') := rfl
      rw [h5] at h2 h3
      have h6 := HX.out used
      exact ⟨by omega, by omega⟩
    clear hrr
    obtain ⟨rb, rn, rf⟩ := rr
    go_upto_region 3 with fail
    refine wp_region_lit ?_
    refine wl_mv (.tmp 0) rfl rfl (rdV gp gd gh gf) rfl ?_
    simp only [Act.put, aS, aC, aZ]
    refine wl_mv (.tmp 6) rfl rfl (.int .i64 (used : Nat)) rfl ?_
    simp only [Act.put, aS, aC, aZ]
    refine wpList_callF eN82 [.tmp 12, .tmp 13] _ rfl rfl [rdV gp gd gh gf, .int .i64 (used : Nat)] rfl ?_
    refine HCR.out.mono ?_
    rintro e w2 ⟨bv, rfl, hsl, hf2, o2⟩
    refine ⟨_, rfl, ?_⟩
    have R2 : Hid ((rn ≠ 0 → SliceIn w2 bv rb) ∧ Row w2 gf 41 [.int .i64 rf] ∧ OnlyG gf B W w2 ∧ TxsTo w2 B u5 D ∧ B ≤ w2.heap.size ∧ ∀ b, u5.ownBlock = some b → b < w2.heap.size) := ⟨hsl, hf2, HI.out.only.trans (o2.mono HI.out.size), HI.out.txs.only o2 (Nat.le_refl _) HB.out.2, by have := o2.size; have := HI.out.size; omega, fun b hb => by obtain ⟨us, k1, _⟩ := HI.out.txs; have := (World.ownsRow.lt k1 b hb).2; have := o2.size; omega⟩
    clear hsl hf2 o2
    simp only [Act.put, aS, aC, aZ]
    refine wl_mv (.tmp 14) rfl rfl (.tuple #[bv, .int .i64 (rn : Nat)]) rfl ?_
    simp only [Act.put, aS, aC, aZ]
    refine wl rfl bv w2 (by simp [execOp, Act.eval, Instr.extract]) ?_
    simp only [Act.put, aS, aC, aZ]
    refine wl rfl (.int .i64 (rn : Nat)) w2 (by simp [execOp, Act.eval, Instr.extract]) ?_
    simp only [Act.put, aS, aC, aZ]
    refine wl_as (.tmp 15) rfl rfl bv rfl ?_
    simp only [Act.put, aS, aC, aZ]
    refine wl_as (.tmp 16) rfl rfl (.int .i64 (rn : Nat)) rfl ?_
    simp only [Act.put, aS, aC, aZ]
    refine wpList_nil ?_
    by_cases h0 : rn = 0
    · subst h0
      have HT : Hid (TT = (some (D, used), rf)) := by
        show _ = _
        have h := HRR.out
        rw [HI.out.told, txsGo_stop _ _ _ _ _ _ _ (by omega) (by rw [← h]), ← h]
      go_wp2_with fail
      go_ret3
      rw [HPQ.out]
      exact ⟨u5, _, true, rfl, by rw [HPO.out, HT.out]; exact ⟨Or.inr ⟨D, used, rfl, rfl, rfl, HI.out.le, R2.out.2.2.2.1⟩, R2.out.2.1, R2.out.2.2.1⟩⟩
    · have t1 : ((rn : Int) == 0) = false := by simp; omega
      have t2 : decide ((rn : Int) = 0) = false := decide_eq_false (by omega)
      have hun := (HLN.out h0).1
      simp only at hun
      have hN0 : ¬ (rowRd A X E used f').2.1 = 0 := by have h := HRR.out; rw [← h]; exact h0
      have HN0 : Hid (¬ (rowRd A X E used f').2.1 = 0) := hN0
      clear hN0
      go_upto_region 6 with fail
      refine wp_region_lit ?_
      refine wl_mv (.tmp 7) rfl rfl bv rfl ?_
      simp only [Act.put, aS, aC, aZ]
      refine wpList_callF eN83 [.tmp 22] _ rfl rfl [bv] rfl ?_
      refine (records_any w2 bv rb (R2.out.1 h0) (by have := (HLN.out h0).2; simp only at this; omega)).mono ?_
      rintro e w3 ⟨xv, ok, rfl, b3, hcase⟩
      refine ⟨_, rfl, ?_⟩
      have R3 : Hid (Row w3 gf 41 [.int .i64 rf] ∧ OnlyG gf B W w3 ∧ TxsTo w3 B u5 D ∧ B ≤ w3.heap.size) := ⟨R2.out.2.1.later b3 R2.out.2.1.lt, R2.out.2.2.1.trans (OnlyG.of (b3.mono R2.out.2.2.2.2.1)), R2.out.2.2.2.1.only (OnlyG.of b3 : OnlyG gf _ _ _) (Nat.le_refl _) HB.out.2, by have := b3.size; have := R2.out.2.2.2.2.1; omega⟩
      have HC : Hid ((ok = false ∧ TT = (none, rf)) ∨ (ok = true ∧ ∃ tx, RowsTo w3 w2.heap.size xv tx ∧ TT = txsGo A X E (4200 - (used + rn)) (used + rn) (D ++ [tx]) rf)) := by
        show _ ∨ _
        have h := HRR.out
        have e1 : (rowRd A X E used f').1 = rb := by rw [← h]
        have e2 : (rowRd A X E used f').2.1 = rn := by rw [← h]
        have e3 : (rowRd A X E used f').2.2 = rf := by rw [← h]
        rcases hcase with ⟨q1, q2⟩ | ⟨tx, q1, q2, q3, _⟩
        · left
          refine ⟨q2, ?_⟩
          rw [HI.out.told, txsGo_none _ _ _ _ _ _ _ (by omega) HN0.out (by rw [e1]; exact q1), e3]
        · cases hl : longTx tx with
          | true =>
            left
            rw [hl] at q2
            refine ⟨q2, ?_⟩
            rw [HI.out.told, txsGo_long _ _ _ _ _ _ _ (by omega) HN0.out tx (by rw [e1]; exact q1) hl, e3]
          | false =>
            right
            rw [hl] at q2
            refine ⟨q2, tx, q3, ?_⟩
            rw [HI.out.told, txsGo_on _ _ _ _ _ _ _ (by omega) HN0.out tx (by rw [e1]; exact q1) hl, e2, e3]
            exact txsGo_enough A X E HA.out _ _ _ _ _ (by omega) (by omega) (by omega)
      have HXS : Hid ((∃ p n c, xv = .slice p n c) ∨ ok = false) := by
        rcases HC.out with h | ⟨_, tx, h, _⟩
        · exact Or.inr h.1
        · obtain ⟨us, k1, _⟩ := h
          exact Or.inl (own_isSlice k1)
      clear hcase b3
      simp only [Act.put, aS, aC, aZ]
      refine wl_mv (.tmp 23) rfl rfl (.tuple #[xv, .bool ok]) rfl ?_
      simp only [Act.put, aS, aC, aZ]
      refine wl rfl xv w3 (by simp [execOp, Act.eval, Instr.extract]) ?_
      simp only [Act.put, aS, aC, aZ]
      refine wl rfl (.bool ok) w3 (by simp [execOp, Act.eval, Instr.extract]) ?_
      simp only [Act.put, aS, aC, aZ]
      refine wl_as (.tmp 24) rfl rfl xv rfl ?_
      simp only [Act.put, aS, aC, aZ]
      refine wl_as (.tmp 25) rfl rfl (.bool ok) rfl ?_
      simp only [Act.put, aS, aC, aZ]
      refine wpList_nil ?_
      cases ok with
      | false =>
        have HT : Hid (TT = (none, rf)) := by
          rcases HC.out with h | h
          · exact h.2
          · exact absurd h.1 (by decide)
        go_wp2_with fail
        go_ret3
        rw [HPQ.out]
        exact ⟨_, _, false, rfl, by rw [HPO.out, HT.out]; exact ⟨Or.inl ⟨rfl, rfl⟩, R3.out.1, R3.out.2.1⟩⟩
      | true =>
        obtain ⟨tx, hT⟩ : ∃ tx, RowsTo w3 w2.heap.size xv tx ∧ TT = txsGo A X E (4200 - (used + rn)) (used + rn) (D ++ [tx]) rf := by
          rcases HC.out with h | h
          · exact absurd h.1 (by decide)
          · exact h.2
        have HT : Hid (RowsTo w3 w2.heap.size xv tx ∧ TT = txsGo A X E (4200 - (used + rn)) (used + rn) (D ++ [tx]) rf) := hT
        have HSL : Hid (∃ p n c, xv = .slice p n c) := by
          rcases HXS.out with h | h
          · exact h
          · exact absurd h (by decide)
        obtain ⟨v4, w4, hrun, htx, hbel, _⟩ := R3.out.2.2.1.push R3.out.2.2.2 (by have := HI.out.len; have := HI.out.le; omega) xv tx (hT.1.tx R2.out.2.2.2.2.1 R2.out.2.2.2.2.2)
        have HRUN : Hid ((Builtin.append_ #[36, 36] 36 #[u5, .slice (some ⟨w3.heap.size, 0, none⟩) 1 1]).run Tryd.prog (w3.alloc (.cells #[xv] 28)) = .ok v4 w4) := hrun
        have R4 : Hid (TxSt TT gf B W A X E (used + rn) v4 (D ++ [tx]) rf w4) := ⟨HT.out.2, hun, R3.out.2.1.trans (OnlyG.of hbel), R3.out.1.later hbel HB.out.2, htx, by rw [List.length_append, List.length_singleton]; have := HI.out.len; omega, by have := hbel.size; have := R3.out.2.2.2; omega⟩
        clear hrun htx hbel hT
        go_upto_region 9 with fail
        refine wp_region_lit ?_
        refine wl_mv (.tmp 5) rfl rfl u5 rfl ?_
        simp only [Act.put, aS, aC, aZ]
        refine wl_mv (.tmp 9) rfl rfl xv rfl ?_
        simp only [Act.put, aS, aC, aZ]
        refine wl rfl _ _ (run_lit38 (.tmp 29) rfl xv HSL.out rfl) ?_
        simp only [Act.put, aS, aC, aZ]
        refine wl_app (.tmp 28) (.tmp 30) rfl rfl u5 _ v4 rfl rfl HRUN.out ?_
        simp only [Act.put, aS, aC, aZ]
        refine wl_as (.tmp 31) rfl rfl v4 rfl ?_
        simp only [Act.put, aS, aC, aZ]
        refine wpList_nil ?_
        go_upto_region 10 with fail
        refine wp_region_lit ?_
        refine wl_mv (.tmp 6) rfl rfl (.int .i64 (used : Nat)) rfl ?_
        simp only [Act.put, aS, aC, aZ]
        refine wl_mv (.tmp 8) rfl rfl (.int .i64 (rn : Nat)) rfl ?_
        simp only [Act.put, aS, aC, aZ]
        refine wl_addN (.tmp 32) (.tmp 33) rfl rfl used rn (by omega) (by omega) rfl rfl ?_
        simp only [Act.put, aS, aC, aZ]
        refine wl_as (.tmp 34) rfl rfl (.int .i64 ((used + rn : Nat) : Int)) rfl ?_
        simp only [Act.put, aS, aC, aZ]
        refine wpList_nil ?_
        obtain ⟨un, hun'⟩ : ∃ un, un = used + rn := ⟨_, rfl⟩
        have HUN : Hid (un = used + rn) := hun'
        rw [← hun'] at R4 ⊢
        clear hun'
        go_wp2_with fail
        refine ⟨⟨un, _, _, rfl, R4.out⟩, ?_⟩
        have h9 := HUN.out
        simp [intOf]; omega
end Go.Proofs.YtebalanfagglnaaDoor

namespace Go.Proofs.YtebalanfagglnaaDoor
open Go.RowKit Go.Maps

theorem eN67 : EntersF 53 := Go.Proofs.enters_of Tryd.func53 (by kernel_rfl) rfl
theorem o46 : OneT 41 := fun w g o v h => by simp [loadVar, isAgg, run_underlying Tryd.underlying41, h]
section
variable {w : World} {ops : Array Oper} {rest : List Oper} {o : Oper} {a : Act} {Q : Exit → Act → World → Prop}
theorem wpList_box1 {t : Nat} (x : Operand) (hgd : o.guard = none) (ho : o.op = .box t x) (v : Value) (hv : v.cells = #[v]) (hx : a.eval x = v)
    (h : ∀ w', Row w' w.heap.size t [v] → w'.heap.size = w.heap.size + 1 → Below w.heap.size w w' → wpList Tryd.prog ops Q rest (a.put o.dst (.pointer (some ⟨w.heap.size, 0, none⟩))) w') : wpList Tryd.prog ops Q (o :: rest) a w :=
  wpList_value hgd _ _ (by simp [execOp, ho, hx, Instr.box, newVar, newRow, hv]) (h (w.alloc (.cells [v].toArray t)) (Row.new w t [v]) (by simp) ((Below.refl _ _).alloc (Nat.le_refl _) _))
theorem run_alloc46 (w : World) : (Instr.alloc 41 true (.tuple #[])).run Tryd.prog w = .ok (.pointer (some ⟨w.heap.size, 0, none⟩)) (w.alloc (.cells #[.int .i64 0] 41)) := by kernel_rfl
theorem wpList_alloc46 (hgd : o.guard = none) (ho : o.op = .alloc 41)
    (h : ∀ w', Row w' w.heap.size 41 [.int .i64 0] → w'.heap.size = w.heap.size + 1 → Below w.heap.size w w' → wpList Tryd.prog ops Q rest (a.put o.dst (.pointer (some ⟨w.heap.size, 0, none⟩))) w') : wpList Tryd.prog ops Q (o :: rest) a w :=
  wpList_value hgd _ _ (by simp [execOp, ho, run_alloc46]) (h (w.alloc (.cells [Value.int .i64 0].toArray 41)) (Row.new w 41 [.int .i64 0]) (by simp) ((Below.refl _ _).alloc (Nat.le_refl _) _))
end
theorem TxTo.weaken {W : World} {base base' : Nat} {tv u : Value} {tx : List (List Nat)} (h : TxTo W base tv u tx) (hb : base' ≤ base) : TxTo W base' tv u tx := by
  obtain ⟨us, h1, h2, h3⟩ := h
  refine ⟨us, ?_, h2, fun i hi => ⟨(h3 i hi).1, fun b hb' => ⟨((h3 i hi).2 b hb').1, ((h3 i hi).2 b hb').2.1, ((h3 i hi).2 b hb').2.2.1, Nat.le_trans hb ((h3 i hi).2 b hb').2.2.2⟩⟩⟩
  obtain ⟨h4, h5⟩ := h1
  refine ⟨h4, ?_⟩
  rcases h5 with h5 | ⟨g, cap, cur, e, h0, hg⟩
  · exact Or.inl h5
  · exact Or.inr ⟨g, cap, cur, e, Nat.le_trans hb h0, hg⟩
theorem TxsTo.weaken {W : World} {base base' : Nat} {tv : Value} {D : List (List (List Nat))} (h : TxsTo W base tv D) (hb : base' ≤ base) : TxsTo W base' tv D := by
  obtain ⟨us, h1, h2⟩ := h
  refine ⟨us, ?_, fun i hi => (h2 i hi).weaken hb⟩
  obtain ⟨h4, h5⟩ := h1
  refine ⟨h4, ?_⟩
  rcases h5 with h5 | ⟨g, cap, cur, e, h0, hg⟩
  · exact Or.inl h5
  · exact Or.inr ⟨g, cap, cur, e, Nat.le_trans hb h0, hg⟩
def logX (m : Pl) (i a : Nat) : List Nat := m.rd i (1 + a)
def logA (m : Pl) (n i S F a : Nat) : Bool := rdOk n (m.rd i (1 + a)) a S F
def logE (m : Pl) (n i S : Nat) (f : Int) (a : Nat) : Int := rdF f n (m.rd i (1 + a)) a S
/-- what a log tells -/
def logOf (m : Pl) (n i S F : Nat) : Option (List (List (List Nat)) × Nat) × Int := txsGo (logA m n i S F) (logX m i) (logE m n i S) 4200 0 [] 0
def logEr (T : Option (List (List (List Nat)) × Nat) × Int) : Int := if T.2 = 0 then (if T.1.isNone then 4 else 0) else T.2
theorem pL_lt (b : List Nat) (h : ∀ c ∈ b, c < 256) : pL b < 65536 := by
  unfold pL
  have h1 := Fr.Frame.val_lt ((((Fr.Frame.payOf b).drop 8).drop 1).take 2) (fun c hc => h c (Fr.Frame.payOf_mem b c (List.mem_of_mem_drop (List.mem_of_mem_drop (List.mem_of_mem_take hc)))))
  have h2 : ((((Fr.Frame.payOf b).drop 8).drop 1).take 2).length ≤ 2 := by rw [List.length_take]; omega
  have h3 := Nat.pow_le_pow_right (show 0 < 256 by decide) h2
  omega
theorem logA_lt {m : Pl} {n i S F a : Nat} (hn : n ≤ 4096) (h : logA m n i S F a = true) : a < 4096 := by
  unfold logA rdOk partIs at h
  simp only [Bool.and_eq_true, decide_eq_true_eq] at h
  have := h.1.1
  omega
set_option maxHeartbeats 4000000 in
set_option maxRecDepth 100000 in
theorem readLog_any {w : World} {c : Nat → Colour} {t g : Nat} {m : Pl} (h : Live w c t g m) {ds ts : List Nat} {i : Nat} (hd : DiskOn m ds ts i) (ht : Fr.TabIn w) (S F : Nat) :
    Calls Tryd.prog 30 #[ptr g, .int .i64 (i : Nat), .agg (headCells S F).toArray] w fun e w' => ∃ tv z, e = .returned (.tuple #[tv, .int .i64 z, .int .i64 (logEr (logOf m (ds.getD i 0) i S F))]) ∧ (logEr (logOf m (ds.getD i 0) i S F) = 0 → ∃ D used, (logOf m (ds.getD i 0) i S F).1 = some (D, used) ∧ z = ((used : Nat) : Int) ∧ used ≤ 4096 ∧ TxsTo w' w.heap.size tv D) ∧ Below w.heap.size w w' := by
  obtain ⟨n, hn⟩ : ∃ n, n = ds.getD i 0 := ⟨_, rfl⟩
  have h4096 : n ≤ 4096 := by rw [hn]; have := (h.2.1.sizes i (by have := hd.shape.n; have := hd.lt; unfold Pl.n at *; omega)).2; rw [(hd.shape.disk i hd.lt).2] at this; exact this
  have HX : Hid (∀ a, pL (logX m i a) < 65536) := fun a => pL_lt _ (Pl.rd_sec h.2.1 i (1 + a)).2
  have HA : Hid (∀ a, logA m n i S F a = true → a < 4096) := fun a ha => logA_lt h4096 ha
  obtain ⟨B0, hB0⟩ : ∃ B0, B0 = w.heap.size := ⟨_, rfl⟩
  have HB0 : Hid (B0 = w.heap.size) := hB0
  have HRD : Hid (∀ W B gp gd gh gf f0, Below B0 w W → B = W.heap.size → Boxes W B0 g i S F gp gd gh gf f0 → Reads W B gp gd gh gf (logA m n i S F) (logX m i) (logE m n i S)) := by
    intro W B gp gd gh gf f0 hb hB hx W1 f1 a1 ha ho hr
    rw [hB] at ho
    rw [hB0] at hb hx
    have hx1 : Boxes W1 w.heap.size g i S F gp gd gh gf f1 := ⟨ho.row (fun e => hx.2.2.2.2.2.2.2.2.1 e.symm) hx.1.lt hx.1, ho.row (fun e => hx.2.2.2.2.2.2.2.2.2.1 e.symm) hx.2.1.lt hx.2.1, ho.row (fun e => hx.2.2.2.2.2.2.2.2.2.2 e.symm) hx.2.2.1.lt hx.2.2.1, hr, hx.2.2.2.2⟩
    have hb1 : Below w.heap.size w W1 := hb.trans (ho.below hb.size hx.2.2.2.2.2.2.2.1)
    have hl := look_any h hd ht hb1 hx1 a1 ha
    rw [← hn] at hl
    exact hl
  obtain ⟨TT, hTT⟩ : ∃ TT, TT = logOf m n i S F := ⟨_, rfl⟩
  obtain ⟨er, her⟩ : ∃ er, er = logEr TT := ⟨_, rfl⟩
  have HER : Hid (er = logEr TT) := her
  have HTT : Hid (∀ W B gp gd gh gf, B = W.heap.size → Reads W B gp gd gh gf (logA m n i S F) (logX m i) (logE m n i S) → Row W gf 41 [.int .i64 0] → Calls Tryd.prog 53 #[rdV gp gd gh gf] W fun e w' => ∃ tv z ok, e = .returned (.tuple #[tv, .int .i64 z, .bool ok]) ∧ ((TT.1 = none ∧ ok = false) ∨ ∃ D used, TT.1 = some (D, used) ∧ ok = true ∧ z = ((used : Nat) : Int) ∧ used ≤ 4096 ∧ TxsTo w' B tv D) ∧ Row w' gf 41 [.int .i64 TT.2] ∧ OnlyG gf B W w') := by
    intro W B gp gd gh gf hB hR hf
    rw [hTT]
    subst hB
    exact transactions_any hR HX.out HA.out 0 hf
  rw [← hn, ← hTT, ← her]
  obtain ⟨PQ, hPQ⟩ : ∃ PQ : Ending → World → Prop, PQ = fun (e : Ending) (w' : World) => ∃ tv z, e = .returned (.tuple #[tv, .int .i64 z, .int .i64 er]) ∧ (er = 0 → ∃ D used, TT.1 = some (D, used) ∧ z = ((used : Nat) : Int) ∧ used ≤ 4096 ∧ TxsTo w' w.heap.size tv D) ∧ Below w.heap.size w w' := ⟨_, rfl⟩
  have HPQ : Hid (PQ = fun (e : Ending) (w' : World) => ∃ tv z, e = .returned (.tuple #[tv, .int .i64 z, .int .i64 er]) ∧ (er = 0 → ∃ D used, TT.1 = some (D, used) ∧ z = ((used : Nat) : Int) ∧ used ≤ 4096 ∧ TxsTo w' w.heap.size tv D) ∧ Below w.heap.size w w') := hPQ
  rw [← hPQ]
  clear hPQ hTT her hn h hd ht h4096 hB0
  obtain ⟨tn, tf⟩ := TT
  go_enter Tryd.func30, Tryd.ntmps30
  go_upto_region 0 with fail
  refine wp_region_lit ?_
  refine wpList_box1 (.tmp 0) rfl rfl (ptr g) rfl rfl ?_
  intro w1 r1 s1 b1
  rw [← HB0.out] at r1 s1 b1 ⊢
  simp only [Act.put, aS, aC, aZ]
  refine wpList_box1 (.tmp 1) rfl rfl (.int .i64 (i : Nat)) rfl rfl ?_
  intro w2 r2 s2 b2
  rw [s1] at r2 s2 b2 ⊢
  simp only [Act.put, aS, aC, aZ]
  refine wpList_box (.tmp 2) rfl rfl (headCells S F) rfl ?_
  intro w3 r3 s3 b3
  rw [s2] at r3 s3 b3 ⊢
  simp only [Act.put, aS, aC, aZ]
  have R3 : Hid (Row w3 B0 24 [ptr g] ∧ Row w3 (B0 + 1) 3 [.int .i64 (i : Nat)] ∧ Row w3 (B0 + 1 + 1) 63 (headCells S F) ∧ w3.heap.size = B0 + 1 + 1 + 1 ∧ Below B0 w w3) := ⟨(r1.later b2 (by omega)).later b3 (by omega), r2.later b3 (by omega), r3, s3, (b1.trans (b2.mono (by omega))).trans (b3.mono (by omega))⟩
  clear r1 r2 r3 s1 s2 s3 b1 b2 b3
  refine wl_as (.const (.slice none 0 0)) rfl rfl (.slice none 0 0) rfl ?_
  simp only [Act.put, aS, aC, aZ]
  refine wl_as (.const (.int .i64 0)) rfl rfl (.int .i64 0) rfl ?_
  simp only [Act.put, aS, aC, aZ]
  refine wl_as (.const (.int .i64 0)) rfl rfl (.int .i64 0) rfl ?_
  simp only [Act.put, aS, aC, aZ]
  refine wpList_nil ?_
  go_upto_region 1 with fail
  refine wp_region_lit ?_
  refine wpList_alloc46 rfl rfl ?_
  intro w4 r4 s4 b4
  rw [R3.out.2.2.2.1] at r4 s4 b4 ⊢
  simp only [Act.put, aS, aC, aZ]
  refine wpList_store1 size46 (.tmp 9) (.const (.int .i64 0)) rfl rfl rfl (B0 + 1 + 1 + 1) 0 41 rfl (.int .i64 0) [.int .i64 0] rfl rfl rfl r4 (by simp) ?_
  simp only [List.set_cons_zero]
  refine wpList_nil ?_
  have R5 : Hid (Boxes (w4.setRow (B0 + 1 + 1 + 1) [Value.int .i64 0].toArray) B0 g i S F B0 (B0 + 1) (B0 + 1 + 1) (B0 + 1 + 1 + 1) 0 ∧ (w4.setRow (B0 + 1 + 1 + 1) [Value.int .i64 0].toArray).heap.size = B0 + 4 ∧ Below B0 w (w4.setRow (B0 + 1 + 1 + 1) [Value.int .i64 0].toArray)) := by
    refine ⟨⟨(R3.out.1.later b4 (by omega)).setRow_other (by omega) _, (R3.out.2.1.later b4 (by omega)).setRow_other (by omega) _, (R3.out.2.2.1.later b4 (by omega)).setRow_other (by omega) _, r4.setRow _, by omega, by omega, by omega, by omega, by omega, by omega, by omega⟩, ?_, below_setRow (R3.out.2.2.2.2.trans (b4.mono (by omega))) (by omega) _⟩
    simp only [World.setRow]
    simp [s4]
  generalize w4.setRow (B0 + 1 + 1 + 1) [Value.int .i64 0].toArray = w5 at R5 ⊢
  clear r4 s4 b4 R3
  obtain ⟨gf, hgf⟩ : ∃ gf, gf = B0 + 1 + 1 + 1 := ⟨_, rfl⟩
  obtain ⟨gh, hgh⟩ : ∃ gh, gh = B0 + 1 + 1 := ⟨_, rfl⟩
  obtain ⟨gd, hgd⟩ : ∃ gd, gd = B0 + 1 := ⟨_, rfl⟩
  rw [← hgf, ← hgh, ← hgd] at R5 ⊢
  have HGF : Hid (B0 ≤ gf ∧ gf < B0 + 4) := ⟨by omega, by omega⟩
  clear hgf hgh hgd
  go_upto_region 2 with fail
  refine wp_region_lit ?_
  refine wl rfl (rdV B0 gd gh gf) w5 (by simp [execOp, Act.eval, Instr.makeFunc, rdV, ptr]) ?_
  simp only [Act.put, aS, aC, aZ]
  refine wl_as (.tmp 14) rfl rfl (rdV B0 gd gh gf) rfl ?_
  simp only [Act.put, aS, aC, aZ]
  refine wpList_nil ?_
  go_upto_region 3 with fail
  refine wp_region_lit ?_
  refine wl_mv (.tmp 10) rfl rfl (rdV B0 gd gh gf) rfl ?_
  simp only [Act.put, aS, aC, aZ]
  refine wpList_callF eN67 [.tmp 16] _ rfl rfl [rdV B0 gd gh gf] rfl ?_
  refine (HTT.out w5 (B0 + 4) B0 gd gh gf R5.out.2.1.symm (HRD.out w5 (B0 + 4) B0 gd gh gf 0 R5.out.2.2 R5.out.2.1.symm R5.out.1) R5.out.1.2.2.2.1).mono ?_
  rintro e w6 ⟨tv, z, ok, rfl, hc, hf6, o6⟩
  refine ⟨_, rfl, ?_⟩
  have R6 : Hid ((((tn : Option (List (List (List Nat)) × Nat)) = none ∧ ok = false) ∨ ∃ D used, tn = some (D, used) ∧ ok = true ∧ z = ((used : Nat) : Int) ∧ used ≤ 4096 ∧ TxsTo w6 (B0 + 4) tv D) ∧ Row w6 gf 41 [.int .i64 tf] ∧ Below B0 w w6) := ⟨hc, hf6, R5.out.2.2.trans (o6.below (by omega) HGF.out.1)⟩
  clear hc hf6 o6 R5 HTT HRD
  simp only [Act.put, aS, aC, aZ]
  refine wl_mv (.tmp 17) rfl rfl (.tuple #[tv, .int .i64 z, .bool ok]) rfl ?_
  simp only [Act.put, aS, aC, aZ]
  refine wl rfl tv w6 (by simp [execOp, Act.eval, Instr.extract]) ?_
  simp only [Act.put, aS, aC, aZ]
  refine wl rfl (.int .i64 z) w6 (by simp [execOp, Act.eval, Instr.extract]) ?_
  simp only [Act.put, aS, aC, aZ]
  refine wl rfl (.bool ok) w6 (by simp [execOp, Act.eval, Instr.extract]) ?_
  simp only [Act.put, aS, aC, aZ]
  refine wl_as (.tmp 18) rfl rfl tv rfl ?_
  simp only [Act.put, aS, aC, aZ]
  refine wl_as (.tmp 19) rfl rfl (.int .i64 z) rfl ?_
  simp only [Act.put, aS, aC, aZ]
  refine wl_as (.tmp 20) rfl rfl (.bool ok) rfl ?_
  simp only [Act.put, aS, aC, aZ]
  refine wpList_nil ?_
  have k0 := R6.out.2.1.at 0 _ rfl
  by_cases hf0 : tf = 0
  · subst hf0
    cases ok with
    | false =>
      have he : er = 4 := by
        rw [HER.out]
        unfold logEr
        rcases R6.out.1 with h | ⟨D, used, h1, h2, _⟩
        · rw [h.1]; rfl
        · exact absurd h2 (by decide)
      subst he
      go_wp2_with fail
      go_ret3
      rw [HPQ.out]
      exact ⟨_, _, rfl, fun h => absurd h (by decide), by rw [← HB0.out]; exact R6.out.2.2⟩
    | true =>
      have he : er = 0 := by
        rw [HER.out]
        unfold logEr
        rcases R6.out.1 with h | ⟨D, used, h1, h2, _⟩
        · exact absurd h.2 (by decide)
        · rw [h1]; rfl
      subst he
      go_wp2_with fail
      go_ret3
      rw [HPQ.out]
      refine ⟨tv, z, rfl, fun _ => ?_, by rw [← HB0.out]; exact R6.out.2.2⟩
      rcases R6.out.1 with h | ⟨D, used, h1, _, h3, h4, h5⟩
      · exact absurd h.2 (by decide)
      · exact ⟨D, used, h1, h3, h4, h5.weaken (by rw [← HB0.out]; omega)⟩
  · have t2 : (tf != 0) = true := by simp [hf0]
    have t3 : decide (tf = 0) = false := decide_eq_false hf0
    have t4 : (tf == 0) = false := by simp [hf0]
    have he : er = tf := by rw [HER.out]; unfold logEr; rw [if_neg hf0]
    have HE : Hid (er = tf ∧ er ≠ 0) := ⟨he, by rw [he]; exact hf0⟩
    clear he
    go_upto_region 5 with fail
    refine wp_region_held (S := fun X => Row X gf 41 [.int .i64 tf]) (by kernel_rfl) ?_
    show wpAnyH _ _ _ _ _ 4 (Array.replicate 4 false) _ _
    obtain ⟨X, hX⟩ : ∃ X : World, X = { w6 with drawn := w6.drawn + 1 } := ⟨_, rfl⟩
    rw [← hX]
    have hbX : Below w6.heap.size w6 X := by rw [hX]; exact ⟨rfl, rfl, rfl, Nat.le_refl _, fun _ _ => rfl⟩
    have RX : Hid (Row X gf 41 [.int .i64 tf] ∧ Below B0 w X) := ⟨R6.out.2.1.later hbX R6.out.2.1.lt, R6.out.2.2.trans (hbX.mono (by have := R6.out.2.1.lt; have := HGF.out.1; omega))⟩
    have hS0 := RX.out.1
    clear hX hbX k0
    refine takeH (i := 0) (some 24) rfl rfl (by kernel_rfl) (by kernel_rfl) (by kernel_rfl) (fun _ _ _ h => h) (gLoad o46 rfl (.tmp 9) rfl gf 0 rfl (.int .i64 tf) (fun _ h => h.at 0 _ rfl)) hS0 ?_
    simp only [Act.put, aS, aC, aZ]
    refine takeH (i := 1) (some 6) rfl rfl (by kernel_rfl) (by kernel_rfl) (by kernel_rfl) (fun _ _ _ h => h) (gAssign rfl (.const (.slice none 0 0)) rfl (.slice none 0 0) rfl) hS0 ?_
    simp only [Act.put, aS, aC, aZ]
    refine takeH (i := 2) (some 7) rfl rfl (by kernel_rfl) (by kernel_rfl) (by kernel_rfl) (fun _ _ _ h => h) (gAssign rfl (.const (.int .i64 0)) rfl (.int .i64 0) rfl) hS0 ?_
    simp only [Act.put, aS, aC, aZ]
    refine takeH (i := 3) (some 8) rfl rfl (by kernel_rfl) (by kernel_rfl) (by kernel_rfl) (fun _ _ _ h => h) (gAssign rfl (.tmp 24) rfl (.int .i64 tf) rfl) hS0 ?_
    simp only [Act.put, aS, aC, aZ]
    refine wpAnyH_done (by kernel_rfl) ?_ _
    clear hS0
    go_wp2_with fail
    go_ret3
    rw [HPQ.out]
    exact ⟨_, _, by rw [HE.out.1]; rfl, fun h => absurd h HE.out.2, by rw [← HB0.out]; exact RX.out.2⟩
end Go.Proofs.YtebalanfagglnaaDoor

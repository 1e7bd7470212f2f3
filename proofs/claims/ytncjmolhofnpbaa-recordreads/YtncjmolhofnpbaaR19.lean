/- Records held against one another. -/
import Derived.Test.YtncjmolhofnpbaaR18
namespace Go.Proofs.Ytncjmolhofnpbaa
open Go.RowKit

/-- a hash -/
def IsH (h : List Nat) : Prop := h.length = 32 ∧ ∀ c ∈ h, c < 256
theorem heql (a b : List Nat) (ha : IsH a) (hb : IsH b) (W : World) : (Op.equalIn 10000 23 (.agg (bcells a).toArray) (.agg (bcells b).toArray)).run Try.prog W = .ok (decide (a = b)) W := by
  obtain ⟨i, hi, hsz⟩ := Option.map_eq_some_iff.1 info5
  have key : ∀ (c : List Nat) (_ : IsH c) j, j < 32 → ((part 5 (bcells c).toArray (j * i.size)).run Try.prog W = .ok (.int .u8 (c.getD j 0 : Nat)) W) := by
    intro c hc j hj
    have := bcells_at c j (by rw [hc.1]; exact hj)
    simp [part, isAgg, run_underlying Try.underlying5, this, hsz]
  have e : (10000 : Nat) = 9998 + 1 + 1 := rfl
  have hs5 : (sizeOf 5).run Try.prog W = .ok i.size W := by simp [sizeOf, typeInfo, hi]
  have hq : ∀ x y : Nat, (Op.equalIn (9998 + 1) 5 (.int .u8 (x : Nat)) (.int .u8 (y : Nat))).run Try.prog W = .ok (decide (x = y)) W := fun x y => by
    rw [run_equalIn_int W 9998 5 .u8 .u8 x y Try.underlying5]
    by_cases h : x = y
    · subst h; simp
    · have : ¬ (x : Int) = (y : Int) := by omega
      simp only [h, decide_false]
      simp [this]
  have hdec : decide (a = b) = decide (∀ j ∈ List.range' 0 32 1, a.getD j 0 = b.getD j 0) := by
    rw [decide_eq_decide]
    constructor
    · rintro rfl j _; rfl
    · intro h
      refine List.ext_getElem (by rw [ha.1, hb.1]) fun j h1 h2 => ?_
      have := h j (List.mem_range'_1.2 ⟨Nat.zero_le _, by rw [ha.1] at h1; omega⟩)
      simpa [h1, h2] using this
  rw [e, Op.equalIn]
  simp only [Sem.run_bind, run_underlying Try.underlying23, Result.andThen_ok, hs5, Std.Legacy.Range.forIn_eq_forIn_range']
  have hL : ∀ j ∈ List.range' 0 32 1, j < 32 := by
    intro j hj
    have := (List.mem_range'_1.1 hj).2
    omega
  rw [hdec]
  clear hdec
  show Result.andThen (Sem.run Try.prog (forIn (List.range' 0 32 1) _ _) W) _ = _
  generalize List.range' 0 32 1 = L at hL ⊢
  induction L with
  | nil => simp
  | cons j L ih =>
    have hj := hL j (by simp)
    have hka := key a ha j hj
    have hkb := key b hb j hj
    have ih' := ih (fun x hx => hL x (by simp [hx]))
    simp only [List.forIn_cons, Sem.run_bind, hka, hkb, Result.andThen_ok, hq]
    by_cases h : a.getD j 0 = b.getD j 0
    · simp only [h, decide_true, Bool.not_true, Bool.false_eq_true, if_false, Sem.run_pure, Result.andThen_ok]
      have e2 : decide (∀ x ∈ j :: L, a.getD x 0 = b.getD x 0) = decide (∀ x ∈ L, a.getD x 0 = b.getD x 0) := by
        rw [decide_eq_decide]
        constructor
        · intro hh x hx; exact hh x (List.mem_cons_of_mem _ hx)
        · intro hh x hx
          rcases List.mem_cons.1 hx with rfl | hx
          · exact h
          · exact hh x hx
      rw [e2]
      exact ih'
    · have e2 : decide (∀ x ∈ j :: L, a.getD x 0 = b.getD x 0) = false := by
        rw [decide_eq_false_iff_not]
        intro hh
        exact h (hh j (List.mem_cons_self ..))
      rw [e2]
      simp only [h, decide_false, Bool.not_false, if_true, Sem.run_pure, Result.andThen_ok]
theorem str_same {sx sy : ByteArray} {b : Bool} (h : decide (sx = sy) = b) : (sx.toList == sy.toList) = b := by
  rw [← h, Bool.eq_iff_iff, beq_iff_eq, decide_eq_true_iff, ByteArray.toList_eq, ByteArray.toList_eq]
  constructor
  · intro h
    obtain ⟨⟨l⟩⟩ := sx
    obtain ⟨⟨m⟩⟩ := sy
    have h' : l = m := h
    rw [h']
  · intro h
    rw [h]
section
variable {w : World} {a : Act} {o : Oper}
theorem rx_seq (x y : Operand) (ho : o.op = .binOp .eql 9 x y 9) (xs ys : List Nat) (hx : a.eval x = str xs) (hy : a.eval y = str ys) (hbx : ∀ c ∈ xs, c < 256) (hby : ∀ c ∈ ys, c < 256) (b : Bool) (hb : decide (xs = ys) = b) : (execOp a.eval o).run Try.prog w = .ok (.value (.bool b)) w := by
  have e : decide (strOfNums (xs.map Int.ofNat) = strOfNums (ys.map Int.ofNat)) = b := by rw [← hb, Bool.eq_iff_iff, decide_eq_true_iff, decide_eq_true_iff]; exact Fr.str_inj hbx hby
  have e' := str_same e
  unfold str at hx hy
  generalize strOfNums (xs.map Int.ofNat) = sx at *
  generalize strOfNums (ys.map Int.ofNat) = sy at *
  simp only [execOp, ho, hx, hy]
  simp [go_sem]
  exact e'
theorem rx_sne (x y : Operand) (ho : o.op = .binOp .neq 9 x y 9) (xs ys : List Nat) (hx : a.eval x = str xs) (hy : a.eval y = str ys) (hbx : ∀ c ∈ xs, c < 256) (hby : ∀ c ∈ ys, c < 256) (b : Bool) (hb : decide (xs = ys) = b) : (execOp a.eval o).run Try.prog w = .ok (.value (.bool (!b))) w := by
  have e : decide (strOfNums (xs.map Int.ofNat) = strOfNums (ys.map Int.ofNat)) = b := by rw [← hb, Bool.eq_iff_iff, decide_eq_true_iff, decide_eq_true_iff]; exact Fr.str_inj hbx hby
  have e' := str_same e
  unfold str at hx hy
  generalize strOfNums (xs.map Int.ofNat) = sx at *
  generalize strOfNums (ys.map Int.ofNat) = sy at *
  simp only [execOp, ho, hx, hy]
  simp [go_sem]
  rw [e']
theorem rx_eqH (x y : Operand) (ho : o.op = .binOp .eql 23 x y 23) (h h' : List Nat) (hh : IsH h) (hh' : IsH h') (hx : a.eval x = .agg (bcells h).toArray) (hy : a.eval y = .agg (bcells h').toArray) (b : Bool) (hb : decide (h = h') = b) : (execOp a.eval o).run Try.prog w = .ok (.value (.bool b)) w := by
  subst hb
  have hm : Try.prog.eqGuardType Try.prog.depth 23 = false := by kernel_rfl
  have he := heql h h' hh hh' w
  simp [execOp, ho, hx, hy, run_eqGuard_agg w .eql 23 x y _ _ hm, run_eql_struct w 23, he]
theorem rx_neH (x y : Operand) (ho : o.op = .binOp .neq 23 x y 23) (h h' : List Nat) (hh : IsH h) (hh' : IsH h') (hx : a.eval x = .agg (bcells h).toArray) (hy : a.eval y = .agg (bcells h').toArray) (b : Bool) (hb : (!decide (h = h')) = b) : (execOp a.eval o).run Try.prog w = .ok (.value (.bool b)) w := by
  subst hb
  have hm : Try.prog.eqGuardType Try.prog.depth 23 = false := by kernel_rfl
  have he := heql h h' hh hh' w
  simp [execOp, ho, hx, hy, run_eqGuard_agg w .neq 23 x y _ _ hm, run_neq_struct w 23, he]
end
theorem eqPc (p q : Pc) (w : World) : (Op.equalIn 10000 43 (.agg (pcells p).toArray) (.agg (pcells q).toArray)).run Try.prog w = .ok ((p.dev == q.dev) && ((p.pl == q.pl) && ((p.len == q.len) && (p.bad == q.bad)))) w := by
  have hu : Try.prog.underlying 43 = some (.struct (Try.prog.fieldsOf 43)) := by kernel_rfl
  have hp : Try.prog.stoodInHeld 43 = false := by kernel_rfl
  rw [show (10000 : Nat) = 9998 + 1 + 1 from rfl, run_equalIn_struct w (9998 + 1) 43 _ _ hu hp]
  have h3 := fun (x y : Int) => run_equalIn_int (P := Try.prog) w 9998 3 .i64 .i64 x y Try.underlying3
  have h4 := fun (x y : Bool) => run_equalIn_bool (P := Try.prog) w 9998 4 x y Try.underlying4
  have hl : (Try.prog.fieldsOf 43).toList = [{ name := "Dev", type := 3, offset := 0, embedded := false, tag := "", pkgPath := "", byteOffset := 0 }, { name := "At", type := 3, offset := 1, embedded := false, tag := "", pkgPath := "", byteOffset := 8 }, { name := "Len", type := 3, offset := 2, embedded := false, tag := "", pkgPath := "", byteOffset := 16 }, { name := "Bad", type := 4, offset := 3, embedded := false, tag := "", pkgPath := "", byteOffset := 24 }] := by kernel_rfl
  rw [hl]
  simp [Op.eqFields, part, isAgg, run_underlying Try.underlying3, run_underlying Try.underlying4, pcells, h3, h4]
  by_cases e1 : p.dev = q.dev <;> by_cases e2 : p.pl = q.pl <;> by_cases e3 : p.len = q.len <;> cases p.bad <;> cases q.bad <;> simp [e1, e2, e3]
def pcEq (p q : Pc) : Bool := (p.dev == q.dev) && ((p.pl == q.pl) && ((p.len == q.len) && (p.bad == q.bad)))
theorem pcEq_iff (p q : Pc) : pcEq p q = true ↔ p = q := by
  cases p; cases q
  simp [pcEq]
theorem rx_nePc {w : World} {a : Act} {o : Oper} (x y : Operand) (ho : o.op = .binOp .neq 43 x y 43) (p q : Pc) (hx : a.eval x = .agg (pcells p).toArray) (hy : a.eval y = .agg (pcells q).toArray) (b : Bool) (hb : (!pcEq p q) = b) : (execOp a.eval o).run Try.prog w = .ok (.value (.bool b)) w := by
  subst hb
  have hm : Try.prog.eqGuardType Try.prog.depth 43 = false := by kernel_rfl
  have he := eqPc p q w
  simp only [execOp, ho, hx, hy, run_eqGuard_agg w .neq 43 x y _ _ hm, run_neq_struct w 43, he, Sem.run_bind, Sem.run_pure, Result.andThen_ok]
  rfl
theorem rx_eqBool {w : World} {a : Act} {o : Oper} (x y : Operand) (ho : o.op = .binOp .eql 4 x y 4) (p q : Bool) (hx : a.eval x = .bool p) (hy : a.eval y = .bool q) (b : Bool) (hb : decide (p = q) = b) : (execOp a.eval o).run Try.prog w = .ok (.value (.bool b)) w := by
  subst hb
  simp only [execOp, ho, hx, hy]
  cases p <;> cases q <;> rfl
theorem Fits.isH {w : World} {r : Rc} {vc : Value} (h : Fits w r vc) : IsH r.root := ⟨h.root, h.bytes⟩
theorem rc_ext (x y : Rc) (h1 : x.id = y.id) (h2 : x.length = y.length) (h3 : x.root = y.root) (h4 : x.index = y.index) (h5 : x.expiry = y.expiry) (h6 : x.hold = y.hold) (h7 : x.gone = y.gone) (h8 : x.cp = y.cp) : x = y := by
  cases x; cases y
  simp_all
set_option maxHeartbeats 4000000 in
theorem same_any (x y : Rc) (vx vy : Value) (w : World) (hfx : Fits w x vx) (hfy : Fits w y vy) : Calls Try.prog 17 #[.agg (rcells x vx).toArray, .agg (rcells y vy).toArray] w fun e w' => ∃ s, e = .returned (.bool s) ∧ (s = true ↔ x = y) ∧ Below w.heap.size w w' := by
  have HX : Hid (Fits w x vx) := hfx
  have HY : Hid (Fits w y vy) := hfy
  clear hfx hfy
  obtain ⟨PQ, HPQ⟩ : ∃ PQ : Ending → World → Prop, Hid (PQ = fun e w' => ∃ s, e = .returned (.bool s) ∧ (s = true ↔ x = y) ∧ Below w.heap.size w w') := ⟨_, rfl⟩
  rw [← HPQ.out]
  obtain ⟨n, hn⟩ : ∃ n, n = x.cp.length := ⟨_, rfl⟩
  obtain ⟨m, hm⟩ : ∃ m, m = y.cp.length := ⟨_, rfl⟩
  have HN : Hid (n = x.cp.length ∧ m = y.cp.length ∧ n ≤ 9223372036854775807) := ⟨hn, hm, by rw [hn]; obtain ⟨p, c, _, h, _⟩ := HX.out.cp; exact h.2⟩
  clear hn hm
  have R0 : Hid (Loc w w []) := Loc.nil (Below.refl _ w)
  go_enter Try.func17, Try.ntmps17
  go_upto_region 0 with fail
  refine wp_region_lit ?_
  refine wl rfl (ptr w.heap.size) _ (run_boxA (.tmp 0) rfl (rcells x vx) rfl) ?_
  have k_ := R0.out.box 26 (rcells x vx)
  obtain ⟨w1, hW_⟩ : ∃ W, W = w.alloc (.cells (rcells x vx).toArray 26) := ⟨_, rfl⟩
  obtain ⟨qx, hq_⟩ : ∃ q, q = w.heap.size := ⟨_, rfl⟩
  rw [← hW_, ← hq_] at k_
  rw [← hW_, ← hq_]
  clear hq_
  have Rw1 : Hid (Loc w w1 [(qx, 26, rcells x vx)]) := k_
  clear k_ hW_ R0
  simp only [Act.put, List.setIfInBounds_toArray, List.set_cons_succ, List.set_cons_zero]
  refine wl rfl (ptr w1.heap.size) _ (run_boxA (.tmp 1) rfl (rcells y vy) rfl) ?_
  have k_ := Rw1.out.box 26 (rcells y vy)
  obtain ⟨w2, hW_⟩ : ∃ W, W = w1.alloc (.cells (rcells y vy).toArray 26) := ⟨_, rfl⟩
  obtain ⟨qy, hq_⟩ : ∃ q, q = w1.heap.size := ⟨_, rfl⟩
  rw [← hW_, ← hq_] at k_
  rw [← hW_, ← hq_]
  clear hq_
  have Rw2 : Hid (Loc w w2 [(qx, 26, rcells x vx), (qy, 26, rcells y vy)]) := k_
  clear k_ hW_ Rw1
  simp only [Act.put, List.setIfInBounds_toArray, List.set_cons_succ, List.set_cons_zero]
  refine wl rfl (.bool false) _ (run_asZ (.const (.bool false)) rfl (.bool false) rfl) ?_
  simp only [Act.put, List.setIfInBounds_toArray, List.set_cons_succ, List.set_cons_zero]
  refine wpList_nil ?_
  go_upto_region 1 with fail
  refine wp_region_lit ?_
  refine wl rfl (.pointer (some ⟨qx, 0 + 38, none⟩)) _ (run_fieldOp' f26_7 (.tmp 2) rfl qx (0) rfl) ?_
  simp only [Act.put, List.setIfInBounds_toArray, List.set_cons_succ, List.set_cons_zero]
  refine wl rfl vx _ (run_load1 o24 (.tmp 6) rfl qx (0 + 38) rfl vx ((Rw2.out.at 0 rfl).at 38 _ (rcB vx HX.out.root 4))) ?_
  simp only [Act.put, List.setIfInBounds_toArray, List.set_cons_succ, List.set_cons_zero]
  refine wl rfl (.int .i64 (n : Nat)) _ (run_lenPn HX.out.cp HN.out.1 (.tmp 7) rfl rfl) ?_
  simp only [Act.put, List.setIfInBounds_toArray, List.set_cons_succ, List.set_cons_zero]
  refine wl rfl (.pointer (some ⟨qy, 0 + 38, none⟩)) _ (run_fieldOp' f26_7 (.tmp 3) rfl qy (0) rfl) ?_
  simp only [Act.put, List.setIfInBounds_toArray, List.set_cons_succ, List.set_cons_zero]
  refine wl rfl vy _ (run_load1 o24 (.tmp 9) rfl qy (0 + 38) rfl vy ((Rw2.out.at 1 rfl).at 38 _ (rcB vy HY.out.root 4))) ?_
  simp only [Act.put, List.setIfInBounds_toArray, List.set_cons_succ, List.set_cons_zero]
  refine wl rfl (.int .i64 (m : Nat)) _ (run_lenPn HY.out.cp HN.out.2.1 (.tmp 10) rfl rfl) ?_
  simp only [Act.put, List.setIfInBounds_toArray, List.set_cons_succ, List.set_cons_zero]
  refine wl rfl (.bool (!decide (n = m))) _ (run_neZ (.tmp 8) (.tmp 11) rfl (n : Nat) (m : Nat) rfl rfl _ (by rw [Bool.eq_iff_iff]; simp; omega)) ?_
  simp only [Act.put, List.setIfInBounds_toArray, List.set_cons_succ, List.set_cons_zero]
  refine wpList_nil ?_
  by_cases hnm : n = m
  case neg =>
    have t1 : (!decide (n = m)) = true := (by simp [hnm])
    rw [t1]
    go_wp2_with fail
    rw [HPQ.out]
    exact ⟨false, rfl, ⟨fun h => absurd h (by decide), fun h => absurd (by rw [HN.out.1, HN.out.2.1, h]) hnm⟩, Rw2.out.below⟩
  have t1 : (!decide (n = m)) = false := (by simp [hnm])
  rw [t1]
  have HNM : Hid (n = m) := hnm
  clear t1 hnm
  go_upto_region 3 with fail
  refine wp_region_lit ?_
  refine wl rfl (.int .i64 0) _ (run_asZ (.const (.int .i64 0)) rfl (.int .i64 0) rfl) ?_
  simp only [Act.put, List.setIfInBounds_toArray, List.set_cons_succ, List.set_cons_zero]
  refine wpList_nil ?_
  have RX : Hid (Loc w w2 [(qx, 26, rcells x vx), (qy, 26, rcells y vy)]) := Rw2.out
  clear Rw2
  go_wp2_with fail
  go_loopw [5] (fun vk W => ∃ k : Nat, vk = .int .i64 (k : Nat) ∧ k ≤ n ∧ x.cp.take k = y.cp.take k ∧ Loc w W [(qx, 26, rcells x vx), (qy, 26, rcells y vy)]) (fun vk _ => n - (intOf vk).toNat)
  case atStart => exact ⟨0, rfl, Nat.zero_le _, rfl, RX.out⟩
  case round =>
    obtain ⟨k, rfl, hk, ha, hw⟩ := hrel
    have HA : Hid (x.cp.take k = y.cp.take k) := ha
    have Rw2 : Hid (Loc w wr [(qx, 26, rcells x vx), (qy, 26, rcells y vy)]) := hw
    clear ha hw RX
    have h63 : n ≤ 9223372036854775807 := HN.out.2.2
    go_upto_region 4 with fail
    refine wp_region_lit ?_
    refine wl rfl (.int .i64 (k : Nat)) _ (run_mvZ (.tmp 5) rfl (.int .i64 (k : Nat)) rfl) ?_
    simp only [Act.put, List.setIfInBounds_toArray, List.set_cons_succ, List.set_cons_zero]
    refine wl rfl (.pointer (some ⟨qx, 0 + 38, none⟩)) _ (run_fieldOp' f26_7 (.tmp 2) rfl qx (0) rfl) ?_
    simp only [Act.put, List.setIfInBounds_toArray, List.set_cons_succ, List.set_cons_zero]
    refine wl rfl vx _ (run_load1 o24 (.tmp 14) rfl qx (0 + 38) rfl vx ((Rw2.out.at 0 rfl).at 38 _ (rcB vx HX.out.root 4))) ?_
    simp only [Act.put, List.setIfInBounds_toArray, List.set_cons_succ, List.set_cons_zero]
    refine wl rfl (.int .i64 (n : Nat)) _ (run_lenPn HX.out.cp HN.out.1 (.tmp 15) rfl rfl) ?_
    simp only [Act.put, List.setIfInBounds_toArray, List.set_cons_succ, List.set_cons_zero]
    refine wl rfl (.bool (decide ((k : Int) < (n : Int)))) _ (run_lssZ (.tmp 13) (.tmp 16) rfl (k : Nat) (n : Nat) rfl rfl _ rfl) ?_
    simp only [Act.put, List.setIfInBounds_toArray, List.set_cons_succ, List.set_cons_zero]
    refine wpList_nil ?_
    by_cases hlt : k < n
    · have t1 : decide ((k : Int) < (n : Int)) = true := decide_eq_true (by omega)
      rw [t1]
      clear t1
      obtain ⟨p, hp⟩ : ∃ p, x.cp[k]? = some p := ⟨_, List.getElem?_eq_getElem (by rw [← HN.out.1]; exact hlt)⟩
      obtain ⟨p', hp'⟩ : ∃ p, y.cp[k]? = some p := ⟨_, List.getElem?_eq_getElem (by rw [← HN.out.2.1, ← HNM.out]; exact hlt)⟩
      obtain ⟨b, off, hx, hc⟩ := ix_place (HX.out.cp.later Rw2.out.below) k p hp
      obtain ⟨b', off', hx', hc'⟩ := ix_place (HY.out.cp.later Rw2.out.below) k p' hp'
      have HI : Hid ((∀ w', (Instr.indexAt 24 vx (.int .i64 (k : Nat))).run Try.prog w' = .ok (.pointer (some ⟨b, off, none⟩)) w') ∧ (∀ w', (Instr.indexAt 24 vy (.int .i64 (k : Nat))).run Try.prog w' = .ok (.pointer (some ⟨b', off', none⟩)) w') ∧ x.cp[k]? = some p ∧ y.cp[k]? = some p') := ⟨hx, hx', hp, hp'⟩
      have HC : Hid ((∀ j u, (pcells p)[j]? = some u → wr.cell? ⟨b, off + j, none⟩ = some u) ∧ (∀ j u, (pcells p')[j]? = some u → wr.cell? ⟨b', off' + j, none⟩ = some u)) := ⟨hc, hc'⟩
      clear hx hc hp hx' hc' hp'
      obtain ⟨pe, hpe⟩ : ∃ pe, pe = pcEq p p' := ⟨_, rfl⟩
      have HPE : Hid (pe = pcEq p p') := hpe
      clear hpe
      go_upto_region 6 with fail
      refine wp_region_held (S := fun X => Loc w X [(qx, 26, rcells x vx), (qy, 26, rcells y vy)] ∧ (∀ j u, (pcells p)[j]? = some u → X.cell? ⟨b, off + j, none⟩ = some u) ∧ (∀ j u, (pcells p')[j]? = some u → X.cell? ⟨b', off' + j, none⟩ = some u)) (by kernel_rfl) ?_
      show wpAnyH _ _ _ _ _ 11 (Array.replicate 11 false) _ _
      obtain ⟨X, hX⟩ : ∃ X : World, X = { wr with drawn := wr.drawn + 1 } := ⟨_, rfl⟩
      rw [← hX]
      have hS : Loc w X [(qx, 26, rcells x vx), (qy, 26, rcells y vy)] ∧ (∀ j u, (pcells p)[j]? = some u → X.cell? ⟨b, off + j, none⟩ = some u) ∧ (∀ j u, (pcells p')[j]? = some u → X.cell? ⟨b', off' + j, none⟩ = some u) := (by rw [hX]; exact ⟨Rw2.out.drew, HC.out.1, HC.out.2⟩)
      clear Rw2 HC
      clear hX
      refine takeH (i := 0) (some 20) rfl rfl (by kernel_rfl) (by kernel_rfl) (by kernel_rfl) (fun _ _ _ h => h) (gRun rfl (.pointer (some ⟨qx, 0 + 38, none⟩)) fun _ h => run_fieldOp' f26_7 (.tmp 2) rfl qx (0) rfl) hS ?_
      simp only [Act.put, List.setIfInBounds_toArray, List.set_cons_succ, List.set_cons_zero]
      refine takeH (i := 1) (some 21) rfl rfl (by kernel_rfl) (by kernel_rfl) (by kernel_rfl) (fun _ _ _ h => h) (gRun rfl vx fun _ h => run_load1 o24 (.tmp 20) rfl qx (0 + 38) rfl vx ((h.1.at 0 rfl).at 38 _ (rcB vx HX.out.root 4))) hS ?_
      simp only [Act.put, List.setIfInBounds_toArray, List.set_cons_succ, List.set_cons_zero]
      refine takeH (i := 2) (some 22) rfl rfl (by kernel_rfl) (by kernel_rfl) (by kernel_rfl) (fun _ _ _ h => h) (gRun rfl (.int .i64 (k : Nat)) fun _ h => run_mvZ (.tmp 5) rfl (.int .i64 (k : Nat)) rfl) hS ?_
      simp only [Act.put, List.setIfInBounds_toArray, List.set_cons_succ, List.set_cons_zero]
      refine takeH (i := 3) (some 23) rfl rfl (by kernel_rfl) (by kernel_rfl) (by kernel_rfl) (fun _ _ _ h => h) (gRun rfl (.pointer (some ⟨b, off, none⟩)) fun _ h => run_idx (.tmp 21) (.tmp 22) rfl vx _ _ rfl rfl HI.out.1) hS ?_
      simp only [Act.put, List.setIfInBounds_toArray, List.set_cons_succ, List.set_cons_zero]
      refine takeH (i := 4) (some 24) rfl rfl (by kernel_rfl) (by kernel_rfl) (by kernel_rfl) (fun _ _ _ h => h) (gRun rfl (.agg (pcells p).toArray) fun _ h => run_loadA ag43 (.tmp 23) rfl b (off) rfl (pcells p) rfl h.2.1) hS ?_
      simp only [Act.put, List.setIfInBounds_toArray, List.set_cons_succ, List.set_cons_zero]
      refine takeH (i := 5) (some 25) rfl rfl (by kernel_rfl) (by kernel_rfl) (by kernel_rfl) (fun _ _ _ h => h) (gRun rfl (.pointer (some ⟨qy, 0 + 38, none⟩)) fun _ h => run_fieldOp' f26_7 (.tmp 3) rfl qy (0) rfl) hS ?_
      simp only [Act.put, List.setIfInBounds_toArray, List.set_cons_succ, List.set_cons_zero]
      refine takeH (i := 6) (some 26) rfl rfl (by kernel_rfl) (by kernel_rfl) (by kernel_rfl) (fun _ _ _ h => h) (gRun rfl vy fun _ h => run_load1 o24 (.tmp 25) rfl qy (0 + 38) rfl vy ((h.1.at 1 rfl).at 38 _ (rcB vy HY.out.root 4))) hS ?_
      simp only [Act.put, List.setIfInBounds_toArray, List.set_cons_succ, List.set_cons_zero]
      refine takeH (i := 7) (some 27) rfl rfl (by kernel_rfl) (by kernel_rfl) (by kernel_rfl) (fun _ _ _ h => h) (gRun rfl (.int .i64 (k : Nat)) fun _ h => run_mvZ (.tmp 5) rfl (.int .i64 (k : Nat)) rfl) hS ?_
      simp only [Act.put, List.setIfInBounds_toArray, List.set_cons_succ, List.set_cons_zero]
      refine takeH (i := 8) (some 28) rfl rfl (by kernel_rfl) (by kernel_rfl) (by kernel_rfl) (fun _ _ _ h => h) (gRun rfl (.pointer (some ⟨b', off', none⟩)) fun _ h => run_idx (.tmp 26) (.tmp 27) rfl vy _ _ rfl rfl HI.out.2.1) hS ?_
      simp only [Act.put, List.setIfInBounds_toArray, List.set_cons_succ, List.set_cons_zero]
      refine takeH (i := 9) (some 29) rfl rfl (by kernel_rfl) (by kernel_rfl) (by kernel_rfl) (fun _ _ _ h => h) (gRun rfl (.agg (pcells p').toArray) fun _ h => run_loadA ag43 (.tmp 28) rfl b' (off') rfl (pcells p') rfl h.2.2) hS ?_
      simp only [Act.put, List.setIfInBounds_toArray, List.set_cons_succ, List.set_cons_zero]
      refine takeH (i := 10) (some 30) rfl rfl (by kernel_rfl) (by kernel_rfl) (by kernel_rfl) (fun _ _ _ h => h) (gRun rfl (.bool (!pe)) fun _ h => rx_nePc (.tmp 24) (.tmp 29) rfl p p' rfl rfl _ (by rw [HPE.out])) hS ?_
      simp only [Act.put, List.setIfInBounds_toArray, List.set_cons_succ, List.set_cons_zero]
      refine wpAnyH_done (by kernel_rfl) ?_ _
      have RL : Hid (Loc w X [(qx, 26, rcells x vx), (qy, 26, rcells y vy)]) := hS.1
      clear hS
      cases pe with
      | false =>
        go_wp2_with fail
        rw [HPQ.out]
        refine ⟨false, rfl, ⟨fun h => absurd h (by decide), fun h => ?_⟩, RL.out.below⟩
        have h1 := HI.out.2.2.1
        rw [h, HI.out.2.2.2] at h1
        have h2 := (pcEq_iff p p').2 (Option.some.inj h1).symm
        rw [← HPE.out] at h2
        cases h2
      | true =>
        have HT : Hid (x.cp.take (k + 1) = y.cp.take (k + 1)) := (by
          show _ = _
          rw [List.take_add_one, List.take_add_one, HI.out.2.2.1, HI.out.2.2.2, HA.out, (pcEq_iff p p').1 HPE.out.symm])
        go_wp2_with fail
        refine ⟨⟨k + 1, by go_num, by omega, HT.out, RL.out⟩, ?_⟩
        simp [intOf]; omega
    · have t1 : decide ((k : Int) < (n : Int)) = false := decide_eq_false (by omega)
      rw [t1]
      clear t1
      have HCP : Hid (x.cp = y.cp) := (by
        have h := HA.out
        have ek : k = n := by omega
        rw [ek] at h
        rw [show x.cp.take n = x.cp by rw [HN.out.1, List.take_length], show y.cp.take n = y.cp by rw [HNM.out, HN.out.2.1, List.take_length]] at h
        exact h)
      go_upto_region 8 with fail
      obtain ⟨e0, he0⟩ : ∃ b, decide (x.id = y.id) = b := ⟨_, rfl⟩
      have HE0 : Hid (decide (x.id = y.id) = e0) := he0
      clear he0
      obtain ⟨e1, he1⟩ : ∃ b, decide (x.length = y.length) = b := ⟨_, rfl⟩
      have HE1 : Hid (decide (x.length = y.length) = e1) := he1
      clear he1
      obtain ⟨e2, he2⟩ : ∃ b, decide (x.root = y.root) = b := ⟨_, rfl⟩
      have HE2 : Hid (decide (x.root = y.root) = e2) := he2
      clear he2
      obtain ⟨e3, he3⟩ : ∃ b, decide (x.index = y.index) = b := ⟨_, rfl⟩
      have HE3 : Hid (decide (x.index = y.index) = e3) := he3
      clear he3
      obtain ⟨e4, he4⟩ : ∃ b, decide (x.expiry = y.expiry) = b := ⟨_, rfl⟩
      have HE4 : Hid (decide (x.expiry = y.expiry) = e4) := he4
      clear he4
      obtain ⟨e5, he5⟩ : ∃ b, decide (x.hold = y.hold) = b := ⟨_, rfl⟩
      have HE5 : Hid (decide (x.hold = y.hold) = e5) := he5
      clear he5
      obtain ⟨e6, he6⟩ : ∃ b, decide (x.gone = y.gone) = b := ⟨_, rfl⟩
      have HE6 : Hid (decide (x.gone = y.gone) = e6) := he6
      clear he6
      cases e0 with
      | false =>
        skip
        refine wp_region_lit ?_
        refine wl rfl (.pointer (some ⟨qx, 0 + 0, none⟩)) _ (run_fieldOp' f26_0 (.tmp 2) rfl qx (0) rfl) ?_
        simp only [Act.put, List.setIfInBounds_toArray, List.set_cons_succ, List.set_cons_zero]
        refine wl rfl (str x.id) _ (run_load1 o9 (.tmp 31) rfl qx (0 + 0) rfl (str x.id) ((Rw2.out.at 0 rfl).at 0 _ (rc0 x vx))) ?_
        simp only [Act.put, List.setIfInBounds_toArray, List.set_cons_succ, List.set_cons_zero]
        refine wl rfl (.pointer (some ⟨qy, 0 + 0, none⟩)) _ (run_fieldOp' f26_0 (.tmp 3) rfl qy (0) rfl) ?_
        simp only [Act.put, List.setIfInBounds_toArray, List.set_cons_succ, List.set_cons_zero]
        refine wl rfl (str y.id) _ (run_load1 o9 (.tmp 33) rfl qy (0 + 0) rfl (str y.id) ((Rw2.out.at 1 rfl).at 0 _ (rc0 y vy))) ?_
        simp only [Act.put, List.setIfInBounds_toArray, List.set_cons_succ, List.set_cons_zero]
        refine wl rfl (.bool false) _ (rx_seq (.tmp 32) (.tmp 34) rfl x.id y.id rfl rfl HX.out.id HY.out.id false HE0.out) ?_
        simp only [Act.put, List.setIfInBounds_toArray, List.set_cons_succ, List.set_cons_zero]
        refine wl rfl (.bool false) _ (run_mvZ (.tmp 35) rfl (.bool false) rfl) ?_
        simp only [Act.put, List.setIfInBounds_toArray, List.set_cons_succ, List.set_cons_zero]
        refine wpList_skip (by kernel_rfl) ?_
        simp only [Act.put, List.setIfInBounds_toArray, List.set_cons_succ, List.set_cons_zero]
        refine wpList_skip (by kernel_rfl) ?_
        simp only [Act.put, List.setIfInBounds_toArray, List.set_cons_succ, List.set_cons_zero]
        refine wpList_skip (by kernel_rfl) ?_
        simp only [Act.put, List.setIfInBounds_toArray, List.set_cons_succ, List.set_cons_zero]
        refine wpList_skip (by kernel_rfl) ?_
        simp only [Act.put, List.setIfInBounds_toArray, List.set_cons_succ, List.set_cons_zero]
        refine wpList_skip (by kernel_rfl) ?_
        simp only [Act.put, List.setIfInBounds_toArray, List.set_cons_succ, List.set_cons_zero]
        refine wl rfl (.bool false) _ (run_pickZ (.tmp 36) (.tmp 41) (.const (.bool false)) rfl false (.bool false) rfl rfl) ?_
        simp only [Act.put, List.setIfInBounds_toArray, List.set_cons_succ, List.set_cons_zero]
        refine wl rfl (.bool false) _ (run_mvZ (.tmp 42) rfl (.bool false) rfl) ?_
        simp only [Act.put, List.setIfInBounds_toArray, List.set_cons_succ, List.set_cons_zero]
        refine wpList_skip (by kernel_rfl) ?_
        simp only [Act.put, List.setIfInBounds_toArray, List.set_cons_succ, List.set_cons_zero]
        refine wpList_skip (by kernel_rfl) ?_
        simp only [Act.put, List.setIfInBounds_toArray, List.set_cons_succ, List.set_cons_zero]
        refine wpList_skip (by kernel_rfl) ?_
        simp only [Act.put, List.setIfInBounds_toArray, List.set_cons_succ, List.set_cons_zero]
        refine wpList_skip (by kernel_rfl) ?_
        simp only [Act.put, List.setIfInBounds_toArray, List.set_cons_succ, List.set_cons_zero]
        refine wpList_skip (by kernel_rfl) ?_
        simp only [Act.put, List.setIfInBounds_toArray, List.set_cons_succ, List.set_cons_zero]
        refine wl rfl (.bool false) _ (run_pickZ (.tmp 43) (.tmp 48) (.const (.bool false)) rfl false (.bool false) rfl rfl) ?_
        simp only [Act.put, List.setIfInBounds_toArray, List.set_cons_succ, List.set_cons_zero]
        refine wl rfl (.bool false) _ (run_mvZ (.tmp 49) rfl (.bool false) rfl) ?_
        simp only [Act.put, List.setIfInBounds_toArray, List.set_cons_succ, List.set_cons_zero]
        refine wpList_skip (by kernel_rfl) ?_
        simp only [Act.put, List.setIfInBounds_toArray, List.set_cons_succ, List.set_cons_zero]
        refine wpList_skip (by kernel_rfl) ?_
        simp only [Act.put, List.setIfInBounds_toArray, List.set_cons_succ, List.set_cons_zero]
        refine wpList_skip (by kernel_rfl) ?_
        simp only [Act.put, List.setIfInBounds_toArray, List.set_cons_succ, List.set_cons_zero]
        refine wpList_skip (by kernel_rfl) ?_
        simp only [Act.put, List.setIfInBounds_toArray, List.set_cons_succ, List.set_cons_zero]
        refine wpList_skip (by kernel_rfl) ?_
        simp only [Act.put, List.setIfInBounds_toArray, List.set_cons_succ, List.set_cons_zero]
        refine wl rfl (.bool false) _ (run_pickZ (.tmp 50) (.tmp 55) (.const (.bool false)) rfl false (.bool false) rfl rfl) ?_
        simp only [Act.put, List.setIfInBounds_toArray, List.set_cons_succ, List.set_cons_zero]
        refine wl rfl (.bool false) _ (run_mvZ (.tmp 56) rfl (.bool false) rfl) ?_
        simp only [Act.put, List.setIfInBounds_toArray, List.set_cons_succ, List.set_cons_zero]
        refine wpList_skip (by kernel_rfl) ?_
        simp only [Act.put, List.setIfInBounds_toArray, List.set_cons_succ, List.set_cons_zero]
        refine wpList_skip (by kernel_rfl) ?_
        simp only [Act.put, List.setIfInBounds_toArray, List.set_cons_succ, List.set_cons_zero]
        refine wpList_skip (by kernel_rfl) ?_
        simp only [Act.put, List.setIfInBounds_toArray, List.set_cons_succ, List.set_cons_zero]
        refine wpList_skip (by kernel_rfl) ?_
        simp only [Act.put, List.setIfInBounds_toArray, List.set_cons_succ, List.set_cons_zero]
        refine wpList_skip (by kernel_rfl) ?_
        simp only [Act.put, List.setIfInBounds_toArray, List.set_cons_succ, List.set_cons_zero]
        refine wl rfl (.bool false) _ (run_pickZ (.tmp 57) (.tmp 62) (.const (.bool false)) rfl false (.bool false) rfl rfl) ?_
        simp only [Act.put, List.setIfInBounds_toArray, List.set_cons_succ, List.set_cons_zero]
        refine wl rfl (.bool false) _ (run_mvZ (.tmp 63) rfl (.bool false) rfl) ?_
        simp only [Act.put, List.setIfInBounds_toArray, List.set_cons_succ, List.set_cons_zero]
        refine wpList_skip (by kernel_rfl) ?_
        simp only [Act.put, List.setIfInBounds_toArray, List.set_cons_succ, List.set_cons_zero]
        refine wpList_skip (by kernel_rfl) ?_
        simp only [Act.put, List.setIfInBounds_toArray, List.set_cons_succ, List.set_cons_zero]
        refine wpList_skip (by kernel_rfl) ?_
        simp only [Act.put, List.setIfInBounds_toArray, List.set_cons_succ, List.set_cons_zero]
        refine wpList_skip (by kernel_rfl) ?_
        simp only [Act.put, List.setIfInBounds_toArray, List.set_cons_succ, List.set_cons_zero]
        refine wpList_skip (by kernel_rfl) ?_
        simp only [Act.put, List.setIfInBounds_toArray, List.set_cons_succ, List.set_cons_zero]
        refine wl rfl (.bool false) _ (run_pickZ (.tmp 64) (.tmp 69) (.const (.bool false)) rfl false (.bool false) rfl rfl) ?_
        simp only [Act.put, List.setIfInBounds_toArray, List.set_cons_succ, List.set_cons_zero]
        refine wl rfl (.bool false) _ (run_mvZ (.tmp 70) rfl (.bool false) rfl) ?_
        simp only [Act.put, List.setIfInBounds_toArray, List.set_cons_succ, List.set_cons_zero]
        refine wpList_skip (by kernel_rfl) ?_
        simp only [Act.put, List.setIfInBounds_toArray, List.set_cons_succ, List.set_cons_zero]
        refine wpList_skip (by kernel_rfl) ?_
        simp only [Act.put, List.setIfInBounds_toArray, List.set_cons_succ, List.set_cons_zero]
        refine wpList_skip (by kernel_rfl) ?_
        simp only [Act.put, List.setIfInBounds_toArray, List.set_cons_succ, List.set_cons_zero]
        refine wpList_skip (by kernel_rfl) ?_
        simp only [Act.put, List.setIfInBounds_toArray, List.set_cons_succ, List.set_cons_zero]
        refine wpList_skip (by kernel_rfl) ?_
        simp only [Act.put, List.setIfInBounds_toArray, List.set_cons_succ, List.set_cons_zero]
        refine wl rfl (.bool false) _ (run_pickZ (.tmp 71) (.tmp 76) (.const (.bool false)) rfl false (.bool false) rfl rfl) ?_
        simp only [Act.put, List.setIfInBounds_toArray, List.set_cons_succ, List.set_cons_zero]
        refine wl rfl (.bool false) _ (run_asZ (.tmp 77) rfl (.bool false) rfl) ?_
        simp only [Act.put, List.setIfInBounds_toArray, List.set_cons_succ, List.set_cons_zero]
        refine wpList_nil ?_
        go_wp2_with fail
        rw [HPQ.out]
        exact ⟨false, rfl, ⟨fun h => absurd h (by decide), fun h => absurd (by rw [h] : x.id = y.id) (of_decide_eq_false HE0.out)⟩, Rw2.out.below⟩
      | true =>
      cases e1 with
      | false =>
        skip
        refine wp_region_lit ?_
        refine wl rfl (.pointer (some ⟨qx, 0 + 0, none⟩)) _ (run_fieldOp' f26_0 (.tmp 2) rfl qx (0) rfl) ?_
        simp only [Act.put, List.setIfInBounds_toArray, List.set_cons_succ, List.set_cons_zero]
        refine wl rfl (str x.id) _ (run_load1 o9 (.tmp 31) rfl qx (0 + 0) rfl (str x.id) ((Rw2.out.at 0 rfl).at 0 _ (rc0 x vx))) ?_
        simp only [Act.put, List.setIfInBounds_toArray, List.set_cons_succ, List.set_cons_zero]
        refine wl rfl (.pointer (some ⟨qy, 0 + 0, none⟩)) _ (run_fieldOp' f26_0 (.tmp 3) rfl qy (0) rfl) ?_
        simp only [Act.put, List.setIfInBounds_toArray, List.set_cons_succ, List.set_cons_zero]
        refine wl rfl (str y.id) _ (run_load1 o9 (.tmp 33) rfl qy (0 + 0) rfl (str y.id) ((Rw2.out.at 1 rfl).at 0 _ (rc0 y vy))) ?_
        simp only [Act.put, List.setIfInBounds_toArray, List.set_cons_succ, List.set_cons_zero]
        refine wl rfl (.bool true) _ (rx_seq (.tmp 32) (.tmp 34) rfl x.id y.id rfl rfl HX.out.id HY.out.id true HE0.out) ?_
        simp only [Act.put, List.setIfInBounds_toArray, List.set_cons_succ, List.set_cons_zero]
        refine wl rfl (.bool true) _ (run_mvZ (.tmp 35) rfl (.bool true) rfl) ?_
        simp only [Act.put, List.setIfInBounds_toArray, List.set_cons_succ, List.set_cons_zero]
        refine wl (by kernel_rfl) (.pointer (some ⟨qx, 0 + 1, none⟩)) _ (run_fieldOp' f26_1 (.tmp 2) rfl qx (0) rfl) ?_
        simp only [Act.put, List.setIfInBounds_toArray, List.set_cons_succ, List.set_cons_zero]
        refine wl (by kernel_rfl) (.int .i64 x.length) _ (run_load1 o3 (.tmp 37) rfl qx (0 + 1) rfl (.int .i64 x.length) ((Rw2.out.at 0 rfl).at 1 _ (rc1 x vx))) ?_
        simp only [Act.put, List.setIfInBounds_toArray, List.set_cons_succ, List.set_cons_zero]
        refine wl (by kernel_rfl) (.pointer (some ⟨qy, 0 + 1, none⟩)) _ (run_fieldOp' f26_1 (.tmp 3) rfl qy (0) rfl) ?_
        simp only [Act.put, List.setIfInBounds_toArray, List.set_cons_succ, List.set_cons_zero]
        refine wl (by kernel_rfl) (.int .i64 y.length) _ (run_load1 o3 (.tmp 39) rfl qy (0 + 1) rfl (.int .i64 y.length) ((Rw2.out.at 1 rfl).at 1 _ (rc1 y vy))) ?_
        simp only [Act.put, List.setIfInBounds_toArray, List.set_cons_succ, List.set_cons_zero]
        refine wl (by kernel_rfl) (.bool false) _ (run_eqZ (.tmp 38) (.tmp 40) rfl x.length y.length rfl rfl false HE1.out) ?_
        simp only [Act.put, List.setIfInBounds_toArray, List.set_cons_succ, List.set_cons_zero]
        refine wl rfl (.bool false) _ (run_pickZ (.tmp 36) (.tmp 41) (.const (.bool false)) rfl true (.bool false) rfl rfl) ?_
        simp only [Act.put, List.setIfInBounds_toArray, List.set_cons_succ, List.set_cons_zero]
        refine wl rfl (.bool false) _ (run_mvZ (.tmp 42) rfl (.bool false) rfl) ?_
        simp only [Act.put, List.setIfInBounds_toArray, List.set_cons_succ, List.set_cons_zero]
        refine wpList_skip (by kernel_rfl) ?_
        simp only [Act.put, List.setIfInBounds_toArray, List.set_cons_succ, List.set_cons_zero]
        refine wpList_skip (by kernel_rfl) ?_
        simp only [Act.put, List.setIfInBounds_toArray, List.set_cons_succ, List.set_cons_zero]
        refine wpList_skip (by kernel_rfl) ?_
        simp only [Act.put, List.setIfInBounds_toArray, List.set_cons_succ, List.set_cons_zero]
        refine wpList_skip (by kernel_rfl) ?_
        simp only [Act.put, List.setIfInBounds_toArray, List.set_cons_succ, List.set_cons_zero]
        refine wpList_skip (by kernel_rfl) ?_
        simp only [Act.put, List.setIfInBounds_toArray, List.set_cons_succ, List.set_cons_zero]
        refine wl rfl (.bool false) _ (run_pickZ (.tmp 43) (.tmp 48) (.const (.bool false)) rfl false (.bool false) rfl rfl) ?_
        simp only [Act.put, List.setIfInBounds_toArray, List.set_cons_succ, List.set_cons_zero]
        refine wl rfl (.bool false) _ (run_mvZ (.tmp 49) rfl (.bool false) rfl) ?_
        simp only [Act.put, List.setIfInBounds_toArray, List.set_cons_succ, List.set_cons_zero]
        refine wpList_skip (by kernel_rfl) ?_
        simp only [Act.put, List.setIfInBounds_toArray, List.set_cons_succ, List.set_cons_zero]
        refine wpList_skip (by kernel_rfl) ?_
        simp only [Act.put, List.setIfInBounds_toArray, List.set_cons_succ, List.set_cons_zero]
        refine wpList_skip (by kernel_rfl) ?_
        simp only [Act.put, List.setIfInBounds_toArray, List.set_cons_succ, List.set_cons_zero]
        refine wpList_skip (by kernel_rfl) ?_
        simp only [Act.put, List.setIfInBounds_toArray, List.set_cons_succ, List.set_cons_zero]
        refine wpList_skip (by kernel_rfl) ?_
        simp only [Act.put, List.setIfInBounds_toArray, List.set_cons_succ, List.set_cons_zero]
        refine wl rfl (.bool false) _ (run_pickZ (.tmp 50) (.tmp 55) (.const (.bool false)) rfl false (.bool false) rfl rfl) ?_
        simp only [Act.put, List.setIfInBounds_toArray, List.set_cons_succ, List.set_cons_zero]
        refine wl rfl (.bool false) _ (run_mvZ (.tmp 56) rfl (.bool false) rfl) ?_
        simp only [Act.put, List.setIfInBounds_toArray, List.set_cons_succ, List.set_cons_zero]
        refine wpList_skip (by kernel_rfl) ?_
        simp only [Act.put, List.setIfInBounds_toArray, List.set_cons_succ, List.set_cons_zero]
        refine wpList_skip (by kernel_rfl) ?_
        simp only [Act.put, List.setIfInBounds_toArray, List.set_cons_succ, List.set_cons_zero]
        refine wpList_skip (by kernel_rfl) ?_
        simp only [Act.put, List.setIfInBounds_toArray, List.set_cons_succ, List.set_cons_zero]
        refine wpList_skip (by kernel_rfl) ?_
        simp only [Act.put, List.setIfInBounds_toArray, List.set_cons_succ, List.set_cons_zero]
        refine wpList_skip (by kernel_rfl) ?_
        simp only [Act.put, List.setIfInBounds_toArray, List.set_cons_succ, List.set_cons_zero]
        refine wl rfl (.bool false) _ (run_pickZ (.tmp 57) (.tmp 62) (.const (.bool false)) rfl false (.bool false) rfl rfl) ?_
        simp only [Act.put, List.setIfInBounds_toArray, List.set_cons_succ, List.set_cons_zero]
        refine wl rfl (.bool false) _ (run_mvZ (.tmp 63) rfl (.bool false) rfl) ?_
        simp only [Act.put, List.setIfInBounds_toArray, List.set_cons_succ, List.set_cons_zero]
        refine wpList_skip (by kernel_rfl) ?_
        simp only [Act.put, List.setIfInBounds_toArray, List.set_cons_succ, List.set_cons_zero]
        refine wpList_skip (by kernel_rfl) ?_
        simp only [Act.put, List.setIfInBounds_toArray, List.set_cons_succ, List.set_cons_zero]
        refine wpList_skip (by kernel_rfl) ?_
        simp only [Act.put, List.setIfInBounds_toArray, List.set_cons_succ, List.set_cons_zero]
        refine wpList_skip (by kernel_rfl) ?_
        simp only [Act.put, List.setIfInBounds_toArray, List.set_cons_succ, List.set_cons_zero]
        refine wpList_skip (by kernel_rfl) ?_
        simp only [Act.put, List.setIfInBounds_toArray, List.set_cons_succ, List.set_cons_zero]
        refine wl rfl (.bool false) _ (run_pickZ (.tmp 64) (.tmp 69) (.const (.bool false)) rfl false (.bool false) rfl rfl) ?_
        simp only [Act.put, List.setIfInBounds_toArray, List.set_cons_succ, List.set_cons_zero]
        refine wl rfl (.bool false) _ (run_mvZ (.tmp 70) rfl (.bool false) rfl) ?_
        simp only [Act.put, List.setIfInBounds_toArray, List.set_cons_succ, List.set_cons_zero]
        refine wpList_skip (by kernel_rfl) ?_
        simp only [Act.put, List.setIfInBounds_toArray, List.set_cons_succ, List.set_cons_zero]
        refine wpList_skip (by kernel_rfl) ?_
        simp only [Act.put, List.setIfInBounds_toArray, List.set_cons_succ, List.set_cons_zero]
        refine wpList_skip (by kernel_rfl) ?_
        simp only [Act.put, List.setIfInBounds_toArray, List.set_cons_succ, List.set_cons_zero]
        refine wpList_skip (by kernel_rfl) ?_
        simp only [Act.put, List.setIfInBounds_toArray, List.set_cons_succ, List.set_cons_zero]
        refine wpList_skip (by kernel_rfl) ?_
        simp only [Act.put, List.setIfInBounds_toArray, List.set_cons_succ, List.set_cons_zero]
        refine wl rfl (.bool false) _ (run_pickZ (.tmp 71) (.tmp 76) (.const (.bool false)) rfl false (.bool false) rfl rfl) ?_
        simp only [Act.put, List.setIfInBounds_toArray, List.set_cons_succ, List.set_cons_zero]
        refine wl rfl (.bool false) _ (run_asZ (.tmp 77) rfl (.bool false) rfl) ?_
        simp only [Act.put, List.setIfInBounds_toArray, List.set_cons_succ, List.set_cons_zero]
        refine wpList_nil ?_
        go_wp2_with fail
        rw [HPQ.out]
        exact ⟨false, rfl, ⟨fun h => absurd h (by decide), fun h => absurd (by rw [h] : x.length = y.length) (of_decide_eq_false HE1.out)⟩, Rw2.out.below⟩
      | true =>
      cases e2 with
      | false =>
        skip
        refine wp_region_lit ?_
        refine wl rfl (.pointer (some ⟨qx, 0 + 0, none⟩)) _ (run_fieldOp' f26_0 (.tmp 2) rfl qx (0) rfl) ?_
        simp only [Act.put, List.setIfInBounds_toArray, List.set_cons_succ, List.set_cons_zero]
        refine wl rfl (str x.id) _ (run_load1 o9 (.tmp 31) rfl qx (0 + 0) rfl (str x.id) ((Rw2.out.at 0 rfl).at 0 _ (rc0 x vx))) ?_
        simp only [Act.put, List.setIfInBounds_toArray, List.set_cons_succ, List.set_cons_zero]
        refine wl rfl (.pointer (some ⟨qy, 0 + 0, none⟩)) _ (run_fieldOp' f26_0 (.tmp 3) rfl qy (0) rfl) ?_
        simp only [Act.put, List.setIfInBounds_toArray, List.set_cons_succ, List.set_cons_zero]
        refine wl rfl (str y.id) _ (run_load1 o9 (.tmp 33) rfl qy (0 + 0) rfl (str y.id) ((Rw2.out.at 1 rfl).at 0 _ (rc0 y vy))) ?_
        simp only [Act.put, List.setIfInBounds_toArray, List.set_cons_succ, List.set_cons_zero]
        refine wl rfl (.bool true) _ (rx_seq (.tmp 32) (.tmp 34) rfl x.id y.id rfl rfl HX.out.id HY.out.id true HE0.out) ?_
        simp only [Act.put, List.setIfInBounds_toArray, List.set_cons_succ, List.set_cons_zero]
        refine wl rfl (.bool true) _ (run_mvZ (.tmp 35) rfl (.bool true) rfl) ?_
        simp only [Act.put, List.setIfInBounds_toArray, List.set_cons_succ, List.set_cons_zero]
        refine wl (by kernel_rfl) (.pointer (some ⟨qx, 0 + 1, none⟩)) _ (run_fieldOp' f26_1 (.tmp 2) rfl qx (0) rfl) ?_
        simp only [Act.put, List.setIfInBounds_toArray, List.set_cons_succ, List.set_cons_zero]
        refine wl (by kernel_rfl) (.int .i64 x.length) _ (run_load1 o3 (.tmp 37) rfl qx (0 + 1) rfl (.int .i64 x.length) ((Rw2.out.at 0 rfl).at 1 _ (rc1 x vx))) ?_
        simp only [Act.put, List.setIfInBounds_toArray, List.set_cons_succ, List.set_cons_zero]
        refine wl (by kernel_rfl) (.pointer (some ⟨qy, 0 + 1, none⟩)) _ (run_fieldOp' f26_1 (.tmp 3) rfl qy (0) rfl) ?_
        simp only [Act.put, List.setIfInBounds_toArray, List.set_cons_succ, List.set_cons_zero]
        refine wl (by kernel_rfl) (.int .i64 y.length) _ (run_load1 o3 (.tmp 39) rfl qy (0 + 1) rfl (.int .i64 y.length) ((Rw2.out.at 1 rfl).at 1 _ (rc1 y vy))) ?_
        simp only [Act.put, List.setIfInBounds_toArray, List.set_cons_succ, List.set_cons_zero]
        refine wl (by kernel_rfl) (.bool true) _ (run_eqZ (.tmp 38) (.tmp 40) rfl x.length y.length rfl rfl true HE1.out) ?_
        simp only [Act.put, List.setIfInBounds_toArray, List.set_cons_succ, List.set_cons_zero]
        refine wl rfl (.bool true) _ (run_pickZ (.tmp 36) (.tmp 41) (.const (.bool false)) rfl true (.bool true) rfl rfl) ?_
        simp only [Act.put, List.setIfInBounds_toArray, List.set_cons_succ, List.set_cons_zero]
        refine wl rfl (.bool true) _ (run_mvZ (.tmp 42) rfl (.bool true) rfl) ?_
        simp only [Act.put, List.setIfInBounds_toArray, List.set_cons_succ, List.set_cons_zero]
        refine wl (by kernel_rfl) (.pointer (some ⟨qx, 0 + 2, none⟩)) _ (run_fieldOp' f26_2 (.tmp 2) rfl qx (0) rfl) ?_
        simp only [Act.put, List.setIfInBounds_toArray, List.set_cons_succ, List.set_cons_zero]
        refine wl (by kernel_rfl) (.agg (bcells x.root).toArray) _ (run_loadA ag23 (.tmp 44) rfl qx (0 + 2) rfl (bcells x.root) (bc32 HX.out.root) (rootAt (Rw2.out.at 0 rfl) HX.out.root)) ?_
        simp only [Act.put, List.setIfInBounds_toArray, List.set_cons_succ, List.set_cons_zero]
        refine wl (by kernel_rfl) (.pointer (some ⟨qy, 0 + 2, none⟩)) _ (run_fieldOp' f26_2 (.tmp 3) rfl qy (0) rfl) ?_
        simp only [Act.put, List.setIfInBounds_toArray, List.set_cons_succ, List.set_cons_zero]
        refine wl (by kernel_rfl) (.agg (bcells y.root).toArray) _ (run_loadA ag23 (.tmp 46) rfl qy (0 + 2) rfl (bcells y.root) (bc32 HY.out.root) (rootAt (Rw2.out.at 1 rfl) HY.out.root)) ?_
        simp only [Act.put, List.setIfInBounds_toArray, List.set_cons_succ, List.set_cons_zero]
        refine wl (by kernel_rfl) (.bool false) _ (rx_eqH (.tmp 45) (.tmp 47) rfl x.root y.root HX.out.isH HY.out.isH rfl rfl false HE2.out) ?_
        simp only [Act.put, List.setIfInBounds_toArray, List.set_cons_succ, List.set_cons_zero]
        refine wl rfl (.bool false) _ (run_pickZ (.tmp 43) (.tmp 48) (.const (.bool false)) rfl true (.bool false) rfl rfl) ?_
        simp only [Act.put, List.setIfInBounds_toArray, List.set_cons_succ, List.set_cons_zero]
        refine wl rfl (.bool false) _ (run_mvZ (.tmp 49) rfl (.bool false) rfl) ?_
        simp only [Act.put, List.setIfInBounds_toArray, List.set_cons_succ, List.set_cons_zero]
        refine wpList_skip (by kernel_rfl) ?_
        simp only [Act.put, List.setIfInBounds_toArray, List.set_cons_succ, List.set_cons_zero]
        refine wpList_skip (by kernel_rfl) ?_
        simp only [Act.put, List.setIfInBounds_toArray, List.set_cons_succ, List.set_cons_zero]
        refine wpList_skip (by kernel_rfl) ?_
        simp only [Act.put, List.setIfInBounds_toArray, List.set_cons_succ, List.set_cons_zero]
        refine wpList_skip (by kernel_rfl) ?_
        simp only [Act.put, List.setIfInBounds_toArray, List.set_cons_succ, List.set_cons_zero]
        refine wpList_skip (by kernel_rfl) ?_
        simp only [Act.put, List.setIfInBounds_toArray, List.set_cons_succ, List.set_cons_zero]
        refine wl rfl (.bool false) _ (run_pickZ (.tmp 50) (.tmp 55) (.const (.bool false)) rfl false (.bool false) rfl rfl) ?_
        simp only [Act.put, List.setIfInBounds_toArray, List.set_cons_succ, List.set_cons_zero]
        refine wl rfl (.bool false) _ (run_mvZ (.tmp 56) rfl (.bool false) rfl) ?_
        simp only [Act.put, List.setIfInBounds_toArray, List.set_cons_succ, List.set_cons_zero]
        refine wpList_skip (by kernel_rfl) ?_
        simp only [Act.put, List.setIfInBounds_toArray, List.set_cons_succ, List.set_cons_zero]
        refine wpList_skip (by kernel_rfl) ?_
        simp only [Act.put, List.setIfInBounds_toArray, List.set_cons_succ, List.set_cons_zero]
        refine wpList_skip (by kernel_rfl) ?_
        simp only [Act.put, List.setIfInBounds_toArray, List.set_cons_succ, List.set_cons_zero]
        refine wpList_skip (by kernel_rfl) ?_
        simp only [Act.put, List.setIfInBounds_toArray, List.set_cons_succ, List.set_cons_zero]
        refine wpList_skip (by kernel_rfl) ?_
        simp only [Act.put, List.setIfInBounds_toArray, List.set_cons_succ, List.set_cons_zero]
        refine wl rfl (.bool false) _ (run_pickZ (.tmp 57) (.tmp 62) (.const (.bool false)) rfl false (.bool false) rfl rfl) ?_
        simp only [Act.put, List.setIfInBounds_toArray, List.set_cons_succ, List.set_cons_zero]
        refine wl rfl (.bool false) _ (run_mvZ (.tmp 63) rfl (.bool false) rfl) ?_
        simp only [Act.put, List.setIfInBounds_toArray, List.set_cons_succ, List.set_cons_zero]
        refine wpList_skip (by kernel_rfl) ?_
        simp only [Act.put, List.setIfInBounds_toArray, List.set_cons_succ, List.set_cons_zero]
        refine wpList_skip (by kernel_rfl) ?_
        simp only [Act.put, List.setIfInBounds_toArray, List.set_cons_succ, List.set_cons_zero]
        refine wpList_skip (by kernel_rfl) ?_
        simp only [Act.put, List.setIfInBounds_toArray, List.set_cons_succ, List.set_cons_zero]
        refine wpList_skip (by kernel_rfl) ?_
        simp only [Act.put, List.setIfInBounds_toArray, List.set_cons_succ, List.set_cons_zero]
        refine wpList_skip (by kernel_rfl) ?_
        simp only [Act.put, List.setIfInBounds_toArray, List.set_cons_succ, List.set_cons_zero]
        refine wl rfl (.bool false) _ (run_pickZ (.tmp 64) (.tmp 69) (.const (.bool false)) rfl false (.bool false) rfl rfl) ?_
        simp only [Act.put, List.setIfInBounds_toArray, List.set_cons_succ, List.set_cons_zero]
        refine wl rfl (.bool false) _ (run_mvZ (.tmp 70) rfl (.bool false) rfl) ?_
        simp only [Act.put, List.setIfInBounds_toArray, List.set_cons_succ, List.set_cons_zero]
        refine wpList_skip (by kernel_rfl) ?_
        simp only [Act.put, List.setIfInBounds_toArray, List.set_cons_succ, List.set_cons_zero]
        refine wpList_skip (by kernel_rfl) ?_
        simp only [Act.put, List.setIfInBounds_toArray, List.set_cons_succ, List.set_cons_zero]
        refine wpList_skip (by kernel_rfl) ?_
        simp only [Act.put, List.setIfInBounds_toArray, List.set_cons_succ, List.set_cons_zero]
        refine wpList_skip (by kernel_rfl) ?_
        simp only [Act.put, List.setIfInBounds_toArray, List.set_cons_succ, List.set_cons_zero]
        refine wpList_skip (by kernel_rfl) ?_
        simp only [Act.put, List.setIfInBounds_toArray, List.set_cons_succ, List.set_cons_zero]
        refine wl rfl (.bool false) _ (run_pickZ (.tmp 71) (.tmp 76) (.const (.bool false)) rfl false (.bool false) rfl rfl) ?_
        simp only [Act.put, List.setIfInBounds_toArray, List.set_cons_succ, List.set_cons_zero]
        refine wl rfl (.bool false) _ (run_asZ (.tmp 77) rfl (.bool false) rfl) ?_
        simp only [Act.put, List.setIfInBounds_toArray, List.set_cons_succ, List.set_cons_zero]
        refine wpList_nil ?_
        go_wp2_with fail
        rw [HPQ.out]
        exact ⟨false, rfl, ⟨fun h => absurd h (by decide), fun h => absurd (by rw [h] : x.root = y.root) (of_decide_eq_false HE2.out)⟩, Rw2.out.below⟩
      | true =>
      cases e3 with
      | false =>
        skip
        refine wp_region_lit ?_
        refine wl rfl (.pointer (some ⟨qx, 0 + 0, none⟩)) _ (run_fieldOp' f26_0 (.tmp 2) rfl qx (0) rfl) ?_
        simp only [Act.put, List.setIfInBounds_toArray, List.set_cons_succ, List.set_cons_zero]
        refine wl rfl (str x.id) _ (run_load1 o9 (.tmp 31) rfl qx (0 + 0) rfl (str x.id) ((Rw2.out.at 0 rfl).at 0 _ (rc0 x vx))) ?_
        simp only [Act.put, List.setIfInBounds_toArray, List.set_cons_succ, List.set_cons_zero]
        refine wl rfl (.pointer (some ⟨qy, 0 + 0, none⟩)) _ (run_fieldOp' f26_0 (.tmp 3) rfl qy (0) rfl) ?_
        simp only [Act.put, List.setIfInBounds_toArray, List.set_cons_succ, List.set_cons_zero]
        refine wl rfl (str y.id) _ (run_load1 o9 (.tmp 33) rfl qy (0 + 0) rfl (str y.id) ((Rw2.out.at 1 rfl).at 0 _ (rc0 y vy))) ?_
        simp only [Act.put, List.setIfInBounds_toArray, List.set_cons_succ, List.set_cons_zero]
        refine wl rfl (.bool true) _ (rx_seq (.tmp 32) (.tmp 34) rfl x.id y.id rfl rfl HX.out.id HY.out.id true HE0.out) ?_
        simp only [Act.put, List.setIfInBounds_toArray, List.set_cons_succ, List.set_cons_zero]
        refine wl rfl (.bool true) _ (run_mvZ (.tmp 35) rfl (.bool true) rfl) ?_
        simp only [Act.put, List.setIfInBounds_toArray, List.set_cons_succ, List.set_cons_zero]
        refine wl (by kernel_rfl) (.pointer (some ⟨qx, 0 + 1, none⟩)) _ (run_fieldOp' f26_1 (.tmp 2) rfl qx (0) rfl) ?_
        simp only [Act.put, List.setIfInBounds_toArray, List.set_cons_succ, List.set_cons_zero]
        refine wl (by kernel_rfl) (.int .i64 x.length) _ (run_load1 o3 (.tmp 37) rfl qx (0 + 1) rfl (.int .i64 x.length) ((Rw2.out.at 0 rfl).at 1 _ (rc1 x vx))) ?_
        simp only [Act.put, List.setIfInBounds_toArray, List.set_cons_succ, List.set_cons_zero]
        refine wl (by kernel_rfl) (.pointer (some ⟨qy, 0 + 1, none⟩)) _ (run_fieldOp' f26_1 (.tmp 3) rfl qy (0) rfl) ?_
        simp only [Act.put, List.setIfInBounds_toArray, List.set_cons_succ, List.set_cons_zero]
        refine wl (by kernel_rfl) (.int .i64 y.length) _ (run_load1 o3 (.tmp 39) rfl qy (0 + 1) rfl (.int .i64 y.length) ((Rw2.out.at 1 rfl).at 1 _ (rc1 y vy))) ?_
        simp only [Act.put, List.setIfInBounds_toArray, List.set_cons_succ, List.set_cons_zero]
        refine wl (by kernel_rfl) (.bool true) _ (run_eqZ (.tmp 38) (.tmp 40) rfl x.length y.length rfl rfl true HE1.out) ?_
        simp only [Act.put, List.setIfInBounds_toArray, List.set_cons_succ, List.set_cons_zero]
        refine wl rfl (.bool true) _ (run_pickZ (.tmp 36) (.tmp 41) (.const (.bool false)) rfl true (.bool true) rfl rfl) ?_
        simp only [Act.put, List.setIfInBounds_toArray, List.set_cons_succ, List.set_cons_zero]
        refine wl rfl (.bool true) _ (run_mvZ (.tmp 42) rfl (.bool true) rfl) ?_
        simp only [Act.put, List.setIfInBounds_toArray, List.set_cons_succ, List.set_cons_zero]
        refine wl (by kernel_rfl) (.pointer (some ⟨qx, 0 + 2, none⟩)) _ (run_fieldOp' f26_2 (.tmp 2) rfl qx (0) rfl) ?_
        simp only [Act.put, List.setIfInBounds_toArray, List.set_cons_succ, List.set_cons_zero]
        refine wl (by kernel_rfl) (.agg (bcells x.root).toArray) _ (run_loadA ag23 (.tmp 44) rfl qx (0 + 2) rfl (bcells x.root) (bc32 HX.out.root) (rootAt (Rw2.out.at 0 rfl) HX.out.root)) ?_
        simp only [Act.put, List.setIfInBounds_toArray, List.set_cons_succ, List.set_cons_zero]
        refine wl (by kernel_rfl) (.pointer (some ⟨qy, 0 + 2, none⟩)) _ (run_fieldOp' f26_2 (.tmp 3) rfl qy (0) rfl) ?_
        simp only [Act.put, List.setIfInBounds_toArray, List.set_cons_succ, List.set_cons_zero]
        refine wl (by kernel_rfl) (.agg (bcells y.root).toArray) _ (run_loadA ag23 (.tmp 46) rfl qy (0 + 2) rfl (bcells y.root) (bc32 HY.out.root) (rootAt (Rw2.out.at 1 rfl) HY.out.root)) ?_
        simp only [Act.put, List.setIfInBounds_toArray, List.set_cons_succ, List.set_cons_zero]
        refine wl (by kernel_rfl) (.bool true) _ (rx_eqH (.tmp 45) (.tmp 47) rfl x.root y.root HX.out.isH HY.out.isH rfl rfl true HE2.out) ?_
        simp only [Act.put, List.setIfInBounds_toArray, List.set_cons_succ, List.set_cons_zero]
        refine wl rfl (.bool true) _ (run_pickZ (.tmp 43) (.tmp 48) (.const (.bool false)) rfl true (.bool true) rfl rfl) ?_
        simp only [Act.put, List.setIfInBounds_toArray, List.set_cons_succ, List.set_cons_zero]
        refine wl rfl (.bool true) _ (run_mvZ (.tmp 49) rfl (.bool true) rfl) ?_
        simp only [Act.put, List.setIfInBounds_toArray, List.set_cons_succ, List.set_cons_zero]
        refine wl (by kernel_rfl) (.pointer (some ⟨qx, 0 + 34, none⟩)) _ (run_fieldOp' f26_3 (.tmp 2) rfl qx (0) rfl) ?_
        simp only [Act.put, List.setIfInBounds_toArray, List.set_cons_succ, List.set_cons_zero]
        refine wl (by kernel_rfl) (.int .i64 x.index) _ (run_load1 o3 (.tmp 51) rfl qx (0 + 34) rfl (.int .i64 x.index) ((Rw2.out.at 0 rfl).at 34 _ (rcB vx HX.out.root 0))) ?_
        simp only [Act.put, List.setIfInBounds_toArray, List.set_cons_succ, List.set_cons_zero]
        refine wl (by kernel_rfl) (.pointer (some ⟨qy, 0 + 34, none⟩)) _ (run_fieldOp' f26_3 (.tmp 3) rfl qy (0) rfl) ?_
        simp only [Act.put, List.setIfInBounds_toArray, List.set_cons_succ, List.set_cons_zero]
        refine wl (by kernel_rfl) (.int .i64 y.index) _ (run_load1 o3 (.tmp 53) rfl qy (0 + 34) rfl (.int .i64 y.index) ((Rw2.out.at 1 rfl).at 34 _ (rcB vy HY.out.root 0))) ?_
        simp only [Act.put, List.setIfInBounds_toArray, List.set_cons_succ, List.set_cons_zero]
        refine wl (by kernel_rfl) (.bool false) _ (run_eqZ (.tmp 52) (.tmp 54) rfl x.index y.index rfl rfl false HE3.out) ?_
        simp only [Act.put, List.setIfInBounds_toArray, List.set_cons_succ, List.set_cons_zero]
        refine wl rfl (.bool false) _ (run_pickZ (.tmp 50) (.tmp 55) (.const (.bool false)) rfl true (.bool false) rfl rfl) ?_
        simp only [Act.put, List.setIfInBounds_toArray, List.set_cons_succ, List.set_cons_zero]
        refine wl rfl (.bool false) _ (run_mvZ (.tmp 56) rfl (.bool false) rfl) ?_
        simp only [Act.put, List.setIfInBounds_toArray, List.set_cons_succ, List.set_cons_zero]
        refine wpList_skip (by kernel_rfl) ?_
        simp only [Act.put, List.setIfInBounds_toArray, List.set_cons_succ, List.set_cons_zero]
        refine wpList_skip (by kernel_rfl) ?_
        simp only [Act.put, List.setIfInBounds_toArray, List.set_cons_succ, List.set_cons_zero]
        refine wpList_skip (by kernel_rfl) ?_
        simp only [Act.put, List.setIfInBounds_toArray, List.set_cons_succ, List.set_cons_zero]
        refine wpList_skip (by kernel_rfl) ?_
        simp only [Act.put, List.setIfInBounds_toArray, List.set_cons_succ, List.set_cons_zero]
        refine wpList_skip (by kernel_rfl) ?_
        simp only [Act.put, List.setIfInBounds_toArray, List.set_cons_succ, List.set_cons_zero]
        refine wl rfl (.bool false) _ (run_pickZ (.tmp 57) (.tmp 62) (.const (.bool false)) rfl false (.bool false) rfl rfl) ?_
        simp only [Act.put, List.setIfInBounds_toArray, List.set_cons_succ, List.set_cons_zero]
        refine wl rfl (.bool false) _ (run_mvZ (.tmp 63) rfl (.bool false) rfl) ?_
        simp only [Act.put, List.setIfInBounds_toArray, List.set_cons_succ, List.set_cons_zero]
        refine wpList_skip (by kernel_rfl) ?_
        simp only [Act.put, List.setIfInBounds_toArray, List.set_cons_succ, List.set_cons_zero]
        refine wpList_skip (by kernel_rfl) ?_
        simp only [Act.put, List.setIfInBounds_toArray, List.set_cons_succ, List.set_cons_zero]
        refine wpList_skip (by kernel_rfl) ?_
        simp only [Act.put, List.setIfInBounds_toArray, List.set_cons_succ, List.set_cons_zero]
        refine wpList_skip (by kernel_rfl) ?_
        simp only [Act.put, List.setIfInBounds_toArray, List.set_cons_succ, List.set_cons_zero]
        refine wpList_skip (by kernel_rfl) ?_
        simp only [Act.put, List.setIfInBounds_toArray, List.set_cons_succ, List.set_cons_zero]
        refine wl rfl (.bool false) _ (run_pickZ (.tmp 64) (.tmp 69) (.const (.bool false)) rfl false (.bool false) rfl rfl) ?_
        simp only [Act.put, List.setIfInBounds_toArray, List.set_cons_succ, List.set_cons_zero]
        refine wl rfl (.bool false) _ (run_mvZ (.tmp 70) rfl (.bool false) rfl) ?_
        simp only [Act.put, List.setIfInBounds_toArray, List.set_cons_succ, List.set_cons_zero]
        refine wpList_skip (by kernel_rfl) ?_
        simp only [Act.put, List.setIfInBounds_toArray, List.set_cons_succ, List.set_cons_zero]
        refine wpList_skip (by kernel_rfl) ?_
        simp only [Act.put, List.setIfInBounds_toArray, List.set_cons_succ, List.set_cons_zero]
        refine wpList_skip (by kernel_rfl) ?_
        simp only [Act.put, List.setIfInBounds_toArray, List.set_cons_succ, List.set_cons_zero]
        refine wpList_skip (by kernel_rfl) ?_
        simp only [Act.put, List.setIfInBounds_toArray, List.set_cons_succ, List.set_cons_zero]
        refine wpList_skip (by kernel_rfl) ?_
        simp only [Act.put, List.setIfInBounds_toArray, List.set_cons_succ, List.set_cons_zero]
        refine wl rfl (.bool false) _ (run_pickZ (.tmp 71) (.tmp 76) (.const (.bool false)) rfl false (.bool false) rfl rfl) ?_
        simp only [Act.put, List.setIfInBounds_toArray, List.set_cons_succ, List.set_cons_zero]
        refine wl rfl (.bool false) _ (run_asZ (.tmp 77) rfl (.bool false) rfl) ?_
        simp only [Act.put, List.setIfInBounds_toArray, List.set_cons_succ, List.set_cons_zero]
        refine wpList_nil ?_
        go_wp2_with fail
        rw [HPQ.out]
        exact ⟨false, rfl, ⟨fun h => absurd h (by decide), fun h => absurd (by rw [h] : x.index = y.index) (of_decide_eq_false HE3.out)⟩, Rw2.out.below⟩
      | true =>
      cases e4 with
      | false =>
        skip
        refine wp_region_lit ?_
        refine wl rfl (.pointer (some ⟨qx, 0 + 0, none⟩)) _ (run_fieldOp' f26_0 (.tmp 2) rfl qx (0) rfl) ?_
        simp only [Act.put, List.setIfInBounds_toArray, List.set_cons_succ, List.set_cons_zero]
        refine wl rfl (str x.id) _ (run_load1 o9 (.tmp 31) rfl qx (0 + 0) rfl (str x.id) ((Rw2.out.at 0 rfl).at 0 _ (rc0 x vx))) ?_
        simp only [Act.put, List.setIfInBounds_toArray, List.set_cons_succ, List.set_cons_zero]
        refine wl rfl (.pointer (some ⟨qy, 0 + 0, none⟩)) _ (run_fieldOp' f26_0 (.tmp 3) rfl qy (0) rfl) ?_
        simp only [Act.put, List.setIfInBounds_toArray, List.set_cons_succ, List.set_cons_zero]
        refine wl rfl (str y.id) _ (run_load1 o9 (.tmp 33) rfl qy (0 + 0) rfl (str y.id) ((Rw2.out.at 1 rfl).at 0 _ (rc0 y vy))) ?_
        simp only [Act.put, List.setIfInBounds_toArray, List.set_cons_succ, List.set_cons_zero]
        refine wl rfl (.bool true) _ (rx_seq (.tmp 32) (.tmp 34) rfl x.id y.id rfl rfl HX.out.id HY.out.id true HE0.out) ?_
        simp only [Act.put, List.setIfInBounds_toArray, List.set_cons_succ, List.set_cons_zero]
        refine wl rfl (.bool true) _ (run_mvZ (.tmp 35) rfl (.bool true) rfl) ?_
        simp only [Act.put, List.setIfInBounds_toArray, List.set_cons_succ, List.set_cons_zero]
        refine wl (by kernel_rfl) (.pointer (some ⟨qx, 0 + 1, none⟩)) _ (run_fieldOp' f26_1 (.tmp 2) rfl qx (0) rfl) ?_
        simp only [Act.put, List.setIfInBounds_toArray, List.set_cons_succ, List.set_cons_zero]
        refine wl (by kernel_rfl) (.int .i64 x.length) _ (run_load1 o3 (.tmp 37) rfl qx (0 + 1) rfl (.int .i64 x.length) ((Rw2.out.at 0 rfl).at 1 _ (rc1 x vx))) ?_
        simp only [Act.put, List.setIfInBounds_toArray, List.set_cons_succ, List.set_cons_zero]
        refine wl (by kernel_rfl) (.pointer (some ⟨qy, 0 + 1, none⟩)) _ (run_fieldOp' f26_1 (.tmp 3) rfl qy (0) rfl) ?_
        simp only [Act.put, List.setIfInBounds_toArray, List.set_cons_succ, List.set_cons_zero]
        refine wl (by kernel_rfl) (.int .i64 y.length) _ (run_load1 o3 (.tmp 39) rfl qy (0 + 1) rfl (.int .i64 y.length) ((Rw2.out.at 1 rfl).at 1 _ (rc1 y vy))) ?_
        simp only [Act.put, List.setIfInBounds_toArray, List.set_cons_succ, List.set_cons_zero]
        refine wl (by kernel_rfl) (.bool true) _ (run_eqZ (.tmp 38) (.tmp 40) rfl x.length y.length rfl rfl true HE1.out) ?_
        simp only [Act.put, List.setIfInBounds_toArray, List.set_cons_succ, List.set_cons_zero]
        refine wl rfl (.bool true) _ (run_pickZ (.tmp 36) (.tmp 41) (.const (.bool false)) rfl true (.bool true) rfl rfl) ?_
        simp only [Act.put, List.setIfInBounds_toArray, List.set_cons_succ, List.set_cons_zero]
        refine wl rfl (.bool true) _ (run_mvZ (.tmp 42) rfl (.bool true) rfl) ?_
        simp only [Act.put, List.setIfInBounds_toArray, List.set_cons_succ, List.set_cons_zero]
        refine wl (by kernel_rfl) (.pointer (some ⟨qx, 0 + 2, none⟩)) _ (run_fieldOp' f26_2 (.tmp 2) rfl qx (0) rfl) ?_
        simp only [Act.put, List.setIfInBounds_toArray, List.set_cons_succ, List.set_cons_zero]
        refine wl (by kernel_rfl) (.agg (bcells x.root).toArray) _ (run_loadA ag23 (.tmp 44) rfl qx (0 + 2) rfl (bcells x.root) (bc32 HX.out.root) (rootAt (Rw2.out.at 0 rfl) HX.out.root)) ?_
        simp only [Act.put, List.setIfInBounds_toArray, List.set_cons_succ, List.set_cons_zero]
        refine wl (by kernel_rfl) (.pointer (some ⟨qy, 0 + 2, none⟩)) _ (run_fieldOp' f26_2 (.tmp 3) rfl qy (0) rfl) ?_
        simp only [Act.put, List.setIfInBounds_toArray, List.set_cons_succ, List.set_cons_zero]
        refine wl (by kernel_rfl) (.agg (bcells y.root).toArray) _ (run_loadA ag23 (.tmp 46) rfl qy (0 + 2) rfl (bcells y.root) (bc32 HY.out.root) (rootAt (Rw2.out.at 1 rfl) HY.out.root)) ?_
        simp only [Act.put, List.setIfInBounds_toArray, List.set_cons_succ, List.set_cons_zero]
        refine wl (by kernel_rfl) (.bool true) _ (rx_eqH (.tmp 45) (.tmp 47) rfl x.root y.root HX.out.isH HY.out.isH rfl rfl true HE2.out) ?_
        simp only [Act.put, List.setIfInBounds_toArray, List.set_cons_succ, List.set_cons_zero]
        refine wl rfl (.bool true) _ (run_pickZ (.tmp 43) (.tmp 48) (.const (.bool false)) rfl true (.bool true) rfl rfl) ?_
        simp only [Act.put, List.setIfInBounds_toArray, List.set_cons_succ, List.set_cons_zero]
        refine wl rfl (.bool true) _ (run_mvZ (.tmp 49) rfl (.bool true) rfl) ?_
        simp only [Act.put, List.setIfInBounds_toArray, List.set_cons_succ, List.set_cons_zero]
        refine wl (by kernel_rfl) (.pointer (some ⟨qx, 0 + 34, none⟩)) _ (run_fieldOp' f26_3 (.tmp 2) rfl qx (0) rfl) ?_
        simp only [Act.put, List.setIfInBounds_toArray, List.set_cons_succ, List.set_cons_zero]
        refine wl (by kernel_rfl) (.int .i64 x.index) _ (run_load1 o3 (.tmp 51) rfl qx (0 + 34) rfl (.int .i64 x.index) ((Rw2.out.at 0 rfl).at 34 _ (rcB vx HX.out.root 0))) ?_
        simp only [Act.put, List.setIfInBounds_toArray, List.set_cons_succ, List.set_cons_zero]
        refine wl (by kernel_rfl) (.pointer (some ⟨qy, 0 + 34, none⟩)) _ (run_fieldOp' f26_3 (.tmp 3) rfl qy (0) rfl) ?_
        simp only [Act.put, List.setIfInBounds_toArray, List.set_cons_succ, List.set_cons_zero]
        refine wl (by kernel_rfl) (.int .i64 y.index) _ (run_load1 o3 (.tmp 53) rfl qy (0 + 34) rfl (.int .i64 y.index) ((Rw2.out.at 1 rfl).at 34 _ (rcB vy HY.out.root 0))) ?_
        simp only [Act.put, List.setIfInBounds_toArray, List.set_cons_succ, List.set_cons_zero]
        refine wl (by kernel_rfl) (.bool true) _ (run_eqZ (.tmp 52) (.tmp 54) rfl x.index y.index rfl rfl true HE3.out) ?_
        simp only [Act.put, List.setIfInBounds_toArray, List.set_cons_succ, List.set_cons_zero]
        refine wl rfl (.bool true) _ (run_pickZ (.tmp 50) (.tmp 55) (.const (.bool false)) rfl true (.bool true) rfl rfl) ?_
        simp only [Act.put, List.setIfInBounds_toArray, List.set_cons_succ, List.set_cons_zero]
        refine wl rfl (.bool true) _ (run_mvZ (.tmp 56) rfl (.bool true) rfl) ?_
        simp only [Act.put, List.setIfInBounds_toArray, List.set_cons_succ, List.set_cons_zero]
        refine wl (by kernel_rfl) (.pointer (some ⟨qx, 0 + 35, none⟩)) _ (run_fieldOp' f26_4 (.tmp 2) rfl qx (0) rfl) ?_
        simp only [Act.put, List.setIfInBounds_toArray, List.set_cons_succ, List.set_cons_zero]
        refine wl (by kernel_rfl) (.int .i64 x.expiry) _ (run_load1 o3 (.tmp 58) rfl qx (0 + 35) rfl (.int .i64 x.expiry) ((Rw2.out.at 0 rfl).at 35 _ (rcB vx HX.out.root 1))) ?_
        simp only [Act.put, List.setIfInBounds_toArray, List.set_cons_succ, List.set_cons_zero]
        refine wl (by kernel_rfl) (.pointer (some ⟨qy, 0 + 35, none⟩)) _ (run_fieldOp' f26_4 (.tmp 3) rfl qy (0) rfl) ?_
        simp only [Act.put, List.setIfInBounds_toArray, List.set_cons_succ, List.set_cons_zero]
        refine wl (by kernel_rfl) (.int .i64 y.expiry) _ (run_load1 o3 (.tmp 60) rfl qy (0 + 35) rfl (.int .i64 y.expiry) ((Rw2.out.at 1 rfl).at 35 _ (rcB vy HY.out.root 1))) ?_
        simp only [Act.put, List.setIfInBounds_toArray, List.set_cons_succ, List.set_cons_zero]
        refine wl (by kernel_rfl) (.bool false) _ (run_eqZ (.tmp 59) (.tmp 61) rfl x.expiry y.expiry rfl rfl false HE4.out) ?_
        simp only [Act.put, List.setIfInBounds_toArray, List.set_cons_succ, List.set_cons_zero]
        refine wl rfl (.bool false) _ (run_pickZ (.tmp 57) (.tmp 62) (.const (.bool false)) rfl true (.bool false) rfl rfl) ?_
        simp only [Act.put, List.setIfInBounds_toArray, List.set_cons_succ, List.set_cons_zero]
        refine wl rfl (.bool false) _ (run_mvZ (.tmp 63) rfl (.bool false) rfl) ?_
        simp only [Act.put, List.setIfInBounds_toArray, List.set_cons_succ, List.set_cons_zero]
        refine wpList_skip (by kernel_rfl) ?_
        simp only [Act.put, List.setIfInBounds_toArray, List.set_cons_succ, List.set_cons_zero]
        refine wpList_skip (by kernel_rfl) ?_
        simp only [Act.put, List.setIfInBounds_toArray, List.set_cons_succ, List.set_cons_zero]
        refine wpList_skip (by kernel_rfl) ?_
        simp only [Act.put, List.setIfInBounds_toArray, List.set_cons_succ, List.set_cons_zero]
        refine wpList_skip (by kernel_rfl) ?_
        simp only [Act.put, List.setIfInBounds_toArray, List.set_cons_succ, List.set_cons_zero]
        refine wpList_skip (by kernel_rfl) ?_
        simp only [Act.put, List.setIfInBounds_toArray, List.set_cons_succ, List.set_cons_zero]
        refine wl rfl (.bool false) _ (run_pickZ (.tmp 64) (.tmp 69) (.const (.bool false)) rfl false (.bool false) rfl rfl) ?_
        simp only [Act.put, List.setIfInBounds_toArray, List.set_cons_succ, List.set_cons_zero]
        refine wl rfl (.bool false) _ (run_mvZ (.tmp 70) rfl (.bool false) rfl) ?_
        simp only [Act.put, List.setIfInBounds_toArray, List.set_cons_succ, List.set_cons_zero]
        refine wpList_skip (by kernel_rfl) ?_
        simp only [Act.put, List.setIfInBounds_toArray, List.set_cons_succ, List.set_cons_zero]
        refine wpList_skip (by kernel_rfl) ?_
        simp only [Act.put, List.setIfInBounds_toArray, List.set_cons_succ, List.set_cons_zero]
        refine wpList_skip (by kernel_rfl) ?_
        simp only [Act.put, List.setIfInBounds_toArray, List.set_cons_succ, List.set_cons_zero]
        refine wpList_skip (by kernel_rfl) ?_
        simp only [Act.put, List.setIfInBounds_toArray, List.set_cons_succ, List.set_cons_zero]
        refine wpList_skip (by kernel_rfl) ?_
        simp only [Act.put, List.setIfInBounds_toArray, List.set_cons_succ, List.set_cons_zero]
        refine wl rfl (.bool false) _ (run_pickZ (.tmp 71) (.tmp 76) (.const (.bool false)) rfl false (.bool false) rfl rfl) ?_
        simp only [Act.put, List.setIfInBounds_toArray, List.set_cons_succ, List.set_cons_zero]
        refine wl rfl (.bool false) _ (run_asZ (.tmp 77) rfl (.bool false) rfl) ?_
        simp only [Act.put, List.setIfInBounds_toArray, List.set_cons_succ, List.set_cons_zero]
        refine wpList_nil ?_
        go_wp2_with fail
        rw [HPQ.out]
        exact ⟨false, rfl, ⟨fun h => absurd h (by decide), fun h => absurd (by rw [h] : x.expiry = y.expiry) (of_decide_eq_false HE4.out)⟩, Rw2.out.below⟩
      | true =>
      cases e5 with
      | false =>
        skip
        refine wp_region_lit ?_
        refine wl rfl (.pointer (some ⟨qx, 0 + 0, none⟩)) _ (run_fieldOp' f26_0 (.tmp 2) rfl qx (0) rfl) ?_
        simp only [Act.put, List.setIfInBounds_toArray, List.set_cons_succ, List.set_cons_zero]
        refine wl rfl (str x.id) _ (run_load1 o9 (.tmp 31) rfl qx (0 + 0) rfl (str x.id) ((Rw2.out.at 0 rfl).at 0 _ (rc0 x vx))) ?_
        simp only [Act.put, List.setIfInBounds_toArray, List.set_cons_succ, List.set_cons_zero]
        refine wl rfl (.pointer (some ⟨qy, 0 + 0, none⟩)) _ (run_fieldOp' f26_0 (.tmp 3) rfl qy (0) rfl) ?_
        simp only [Act.put, List.setIfInBounds_toArray, List.set_cons_succ, List.set_cons_zero]
        refine wl rfl (str y.id) _ (run_load1 o9 (.tmp 33) rfl qy (0 + 0) rfl (str y.id) ((Rw2.out.at 1 rfl).at 0 _ (rc0 y vy))) ?_
        simp only [Act.put, List.setIfInBounds_toArray, List.set_cons_succ, List.set_cons_zero]
        refine wl rfl (.bool true) _ (rx_seq (.tmp 32) (.tmp 34) rfl x.id y.id rfl rfl HX.out.id HY.out.id true HE0.out) ?_
        simp only [Act.put, List.setIfInBounds_toArray, List.set_cons_succ, List.set_cons_zero]
        refine wl rfl (.bool true) _ (run_mvZ (.tmp 35) rfl (.bool true) rfl) ?_
        simp only [Act.put, List.setIfInBounds_toArray, List.set_cons_succ, List.set_cons_zero]
        refine wl (by kernel_rfl) (.pointer (some ⟨qx, 0 + 1, none⟩)) _ (run_fieldOp' f26_1 (.tmp 2) rfl qx (0) rfl) ?_
        simp only [Act.put, List.setIfInBounds_toArray, List.set_cons_succ, List.set_cons_zero]
        refine wl (by kernel_rfl) (.int .i64 x.length) _ (run_load1 o3 (.tmp 37) rfl qx (0 + 1) rfl (.int .i64 x.length) ((Rw2.out.at 0 rfl).at 1 _ (rc1 x vx))) ?_
        simp only [Act.put, List.setIfInBounds_toArray, List.set_cons_succ, List.set_cons_zero]
        refine wl (by kernel_rfl) (.pointer (some ⟨qy, 0 + 1, none⟩)) _ (run_fieldOp' f26_1 (.tmp 3) rfl qy (0) rfl) ?_
        simp only [Act.put, List.setIfInBounds_toArray, List.set_cons_succ, List.set_cons_zero]
        refine wl (by kernel_rfl) (.int .i64 y.length) _ (run_load1 o3 (.tmp 39) rfl qy (0 + 1) rfl (.int .i64 y.length) ((Rw2.out.at 1 rfl).at 1 _ (rc1 y vy))) ?_
        simp only [Act.put, List.setIfInBounds_toArray, List.set_cons_succ, List.set_cons_zero]
        refine wl (by kernel_rfl) (.bool true) _ (run_eqZ (.tmp 38) (.tmp 40) rfl x.length y.length rfl rfl true HE1.out) ?_
        simp only [Act.put, List.setIfInBounds_toArray, List.set_cons_succ, List.set_cons_zero]
        refine wl rfl (.bool true) _ (run_pickZ (.tmp 36) (.tmp 41) (.const (.bool false)) rfl true (.bool true) rfl rfl) ?_
        simp only [Act.put, List.setIfInBounds_toArray, List.set_cons_succ, List.set_cons_zero]
        refine wl rfl (.bool true) _ (run_mvZ (.tmp 42) rfl (.bool true) rfl) ?_
        simp only [Act.put, List.setIfInBounds_toArray, List.set_cons_succ, List.set_cons_zero]
        refine wl (by kernel_rfl) (.pointer (some ⟨qx, 0 + 2, none⟩)) _ (run_fieldOp' f26_2 (.tmp 2) rfl qx (0) rfl) ?_
        simp only [Act.put, List.setIfInBounds_toArray, List.set_cons_succ, List.set_cons_zero]
        refine wl (by kernel_rfl) (.agg (bcells x.root).toArray) _ (run_loadA ag23 (.tmp 44) rfl qx (0 + 2) rfl (bcells x.root) (bc32 HX.out.root) (rootAt (Rw2.out.at 0 rfl) HX.out.root)) ?_
        simp only [Act.put, List.setIfInBounds_toArray, List.set_cons_succ, List.set_cons_zero]
        refine wl (by kernel_rfl) (.pointer (some ⟨qy, 0 + 2, none⟩)) _ (run_fieldOp' f26_2 (.tmp 3) rfl qy (0) rfl) ?_
        simp only [Act.put, List.setIfInBounds_toArray, List.set_cons_succ, List.set_cons_zero]
        refine wl (by kernel_rfl) (.agg (bcells y.root).toArray) _ (run_loadA ag23 (.tmp 46) rfl qy (0 + 2) rfl (bcells y.root) (bc32 HY.out.root) (rootAt (Rw2.out.at 1 rfl) HY.out.root)) ?_
        simp only [Act.put, List.setIfInBounds_toArray, List.set_cons_succ, List.set_cons_zero]
        refine wl (by kernel_rfl) (.bool true) _ (rx_eqH (.tmp 45) (.tmp 47) rfl x.root y.root HX.out.isH HY.out.isH rfl rfl true HE2.out) ?_
        simp only [Act.put, List.setIfInBounds_toArray, List.set_cons_succ, List.set_cons_zero]
        refine wl rfl (.bool true) _ (run_pickZ (.tmp 43) (.tmp 48) (.const (.bool false)) rfl true (.bool true) rfl rfl) ?_
        simp only [Act.put, List.setIfInBounds_toArray, List.set_cons_succ, List.set_cons_zero]
        refine wl rfl (.bool true) _ (run_mvZ (.tmp 49) rfl (.bool true) rfl) ?_
        simp only [Act.put, List.setIfInBounds_toArray, List.set_cons_succ, List.set_cons_zero]
        refine wl (by kernel_rfl) (.pointer (some ⟨qx, 0 + 34, none⟩)) _ (run_fieldOp' f26_3 (.tmp 2) rfl qx (0) rfl) ?_
        simp only [Act.put, List.setIfInBounds_toArray, List.set_cons_succ, List.set_cons_zero]
        refine wl (by kernel_rfl) (.int .i64 x.index) _ (run_load1 o3 (.tmp 51) rfl qx (0 + 34) rfl (.int .i64 x.index) ((Rw2.out.at 0 rfl).at 34 _ (rcB vx HX.out.root 0))) ?_
        simp only [Act.put, List.setIfInBounds_toArray, List.set_cons_succ, List.set_cons_zero]
        refine wl (by kernel_rfl) (.pointer (some ⟨qy, 0 + 34, none⟩)) _ (run_fieldOp' f26_3 (.tmp 3) rfl qy (0) rfl) ?_
        simp only [Act.put, List.setIfInBounds_toArray, List.set_cons_succ, List.set_cons_zero]
        refine wl (by kernel_rfl) (.int .i64 y.index) _ (run_load1 o3 (.tmp 53) rfl qy (0 + 34) rfl (.int .i64 y.index) ((Rw2.out.at 1 rfl).at 34 _ (rcB vy HY.out.root 0))) ?_
        simp only [Act.put, List.setIfInBounds_toArray, List.set_cons_succ, List.set_cons_zero]
        refine wl (by kernel_rfl) (.bool true) _ (run_eqZ (.tmp 52) (.tmp 54) rfl x.index y.index rfl rfl true HE3.out) ?_
        simp only [Act.put, List.setIfInBounds_toArray, List.set_cons_succ, List.set_cons_zero]
        refine wl rfl (.bool true) _ (run_pickZ (.tmp 50) (.tmp 55) (.const (.bool false)) rfl true (.bool true) rfl rfl) ?_
        simp only [Act.put, List.setIfInBounds_toArray, List.set_cons_succ, List.set_cons_zero]
        refine wl rfl (.bool true) _ (run_mvZ (.tmp 56) rfl (.bool true) rfl) ?_
        simp only [Act.put, List.setIfInBounds_toArray, List.set_cons_succ, List.set_cons_zero]
        refine wl (by kernel_rfl) (.pointer (some ⟨qx, 0 + 35, none⟩)) _ (run_fieldOp' f26_4 (.tmp 2) rfl qx (0) rfl) ?_
        simp only [Act.put, List.setIfInBounds_toArray, List.set_cons_succ, List.set_cons_zero]
        refine wl (by kernel_rfl) (.int .i64 x.expiry) _ (run_load1 o3 (.tmp 58) rfl qx (0 + 35) rfl (.int .i64 x.expiry) ((Rw2.out.at 0 rfl).at 35 _ (rcB vx HX.out.root 1))) ?_
        simp only [Act.put, List.setIfInBounds_toArray, List.set_cons_succ, List.set_cons_zero]
        refine wl (by kernel_rfl) (.pointer (some ⟨qy, 0 + 35, none⟩)) _ (run_fieldOp' f26_4 (.tmp 3) rfl qy (0) rfl) ?_
        simp only [Act.put, List.setIfInBounds_toArray, List.set_cons_succ, List.set_cons_zero]
        refine wl (by kernel_rfl) (.int .i64 y.expiry) _ (run_load1 o3 (.tmp 60) rfl qy (0 + 35) rfl (.int .i64 y.expiry) ((Rw2.out.at 1 rfl).at 35 _ (rcB vy HY.out.root 1))) ?_
        simp only [Act.put, List.setIfInBounds_toArray, List.set_cons_succ, List.set_cons_zero]
        refine wl (by kernel_rfl) (.bool true) _ (run_eqZ (.tmp 59) (.tmp 61) rfl x.expiry y.expiry rfl rfl true HE4.out) ?_
        simp only [Act.put, List.setIfInBounds_toArray, List.set_cons_succ, List.set_cons_zero]
        refine wl rfl (.bool true) _ (run_pickZ (.tmp 57) (.tmp 62) (.const (.bool false)) rfl true (.bool true) rfl rfl) ?_
        simp only [Act.put, List.setIfInBounds_toArray, List.set_cons_succ, List.set_cons_zero]
        refine wl rfl (.bool true) _ (run_mvZ (.tmp 63) rfl (.bool true) rfl) ?_
        simp only [Act.put, List.setIfInBounds_toArray, List.set_cons_succ, List.set_cons_zero]
        refine wl (by kernel_rfl) (.pointer (some ⟨qx, 0 + 36, none⟩)) _ (run_fieldOp' f26_5 (.tmp 2) rfl qx (0) rfl) ?_
        simp only [Act.put, List.setIfInBounds_toArray, List.set_cons_succ, List.set_cons_zero]
        refine wl (by kernel_rfl) (.bool x.hold) _ (run_load1 o4 (.tmp 65) rfl qx (0 + 36) rfl (.bool x.hold) ((Rw2.out.at 0 rfl).at 36 _ (rcB vx HX.out.root 2))) ?_
        simp only [Act.put, List.setIfInBounds_toArray, List.set_cons_succ, List.set_cons_zero]
        refine wl (by kernel_rfl) (.pointer (some ⟨qy, 0 + 36, none⟩)) _ (run_fieldOp' f26_5 (.tmp 3) rfl qy (0) rfl) ?_
        simp only [Act.put, List.setIfInBounds_toArray, List.set_cons_succ, List.set_cons_zero]
        refine wl (by kernel_rfl) (.bool y.hold) _ (run_load1 o4 (.tmp 67) rfl qy (0 + 36) rfl (.bool y.hold) ((Rw2.out.at 1 rfl).at 36 _ (rcB vy HY.out.root 2))) ?_
        simp only [Act.put, List.setIfInBounds_toArray, List.set_cons_succ, List.set_cons_zero]
        refine wl (by kernel_rfl) (.bool false) _ (rx_eqBool (.tmp 66) (.tmp 68) rfl x.hold y.hold rfl rfl false HE5.out) ?_
        simp only [Act.put, List.setIfInBounds_toArray, List.set_cons_succ, List.set_cons_zero]
        refine wl rfl (.bool false) _ (run_pickZ (.tmp 64) (.tmp 69) (.const (.bool false)) rfl true (.bool false) rfl rfl) ?_
        simp only [Act.put, List.setIfInBounds_toArray, List.set_cons_succ, List.set_cons_zero]
        refine wl rfl (.bool false) _ (run_mvZ (.tmp 70) rfl (.bool false) rfl) ?_
        simp only [Act.put, List.setIfInBounds_toArray, List.set_cons_succ, List.set_cons_zero]
        refine wpList_skip (by kernel_rfl) ?_
        simp only [Act.put, List.setIfInBounds_toArray, List.set_cons_succ, List.set_cons_zero]
        refine wpList_skip (by kernel_rfl) ?_
        simp only [Act.put, List.setIfInBounds_toArray, List.set_cons_succ, List.set_cons_zero]
        refine wpList_skip (by kernel_rfl) ?_
        simp only [Act.put, List.setIfInBounds_toArray, List.set_cons_succ, List.set_cons_zero]
        refine wpList_skip (by kernel_rfl) ?_
        simp only [Act.put, List.setIfInBounds_toArray, List.set_cons_succ, List.set_cons_zero]
        refine wpList_skip (by kernel_rfl) ?_
        simp only [Act.put, List.setIfInBounds_toArray, List.set_cons_succ, List.set_cons_zero]
        refine wl rfl (.bool false) _ (run_pickZ (.tmp 71) (.tmp 76) (.const (.bool false)) rfl false (.bool false) rfl rfl) ?_
        simp only [Act.put, List.setIfInBounds_toArray, List.set_cons_succ, List.set_cons_zero]
        refine wl rfl (.bool false) _ (run_asZ (.tmp 77) rfl (.bool false) rfl) ?_
        simp only [Act.put, List.setIfInBounds_toArray, List.set_cons_succ, List.set_cons_zero]
        refine wpList_nil ?_
        go_wp2_with fail
        rw [HPQ.out]
        exact ⟨false, rfl, ⟨fun h => absurd h (by decide), fun h => absurd (by rw [h] : x.hold = y.hold) (of_decide_eq_false HE5.out)⟩, Rw2.out.below⟩
      | true =>
      cases e6 with
      | false =>
        skip
        refine wp_region_lit ?_
        refine wl rfl (.pointer (some ⟨qx, 0 + 0, none⟩)) _ (run_fieldOp' f26_0 (.tmp 2) rfl qx (0) rfl) ?_
        simp only [Act.put, List.setIfInBounds_toArray, List.set_cons_succ, List.set_cons_zero]
        refine wl rfl (str x.id) _ (run_load1 o9 (.tmp 31) rfl qx (0 + 0) rfl (str x.id) ((Rw2.out.at 0 rfl).at 0 _ (rc0 x vx))) ?_
        simp only [Act.put, List.setIfInBounds_toArray, List.set_cons_succ, List.set_cons_zero]
        refine wl rfl (.pointer (some ⟨qy, 0 + 0, none⟩)) _ (run_fieldOp' f26_0 (.tmp 3) rfl qy (0) rfl) ?_
        simp only [Act.put, List.setIfInBounds_toArray, List.set_cons_succ, List.set_cons_zero]
        refine wl rfl (str y.id) _ (run_load1 o9 (.tmp 33) rfl qy (0 + 0) rfl (str y.id) ((Rw2.out.at 1 rfl).at 0 _ (rc0 y vy))) ?_
        simp only [Act.put, List.setIfInBounds_toArray, List.set_cons_succ, List.set_cons_zero]
        refine wl rfl (.bool true) _ (rx_seq (.tmp 32) (.tmp 34) rfl x.id y.id rfl rfl HX.out.id HY.out.id true HE0.out) ?_
        simp only [Act.put, List.setIfInBounds_toArray, List.set_cons_succ, List.set_cons_zero]
        refine wl rfl (.bool true) _ (run_mvZ (.tmp 35) rfl (.bool true) rfl) ?_
        simp only [Act.put, List.setIfInBounds_toArray, List.set_cons_succ, List.set_cons_zero]
        refine wl (by kernel_rfl) (.pointer (some ⟨qx, 0 + 1, none⟩)) _ (run_fieldOp' f26_1 (.tmp 2) rfl qx (0) rfl) ?_
        simp only [Act.put, List.setIfInBounds_toArray, List.set_cons_succ, List.set_cons_zero]
        refine wl (by kernel_rfl) (.int .i64 x.length) _ (run_load1 o3 (.tmp 37) rfl qx (0 + 1) rfl (.int .i64 x.length) ((Rw2.out.at 0 rfl).at 1 _ (rc1 x vx))) ?_
        simp only [Act.put, List.setIfInBounds_toArray, List.set_cons_succ, List.set_cons_zero]
        refine wl (by kernel_rfl) (.pointer (some ⟨qy, 0 + 1, none⟩)) _ (run_fieldOp' f26_1 (.tmp 3) rfl qy (0) rfl) ?_
        simp only [Act.put, List.setIfInBounds_toArray, List.set_cons_succ, List.set_cons_zero]
        refine wl (by kernel_rfl) (.int .i64 y.length) _ (run_load1 o3 (.tmp 39) rfl qy (0 + 1) rfl (.int .i64 y.length) ((Rw2.out.at 1 rfl).at 1 _ (rc1 y vy))) ?_
        simp only [Act.put, List.setIfInBounds_toArray, List.set_cons_succ, List.set_cons_zero]
        refine wl (by kernel_rfl) (.bool true) _ (run_eqZ (.tmp 38) (.tmp 40) rfl x.length y.length rfl rfl true HE1.out) ?_
        simp only [Act.put, List.setIfInBounds_toArray, List.set_cons_succ, List.set_cons_zero]
        refine wl rfl (.bool true) _ (run_pickZ (.tmp 36) (.tmp 41) (.const (.bool false)) rfl true (.bool true) rfl rfl) ?_
        simp only [Act.put, List.setIfInBounds_toArray, List.set_cons_succ, List.set_cons_zero]
        refine wl rfl (.bool true) _ (run_mvZ (.tmp 42) rfl (.bool true) rfl) ?_
        simp only [Act.put, List.setIfInBounds_toArray, List.set_cons_succ, List.set_cons_zero]
        refine wl (by kernel_rfl) (.pointer (some ⟨qx, 0 + 2, none⟩)) _ (run_fieldOp' f26_2 (.tmp 2) rfl qx (0) rfl) ?_
        simp only [Act.put, List.setIfInBounds_toArray, List.set_cons_succ, List.set_cons_zero]
        refine wl (by kernel_rfl) (.agg (bcells x.root).toArray) _ (run_loadA ag23 (.tmp 44) rfl qx (0 + 2) rfl (bcells x.root) (bc32 HX.out.root) (rootAt (Rw2.out.at 0 rfl) HX.out.root)) ?_
        simp only [Act.put, List.setIfInBounds_toArray, List.set_cons_succ, List.set_cons_zero]
        refine wl (by kernel_rfl) (.pointer (some ⟨qy, 0 + 2, none⟩)) _ (run_fieldOp' f26_2 (.tmp 3) rfl qy (0) rfl) ?_
        simp only [Act.put, List.setIfInBounds_toArray, List.set_cons_succ, List.set_cons_zero]
        refine wl (by kernel_rfl) (.agg (bcells y.root).toArray) _ (run_loadA ag23 (.tmp 46) rfl qy (0 + 2) rfl (bcells y.root) (bc32 HY.out.root) (rootAt (Rw2.out.at 1 rfl) HY.out.root)) ?_
        simp only [Act.put, List.setIfInBounds_toArray, List.set_cons_succ, List.set_cons_zero]
        refine wl (by kernel_rfl) (.bool true) _ (rx_eqH (.tmp 45) (.tmp 47) rfl x.root y.root HX.out.isH HY.out.isH rfl rfl true HE2.out) ?_
        simp only [Act.put, List.setIfInBounds_toArray, List.set_cons_succ, List.set_cons_zero]
        refine wl rfl (.bool true) _ (run_pickZ (.tmp 43) (.tmp 48) (.const (.bool false)) rfl true (.bool true) rfl rfl) ?_
        simp only [Act.put, List.setIfInBounds_toArray, List.set_cons_succ, List.set_cons_zero]
        refine wl rfl (.bool true) _ (run_mvZ (.tmp 49) rfl (.bool true) rfl) ?_
        simp only [Act.put, List.setIfInBounds_toArray, List.set_cons_succ, List.set_cons_zero]
        refine wl (by kernel_rfl) (.pointer (some ⟨qx, 0 + 34, none⟩)) _ (run_fieldOp' f26_3 (.tmp 2) rfl qx (0) rfl) ?_
        simp only [Act.put, List.setIfInBounds_toArray, List.set_cons_succ, List.set_cons_zero]
        refine wl (by kernel_rfl) (.int .i64 x.index) _ (run_load1 o3 (.tmp 51) rfl qx (0 + 34) rfl (.int .i64 x.index) ((Rw2.out.at 0 rfl).at 34 _ (rcB vx HX.out.root 0))) ?_
        simp only [Act.put, List.setIfInBounds_toArray, List.set_cons_succ, List.set_cons_zero]
        refine wl (by kernel_rfl) (.pointer (some ⟨qy, 0 + 34, none⟩)) _ (run_fieldOp' f26_3 (.tmp 3) rfl qy (0) rfl) ?_
        simp only [Act.put, List.setIfInBounds_toArray, List.set_cons_succ, List.set_cons_zero]
        refine wl (by kernel_rfl) (.int .i64 y.index) _ (run_load1 o3 (.tmp 53) rfl qy (0 + 34) rfl (.int .i64 y.index) ((Rw2.out.at 1 rfl).at 34 _ (rcB vy HY.out.root 0))) ?_
        simp only [Act.put, List.setIfInBounds_toArray, List.set_cons_succ, List.set_cons_zero]
        refine wl (by kernel_rfl) (.bool true) _ (run_eqZ (.tmp 52) (.tmp 54) rfl x.index y.index rfl rfl true HE3.out) ?_
        simp only [Act.put, List.setIfInBounds_toArray, List.set_cons_succ, List.set_cons_zero]
        refine wl rfl (.bool true) _ (run_pickZ (.tmp 50) (.tmp 55) (.const (.bool false)) rfl true (.bool true) rfl rfl) ?_
        simp only [Act.put, List.setIfInBounds_toArray, List.set_cons_succ, List.set_cons_zero]
        refine wl rfl (.bool true) _ (run_mvZ (.tmp 56) rfl (.bool true) rfl) ?_
        simp only [Act.put, List.setIfInBounds_toArray, List.set_cons_succ, List.set_cons_zero]
        refine wl (by kernel_rfl) (.pointer (some ⟨qx, 0 + 35, none⟩)) _ (run_fieldOp' f26_4 (.tmp 2) rfl qx (0) rfl) ?_
        simp only [Act.put, List.setIfInBounds_toArray, List.set_cons_succ, List.set_cons_zero]
        refine wl (by kernel_rfl) (.int .i64 x.expiry) _ (run_load1 o3 (.tmp 58) rfl qx (0 + 35) rfl (.int .i64 x.expiry) ((Rw2.out.at 0 rfl).at 35 _ (rcB vx HX.out.root 1))) ?_
        simp only [Act.put, List.setIfInBounds_toArray, List.set_cons_succ, List.set_cons_zero]
        refine wl (by kernel_rfl) (.pointer (some ⟨qy, 0 + 35, none⟩)) _ (run_fieldOp' f26_4 (.tmp 3) rfl qy (0) rfl) ?_
        simp only [Act.put, List.setIfInBounds_toArray, List.set_cons_succ, List.set_cons_zero]
        refine wl (by kernel_rfl) (.int .i64 y.expiry) _ (run_load1 o3 (.tmp 60) rfl qy (0 + 35) rfl (.int .i64 y.expiry) ((Rw2.out.at 1 rfl).at 35 _ (rcB vy HY.out.root 1))) ?_
        simp only [Act.put, List.setIfInBounds_toArray, List.set_cons_succ, List.set_cons_zero]
        refine wl (by kernel_rfl) (.bool true) _ (run_eqZ (.tmp 59) (.tmp 61) rfl x.expiry y.expiry rfl rfl true HE4.out) ?_
        simp only [Act.put, List.setIfInBounds_toArray, List.set_cons_succ, List.set_cons_zero]
        refine wl rfl (.bool true) _ (run_pickZ (.tmp 57) (.tmp 62) (.const (.bool false)) rfl true (.bool true) rfl rfl) ?_
        simp only [Act.put, List.setIfInBounds_toArray, List.set_cons_succ, List.set_cons_zero]
        refine wl rfl (.bool true) _ (run_mvZ (.tmp 63) rfl (.bool true) rfl) ?_
        simp only [Act.put, List.setIfInBounds_toArray, List.set_cons_succ, List.set_cons_zero]
        refine wl (by kernel_rfl) (.pointer (some ⟨qx, 0 + 36, none⟩)) _ (run_fieldOp' f26_5 (.tmp 2) rfl qx (0) rfl) ?_
        simp only [Act.put, List.setIfInBounds_toArray, List.set_cons_succ, List.set_cons_zero]
        refine wl (by kernel_rfl) (.bool x.hold) _ (run_load1 o4 (.tmp 65) rfl qx (0 + 36) rfl (.bool x.hold) ((Rw2.out.at 0 rfl).at 36 _ (rcB vx HX.out.root 2))) ?_
        simp only [Act.put, List.setIfInBounds_toArray, List.set_cons_succ, List.set_cons_zero]
        refine wl (by kernel_rfl) (.pointer (some ⟨qy, 0 + 36, none⟩)) _ (run_fieldOp' f26_5 (.tmp 3) rfl qy (0) rfl) ?_
        simp only [Act.put, List.setIfInBounds_toArray, List.set_cons_succ, List.set_cons_zero]
        refine wl (by kernel_rfl) (.bool y.hold) _ (run_load1 o4 (.tmp 67) rfl qy (0 + 36) rfl (.bool y.hold) ((Rw2.out.at 1 rfl).at 36 _ (rcB vy HY.out.root 2))) ?_
        simp only [Act.put, List.setIfInBounds_toArray, List.set_cons_succ, List.set_cons_zero]
        refine wl (by kernel_rfl) (.bool true) _ (rx_eqBool (.tmp 66) (.tmp 68) rfl x.hold y.hold rfl rfl true HE5.out) ?_
        simp only [Act.put, List.setIfInBounds_toArray, List.set_cons_succ, List.set_cons_zero]
        refine wl rfl (.bool true) _ (run_pickZ (.tmp 64) (.tmp 69) (.const (.bool false)) rfl true (.bool true) rfl rfl) ?_
        simp only [Act.put, List.setIfInBounds_toArray, List.set_cons_succ, List.set_cons_zero]
        refine wl rfl (.bool true) _ (run_mvZ (.tmp 70) rfl (.bool true) rfl) ?_
        simp only [Act.put, List.setIfInBounds_toArray, List.set_cons_succ, List.set_cons_zero]
        refine wl (by kernel_rfl) (.pointer (some ⟨qx, 0 + 37, none⟩)) _ (run_fieldOp' f26_6 (.tmp 2) rfl qx (0) rfl) ?_
        simp only [Act.put, List.setIfInBounds_toArray, List.set_cons_succ, List.set_cons_zero]
        refine wl (by kernel_rfl) (.bool x.gone) _ (run_load1 o4 (.tmp 72) rfl qx (0 + 37) rfl (.bool x.gone) ((Rw2.out.at 0 rfl).at 37 _ (rcB vx HX.out.root 3))) ?_
        simp only [Act.put, List.setIfInBounds_toArray, List.set_cons_succ, List.set_cons_zero]
        refine wl (by kernel_rfl) (.pointer (some ⟨qy, 0 + 37, none⟩)) _ (run_fieldOp' f26_6 (.tmp 3) rfl qy (0) rfl) ?_
        simp only [Act.put, List.setIfInBounds_toArray, List.set_cons_succ, List.set_cons_zero]
        refine wl (by kernel_rfl) (.bool y.gone) _ (run_load1 o4 (.tmp 74) rfl qy (0 + 37) rfl (.bool y.gone) ((Rw2.out.at 1 rfl).at 37 _ (rcB vy HY.out.root 3))) ?_
        simp only [Act.put, List.setIfInBounds_toArray, List.set_cons_succ, List.set_cons_zero]
        refine wl (by kernel_rfl) (.bool false) _ (rx_eqBool (.tmp 73) (.tmp 75) rfl x.gone y.gone rfl rfl false HE6.out) ?_
        simp only [Act.put, List.setIfInBounds_toArray, List.set_cons_succ, List.set_cons_zero]
        refine wl rfl (.bool false) _ (run_pickZ (.tmp 71) (.tmp 76) (.const (.bool false)) rfl true (.bool false) rfl rfl) ?_
        simp only [Act.put, List.setIfInBounds_toArray, List.set_cons_succ, List.set_cons_zero]
        refine wl rfl (.bool false) _ (run_asZ (.tmp 77) rfl (.bool false) rfl) ?_
        simp only [Act.put, List.setIfInBounds_toArray, List.set_cons_succ, List.set_cons_zero]
        refine wpList_nil ?_
        go_wp2_with fail
        rw [HPQ.out]
        exact ⟨false, rfl, ⟨fun h => absurd h (by decide), fun h => absurd (by rw [h] : x.gone = y.gone) (of_decide_eq_false HE6.out)⟩, Rw2.out.below⟩
      | true =>
        skip
        refine wp_region_lit ?_
        refine wl rfl (.pointer (some ⟨qx, 0 + 0, none⟩)) _ (run_fieldOp' f26_0 (.tmp 2) rfl qx (0) rfl) ?_
        simp only [Act.put, List.setIfInBounds_toArray, List.set_cons_succ, List.set_cons_zero]
        refine wl rfl (str x.id) _ (run_load1 o9 (.tmp 31) rfl qx (0 + 0) rfl (str x.id) ((Rw2.out.at 0 rfl).at 0 _ (rc0 x vx))) ?_
        simp only [Act.put, List.setIfInBounds_toArray, List.set_cons_succ, List.set_cons_zero]
        refine wl rfl (.pointer (some ⟨qy, 0 + 0, none⟩)) _ (run_fieldOp' f26_0 (.tmp 3) rfl qy (0) rfl) ?_
        simp only [Act.put, List.setIfInBounds_toArray, List.set_cons_succ, List.set_cons_zero]
        refine wl rfl (str y.id) _ (run_load1 o9 (.tmp 33) rfl qy (0 + 0) rfl (str y.id) ((Rw2.out.at 1 rfl).at 0 _ (rc0 y vy))) ?_
        simp only [Act.put, List.setIfInBounds_toArray, List.set_cons_succ, List.set_cons_zero]
        refine wl rfl (.bool true) _ (rx_seq (.tmp 32) (.tmp 34) rfl x.id y.id rfl rfl HX.out.id HY.out.id true HE0.out) ?_
        simp only [Act.put, List.setIfInBounds_toArray, List.set_cons_succ, List.set_cons_zero]
        refine wl rfl (.bool true) _ (run_mvZ (.tmp 35) rfl (.bool true) rfl) ?_
        simp only [Act.put, List.setIfInBounds_toArray, List.set_cons_succ, List.set_cons_zero]
        refine wl (by kernel_rfl) (.pointer (some ⟨qx, 0 + 1, none⟩)) _ (run_fieldOp' f26_1 (.tmp 2) rfl qx (0) rfl) ?_
        simp only [Act.put, List.setIfInBounds_toArray, List.set_cons_succ, List.set_cons_zero]
        refine wl (by kernel_rfl) (.int .i64 x.length) _ (run_load1 o3 (.tmp 37) rfl qx (0 + 1) rfl (.int .i64 x.length) ((Rw2.out.at 0 rfl).at 1 _ (rc1 x vx))) ?_
        simp only [Act.put, List.setIfInBounds_toArray, List.set_cons_succ, List.set_cons_zero]
        refine wl (by kernel_rfl) (.pointer (some ⟨qy, 0 + 1, none⟩)) _ (run_fieldOp' f26_1 (.tmp 3) rfl qy (0) rfl) ?_
        simp only [Act.put, List.setIfInBounds_toArray, List.set_cons_succ, List.set_cons_zero]
        refine wl (by kernel_rfl) (.int .i64 y.length) _ (run_load1 o3 (.tmp 39) rfl qy (0 + 1) rfl (.int .i64 y.length) ((Rw2.out.at 1 rfl).at 1 _ (rc1 y vy))) ?_
        simp only [Act.put, List.setIfInBounds_toArray, List.set_cons_succ, List.set_cons_zero]
        refine wl (by kernel_rfl) (.bool true) _ (run_eqZ (.tmp 38) (.tmp 40) rfl x.length y.length rfl rfl true HE1.out) ?_
        simp only [Act.put, List.setIfInBounds_toArray, List.set_cons_succ, List.set_cons_zero]
        refine wl rfl (.bool true) _ (run_pickZ (.tmp 36) (.tmp 41) (.const (.bool false)) rfl true (.bool true) rfl rfl) ?_
        simp only [Act.put, List.setIfInBounds_toArray, List.set_cons_succ, List.set_cons_zero]
        refine wl rfl (.bool true) _ (run_mvZ (.tmp 42) rfl (.bool true) rfl) ?_
        simp only [Act.put, List.setIfInBounds_toArray, List.set_cons_succ, List.set_cons_zero]
        refine wl (by kernel_rfl) (.pointer (some ⟨qx, 0 + 2, none⟩)) _ (run_fieldOp' f26_2 (.tmp 2) rfl qx (0) rfl) ?_
        simp only [Act.put, List.setIfInBounds_toArray, List.set_cons_succ, List.set_cons_zero]
        refine wl (by kernel_rfl) (.agg (bcells x.root).toArray) _ (run_loadA ag23 (.tmp 44) rfl qx (0 + 2) rfl (bcells x.root) (bc32 HX.out.root) (rootAt (Rw2.out.at 0 rfl) HX.out.root)) ?_
        simp only [Act.put, List.setIfInBounds_toArray, List.set_cons_succ, List.set_cons_zero]
        refine wl (by kernel_rfl) (.pointer (some ⟨qy, 0 + 2, none⟩)) _ (run_fieldOp' f26_2 (.tmp 3) rfl qy (0) rfl) ?_
        simp only [Act.put, List.setIfInBounds_toArray, List.set_cons_succ, List.set_cons_zero]
        refine wl (by kernel_rfl) (.agg (bcells y.root).toArray) _ (run_loadA ag23 (.tmp 46) rfl qy (0 + 2) rfl (bcells y.root) (bc32 HY.out.root) (rootAt (Rw2.out.at 1 rfl) HY.out.root)) ?_
        simp only [Act.put, List.setIfInBounds_toArray, List.set_cons_succ, List.set_cons_zero]
        refine wl (by kernel_rfl) (.bool true) _ (rx_eqH (.tmp 45) (.tmp 47) rfl x.root y.root HX.out.isH HY.out.isH rfl rfl true HE2.out) ?_
        simp only [Act.put, List.setIfInBounds_toArray, List.set_cons_succ, List.set_cons_zero]
        refine wl rfl (.bool true) _ (run_pickZ (.tmp 43) (.tmp 48) (.const (.bool false)) rfl true (.bool true) rfl rfl) ?_
        simp only [Act.put, List.setIfInBounds_toArray, List.set_cons_succ, List.set_cons_zero]
        refine wl rfl (.bool true) _ (run_mvZ (.tmp 49) rfl (.bool true) rfl) ?_
        simp only [Act.put, List.setIfInBounds_toArray, List.set_cons_succ, List.set_cons_zero]
        refine wl (by kernel_rfl) (.pointer (some ⟨qx, 0 + 34, none⟩)) _ (run_fieldOp' f26_3 (.tmp 2) rfl qx (0) rfl) ?_
        simp only [Act.put, List.setIfInBounds_toArray, List.set_cons_succ, List.set_cons_zero]
        refine wl (by kernel_rfl) (.int .i64 x.index) _ (run_load1 o3 (.tmp 51) rfl qx (0 + 34) rfl (.int .i64 x.index) ((Rw2.out.at 0 rfl).at 34 _ (rcB vx HX.out.root 0))) ?_
        simp only [Act.put, List.setIfInBounds_toArray, List.set_cons_succ, List.set_cons_zero]
        refine wl (by kernel_rfl) (.pointer (some ⟨qy, 0 + 34, none⟩)) _ (run_fieldOp' f26_3 (.tmp 3) rfl qy (0) rfl) ?_
        simp only [Act.put, List.setIfInBounds_toArray, List.set_cons_succ, List.set_cons_zero]
        refine wl (by kernel_rfl) (.int .i64 y.index) _ (run_load1 o3 (.tmp 53) rfl qy (0 + 34) rfl (.int .i64 y.index) ((Rw2.out.at 1 rfl).at 34 _ (rcB vy HY.out.root 0))) ?_
        simp only [Act.put, List.setIfInBounds_toArray, List.set_cons_succ, List.set_cons_zero]
        refine wl (by kernel_rfl) (.bool true) _ (run_eqZ (.tmp 52) (.tmp 54) rfl x.index y.index rfl rfl true HE3.out) ?_
        simp only [Act.put, List.setIfInBounds_toArray, List.set_cons_succ, List.set_cons_zero]
        refine wl rfl (.bool true) _ (run_pickZ (.tmp 50) (.tmp 55) (.const (.bool false)) rfl true (.bool true) rfl rfl) ?_
        simp only [Act.put, List.setIfInBounds_toArray, List.set_cons_succ, List.set_cons_zero]
        refine wl rfl (.bool true) _ (run_mvZ (.tmp 56) rfl (.bool true) rfl) ?_
        simp only [Act.put, List.setIfInBounds_toArray, List.set_cons_succ, List.set_cons_zero]
        refine wl (by kernel_rfl) (.pointer (some ⟨qx, 0 + 35, none⟩)) _ (run_fieldOp' f26_4 (.tmp 2) rfl qx (0) rfl) ?_
        simp only [Act.put, List.setIfInBounds_toArray, List.set_cons_succ, List.set_cons_zero]
        refine wl (by kernel_rfl) (.int .i64 x.expiry) _ (run_load1 o3 (.tmp 58) rfl qx (0 + 35) rfl (.int .i64 x.expiry) ((Rw2.out.at 0 rfl).at 35 _ (rcB vx HX.out.root 1))) ?_
        simp only [Act.put, List.setIfInBounds_toArray, List.set_cons_succ, List.set_cons_zero]
        refine wl (by kernel_rfl) (.pointer (some ⟨qy, 0 + 35, none⟩)) _ (run_fieldOp' f26_4 (.tmp 3) rfl qy (0) rfl) ?_
        simp only [Act.put, List.setIfInBounds_toArray, List.set_cons_succ, List.set_cons_zero]
        refine wl (by kernel_rfl) (.int .i64 y.expiry) _ (run_load1 o3 (.tmp 60) rfl qy (0 + 35) rfl (.int .i64 y.expiry) ((Rw2.out.at 1 rfl).at 35 _ (rcB vy HY.out.root 1))) ?_
        simp only [Act.put, List.setIfInBounds_toArray, List.set_cons_succ, List.set_cons_zero]
        refine wl (by kernel_rfl) (.bool true) _ (run_eqZ (.tmp 59) (.tmp 61) rfl x.expiry y.expiry rfl rfl true HE4.out) ?_
        simp only [Act.put, List.setIfInBounds_toArray, List.set_cons_succ, List.set_cons_zero]
        refine wl rfl (.bool true) _ (run_pickZ (.tmp 57) (.tmp 62) (.const (.bool false)) rfl true (.bool true) rfl rfl) ?_
        simp only [Act.put, List.setIfInBounds_toArray, List.set_cons_succ, List.set_cons_zero]
        refine wl rfl (.bool true) _ (run_mvZ (.tmp 63) rfl (.bool true) rfl) ?_
        simp only [Act.put, List.setIfInBounds_toArray, List.set_cons_succ, List.set_cons_zero]
        refine wl (by kernel_rfl) (.pointer (some ⟨qx, 0 + 36, none⟩)) _ (run_fieldOp' f26_5 (.tmp 2) rfl qx (0) rfl) ?_
        simp only [Act.put, List.setIfInBounds_toArray, List.set_cons_succ, List.set_cons_zero]
        refine wl (by kernel_rfl) (.bool x.hold) _ (run_load1 o4 (.tmp 65) rfl qx (0 + 36) rfl (.bool x.hold) ((Rw2.out.at 0 rfl).at 36 _ (rcB vx HX.out.root 2))) ?_
        simp only [Act.put, List.setIfInBounds_toArray, List.set_cons_succ, List.set_cons_zero]
        refine wl (by kernel_rfl) (.pointer (some ⟨qy, 0 + 36, none⟩)) _ (run_fieldOp' f26_5 (.tmp 3) rfl qy (0) rfl) ?_
        simp only [Act.put, List.setIfInBounds_toArray, List.set_cons_succ, List.set_cons_zero]
        refine wl (by kernel_rfl) (.bool y.hold) _ (run_load1 o4 (.tmp 67) rfl qy (0 + 36) rfl (.bool y.hold) ((Rw2.out.at 1 rfl).at 36 _ (rcB vy HY.out.root 2))) ?_
        simp only [Act.put, List.setIfInBounds_toArray, List.set_cons_succ, List.set_cons_zero]
        refine wl (by kernel_rfl) (.bool true) _ (rx_eqBool (.tmp 66) (.tmp 68) rfl x.hold y.hold rfl rfl true HE5.out) ?_
        simp only [Act.put, List.setIfInBounds_toArray, List.set_cons_succ, List.set_cons_zero]
        refine wl rfl (.bool true) _ (run_pickZ (.tmp 64) (.tmp 69) (.const (.bool false)) rfl true (.bool true) rfl rfl) ?_
        simp only [Act.put, List.setIfInBounds_toArray, List.set_cons_succ, List.set_cons_zero]
        refine wl rfl (.bool true) _ (run_mvZ (.tmp 70) rfl (.bool true) rfl) ?_
        simp only [Act.put, List.setIfInBounds_toArray, List.set_cons_succ, List.set_cons_zero]
        refine wl (by kernel_rfl) (.pointer (some ⟨qx, 0 + 37, none⟩)) _ (run_fieldOp' f26_6 (.tmp 2) rfl qx (0) rfl) ?_
        simp only [Act.put, List.setIfInBounds_toArray, List.set_cons_succ, List.set_cons_zero]
        refine wl (by kernel_rfl) (.bool x.gone) _ (run_load1 o4 (.tmp 72) rfl qx (0 + 37) rfl (.bool x.gone) ((Rw2.out.at 0 rfl).at 37 _ (rcB vx HX.out.root 3))) ?_
        simp only [Act.put, List.setIfInBounds_toArray, List.set_cons_succ, List.set_cons_zero]
        refine wl (by kernel_rfl) (.pointer (some ⟨qy, 0 + 37, none⟩)) _ (run_fieldOp' f26_6 (.tmp 3) rfl qy (0) rfl) ?_
        simp only [Act.put, List.setIfInBounds_toArray, List.set_cons_succ, List.set_cons_zero]
        refine wl (by kernel_rfl) (.bool y.gone) _ (run_load1 o4 (.tmp 74) rfl qy (0 + 37) rfl (.bool y.gone) ((Rw2.out.at 1 rfl).at 37 _ (rcB vy HY.out.root 3))) ?_
        simp only [Act.put, List.setIfInBounds_toArray, List.set_cons_succ, List.set_cons_zero]
        refine wl (by kernel_rfl) (.bool true) _ (rx_eqBool (.tmp 73) (.tmp 75) rfl x.gone y.gone rfl rfl true HE6.out) ?_
        simp only [Act.put, List.setIfInBounds_toArray, List.set_cons_succ, List.set_cons_zero]
        refine wl rfl (.bool true) _ (run_pickZ (.tmp 71) (.tmp 76) (.const (.bool false)) rfl true (.bool true) rfl rfl) ?_
        simp only [Act.put, List.setIfInBounds_toArray, List.set_cons_succ, List.set_cons_zero]
        refine wl rfl (.bool true) _ (run_asZ (.tmp 77) rfl (.bool true) rfl) ?_
        simp only [Act.put, List.setIfInBounds_toArray, List.set_cons_succ, List.set_cons_zero]
        refine wpList_nil ?_
        go_wp2_with fail
        rw [HPQ.out]
        exact ⟨true, rfl, ⟨fun _ => rc_ext x y (of_decide_eq_true HE0.out) (of_decide_eq_true HE1.out) (of_decide_eq_true HE2.out) (of_decide_eq_true HE3.out) (of_decide_eq_true HE4.out) (of_decide_eq_true HE5.out) (of_decide_eq_true HE6.out) HCP.out, fun _ => rfl⟩, Rw2.out.below⟩
end Go.Proofs.Ytncjmolhofnpbaa

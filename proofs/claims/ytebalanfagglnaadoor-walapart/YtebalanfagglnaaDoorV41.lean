/- Layer 8: WalApart, walked. -/
import Derived.Test.YtebalanfagglnaaDoorV40
namespace Go.Proofs.YtebalanfagglnaaDoor
open Go.RowKit Go.Maps

theorem eM5 : EntersF 5 := Go.Proofs.enters_of Tryd.func5 (by kernel_rfl) rfl
theorem eM6 : EntersF 6 := Go.Proofs.enters_of Tryd.func6 (by kernel_rfl) rfl
theorem eM7 : EntersF 7 := Go.Proofs.enters_of Tryd.func7 (by kernel_rfl) rfl
theorem eM8 : EntersF 8 := Go.Proofs.enters_of Tryd.func8 (by kernel_rfl) rfl
theorem eM9 : EntersF 9 := Go.Proofs.enters_of Tryd.func9 (by kernel_rfl) rfl
theorem eM10 : EntersF 10 := Go.Proofs.enters_of Tryd.func10 (by kernel_rfl) rfl
theorem f31_0 : FieldAt 31 0 0 := fun w g off => by kernel_rfl
theorem f31_3 : FieldAt 31 3 3 := fun w g off => by kernel_rfl
theorem f38_3 : FieldAt 38 3 3 := fun w g off => by kernel_rfl
theorem o29' : OneT 29 := fun w g o v h => by simp [loadVar, isAgg, run_underlying Tryd.underlying29, h]
theorem o36' : OneT 36 := fun w g o v h => by simp [loadVar, isAgg, run_underlying Tryd.underlying36, h]
theorem ag31 : AggT 31 4 := ⟨Or.inl ⟨((Tryd.prog.underlying 31).bind fun d => match d with | .struct fs => some fs | _ => none).getD #[], by kernel_rfl⟩, by kernel_rfl⟩
def z31 : List Value := [.int .i64 0, .int .i64 0, .slice none 0 0, .slice none 0 0]
theorem zero31 : (Tryd.prog.info? 31).map (·.zero) = some (some (.agg z31.toArray)) := by kernel_rfl
theorem run_allocZ {w : World} {a : Act} {o : Oper} {t : TypeId} (ho : o.op = .alloc t) (cs : List Value) (hz : (Tryd.prog.info? t).map (·.zero) = some (some (.agg cs.toArray))) : (execOp a.eval o).run Tryd.prog w = .ok (.value (ptr w.heap.size)) (w.alloc (.cells cs.toArray t)) := by
  obtain ⟨i, hi, he⟩ := Option.map_eq_some_iff.1 hz
  simp [execOp, ho, Instr.alloc, zeroValue, typeInfo, hi, he, newVar, newRow, Value.cells]
theorem run_stV {w w' : World} {a : Act} {o : Oper} {t : TypeId} (x y : Operand) (ho : o.op = .store t x y) (g off : Nat) (hx : a.eval x = .pointer (some ⟨g, off, none⟩)) (v : Value) (hy : a.eval y = v) (hst : (storeVar t ⟨g, off, none⟩ v).run Tryd.prog w = .ok () w') : (execOp a.eval o).run Tryd.prog w = .ok .skip w' := by
  simp [execOp, ho, hx, hy, Instr.storeAt, Instr.sureAddr, hst]
theorem run_geqZ' {w : World} {a : Act} {o : Oper} (x y : Operand) (ho : o.op = .binOp .geq 3 x y 3) (z z' : Int) (hx : a.eval x = .int .i64 z) (hy : a.eval y = .int .i64 z') (b : Bool) (hb : decide (z' ≤ z) = b) : (execOp a.eval o).run Tryd.prog w = .ok (.value (.bool b)) w := by
  subst hb
  simp only [execOp, ho, hx, hy]
  simp [go_sem]
theorem run_ix22' {w : World} {a : Act} {o : Oper} (x i : Operand) (ho : o.op = .indexAddr 22 x i) (g off n cap j : Nat) (hx : a.eval x = .slice (some ⟨g, off, none⟩) n cap) (hi : a.eval i = .int .i64 (j : Nat)) (hj : j < n) : (execOp a.eval o).run Tryd.prog w = .ok (.value (.pointer (some ⟨g, off + j * 4, none⟩))) w := by
  have h := idx22 g off n cap j hj w
  simp [execOp, ho, hx, hi, h]
theorem op_one {w : World} {o : OpD} (h : OpIn w o) : ∀ v ∈ o.cells, v.oneCell' = true := opCells_one h.tx.isSl (by obtain ⟨p, cap, e, _⟩ := h.keep; exact ⟨p, _, cap, e⟩)
theorem ints_nil (w : World) : IntsIn w (.slice none 0 0) [] := ⟨none, 0, rfl, Nat.le_refl _, by decide, Or.inl rfl⟩
def SP (bo go : Nat) (o : OpD) (nv : Value) (X : World) : Prop := Row X bo 31 o.cells ∧ X.cell? ⟨go, 0 + 3, none⟩ = some nv
set_option maxHeartbeats 16000000 in
set_option maxRecDepth 100000 in
theorem walApart_any (w : World) (ht : Fr.TabIn w) (p0 : Option Addr) (n0 cap0 : Nat) (os0 : List OpD) (h0 : OpsIn w (.slice p0 n0 cap0) os0) (p1 : Option Addr) (n1 cap1 : Nat) (os1 : List OpD) (h1 : OpsIn w (.slice p1 n1 cap1) os1) : Calls Tryd.prog 3 #[.slice p0 n0 cap0, .slice p1 n1 cap1] w fun e w' => e = .returned (.bool true) ∧ Below w.heap.size w w' := by
  have HT : Hid (Fr.TabIn w ∧ 0 < w.heap.size) := ⟨ht, tab_lt ht⟩
  have HA0 : Hid (OpsIn w (.slice p0 n0 cap0) os0 ∧ n0 ≤ 1048576) := ⟨h0, h0.len⟩
  have HA1 : Hid (OpsIn w (.slice p1 n1 cap1) os1 ∧ n1 ≤ 1048576) := ⟨h1, h1.len⟩
  obtain ⟨PQ, hPQ⟩ : ∃ PQ : Ending → World → Prop, PQ = fun (e : Ending) (w' : World) => e = .returned (.bool true) ∧ Below w.heap.size w w' := ⟨_, rfl⟩
  have HPQ : Hid (PQ = fun (e : Ending) (w' : World) => e = .returned (.bool true) ∧ Below w.heap.size w w') := hPQ
  rw [← hPQ]
  clear hPQ ht h0 h1
  go_enter Tryd.func3, Tryd.ntmps3
  go_upto_region 1 with fail
  refine wp_region_lit ?_
  refine wpList_callW eM5 [] _ rfl rfl [] rfl ?_
  refine (shown_any w HT.out.1).mono ?_
  rintro e W1 ⟨rfl, b_⟩
  refine ⟨_, rfl, ?_⟩
  have HB1 : Hid (Below w.heap.size w W1) := b_
  clear b_
  simp only [Act.put, aS, aC, aZ]
  refine wl rfl (.bool true) _ (run_asZ (.tmp 16) rfl (.bool true) rfl) ?_
  simp only [Act.put, aS, aC, aZ]
  refine wpList_nil ?_
  go_upto_region 2 with fail
  refine wp_region_lit ?_
  refine wl rfl (.bool true) _ (run_mvZ (.tmp 5) rfl (.bool true) rfl) ?_
  simp only [Act.put, aS, aC, aZ]
  refine wl rfl (.bool false) _ (run_not (.tmp 17) 4 rfl true rfl) ?_
  simp only [Act.put, aS, aC, aZ]
  refine wpList_nil ?_
  go_upto_region 4 with fail
  refine wp_region_lit ?_
  refine wpList_callW eM6 [.const (.int .i64 2), .const (.int .i64 40)] _ rfl rfl [.int .i64 2, .int .i64 40] rfl ?_
  refine (made_any W1 (fun _ => (0, 0)) 2 2 40 ⟨by decide, by decide⟩ ⟨by decide, by decide⟩).mono ?_
  rintro e W2 ⟨g, c2, rfl, _, hcc, hl, b_⟩
  refine ⟨_, rfl, ?_⟩
  have H2 : Hid (Live W2 c2 2 g (newPl (List.replicate 2 ((40 : Nat) : Int)) []) ∧ (∀ b, b < w.heap.size → c2 b = (0, 0)) ∧ Below w.heap.size w W2) := ⟨hl, fun b hb => hcc b (Nat.lt_of_lt_of_le hb HB1.out.size), HB1.out.trans (b_.mono HB1.out.size)⟩
  have HM : Hid (ShapeOf (newPl (List.replicate 2 ((40 : Nat) : Int)) []) [40, 40] []) := newPl_rep 2 40
  obtain ⟨m2, hm2⟩ : ∃ m, m = newPl (List.replicate 2 ((40 : Nat) : Int)) [] := ⟨_, rfl⟩
  have HM2 : Hid (m2.on = true ∧ m2.fuse < 0 ∧ m2.steps = 0) := (by rw [hm2]; exact ⟨rfl, by show (-1 : Int) < 0; decide, rfl⟩)
  rw [← hm2] at H2 HM
  clear hcc hl b_ HB1 hm2
  simp only [Act.put, aS, aC, aZ]
  refine wl rfl (ptr g) _ (run_asZ (.tmp 19) rfl (ptr g) rfl) ?_
  simp only [Act.put, aS, aC, aZ]
  refine wpList_nil ?_
  go_upto_region 5 with fail
  refine wp_region_lit ?_
  refine wl rfl (ptr g) _ (run_mvZ (.tmp 6) rfl (ptr g) rfl) ?_
  simp only [Act.put, aS, aC, aZ]
  refine wl rfl (.bool false) _ (run_binOp' (.tmp 20) (.const (.pointer none)) rfl _ _ _ rfl rfl rfl (by kernel_rfl)) ?_
  simp only [Act.put, aS, aC, aZ]
  refine wpList_nil ?_
  go_upto_region 7 with fail
  refine wp_region_lit ?_
  refine wl rfl (ptr g) _ (run_mvZ (.tmp 6) rfl (ptr g) rfl) ?_
  simp only [Act.put, aS, aC, aZ]
  refine wpList_callW eM7 [.tmp 22, .const (.int .i64 0), .const (.int .i64 40)] _ rfl rfl [(ptr g), .int .i64 0, .int .i64 40] rfl ?_
  refine (begun_any (T := fun _ => False) H2.out.1 (i := 0) (n := 40) HM.out (by decide) rfl (by decide) HM2.out.1 HM2.out.2.1 (TabIn.later HT.out.1 H2.out.2.2) (by rw [H2.out.2.1 0 HT.out.2]; decide) (by have := HM2.out.2.2; omega) (fun _ e => e.elim)).mono ?_
  rintro e W3 ⟨c3, gx, gwx, m3, Sx, Ex, rfl, hb3⟩
  refine ⟨_, rfl, ?_⟩
  have H3 : Hid (Beg (fun _ => False) W2 c2 2 g m2 [40, 40] [] 0 40 W3 c3 gx gwx m3 Sx Ex) := hb3
  clear hb3
  simp only [Act.put, aS, aC, aZ]
  refine wl rfl (ptr gx) _ (run_asZ (.tmp 23) rfl (ptr gx) rfl) ?_
  simp only [Act.put, aS, aC, aZ]
  refine wpList_nil ?_
  go_upto_region 8 with fail
  refine wp_region_lit ?_
  refine wl rfl (ptr g) _ (run_mvZ (.tmp 6) rfl (ptr g) rfl) ?_
  simp only [Act.put, aS, aC, aZ]
  refine wpList_callW eM7 [.tmp 24, .const (.int .i64 1), .const (.int .i64 40)] _ rfl rfl [(ptr g), .int .i64 1, .int .i64 40] rfl ?_
  refine (begun_any (T := Tp gx gwx) H3.out.desk.dk.live (i := 1) (n := 40) H3.out.desk.dk.shape (by decide) rfl (by decide) H3.out.desk.jo.jc.lv.1.on H3.out.fuse H3.out.desk.dk.tab H3.out.desk.dk.tap (by have := H3.out.le; have := HM2.out.2.2; omega) (by rintro b (rfl | rfl); exact H3.out.desk.dk.row.lt; exact H3.out.desk.wal.row.lt)).mono ?_
  rintro e W4 ⟨c4, gy, gwy, m4, Sy, Ey, rfl, hb4⟩
  refine ⟨_, rfl, ?_⟩
  have H4 : Hid (LawP w W4 gx gy g (1 + 4 * 0)) := law_begun H3.out hb4 H2.out.2.2 H2.out.2.1 HM2.out.2.2
  clear hb4 H3 H2 HM HM2
  simp only [Act.put, aS, aC, aZ]
  refine wl rfl (ptr gy) _ (run_asZ (.tmp 25) rfl (ptr gy) rfl) ?_
  simp only [Act.put, aS, aC, aZ]
  refine wpList_nil ?_
  go_upto_region 9 with fail
  refine wp_region_lit ?_
  refine wl rfl (ptr gx) _ (run_mvZ (.tmp 7) rfl (ptr gx) rfl) ?_
  simp only [Act.put, aS, aC, aZ]
  refine wl rfl (.bool false) _ (run_binOp' (.tmp 26) (.const (.pointer none)) rfl _ _ _ rfl rfl rfl (by kernel_rfl)) ?_
  simp only [Act.put, aS, aC, aZ]
  refine wl rfl (.bool false) _ (run_mvZ (.tmp 27) rfl (.bool false) rfl) ?_
  simp only [Act.put, aS, aC, aZ]
  refine wl (by kernel_rfl) (ptr gy) _ (run_mvZ (.tmp 8) rfl (ptr gy) rfl) ?_
  simp only [Act.put, aS, aC, aZ]
  refine wl (by kernel_rfl) (.bool false) _ (run_binOp' (.tmp 29) (.const (.pointer none)) rfl _ _ _ rfl rfl rfl (by kernel_rfl)) ?_
  simp only [Act.put, aS, aC, aZ]
  refine wl rfl (.bool false) _ (run_pickZ (.tmp 28) (.const (.bool true)) (.tmp 30) rfl false (.bool false) rfl rfl) ?_
  simp only [Act.put, aS, aC, aZ]
  refine wpList_nil ?_
  go_upto_region 11 with fail
  go_wp2_with fail
  go_loopw [9] (fun v9 W => ∃ i : Nat, v9 = .int .i64 (i : Nat) ∧ i ≤ 1048576 ∧ LawP w W gx gy g (1 + 4 * i)) (fun v9 _ => 1048577 - (intOf v9).toNat)
  case atStart => exact ⟨0, rfl, by decide, H4.out⟩
  case round =>
    clear H4
    obtain ⟨i, rfl, hi, hst⟩ := hrel
    obtain ⟨WI, hWI⟩ : ∃ W2 : World, W2 = wr := ⟨_, rfl⟩
    subst hWI
    have HI : Hid (LawP w WI gx gy g (1 + 4 * i)) := hst
    clear hst
    have hn0 := HA0.out.2
    have hn1 := HA1.out.2
    by_cases ha : i < n0
    · have h1 : decide ((i : Int) < (n0 : Int)) = true := decide_eq_true (by omega)
      go_upto_region 12 with fail
      refine wp_region_lit ?_
      refine wl rfl (.int .i64 (i : Nat)) _ (run_mvZ (.tmp 9) rfl (.int .i64 (i : Nat)) rfl) ?_
      simp only [Act.put, aS, aC, aZ]
      refine wl rfl (.slice p0 n0 cap0) _ (run_mvZ (.tmp 0) rfl (.slice p0 n0 cap0) rfl) ?_
      simp only [Act.put, aS, aC, aZ]
      refine wl rfl (.int .i64 (n0 : Nat)) _ (run_lenZ sl22 (.tmp 33) rfl p0 n0 cap0 rfl) ?_
      simp only [Act.put, aS, aC, aZ]
      refine wl rfl (.bool true) _ (run_lssZ (.tmp 32) (.tmp 34) rfl _ _ rfl rfl true h1) ?_
      simp only [Act.put, aS, aC, aZ]
      refine wl rfl (.bool true) _ (run_mvZ (.tmp 35) rfl (.bool true) rfl) ?_
      simp only [Act.put, aS, aC, aZ]
      refine wpList_skip (by kernel_rfl) ?_
      simp only [Act.put, aS, aC, aZ]
      refine wpList_skip (by kernel_rfl) ?_
      simp only [Act.put, aS, aC, aZ]
      refine wpList_skip (by kernel_rfl) ?_
      simp only [Act.put, aS, aC, aZ]
      refine wpList_skip (by kernel_rfl) ?_
      simp only [Act.put, aS, aC, aZ]
      refine wl rfl (.bool true) _ (run_pickZ (.tmp 36) (.const (.bool true)) (.tmp 40) rfl true (.bool true) rfl rfl) ?_
      simp only [Act.put, aS, aC, aZ]
      refine wpList_nil ?_
      clear h1
      go_upto_region 14 with fail
      go_wp2_with fail
      go_loopw [10] (fun v10 W => ∃ k : Nat, v10 = .int .i64 (k : Nat) ∧ k ≤ 2 ∧ LawP w W gx gy g (1 + 4 * i + 2 * k)) (fun v10 _ => 2 - (intOf v10).toNat)
      case atStart => exact ⟨0, rfl, by decide, HI.out⟩
      case round =>
        obtain ⟨k, rfl, hk2, hst⟩ := hrel
        obtain ⟨WK, hWK⟩ : ∃ W2 : World, W2 = wr := ⟨_, rfl⟩
        subst hWK
        have HK : Hid (LawP w WK gx gy g (1 + 4 * i + 2 * k)) := hst
        clear hst
        rcases (by omega : k = 0 ∨ k = 1 ∨ k = 2) with rfl | rfl | rfl
        · go_upto_region 15 with fail
          refine wp_region_lit ?_
          refine wl rfl (.int .i64 (0 : Nat)) _ (run_mvZ (.tmp 10) rfl (.int .i64 (0 : Nat)) rfl) ?_
          simp only [Act.put, aS, aC, aZ]
          refine wl rfl (.bool true) _ (run_lssZ (.tmp 44) (.const (.int .i64 2)) rfl _ _ rfl rfl true rfl) ?_
          simp only [Act.put, aS, aC, aZ]
          refine wpList_nil ?_
          go_upto_region 17 with fail
          refine wp_region_lit ?_
          refine wl rfl (ptr gx) _ (run_mvZ (.tmp 7) rfl (ptr gx) rfl) ?_
          simp only [Act.put, aS, aC, aZ]
          refine wl rfl (ptr gx) _ (run_asZ (.tmp 48) rfl (ptr gx) rfl) ?_
          simp only [Act.put, aS, aC, aZ]
          refine wpList_nil ?_
          go_upto_region 18 with fail
          refine wp_region_lit ?_
          refine wl rfl (ptr gy) _ (run_mvZ (.tmp 8) rfl (ptr gy) rfl) ?_
          simp only [Act.put, aS, aC, aZ]
          refine wl rfl (ptr gy) _ (run_asZ (.tmp 49) rfl (ptr gy) rfl) ?_
          simp only [Act.put, aS, aC, aZ]
          refine wpList_nil ?_
          go_upto_region 19 with fail
          refine wp_region_lit ?_
          refine wl rfl (.slice p0 n0 cap0) _ (run_mvZ (.tmp 0) rfl (.slice p0 n0 cap0) rfl) ?_
          simp only [Act.put, aS, aC, aZ]
          refine wl rfl (.slice p0 n0 cap0) _ (run_asZ (.tmp 50) rfl (.slice p0 n0 cap0) rfl) ?_
          simp only [Act.put, aS, aC, aZ]
          refine wpList_nil ?_
          go_upto_region 20 with fail
          refine wp_region_lit ?_
          refine wl rfl (.int .i64 (0 : Nat)) _ (run_mvZ (.tmp 10) rfl (.int .i64 (0 : Nat)) rfl) ?_
          simp only [Act.put, aS, aC, aZ]
          refine wl rfl (.bool false) _ (run_eqZ (.tmp 51) (.const (.int .i64 1)) rfl _ _ rfl rfl false rfl) ?_
          simp only [Act.put, aS, aC, aZ]
          refine wpList_nil ?_
          by_cases hlt : i < n0
          · go_upto_region 24 with fail
            refine wp_region_lit ?_
            refine wl rfl (.int .i64 (i : Nat)) _ (run_mvZ (.tmp 9) rfl (.int .i64 (i : Nat)) rfl) ?_
            simp only [Act.put, aS, aC, aZ]
            refine wl rfl (.slice p0 n0 cap0) _ (run_mvZ (.tmp 13) rfl (.slice p0 n0 cap0) rfl) ?_
            simp only [Act.put, aS, aC, aZ]
            refine wl rfl (.int .i64 (n0 : Nat)) _ (run_lenZ sl22 (.tmp 57) rfl p0 n0 cap0 rfl) ?_
            simp only [Act.put, aS, aC, aZ]
            refine wl rfl (.bool false) _ (run_geqZ' (.tmp 56) (.tmp 58) rfl _ _ rfl rfl false (decide_eq_false (by omega))) ?_
            simp only [Act.put, aS, aC, aZ]
            refine wpList_nil ?_
            obtain ⟨fb, fo, o, rfl, ho, hoc⟩ := HA0.out.1.at i hlt
            have HOI : Hid (OpIn w o) := ho
            have HOC : Hid (∀ (j : Nat) v, o.cells[j]? = some v → WK.cell? ⟨fb, fo + i * 4 + j, none⟩ = some v) := hoc WK HK.out.below
            clear ho hoc
            go_upto_region 25 with fail
            refine wp_region_lit ?_
            refine wl rfl (.slice (some ⟨fb, fo, none⟩) n0 cap0) _ (run_mvZ (.tmp 13) rfl (.slice (some ⟨fb, fo, none⟩) n0 cap0) rfl) ?_
            simp only [Act.put, aS, aC, aZ]
            refine wl rfl (.int .i64 (i : Nat)) _ (run_mvZ (.tmp 9) rfl (.int .i64 (i : Nat)) rfl) ?_
            simp only [Act.put, aS, aC, aZ]
            refine wl rfl (.pointer (some ⟨fb, fo + i * 4, none⟩)) _ (run_ix22' (.tmp 60) (.tmp 61) rfl fb fo n0 cap0 i rfl rfl hlt) ?_
            simp only [Act.put, aS, aC, aZ]
            refine wl rfl (.agg o.cells.toArray) _ (run_loadA ag31 (.tmp 62) rfl fb (fo + i * 4) rfl o.cells rfl (fun j v hv => HOC.out j v hv)) ?_
            simp only [Act.put, aS, aC, aZ]
            refine wl rfl (ptr WK.heap.size) _ (run_allocZ rfl z31 zero31) ?_
            obtain ⟨bo, hbo⟩ : ∃ q, q = WK.heap.size := ⟨_, rfl⟩
            obtain ⟨u0, hw⟩ : ∃ W, W = WK.alloc (.cells z31.toArray 31) := ⟨_, rfl⟩
            have A0 : Hid (Below WK.heap.size WK u0 ∧ Row u0 bo 31 z31 ∧ WK.heap.size ≤ bo) := (by rw [hbo, hw]; exact ⟨below_alloc WK _, Row.new _ _ _, Nat.le_refl _⟩)
            rw [← hbo, ← hw]
            clear hbo hw
            simp only [Act.put, aS, aC, aZ]
            have hst := run_storeVar ag31 u0 bo 0 31 z31 o.cells rfl A0.out.2.1 (by simp [z31, OpD.cells, opCells]) (op_one HOI.out)
            rw [show splice z31 0 o.cells = o.cells from rfl] at hst
            refine wlS rfl rfl _ (run_stV (.tmp 14) (.tmp 63) rfl bo 0 rfl _ rfl hst) ?_
            obtain ⟨W1, hw⟩ : ∃ W, W = u0.setRow bo o.cells.toArray := ⟨_, rfl⟩
            have HR : Hid (LawP w WK gx gy g (1 + 4 * i + 2 * 0) ∧ Row W1 bo 31 o.cells ∧ Below WK.heap.size WK W1 ∧ WK.heap.size ≤ bo) := (by
              have hc : Ch (· = bo) u0 W1 := hw ▸ (Ch.refl (· = bo) u0).setRow (g := bo) (Or.inl rfl) _
              have hb : Below WK.heap.size WK W1 := A0.out.1.trans (hc.below A0.out.1.size fun i hi e => by have := A0.out.2.2; omega)
              exact ⟨HK.out, hw ▸ A0.out.2.1.setRow _, hb, A0.out.2.2⟩)
            rw [← hw]
            clear hw hst A0 HOC HK
            refine wpList_nil ?_
            obtain ⟨wk, hwk⟩ : ∃ x, x = whichOf o.k 12 := ⟨_, rfl⟩
            have HWK : Hid (wk = whichOf o.k 12) := hwk
            clear hwk
            obtain ⟨b9, hb9⟩ : ∃ b, decide ((wk : Int) = 9) = b := ⟨_, rfl⟩
            have HB9 : Hid (decide ((wk : Int) = 9) = b9) := hb9
            clear hb9
            go_upto_region 26 with fail
            refine wp_region_lit ?_
            refine wl rfl (.pointer (some ⟨bo, 0 + 0, none⟩)) _ (run_fieldOp' f31_0 (.tmp 14) rfl bo (0) rfl) ?_
            simp only [Act.put, aS, aC, aZ]
            refine wl rfl (.int .i64 o.k) _ (run_load1 o3' (.tmp 64) rfl bo (0 + 0) rfl (.int .i64 o.k) (HR.out.2.1.at 0 _ rfl)) ?_
            simp only [Act.put, aS, aC, aZ]
            refine wpList_callW eM8 [.tmp 65, .const (.int .i64 12)] _ rfl rfl [(.int .i64 o.k), .int .i64 12] rfl ?_
            refine (which_any W1 o.k 12 (by decide) HOI.out.k.1 HOI.out.k.2).mono ?_
            rintro e W_ ⟨rfl, rfl⟩
            refine ⟨_, rfl, ?_⟩
            rw [← HWK.out]
            simp only [Act.put, aS, aC, aZ]
            refine wl rfl (.bool b9) _ (run_eqZ (.tmp 66) (.const (.int .i64 9)) rfl (wk : Nat) 9 rfl rfl b9 HB9.out) ?_
            simp only [Act.put, aS, aC, aZ]
            refine wpList_nil ?_
            cases b9 with
            | true =>
              have HN : Hid (LawP w W1 gx gy g (1 + 4 * i + 2 * 0)) := HR.out.1.bel HR.out.2.2.1
              go_wp2_with fail
              refine ⟨⟨0 + 1, by go_num, by omega, HN.out.mono (by omega)⟩, ?_⟩
              simp [intOf]
            | false =>
              go_upto_region 27 with fail
              refine wp_region_lit ?_
              refine wl rfl (ptr gx) _ (run_mvZ (.tmp 11) rfl (ptr gx) rfl) ?_
              simp only [Act.put, aS, aC, aZ]
              refine wl rfl (.agg (o.cells).toArray) _ (run_loadA ag31 (.tmp 14) rfl bo (0) rfl (o.cells) rfl (fun j v hv => (by rw [Nat.zero_add]; exact HR.out.2.1.at j v hv))) ?_
              simp only [Act.put, aS, aC, aZ]
              refine wpList_callW eM9 [.tmp 68, .tmp 69] _ rfl rfl [(ptr gx), (.agg (o.cells).toArray)] rfl ?_
              refine (HR.out.1.doX HR.out.2.2.1 HR.out.2.2.2 HR.out.2.1 HT.out.2 (by omega) HOI.out).mono ?_
              rintro e W2 ⟨rfl, hl_, hr_⟩
              refine ⟨_, rfl, ?_⟩
              have H2 : Hid (LawP w W2 gx gy g (1 + 4 * i + 2 * 0 + 1)) := hl_
              have HRB : Hid (Row W2 bo 31 o.cells) := hr_
              clear hl_ hr_ HR
              simp only [Act.put, aS, aC, aZ]
              refine wl rfl (.bool true) _ (run_asZ (.tmp 70) rfl (.bool true) rfl) ?_
              simp only [Act.put, aS, aC, aZ]
              refine wpList_nil ?_
              go_upto_region 28 with fail
              refine wp_region_lit ?_
              refine wl rfl (.bool true) _ (run_mvZ (.tmp 15) rfl (.bool true) rfl) ?_
              simp only [Act.put, aS, aC, aZ]
              refine wl rfl (.bool false) _ (run_not (.tmp 71) 4 rfl true rfl) ?_
              simp only [Act.put, aS, aC, aZ]
              refine wpList_nil ?_
              obtain ⟨b10, hb10⟩ : ∃ b, decide ((wk : Int) = 10) = b := ⟨_, rfl⟩
              have HB10 : Hid (decide ((wk : Int) = 10) = b10) := hb10
              clear hb10
              obtain ⟨nv, hnv, hag⟩ := H2.out.againY HT.out.2 (by omega) o.kv o.ks HOI.out.keep
              have HNV : Hid (∃ p n c, nv = Value.slice p n c) := hnv
              have HAG : Hid (∀ X, Below W2.heap.size W2 X → X.cell? ⟨gy, 0 + 3, none⟩ = some nv ∧ Calls Tryd.prog 10 #[ptr gy, o.kv, .slice (some ⟨X.heap.size, 0, none⟩) 1 1] (X.alloc (.cells #[nv] 36)) fun e W' => e = .returned (.bool true) ∧ LawP w W' gx gy g (1 + 4 * i + 2 * 0 + 1 + 1)) := hag
              clear hnv hag
              cases b10 with
              | false =>
                go_upto_region 30 with fail
                refine wp_region_held (S := fun X => SP bo gy o nv X) (by kernel_rfl) ?_
                show wpAnyH _ _ _ _ _ 16 (Array.replicate 16 false) _ _
                obtain ⟨X, hX⟩ : ∃ X : World, X = { W2 with drawn := W2.drawn + 1 } := ⟨_, rfl⟩
                rw [← hX]
                have HX : Hid (SP bo gy o nv X ∧ Below W2.heap.size W2 X) := (by
                  have hb : Below W2.heap.size W2 X := hX ▸ ⟨rfl, rfl, rfl, Nat.le_refl _, fun _ _ => rfl⟩
                  exact ⟨⟨HRB.out.later hb HRB.out.lt, (HAG.out X hb).1⟩, hb⟩)
                clear hX
                refine takeH (i := 0) (some 73) rfl rfl (by kernel_rfl) (by kernel_rfl) (by kernel_rfl) (fun _ _ _ h => h) (gRun rfl (.pointer (some ⟨bo, 0 + 0, none⟩)) fun _ h => run_fieldOp' f31_0 (.tmp 14) rfl bo (0) rfl) HX.out.1 ?_
                simp only [Act.put, aS, aC, aZ]
                refine takeH (i := 1) (some 74) rfl rfl (by kernel_rfl) (by kernel_rfl) (by kernel_rfl) (fun _ _ _ h => h) (gRun rfl (.int .i64 o.k) fun _ h => run_load1 o3' (.tmp 73) rfl bo (0 + 0) rfl (.int .i64 o.k) (h.1.at 0 _ rfl)) HX.out.1 ?_
                simp only [Act.put, aS, aC, aZ]
                refine oneH (i := 2) (by kernel_rfl) ?_
                refine opCallG (some 75) rfl rfl rfl 8 _ (run_call eM8 [.tmp 74, .const (.int .i64 12)] _ rfl [(.int .i64 o.k), (.int .i64 12)] rfl) ?_
                refine (which_any X o.k 12 (by decide) HOI.out.k.1 HOI.out.k.2).mono ?_
                rintro e W_ ⟨rfl, rfl⟩
                refine ⟨_, rfl, ?_⟩
                rw [← HWK.out]
                refine ⟨HX.out.1, ?_⟩
                simp only [Act.put, aS, aC, aZ]
                refine takeH (i := 3) (some 76) rfl rfl (by kernel_rfl) (by kernel_rfl) (by kernel_rfl) (fun _ _ _ h => h) (gRun rfl (.bool false) fun _ h => run_eqZ (.tmp 75) (.const (.int .i64 10)) rfl (wk : Nat) 10 rfl rfl false HB10.out) HX.out.1 ?_
                simp only [Act.put, aS, aC, aZ]
                refine takeH (i := 4) (some 77) rfl rfl (by kernel_rfl) (by kernel_rfl) (by kernel_rfl) (fun _ _ _ h => h) (gRun rfl (.bool false) fun _ h => run_mvZ (.tmp 76) rfl (.bool false) rfl) HX.out.1 ?_
                simp only [Act.put, aS, aC, aZ]
                refine takeH (i := 5) (some 78) rfl rfl (by kernel_rfl) (by kernel_rfl) (by kernel_rfl) (fun _ _ _ h => h) (Or.inr ⟨by kernel_rfl, rfl⟩) HX.out.1 ?_
                simp only [Act.put, aS, aC, aZ]
                refine takeH (i := 6) (some 79) rfl rfl (by kernel_rfl) (by kernel_rfl) (by kernel_rfl) (fun _ _ _ h => h) (Or.inr ⟨by kernel_rfl, rfl⟩) HX.out.1 ?_
                simp only [Act.put, aS, aC, aZ]
                refine takeH (i := 7) (some 80) rfl rfl (by kernel_rfl) (by kernel_rfl) (by kernel_rfl) (fun _ _ _ h => h) (Or.inr ⟨by kernel_rfl, rfl⟩) HX.out.1 ?_
                simp only [Act.put, aS, aC, aZ]
                refine takeH (i := 8) (some 81) rfl rfl (by kernel_rfl) (by kernel_rfl) (by kernel_rfl) (fun _ _ _ h => h) (Or.inr ⟨by kernel_rfl, rfl⟩) HX.out.1 ?_
                simp only [Act.put, aS, aC, aZ]
                refine takeH (i := 9) (some 82) rfl rfl (by kernel_rfl) (by kernel_rfl) (by kernel_rfl) (fun _ _ _ h => h) (Or.inr ⟨by kernel_rfl, rfl⟩) HX.out.1 ?_
                simp only [Act.put, aS, aC, aZ]
                refine takeH (i := 10) (some 83) rfl rfl (by kernel_rfl) (by kernel_rfl) (by kernel_rfl) (fun _ _ _ h => h) (Or.inr ⟨by kernel_rfl, rfl⟩) HX.out.1 ?_
                simp only [Act.put, aS, aC, aZ]
                refine takeH (i := 11) (some 84) rfl rfl (by kernel_rfl) (by kernel_rfl) (by kernel_rfl) (fun _ _ _ h => h) (Or.inr ⟨by kernel_rfl, rfl⟩) HX.out.1 ?_
                simp only [Act.put, aS, aC, aZ]
                refine takeH (i := 12) (some 85) rfl rfl (by kernel_rfl) (by kernel_rfl) (by kernel_rfl) (fun _ _ _ h => h) (Or.inr ⟨by kernel_rfl, rfl⟩) HX.out.1 ?_
                simp only [Act.put, aS, aC, aZ]
                refine takeH (i := 13) (some 86) rfl rfl (by kernel_rfl) (by kernel_rfl) (by kernel_rfl) (fun _ _ _ h => h) (Or.inr ⟨by kernel_rfl, rfl⟩) HX.out.1 ?_
                simp only [Act.put, aS, aC, aZ]
                refine takeH (i := 14) (some 87) rfl rfl (by kernel_rfl) (by kernel_rfl) (by kernel_rfl) (fun _ _ _ h => h) (Or.inr ⟨by kernel_rfl, rfl⟩) HX.out.1 ?_
                simp only [Act.put, aS, aC, aZ]
                refine takeH (i := 15) (some 88) rfl rfl (by kernel_rfl) (by kernel_rfl) (by kernel_rfl) (fun _ _ _ h => h) (gRun rfl (.bool false) fun _ h => run_pickZ (.tmp 77) (.tmp 87) (.const (.bool false)) rfl false (.bool false) rfl rfl) HX.out.1 ?_
                simp only [Act.put, aS, aC, aZ]
                refine wpAnyH_done (by kernel_rfl) ?_ _
                have HN : Hid (LawP w X gx gy g (1 + 4 * i + 2 * 0 + 1)) := H2.out.bel HX.out.2
                go_wp2_with fail
                refine ⟨⟨0 + 1, by go_num, by omega, HN.out.mono (by omega)⟩, ?_⟩
                simp [intOf]
              | true =>
                go_upto_region 30 with fail
                refine wp_region_until (S := fun X => SP bo gy o nv X) 13 (by kernel_rfl) ?_
                show wpAnyU _ _ _ _ _ _ 16 (Array.replicate 16 false) _ _
                obtain ⟨X, hX⟩ : ∃ X : World, X = { W2 with drawn := W2.drawn + 1 } := ⟨_, rfl⟩
                rw [← hX]
                have HX : Hid (SP bo gy o nv X ∧ Below W2.heap.size W2 X) := (by
                  have hb : Below W2.heap.size W2 X := hX ▸ ⟨rfl, rfl, rfl, Nat.le_refl _, fun _ _ => rfl⟩
                  exact ⟨⟨HRB.out.later hb HRB.out.lt, (HAG.out X hb).1⟩, hb⟩)
                clear hX
                refine takeV (i := 0) [1, 2, 4, 13] (some 73) rfl rfl (by kernel_rfl) (by kernel_rfl) (by kernel_rfl) (by kernel_rfl) (fun _ _ _ h => h) (gRun rfl (.pointer (some ⟨bo, 0 + 0, none⟩)) fun _ h => run_fieldOp' f31_0 (.tmp 14) rfl bo (0) rfl) HX.out.1 ?_
                simp only [Act.put, aS, aC, aZ]
                refine takeV (i := 1) [2, 4, 13] (some 74) rfl rfl (by kernel_rfl) (by kernel_rfl) (by kernel_rfl) (by kernel_rfl) (fun _ _ _ h => h) (gRun rfl (.int .i64 o.k) fun _ h => run_load1 o3' (.tmp 73) rfl bo (0 + 0) rfl (.int .i64 o.k) (h.1.at 0 _ rfl)) HX.out.1 ?_
                simp only [Act.put, aS, aC, aZ]
                refine oneU (i := 2) (by kernel_rfl) ?_
                refine opCallG (some 75) rfl rfl rfl 8 _ (run_call eM8 [.tmp 74, .const (.int .i64 12)] _ rfl [(.int .i64 o.k), (.int .i64 12)] rfl) ?_
                refine (which_any X o.k 12 (by decide) HOI.out.k.1 HOI.out.k.2).mono ?_
                rintro e W_ ⟨rfl, rfl⟩
                refine ⟨_, rfl, ?_⟩
                rw [← HWK.out]
                refine ⟨fun _ => HX.out.1, ?_⟩
                simp only [Act.put, aS, aC, aZ]
                refine takeV (i := 3) [4, 13] (some 76) rfl rfl (by kernel_rfl) (by kernel_rfl) (by kernel_rfl) (by kernel_rfl) (fun _ _ _ h => h) (gRun rfl (.bool true) fun _ h => run_eqZ (.tmp 75) (.const (.int .i64 10)) rfl (wk : Nat) 10 rfl rfl true HB10.out) HX.out.1 ?_
                simp only [Act.put, aS, aC, aZ]
                refine takeV (i := 4) [13] (some 77) rfl rfl (by kernel_rfl) (by kernel_rfl) (by kernel_rfl) (by kernel_rfl) (fun _ _ _ h => h) (gRun rfl (.bool true) fun _ h => run_mvZ (.tmp 76) rfl (.bool true) rfl) HX.out.1 ?_
                simp only [Act.put, aS, aC, aZ]
                refine takeV (i := 5) [13] (some 78) rfl rfl (by kernel_rfl) (by kernel_rfl) (by kernel_rfl) (by kernel_rfl) (fun _ _ _ h => h) (gRun (by kernel_rfl) (ptr gy) fun _ h => run_mvZ (.tmp 12) rfl (ptr gy) rfl) HX.out.1 ?_
                simp only [Act.put, aS, aC, aZ]
                refine takeV (i := 6) [7, 13] (some 79) rfl rfl (by kernel_rfl) (by kernel_rfl) (by kernel_rfl) (by kernel_rfl) (fun _ _ _ h => h) (gRun (by kernel_rfl) (.pointer (some ⟨bo, 0 + 3, none⟩)) fun _ h => run_fieldOp' f31_3 (.tmp 14) rfl bo (0) rfl) HX.out.1 ?_
                simp only [Act.put, aS, aC, aZ]
                refine takeV (i := 7) [13] (some 80) rfl rfl (by kernel_rfl) (by kernel_rfl) (by kernel_rfl) (by kernel_rfl) (fun _ _ _ h => h) (gRun (by kernel_rfl) o.kv fun _ h => run_load1 o29' (.tmp 79) rfl bo (0 + 3) rfl o.kv (h.1.at 3 _ rfl)) HX.out.1 ?_
                simp only [Act.put, aS, aC, aZ]
                refine takeV (i := 8) [9, 10, 11, 12, 13] (some 81) rfl rfl (by kernel_rfl) (by kernel_rfl) (by kernel_rfl) (by kernel_rfl) (fun _ _ _ h => h) (gRun (by kernel_rfl) (ptr gy) fun _ h => run_mvZ (.tmp 12) rfl (ptr gy) rfl) HX.out.1 ?_
                simp only [Act.put, aS, aC, aZ]
                refine takeV (i := 9) [10, 11, 12, 13] (some 82) rfl rfl (by kernel_rfl) (by kernel_rfl) (by kernel_rfl) (by kernel_rfl) (fun _ _ _ h => h) (gRun (by kernel_rfl) (ptr gy) fun _ h => run_nil (.tmp 81) rfl ⟨gy, 0, none⟩ rfl) HX.out.1 ?_
                simp only [Act.put, aS, aC, aZ]
                refine takeV (i := 10) [11, 12, 13] (some 83) rfl rfl (by kernel_rfl) (by kernel_rfl) (by kernel_rfl) (by kernel_rfl) (fun _ _ _ h => h) (gRun (by kernel_rfl) (.pointer (some ⟨gy, 0 + 3, none⟩)) fun _ h => run_fieldOp' f38_3 (.tmp 82) rfl gy (0) rfl) HX.out.1 ?_
                simp only [Act.put, aS, aC, aZ]
                refine takeV (i := 11) [12, 13] (some 84) rfl rfl (by kernel_rfl) (by kernel_rfl) (by kernel_rfl) (by kernel_rfl) (fun _ _ _ h => h) (gRun (by kernel_rfl) nv fun _ h => run_load1 o36' (.tmp 83) rfl gy (0 + 3) rfl nv h.2) HX.out.1 ?_
                simp only [Act.put, aS, aC, aZ]
                refine oneU (i := 12) (by kernel_rfl) ?_
                refine opValueG (some 85) rfl rfl (by kernel_rfl) _ _ (run_lit41_1 (.tmp 84) rfl nv HNV.out rfl) ?_
                have HCA : Hid (Calls Tryd.prog 10 #[ptr gy, o.kv, .slice (some ⟨X.heap.size, 0, none⟩) 1 1] (X.alloc (.cells #[nv] 36)) fun e W' => e = .returned (.bool true) ∧ LawP w W' gx gy g (1 + 4 * i + 2 * 0 + 1 + 1)) := (HAG.out X HX.out.2).2
                have HSX : Hid (SP bo gy o nv (X.alloc (.cells #[nv] 36))) := ⟨HX.out.1.1.later (below_alloc X _) HX.out.1.1.lt, (HAG.out _ (HX.out.2.trans ((below_alloc X _).mono HX.out.2.size))).1⟩
                obtain ⟨gm, hgm⟩ : ∃ q, q = X.heap.size := ⟨_, rfl⟩
                obtain ⟨X2, hX2⟩ : ∃ W, W = X.alloc (.cells #[nv] 36) := ⟨_, rfl⟩
                rw [← hgm, ← hX2] at HCA
                rw [← hX2] at HSX
                rw [← hgm, ← hX2]
                clear hgm hX2
                refine ⟨fun _ => HSX.out, ?_⟩
                simp only [Act.put, aS, aC, aZ]
                refine oneU (i := 13) (by kernel_rfl) ?_
                refine opCallG (some 86) rfl rfl (by kernel_rfl) 10 _ (run_call eM10 [.tmp 78, .tmp 80, .tmp 85] _ rfl [(ptr gy), o.kv, (.slice (some ⟨gm, 0, none⟩) 1 1)] rfl) ?_
                refine HCA.out.mono ?_
                rintro e W5 ⟨rfl, hl5⟩
                refine ⟨_, rfl, ?_⟩
                have H5 : Hid (LawP w W5 gx gy g (1 + 4 * i + 2 * 0 + 1 + 1)) := hl5
                clear hl5 HCA
                refine ⟨fun h => absurd (show true = false from h) (by decide), ?_⟩
                simp only [Act.put, aS, aC, aZ]
                refine oneU (i := 14) (by kernel_rfl) ?_
                refine opValueG (some 87) rfl rfl (by kernel_rfl) (.bool false) _ (run_not (.tmp 86) 4 rfl true rfl) ?_
                refine ⟨fun h => absurd (show true = false from h) (by decide), ?_⟩
                simp only [Act.put, aS, aC, aZ]
                refine oneU (i := 15) (by kernel_rfl) ?_
                refine opValueG (some 88) rfl rfl rfl (.bool false) _ (run_pickZ (.tmp 77) (.tmp 87) (.const (.bool false)) rfl true (.bool false) rfl rfl) ?_
                refine ⟨fun h => absurd (show true = false from h) (by decide), ?_⟩
                simp only [Act.put, aS, aC, aZ]
                refine wpAnyU_done (by kernel_rfl) ?_ _
                have HN : Hid (LawP w W5 gx gy g (1 + 4 * i + 2 * 0 + 1 + 1)) := H5.out
                go_wp2_with fail
                refine ⟨⟨0 + 1, by go_num, by omega, HN.out.mono (by omega)⟩, ?_⟩
                simp [intOf]
          · go_upto_region 24 with fail
            refine wp_region_lit ?_
            refine wl rfl (.int .i64 (i : Nat)) _ (run_mvZ (.tmp 9) rfl (.int .i64 (i : Nat)) rfl) ?_
            simp only [Act.put, aS, aC, aZ]
            refine wl rfl (.slice p0 n0 cap0) _ (run_mvZ (.tmp 13) rfl (.slice p0 n0 cap0) rfl) ?_
            simp only [Act.put, aS, aC, aZ]
            refine wl rfl (.int .i64 (n0 : Nat)) _ (run_lenZ sl22 (.tmp 57) rfl p0 n0 cap0 rfl) ?_
            simp only [Act.put, aS, aC, aZ]
            refine wl rfl (.bool true) _ (run_geqZ' (.tmp 56) (.tmp 58) rfl _ _ rfl rfl true (decide_eq_true (by omega))) ?_
            simp only [Act.put, aS, aC, aZ]
            refine wpList_nil ?_
            have HN : Hid (LawP w WK gx gy g (1 + 4 * i + 2 * 0)) := HK.out
            go_wp2_with fail
            refine ⟨⟨0 + 1, by go_num, by omega, HN.out.mono (by omega)⟩, ?_⟩
            simp [intOf]
        · go_upto_region 15 with fail
          refine wp_region_lit ?_
          refine wl rfl (.int .i64 (1 : Nat)) _ (run_mvZ (.tmp 10) rfl (.int .i64 (1 : Nat)) rfl) ?_
          simp only [Act.put, aS, aC, aZ]
          refine wl rfl (.bool true) _ (run_lssZ (.tmp 44) (.const (.int .i64 2)) rfl _ _ rfl rfl true rfl) ?_
          simp only [Act.put, aS, aC, aZ]
          refine wpList_nil ?_
          go_upto_region 17 with fail
          refine wp_region_lit ?_
          refine wl rfl (ptr gx) _ (run_mvZ (.tmp 7) rfl (ptr gx) rfl) ?_
          simp only [Act.put, aS, aC, aZ]
          refine wl rfl (ptr gx) _ (run_asZ (.tmp 48) rfl (ptr gx) rfl) ?_
          simp only [Act.put, aS, aC, aZ]
          refine wpList_nil ?_
          go_upto_region 18 with fail
          refine wp_region_lit ?_
          refine wl rfl (ptr gy) _ (run_mvZ (.tmp 8) rfl (ptr gy) rfl) ?_
          simp only [Act.put, aS, aC, aZ]
          refine wl rfl (ptr gy) _ (run_asZ (.tmp 49) rfl (ptr gy) rfl) ?_
          simp only [Act.put, aS, aC, aZ]
          refine wpList_nil ?_
          go_upto_region 19 with fail
          refine wp_region_lit ?_
          refine wl rfl (.slice p0 n0 cap0) _ (run_mvZ (.tmp 0) rfl (.slice p0 n0 cap0) rfl) ?_
          simp only [Act.put, aS, aC, aZ]
          refine wl rfl (.slice p0 n0 cap0) _ (run_asZ (.tmp 50) rfl (.slice p0 n0 cap0) rfl) ?_
          simp only [Act.put, aS, aC, aZ]
          refine wpList_nil ?_
          go_upto_region 20 with fail
          refine wp_region_lit ?_
          refine wl rfl (.int .i64 (1 : Nat)) _ (run_mvZ (.tmp 10) rfl (.int .i64 (1 : Nat)) rfl) ?_
          simp only [Act.put, aS, aC, aZ]
          refine wl rfl (.bool true) _ (run_eqZ (.tmp 51) (.const (.int .i64 1)) rfl _ _ rfl rfl true rfl) ?_
          simp only [Act.put, aS, aC, aZ]
          refine wpList_nil ?_
          go_upto_region 21 with fail
          refine wp_region_lit ?_
          refine wl rfl (ptr gy) _ (run_mvZ (.tmp 8) rfl (ptr gy) rfl) ?_
          simp only [Act.put, aS, aC, aZ]
          refine wl rfl (ptr gy) _ (run_asZ (.tmp 53) rfl (ptr gy) rfl) ?_
          simp only [Act.put, aS, aC, aZ]
          refine wpList_nil ?_
          go_upto_region 22 with fail
          refine wp_region_lit ?_
          refine wl rfl (ptr gx) _ (run_mvZ (.tmp 7) rfl (ptr gx) rfl) ?_
          simp only [Act.put, aS, aC, aZ]
          refine wl rfl (ptr gx) _ (run_asZ (.tmp 54) rfl (ptr gx) rfl) ?_
          simp only [Act.put, aS, aC, aZ]
          refine wpList_nil ?_
          go_upto_region 23 with fail
          refine wp_region_lit ?_
          refine wl rfl (.slice p1 n1 cap1) _ (run_mvZ (.tmp 1) rfl (.slice p1 n1 cap1) rfl) ?_
          simp only [Act.put, aS, aC, aZ]
          refine wl rfl (.slice p1 n1 cap1) _ (run_asZ (.tmp 55) rfl (.slice p1 n1 cap1) rfl) ?_
          simp only [Act.put, aS, aC, aZ]
          refine wpList_nil ?_
          by_cases hlt : i < n1
          · go_upto_region 24 with fail
            refine wp_region_lit ?_
            refine wl rfl (.int .i64 (i : Nat)) _ (run_mvZ (.tmp 9) rfl (.int .i64 (i : Nat)) rfl) ?_
            simp only [Act.put, aS, aC, aZ]
            refine wl rfl (.slice p1 n1 cap1) _ (run_mvZ (.tmp 13) rfl (.slice p1 n1 cap1) rfl) ?_
            simp only [Act.put, aS, aC, aZ]
            refine wl rfl (.int .i64 (n1 : Nat)) _ (run_lenZ sl22 (.tmp 57) rfl p1 n1 cap1 rfl) ?_
            simp only [Act.put, aS, aC, aZ]
            refine wl rfl (.bool false) _ (run_geqZ' (.tmp 56) (.tmp 58) rfl _ _ rfl rfl false (decide_eq_false (by omega))) ?_
            simp only [Act.put, aS, aC, aZ]
            refine wpList_nil ?_
            obtain ⟨fb, fo, o, rfl, ho, hoc⟩ := HA1.out.1.at i hlt
            have HOI : Hid (OpIn w o) := ho
            have HOC : Hid (∀ (j : Nat) v, o.cells[j]? = some v → WK.cell? ⟨fb, fo + i * 4 + j, none⟩ = some v) := hoc WK HK.out.below
            clear ho hoc
            go_upto_region 25 with fail
            refine wp_region_lit ?_
            refine wl rfl (.slice (some ⟨fb, fo, none⟩) n1 cap1) _ (run_mvZ (.tmp 13) rfl (.slice (some ⟨fb, fo, none⟩) n1 cap1) rfl) ?_
            simp only [Act.put, aS, aC, aZ]
            refine wl rfl (.int .i64 (i : Nat)) _ (run_mvZ (.tmp 9) rfl (.int .i64 (i : Nat)) rfl) ?_
            simp only [Act.put, aS, aC, aZ]
            refine wl rfl (.pointer (some ⟨fb, fo + i * 4, none⟩)) _ (run_ix22' (.tmp 60) (.tmp 61) rfl fb fo n1 cap1 i rfl rfl hlt) ?_
            simp only [Act.put, aS, aC, aZ]
            refine wl rfl (.agg o.cells.toArray) _ (run_loadA ag31 (.tmp 62) rfl fb (fo + i * 4) rfl o.cells rfl (fun j v hv => HOC.out j v hv)) ?_
            simp only [Act.put, aS, aC, aZ]
            refine wl rfl (ptr WK.heap.size) _ (run_allocZ rfl z31 zero31) ?_
            obtain ⟨bo, hbo⟩ : ∃ q, q = WK.heap.size := ⟨_, rfl⟩
            obtain ⟨u0, hw⟩ : ∃ W, W = WK.alloc (.cells z31.toArray 31) := ⟨_, rfl⟩
            have A0 : Hid (Below WK.heap.size WK u0 ∧ Row u0 bo 31 z31 ∧ WK.heap.size ≤ bo) := (by rw [hbo, hw]; exact ⟨below_alloc WK _, Row.new _ _ _, Nat.le_refl _⟩)
            rw [← hbo, ← hw]
            clear hbo hw
            simp only [Act.put, aS, aC, aZ]
            have hst := run_storeVar ag31 u0 bo 0 31 z31 o.cells rfl A0.out.2.1 (by simp [z31, OpD.cells, opCells]) (op_one HOI.out)
            rw [show splice z31 0 o.cells = o.cells from rfl] at hst
            refine wlS rfl rfl _ (run_stV (.tmp 14) (.tmp 63) rfl bo 0 rfl _ rfl hst) ?_
            obtain ⟨W1, hw⟩ : ∃ W, W = u0.setRow bo o.cells.toArray := ⟨_, rfl⟩
            have HR : Hid (LawP w WK gx gy g (1 + 4 * i + 2 * 1) ∧ Row W1 bo 31 o.cells ∧ Below WK.heap.size WK W1 ∧ WK.heap.size ≤ bo) := (by
              have hc : Ch (· = bo) u0 W1 := hw ▸ (Ch.refl (· = bo) u0).setRow (g := bo) (Or.inl rfl) _
              have hb : Below WK.heap.size WK W1 := A0.out.1.trans (hc.below A0.out.1.size fun i hi e => by have := A0.out.2.2; omega)
              exact ⟨HK.out, hw ▸ A0.out.2.1.setRow _, hb, A0.out.2.2⟩)
            rw [← hw]
            clear hw hst A0 HOC HK
            refine wpList_nil ?_
            obtain ⟨wk, hwk⟩ : ∃ x, x = whichOf o.k 12 := ⟨_, rfl⟩
            have HWK : Hid (wk = whichOf o.k 12) := hwk
            clear hwk
            obtain ⟨b9, hb9⟩ : ∃ b, decide ((wk : Int) = 9) = b := ⟨_, rfl⟩
            have HB9 : Hid (decide ((wk : Int) = 9) = b9) := hb9
            clear hb9
            go_upto_region 26 with fail
            refine wp_region_lit ?_
            refine wl rfl (.pointer (some ⟨bo, 0 + 0, none⟩)) _ (run_fieldOp' f31_0 (.tmp 14) rfl bo (0) rfl) ?_
            simp only [Act.put, aS, aC, aZ]
            refine wl rfl (.int .i64 o.k) _ (run_load1 o3' (.tmp 64) rfl bo (0 + 0) rfl (.int .i64 o.k) (HR.out.2.1.at 0 _ rfl)) ?_
            simp only [Act.put, aS, aC, aZ]
            refine wpList_callW eM8 [.tmp 65, .const (.int .i64 12)] _ rfl rfl [(.int .i64 o.k), .int .i64 12] rfl ?_
            refine (which_any W1 o.k 12 (by decide) HOI.out.k.1 HOI.out.k.2).mono ?_
            rintro e W_ ⟨rfl, rfl⟩
            refine ⟨_, rfl, ?_⟩
            rw [← HWK.out]
            simp only [Act.put, aS, aC, aZ]
            refine wl rfl (.bool b9) _ (run_eqZ (.tmp 66) (.const (.int .i64 9)) rfl (wk : Nat) 9 rfl rfl b9 HB9.out) ?_
            simp only [Act.put, aS, aC, aZ]
            refine wpList_nil ?_
            cases b9 with
            | true =>
              have HN : Hid (LawP w W1 gx gy g (1 + 4 * i + 2 * 1)) := HR.out.1.bel HR.out.2.2.1
              go_wp2_with fail
              refine ⟨⟨1 + 1, by go_num, by omega, HN.out.mono (by omega)⟩, ?_⟩
              simp [intOf]
            | false =>
              go_upto_region 27 with fail
              refine wp_region_lit ?_
              refine wl rfl (ptr gy) _ (run_mvZ (.tmp 11) rfl (ptr gy) rfl) ?_
              simp only [Act.put, aS, aC, aZ]
              refine wl rfl (.agg (o.cells).toArray) _ (run_loadA ag31 (.tmp 14) rfl bo (0) rfl (o.cells) rfl (fun j v hv => (by rw [Nat.zero_add]; exact HR.out.2.1.at j v hv))) ?_
              simp only [Act.put, aS, aC, aZ]
              refine wpList_callW eM9 [.tmp 68, .tmp 69] _ rfl rfl [(ptr gy), (.agg (o.cells).toArray)] rfl ?_
              refine (HR.out.1.doY HR.out.2.2.1 HR.out.2.2.2 HR.out.2.1 HT.out.2 (by omega) HOI.out).mono ?_
              rintro e W2 ⟨rfl, hl_, hr_⟩
              refine ⟨_, rfl, ?_⟩
              have H2 : Hid (LawP w W2 gx gy g (1 + 4 * i + 2 * 1 + 1)) := hl_
              have HRB : Hid (Row W2 bo 31 o.cells) := hr_
              clear hl_ hr_ HR
              simp only [Act.put, aS, aC, aZ]
              refine wl rfl (.bool true) _ (run_asZ (.tmp 70) rfl (.bool true) rfl) ?_
              simp only [Act.put, aS, aC, aZ]
              refine wpList_nil ?_
              go_upto_region 28 with fail
              refine wp_region_lit ?_
              refine wl rfl (.bool true) _ (run_mvZ (.tmp 15) rfl (.bool true) rfl) ?_
              simp only [Act.put, aS, aC, aZ]
              refine wl rfl (.bool false) _ (run_not (.tmp 71) 4 rfl true rfl) ?_
              simp only [Act.put, aS, aC, aZ]
              refine wpList_nil ?_
              obtain ⟨b10, hb10⟩ : ∃ b, decide ((wk : Int) = 10) = b := ⟨_, rfl⟩
              have HB10 : Hid (decide ((wk : Int) = 10) = b10) := hb10
              clear hb10
              obtain ⟨nv, hnv, hag⟩ := H2.out.againX HT.out.2 (by omega) o.kv o.ks HOI.out.keep
              have HNV : Hid (∃ p n c, nv = Value.slice p n c) := hnv
              have HAG : Hid (∀ X, Below W2.heap.size W2 X → X.cell? ⟨gx, 0 + 3, none⟩ = some nv ∧ Calls Tryd.prog 10 #[ptr gx, o.kv, .slice (some ⟨X.heap.size, 0, none⟩) 1 1] (X.alloc (.cells #[nv] 36)) fun e W' => e = .returned (.bool true) ∧ LawP w W' gx gy g (1 + 4 * i + 2 * 1 + 1 + 1)) := hag
              clear hnv hag
              cases b10 with
              | false =>
                go_upto_region 30 with fail
                refine wp_region_held (S := fun X => SP bo gx o nv X) (by kernel_rfl) ?_
                show wpAnyH _ _ _ _ _ 16 (Array.replicate 16 false) _ _
                obtain ⟨X, hX⟩ : ∃ X : World, X = { W2 with drawn := W2.drawn + 1 } := ⟨_, rfl⟩
                rw [← hX]
                have HX : Hid (SP bo gx o nv X ∧ Below W2.heap.size W2 X) := (by
                  have hb : Below W2.heap.size W2 X := hX ▸ ⟨rfl, rfl, rfl, Nat.le_refl _, fun _ _ => rfl⟩
                  exact ⟨⟨HRB.out.later hb HRB.out.lt, (HAG.out X hb).1⟩, hb⟩)
                clear hX
                refine takeH (i := 0) (some 73) rfl rfl (by kernel_rfl) (by kernel_rfl) (by kernel_rfl) (fun _ _ _ h => h) (gRun rfl (.pointer (some ⟨bo, 0 + 0, none⟩)) fun _ h => run_fieldOp' f31_0 (.tmp 14) rfl bo (0) rfl) HX.out.1 ?_
                simp only [Act.put, aS, aC, aZ]
                refine takeH (i := 1) (some 74) rfl rfl (by kernel_rfl) (by kernel_rfl) (by kernel_rfl) (fun _ _ _ h => h) (gRun rfl (.int .i64 o.k) fun _ h => run_load1 o3' (.tmp 73) rfl bo (0 + 0) rfl (.int .i64 o.k) (h.1.at 0 _ rfl)) HX.out.1 ?_
                simp only [Act.put, aS, aC, aZ]
                refine oneH (i := 2) (by kernel_rfl) ?_
                refine opCallG (some 75) rfl rfl rfl 8 _ (run_call eM8 [.tmp 74, .const (.int .i64 12)] _ rfl [(.int .i64 o.k), (.int .i64 12)] rfl) ?_
                refine (which_any X o.k 12 (by decide) HOI.out.k.1 HOI.out.k.2).mono ?_
                rintro e W_ ⟨rfl, rfl⟩
                refine ⟨_, rfl, ?_⟩
                rw [← HWK.out]
                refine ⟨HX.out.1, ?_⟩
                simp only [Act.put, aS, aC, aZ]
                refine takeH (i := 3) (some 76) rfl rfl (by kernel_rfl) (by kernel_rfl) (by kernel_rfl) (fun _ _ _ h => h) (gRun rfl (.bool false) fun _ h => run_eqZ (.tmp 75) (.const (.int .i64 10)) rfl (wk : Nat) 10 rfl rfl false HB10.out) HX.out.1 ?_
                simp only [Act.put, aS, aC, aZ]
                refine takeH (i := 4) (some 77) rfl rfl (by kernel_rfl) (by kernel_rfl) (by kernel_rfl) (fun _ _ _ h => h) (gRun rfl (.bool false) fun _ h => run_mvZ (.tmp 76) rfl (.bool false) rfl) HX.out.1 ?_
                simp only [Act.put, aS, aC, aZ]
                refine takeH (i := 5) (some 78) rfl rfl (by kernel_rfl) (by kernel_rfl) (by kernel_rfl) (fun _ _ _ h => h) (Or.inr ⟨by kernel_rfl, rfl⟩) HX.out.1 ?_
                simp only [Act.put, aS, aC, aZ]
                refine takeH (i := 6) (some 79) rfl rfl (by kernel_rfl) (by kernel_rfl) (by kernel_rfl) (fun _ _ _ h => h) (Or.inr ⟨by kernel_rfl, rfl⟩) HX.out.1 ?_
                simp only [Act.put, aS, aC, aZ]
                refine takeH (i := 7) (some 80) rfl rfl (by kernel_rfl) (by kernel_rfl) (by kernel_rfl) (fun _ _ _ h => h) (Or.inr ⟨by kernel_rfl, rfl⟩) HX.out.1 ?_
                simp only [Act.put, aS, aC, aZ]
                refine takeH (i := 8) (some 81) rfl rfl (by kernel_rfl) (by kernel_rfl) (by kernel_rfl) (fun _ _ _ h => h) (Or.inr ⟨by kernel_rfl, rfl⟩) HX.out.1 ?_
                simp only [Act.put, aS, aC, aZ]
                refine takeH (i := 9) (some 82) rfl rfl (by kernel_rfl) (by kernel_rfl) (by kernel_rfl) (fun _ _ _ h => h) (Or.inr ⟨by kernel_rfl, rfl⟩) HX.out.1 ?_
                simp only [Act.put, aS, aC, aZ]
                refine takeH (i := 10) (some 83) rfl rfl (by kernel_rfl) (by kernel_rfl) (by kernel_rfl) (fun _ _ _ h => h) (Or.inr ⟨by kernel_rfl, rfl⟩) HX.out.1 ?_
                simp only [Act.put, aS, aC, aZ]
                refine takeH (i := 11) (some 84) rfl rfl (by kernel_rfl) (by kernel_rfl) (by kernel_rfl) (fun _ _ _ h => h) (Or.inr ⟨by kernel_rfl, rfl⟩) HX.out.1 ?_
                simp only [Act.put, aS, aC, aZ]
                refine takeH (i := 12) (some 85) rfl rfl (by kernel_rfl) (by kernel_rfl) (by kernel_rfl) (fun _ _ _ h => h) (Or.inr ⟨by kernel_rfl, rfl⟩) HX.out.1 ?_
                simp only [Act.put, aS, aC, aZ]
                refine takeH (i := 13) (some 86) rfl rfl (by kernel_rfl) (by kernel_rfl) (by kernel_rfl) (fun _ _ _ h => h) (Or.inr ⟨by kernel_rfl, rfl⟩) HX.out.1 ?_
                simp only [Act.put, aS, aC, aZ]
                refine takeH (i := 14) (some 87) rfl rfl (by kernel_rfl) (by kernel_rfl) (by kernel_rfl) (fun _ _ _ h => h) (Or.inr ⟨by kernel_rfl, rfl⟩) HX.out.1 ?_
                simp only [Act.put, aS, aC, aZ]
                refine takeH (i := 15) (some 88) rfl rfl (by kernel_rfl) (by kernel_rfl) (by kernel_rfl) (fun _ _ _ h => h) (gRun rfl (.bool false) fun _ h => run_pickZ (.tmp 77) (.tmp 87) (.const (.bool false)) rfl false (.bool false) rfl rfl) HX.out.1 ?_
                simp only [Act.put, aS, aC, aZ]
                refine wpAnyH_done (by kernel_rfl) ?_ _
                have HN : Hid (LawP w X gx gy g (1 + 4 * i + 2 * 1 + 1)) := H2.out.bel HX.out.2
                go_wp2_with fail
                refine ⟨⟨1 + 1, by go_num, by omega, HN.out.mono (by omega)⟩, ?_⟩
                simp [intOf]
              | true =>
                go_upto_region 30 with fail
                refine wp_region_until (S := fun X => SP bo gx o nv X) 13 (by kernel_rfl) ?_
                show wpAnyU _ _ _ _ _ _ 16 (Array.replicate 16 false) _ _
                obtain ⟨X, hX⟩ : ∃ X : World, X = { W2 with drawn := W2.drawn + 1 } := ⟨_, rfl⟩
                rw [← hX]
                have HX : Hid (SP bo gx o nv X ∧ Below W2.heap.size W2 X) := (by
                  have hb : Below W2.heap.size W2 X := hX ▸ ⟨rfl, rfl, rfl, Nat.le_refl _, fun _ _ => rfl⟩
                  exact ⟨⟨HRB.out.later hb HRB.out.lt, (HAG.out X hb).1⟩, hb⟩)
                clear hX
                refine takeV (i := 0) [1, 2, 4, 13] (some 73) rfl rfl (by kernel_rfl) (by kernel_rfl) (by kernel_rfl) (by kernel_rfl) (fun _ _ _ h => h) (gRun rfl (.pointer (some ⟨bo, 0 + 0, none⟩)) fun _ h => run_fieldOp' f31_0 (.tmp 14) rfl bo (0) rfl) HX.out.1 ?_
                simp only [Act.put, aS, aC, aZ]
                refine takeV (i := 1) [2, 4, 13] (some 74) rfl rfl (by kernel_rfl) (by kernel_rfl) (by kernel_rfl) (by kernel_rfl) (fun _ _ _ h => h) (gRun rfl (.int .i64 o.k) fun _ h => run_load1 o3' (.tmp 73) rfl bo (0 + 0) rfl (.int .i64 o.k) (h.1.at 0 _ rfl)) HX.out.1 ?_
                simp only [Act.put, aS, aC, aZ]
                refine oneU (i := 2) (by kernel_rfl) ?_
                refine opCallG (some 75) rfl rfl rfl 8 _ (run_call eM8 [.tmp 74, .const (.int .i64 12)] _ rfl [(.int .i64 o.k), (.int .i64 12)] rfl) ?_
                refine (which_any X o.k 12 (by decide) HOI.out.k.1 HOI.out.k.2).mono ?_
                rintro e W_ ⟨rfl, rfl⟩
                refine ⟨_, rfl, ?_⟩
                rw [← HWK.out]
                refine ⟨fun _ => HX.out.1, ?_⟩
                simp only [Act.put, aS, aC, aZ]
                refine takeV (i := 3) [4, 13] (some 76) rfl rfl (by kernel_rfl) (by kernel_rfl) (by kernel_rfl) (by kernel_rfl) (fun _ _ _ h => h) (gRun rfl (.bool true) fun _ h => run_eqZ (.tmp 75) (.const (.int .i64 10)) rfl (wk : Nat) 10 rfl rfl true HB10.out) HX.out.1 ?_
                simp only [Act.put, aS, aC, aZ]
                refine takeV (i := 4) [13] (some 77) rfl rfl (by kernel_rfl) (by kernel_rfl) (by kernel_rfl) (by kernel_rfl) (fun _ _ _ h => h) (gRun rfl (.bool true) fun _ h => run_mvZ (.tmp 76) rfl (.bool true) rfl) HX.out.1 ?_
                simp only [Act.put, aS, aC, aZ]
                refine takeV (i := 5) [13] (some 78) rfl rfl (by kernel_rfl) (by kernel_rfl) (by kernel_rfl) (by kernel_rfl) (fun _ _ _ h => h) (gRun (by kernel_rfl) (ptr gx) fun _ h => run_mvZ (.tmp 12) rfl (ptr gx) rfl) HX.out.1 ?_
                simp only [Act.put, aS, aC, aZ]
                refine takeV (i := 6) [7, 13] (some 79) rfl rfl (by kernel_rfl) (by kernel_rfl) (by kernel_rfl) (by kernel_rfl) (fun _ _ _ h => h) (gRun (by kernel_rfl) (.pointer (some ⟨bo, 0 + 3, none⟩)) fun _ h => run_fieldOp' f31_3 (.tmp 14) rfl bo (0) rfl) HX.out.1 ?_
                simp only [Act.put, aS, aC, aZ]
                refine takeV (i := 7) [13] (some 80) rfl rfl (by kernel_rfl) (by kernel_rfl) (by kernel_rfl) (by kernel_rfl) (fun _ _ _ h => h) (gRun (by kernel_rfl) o.kv fun _ h => run_load1 o29' (.tmp 79) rfl bo (0 + 3) rfl o.kv (h.1.at 3 _ rfl)) HX.out.1 ?_
                simp only [Act.put, aS, aC, aZ]
                refine takeV (i := 8) [9, 10, 11, 12, 13] (some 81) rfl rfl (by kernel_rfl) (by kernel_rfl) (by kernel_rfl) (by kernel_rfl) (fun _ _ _ h => h) (gRun (by kernel_rfl) (ptr gx) fun _ h => run_mvZ (.tmp 12) rfl (ptr gx) rfl) HX.out.1 ?_
                simp only [Act.put, aS, aC, aZ]
                refine takeV (i := 9) [10, 11, 12, 13] (some 82) rfl rfl (by kernel_rfl) (by kernel_rfl) (by kernel_rfl) (by kernel_rfl) (fun _ _ _ h => h) (gRun (by kernel_rfl) (ptr gx) fun _ h => run_nil (.tmp 81) rfl ⟨gx, 0, none⟩ rfl) HX.out.1 ?_
                simp only [Act.put, aS, aC, aZ]
                refine takeV (i := 10) [11, 12, 13] (some 83) rfl rfl (by kernel_rfl) (by kernel_rfl) (by kernel_rfl) (by kernel_rfl) (fun _ _ _ h => h) (gRun (by kernel_rfl) (.pointer (some ⟨gx, 0 + 3, none⟩)) fun _ h => run_fieldOp' f38_3 (.tmp 82) rfl gx (0) rfl) HX.out.1 ?_
                simp only [Act.put, aS, aC, aZ]
                refine takeV (i := 11) [12, 13] (some 84) rfl rfl (by kernel_rfl) (by kernel_rfl) (by kernel_rfl) (by kernel_rfl) (fun _ _ _ h => h) (gRun (by kernel_rfl) nv fun _ h => run_load1 o36' (.tmp 83) rfl gx (0 + 3) rfl nv h.2) HX.out.1 ?_
                simp only [Act.put, aS, aC, aZ]
                refine oneU (i := 12) (by kernel_rfl) ?_
                refine opValueG (some 85) rfl rfl (by kernel_rfl) _ _ (run_lit41_1 (.tmp 84) rfl nv HNV.out rfl) ?_
                have HCA : Hid (Calls Tryd.prog 10 #[ptr gx, o.kv, .slice (some ⟨X.heap.size, 0, none⟩) 1 1] (X.alloc (.cells #[nv] 36)) fun e W' => e = .returned (.bool true) ∧ LawP w W' gx gy g (1 + 4 * i + 2 * 1 + 1 + 1)) := (HAG.out X HX.out.2).2
                have HSX : Hid (SP bo gx o nv (X.alloc (.cells #[nv] 36))) := ⟨HX.out.1.1.later (below_alloc X _) HX.out.1.1.lt, (HAG.out _ (HX.out.2.trans ((below_alloc X _).mono HX.out.2.size))).1⟩
                obtain ⟨gm, hgm⟩ : ∃ q, q = X.heap.size := ⟨_, rfl⟩
                obtain ⟨X2, hX2⟩ : ∃ W, W = X.alloc (.cells #[nv] 36) := ⟨_, rfl⟩
                rw [← hgm, ← hX2] at HCA
                rw [← hX2] at HSX
                rw [← hgm, ← hX2]
                clear hgm hX2
                refine ⟨fun _ => HSX.out, ?_⟩
                simp only [Act.put, aS, aC, aZ]
                refine oneU (i := 13) (by kernel_rfl) ?_
                refine opCallG (some 86) rfl rfl (by kernel_rfl) 10 _ (run_call eM10 [.tmp 78, .tmp 80, .tmp 85] _ rfl [(ptr gx), o.kv, (.slice (some ⟨gm, 0, none⟩) 1 1)] rfl) ?_
                refine HCA.out.mono ?_
                rintro e W5 ⟨rfl, hl5⟩
                refine ⟨_, rfl, ?_⟩
                have H5 : Hid (LawP w W5 gx gy g (1 + 4 * i + 2 * 1 + 1 + 1)) := hl5
                clear hl5 HCA
                refine ⟨fun h => absurd (show true = false from h) (by decide), ?_⟩
                simp only [Act.put, aS, aC, aZ]
                refine oneU (i := 14) (by kernel_rfl) ?_
                refine opValueG (some 87) rfl rfl (by kernel_rfl) (.bool false) _ (run_not (.tmp 86) 4 rfl true rfl) ?_
                refine ⟨fun h => absurd (show true = false from h) (by decide), ?_⟩
                simp only [Act.put, aS, aC, aZ]
                refine oneU (i := 15) (by kernel_rfl) ?_
                refine opValueG (some 88) rfl rfl rfl (.bool false) _ (run_pickZ (.tmp 77) (.tmp 87) (.const (.bool false)) rfl true (.bool false) rfl rfl) ?_
                refine ⟨fun h => absurd (show true = false from h) (by decide), ?_⟩
                simp only [Act.put, aS, aC, aZ]
                refine wpAnyU_done (by kernel_rfl) ?_ _
                have HN : Hid (LawP w W5 gx gy g (1 + 4 * i + 2 * 1 + 1 + 1)) := H5.out
                go_wp2_with fail
                refine ⟨⟨1 + 1, by go_num, by omega, HN.out.mono (by omega)⟩, ?_⟩
                simp [intOf]
          · go_upto_region 24 with fail
            refine wp_region_lit ?_
            refine wl rfl (.int .i64 (i : Nat)) _ (run_mvZ (.tmp 9) rfl (.int .i64 (i : Nat)) rfl) ?_
            simp only [Act.put, aS, aC, aZ]
            refine wl rfl (.slice p1 n1 cap1) _ (run_mvZ (.tmp 13) rfl (.slice p1 n1 cap1) rfl) ?_
            simp only [Act.put, aS, aC, aZ]
            refine wl rfl (.int .i64 (n1 : Nat)) _ (run_lenZ sl22 (.tmp 57) rfl p1 n1 cap1 rfl) ?_
            simp only [Act.put, aS, aC, aZ]
            refine wl rfl (.bool true) _ (run_geqZ' (.tmp 56) (.tmp 58) rfl _ _ rfl rfl true (decide_eq_true (by omega))) ?_
            simp only [Act.put, aS, aC, aZ]
            refine wpList_nil ?_
            have HN : Hid (LawP w WK gx gy g (1 + 4 * i + 2 * 1)) := HK.out
            go_wp2_with fail
            refine ⟨⟨1 + 1, by go_num, by omega, HN.out.mono (by omega)⟩, ?_⟩
            simp [intOf]
        · go_upto_region 15 with fail
          refine wp_region_lit ?_
          refine wl rfl (.int .i64 (2 : Nat)) _ (run_mvZ (.tmp 10) rfl (.int .i64 (2 : Nat)) rfl) ?_
          simp only [Act.put, aS, aC, aZ]
          refine wl rfl (.bool false) _ (run_lssZ (.tmp 44) (.const (.int .i64 2)) rfl _ _ rfl rfl false rfl) ?_
          simp only [Act.put, aS, aC, aZ]
          refine wpList_nil ?_
          go_wp2_with fail
          refine ⟨⟨i + 1, by go_num, by omega, HK.out.mono (by omega)⟩, ?_⟩
          simp [intOf]; omega
    by_cases hb : i < n1
    · have h1 : decide ((i : Int) < (n0 : Int)) = false := decide_eq_false (by omega)
      have h2 : decide ((i : Int) < (n1 : Int)) = true := decide_eq_true (by omega)
      go_upto_region 12 with fail
      refine wp_region_lit ?_
      refine wl rfl (.int .i64 (i : Nat)) _ (run_mvZ (.tmp 9) rfl (.int .i64 (i : Nat)) rfl) ?_
      simp only [Act.put, aS, aC, aZ]
      refine wl rfl (.slice p0 n0 cap0) _ (run_mvZ (.tmp 0) rfl (.slice p0 n0 cap0) rfl) ?_
      simp only [Act.put, aS, aC, aZ]
      refine wl rfl (.int .i64 (n0 : Nat)) _ (run_lenZ sl22 (.tmp 33) rfl p0 n0 cap0 rfl) ?_
      simp only [Act.put, aS, aC, aZ]
      refine wl rfl (.bool false) _ (run_lssZ (.tmp 32) (.tmp 34) rfl _ _ rfl rfl false h1) ?_
      simp only [Act.put, aS, aC, aZ]
      refine wl rfl (.bool false) _ (run_mvZ (.tmp 35) rfl (.bool false) rfl) ?_
      simp only [Act.put, aS, aC, aZ]
      refine wl (by kernel_rfl) (.int .i64 (i : Nat)) _ (run_mvZ (.tmp 9) rfl (.int .i64 (i : Nat)) rfl) ?_
      simp only [Act.put, aS, aC, aZ]
      refine wl (by kernel_rfl) (.slice p1 n1 cap1) _ (run_mvZ (.tmp 1) rfl (.slice p1 n1 cap1) rfl) ?_
      simp only [Act.put, aS, aC, aZ]
      refine wl (by kernel_rfl) (.int .i64 (n1 : Nat)) _ (run_lenZ sl22 (.tmp 38) rfl p1 n1 cap1 rfl) ?_
      simp only [Act.put, aS, aC, aZ]
      refine wl (by kernel_rfl) (.bool true) _ (run_lssZ (.tmp 37) (.tmp 39) rfl _ _ rfl rfl true h2) ?_
      simp only [Act.put, aS, aC, aZ]
      refine wl rfl (.bool true) _ (run_pickZ (.tmp 36) (.const (.bool true)) (.tmp 40) rfl false (.bool true) rfl rfl) ?_
      simp only [Act.put, aS, aC, aZ]
      refine wpList_nil ?_
      clear h1 h2
      go_upto_region 14 with fail
      go_wp2_with fail
      go_loopw [10] (fun v10 W => ∃ k : Nat, v10 = .int .i64 (k : Nat) ∧ k ≤ 2 ∧ LawP w W gx gy g (1 + 4 * i + 2 * k)) (fun v10 _ => 2 - (intOf v10).toNat)
      case atStart => exact ⟨0, rfl, by decide, HI.out⟩
      case round =>
        obtain ⟨k, rfl, hk2, hst⟩ := hrel
        obtain ⟨WK, hWK⟩ : ∃ W2 : World, W2 = wr := ⟨_, rfl⟩
        subst hWK
        have HK : Hid (LawP w WK gx gy g (1 + 4 * i + 2 * k)) := hst
        clear hst
        rcases (by omega : k = 0 ∨ k = 1 ∨ k = 2) with rfl | rfl | rfl
        · go_upto_region 15 with fail
          refine wp_region_lit ?_
          refine wl rfl (.int .i64 (0 : Nat)) _ (run_mvZ (.tmp 10) rfl (.int .i64 (0 : Nat)) rfl) ?_
          simp only [Act.put, aS, aC, aZ]
          refine wl rfl (.bool true) _ (run_lssZ (.tmp 44) (.const (.int .i64 2)) rfl _ _ rfl rfl true rfl) ?_
          simp only [Act.put, aS, aC, aZ]
          refine wpList_nil ?_
          go_upto_region 17 with fail
          refine wp_region_lit ?_
          refine wl rfl (ptr gx) _ (run_mvZ (.tmp 7) rfl (ptr gx) rfl) ?_
          simp only [Act.put, aS, aC, aZ]
          refine wl rfl (ptr gx) _ (run_asZ (.tmp 48) rfl (ptr gx) rfl) ?_
          simp only [Act.put, aS, aC, aZ]
          refine wpList_nil ?_
          go_upto_region 18 with fail
          refine wp_region_lit ?_
          refine wl rfl (ptr gy) _ (run_mvZ (.tmp 8) rfl (ptr gy) rfl) ?_
          simp only [Act.put, aS, aC, aZ]
          refine wl rfl (ptr gy) _ (run_asZ (.tmp 49) rfl (ptr gy) rfl) ?_
          simp only [Act.put, aS, aC, aZ]
          refine wpList_nil ?_
          go_upto_region 19 with fail
          refine wp_region_lit ?_
          refine wl rfl (.slice p0 n0 cap0) _ (run_mvZ (.tmp 0) rfl (.slice p0 n0 cap0) rfl) ?_
          simp only [Act.put, aS, aC, aZ]
          refine wl rfl (.slice p0 n0 cap0) _ (run_asZ (.tmp 50) rfl (.slice p0 n0 cap0) rfl) ?_
          simp only [Act.put, aS, aC, aZ]
          refine wpList_nil ?_
          go_upto_region 20 with fail
          refine wp_region_lit ?_
          refine wl rfl (.int .i64 (0 : Nat)) _ (run_mvZ (.tmp 10) rfl (.int .i64 (0 : Nat)) rfl) ?_
          simp only [Act.put, aS, aC, aZ]
          refine wl rfl (.bool false) _ (run_eqZ (.tmp 51) (.const (.int .i64 1)) rfl _ _ rfl rfl false rfl) ?_
          simp only [Act.put, aS, aC, aZ]
          refine wpList_nil ?_
          by_cases hlt : i < n0
          · go_upto_region 24 with fail
            refine wp_region_lit ?_
            refine wl rfl (.int .i64 (i : Nat)) _ (run_mvZ (.tmp 9) rfl (.int .i64 (i : Nat)) rfl) ?_
            simp only [Act.put, aS, aC, aZ]
            refine wl rfl (.slice p0 n0 cap0) _ (run_mvZ (.tmp 13) rfl (.slice p0 n0 cap0) rfl) ?_
            simp only [Act.put, aS, aC, aZ]
            refine wl rfl (.int .i64 (n0 : Nat)) _ (run_lenZ sl22 (.tmp 57) rfl p0 n0 cap0 rfl) ?_
            simp only [Act.put, aS, aC, aZ]
            refine wl rfl (.bool false) _ (run_geqZ' (.tmp 56) (.tmp 58) rfl _ _ rfl rfl false (decide_eq_false (by omega))) ?_
            simp only [Act.put, aS, aC, aZ]
            refine wpList_nil ?_
            obtain ⟨fb, fo, o, rfl, ho, hoc⟩ := HA0.out.1.at i hlt
            have HOI : Hid (OpIn w o) := ho
            have HOC : Hid (∀ (j : Nat) v, o.cells[j]? = some v → WK.cell? ⟨fb, fo + i * 4 + j, none⟩ = some v) := hoc WK HK.out.below
            clear ho hoc
            go_upto_region 25 with fail
            refine wp_region_lit ?_
            refine wl rfl (.slice (some ⟨fb, fo, none⟩) n0 cap0) _ (run_mvZ (.tmp 13) rfl (.slice (some ⟨fb, fo, none⟩) n0 cap0) rfl) ?_
            simp only [Act.put, aS, aC, aZ]
            refine wl rfl (.int .i64 (i : Nat)) _ (run_mvZ (.tmp 9) rfl (.int .i64 (i : Nat)) rfl) ?_
            simp only [Act.put, aS, aC, aZ]
            refine wl rfl (.pointer (some ⟨fb, fo + i * 4, none⟩)) _ (run_ix22' (.tmp 60) (.tmp 61) rfl fb fo n0 cap0 i rfl rfl hlt) ?_
            simp only [Act.put, aS, aC, aZ]
            refine wl rfl (.agg o.cells.toArray) _ (run_loadA ag31 (.tmp 62) rfl fb (fo + i * 4) rfl o.cells rfl (fun j v hv => HOC.out j v hv)) ?_
            simp only [Act.put, aS, aC, aZ]
            refine wl rfl (ptr WK.heap.size) _ (run_allocZ rfl z31 zero31) ?_
            obtain ⟨bo, hbo⟩ : ∃ q, q = WK.heap.size := ⟨_, rfl⟩
            obtain ⟨u0, hw⟩ : ∃ W, W = WK.alloc (.cells z31.toArray 31) := ⟨_, rfl⟩
            have A0 : Hid (Below WK.heap.size WK u0 ∧ Row u0 bo 31 z31 ∧ WK.heap.size ≤ bo) := (by rw [hbo, hw]; exact ⟨below_alloc WK _, Row.new _ _ _, Nat.le_refl _⟩)
            rw [← hbo, ← hw]
            clear hbo hw
            simp only [Act.put, aS, aC, aZ]
            have hst := run_storeVar ag31 u0 bo 0 31 z31 o.cells rfl A0.out.2.1 (by simp [z31, OpD.cells, opCells]) (op_one HOI.out)
            rw [show splice z31 0 o.cells = o.cells from rfl] at hst
            refine wlS rfl rfl _ (run_stV (.tmp 14) (.tmp 63) rfl bo 0 rfl _ rfl hst) ?_
            obtain ⟨W1, hw⟩ : ∃ W, W = u0.setRow bo o.cells.toArray := ⟨_, rfl⟩
            have HR : Hid (LawP w WK gx gy g (1 + 4 * i + 2 * 0) ∧ Row W1 bo 31 o.cells ∧ Below WK.heap.size WK W1 ∧ WK.heap.size ≤ bo) := (by
              have hc : Ch (· = bo) u0 W1 := hw ▸ (Ch.refl (· = bo) u0).setRow (g := bo) (Or.inl rfl) _
              have hb : Below WK.heap.size WK W1 := A0.out.1.trans (hc.below A0.out.1.size fun i hi e => by have := A0.out.2.2; omega)
              exact ⟨HK.out, hw ▸ A0.out.2.1.setRow _, hb, A0.out.2.2⟩)
            rw [← hw]
            clear hw hst A0 HOC HK
            refine wpList_nil ?_
            obtain ⟨wk, hwk⟩ : ∃ x, x = whichOf o.k 12 := ⟨_, rfl⟩
            have HWK : Hid (wk = whichOf o.k 12) := hwk
            clear hwk
            obtain ⟨b9, hb9⟩ : ∃ b, decide ((wk : Int) = 9) = b := ⟨_, rfl⟩
            have HB9 : Hid (decide ((wk : Int) = 9) = b9) := hb9
            clear hb9
            go_upto_region 26 with fail
            refine wp_region_lit ?_
            refine wl rfl (.pointer (some ⟨bo, 0 + 0, none⟩)) _ (run_fieldOp' f31_0 (.tmp 14) rfl bo (0) rfl) ?_
            simp only [Act.put, aS, aC, aZ]
            refine wl rfl (.int .i64 o.k) _ (run_load1 o3' (.tmp 64) rfl bo (0 + 0) rfl (.int .i64 o.k) (HR.out.2.1.at 0 _ rfl)) ?_
            simp only [Act.put, aS, aC, aZ]
            refine wpList_callW eM8 [.tmp 65, .const (.int .i64 12)] _ rfl rfl [(.int .i64 o.k), .int .i64 12] rfl ?_
            refine (which_any W1 o.k 12 (by decide) HOI.out.k.1 HOI.out.k.2).mono ?_
            rintro e W_ ⟨rfl, rfl⟩
            refine ⟨_, rfl, ?_⟩
            rw [← HWK.out]
            simp only [Act.put, aS, aC, aZ]
            refine wl rfl (.bool b9) _ (run_eqZ (.tmp 66) (.const (.int .i64 9)) rfl (wk : Nat) 9 rfl rfl b9 HB9.out) ?_
            simp only [Act.put, aS, aC, aZ]
            refine wpList_nil ?_
            cases b9 with
            | true =>
              have HN : Hid (LawP w W1 gx gy g (1 + 4 * i + 2 * 0)) := HR.out.1.bel HR.out.2.2.1
              go_wp2_with fail
              refine ⟨⟨0 + 1, by go_num, by omega, HN.out.mono (by omega)⟩, ?_⟩
              simp [intOf]
            | false =>
              go_upto_region 27 with fail
              refine wp_region_lit ?_
              refine wl rfl (ptr gx) _ (run_mvZ (.tmp 11) rfl (ptr gx) rfl) ?_
              simp only [Act.put, aS, aC, aZ]
              refine wl rfl (.agg (o.cells).toArray) _ (run_loadA ag31 (.tmp 14) rfl bo (0) rfl (o.cells) rfl (fun j v hv => (by rw [Nat.zero_add]; exact HR.out.2.1.at j v hv))) ?_
              simp only [Act.put, aS, aC, aZ]
              refine wpList_callW eM9 [.tmp 68, .tmp 69] _ rfl rfl [(ptr gx), (.agg (o.cells).toArray)] rfl ?_
              refine (HR.out.1.doX HR.out.2.2.1 HR.out.2.2.2 HR.out.2.1 HT.out.2 (by omega) HOI.out).mono ?_
              rintro e W2 ⟨rfl, hl_, hr_⟩
              refine ⟨_, rfl, ?_⟩
              have H2 : Hid (LawP w W2 gx gy g (1 + 4 * i + 2 * 0 + 1)) := hl_
              have HRB : Hid (Row W2 bo 31 o.cells) := hr_
              clear hl_ hr_ HR
              simp only [Act.put, aS, aC, aZ]
              refine wl rfl (.bool true) _ (run_asZ (.tmp 70) rfl (.bool true) rfl) ?_
              simp only [Act.put, aS, aC, aZ]
              refine wpList_nil ?_
              go_upto_region 28 with fail
              refine wp_region_lit ?_
              refine wl rfl (.bool true) _ (run_mvZ (.tmp 15) rfl (.bool true) rfl) ?_
              simp only [Act.put, aS, aC, aZ]
              refine wl rfl (.bool false) _ (run_not (.tmp 71) 4 rfl true rfl) ?_
              simp only [Act.put, aS, aC, aZ]
              refine wpList_nil ?_
              obtain ⟨b10, hb10⟩ : ∃ b, decide ((wk : Int) = 10) = b := ⟨_, rfl⟩
              have HB10 : Hid (decide ((wk : Int) = 10) = b10) := hb10
              clear hb10
              obtain ⟨nv, hnv, hag⟩ := H2.out.againY HT.out.2 (by omega) o.kv o.ks HOI.out.keep
              have HNV : Hid (∃ p n c, nv = Value.slice p n c) := hnv
              have HAG : Hid (∀ X, Below W2.heap.size W2 X → X.cell? ⟨gy, 0 + 3, none⟩ = some nv ∧ Calls Tryd.prog 10 #[ptr gy, o.kv, .slice (some ⟨X.heap.size, 0, none⟩) 1 1] (X.alloc (.cells #[nv] 36)) fun e W' => e = .returned (.bool true) ∧ LawP w W' gx gy g (1 + 4 * i + 2 * 0 + 1 + 1)) := hag
              clear hnv hag
              cases b10 with
              | false =>
                go_upto_region 30 with fail
                refine wp_region_held (S := fun X => SP bo gy o nv X) (by kernel_rfl) ?_
                show wpAnyH _ _ _ _ _ 16 (Array.replicate 16 false) _ _
                obtain ⟨X, hX⟩ : ∃ X : World, X = { W2 with drawn := W2.drawn + 1 } := ⟨_, rfl⟩
                rw [← hX]
                have HX : Hid (SP bo gy o nv X ∧ Below W2.heap.size W2 X) := (by
                  have hb : Below W2.heap.size W2 X := hX ▸ ⟨rfl, rfl, rfl, Nat.le_refl _, fun _ _ => rfl⟩
                  exact ⟨⟨HRB.out.later hb HRB.out.lt, (HAG.out X hb).1⟩, hb⟩)
                clear hX
                refine takeH (i := 0) (some 73) rfl rfl (by kernel_rfl) (by kernel_rfl) (by kernel_rfl) (fun _ _ _ h => h) (gRun rfl (.pointer (some ⟨bo, 0 + 0, none⟩)) fun _ h => run_fieldOp' f31_0 (.tmp 14) rfl bo (0) rfl) HX.out.1 ?_
                simp only [Act.put, aS, aC, aZ]
                refine takeH (i := 1) (some 74) rfl rfl (by kernel_rfl) (by kernel_rfl) (by kernel_rfl) (fun _ _ _ h => h) (gRun rfl (.int .i64 o.k) fun _ h => run_load1 o3' (.tmp 73) rfl bo (0 + 0) rfl (.int .i64 o.k) (h.1.at 0 _ rfl)) HX.out.1 ?_
                simp only [Act.put, aS, aC, aZ]
                refine oneH (i := 2) (by kernel_rfl) ?_
                refine opCallG (some 75) rfl rfl rfl 8 _ (run_call eM8 [.tmp 74, .const (.int .i64 12)] _ rfl [(.int .i64 o.k), (.int .i64 12)] rfl) ?_
                refine (which_any X o.k 12 (by decide) HOI.out.k.1 HOI.out.k.2).mono ?_
                rintro e W_ ⟨rfl, rfl⟩
                refine ⟨_, rfl, ?_⟩
                rw [← HWK.out]
                refine ⟨HX.out.1, ?_⟩
                simp only [Act.put, aS, aC, aZ]
                refine takeH (i := 3) (some 76) rfl rfl (by kernel_rfl) (by kernel_rfl) (by kernel_rfl) (fun _ _ _ h => h) (gRun rfl (.bool false) fun _ h => run_eqZ (.tmp 75) (.const (.int .i64 10)) rfl (wk : Nat) 10 rfl rfl false HB10.out) HX.out.1 ?_
                simp only [Act.put, aS, aC, aZ]
                refine takeH (i := 4) (some 77) rfl rfl (by kernel_rfl) (by kernel_rfl) (by kernel_rfl) (fun _ _ _ h => h) (gRun rfl (.bool false) fun _ h => run_mvZ (.tmp 76) rfl (.bool false) rfl) HX.out.1 ?_
                simp only [Act.put, aS, aC, aZ]
                refine takeH (i := 5) (some 78) rfl rfl (by kernel_rfl) (by kernel_rfl) (by kernel_rfl) (fun _ _ _ h => h) (Or.inr ⟨by kernel_rfl, rfl⟩) HX.out.1 ?_
                simp only [Act.put, aS, aC, aZ]
                refine takeH (i := 6) (some 79) rfl rfl (by kernel_rfl) (by kernel_rfl) (by kernel_rfl) (fun _ _ _ h => h) (Or.inr ⟨by kernel_rfl, rfl⟩) HX.out.1 ?_
                simp only [Act.put, aS, aC, aZ]
                refine takeH (i := 7) (some 80) rfl rfl (by kernel_rfl) (by kernel_rfl) (by kernel_rfl) (fun _ _ _ h => h) (Or.inr ⟨by kernel_rfl, rfl⟩) HX.out.1 ?_
                simp only [Act.put, aS, aC, aZ]
                refine takeH (i := 8) (some 81) rfl rfl (by kernel_rfl) (by kernel_rfl) (by kernel_rfl) (fun _ _ _ h => h) (Or.inr ⟨by kernel_rfl, rfl⟩) HX.out.1 ?_
                simp only [Act.put, aS, aC, aZ]
                refine takeH (i := 9) (some 82) rfl rfl (by kernel_rfl) (by kernel_rfl) (by kernel_rfl) (fun _ _ _ h => h) (Or.inr ⟨by kernel_rfl, rfl⟩) HX.out.1 ?_
                simp only [Act.put, aS, aC, aZ]
                refine takeH (i := 10) (some 83) rfl rfl (by kernel_rfl) (by kernel_rfl) (by kernel_rfl) (fun _ _ _ h => h) (Or.inr ⟨by kernel_rfl, rfl⟩) HX.out.1 ?_
                simp only [Act.put, aS, aC, aZ]
                refine takeH (i := 11) (some 84) rfl rfl (by kernel_rfl) (by kernel_rfl) (by kernel_rfl) (fun _ _ _ h => h) (Or.inr ⟨by kernel_rfl, rfl⟩) HX.out.1 ?_
                simp only [Act.put, aS, aC, aZ]
                refine takeH (i := 12) (some 85) rfl rfl (by kernel_rfl) (by kernel_rfl) (by kernel_rfl) (fun _ _ _ h => h) (Or.inr ⟨by kernel_rfl, rfl⟩) HX.out.1 ?_
                simp only [Act.put, aS, aC, aZ]
                refine takeH (i := 13) (some 86) rfl rfl (by kernel_rfl) (by kernel_rfl) (by kernel_rfl) (fun _ _ _ h => h) (Or.inr ⟨by kernel_rfl, rfl⟩) HX.out.1 ?_
                simp only [Act.put, aS, aC, aZ]
                refine takeH (i := 14) (some 87) rfl rfl (by kernel_rfl) (by kernel_rfl) (by kernel_rfl) (fun _ _ _ h => h) (Or.inr ⟨by kernel_rfl, rfl⟩) HX.out.1 ?_
                simp only [Act.put, aS, aC, aZ]
                refine takeH (i := 15) (some 88) rfl rfl (by kernel_rfl) (by kernel_rfl) (by kernel_rfl) (fun _ _ _ h => h) (gRun rfl (.bool false) fun _ h => run_pickZ (.tmp 77) (.tmp 87) (.const (.bool false)) rfl false (.bool false) rfl rfl) HX.out.1 ?_
                simp only [Act.put, aS, aC, aZ]
                refine wpAnyH_done (by kernel_rfl) ?_ _
                have HN : Hid (LawP w X gx gy g (1 + 4 * i + 2 * 0 + 1)) := H2.out.bel HX.out.2
                go_wp2_with fail
                refine ⟨⟨0 + 1, by go_num, by omega, HN.out.mono (by omega)⟩, ?_⟩
                simp [intOf]
              | true =>
                go_upto_region 30 with fail
                refine wp_region_until (S := fun X => SP bo gy o nv X) 13 (by kernel_rfl) ?_
                show wpAnyU _ _ _ _ _ _ 16 (Array.replicate 16 false) _ _
                obtain ⟨X, hX⟩ : ∃ X : World, X = { W2 with drawn := W2.drawn + 1 } := ⟨_, rfl⟩
                rw [← hX]
                have HX : Hid (SP bo gy o nv X ∧ Below W2.heap.size W2 X) := (by
                  have hb : Below W2.heap.size W2 X := hX ▸ ⟨rfl, rfl, rfl, Nat.le_refl _, fun _ _ => rfl⟩
                  exact ⟨⟨HRB.out.later hb HRB.out.lt, (HAG.out X hb).1⟩, hb⟩)
                clear hX
                refine takeV (i := 0) [1, 2, 4, 13] (some 73) rfl rfl (by kernel_rfl) (by kernel_rfl) (by kernel_rfl) (by kernel_rfl) (fun _ _ _ h => h) (gRun rfl (.pointer (some ⟨bo, 0 + 0, none⟩)) fun _ h => run_fieldOp' f31_0 (.tmp 14) rfl bo (0) rfl) HX.out.1 ?_
                simp only [Act.put, aS, aC, aZ]
                refine takeV (i := 1) [2, 4, 13] (some 74) rfl rfl (by kernel_rfl) (by kernel_rfl) (by kernel_rfl) (by kernel_rfl) (fun _ _ _ h => h) (gRun rfl (.int .i64 o.k) fun _ h => run_load1 o3' (.tmp 73) rfl bo (0 + 0) rfl (.int .i64 o.k) (h.1.at 0 _ rfl)) HX.out.1 ?_
                simp only [Act.put, aS, aC, aZ]
                refine oneU (i := 2) (by kernel_rfl) ?_
                refine opCallG (some 75) rfl rfl rfl 8 _ (run_call eM8 [.tmp 74, .const (.int .i64 12)] _ rfl [(.int .i64 o.k), (.int .i64 12)] rfl) ?_
                refine (which_any X o.k 12 (by decide) HOI.out.k.1 HOI.out.k.2).mono ?_
                rintro e W_ ⟨rfl, rfl⟩
                refine ⟨_, rfl, ?_⟩
                rw [← HWK.out]
                refine ⟨fun _ => HX.out.1, ?_⟩
                simp only [Act.put, aS, aC, aZ]
                refine takeV (i := 3) [4, 13] (some 76) rfl rfl (by kernel_rfl) (by kernel_rfl) (by kernel_rfl) (by kernel_rfl) (fun _ _ _ h => h) (gRun rfl (.bool true) fun _ h => run_eqZ (.tmp 75) (.const (.int .i64 10)) rfl (wk : Nat) 10 rfl rfl true HB10.out) HX.out.1 ?_
                simp only [Act.put, aS, aC, aZ]
                refine takeV (i := 4) [13] (some 77) rfl rfl (by kernel_rfl) (by kernel_rfl) (by kernel_rfl) (by kernel_rfl) (fun _ _ _ h => h) (gRun rfl (.bool true) fun _ h => run_mvZ (.tmp 76) rfl (.bool true) rfl) HX.out.1 ?_
                simp only [Act.put, aS, aC, aZ]
                refine takeV (i := 5) [13] (some 78) rfl rfl (by kernel_rfl) (by kernel_rfl) (by kernel_rfl) (by kernel_rfl) (fun _ _ _ h => h) (gRun (by kernel_rfl) (ptr gy) fun _ h => run_mvZ (.tmp 12) rfl (ptr gy) rfl) HX.out.1 ?_
                simp only [Act.put, aS, aC, aZ]
                refine takeV (i := 6) [7, 13] (some 79) rfl rfl (by kernel_rfl) (by kernel_rfl) (by kernel_rfl) (by kernel_rfl) (fun _ _ _ h => h) (gRun (by kernel_rfl) (.pointer (some ⟨bo, 0 + 3, none⟩)) fun _ h => run_fieldOp' f31_3 (.tmp 14) rfl bo (0) rfl) HX.out.1 ?_
                simp only [Act.put, aS, aC, aZ]
                refine takeV (i := 7) [13] (some 80) rfl rfl (by kernel_rfl) (by kernel_rfl) (by kernel_rfl) (by kernel_rfl) (fun _ _ _ h => h) (gRun (by kernel_rfl) o.kv fun _ h => run_load1 o29' (.tmp 79) rfl bo (0 + 3) rfl o.kv (h.1.at 3 _ rfl)) HX.out.1 ?_
                simp only [Act.put, aS, aC, aZ]
                refine takeV (i := 8) [9, 10, 11, 12, 13] (some 81) rfl rfl (by kernel_rfl) (by kernel_rfl) (by kernel_rfl) (by kernel_rfl) (fun _ _ _ h => h) (gRun (by kernel_rfl) (ptr gy) fun _ h => run_mvZ (.tmp 12) rfl (ptr gy) rfl) HX.out.1 ?_
                simp only [Act.put, aS, aC, aZ]
                refine takeV (i := 9) [10, 11, 12, 13] (some 82) rfl rfl (by kernel_rfl) (by kernel_rfl) (by kernel_rfl) (by kernel_rfl) (fun _ _ _ h => h) (gRun (by kernel_rfl) (ptr gy) fun _ h => run_nil (.tmp 81) rfl ⟨gy, 0, none⟩ rfl) HX.out.1 ?_
                simp only [Act.put, aS, aC, aZ]
                refine takeV (i := 10) [11, 12, 13] (some 83) rfl rfl (by kernel_rfl) (by kernel_rfl) (by kernel_rfl) (by kernel_rfl) (fun _ _ _ h => h) (gRun (by kernel_rfl) (.pointer (some ⟨gy, 0 + 3, none⟩)) fun _ h => run_fieldOp' f38_3 (.tmp 82) rfl gy (0) rfl) HX.out.1 ?_
                simp only [Act.put, aS, aC, aZ]
                refine takeV (i := 11) [12, 13] (some 84) rfl rfl (by kernel_rfl) (by kernel_rfl) (by kernel_rfl) (by kernel_rfl) (fun _ _ _ h => h) (gRun (by kernel_rfl) nv fun _ h => run_load1 o36' (.tmp 83) rfl gy (0 + 3) rfl nv h.2) HX.out.1 ?_
                simp only [Act.put, aS, aC, aZ]
                refine oneU (i := 12) (by kernel_rfl) ?_
                refine opValueG (some 85) rfl rfl (by kernel_rfl) _ _ (run_lit41_1 (.tmp 84) rfl nv HNV.out rfl) ?_
                have HCA : Hid (Calls Tryd.prog 10 #[ptr gy, o.kv, .slice (some ⟨X.heap.size, 0, none⟩) 1 1] (X.alloc (.cells #[nv] 36)) fun e W' => e = .returned (.bool true) ∧ LawP w W' gx gy g (1 + 4 * i + 2 * 0 + 1 + 1)) := (HAG.out X HX.out.2).2
                have HSX : Hid (SP bo gy o nv (X.alloc (.cells #[nv] 36))) := ⟨HX.out.1.1.later (below_alloc X _) HX.out.1.1.lt, (HAG.out _ (HX.out.2.trans ((below_alloc X _).mono HX.out.2.size))).1⟩
                obtain ⟨gm, hgm⟩ : ∃ q, q = X.heap.size := ⟨_, rfl⟩
                obtain ⟨X2, hX2⟩ : ∃ W, W = X.alloc (.cells #[nv] 36) := ⟨_, rfl⟩
                rw [← hgm, ← hX2] at HCA
                rw [← hX2] at HSX
                rw [← hgm, ← hX2]
                clear hgm hX2
                refine ⟨fun _ => HSX.out, ?_⟩
                simp only [Act.put, aS, aC, aZ]
                refine oneU (i := 13) (by kernel_rfl) ?_
                refine opCallG (some 86) rfl rfl (by kernel_rfl) 10 _ (run_call eM10 [.tmp 78, .tmp 80, .tmp 85] _ rfl [(ptr gy), o.kv, (.slice (some ⟨gm, 0, none⟩) 1 1)] rfl) ?_
                refine HCA.out.mono ?_
                rintro e W5 ⟨rfl, hl5⟩
                refine ⟨_, rfl, ?_⟩
                have H5 : Hid (LawP w W5 gx gy g (1 + 4 * i + 2 * 0 + 1 + 1)) := hl5
                clear hl5 HCA
                refine ⟨fun h => absurd (show true = false from h) (by decide), ?_⟩
                simp only [Act.put, aS, aC, aZ]
                refine oneU (i := 14) (by kernel_rfl) ?_
                refine opValueG (some 87) rfl rfl (by kernel_rfl) (.bool false) _ (run_not (.tmp 86) 4 rfl true rfl) ?_
                refine ⟨fun h => absurd (show true = false from h) (by decide), ?_⟩
                simp only [Act.put, aS, aC, aZ]
                refine oneU (i := 15) (by kernel_rfl) ?_
                refine opValueG (some 88) rfl rfl rfl (.bool false) _ (run_pickZ (.tmp 77) (.tmp 87) (.const (.bool false)) rfl true (.bool false) rfl rfl) ?_
                refine ⟨fun h => absurd (show true = false from h) (by decide), ?_⟩
                simp only [Act.put, aS, aC, aZ]
                refine wpAnyU_done (by kernel_rfl) ?_ _
                have HN : Hid (LawP w W5 gx gy g (1 + 4 * i + 2 * 0 + 1 + 1)) := H5.out
                go_wp2_with fail
                refine ⟨⟨0 + 1, by go_num, by omega, HN.out.mono (by omega)⟩, ?_⟩
                simp [intOf]
          · go_upto_region 24 with fail
            refine wp_region_lit ?_
            refine wl rfl (.int .i64 (i : Nat)) _ (run_mvZ (.tmp 9) rfl (.int .i64 (i : Nat)) rfl) ?_
            simp only [Act.put, aS, aC, aZ]
            refine wl rfl (.slice p0 n0 cap0) _ (run_mvZ (.tmp 13) rfl (.slice p0 n0 cap0) rfl) ?_
            simp only [Act.put, aS, aC, aZ]
            refine wl rfl (.int .i64 (n0 : Nat)) _ (run_lenZ sl22 (.tmp 57) rfl p0 n0 cap0 rfl) ?_
            simp only [Act.put, aS, aC, aZ]
            refine wl rfl (.bool true) _ (run_geqZ' (.tmp 56) (.tmp 58) rfl _ _ rfl rfl true (decide_eq_true (by omega))) ?_
            simp only [Act.put, aS, aC, aZ]
            refine wpList_nil ?_
            have HN : Hid (LawP w WK gx gy g (1 + 4 * i + 2 * 0)) := HK.out
            go_wp2_with fail
            refine ⟨⟨0 + 1, by go_num, by omega, HN.out.mono (by omega)⟩, ?_⟩
            simp [intOf]
        · go_upto_region 15 with fail
          refine wp_region_lit ?_
          refine wl rfl (.int .i64 (1 : Nat)) _ (run_mvZ (.tmp 10) rfl (.int .i64 (1 : Nat)) rfl) ?_
          simp only [Act.put, aS, aC, aZ]
          refine wl rfl (.bool true) _ (run_lssZ (.tmp 44) (.const (.int .i64 2)) rfl _ _ rfl rfl true rfl) ?_
          simp only [Act.put, aS, aC, aZ]
          refine wpList_nil ?_
          go_upto_region 17 with fail
          refine wp_region_lit ?_
          refine wl rfl (ptr gx) _ (run_mvZ (.tmp 7) rfl (ptr gx) rfl) ?_
          simp only [Act.put, aS, aC, aZ]
          refine wl rfl (ptr gx) _ (run_asZ (.tmp 48) rfl (ptr gx) rfl) ?_
          simp only [Act.put, aS, aC, aZ]
          refine wpList_nil ?_
          go_upto_region 18 with fail
          refine wp_region_lit ?_
          refine wl rfl (ptr gy) _ (run_mvZ (.tmp 8) rfl (ptr gy) rfl) ?_
          simp only [Act.put, aS, aC, aZ]
          refine wl rfl (ptr gy) _ (run_asZ (.tmp 49) rfl (ptr gy) rfl) ?_
          simp only [Act.put, aS, aC, aZ]
          refine wpList_nil ?_
          go_upto_region 19 with fail
          refine wp_region_lit ?_
          refine wl rfl (.slice p0 n0 cap0) _ (run_mvZ (.tmp 0) rfl (.slice p0 n0 cap0) rfl) ?_
          simp only [Act.put, aS, aC, aZ]
          refine wl rfl (.slice p0 n0 cap0) _ (run_asZ (.tmp 50) rfl (.slice p0 n0 cap0) rfl) ?_
          simp only [Act.put, aS, aC, aZ]
          refine wpList_nil ?_
          go_upto_region 20 with fail
          refine wp_region_lit ?_
          refine wl rfl (.int .i64 (1 : Nat)) _ (run_mvZ (.tmp 10) rfl (.int .i64 (1 : Nat)) rfl) ?_
          simp only [Act.put, aS, aC, aZ]
          refine wl rfl (.bool true) _ (run_eqZ (.tmp 51) (.const (.int .i64 1)) rfl _ _ rfl rfl true rfl) ?_
          simp only [Act.put, aS, aC, aZ]
          refine wpList_nil ?_
          go_upto_region 21 with fail
          refine wp_region_lit ?_
          refine wl rfl (ptr gy) _ (run_mvZ (.tmp 8) rfl (ptr gy) rfl) ?_
          simp only [Act.put, aS, aC, aZ]
          refine wl rfl (ptr gy) _ (run_asZ (.tmp 53) rfl (ptr gy) rfl) ?_
          simp only [Act.put, aS, aC, aZ]
          refine wpList_nil ?_
          go_upto_region 22 with fail
          refine wp_region_lit ?_
          refine wl rfl (ptr gx) _ (run_mvZ (.tmp 7) rfl (ptr gx) rfl) ?_
          simp only [Act.put, aS, aC, aZ]
          refine wl rfl (ptr gx) _ (run_asZ (.tmp 54) rfl (ptr gx) rfl) ?_
          simp only [Act.put, aS, aC, aZ]
          refine wpList_nil ?_
          go_upto_region 23 with fail
          refine wp_region_lit ?_
          refine wl rfl (.slice p1 n1 cap1) _ (run_mvZ (.tmp 1) rfl (.slice p1 n1 cap1) rfl) ?_
          simp only [Act.put, aS, aC, aZ]
          refine wl rfl (.slice p1 n1 cap1) _ (run_asZ (.tmp 55) rfl (.slice p1 n1 cap1) rfl) ?_
          simp only [Act.put, aS, aC, aZ]
          refine wpList_nil ?_
          by_cases hlt : i < n1
          · go_upto_region 24 with fail
            refine wp_region_lit ?_
            refine wl rfl (.int .i64 (i : Nat)) _ (run_mvZ (.tmp 9) rfl (.int .i64 (i : Nat)) rfl) ?_
            simp only [Act.put, aS, aC, aZ]
            refine wl rfl (.slice p1 n1 cap1) _ (run_mvZ (.tmp 13) rfl (.slice p1 n1 cap1) rfl) ?_
            simp only [Act.put, aS, aC, aZ]
            refine wl rfl (.int .i64 (n1 : Nat)) _ (run_lenZ sl22 (.tmp 57) rfl p1 n1 cap1 rfl) ?_
            simp only [Act.put, aS, aC, aZ]
            refine wl rfl (.bool false) _ (run_geqZ' (.tmp 56) (.tmp 58) rfl _ _ rfl rfl false (decide_eq_false (by omega))) ?_
            simp only [Act.put, aS, aC, aZ]
            refine wpList_nil ?_
            obtain ⟨fb, fo, o, rfl, ho, hoc⟩ := HA1.out.1.at i hlt
            have HOI : Hid (OpIn w o) := ho
            have HOC : Hid (∀ (j : Nat) v, o.cells[j]? = some v → WK.cell? ⟨fb, fo + i * 4 + j, none⟩ = some v) := hoc WK HK.out.below
            clear ho hoc
            go_upto_region 25 with fail
            refine wp_region_lit ?_
            refine wl rfl (.slice (some ⟨fb, fo, none⟩) n1 cap1) _ (run_mvZ (.tmp 13) rfl (.slice (some ⟨fb, fo, none⟩) n1 cap1) rfl) ?_
            simp only [Act.put, aS, aC, aZ]
            refine wl rfl (.int .i64 (i : Nat)) _ (run_mvZ (.tmp 9) rfl (.int .i64 (i : Nat)) rfl) ?_
            simp only [Act.put, aS, aC, aZ]
            refine wl rfl (.pointer (some ⟨fb, fo + i * 4, none⟩)) _ (run_ix22' (.tmp 60) (.tmp 61) rfl fb fo n1 cap1 i rfl rfl hlt) ?_
            simp only [Act.put, aS, aC, aZ]
            refine wl rfl (.agg o.cells.toArray) _ (run_loadA ag31 (.tmp 62) rfl fb (fo + i * 4) rfl o.cells rfl (fun j v hv => HOC.out j v hv)) ?_
            simp only [Act.put, aS, aC, aZ]
            refine wl rfl (ptr WK.heap.size) _ (run_allocZ rfl z31 zero31) ?_
            obtain ⟨bo, hbo⟩ : ∃ q, q = WK.heap.size := ⟨_, rfl⟩
            obtain ⟨u0, hw⟩ : ∃ W, W = WK.alloc (.cells z31.toArray 31) := ⟨_, rfl⟩
            have A0 : Hid (Below WK.heap.size WK u0 ∧ Row u0 bo 31 z31 ∧ WK.heap.size ≤ bo) := (by rw [hbo, hw]; exact ⟨below_alloc WK _, Row.new _ _ _, Nat.le_refl _⟩)
            rw [← hbo, ← hw]
            clear hbo hw
            simp only [Act.put, aS, aC, aZ]
            have hst := run_storeVar ag31 u0 bo 0 31 z31 o.cells rfl A0.out.2.1 (by simp [z31, OpD.cells, opCells]) (op_one HOI.out)
            rw [show splice z31 0 o.cells = o.cells from rfl] at hst
            refine wlS rfl rfl _ (run_stV (.tmp 14) (.tmp 63) rfl bo 0 rfl _ rfl hst) ?_
            obtain ⟨W1, hw⟩ : ∃ W, W = u0.setRow bo o.cells.toArray := ⟨_, rfl⟩
            have HR : Hid (LawP w WK gx gy g (1 + 4 * i + 2 * 1) ∧ Row W1 bo 31 o.cells ∧ Below WK.heap.size WK W1 ∧ WK.heap.size ≤ bo) := (by
              have hc : Ch (· = bo) u0 W1 := hw ▸ (Ch.refl (· = bo) u0).setRow (g := bo) (Or.inl rfl) _
              have hb : Below WK.heap.size WK W1 := A0.out.1.trans (hc.below A0.out.1.size fun i hi e => by have := A0.out.2.2; omega)
              exact ⟨HK.out, hw ▸ A0.out.2.1.setRow _, hb, A0.out.2.2⟩)
            rw [← hw]
            clear hw hst A0 HOC HK
            refine wpList_nil ?_
            obtain ⟨wk, hwk⟩ : ∃ x, x = whichOf o.k 12 := ⟨_, rfl⟩
            have HWK : Hid (wk = whichOf o.k 12) := hwk
            clear hwk
            obtain ⟨b9, hb9⟩ : ∃ b, decide ((wk : Int) = 9) = b := ⟨_, rfl⟩
            have HB9 : Hid (decide ((wk : Int) = 9) = b9) := hb9
            clear hb9
            go_upto_region 26 with fail
            refine wp_region_lit ?_
            refine wl rfl (.pointer (some ⟨bo, 0 + 0, none⟩)) _ (run_fieldOp' f31_0 (.tmp 14) rfl bo (0) rfl) ?_
            simp only [Act.put, aS, aC, aZ]
            refine wl rfl (.int .i64 o.k) _ (run_load1 o3' (.tmp 64) rfl bo (0 + 0) rfl (.int .i64 o.k) (HR.out.2.1.at 0 _ rfl)) ?_
            simp only [Act.put, aS, aC, aZ]
            refine wpList_callW eM8 [.tmp 65, .const (.int .i64 12)] _ rfl rfl [(.int .i64 o.k), .int .i64 12] rfl ?_
            refine (which_any W1 o.k 12 (by decide) HOI.out.k.1 HOI.out.k.2).mono ?_
            rintro e W_ ⟨rfl, rfl⟩
            refine ⟨_, rfl, ?_⟩
            rw [← HWK.out]
            simp only [Act.put, aS, aC, aZ]
            refine wl rfl (.bool b9) _ (run_eqZ (.tmp 66) (.const (.int .i64 9)) rfl (wk : Nat) 9 rfl rfl b9 HB9.out) ?_
            simp only [Act.put, aS, aC, aZ]
            refine wpList_nil ?_
            cases b9 with
            | true =>
              have HN : Hid (LawP w W1 gx gy g (1 + 4 * i + 2 * 1)) := HR.out.1.bel HR.out.2.2.1
              go_wp2_with fail
              refine ⟨⟨1 + 1, by go_num, by omega, HN.out.mono (by omega)⟩, ?_⟩
              simp [intOf]
            | false =>
              go_upto_region 27 with fail
              refine wp_region_lit ?_
              refine wl rfl (ptr gy) _ (run_mvZ (.tmp 11) rfl (ptr gy) rfl) ?_
              simp only [Act.put, aS, aC, aZ]
              refine wl rfl (.agg (o.cells).toArray) _ (run_loadA ag31 (.tmp 14) rfl bo (0) rfl (o.cells) rfl (fun j v hv => (by rw [Nat.zero_add]; exact HR.out.2.1.at j v hv))) ?_
              simp only [Act.put, aS, aC, aZ]
              refine wpList_callW eM9 [.tmp 68, .tmp 69] _ rfl rfl [(ptr gy), (.agg (o.cells).toArray)] rfl ?_
              refine (HR.out.1.doY HR.out.2.2.1 HR.out.2.2.2 HR.out.2.1 HT.out.2 (by omega) HOI.out).mono ?_
              rintro e W2 ⟨rfl, hl_, hr_⟩
              refine ⟨_, rfl, ?_⟩
              have H2 : Hid (LawP w W2 gx gy g (1 + 4 * i + 2 * 1 + 1)) := hl_
              have HRB : Hid (Row W2 bo 31 o.cells) := hr_
              clear hl_ hr_ HR
              simp only [Act.put, aS, aC, aZ]
              refine wl rfl (.bool true) _ (run_asZ (.tmp 70) rfl (.bool true) rfl) ?_
              simp only [Act.put, aS, aC, aZ]
              refine wpList_nil ?_
              go_upto_region 28 with fail
              refine wp_region_lit ?_
              refine wl rfl (.bool true) _ (run_mvZ (.tmp 15) rfl (.bool true) rfl) ?_
              simp only [Act.put, aS, aC, aZ]
              refine wl rfl (.bool false) _ (run_not (.tmp 71) 4 rfl true rfl) ?_
              simp only [Act.put, aS, aC, aZ]
              refine wpList_nil ?_
              obtain ⟨b10, hb10⟩ : ∃ b, decide ((wk : Int) = 10) = b := ⟨_, rfl⟩
              have HB10 : Hid (decide ((wk : Int) = 10) = b10) := hb10
              clear hb10
              obtain ⟨nv, hnv, hag⟩ := H2.out.againX HT.out.2 (by omega) o.kv o.ks HOI.out.keep
              have HNV : Hid (∃ p n c, nv = Value.slice p n c) := hnv
              have HAG : Hid (∀ X, Below W2.heap.size W2 X → X.cell? ⟨gx, 0 + 3, none⟩ = some nv ∧ Calls Tryd.prog 10 #[ptr gx, o.kv, .slice (some ⟨X.heap.size, 0, none⟩) 1 1] (X.alloc (.cells #[nv] 36)) fun e W' => e = .returned (.bool true) ∧ LawP w W' gx gy g (1 + 4 * i + 2 * 1 + 1 + 1)) := hag
              clear hnv hag
              cases b10 with
              | false =>
                go_upto_region 30 with fail
                refine wp_region_held (S := fun X => SP bo gx o nv X) (by kernel_rfl) ?_
                show wpAnyH _ _ _ _ _ 16 (Array.replicate 16 false) _ _
                obtain ⟨X, hX⟩ : ∃ X : World, X = { W2 with drawn := W2.drawn + 1 } := ⟨_, rfl⟩
                rw [← hX]
                have HX : Hid (SP bo gx o nv X ∧ Below W2.heap.size W2 X) := (by
                  have hb : Below W2.heap.size W2 X := hX ▸ ⟨rfl, rfl, rfl, Nat.le_refl _, fun _ _ => rfl⟩
                  exact ⟨⟨HRB.out.later hb HRB.out.lt, (HAG.out X hb).1⟩, hb⟩)
                clear hX
                refine takeH (i := 0) (some 73) rfl rfl (by kernel_rfl) (by kernel_rfl) (by kernel_rfl) (fun _ _ _ h => h) (gRun rfl (.pointer (some ⟨bo, 0 + 0, none⟩)) fun _ h => run_fieldOp' f31_0 (.tmp 14) rfl bo (0) rfl) HX.out.1 ?_
                simp only [Act.put, aS, aC, aZ]
                refine takeH (i := 1) (some 74) rfl rfl (by kernel_rfl) (by kernel_rfl) (by kernel_rfl) (fun _ _ _ h => h) (gRun rfl (.int .i64 o.k) fun _ h => run_load1 o3' (.tmp 73) rfl bo (0 + 0) rfl (.int .i64 o.k) (h.1.at 0 _ rfl)) HX.out.1 ?_
                simp only [Act.put, aS, aC, aZ]
                refine oneH (i := 2) (by kernel_rfl) ?_
                refine opCallG (some 75) rfl rfl rfl 8 _ (run_call eM8 [.tmp 74, .const (.int .i64 12)] _ rfl [(.int .i64 o.k), (.int .i64 12)] rfl) ?_
                refine (which_any X o.k 12 (by decide) HOI.out.k.1 HOI.out.k.2).mono ?_
                rintro e W_ ⟨rfl, rfl⟩
                refine ⟨_, rfl, ?_⟩
                rw [← HWK.out]
                refine ⟨HX.out.1, ?_⟩
                simp only [Act.put, aS, aC, aZ]
                refine takeH (i := 3) (some 76) rfl rfl (by kernel_rfl) (by kernel_rfl) (by kernel_rfl) (fun _ _ _ h => h) (gRun rfl (.bool false) fun _ h => run_eqZ (.tmp 75) (.const (.int .i64 10)) rfl (wk : Nat) 10 rfl rfl false HB10.out) HX.out.1 ?_
                simp only [Act.put, aS, aC, aZ]
                refine takeH (i := 4) (some 77) rfl rfl (by kernel_rfl) (by kernel_rfl) (by kernel_rfl) (fun _ _ _ h => h) (gRun rfl (.bool false) fun _ h => run_mvZ (.tmp 76) rfl (.bool false) rfl) HX.out.1 ?_
                simp only [Act.put, aS, aC, aZ]
                refine takeH (i := 5) (some 78) rfl rfl (by kernel_rfl) (by kernel_rfl) (by kernel_rfl) (fun _ _ _ h => h) (Or.inr ⟨by kernel_rfl, rfl⟩) HX.out.1 ?_
                simp only [Act.put, aS, aC, aZ]
                refine takeH (i := 6) (some 79) rfl rfl (by kernel_rfl) (by kernel_rfl) (by kernel_rfl) (fun _ _ _ h => h) (Or.inr ⟨by kernel_rfl, rfl⟩) HX.out.1 ?_
                simp only [Act.put, aS, aC, aZ]
                refine takeH (i := 7) (some 80) rfl rfl (by kernel_rfl) (by kernel_rfl) (by kernel_rfl) (fun _ _ _ h => h) (Or.inr ⟨by kernel_rfl, rfl⟩) HX.out.1 ?_
                simp only [Act.put, aS, aC, aZ]
                refine takeH (i := 8) (some 81) rfl rfl (by kernel_rfl) (by kernel_rfl) (by kernel_rfl) (fun _ _ _ h => h) (Or.inr ⟨by kernel_rfl, rfl⟩) HX.out.1 ?_
                simp only [Act.put, aS, aC, aZ]
                refine takeH (i := 9) (some 82) rfl rfl (by kernel_rfl) (by kernel_rfl) (by kernel_rfl) (fun _ _ _ h => h) (Or.inr ⟨by kernel_rfl, rfl⟩) HX.out.1 ?_
                simp only [Act.put, aS, aC, aZ]
                refine takeH (i := 10) (some 83) rfl rfl (by kernel_rfl) (by kernel_rfl) (by kernel_rfl) (fun _ _ _ h => h) (Or.inr ⟨by kernel_rfl, rfl⟩) HX.out.1 ?_
                simp only [Act.put, aS, aC, aZ]
                refine takeH (i := 11) (some 84) rfl rfl (by kernel_rfl) (by kernel_rfl) (by kernel_rfl) (fun _ _ _ h => h) (Or.inr ⟨by kernel_rfl, rfl⟩) HX.out.1 ?_
                simp only [Act.put, aS, aC, aZ]
                refine takeH (i := 12) (some 85) rfl rfl (by kernel_rfl) (by kernel_rfl) (by kernel_rfl) (fun _ _ _ h => h) (Or.inr ⟨by kernel_rfl, rfl⟩) HX.out.1 ?_
                simp only [Act.put, aS, aC, aZ]
                refine takeH (i := 13) (some 86) rfl rfl (by kernel_rfl) (by kernel_rfl) (by kernel_rfl) (fun _ _ _ h => h) (Or.inr ⟨by kernel_rfl, rfl⟩) HX.out.1 ?_
                simp only [Act.put, aS, aC, aZ]
                refine takeH (i := 14) (some 87) rfl rfl (by kernel_rfl) (by kernel_rfl) (by kernel_rfl) (fun _ _ _ h => h) (Or.inr ⟨by kernel_rfl, rfl⟩) HX.out.1 ?_
                simp only [Act.put, aS, aC, aZ]
                refine takeH (i := 15) (some 88) rfl rfl (by kernel_rfl) (by kernel_rfl) (by kernel_rfl) (fun _ _ _ h => h) (gRun rfl (.bool false) fun _ h => run_pickZ (.tmp 77) (.tmp 87) (.const (.bool false)) rfl false (.bool false) rfl rfl) HX.out.1 ?_
                simp only [Act.put, aS, aC, aZ]
                refine wpAnyH_done (by kernel_rfl) ?_ _
                have HN : Hid (LawP w X gx gy g (1 + 4 * i + 2 * 1 + 1)) := H2.out.bel HX.out.2
                go_wp2_with fail
                refine ⟨⟨1 + 1, by go_num, by omega, HN.out.mono (by omega)⟩, ?_⟩
                simp [intOf]
              | true =>
                go_upto_region 30 with fail
                refine wp_region_until (S := fun X => SP bo gx o nv X) 13 (by kernel_rfl) ?_
                show wpAnyU _ _ _ _ _ _ 16 (Array.replicate 16 false) _ _
                obtain ⟨X, hX⟩ : ∃ X : World, X = { W2 with drawn := W2.drawn + 1 } := ⟨_, rfl⟩
                rw [← hX]
                have HX : Hid (SP bo gx o nv X ∧ Below W2.heap.size W2 X) := (by
                  have hb : Below W2.heap.size W2 X := hX ▸ ⟨rfl, rfl, rfl, Nat.le_refl _, fun _ _ => rfl⟩
                  exact ⟨⟨HRB.out.later hb HRB.out.lt, (HAG.out X hb).1⟩, hb⟩)
                clear hX
                refine takeV (i := 0) [1, 2, 4, 13] (some 73) rfl rfl (by kernel_rfl) (by kernel_rfl) (by kernel_rfl) (by kernel_rfl) (fun _ _ _ h => h) (gRun rfl (.pointer (some ⟨bo, 0 + 0, none⟩)) fun _ h => run_fieldOp' f31_0 (.tmp 14) rfl bo (0) rfl) HX.out.1 ?_
                simp only [Act.put, aS, aC, aZ]
                refine takeV (i := 1) [2, 4, 13] (some 74) rfl rfl (by kernel_rfl) (by kernel_rfl) (by kernel_rfl) (by kernel_rfl) (fun _ _ _ h => h) (gRun rfl (.int .i64 o.k) fun _ h => run_load1 o3' (.tmp 73) rfl bo (0 + 0) rfl (.int .i64 o.k) (h.1.at 0 _ rfl)) HX.out.1 ?_
                simp only [Act.put, aS, aC, aZ]
                refine oneU (i := 2) (by kernel_rfl) ?_
                refine opCallG (some 75) rfl rfl rfl 8 _ (run_call eM8 [.tmp 74, .const (.int .i64 12)] _ rfl [(.int .i64 o.k), (.int .i64 12)] rfl) ?_
                refine (which_any X o.k 12 (by decide) HOI.out.k.1 HOI.out.k.2).mono ?_
                rintro e W_ ⟨rfl, rfl⟩
                refine ⟨_, rfl, ?_⟩
                rw [← HWK.out]
                refine ⟨fun _ => HX.out.1, ?_⟩
                simp only [Act.put, aS, aC, aZ]
                refine takeV (i := 3) [4, 13] (some 76) rfl rfl (by kernel_rfl) (by kernel_rfl) (by kernel_rfl) (by kernel_rfl) (fun _ _ _ h => h) (gRun rfl (.bool true) fun _ h => run_eqZ (.tmp 75) (.const (.int .i64 10)) rfl (wk : Nat) 10 rfl rfl true HB10.out) HX.out.1 ?_
                simp only [Act.put, aS, aC, aZ]
                refine takeV (i := 4) [13] (some 77) rfl rfl (by kernel_rfl) (by kernel_rfl) (by kernel_rfl) (by kernel_rfl) (fun _ _ _ h => h) (gRun rfl (.bool true) fun _ h => run_mvZ (.tmp 76) rfl (.bool true) rfl) HX.out.1 ?_
                simp only [Act.put, aS, aC, aZ]
                refine takeV (i := 5) [13] (some 78) rfl rfl (by kernel_rfl) (by kernel_rfl) (by kernel_rfl) (by kernel_rfl) (fun _ _ _ h => h) (gRun (by kernel_rfl) (ptr gx) fun _ h => run_mvZ (.tmp 12) rfl (ptr gx) rfl) HX.out.1 ?_
                simp only [Act.put, aS, aC, aZ]
                refine takeV (i := 6) [7, 13] (some 79) rfl rfl (by kernel_rfl) (by kernel_rfl) (by kernel_rfl) (by kernel_rfl) (fun _ _ _ h => h) (gRun (by kernel_rfl) (.pointer (some ⟨bo, 0 + 3, none⟩)) fun _ h => run_fieldOp' f31_3 (.tmp 14) rfl bo (0) rfl) HX.out.1 ?_
                simp only [Act.put, aS, aC, aZ]
                refine takeV (i := 7) [13] (some 80) rfl rfl (by kernel_rfl) (by kernel_rfl) (by kernel_rfl) (by kernel_rfl) (fun _ _ _ h => h) (gRun (by kernel_rfl) o.kv fun _ h => run_load1 o29' (.tmp 79) rfl bo (0 + 3) rfl o.kv (h.1.at 3 _ rfl)) HX.out.1 ?_
                simp only [Act.put, aS, aC, aZ]
                refine takeV (i := 8) [9, 10, 11, 12, 13] (some 81) rfl rfl (by kernel_rfl) (by kernel_rfl) (by kernel_rfl) (by kernel_rfl) (fun _ _ _ h => h) (gRun (by kernel_rfl) (ptr gx) fun _ h => run_mvZ (.tmp 12) rfl (ptr gx) rfl) HX.out.1 ?_
                simp only [Act.put, aS, aC, aZ]
                refine takeV (i := 9) [10, 11, 12, 13] (some 82) rfl rfl (by kernel_rfl) (by kernel_rfl) (by kernel_rfl) (by kernel_rfl) (fun _ _ _ h => h) (gRun (by kernel_rfl) (ptr gx) fun _ h => run_nil (.tmp 81) rfl ⟨gx, 0, none⟩ rfl) HX.out.1 ?_
                simp only [Act.put, aS, aC, aZ]
                refine takeV (i := 10) [11, 12, 13] (some 83) rfl rfl (by kernel_rfl) (by kernel_rfl) (by kernel_rfl) (by kernel_rfl) (fun _ _ _ h => h) (gRun (by kernel_rfl) (.pointer (some ⟨gx, 0 + 3, none⟩)) fun _ h => run_fieldOp' f38_3 (.tmp 82) rfl gx (0) rfl) HX.out.1 ?_
                simp only [Act.put, aS, aC, aZ]
                refine takeV (i := 11) [12, 13] (some 84) rfl rfl (by kernel_rfl) (by kernel_rfl) (by kernel_rfl) (by kernel_rfl) (fun _ _ _ h => h) (gRun (by kernel_rfl) nv fun _ h => run_load1 o36' (.tmp 83) rfl gx (0 + 3) rfl nv h.2) HX.out.1 ?_
                simp only [Act.put, aS, aC, aZ]
                refine oneU (i := 12) (by kernel_rfl) ?_
                refine opValueG (some 85) rfl rfl (by kernel_rfl) _ _ (run_lit41_1 (.tmp 84) rfl nv HNV.out rfl) ?_
                have HCA : Hid (Calls Tryd.prog 10 #[ptr gx, o.kv, .slice (some ⟨X.heap.size, 0, none⟩) 1 1] (X.alloc (.cells #[nv] 36)) fun e W' => e = .returned (.bool true) ∧ LawP w W' gx gy g (1 + 4 * i + 2 * 1 + 1 + 1)) := (HAG.out X HX.out.2).2
                have HSX : Hid (SP bo gx o nv (X.alloc (.cells #[nv] 36))) := ⟨HX.out.1.1.later (below_alloc X _) HX.out.1.1.lt, (HAG.out _ (HX.out.2.trans ((below_alloc X _).mono HX.out.2.size))).1⟩
                obtain ⟨gm, hgm⟩ : ∃ q, q = X.heap.size := ⟨_, rfl⟩
                obtain ⟨X2, hX2⟩ : ∃ W, W = X.alloc (.cells #[nv] 36) := ⟨_, rfl⟩
                rw [← hgm, ← hX2] at HCA
                rw [← hX2] at HSX
                rw [← hgm, ← hX2]
                clear hgm hX2
                refine ⟨fun _ => HSX.out, ?_⟩
                simp only [Act.put, aS, aC, aZ]
                refine oneU (i := 13) (by kernel_rfl) ?_
                refine opCallG (some 86) rfl rfl (by kernel_rfl) 10 _ (run_call eM10 [.tmp 78, .tmp 80, .tmp 85] _ rfl [(ptr gx), o.kv, (.slice (some ⟨gm, 0, none⟩) 1 1)] rfl) ?_
                refine HCA.out.mono ?_
                rintro e W5 ⟨rfl, hl5⟩
                refine ⟨_, rfl, ?_⟩
                have H5 : Hid (LawP w W5 gx gy g (1 + 4 * i + 2 * 1 + 1 + 1)) := hl5
                clear hl5 HCA
                refine ⟨fun h => absurd (show true = false from h) (by decide), ?_⟩
                simp only [Act.put, aS, aC, aZ]
                refine oneU (i := 14) (by kernel_rfl) ?_
                refine opValueG (some 87) rfl rfl (by kernel_rfl) (.bool false) _ (run_not (.tmp 86) 4 rfl true rfl) ?_
                refine ⟨fun h => absurd (show true = false from h) (by decide), ?_⟩
                simp only [Act.put, aS, aC, aZ]
                refine oneU (i := 15) (by kernel_rfl) ?_
                refine opValueG (some 88) rfl rfl rfl (.bool false) _ (run_pickZ (.tmp 77) (.tmp 87) (.const (.bool false)) rfl true (.bool false) rfl rfl) ?_
                refine ⟨fun h => absurd (show true = false from h) (by decide), ?_⟩
                simp only [Act.put, aS, aC, aZ]
                refine wpAnyU_done (by kernel_rfl) ?_ _
                have HN : Hid (LawP w W5 gx gy g (1 + 4 * i + 2 * 1 + 1 + 1)) := H5.out
                go_wp2_with fail
                refine ⟨⟨1 + 1, by go_num, by omega, HN.out.mono (by omega)⟩, ?_⟩
                simp [intOf]
          · go_upto_region 24 with fail
            refine wp_region_lit ?_
            refine wl rfl (.int .i64 (i : Nat)) _ (run_mvZ (.tmp 9) rfl (.int .i64 (i : Nat)) rfl) ?_
            simp only [Act.put, aS, aC, aZ]
            refine wl rfl (.slice p1 n1 cap1) _ (run_mvZ (.tmp 13) rfl (.slice p1 n1 cap1) rfl) ?_
            simp only [Act.put, aS, aC, aZ]
            refine wl rfl (.int .i64 (n1 : Nat)) _ (run_lenZ sl22 (.tmp 57) rfl p1 n1 cap1 rfl) ?_
            simp only [Act.put, aS, aC, aZ]
            refine wl rfl (.bool true) _ (run_geqZ' (.tmp 56) (.tmp 58) rfl _ _ rfl rfl true (decide_eq_true (by omega))) ?_
            simp only [Act.put, aS, aC, aZ]
            refine wpList_nil ?_
            have HN : Hid (LawP w WK gx gy g (1 + 4 * i + 2 * 1)) := HK.out
            go_wp2_with fail
            refine ⟨⟨1 + 1, by go_num, by omega, HN.out.mono (by omega)⟩, ?_⟩
            simp [intOf]
        · go_upto_region 15 with fail
          refine wp_region_lit ?_
          refine wl rfl (.int .i64 (2 : Nat)) _ (run_mvZ (.tmp 10) rfl (.int .i64 (2 : Nat)) rfl) ?_
          simp only [Act.put, aS, aC, aZ]
          refine wl rfl (.bool false) _ (run_lssZ (.tmp 44) (.const (.int .i64 2)) rfl _ _ rfl rfl false rfl) ?_
          simp only [Act.put, aS, aC, aZ]
          refine wpList_nil ?_
          go_wp2_with fail
          refine ⟨⟨i + 1, by go_num, by omega, HK.out.mono (by omega)⟩, ?_⟩
          simp [intOf]; omega
    have h1 : decide ((i : Int) < (n0 : Int)) = false := decide_eq_false (by omega)
    have h2 : decide ((i : Int) < (n1 : Int)) = false := decide_eq_false (by omega)
    go_upto_region 12 with fail
    refine wp_region_lit ?_
    refine wl rfl (.int .i64 (i : Nat)) _ (run_mvZ (.tmp 9) rfl (.int .i64 (i : Nat)) rfl) ?_
    simp only [Act.put, aS, aC, aZ]
    refine wl rfl (.slice p0 n0 cap0) _ (run_mvZ (.tmp 0) rfl (.slice p0 n0 cap0) rfl) ?_
    simp only [Act.put, aS, aC, aZ]
    refine wl rfl (.int .i64 (n0 : Nat)) _ (run_lenZ sl22 (.tmp 33) rfl p0 n0 cap0 rfl) ?_
    simp only [Act.put, aS, aC, aZ]
    refine wl rfl (.bool false) _ (run_lssZ (.tmp 32) (.tmp 34) rfl _ _ rfl rfl false h1) ?_
    simp only [Act.put, aS, aC, aZ]
    refine wl rfl (.bool false) _ (run_mvZ (.tmp 35) rfl (.bool false) rfl) ?_
    simp only [Act.put, aS, aC, aZ]
    refine wl (by kernel_rfl) (.int .i64 (i : Nat)) _ (run_mvZ (.tmp 9) rfl (.int .i64 (i : Nat)) rfl) ?_
    simp only [Act.put, aS, aC, aZ]
    refine wl (by kernel_rfl) (.slice p1 n1 cap1) _ (run_mvZ (.tmp 1) rfl (.slice p1 n1 cap1) rfl) ?_
    simp only [Act.put, aS, aC, aZ]
    refine wl (by kernel_rfl) (.int .i64 (n1 : Nat)) _ (run_lenZ sl22 (.tmp 38) rfl p1 n1 cap1 rfl) ?_
    simp only [Act.put, aS, aC, aZ]
    refine wl (by kernel_rfl) (.bool false) _ (run_lssZ (.tmp 37) (.tmp 39) rfl _ _ rfl rfl false h2) ?_
    simp only [Act.put, aS, aC, aZ]
    refine wl rfl (.bool false) _ (run_pickZ (.tmp 36) (.const (.bool true)) (.tmp 40) rfl false (.bool false) rfl rfl) ?_
    simp only [Act.put, aS, aC, aZ]
    refine wpList_nil ?_
    clear h1 h2
    obtain ⟨nvx, hnx, hax⟩ := HI.out.againX HT.out.2 (by omega) (.slice none 0 0) [] (ints_nil w)
    have HVx : Hid (∃ p n c, nvx = Value.slice p n c) := hnx
    have HCx : Hid (WI.cell? ⟨gx, 0 + 3, none⟩ = some nvx) := (hax WI (Below.refl _ _)).1
    have HQx : Hid (Calls Tryd.prog 10 #[ptr gx, .slice none 0 0, .slice (some ⟨WI.heap.size, 0, none⟩) 1 1] (WI.alloc (.cells #[nvx] 36)) fun e W' => e = .returned (.bool true) ∧ LawP w W' gx gy g (1 + 4 * i + 1)) := (hax WI (Below.refl _ _)).2
    clear hnx hax
    go_upto_region 32 with fail
    refine wp_region_lit ?_
    refine wl rfl (.bool true) _ (run_mvZ (.tmp 5) rfl (.bool true) rfl) ?_
    simp only [Act.put, aS, aC, aZ]
    refine wl rfl (.bool true) _ (run_mvZ (.tmp 89) rfl (.bool true) rfl) ?_
    simp only [Act.put, aS, aC, aZ]
    refine wl (by kernel_rfl) (ptr gx) _ (run_mvZ (.tmp 7) rfl (ptr gx) rfl) ?_
    simp only [Act.put, aS, aC, aZ]
    refine wl (by kernel_rfl) (ptr gx) _ (run_mvZ (.tmp 7) rfl (ptr gx) rfl) ?_
    simp only [Act.put, aS, aC, aZ]
    refine wl (by kernel_rfl) (ptr gx) _ (run_nil (.tmp 92) rfl ⟨gx, 0, none⟩ rfl) ?_
    simp only [Act.put, aS, aC, aZ]
    refine wl (by kernel_rfl) (.pointer (some ⟨gx, 0 + 3, none⟩)) _ (run_fieldOp' f38_3 (.tmp 93) rfl gx (0) rfl) ?_
    simp only [Act.put, aS, aC, aZ]
    refine wl (by kernel_rfl) nvx _ (run_load1 o36' (.tmp 94) rfl gx (0 + 3) rfl nvx HCx.out) ?_
    simp only [Act.put, aS, aC, aZ]
    refine wl (by kernel_rfl) (.slice (some ⟨WI.heap.size, 0, none⟩) 1 1) (WI.alloc (.cells #[nvx] 36)) (run_lit41_1 (.tmp 95) rfl nvx HVx.out rfl) ?_
    simp only [Act.put, aS, aC, aZ]
    refine wpList_callW eM10 [.tmp 91, .const (.slice none 0 0), .tmp 96] _ (by kernel_rfl) rfl [(ptr gx), (.slice none 0 0), (.slice (some ⟨WI.heap.size, 0, none⟩) 1 1)] rfl ?_
    refine HQx.out.mono ?_
    rintro e W6 ⟨rfl, h6⟩
    refine ⟨_, rfl, ?_⟩
    obtain ⟨nvy, hny, hay⟩ := h6.againY HT.out.2 (by omega) (.slice none 0 0) [] (ints_nil w)
    have HVy : Hid (∃ p n c, nvy = Value.slice p n c) := hny
    have HCy : Hid (W6.cell? ⟨gy, 0 + 3, none⟩ = some nvy) := (hay W6 (Below.refl _ _)).1
    have HQy : Hid (Calls Tryd.prog 10 #[ptr gy, .slice none 0 0, .slice (some ⟨W6.heap.size, 0, none⟩) 1 1] (W6.alloc (.cells #[nvy] 36)) fun e W' => e = .returned (.bool true) ∧ LawP w W' gx gy g (1 + 4 * i + 1 + 1)) := (hay W6 (Below.refl _ _)).2
    clear hny hay h6
    simp only [Act.put, aS, aC, aZ]
    refine wl rfl (.bool true) _ (run_pickZ (.tmp 90) (.tmp 97) (.const (.bool false)) rfl true (.bool true) rfl rfl) ?_
    simp only [Act.put, aS, aC, aZ]
    refine wl rfl (.bool true) _ (run_mvZ (.tmp 98) rfl (.bool true) rfl) ?_
    simp only [Act.put, aS, aC, aZ]
    refine wl (by kernel_rfl) (ptr gy) _ (run_mvZ (.tmp 8) rfl (ptr gy) rfl) ?_
    simp only [Act.put, aS, aC, aZ]
    refine wl (by kernel_rfl) (ptr gy) _ (run_mvZ (.tmp 8) rfl (ptr gy) rfl) ?_
    simp only [Act.put, aS, aC, aZ]
    refine wl (by kernel_rfl) (ptr gy) _ (run_nil (.tmp 101) rfl ⟨gy, 0, none⟩ rfl) ?_
    simp only [Act.put, aS, aC, aZ]
    refine wl (by kernel_rfl) (.pointer (some ⟨gy, 0 + 3, none⟩)) _ (run_fieldOp' f38_3 (.tmp 102) rfl gy (0) rfl) ?_
    simp only [Act.put, aS, aC, aZ]
    refine wl (by kernel_rfl) nvy _ (run_load1 o36' (.tmp 103) rfl gy (0 + 3) rfl nvy HCy.out) ?_
    simp only [Act.put, aS, aC, aZ]
    refine wl (by kernel_rfl) (.slice (some ⟨W6.heap.size, 0, none⟩) 1 1) (W6.alloc (.cells #[nvy] 36)) (run_lit41_1 (.tmp 104) rfl nvy HVy.out rfl) ?_
    simp only [Act.put, aS, aC, aZ]
    refine wpList_callW eM10 [.tmp 100, .const (.slice none 0 0), .tmp 105] _ (by kernel_rfl) rfl [(ptr gy), (.slice none 0 0), (.slice (some ⟨W6.heap.size, 0, none⟩) 1 1)] rfl ?_
    refine HQy.out.mono ?_
    rintro e W7 ⟨rfl, h7⟩
    refine ⟨_, rfl, ?_⟩
    have H7 : Hid (LawP w W7 gx gy g (1 + 4 * i + 1 + 1)) := h7
    clear h7
    simp only [Act.put, aS, aC, aZ]
    refine wl rfl (.bool true) _ (run_pickZ (.tmp 99) (.tmp 106) (.const (.bool false)) rfl true (.bool true) rfl rfl) ?_
    simp only [Act.put, aS, aC, aZ]
    refine wl rfl (.bool true) _ (run_asZ (.tmp 107) rfl (.bool true) rfl) ?_
    simp only [Act.put, aS, aC, aZ]
    refine wpList_nil ?_
    go_wp2_with fail
    rw [HPQ.out]
    exact ⟨rfl, H7.out.below⟩
end Go.Proofs.YtebalanfagglnaaDoor

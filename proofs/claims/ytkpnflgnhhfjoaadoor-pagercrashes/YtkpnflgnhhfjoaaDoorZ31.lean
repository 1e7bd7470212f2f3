/- Layer 9: Read, Free. -/
import Derived.Test.YtkpnflgnhhfjoaaDoorZ30
namespace Go.Proofs.YtkpnflgnhhfjoaaDoor
open Go.RowKit Go.Maps
open Fr.Frame (be val)

/-- a pager, and its plant, which is on -/
structure PgS (w : World) (c : Nat → Colour) (t gp g : Nat) (m : Pl) (ds ts : List Nat) (i n : Nat) (L : Hd) (U : List Nat) : Prop where
  live : Live w c t g m
  pg : Pg w gp g i n L U
  ap : (c gp).1 ≠ t
  tab : Fr.TabIn w
  tap : (c 0).1 ≠ t
  dk : DkOn m ds ts i
  npg : n = pagesN (ds.getD i 0)
  pos : 1 ≤ n
  out : ∀ p, n ≤ p → p < 384 → bitP U p = false
theorem PgS.n384 {w : World} {c : Nat → Colour} {t gp g : Nat} {m : Pl} {ds ts : List Nat} {i n : Nat} {L : Hd} {U : List Nat} (h : PgS w c t gp g m ds ts i n L U) : n ≤ 384 := by have := h.npg; unfold pagesN at this; omega
theorem PgS.below {w w' : World} {c : Nat → Colour} {t gp g : Nat} {m : Pl} {ds ts : List Nat} {i n : Nat} {L : Hd} {U : List Nat} (h : PgS w c t gp g m ds ts i n L U) (hb : Below w.heap.size w w') : PgS w' c t gp g m ds ts i n L U := ⟨h.live.below hb, h.pg.later hb, h.ap, Fr.TabIn.later hb h.tab, h.tap, h.dk, h.npg, h.pos, h.out⟩
theorem PgS.page {w : World} {c : Nat → Colour} {t gp g : Nat} {m : Pl} {ds ts : List Nat} {i n : Nat} {L : Hd} {U : List Nat} (h : PgS w c t gp g m ds ts i n L U) {p : Int} (hp : hasP U p = true) : ∃ k : Nat, p = (k : Int) ∧ k < n := by
  have h1 := hasP_bound hp
  refine ⟨p.toNat, by omega, ?_⟩
  by_cases hk : p.toNat < n
  · exact hk
  · have h2 := h.out p.toNat (by omega) (by omega)
    have h3 : hasP U ((p.toNat : Nat) : Int) = true := by rw [Int.toNat_of_nonneg h1.1]; exact hp
    rw [hasP_nat U _ (by omega), h2] at h3
    cases h3
theorem run_storeP {W : World} {a : Act} {o : Oper} {t n : Nat} (ht : AggT t n) (x y : Operand) (ho : o.op = .store t x y) {g T : Nat} {cur : List Value} (hr : Row W g T cur) (off : Nat) (hx : a.eval x = .pointer (some ⟨g, off, none⟩)) (cs : List Value) (hy : a.eval y = .agg cs.toArray) (hn : cs.length = n) (hfit : off + cs.length ≤ cur.length) (h1 : ∀ v ∈ cs, v.oneCell' = true) : (execOp a.eval o).run Tryd.prog W = .ok .skip (W.setRow g (splice cur off cs).toArray) := by
  have hst := run_storeVar ht W g off T cur cs hn hr hfit h1
  simp [execOp, ho, hx, hy, Instr.storeAt, Instr.sureAddr, hst]
/-- the pager's own block is written -/
theorem PgS.set {w : World} {c : Nat → Colour} {t gp g : Nat} {m : Pl} {ds ts : List Nat} {i n : Nat} {L L2 : Hd} {U V : List Nat} (h : PgS w c t gp g m ds ts i n L U) (hL : L2.WF) (hV : USet V) (ho : ∀ p, n ≤ p → p < 384 → bitP V p = false) : PgS (w.setRow gp (pgCells g i n L2 V).toArray) c t gp g m ds ts i n L2 V := by
  have hch : Ch (· = gp) w (w.setRow gp (pgCells g i n L2 V).toArray) := (Ch.refl (· = gp) w).setRow (Or.inl rfl) _
  have hsz : (w.setRow gp (pgCells g i n L2 V).toArray).heap.size = w.heap.size := by simp [World.setRow]
  have h0 : gp ≠ 0 := by
    rintro rfl
    have h1 := h.tab 0#32
    have h2 := h.pg.row.at 0 _ rfl
    rw [show Fr.Crc.low 0#32 = 0 by rfl, h2] at h1
    cases h1
  exact ⟨⟨h.live.1.kept (by rw [hsz]; exact Nat.le_refl _) fun b hb hbt => ⟨hch.block b hb (fun e => h.ap (by rw [← e]; exact hbt)), rfl⟩, h.live.2.1, fun b hb => h.live.2.2 b (by rw [hsz] at hb; exact hb)⟩, ⟨h.pg.row.setRow _, hL, hV⟩, h.ap, fun r => hch.cell (fun e => h0 e.symm) (h.tab r), h.tap, h.dk, h.npg, h.pos, ho⟩
theorem PgS.setU {w : World} {c : Nat → Colour} {t gp g : Nat} {m : Pl} {ds ts : List Nat} {i n : Nat} {L : Hd} {U V : List Nat} (h : PgS w c t gp g m ds ts i n L U) (hV : USet V) (ho : ∀ p, n ≤ p → p < 384 → bitP V p = false) : PgS (w.setRow gp (pgCells g i n L V).toArray) c t gp g m ds ts i n L V := h.set h.pg.wf hV ho
/-- what Read answers -/
def readV (x : List Nat) : Bool := decide (imLen x ≤ 500) && decide (imOf (imBytes x) = x)
set_option maxHeartbeats 8000000 in
set_option maxRecDepth 100000 in
theorem pread_any {w : World} {c : Nat → Colour} {t gp g : Nat} {m : Pl} {ds ts : List Nat} {i n : Nat} {L : Hd} {U : List Nat} (h : PgS w c t gp g m ds ts i n L U) (p : Int) : Calls Tryd.prog 28 #[ptr gp, .int .i64 p] w fun e w' => Below w.heap.size w w' ∧ ((hasP U p = false ∧ e = .returned (.tuple #[.slice none 0 0, .int .i64 90])) ∨ (hasP U p = true ∧ readV (pageAt m i p.toNat) = false ∧ e = .returned (.tuple #[.slice none 0 0, .int .i64 4])) ∨ ∃ v, hasP U p = true ∧ readV (pageAt m i p.toNat) = true ∧ NewB w w' v (imBytes (pageAt m i p.toNat)) ∧ e = .returned (.tuple #[v, .int .i64 0])) := by
  have HP : Hid (PgS w c t gp g m ds ts i n L U) := h
  obtain ⟨b, hb⟩ : ∃ b, b = hasP U p := ⟨_, rfl⟩
  have HHB : Hid (b = hasP U p) := hb
  have HHAS : Hid (∀ W, Calls Tryd.prog 45 #[.agg (bcells U).toArray, .int .i64 p] W fun e w' => e = .returned (.bool b) ∧ Below W.heap.size W w') := fun W => by rw [hb]; exact has_any W U h.pg.us p
  obtain ⟨x, hx⟩ : ∃ x, x = pageAt m i p.toNat := ⟨_, rfl⟩
  have HX : Hid (x.length = 512 ∧ ∀ c ∈ x, c < 256) := by
    show x.length = 512 ∧ ∀ c ∈ x, c < 256
    rw [hx]
    exact ⟨join8_length _ (fun j => (Pl.rd_sec h.live.2.1 i _).1) 8, join8_lt (fun j => (Pl.rd_sec h.live.2.1 i _).2) 8⟩
  have HRI : Hid (b = true → ∀ W, Below w.heap.size w W → Calls Tryd.prog 54 #[ptr g, .int .i64 (i : Nat), .int .i64 p] W fun e w' => e = .returned (.tuple #[.agg (bcells x).toArray, .int .i64 0]) ∧ Below W.heap.size W w') := fun hbt W hW => by
    obtain ⟨k, hk1, hk2⟩ := h.page (by rw [← hb]; exact hbt)
    rw [hx, hk1, Int.toNat_natCast]
    exact readImage_any (h.live.below hW) h.dk h.npg k hk2
  have HBY : Hid (∀ W, Below w.heap.size w W → Calls Tryd.prog 55 #[.agg (bcells x).toArray] W fun e w' => Below W.heap.size W w' ∧ ((500 < imLen x ∧ e = .returned (.tuple #[.slice none 0 0, .bool false])) ∨ ∃ v, imLen x ≤ 500 ∧ NewB W w' v (imBytes x) ∧ e = .returned (.tuple #[v, .bool (decide (imOf (imBytes x) = x))]))) := fun W hW => bytes_any W (Fr.TabIn.later hW h.tab) x HX.out.1 HX.out.2
  obtain ⟨PQ, hPQ⟩ : ∃ PQ : Ending → World → Prop, PQ = fun (e : Ending) (w' : World) => Below w.heap.size w w' ∧ ((b = false ∧ e = .returned (.tuple #[.slice none 0 0, .int .i64 90])) ∨ (b = true ∧ readV x = false ∧ e = .returned (.tuple #[.slice none 0 0, .int .i64 4])) ∨ ∃ v, b = true ∧ readV x = true ∧ NewB w w' v (imBytes x) ∧ e = .returned (.tuple #[v, .int .i64 0])) := ⟨_, rfl⟩
  have HPQ : Hid (PQ = fun (e : Ending) (w' : World) => Below w.heap.size w w' ∧ ((b = false ∧ e = .returned (.tuple #[.slice none 0 0, .int .i64 90])) ∨ (b = true ∧ readV x = false ∧ e = .returned (.tuple #[.slice none 0 0, .int .i64 4])) ∨ ∃ v, b = true ∧ readV x = true ∧ NewB w w' v (imBytes x) ∧ e = .returned (.tuple #[v, .int .i64 0]))) := hPQ
  have HROW : Hid (Row w gp 86 (pgCells g i n L U)) := h.pg.row
  rw [← hb, ← hx, ← hPQ]
  clear hb hx hPQ h
  have R0 : Hid (Loc w w []) := Loc.nil (Below.refl _ w)
  go_enter Tryd.func28, Tryd.ntmps28
  go_upto_region 0 with fail
  refine wp_region_lit ?_
  refine wl rfl (.slice none 0 0) _ (run_asZ (.const (.slice none 0 0)) rfl (.slice none 0 0) rfl) ?_
  simp only [Act.put, aS, aC, aZ]
  refine wl rfl (.int .i64 0) _ (run_asZ (.const (.int .i64 0)) rfl (.int .i64 0) rfl) ?_
  simp only [Act.put, aS, aC, aZ]
  refine wpList_nil ?_
  go_upto_region 1 with fail
  refine wp_region_lit ?_
  refine wl rfl (ptr gp) _ (run_mvZ (.tmp 0) rfl (ptr gp) rfl) ?_
  simp only [Act.put, aS, aC, aZ]
  refine wl rfl (ptr gp) _ (run_nil (.tmp 10) rfl ⟨gp, 0, none⟩ rfl) ?_
  simp only [Act.put, aS, aC, aZ]
  refine wl rfl (.pointer (some ⟨gp, 0 + 53, none⟩)) _ (run_fieldOp' f86_4 (.tmp 11) rfl gp (0) rfl) ?_
  simp only [Act.put, aS, aC, aZ]
  refine wl rfl (.agg (bcells U).toArray) _ (run_loadA ag76 (.tmp 12) rfl gp (0 + 53) rfl (bcells U) (by rw [bcells_length]; exact HP.out.pg.us.1) (fun j v hv => by rw [Nat.zero_add]; exact HP.out.pg.used j v hv)) ?_
  simp only [Act.put, aS, aC, aZ]
  refine wl rfl (.int .i64 p) _ (run_mvZ (.tmp 1) rfl (.int .i64 p) rfl) ?_
  simp only [Act.put, aS, aC, aZ]
  refine wpList_callW eN45 [.tmp 13, .tmp 14] _ rfl rfl [(.agg (bcells U).toArray), (.int .i64 p)] rfl ?_
  refine (HHAS.out w).mono ?_
  rintro e w1 ⟨rfl, b1⟩
  refine ⟨_, rfl, ?_⟩
  have Rw1 : Hid (Loc w w1 []) := R0.out.later b1
  clear R0 b1
  simp only [Act.put, aS, aC, aZ]
  refine wl rfl (.bool (!b)) _ (run_not (.tmp 15) 4 rfl b rfl) ?_
  simp only [Act.put, aS, aC, aZ]
  refine wpList_nil ?_
  cases b with
  | false =>
    go_wp2_with fail
    rw [HPQ.out]
    refine ⟨Rw1.out.below, Or.inl ⟨?_, rfl⟩⟩
    first | rfl | trivial
  | true =>
    go_upto_region 3 with fail
    refine wp_region_held (S := fun X => Row X gp 86 (pgCells g i n L U)) (by kernel_rfl) ?_
    show wpAnyH _ _ _ _ _ 16 (Array.replicate 16 false) _ _
    obtain ⟨X, hX⟩ : ∃ X : World, X = { w1 with drawn := w1.drawn + 1 } := ⟨_, rfl⟩
    rw [← hX]
    have hL : Loc w X [] := by rw [hX]; exact Rw1.out.drew
    have hR : Row X gp 86 (pgCells g i n L U) := HROW.out.later hL.below HROW.out.lt
    clear Rw1
    clear hX
    refine takeH (i := 0) (some 18) rfl rfl (by kernel_rfl) (by kernel_rfl) (by kernel_rfl) (fun _ _ _ h => h) (gRun rfl (ptr gp) fun _ h => run_mvZ (.tmp 0) rfl (ptr gp) rfl) hR ?_
    simp only [Act.put, aS, aC, aZ]
    refine takeH (i := 1) (some 19) rfl rfl (by kernel_rfl) (by kernel_rfl) (by kernel_rfl) (fun _ _ _ h => h) (gRun rfl (ptr gp) fun _ h => run_nil (.tmp 18) rfl ⟨gp, 0, none⟩ rfl) hR ?_
    simp only [Act.put, aS, aC, aZ]
    refine takeH (i := 2) (some 20) rfl rfl (by kernel_rfl) (by kernel_rfl) (by kernel_rfl) (fun _ _ _ h => h) (gRun rfl (.pointer (some ⟨gp, 0 + 0, none⟩)) fun _ h => run_fieldOp' f86_0 (.tmp 19) rfl gp (0) rfl) hR ?_
    simp only [Act.put, aS, aC, aZ]
    refine takeH (i := 3) (some 21) rfl rfl (by kernel_rfl) (by kernel_rfl) (by kernel_rfl) (fun _ _ _ h => h) (gRun rfl (ptr g) fun _ h => run_load1 o24 (.tmp 20) rfl gp (0 + 0) rfl (ptr g) (h.at 0 _ rfl)) hR ?_
    simp only [Act.put, aS, aC, aZ]
    refine takeH (i := 4) (some 22) rfl rfl (by kernel_rfl) (by kernel_rfl) (by kernel_rfl) (fun _ _ _ h => h) (gRun rfl (ptr gp) fun _ h => run_mvZ (.tmp 0) rfl (ptr gp) rfl) hR ?_
    simp only [Act.put, aS, aC, aZ]
    refine takeH (i := 5) (some 23) rfl rfl (by kernel_rfl) (by kernel_rfl) (by kernel_rfl) (fun _ _ _ h => h) (gRun rfl (ptr gp) fun _ h => run_nil (.tmp 22) rfl ⟨gp, 0, none⟩ rfl) hR ?_
    simp only [Act.put, aS, aC, aZ]
    refine takeH (i := 6) (some 24) rfl rfl (by kernel_rfl) (by kernel_rfl) (by kernel_rfl) (fun _ _ _ h => h) (gRun rfl (.pointer (some ⟨gp, 0 + 1, none⟩)) fun _ h => run_fieldOp' f86_1 (.tmp 23) rfl gp (0) rfl) hR ?_
    simp only [Act.put, aS, aC, aZ]
    refine takeH (i := 7) (some 25) rfl rfl (by kernel_rfl) (by kernel_rfl) (by kernel_rfl) (fun _ _ _ h => h) (gRun rfl (.int .i64 (i : Nat)) fun _ h => run_load1 o3 (.tmp 24) rfl gp (0 + 1) rfl (.int .i64 (i : Nat)) (h.at 1 _ rfl)) hR ?_
    simp only [Act.put, aS, aC, aZ]
    refine takeH (i := 8) (some 26) rfl rfl (by kernel_rfl) (by kernel_rfl) (by kernel_rfl) (fun _ _ _ h => h) (gRun rfl (.int .i64 p) fun _ h => run_mvZ (.tmp 1) rfl (.int .i64 p) rfl) hR ?_
    simp only [Act.put, aS, aC, aZ]
    refine twoH (i := 9) (j := 13) (by kernel_rfl) ?_ ?_
    · refine opCallG (some 27) rfl rfl rfl 54 _ (run_call eN54 [.tmp 21, .tmp 25, .tmp 26] _ rfl [(ptr g), (.int .i64 (i : Nat)), (.int .i64 p)] rfl) ?_
      refine (HRI.out rfl _ hL.below).mono ?_
      rintro e w2 ⟨rfl, b_⟩
      refine ⟨_, rfl, ?_⟩
      have kR := hR.later b_ hR.lt
      have k_ := hL.later b_
      clear hR hL b_
      have hR : Row w2 gp 86 (pgCells g i n L U) := kR
      have hL : Loc w w2 [] := k_
      clear kR k_
      refine ⟨hR, ?_⟩
      simp only [Act.put, aS, aC, aZ]
      refine takeH (i := 10) (some 17) rfl rfl (by kernel_rfl) (by kernel_rfl) (by kernel_rfl) (fun _ _ _ h => h) (gRun rfl (.tuple #[(.agg (bcells x).toArray), (.int .i64 0)]) fun _ h => run_mvZ (.tmp 27) rfl (.tuple #[(.agg (bcells x).toArray), (.int .i64 0)]) rfl) hR ?_
      simp only [Act.put, aS, aC, aZ]
      refine takeH (i := 11) (some 28) rfl rfl (by kernel_rfl) (by kernel_rfl) (by kernel_rfl) (fun _ _ _ h => h) (gRun rfl (.agg (bcells x).toArray) fun _ h => run_extZ (.tmp 17) 0 rfl #[(.agg (bcells x).toArray), (.int .i64 0)] rfl (.agg (bcells x).toArray) rfl) hR ?_
      simp only [Act.put, aS, aC, aZ]
      refine takeH (i := 12) (some 29) rfl rfl (by kernel_rfl) (by kernel_rfl) (by kernel_rfl) (fun _ _ _ h => h) (gRun rfl (.int .i64 0) fun _ h => run_extZ (.tmp 17) 1 rfl #[(.agg (bcells x).toArray), (.int .i64 0)] rfl (.int .i64 0) rfl) hR ?_
      simp only [Act.put, aS, aC, aZ]
      refine oneH (i := 13) (by kernel_rfl) ?_
      refine opValueG (some 6) rfl rfl rfl (ptr w2.heap.size) _ (run_allocA (zerosU8 512) zero91 rfl) ?_
      have kR := hR.later (below_alloc' w2 (.cells (zerosU8 512).toArray 91)) hR.lt
      have k_ := hL.box 91 (zerosU8 512)
      obtain ⟨w3, hW_⟩ : ∃ W, W = w2.alloc (.cells (zerosU8 512).toArray 91) := ⟨_, rfl⟩
      obtain ⟨q1, hq_⟩ : ∃ q, q = w2.heap.size := ⟨_, rfl⟩
      rw [← hW_, ← hq_] at k_
      rw [← hW_] at kR
      rw [← hW_, ← hq_]
      clear hq_ hW_ hR hL
      have hR : Row w3 gp 86 (pgCells g i n L U) := kR
      have hL : Loc w w3 [(q1, 91, zerosU8 512)] := k_
      clear kR k_
      refine ⟨hR, ?_⟩
      simp only [Act.put, aS, aC, aZ]
      refine oneH (i := 14) (by kernel_rfl) ?_
      refine opSkipZ rfl rfl rfl _ (run_storeL ag91 (.tmp 6) (.tmp 28) rfl hL 0 rfl 0 rfl (bcells x) rfl (bc512 x HX.out.1) (by rw [bc512 x HX.out.1, z512]; decide) (bcells_one x)).1 ?_
      have k_ := hL.lay 0 rfl 0 (bcells x)
      have kR := (Row.setRow_other hR (by have := hL.ge 0 rfl; have := HROW.out.lt; omega : gp ≠ q1) (splice (zerosU8 512) 0 (bcells x)).toArray)
      rw [splice512 x HX.out.1] at k_ kR ⊢
      obtain ⟨w4, hW_⟩ : ∃ W, W = w3.setRow q1 (bcells x).toArray := ⟨_, rfl⟩
      rw [← hW_] at k_ kR ⊢
      clear hW_ hR hL
      have hR : Row w4 gp 86 (pgCells g i n L U) := kR
      have hL : Loc w w4 [(q1, 91, bcells x)] := k_
      clear kR k_
      refine ⟨hR, ?_⟩
      refine takeH (i := 15) (some 7) rfl rfl (by kernel_rfl) (by kernel_rfl) (by kernel_rfl) (fun _ _ _ h => h) (gRun rfl (.int .i64 0) fun _ h => run_asZ (.tmp 29) rfl (.int .i64 0) rfl) hR ?_
      simp only [Act.put, aS, aC, aZ]
      refine wpAnyH_done (by kernel_rfl) ?_ _
      have Rw4 : Hid (Loc w w4 [(q1, 91, bcells x)]) := hL
      clear hL hR
      go_upto_region 4 with fail
      refine wp_region_lit ?_
      refine wl rfl (.int .i64 0) _ (run_mvZ (.tmp 7) rfl (.int .i64 0) rfl) ?_
      simp only [Act.put, aS, aC, aZ]
      refine wl rfl (.bool false) _ (run_neZ (.tmp 30) (.const (.int .i64 0)) rfl (0) (0) rfl rfl false rfl) ?_
      simp only [Act.put, aS, aC, aZ]
      refine wpList_nil ?_
      go_upto_region 6 with fail
      refine wp_region_lit ?_
      refine wl_ldA ag91 (.tmp 6) rfl rfl q1 0 rfl (bcells x) (bc512 x HX.out.1) (rows_all Rw4.out 0 rfl) ?_
      simp only [Act.put, aS, aC, aZ]
      refine wpList_callW eN55 [.tmp 34] _ rfl rfl [(.agg (bcells x).toArray)] rfl ?_
      refine (HBY.out w4 Rw4.out.below).mono ?_
      rintro e w5 ⟨b5, hcase⟩
      have RB5 : Hid (Below w.heap.size w w5) := Rw4.out.below.trans (b5.mono Rw4.out.below.size)
      rcases hcase with ⟨h5, rfl⟩ | ⟨v, h5, hv, rfl⟩
      · refine ⟨_, rfl, ?_⟩
        simp only [Act.put, aS, aC, aZ]
        refine wl rfl (.tuple #[(.slice none 0 0), (.bool false)]) _ (run_mvZ (.tmp 35) rfl (.tuple #[(.slice none 0 0), (.bool false)]) rfl) ?_
        simp only [Act.put, aS, aC, aZ]
        refine wl rfl (.slice none 0 0) _ (run_extZ (.tmp 33) 0 rfl #[(.slice none 0 0), (.bool false)] rfl (.slice none 0 0) rfl) ?_
        simp only [Act.put, aS, aC, aZ]
        refine wl rfl (.bool false) _ (run_extZ (.tmp 33) 1 rfl #[(.slice none 0 0), (.bool false)] rfl (.bool false) rfl) ?_
        simp only [Act.put, aS, aC, aZ]
        refine wl rfl (.slice none 0 0) _ (run_asZ (.tmp 36) rfl (.slice none 0 0) rfl) ?_
        simp only [Act.put, aS, aC, aZ]
        refine wl rfl (.bool false) _ (run_asZ (.tmp 37) rfl (.bool false) rfl) ?_
        simp only [Act.put, aS, aC, aZ]
        refine wpList_nil ?_
        have hrv : readV x = false := by unfold readV; rw [decide_eq_false (by omega)]; rfl
        go_wp2_with fail
        rw [HPQ.out]
        exact ⟨RB5.out, Or.inr (Or.inl ⟨by first | rfl | trivial, hrv, rfl⟩)⟩
      · have HV : Hid (NewB w w5 v (imBytes x)) := by
          obtain ⟨qb, h1, h2, h3⟩ := hv
          exact ⟨qb, h1, Nat.le_trans Rw4.out.below.size h2, h3⟩
        obtain ⟨qb, hvq, _⟩ := hv
        have hvs : ∃ p n c, v = .slice p n c := ⟨_, _, _, hvq⟩
        clear hvq b5
        obtain ⟨vp, vn, vc, rfl⟩ := hvs
        obtain ⟨okb, hokb⟩ : ∃ okb, okb = decide (imOf (imBytes x) = x) := ⟨_, rfl⟩
        have HRV : Hid (readV x = okb) := by show readV x = okb; unfold readV; rw [decide_eq_true h5, hokb]; rfl
        rw [← hokb]
        clear hokb
        refine ⟨_, rfl, ?_⟩
        simp only [Act.put, aS, aC, aZ]
        refine wl rfl (.tuple #[(.slice vp vn vc), (.bool okb)]) _ (run_mvZ (.tmp 35) rfl (.tuple #[(.slice vp vn vc), (.bool okb)]) rfl) ?_
        simp only [Act.put, aS, aC, aZ]
        refine wl rfl (.slice vp vn vc) _ (run_extZ (.tmp 33) 0 rfl #[(.slice vp vn vc), (.bool okb)] rfl (.slice vp vn vc) rfl) ?_
        simp only [Act.put, aS, aC, aZ]
        refine wl rfl (.bool okb) _ (run_extZ (.tmp 33) 1 rfl #[(.slice vp vn vc), (.bool okb)] rfl (.bool okb) rfl) ?_
        simp only [Act.put, aS, aC, aZ]
        refine wl rfl (.slice vp vn vc) _ (run_asZ (.tmp 36) rfl (.slice vp vn vc) rfl) ?_
        simp only [Act.put, aS, aC, aZ]
        refine wl rfl (.bool okb) _ (run_asZ (.tmp 37) rfl (.bool okb) rfl) ?_
        simp only [Act.put, aS, aC, aZ]
        refine wpList_nil ?_
        cases okb with
        | true =>
          go_wp2_with fail
          rw [HPQ.out]
          exact ⟨RB5.out, Or.inr (Or.inr ⟨_, by first | rfl | trivial, HRV.out, HV.out, rfl⟩)⟩
        | false =>
          go_wp2_with fail
          rw [HPQ.out]
          exact ⟨RB5.out, Or.inr (Or.inl ⟨by first | rfl | trivial, HRV.out, rfl⟩)⟩
    · refine opValueG (some 6) rfl rfl rfl (ptr X.heap.size) _ (run_allocA (zerosU8 512) zero91 rfl) ?_
      have kR := hR.later (below_alloc' X (.cells (zerosU8 512).toArray 91)) hR.lt
      have k_ := hL.box 91 (zerosU8 512)
      obtain ⟨w2, hW_⟩ : ∃ W, W = X.alloc (.cells (zerosU8 512).toArray 91) := ⟨_, rfl⟩
      obtain ⟨q1, hq_⟩ : ∃ q, q = X.heap.size := ⟨_, rfl⟩
      rw [← hW_, ← hq_] at k_
      rw [← hW_] at kR
      rw [← hW_, ← hq_]
      clear hq_ hW_ hR hL
      have hR : Row w2 gp 86 (pgCells g i n L U) := kR
      have hL : Loc w w2 [(q1, 91, zerosU8 512)] := k_
      clear kR k_
      refine ⟨hR, ?_⟩
      simp only [Act.put, aS, aC, aZ]
      refine oneH (i := 9) (by kernel_rfl) ?_
      refine opCallG (some 27) rfl rfl rfl 54 _ (run_call eN54 [.tmp 21, .tmp 25, .tmp 26] _ rfl [(ptr g), (.int .i64 (i : Nat)), (.int .i64 p)] rfl) ?_
      refine (HRI.out rfl _ hL.below).mono ?_
      rintro e w3 ⟨rfl, b_⟩
      refine ⟨_, rfl, ?_⟩
      have kR := hR.later b_ hR.lt
      have k_ := hL.later b_
      clear hR hL b_
      have hR : Row w3 gp 86 (pgCells g i n L U) := kR
      have hL : Loc w w3 [(q1, 91, zerosU8 512)] := k_
      clear kR k_
      refine ⟨hR, ?_⟩
      simp only [Act.put, aS, aC, aZ]
      refine takeH (i := 10) (some 17) rfl rfl (by kernel_rfl) (by kernel_rfl) (by kernel_rfl) (fun _ _ _ h => h) (gRun rfl (.tuple #[(.agg (bcells x).toArray), (.int .i64 0)]) fun _ h => run_mvZ (.tmp 27) rfl (.tuple #[(.agg (bcells x).toArray), (.int .i64 0)]) rfl) hR ?_
      simp only [Act.put, aS, aC, aZ]
      refine takeH (i := 11) (some 28) rfl rfl (by kernel_rfl) (by kernel_rfl) (by kernel_rfl) (fun _ _ _ h => h) (gRun rfl (.agg (bcells x).toArray) fun _ h => run_extZ (.tmp 17) 0 rfl #[(.agg (bcells x).toArray), (.int .i64 0)] rfl (.agg (bcells x).toArray) rfl) hR ?_
      simp only [Act.put, aS, aC, aZ]
      refine takeH (i := 12) (some 29) rfl rfl (by kernel_rfl) (by kernel_rfl) (by kernel_rfl) (fun _ _ _ h => h) (gRun rfl (.int .i64 0) fun _ h => run_extZ (.tmp 17) 1 rfl #[(.agg (bcells x).toArray), (.int .i64 0)] rfl (.int .i64 0) rfl) hR ?_
      simp only [Act.put, aS, aC, aZ]
      refine oneH (i := 14) (by kernel_rfl) ?_
      refine opSkipZ rfl rfl rfl _ (run_storeL ag91 (.tmp 6) (.tmp 28) rfl hL 0 rfl 0 rfl (bcells x) rfl (bc512 x HX.out.1) (by rw [bc512 x HX.out.1, z512]; decide) (bcells_one x)).1 ?_
      have k_ := hL.lay 0 rfl 0 (bcells x)
      have kR := (Row.setRow_other hR (by have := hL.ge 0 rfl; have := HROW.out.lt; omega : gp ≠ q1) (splice (zerosU8 512) 0 (bcells x)).toArray)
      rw [splice512 x HX.out.1] at k_ kR ⊢
      obtain ⟨w4, hW_⟩ : ∃ W, W = w3.setRow q1 (bcells x).toArray := ⟨_, rfl⟩
      rw [← hW_] at k_ kR ⊢
      clear hW_ hR hL
      have hR : Row w4 gp 86 (pgCells g i n L U) := kR
      have hL : Loc w w4 [(q1, 91, bcells x)] := k_
      clear kR k_
      refine ⟨hR, ?_⟩
      refine takeH (i := 15) (some 7) rfl rfl (by kernel_rfl) (by kernel_rfl) (by kernel_rfl) (fun _ _ _ h => h) (gRun rfl (.int .i64 0) fun _ h => run_asZ (.tmp 29) rfl (.int .i64 0) rfl) hR ?_
      simp only [Act.put, aS, aC, aZ]
      refine wpAnyH_done (by kernel_rfl) ?_ _
      have Rw4 : Hid (Loc w w4 [(q1, 91, bcells x)]) := hL
      clear hL hR
      go_upto_region 4 with fail
      refine wp_region_lit ?_
      refine wl rfl (.int .i64 0) _ (run_mvZ (.tmp 7) rfl (.int .i64 0) rfl) ?_
      simp only [Act.put, aS, aC, aZ]
      refine wl rfl (.bool false) _ (run_neZ (.tmp 30) (.const (.int .i64 0)) rfl (0) (0) rfl rfl false rfl) ?_
      simp only [Act.put, aS, aC, aZ]
      refine wpList_nil ?_
      go_upto_region 6 with fail
      refine wp_region_lit ?_
      refine wl_ldA ag91 (.tmp 6) rfl rfl q1 0 rfl (bcells x) (bc512 x HX.out.1) (rows_all Rw4.out 0 rfl) ?_
      simp only [Act.put, aS, aC, aZ]
      refine wpList_callW eN55 [.tmp 34] _ rfl rfl [(.agg (bcells x).toArray)] rfl ?_
      refine (HBY.out w4 Rw4.out.below).mono ?_
      rintro e w5 ⟨b5, hcase⟩
      have RB5 : Hid (Below w.heap.size w w5) := Rw4.out.below.trans (b5.mono Rw4.out.below.size)
      rcases hcase with ⟨h5, rfl⟩ | ⟨v, h5, hv, rfl⟩
      · refine ⟨_, rfl, ?_⟩
        simp only [Act.put, aS, aC, aZ]
        refine wl rfl (.tuple #[(.slice none 0 0), (.bool false)]) _ (run_mvZ (.tmp 35) rfl (.tuple #[(.slice none 0 0), (.bool false)]) rfl) ?_
        simp only [Act.put, aS, aC, aZ]
        refine wl rfl (.slice none 0 0) _ (run_extZ (.tmp 33) 0 rfl #[(.slice none 0 0), (.bool false)] rfl (.slice none 0 0) rfl) ?_
        simp only [Act.put, aS, aC, aZ]
        refine wl rfl (.bool false) _ (run_extZ (.tmp 33) 1 rfl #[(.slice none 0 0), (.bool false)] rfl (.bool false) rfl) ?_
        simp only [Act.put, aS, aC, aZ]
        refine wl rfl (.slice none 0 0) _ (run_asZ (.tmp 36) rfl (.slice none 0 0) rfl) ?_
        simp only [Act.put, aS, aC, aZ]
        refine wl rfl (.bool false) _ (run_asZ (.tmp 37) rfl (.bool false) rfl) ?_
        simp only [Act.put, aS, aC, aZ]
        refine wpList_nil ?_
        have hrv : readV x = false := by unfold readV; rw [decide_eq_false (by omega)]; rfl
        go_wp2_with fail
        rw [HPQ.out]
        exact ⟨RB5.out, Or.inr (Or.inl ⟨by first | rfl | trivial, hrv, rfl⟩)⟩
      · have HV : Hid (NewB w w5 v (imBytes x)) := by
          obtain ⟨qb, h1, h2, h3⟩ := hv
          exact ⟨qb, h1, Nat.le_trans Rw4.out.below.size h2, h3⟩
        obtain ⟨qb, hvq, _⟩ := hv
        have hvs : ∃ p n c, v = .slice p n c := ⟨_, _, _, hvq⟩
        clear hvq b5
        obtain ⟨vp, vn, vc, rfl⟩ := hvs
        obtain ⟨okb, hokb⟩ : ∃ okb, okb = decide (imOf (imBytes x) = x) := ⟨_, rfl⟩
        have HRV : Hid (readV x = okb) := by show readV x = okb; unfold readV; rw [decide_eq_true h5, hokb]; rfl
        rw [← hokb]
        clear hokb
        refine ⟨_, rfl, ?_⟩
        simp only [Act.put, aS, aC, aZ]
        refine wl rfl (.tuple #[(.slice vp vn vc), (.bool okb)]) _ (run_mvZ (.tmp 35) rfl (.tuple #[(.slice vp vn vc), (.bool okb)]) rfl) ?_
        simp only [Act.put, aS, aC, aZ]
        refine wl rfl (.slice vp vn vc) _ (run_extZ (.tmp 33) 0 rfl #[(.slice vp vn vc), (.bool okb)] rfl (.slice vp vn vc) rfl) ?_
        simp only [Act.put, aS, aC, aZ]
        refine wl rfl (.bool okb) _ (run_extZ (.tmp 33) 1 rfl #[(.slice vp vn vc), (.bool okb)] rfl (.bool okb) rfl) ?_
        simp only [Act.put, aS, aC, aZ]
        refine wl rfl (.slice vp vn vc) _ (run_asZ (.tmp 36) rfl (.slice vp vn vc) rfl) ?_
        simp only [Act.put, aS, aC, aZ]
        refine wl rfl (.bool okb) _ (run_asZ (.tmp 37) rfl (.bool okb) rfl) ?_
        simp only [Act.put, aS, aC, aZ]
        refine wpList_nil ?_
        cases okb with
        | true =>
          go_wp2_with fail
          rw [HPQ.out]
          exact ⟨RB5.out, Or.inr (Or.inr ⟨_, by first | rfl | trivial, HRV.out, HV.out, rfl⟩)⟩
        | false =>
          go_wp2_with fail
          rw [HPQ.out]
          exact ⟨RB5.out, Or.inr (Or.inl ⟨by first | rfl | trivial, HRV.out, rfl⟩)⟩
set_option maxHeartbeats 8000000 in
set_option maxRecDepth 100000 in
theorem pfree_any {w : World} {c : Nat → Colour} {t gp g : Nat} {m : Pl} {ds ts : List Nat} {i n : Nat} {L : Hd} {U : List Nat} (h : PgS w c t gp g m ds ts i n L U) (p : Int) : Calls Tryd.prog 17 #[ptr gp, .int .i64 p] w fun e w' => (hasP U p = false ∧ e = .returned (.int .i64 90) ∧ Below w.heap.size w w') ∨ (hasP U p = true ∧ e = .returned (.int .i64 0) ∧ Ch (· = gp) w w' ∧ PgS w' c t gp g m ds ts i n L (lessP U p.toNat)) := by
  have HP : Hid (PgS w c t gp g m ds ts i n L U) := h
  obtain ⟨b, hb⟩ : ∃ b, b = hasP U p := ⟨_, rfl⟩
  have HHB : Hid (b = hasP U p) := hb
  have HHAS : Hid (∀ W, Calls Tryd.prog 45 #[.agg (bcells U).toArray, .int .i64 p] W fun e w' => e = .returned (.bool b) ∧ Below W.heap.size W w') := fun W => by rw [hb]; exact has_any W U h.pg.us p
  obtain ⟨V, hV⟩ : ∃ V, V = lessP U p.toNat := ⟨_, rfl⟩
  have HV : Hid (V = lessP U p.toNat ∧ USet V) := ⟨hV, by rw [hV]; exact uset_less h.pg.us _⟩
  have HWO : Hid (b = true → ∀ W, Calls Tryd.prog 46 #[.agg (bcells U).toArray, .int .i64 p] W fun e w' => e = .returned (.agg (bcells V).toArray) ∧ Below W.heap.size W w') := fun hbt W => by
    obtain ⟨k, hk1, hk2⟩ := h.page (by rw [← hb]; exact hbt)
    rw [hV, hk1, Int.toNat_natCast]
    exact without_any W U h.pg.us k (by have := h.n384; omega)
  obtain ⟨PQ, hPQ⟩ : ∃ PQ : Ending → World → Prop, PQ = fun (e : Ending) (w' : World) => (b = false ∧ e = .returned (.int .i64 90) ∧ Below w.heap.size w w') ∨ (b = true ∧ e = .returned (.int .i64 0) ∧ Ch (· = gp) w w' ∧ PgS w' c t gp g m ds ts i n L V) := ⟨_, rfl⟩
  have HPQ : Hid (PQ = fun (e : Ending) (w' : World) => (b = false ∧ e = .returned (.int .i64 90) ∧ Below w.heap.size w w') ∨ (b = true ∧ e = .returned (.int .i64 0) ∧ Ch (· = gp) w w' ∧ PgS w' c t gp g m ds ts i n L V)) := hPQ
  rw [← hb, ← hV, ← hPQ]
  clear hb hV hPQ h
  have R0 : Hid (Loc w w []) := Loc.nil (Below.refl _ w)
  go_enter Tryd.func17, Tryd.ntmps17
  go_upto_region 0 with fail
  refine wp_region_lit ?_
  refine wl rfl (.int .i64 0) _ (run_asZ (.const (.int .i64 0)) rfl (.int .i64 0) rfl) ?_
  simp only [Act.put, aS, aC, aZ]
  refine wpList_nil ?_
  go_upto_region 1 with fail
  refine wp_region_lit ?_
  refine wl rfl (ptr gp) _ (run_mvZ (.tmp 0) rfl (ptr gp) rfl) ?_
  simp only [Act.put, aS, aC, aZ]
  refine wl rfl (ptr gp) _ (run_nil (.tmp 5) rfl ⟨gp, 0, none⟩ rfl) ?_
  simp only [Act.put, aS, aC, aZ]
  refine wl rfl (.pointer (some ⟨gp, 0 + 53, none⟩)) _ (run_fieldOp' f86_4 (.tmp 6) rfl gp (0) rfl) ?_
  simp only [Act.put, aS, aC, aZ]
  refine wl rfl (.agg (bcells U).toArray) _ (run_loadA ag76 (.tmp 7) rfl gp (0 + 53) rfl (bcells U) (by rw [bcells_length]; exact HP.out.pg.us.1) (fun j v hv => by rw [Nat.zero_add]; exact HP.out.pg.used j v hv)) ?_
  simp only [Act.put, aS, aC, aZ]
  refine wl rfl (.int .i64 p) _ (run_mvZ (.tmp 1) rfl (.int .i64 p) rfl) ?_
  simp only [Act.put, aS, aC, aZ]
  refine wpList_callW eN45 [.tmp 8, .tmp 9] _ rfl rfl [(.agg (bcells U).toArray), (.int .i64 p)] rfl ?_
  refine (HHAS.out w).mono ?_
  rintro e w1 ⟨rfl, b1⟩
  refine ⟨_, rfl, ?_⟩
  have Rw1 : Hid (Loc w w1 []) := R0.out.later b1
  clear R0 b1
  simp only [Act.put, aS, aC, aZ]
  refine wl rfl (.bool (!b)) _ (run_not (.tmp 10) 4 rfl b rfl) ?_
  simp only [Act.put, aS, aC, aZ]
  refine wpList_nil ?_
  cases b with
  | false =>
    go_wp2_with fail
    rw [HPQ.out]
    refine Or.inl ⟨?_, rfl, Rw1.out.below⟩
    first | rfl | trivial
  | true =>
    go_upto_region 3 with fail
    refine wp_region_lit ?_
    refine wl rfl (ptr gp) _ (run_mvZ (.tmp 0) rfl (ptr gp) rfl) ?_
    simp only [Act.put, aS, aC, aZ]
    refine wl rfl (ptr gp) _ (run_mvZ (.tmp 0) rfl (ptr gp) rfl) ?_
    simp only [Act.put, aS, aC, aZ]
    refine wl rfl (ptr gp) _ (run_nil (.tmp 13) rfl ⟨gp, 0, none⟩ rfl) ?_
    simp only [Act.put, aS, aC, aZ]
    refine wl rfl (.pointer (some ⟨gp, 0 + 53, none⟩)) _ (run_fieldOp' f86_4 (.tmp 14) rfl gp (0) rfl) ?_
    simp only [Act.put, aS, aC, aZ]
    refine wl rfl (.agg (bcells U).toArray) _ (run_loadA ag76 (.tmp 15) rfl gp (0 + 53) rfl (bcells U) (by rw [bcells_length]; exact HP.out.pg.us.1) (fun j v hv => by rw [Nat.zero_add]; exact (HP.out.pg.later Rw1.out.below).used j v hv)) ?_
    simp only [Act.put, aS, aC, aZ]
    refine wl rfl (.int .i64 p) _ (run_mvZ (.tmp 1) rfl (.int .i64 p) rfl) ?_
    simp only [Act.put, aS, aC, aZ]
    refine wpList_callW eN46 [.tmp 16, .tmp 17] _ rfl rfl [(.agg (bcells U).toArray), (.int .i64 p)] rfl ?_
    refine (HWO.out rfl w1).mono ?_
    rintro e w2 ⟨rfl, b2⟩
    refine ⟨_, rfl, ?_⟩
    have Rw2 : Hid (Loc w w2 []) := Rw1.out.later b2
    clear Rw1 b2
    have HP2 : Hid (PgS w2 c t gp g m ds ts i n L U) := HP.out.below Rw2.out.below
    simp only [Act.put, aS, aC, aZ]
    refine wl rfl (ptr gp) _ (run_nil (.tmp 12) rfl ⟨gp, 0, none⟩ rfl) ?_
    simp only [Act.put, aS, aC, aZ]
    refine wl rfl (.pointer (some ⟨gp, 0 + 53, none⟩)) _ (run_fieldOp' f86_4 (.tmp 19) rfl gp (0) rfl) ?_
    simp only [Act.put, aS, aC, aZ]
    refine wlS rfl rfl _ (run_storeP ag76 (.tmp 20) (.tmp 18) rfl HP2.out.pg.row (0 + 53) rfl (bcells V) rfl (by rw [bcells_length]; exact HV.out.2.1) (by rw [pgCells_length HP2.out.pg.wf HP2.out.pg.us, bcells_length, HV.out.2.1]; decide) (bcells_one V)) ?_
    rw [Nat.zero_add, pg_setU HP2.out.pg.wf HP2.out.pg.us HV.out.2]
    obtain ⟨w3, hw3⟩ : ∃ W, W = w2.setRow gp (pgCells g i n L V).toArray := ⟨_, rfl⟩
    rw [← hw3]
    have R3 : Hid (Ch (· = gp) w w3 ∧ PgS w3 c t gp g m ds ts i n L V) := by
      rw [hw3]
      refine ⟨(Ch.of_below (S := (· = gp)) Rw2.out.below).setRow (g := gp) (Or.inl rfl) _, HP2.out.setU HV.out.2 fun q h1 h2 => ?_⟩
      rw [HV.out.1]
      obtain ⟨k, hk1, hk2⟩ := HP.out.page (show hasP U p = true from HHB.out.symm)
      rw [bitP_less HP.out.pg.us (by have := HP.out.n384; omega), HP.out.out q h1 h2, Bool.and_false]
    clear hw3
    refine wpList_nil ?_
    go_wp2_with fail
    rw [HPQ.out]
    refine Or.inr ⟨?_, rfl, R3.out.1, R3.out.2⟩
    first | rfl | trivial
end Go.Proofs.YtkpnflgnhhfjoaaDoor

/- Layer 8: a head with a new session; Truncate. Layer 8: Truncate. Layer 8: Fits. -/
import Derived.Test.YtebalanfagglnaaDoorV24
namespace Go.Proofs.YtebalanfagglnaaDoor
open Go.RowKit Go.Maps

theorem f108_0 : FieldAt 70 0 0 := fun w g off => by kernel_rfl
theorem f108_1 : FieldAt 70 1 1 := fun w g off => by kernel_rfl
theorem f108_2 : FieldAt 70 2 2 := fun w g off => by kernel_rfl
theorem f108_3 : FieldAt 70 3 3 := fun w g off => by kernel_rfl
theorem o25 : OneT 24 := fun w g o v h => by simp [loadVar, isAgg, run_underlying Tryd.underlying24, h]
theorem size3' : (Tryd.prog.info? 3).map (·.size) = some 1 := by kernel_rfl
theorem eN41 : EntersF 25 := Go.Proofs.enters_of Tryd.func25 (by kernel_rfl) rfl
theorem eN44 : EntersF 28 := Go.Proofs.enters_of Tryd.func28 (by kernel_rfl) rfl
theorem eN47 : EntersF 31 := Go.Proofs.enters_of Tryd.func31 (by kernel_rfl) rfl
/-- a journal in memory -/
def walCells (g : Nat) (d : Int) (s used : Nat) : List Value := [ptr g, .int .i64 d, .int .u64 (s : Nat), .int .i64 (used : Nat)]
structure WalAt (w : World) (c : Nat → Colour) (t gw g : Nat) (d : Int) (s used : Nat) : Prop where
  row : Row w gw 70 (walCells g d s used)
  ap : (c gw).1 ≠ t
  tab : Fr.TabIn w
  tap : (c 0).1 ≠ t
theorem tab_lt {w : World} (h : Fr.TabIn w) : 0 < w.heap.size := block_lt_of_cell (h 0#32)
theorem WalAt.kept {w w1 : World} {c c1 : Nat → Colour} {t gw g : Nat} {d : Int} {s used : Nat} (h : WalAt w c t gw g d s used) (hcc : ∀ b, b < w.heap.size → c1 b = c b) (hch : Ch (fun b => (c b).1 = t) w w1) : WalAt w1 c1 t gw g d s used :=
  ⟨hch.row h.ap h.row, by rw [hcc gw h.row.lt]; exact h.ap, TabIn.ch h.tab hch h.tap, by rw [hcc 0 (tab_lt h.tab)]; exact h.tap⟩
theorem WalAt.below {w w1 : World} {c : Nat → Colour} {t gw g : Nat} {d : Int} {s used : Nat} (h : WalAt w c t gw g d s used) (hb : Below w.heap.size w w1) : WalAt w1 c t gw g d s used := h.kept (fun _ _ => rfl) (Ch.of_below hb)
theorem WalAt.ne0 {w : World} {c : Nat → Colour} {t gw g : Nat} {d : Int} {s used : Nat} (h : WalAt w c t gw g d s used) : gw ≠ 0 := by
  rintro rfl
  have h1 := h.tab 0#32
  have h2 := h.row.at 0 _ rfl
  rw [show Fr.Crc.low 0#32 = 0 by rfl, h2] at h1
  cases h1
theorem nilOp {ops : Array Oper} {a : Act} {S : World → Prop} {o : Oper} (hw : Region.wanted o (yielded ops a.tmps) = true) (x : Operand) (ho : o.op = .nilCheck x) (p : Addr) (hv : a.eval x = .pointer (some p)) : YieldsIf Tryd.prog ops S o (.pointer (some p)) a := gRun hw _ fun _ _ => run_nil x ho p hv
/-- a head laid down -/
def Pl.begin (m : Pl) (d : Int) (s f : Nat) : Int × Pl := m.lay d 0 [headSec s f]
set_option maxHeartbeats 2000000 in
set_option maxRecDepth 100000 in
theorem begin_any {w : World} {c : Nat → Colour} {t g gw : Nat} {m : Pl} (h : Live w c t g m) (d : Int) (s0 used s f : Nat) (hw : WalAt w c t gw g d s0 used) (hst : m.steps + 2 < 1099511627775) :
    Calls Tryd.prog 31 #[ptr gw, .agg (headCells s f).toArray] w fun e w' => e = .returned (.int .i64 (m.begin d s f).1) ∧ ∃ c', (∀ b, b < w.heap.size → c' b = c b) ∧ Live w' c' t g (m.begin d s f).2 ∧ Ch (fun b => (c b).1 = t ∨ b = gw) w w' ∧ WalAt w' c' t gw g d (if (m.begin d s f).1 = 0 then s else s0) used := by
  obtain ⟨q, hq⟩ : ∃ q, q = w.heap.size := ⟨_, rfl⟩
  have HQ : Hid (q = w.heap.size) := hq
  have HL : Hid (Live w c t g m) := h
  have HW : Hid (WalAt w c t gw g d s0 used) := hw
  obtain ⟨er, her⟩ : ∃ er, er = (m.begin d s f).1 := ⟨_, rfl⟩
  obtain ⟨M, hM⟩ : ∃ M, M = (m.begin d s f).2 := ⟨_, rfl⟩
  obtain ⟨sn, hsn⟩ : ∃ sn, sn = if (m.begin d s f).1 = 0 then s else s0 := ⟨_, rfl⟩
  have HEM : Hid (er = (m.begin d s f).1 ∧ M = (m.begin d s f).2 ∧ sn = if er = 0 then s else s0) := ⟨her, hM, by rw [her]; exact hsn⟩
  rw [← hsn, ← her, ← hM]
  clear hq h hw her hM hsn
  go_enter Tryd.func31, Tryd.ntmps31
  go_upto_region 0 with fail
  refine wp_region_lit ?_
  refine wpList_box (.tmp 1) rfl rfl (headCells s f) rfl ?_
  intro w1 r1 s1 b1
  refine wpList_assign (.const (.int .i64 0)) rfl rfl (.int .i64 0) rfl ?_
  refine wpList_nil ?_
  simp only [Act.put, aS, aC, aZ]
  rw [← HQ.out] at r1 s1 ⊢
  have R1 : Hid (Row w1 q 63 (headCells s f) ∧ Below w.heap.size w w1 ∧ Live w1 c t g m ∧ WalAt w1 c t gw g d s0 used) := ⟨r1, b1, HL.out.below b1, HW.out.below b1⟩
  clear r1 s1 b1
  go_upto_region 1 with fail
  refine wp_region_held (S := fun X => Row X gw 70 (walCells g d s0 used) ∧ Row X q 63 (headCells s f)) (by kernel_rfl) ?_
  show wpAnyH _ _ _ _ _ 13 (Array.replicate 13 false) _ _
  obtain ⟨X, hX⟩ : ∃ X : World, X = { w1 with drawn := w1.drawn + 1 } := ⟨_, rfl⟩
  rw [← hX]
  have hbX : Below w1.heap.size w1 X := by rw [hX]; exact ⟨rfl, rfl, rfl, Nat.le_refl _, fun _ _ => rfl⟩
  have RX : Hid (Row X q 63 (headCells s f) ∧ Below w.heap.size w X ∧ Live X c t g m ∧ WalAt X c t gw g d s0 used) := ⟨R1.out.1.later hbX R1.out.1.lt, R1.out.2.1.trans (hbX.mono R1.out.2.1.size), R1.out.2.2.1.below hbX, R1.out.2.2.2.below hbX⟩
  have hS0 : Row X gw 70 (walCells g d s0 used) ∧ Row X q 63 (headCells s f) := ⟨RX.out.2.2.2.row, RX.out.1⟩
  clear hX hbX R1
  refine takeH (i := 0) (some 6) rfl rfl (by kernel_rfl) (by kernel_rfl) (by kernel_rfl) (fun _ _ _ h => h) (gMove rfl (.tmp 0) rfl (ptr gw) rfl) hS0 ?_
  simp only [Act.put, aS, aC, aZ]
  refine takeH (i := 1) (some 7) rfl rfl (by kernel_rfl) (by kernel_rfl) (by kernel_rfl) (fun _ _ _ h => h) (nilOp rfl (.tmp 6) rfl ⟨gw, 0, none⟩ rfl) hS0 ?_
  simp only [Act.put, aS, aC, aZ]
  refine takeH (i := 2) (some 8) rfl rfl (by kernel_rfl) (by kernel_rfl) (by kernel_rfl) (fun _ _ _ h => h) (gField f108_0 rfl (.tmp 7) rfl gw 0 rfl) hS0 ?_
  simp only [Act.put, aS, aC, aZ]
  refine takeH (i := 3) (some 9) rfl rfl (by kernel_rfl) (by kernel_rfl) (by kernel_rfl) (fun _ _ _ h => h) (gLoad o25 rfl (.tmp 8) rfl gw (0 + 0) rfl (ptr g) (fun _ h => h.1.at 0 _ rfl)) hS0 ?_
  simp only [Act.put, aS, aC, aZ]
  refine takeH (i := 4) (some 10) rfl rfl (by kernel_rfl) (by kernel_rfl) (by kernel_rfl) (fun _ _ _ h => h) (gMove rfl (.tmp 0) rfl (ptr gw) rfl) hS0 ?_
  simp only [Act.put, aS, aC, aZ]
  refine takeH (i := 5) (some 11) rfl rfl (by kernel_rfl) (by kernel_rfl) (by kernel_rfl) (fun _ _ _ h => h) (nilOp rfl (.tmp 10) rfl ⟨gw, 0, none⟩ rfl) hS0 ?_
  simp only [Act.put, aS, aC, aZ]
  refine takeH (i := 6) (some 12) rfl rfl (by kernel_rfl) (by kernel_rfl) (by kernel_rfl) (fun _ _ _ h => h) (gField f108_1 rfl (.tmp 11) rfl gw 0 rfl) hS0 ?_
  simp only [Act.put, aS, aC, aZ]
  refine takeH (i := 7) (some 13) rfl rfl (by kernel_rfl) (by kernel_rfl) (by kernel_rfl) (fun _ _ _ h => h) (gLoad o3' rfl (.tmp 12) rfl gw (0 + 1) rfl (.int .i64 d) (fun _ h => h.1.at 1 _ rfl)) hS0 ?_
  simp only [Act.put, aS, aC, aZ]
  refine takeH (i := 8) (some 14) rfl rfl (by kernel_rfl) (by kernel_rfl) (by kernel_rfl) (fun _ _ _ h => h) (gLoadA agg101 rfl (.tmp 3) rfl q rfl (headCells s f) rfl (fun _ h => h.2)) hS0 ?_
  simp only [Act.put, aS, aC, aZ]
  clear hS0
  refine oneH (i := 9) (by kernel_rfl) ?_
  refine opCallA (some 15) rfl rfl rfl 28 _ (run_call eN44 [.tmp 14] _ rfl [.agg (headCells s f).toArray] rfl) ?_
  refine (headSector_any X s f RX.out.2.2.2.tab).mono ?_
  rintro e w2 ⟨v2, rfl, o2, b2⟩
  refine ⟨_, rfl, ?_⟩
  have hs2 : SliceIn w2 v2 (headSec s f) := BOwn.slice o2 (wsec_lt 74 _ (by decide) fun c hc => by rcases List.mem_append.1 hc with h | h; exact Fr.Frame.be_lt _ _ c h; exact Fr.Frame.be_lt _ _ c h) (by unfold headSec; rw [wsec_length 74 _ (by rw [List.length_append, Fr.Frame.be_length, Fr.Frame.be_length]; decide)]; decide)
  have R2 : Hid (Row w2 q 63 (headCells s f) ∧ Below w.heap.size w w2 ∧ Live w2 c t g m ∧ WalAt w2 c t gw g d s0 used ∧ SliceIn w2 v2 (headSec s f) ∧ ∀ b, v2.ownBlock = some b → w.heap.size ≤ b) := ⟨RX.out.1.later b2 RX.out.1.lt, RX.out.2.1.trans (b2.mono RX.out.2.1.size), RX.out.2.2.1.below b2, RX.out.2.2.2.below b2, hs2, fun b hb => Nat.le_trans RX.out.2.1.size (World.ownsRow.lt o2 b hb).1⟩
  clear o2 b2 hs2 RX
  refine ⟨⟨R2.out.2.2.2.1.row, R2.out.1⟩, ?_⟩
  simp only [Act.put, aS, aC, aZ]
  refine oneH (i := 10) (by kernel_rfl) ?_
  refine opValue (some 16) rfl rfl rfl _ _ (run_lit30 (.tmp 15) rfl v2 R2.out.2.2.2.2.1.isSl rfl) ?_
  obtain ⟨w3, hw3⟩ : ∃ w3, w3 = w2.alloc (.cells #[v2] 50) := ⟨_, rfl⟩
  rw [← hw3]
  have b3 : Below w2.heap.size w2 w3 := by rw [hw3]; exact below_alloc w2 _
  have r3 : Row w3 w2.heap.size 50 [v2] := by rw [hw3]; exact Row.new w2 50 [v2]
  have hrf : RowsFrom w3 w.heap.size (.slice (some ⟨w2.heap.size, 0, none⟩) 1 1) [headSec s f] := ⟨_, 1, rfl, (by show 1 ≤ 1099511627776; decide), Or.inr ⟨w2.heap.size, 0, rfl, R2.out.2.1.size, fun i hi => by
    obtain rfl : i = 0 := by simp at hi; omega
    exact ⟨v2, r3.at 0 _ rfl, R2.out.2.2.2.2.1.later b3, R2.out.2.2.2.2.2⟩⟩⟩
  have R3 : Hid (Row w3 q 63 (headCells s f) ∧ Below w.heap.size w w3 ∧ Live w3 c t g m ∧ WalAt w3 c t gw g d s0 used ∧ RowsAp w3 c t (.slice (some ⟨w2.heap.size, 0, none⟩) 1 1) [headSec s f]) := ⟨R2.out.1.later b3 R2.out.1.lt, R2.out.2.1.trans (b3.mono R2.out.2.1.size), R2.out.2.2.1.below b3, R2.out.2.2.2.1.below b3, hrf.ap fun b hb => HL.out.2.2 b hb⟩
  obtain ⟨q3, hq3⟩ : ∃ q3, q3 = w2.heap.size := ⟨_, rfl⟩
  rw [← hq3] at R3 ⊢
  clear hw3 b3 r3 hrf hq3 R2
  refine ⟨⟨R3.out.2.2.2.1.row, R3.out.1⟩, ?_⟩
  simp only [Act.put, aS, aC, aZ]
  have her := HEM.out.1
  have hM := HEM.out.2.1
  have HLAY : Hid (Calls Tryd.prog 25 #[ptr g, .int .i64 d, .int .i64 ((0 : Nat) : Int), .slice (some ⟨q3, 0, none⟩) 1 1] w3 fun e w' => e = .returned (.int .i64 er) ∧ Nx w3 c t g M w') := by
    rw [her, hM]
    exact lay_any R3.out.2.2.1 d 0 _ [headSec s f] R3.out.2.2.2.2 (by simp; omega) (by decide)
  clear her hM
  refine oneH (i := 11) (by kernel_rfl) ?_
  refine opCallA (some 17) rfl rfl rfl 25 _ (run_call eN41 [.tmp 9, .tmp 13, .const (.int .i64 0), .tmp 16] _ rfl [ptr g, .int .i64 d, .int .i64 ((0 : Nat) : Int), .slice (some ⟨q3, 0, none⟩) 1 1] rfl) ?_
  refine HLAY.out.mono ?_
  rintro e w4 ⟨rfl, c4, q1, q2, q4⟩
  refine ⟨_, rfl, ?_⟩
  have hqc : (c q).1 ≠ t := HL.out.2.2 q (by rw [HQ.out]; exact Nat.le_refl _)
  have R4 : Hid (Row w4 q 63 (headCells s f) ∧ (∀ b, b < w.heap.size → c4 b = c b) ∧ Live w4 c4 t g M ∧ Ch (fun b => (c b).1 = t) w w4 ∧ WalAt w4 c4 t gw g d s0 used) := ⟨q4.row hqc R3.out.1, fun b hb => q1 b (Nat.lt_of_lt_of_le hb R3.out.2.1.size), q2, (Ch.of_below R3.out.2.1).trans q4, R3.out.2.2.2.1.kept q1 q4⟩
  have hS4 : Row w4 gw 70 (walCells g d s0 used) ∧ Row w4 q 63 (headCells s f) := ⟨R4.out.2.2.2.2.row, R4.out.1⟩
  clear q1 q2 q4 R3 hqc
  refine ⟨hS4, ?_⟩
  simp only [Act.put, aS, aC, aZ]
  refine takeH (i := 12) (some 5) rfl rfl (by kernel_rfl) (by kernel_rfl) (by kernel_rfl) (fun _ _ _ h => h) (gAssign rfl (.tmp 17) rfl (.int .i64 er) rfl) hS4 ?_
  simp only [Act.put, aS, aC, aZ]
  clear hS4
  refine wpAnyH_done (by kernel_rfl) ?_ _
  by_cases he : er = 0
  · subst he
    go_upto_region 4 with fail
    refine wp_region_lit ?_
    refine wl_mv (.tmp 0) rfl rfl (ptr gw) rfl ?_
    simp only [Act.put, aS, aC, aZ]
    refine wl_fld f101_0 (.tmp 3) rfl rfl q 0 rfl ?_
    simp only [Act.put, aS, aC, aZ]
    refine wl_ld o99 (.tmp 22) rfl rfl q (0 + 0) rfl (.int .u64 (s : Nat)) (R4.out.1.at 0 _ rfl) ?_
    simp only [Act.put, aS, aC, aZ]
    refine wl_nil (.tmp 21) rfl rfl ⟨gw, 0, none⟩ rfl ?_
    simp only [Act.put, aS, aC, aZ]
    refine wl_fld f108_2 (.tmp 24) rfl rfl gw 0 rfl ?_
    simp only [Act.put, aS, aC, aZ]
    refine wl_put size99 (.tmp 25) (.tmp 23) rfl rfl rfl gw 2 70 _ rfl (.int .u64 (s : Nat)) rfl ⟨rfl, rfl⟩ R4.out.2.2.2.2.row (by show 2 < 4; decide) ?_
    refine wpList_nil ?_
    have hgwlt : gw < w4.heap.size := R4.out.2.2.2.2.row.lt
    have hch5 : Ch (· = gw) w4 (w4.setCell ⟨gw, 2, none⟩ (.int .u64 (s : Nat))) := (Ch.refl (· = gw) w4).setCell (Or.inl rfl) 2 _
    have hsz5 : (w4.setCell ⟨gw, 2, none⟩ (.int .u64 (s : Nat))).heap.size = w4.heap.size := World.size_setCell _ _ _
    have h0gw : gw ≠ 0 := R4.out.2.2.2.2.ne0
    have R5 : Hid ((∀ b, b < w.heap.size → c4 b = c b) ∧ Live (w4.setCell ⟨gw, 2, none⟩ (.int .u64 (s : Nat))) c4 t g M ∧ Ch (fun b => (c b).1 = t ∨ b = gw) w (w4.setCell ⟨gw, 2, none⟩ (.int .u64 (s : Nat))) ∧ WalAt (w4.setCell ⟨gw, 2, none⟩ (.int .u64 (s : Nat))) c4 t gw g d s used) := by
      refine ⟨R4.out.2.1, ?_, ?_, ⟨?_, R4.out.2.2.2.2.ap, TabIn.ch R4.out.2.2.2.2.tab hch5 (fun e => h0gw e.symm), R4.out.2.2.2.2.tap⟩⟩
      · exact ⟨R4.out.2.2.1.1.kept (by rw [hsz5]; exact Nat.le_refl _) fun b hb hbt => ⟨hch5.block b hb (fun e => R4.out.2.2.2.2.ap (by rw [← e]; exact hbt)), rfl⟩, R4.out.2.2.1.2.1, fun b hb => R4.out.2.2.1.2.2 b (by rw [hsz5] at hb; exact hb)⟩
      · exact (R4.out.2.2.2.1.mono fun b _ e => Or.inl e).trans' hch5 fun b _ e => Or.inr e
      · have h6 := row_cell' (i := 2) R4.out.2.2.2.2.row (.int .u64 (s : Nat))
        simpa [walCells] using h6
    generalize w4.setCell ⟨gw, 2, none⟩ (.int .u64 (s : Nat)) = w5 at R5 ⊢
    clear hgwlt hch5 hsz5
    simp only [Nat.zero_add]
    go_wp2_with fail
    go_ret
    have esn : sn = s := by rw [HEM.out.2.2]; rfl
    rw [esn]
    exact ⟨rfl, c4, R5.out.1, R5.out.2.1, R5.out.2.2.1, R5.out.2.2.2⟩
  · have t1 : (er != 0) = true := by simp [he]
    have t2 : decide (er = 0) = false := decide_eq_false he
    have t3 : (er == 0) = false := by simp [he]
    go_wp2_with fail
    go_ret
    have esn : sn = s0 := by rw [HEM.out.2.2, if_neg he]
    rw [esn]
    exact ⟨rfl, c4, R4.out.2.1, R4.out.2.2.1, R4.out.2.2.2.1.mono fun b _ e => Or.inl e, R4.out.2.2.2.2⟩
end Go.Proofs.YtebalanfagglnaaDoor

namespace Go.Proofs.YtebalanfagglnaaDoor
open Go.RowKit Go.Maps

theorem run_build101x (w : World) (x y : Nat) : (Instr.build 63 #[(0, .int .u64 (x : Nat)), (1, .int .u64 (y : Nat))]).run Tryd.prog w = .ok (.agg (headCells x y).toArray) w := by kernel_rfl
theorem run_build101xOp {w : World} {a : Act} {o : Oper} (x0 x1 : Operand) (ho : o.op = .build 63 #[(0, x0), (1, x1)]) (x y : Nat) (h0 : a.eval x0 = .int .u64 (x : Nat)) (h1 : a.eval x1 = .int .u64 (y : Nat)) : (execOp a.eval o).run Tryd.prog w = .ok (.value (.agg (headCells x y).toArray)) w := by
  simp only [execOp, ho, List.map_toArray, List.map_cons, List.map_nil, h0, h1, run_build101x, Sem.run_bind, Sem.run_pure, Result.andThen_ok]
theorem wl_inc64 {w : World} {ops : Array Oper} {rest : List Oper} {o : Oper} {a : Act} {Q : Exit → Act → World → Prop} (x : Operand) (hgd : Region.wanted o (yielded ops a.tmps) = true) (ho : o.op = .binOp .add 61 x (.const (.int .u64 1)) 61) (n : Nat) (hn : n < 9223372036854775808) (hx : a.eval x = .int .u64 (n : Nat)) (h : wpList Tryd.prog ops Q rest (a.put o.dst (.int .u64 ((n + 1 : Nat) : Int))) w) : wpList Tryd.prog ops Q (o :: rest) a w := wl hgd _ w (by
  have hy : a.eval (.const (.int .u64 1)) = .int .u64 1 := rfl
  have e : (eqGuard .add 61 x (.const (.int .u64 1)) (.int .u64 (n : Nat)) (.int .u64 1)).run Tryd.prog w = .ok () w := rfl
  have hw : IntKind.u64.wrap ((n : Int) + 1) = ((n + 1 : Nat) : Int) := by
    simp [IntKind.wrap, IntKind.signed, IntKind.bits]
    omega
  have hr : (binOp .add 61 (.int .u64 (n : Nat)) (.int .u64 1)).run Tryd.prog w = .ok (.int .u64 ((n + 1 : Nat) : Int)) w := by
    simp [binOp, Op.intArith, hw]
  simp only [execOp, ho, hx, hy, e, hr, Sem.run_bind, Sem.run_pure, Result.andThen_ok]) h
/-- one of the journal's own numbers is written -/
theorem WalAt.set {w : World} {c : Nat → Colour} {t gw g : Nat} {m : Pl} {d : Int} {s used : Nat} (h : WalAt w c t gw g d s used) (hl : Live w c t g m) (u : Nat) :
    Live (w.setCell ⟨gw, 3, none⟩ (.int .i64 (u : Nat))) c t g m ∧ WalAt (w.setCell ⟨gw, 3, none⟩ (.int .i64 (u : Nat))) c t gw g d s u ∧ Ch (· = gw) w (w.setCell ⟨gw, 3, none⟩ (.int .i64 (u : Nat))) := by
  have hch : Ch (· = gw) w (w.setCell ⟨gw, 3, none⟩ (.int .i64 (u : Nat))) := (Ch.refl (· = gw) w).setCell (Or.inl rfl) 3 _
  have hsz : (w.setCell ⟨gw, 3, none⟩ (.int .i64 (u : Nat))).heap.size = w.heap.size := World.size_setCell _ _ _
  refine ⟨⟨hl.1.kept (by rw [hsz]; exact Nat.le_refl _) fun b hb hbt => ⟨hch.block b hb (fun e => h.ap (by rw [← e]; exact hbt)), rfl⟩, hl.2.1, fun b hb => hl.2.2 b (by rw [hsz] at hb; exact hb)⟩, ⟨?_, h.ap, TabIn.ch h.tab hch (fun e => h.ne0 e.symm), h.tap⟩, hch⟩
  have h6 := row_cell' (i := 3) h.row (.int .i64 (u : Nat))
  simpa [walCells] using h6
def Pl.trunc (m : Pl) (d : Int) (s : Nat) : Int × Pl := m.begin d (s + 1) (s + 1)
set_option maxHeartbeats 2000000 in
set_option maxRecDepth 100000 in
theorem truncate_any {w : World} {c : Nat → Colour} {t g gw : Nat} {m : Pl} (h : Live w c t g m) (d : Int) (s used : Nat) (hs : s < 4611686018427387904) (hw : WalAt w c t gw g d s used) (hst : m.steps + 2 < 1099511627775) :
    Calls Tryd.prog 13 #[ptr gw] w fun e w' => e = .returned (.int .i64 (m.trunc d s).1) ∧ ∃ c', (∀ b, b < w.heap.size → c' b = c b) ∧ Live w' c' t g (m.trunc d s).2 ∧ Ch (fun b => (c b).1 = t ∨ b = gw) w w' ∧ WalAt w' c' t gw g d (if (m.trunc d s).1 = 0 then s + 1 else s) (if (m.trunc d s).1 = 0 then 0 else used) := by
  have hB := begin_any h d s used (s + 1) (s + 1) hw hst
  have k2 := hw.row.at 2 _ rfl
  obtain ⟨er, her⟩ : ∃ er, er = (m.trunc d s).1 := ⟨_, rfl⟩
  obtain ⟨M, hM⟩ : ∃ M, M = (m.trunc d s).2 := ⟨_, rfl⟩
  obtain ⟨sn, hsn⟩ : ∃ sn, sn = if er = 0 then s + 1 else s := ⟨_, rfl⟩
  obtain ⟨un, hun⟩ : ∃ un, un = if er = 0 then 0 else used := ⟨_, rfl⟩
  have HB : Hid (Calls Tryd.prog 31 #[ptr gw, .agg (headCells (s + 1) (s + 1)).toArray] w fun e w' => e = .returned (.int .i64 er) ∧ ∃ c', (∀ b, b < w.heap.size → c' b = c b) ∧ Live w' c' t g M ∧ Ch (fun b => (c b).1 = t ∨ b = gw) w w' ∧ WalAt w' c' t gw g d sn used) := by
    rw [hsn, her, hM]
    exact hB
  have HU : Hid (un = if er = 0 then 0 else used) := hun
  rw [← her, ← hM, ← hsn, ← hun]
  clear hB her hM hsn hun h hw
  go_enter Tryd.func13, Tryd.ntmps13
  go_upto_region 1 with fail
  refine wp_region_lit ?_
  refine wl_mv (.tmp 0) rfl rfl (ptr gw) rfl ?_
  simp only [Act.put, aS, aC, aZ]
  refine wl_nil (.tmp 5) rfl rfl ⟨gw, 0, none⟩ rfl ?_
  simp only [Act.put, aS, aC, aZ]
  refine wl_fld f108_2 (.tmp 6) rfl rfl gw 0 rfl ?_
  simp only [Act.put, aS, aC, aZ]
  refine wl_ld o99 (.tmp 7) rfl rfl gw (0 + 2) rfl (.int .u64 (s : Nat)) k2 ?_
  simp only [Act.put, aS, aC, aZ]
  refine wl_inc64 (.tmp 8) rfl rfl s (by omega) rfl ?_
  simp only [Act.put, aS, aC, aZ]
  refine wl_as (.tmp 9) rfl rfl (.int .u64 ((s + 1 : Nat) : Int)) rfl ?_
  simp only [Act.put, aS, aC, aZ]
  refine wpList_nil ?_
  clear k2
  go_upto_region 2 with fail
  refine wp_region_lit ?_
  refine wl_mv (.tmp 0) rfl rfl (ptr gw) rfl ?_
  simp only [Act.put, aS, aC, aZ]
  refine wl_mv (.tmp 3) rfl rfl (.int .u64 ((s + 1 : Nat) : Int)) rfl ?_
  simp only [Act.put, aS, aC, aZ]
  refine wl_mv (.tmp 3) rfl rfl (.int .u64 ((s + 1 : Nat) : Int)) rfl ?_
  simp only [Act.put, aS, aC, aZ]
  refine wl rfl _ w (run_build101xOp (.tmp 11) (.tmp 12) rfl (s + 1) (s + 1) rfl rfl) ?_
  simp only [Act.put, aS, aC, aZ]
  refine wpList_callF eN47 [.tmp 10, .tmp 13] _ rfl rfl [ptr gw, .agg (headCells (s + 1) (s + 1)).toArray] rfl ?_
  refine HB.out.mono ?_
  rintro e w1 ⟨rfl, c1, q1, q2, q3, q4⟩
  refine ⟨_, rfl, ?_⟩
  have R1 : Hid ((∀ b, b < w.heap.size → c1 b = c b) ∧ Live w1 c1 t g M ∧ Ch (fun b => (c b).1 = t ∨ b = gw) w w1 ∧ WalAt w1 c1 t gw g d sn used) := ⟨q1, q2, q3, q4⟩
  clear q1 q2 q3 q4
  by_cases he : er = 0
  · subst he
    have eun : un = 0 := by rw [HU.out]; rfl
    subst eun
    go_upto_region 5 with fail
    refine wp_region_lit ?_
    refine wl_mv (.tmp 0) rfl rfl (ptr gw) rfl ?_
    simp only [Act.put, aS, aC, aZ]
    refine wl_nil (.tmp 18) rfl rfl ⟨gw, 0, none⟩ rfl ?_
    simp only [Act.put, aS, aC, aZ]
    refine wl_fld f108_3 (.tmp 19) rfl rfl gw 0 rfl ?_
    simp only [Act.put, aS, aC, aZ]
    refine wl_put size3' (.tmp 20) (.const (.int .i64 0)) rfl rfl rfl gw 3 70 _ rfl (.int .i64 ((0 : Nat) : Int)) rfl ⟨rfl, rfl⟩ R1.out.2.2.2.row (by show 3 < 4; decide) ?_
    refine wpList_nil ?_
    have hset := R1.out.2.2.2.set R1.out.2.1 0
    have R2 : Hid ((∀ b, b < w.heap.size → c1 b = c b) ∧ Live (w1.setCell ⟨gw, 3, none⟩ (.int .i64 ((0 : Nat) : Int))) c1 t g M ∧ Ch (fun b => (c b).1 = t ∨ b = gw) w (w1.setCell ⟨gw, 3, none⟩ (.int .i64 ((0 : Nat) : Int))) ∧ WalAt (w1.setCell ⟨gw, 3, none⟩ (.int .i64 ((0 : Nat) : Int))) c1 t gw g d sn 0) := ⟨R1.out.1, hset.1, R1.out.2.2.1.trans' hset.2.2 (fun _ _ e => Or.inr e), hset.2.1⟩
    clear hset
    generalize w1.setCell ⟨gw, 3, none⟩ (.int .i64 ((0 : Nat) : Int)) = w2 at R2 ⊢
    simp only [Nat.zero_add]
    go_wp2_with fail
    go_ret
    exact ⟨rfl, c1, R2.out⟩
  · have t1 : (er != 0) = true := by simp [he]
    have t2 : decide (er = 0) = false := decide_eq_false he
    have t3 : (er == 0) = false := by simp [he]
    have eun : un = used := by rw [HU.out, if_neg he]
    subst eun
    go_wp2_with fail
    go_ret
    exact ⟨rfl, c1, R1.out⟩
end Go.Proofs.YtebalanfagglnaaDoor

namespace Go.Proofs.YtebalanfagglnaaDoor
open Go.RowKit Go.Maps

theorem opCallG {ops : Array Oper} {Q : Exit → Act → World → Prop} {a : Act} {w : World} {i : Nat} (d : Option Tmp) {o : Oper} {K : Act → World → Prop} (hi : ops[i]? = some o) (hd : o.dst = d) (hw : Region.wanted o (yielded ops a.tmps) = true) (f : Nat) (args : Array Value) (hrun : (execOp a.eval o).run Tryd.prog w = .ok (.enter f args) w) (h : Calls Tryd.prog f args w fun e w' => ∃ v, e = .returned v ∧ K (a.put d v) w') : wpOp Tryd.prog ops Q i K a w := by
  subst hd
  unfold wpOp
  simp only [hi, hw, if_true, Oper.wp, hrun, Oper.upon]
  refine .inl (Calls.mono h fun e w' he => ?_)
  obtain ⟨v, rfl, hK⟩ := he
  exact hK
theorem gNot {ops : Array Oper} {a : Act} {S : World → Prop} {o : Oper} (hw : Region.wanted o (yielded ops a.tmps) = true) (x : Operand) (ty : TypeId) (ho : o.op = .unOp .not ty x) (y : Bool) (hx : a.eval x = .bool y) : YieldsIf Tryd.prog ops S o (.bool (!y)) a := gRun hw _ fun _ _ => run_not x ty ho y hx
theorem gSub {ops : Array Oper} {a : Act} {S : World → Prop} {o : Oper} (hw : Region.wanted o (yielded ops a.tmps) = true) (x y : Operand) (ho : o.op = .binOp .sub 3 x y 3) (m n : Nat) (hm : m ≤ 1000000) (hn : n ≤ 1000000) (hx : a.eval x = .int .i64 (m : Nat)) (hy : a.eval y = .int .i64 (n : Nat)) : YieldsIf Tryd.prog ops S o (.int .i64 ((m : Int) - (n : Int))) a := gRun hw _ fun w _ => by
  have e : (eqGuard .sub 3 x y (.int .i64 (m : Nat)) (.int .i64 (n : Nat))).run Tryd.prog w = .ok () w := rfl
  have hwr : IntKind.i64.wrap ((m : Int) - (n : Int)) = (m : Int) - (n : Int) := by
    simp [IntKind.wrap, IntKind.signed, IntKind.bits]
    omega
  have hr : (binOp .sub 3 (.int .i64 (m : Nat)) (.int .i64 (n : Nat))).run Tryd.prog w = .ok (.int .i64 ((m : Int) - (n : Int))) w := by simp [binOp, Op.intArith, hwr]
  simp only [execOp, ho, hx, hy, e, hr, Sem.run_bind, Sem.run_pure, Result.andThen_ok]
theorem gLeq {ops : Array Oper} {a : Act} {S : World → Prop} {o : Oper} (hw : Region.wanted o (yielded ops a.tmps) = true) (x y : Operand) (ho : o.op = .binOp .leq 3 x y 3) (m n : Int) (hx : a.eval x = .int .i64 m) (hy : a.eval y = .int .i64 n) : YieldsIf Tryd.prog ops S o (.bool (decide (m ≤ n))) a := gRun hw _ fun w _ => by
  have e : (eqGuard .leq 3 x y (.int .i64 m) (.int .i64 n)).run Tryd.prog w = .ok () w := rfl
  have hr : (binOp .leq 3 (.int .i64 m) (.int .i64 n)).run Tryd.prog w = .ok (.bool (decide (m ≤ n))) w := by simp [binOp, Op.intCmp]
  simp only [execOp, ho, hx, hy, e, hr, Sem.run_bind, Sem.run_pure, Result.andThen_ok]
theorem eN68 : EntersF 54 := Go.Proofs.enters_of Tryd.func54 (by kernel_rfl) rfl
theorem eN43 : EntersF 27 := Go.Proofs.enters_of Tryd.func27 (by kernel_rfl) rfl
/-- is there room? -/
def fitsB (L : List (List Nat)) (n used : Nat) : Bool := !longTx L && decide (((secsOf (txSize L) : Nat) : Int) ≤ ((n - 1 : Nat) : Int) - (used : Int))
set_option maxHeartbeats 2000000 in
set_option maxRecDepth 100000 in
theorem fits_any {w : World} {c : Nat → Colour} {t g gw : Nat} {m : Pl} (h : Live w c t g m) (i : Nat) (s used : Nat) (hw : WalAt w c t gw g (i : Int) s used) (hst : m.steps < 1099511627775) {ds ts : List Nat} (hsh : ShapeOf m ds ts) (hi : i < ds.length) (h1 : 1 ≤ ds.getD i 0) (hu : used ≤ 1000000) (v : Value) (L : List (List Nat)) (hr : RowsIn w v L) (hsz : txSize L ≤ 100000000) :
    Calls Tryd.prog 33 #[ptr gw, v] w fun e w' => e = .returned (.bool (fitsB L (ds.getD i 0) used)) ∧ Below w.heap.size w w' := by
  obtain ⟨r, hrr⟩ : ∃ r, r = fitsB L (ds.getD i 0) used := ⟨_, rfl⟩
  have HR : Hid (r = fitsB L (ds.getD i 0) used) := hrr
  obtain ⟨lg, hlg⟩ : ∃ lg, lg = longTx L := ⟨_, rfl⟩
  have HLG : Hid (lg = longTx L) := hlg
  have hby : bytesOf L ≤ 1099511627776 := by unfold txSize at hsz; omega
  have h4096 : ds.getD i 0 ≤ 4096 := by have := (h.2.1.sizes i (by have := hsh.n; unfold Pl.n at this; omega)).2; rw [(hsh.disk i hi).2] at this; exact this
  have HRI : Hid (∀ W, Below w.heap.size w W → RowsIn W v L) := fun W hW => hr.later hW
  have HLO : Hid (∀ W, Below w.heap.size w W → Calls Tryd.prog 32 #[v] W fun e w' => e = .returned (.bool lg) ∧ W = w') := fun W hW => by rw [hlg]; exact long_any W v L (hr.later hW) hby
  obtain ⟨sz, hsz'⟩ : ∃ sz, sz = txSize L := ⟨_, rfl⟩
  have HSZ : Hid (∀ W, Below w.heap.size w W → Calls Tryd.prog 54 #[v] W fun e w' => e = .returned (.int .i64 (sz : Nat)) ∧ W = w') := fun W hW => by rw [hsz']; exact size_any W v L (hr.later hW) hby
  obtain ⟨sc, hsc⟩ : ∃ sc, sc = secsOf sz := ⟨_, rfl⟩
  have HSC : Hid (∀ W, Calls Tryd.prog 55 #[.int .i64 (sz : Nat)] W fun e w' => e = .returned (.int .i64 (sc : Nat)) ∧ W = w') := fun W => by rw [hsc]; exact sectors_any W sz (by omega)
  obtain ⟨n, hn⟩ : ∃ n, n = ds.getD i 0 := ⟨_, rfl⟩
  have HLS : Hid (∀ W, Below w.heap.size w W → Calls Tryd.prog 27 #[ptr g, .int .i64 (i : Nat)] W fun e w' => e = .returned (.int .i64 ((n - 1 : Nat) : Int)) ∧ Below W.heap.size W w') := fun W hW => by rw [hn]; exact logSize_any (h.below hW) hst hsh i hi h1
  have HFB : Hid (r = (!lg && decide ((sc : Int) ≤ ((n - 1 : Nat) : Int) - (used : Int)))) := by show _ = _; rw [hrr, hlg, hn, hsc, hsz']; rfl
  rw [← hn] at h4096
  have HW : Hid (WalAt w c t gw g (i : Int) s used) := hw
  rw [← hrr]
  clear hrr hlg hsz' hsc hn h hw hr hsz hby hsh
  go_enter Tryd.func33, Tryd.ntmps33
  go_upto_region 1 with fail
  refine wp_region_held (S := fun X => Row X gw 70 (walCells g (i : Int) s used)) (by kernel_rfl) ?_
  show wpAnyH _ _ _ _ _ 24 (Array.replicate 24 false) _ _
  obtain ⟨X, hX⟩ : ∃ X : World, X = { w with drawn := w.drawn + 1 } := ⟨_, rfl⟩
  rw [← hX]
  have hbX : Below w.heap.size w X := by rw [hX]; exact ⟨rfl, rfl, rfl, Nat.le_refl _, fun _ _ => rfl⟩
  have HBX : Hid (Below w.heap.size w X) := hbX
  have hS0 : Row X gw 70 (walCells g (i : Int) s used) := HW.out.row.later hbX HW.out.row.lt
  clear hX hbX
  refine takeH (i := 0) (some 5) rfl rfl (by kernel_rfl) (by kernel_rfl) (by kernel_rfl) (fun _ _ _ h => h) (gMove rfl (.tmp 1) rfl v rfl) hS0 ?_
  simp only [Act.put, aS, aC, aZ]
  refine oneH (i := 1) (by kernel_rfl) ?_
  refine opCallG (some 6) rfl rfl rfl 32 _ (run_call eN48 [.tmp 5] _ rfl [v] rfl) ?_
  refine (HLO.out X HBX.out).mono ?_
  rintro e w1 ⟨rfl, rfl⟩
  refine ⟨_, rfl, ?_⟩
  refine ⟨hS0, ?_⟩
  simp only [Act.put, aS, aC, aZ]
  cases lg with
  | true =>
    refine takeH (i := 2) (some 7) rfl rfl (by kernel_rfl) (by kernel_rfl) (by kernel_rfl) (fun _ _ _ h => h) (gNot rfl (.tmp 6) _ rfl true rfl) hS0 ?_
    simp only [Act.put, aS, aC, aZ]
    refine takeH (i := 3) (some 8) rfl rfl (by kernel_rfl) (by kernel_rfl) (by kernel_rfl) (fun _ _ _ h => h) (gMove rfl (.tmp 7) rfl (.bool false) rfl) hS0 ?_
    simp only [Act.put, aS, aC, aZ]
    refine takeH (i := 4) (some 9) rfl rfl (by kernel_rfl) (by kernel_rfl) (by kernel_rfl) (fun _ _ _ h => h) (Or.inr ⟨by kernel_rfl, rfl⟩) hS0 ?_
    simp only [Act.put, aS, aC, aZ]
    refine takeH (i := 5) (some 10) rfl rfl (by kernel_rfl) (by kernel_rfl) (by kernel_rfl) (fun _ _ _ h => h) (Or.inr ⟨by kernel_rfl, rfl⟩) hS0 ?_
    simp only [Act.put, aS, aC, aZ]
    refine takeH (i := 6) (some 11) rfl rfl (by kernel_rfl) (by kernel_rfl) (by kernel_rfl) (fun _ _ _ h => h) (Or.inr ⟨by kernel_rfl, rfl⟩) hS0 ?_
    simp only [Act.put, aS, aC, aZ]
    refine takeH (i := 7) (some 12) rfl rfl (by kernel_rfl) (by kernel_rfl) (by kernel_rfl) (fun _ _ _ h => h) (Or.inr ⟨by kernel_rfl, rfl⟩) hS0 ?_
    simp only [Act.put, aS, aC, aZ]
    refine takeH (i := 8) (some 13) rfl rfl (by kernel_rfl) (by kernel_rfl) (by kernel_rfl) (fun _ _ _ h => h) (Or.inr ⟨by kernel_rfl, rfl⟩) hS0 ?_
    simp only [Act.put, aS, aC, aZ]
    refine takeH (i := 9) (some 14) rfl rfl (by kernel_rfl) (by kernel_rfl) (by kernel_rfl) (fun _ _ _ h => h) (Or.inr ⟨by kernel_rfl, rfl⟩) hS0 ?_
    simp only [Act.put, aS, aC, aZ]
    refine takeH (i := 10) (some 15) rfl rfl (by kernel_rfl) (by kernel_rfl) (by kernel_rfl) (fun _ _ _ h => h) (Or.inr ⟨by kernel_rfl, rfl⟩) hS0 ?_
    simp only [Act.put, aS, aC, aZ]
    refine takeH (i := 11) (some 16) rfl rfl (by kernel_rfl) (by kernel_rfl) (by kernel_rfl) (fun _ _ _ h => h) (Or.inr ⟨by kernel_rfl, rfl⟩) hS0 ?_
    simp only [Act.put, aS, aC, aZ]
    refine takeH (i := 12) (some 17) rfl rfl (by kernel_rfl) (by kernel_rfl) (by kernel_rfl) (fun _ _ _ h => h) (Or.inr ⟨by kernel_rfl, rfl⟩) hS0 ?_
    simp only [Act.put, aS, aC, aZ]
    refine takeH (i := 13) (some 18) rfl rfl (by kernel_rfl) (by kernel_rfl) (by kernel_rfl) (fun _ _ _ h => h) (Or.inr ⟨by kernel_rfl, rfl⟩) hS0 ?_
    simp only [Act.put, aS, aC, aZ]
    refine takeH (i := 14) (some 19) rfl rfl (by kernel_rfl) (by kernel_rfl) (by kernel_rfl) (fun _ _ _ h => h) (Or.inr ⟨by kernel_rfl, rfl⟩) hS0 ?_
    simp only [Act.put, aS, aC, aZ]
    refine takeH (i := 15) (some 20) rfl rfl (by kernel_rfl) (by kernel_rfl) (by kernel_rfl) (fun _ _ _ h => h) (Or.inr ⟨by kernel_rfl, rfl⟩) hS0 ?_
    simp only [Act.put, aS, aC, aZ]
    refine takeH (i := 16) (some 21) rfl rfl (by kernel_rfl) (by kernel_rfl) (by kernel_rfl) (fun _ _ _ h => h) (Or.inr ⟨by kernel_rfl, rfl⟩) hS0 ?_
    simp only [Act.put, aS, aC, aZ]
    refine takeH (i := 17) (some 22) rfl rfl (by kernel_rfl) (by kernel_rfl) (by kernel_rfl) (fun _ _ _ h => h) (Or.inr ⟨by kernel_rfl, rfl⟩) hS0 ?_
    simp only [Act.put, aS, aC, aZ]
    refine takeH (i := 18) (some 23) rfl rfl (by kernel_rfl) (by kernel_rfl) (by kernel_rfl) (fun _ _ _ h => h) (Or.inr ⟨by kernel_rfl, rfl⟩) hS0 ?_
    simp only [Act.put, aS, aC, aZ]
    refine takeH (i := 19) (some 24) rfl rfl (by kernel_rfl) (by kernel_rfl) (by kernel_rfl) (fun _ _ _ h => h) (Or.inr ⟨by kernel_rfl, rfl⟩) hS0 ?_
    simp only [Act.put, aS, aC, aZ]
    refine takeH (i := 20) (some 25) rfl rfl (by kernel_rfl) (by kernel_rfl) (by kernel_rfl) (fun _ _ _ h => h) (Or.inr ⟨by kernel_rfl, rfl⟩) hS0 ?_
    simp only [Act.put, aS, aC, aZ]
    refine takeH (i := 21) (some 26) rfl rfl (by kernel_rfl) (by kernel_rfl) (by kernel_rfl) (fun _ _ _ h => h) (Or.inr ⟨by kernel_rfl, rfl⟩) hS0 ?_
    simp only [Act.put, aS, aC, aZ]
    refine takeH (i := 22) (some 27) rfl rfl (by kernel_rfl) (by kernel_rfl) (by kernel_rfl) (fun _ _ _ h => h) (gPick rfl (.tmp 8) (.tmp 26) (.const (.bool false)) rfl false (.bool false) rfl rfl) hS0 ?_
    simp only [Act.put, aS, aC, aZ]
    refine takeH (i := 23) (some 4) rfl rfl (by kernel_rfl) (by kernel_rfl) (by kernel_rfl) (fun _ _ _ h => h) (gAssign rfl (.tmp 27) rfl (.bool false) rfl) hS0 ?_
    simp only [Act.put, aS, aC, aZ]
    refine wpAnyH_done (by kernel_rfl) ?_ _
    have er : r = false := by rw [HFB.out]; rfl
    subst er
    go_wp2_with fail
    go_ret
    exact ⟨rfl, HBX.out⟩
  | false =>
    refine takeH (i := 2) (some 7) rfl rfl (by kernel_rfl) (by kernel_rfl) (by kernel_rfl) (fun _ _ _ h => h) (gNot rfl (.tmp 6) _ rfl false rfl) hS0 ?_
    simp only [Act.put, aS, aC, aZ]
    refine takeH (i := 3) (some 8) rfl rfl (by kernel_rfl) (by kernel_rfl) (by kernel_rfl) (fun _ _ _ h => h) (gMove rfl (.tmp 7) rfl (.bool true) rfl) hS0 ?_
    simp only [Act.put, aS, aC, aZ]
    refine takeH (i := 4) (some 9) rfl rfl (by kernel_rfl) (by kernel_rfl) (by kernel_rfl) (fun _ _ _ h => h) (gMove (by kernel_rfl) (.tmp 1) rfl v rfl) hS0 ?_
    simp only [Act.put, aS, aC, aZ]
    refine takeH (i := 7) (some 12) rfl rfl (by kernel_rfl) (by kernel_rfl) (by kernel_rfl) (fun _ _ _ h => h) (gMove (by kernel_rfl) (.tmp 0) rfl (ptr gw) rfl) hS0 ?_
    simp only [Act.put, aS, aC, aZ]
    refine takeH (i := 8) (some 13) rfl rfl (by kernel_rfl) (by kernel_rfl) (by kernel_rfl) (fun _ _ _ h => h) (nilOp (by kernel_rfl) (.tmp 12) rfl ⟨gw, 0, none⟩ rfl) hS0 ?_
    simp only [Act.put, aS, aC, aZ]
    refine takeH (i := 9) (some 14) rfl rfl (by kernel_rfl) (by kernel_rfl) (by kernel_rfl) (fun _ _ _ h => h) (gField f108_0 (by kernel_rfl) (.tmp 13) rfl gw 0 rfl) hS0 ?_
    simp only [Act.put, aS, aC, aZ]
    refine takeH (i := 10) (some 15) rfl rfl (by kernel_rfl) (by kernel_rfl) (by kernel_rfl) (fun _ _ _ h => h) (gLoad o25 (by kernel_rfl) (.tmp 14) rfl gw (0 + 0) rfl (ptr g) (fun _ h => h.at 0 _ rfl)) hS0 ?_
    simp only [Act.put, aS, aC, aZ]
    refine takeH (i := 11) (some 16) rfl rfl (by kernel_rfl) (by kernel_rfl) (by kernel_rfl) (fun _ _ _ h => h) (gMove (by kernel_rfl) (.tmp 0) rfl (ptr gw) rfl) hS0 ?_
    simp only [Act.put, aS, aC, aZ]
    refine takeH (i := 12) (some 17) rfl rfl (by kernel_rfl) (by kernel_rfl) (by kernel_rfl) (fun _ _ _ h => h) (nilOp (by kernel_rfl) (.tmp 16) rfl ⟨gw, 0, none⟩ rfl) hS0 ?_
    simp only [Act.put, aS, aC, aZ]
    refine takeH (i := 13) (some 18) rfl rfl (by kernel_rfl) (by kernel_rfl) (by kernel_rfl) (fun _ _ _ h => h) (gField f108_1 (by kernel_rfl) (.tmp 17) rfl gw 0 rfl) hS0 ?_
    simp only [Act.put, aS, aC, aZ]
    refine takeH (i := 14) (some 19) rfl rfl (by kernel_rfl) (by kernel_rfl) (by kernel_rfl) (fun _ _ _ h => h) (gLoad o3' (by kernel_rfl) (.tmp 18) rfl gw (0 + 1) rfl (.int .i64 (i : Nat)) (fun _ h => h.at 1 _ rfl)) hS0 ?_
    simp only [Act.put, aS, aC, aZ]
    refine takeH (i := 16) (some 21) rfl rfl (by kernel_rfl) (by kernel_rfl) (by kernel_rfl) (fun _ _ _ h => h) (gMove (by kernel_rfl) (.tmp 0) rfl (ptr gw) rfl) hS0 ?_
    simp only [Act.put, aS, aC, aZ]
    refine takeH (i := 17) (some 22) rfl rfl (by kernel_rfl) (by kernel_rfl) (by kernel_rfl) (fun _ _ _ h => h) (nilOp (by kernel_rfl) (.tmp 21) rfl ⟨gw, 0, none⟩ rfl) hS0 ?_
    simp only [Act.put, aS, aC, aZ]
    refine takeH (i := 18) (some 23) rfl rfl (by kernel_rfl) (by kernel_rfl) (by kernel_rfl) (fun _ _ _ h => h) (gField f108_3 (by kernel_rfl) (.tmp 22) rfl gw 0 rfl) hS0 ?_
    simp only [Act.put, aS, aC, aZ]
    refine takeH (i := 19) (some 24) rfl rfl (by kernel_rfl) (by kernel_rfl) (by kernel_rfl) (fun _ _ _ h => h) (gLoad o3' (by kernel_rfl) (.tmp 23) rfl gw (0 + 3) rfl (.int .i64 (used : Nat)) (fun _ h => h.at 3 _ rfl)) hS0 ?_
    simp only [Act.put, aS, aC, aZ]
    refine oneH (i := 5) (by kernel_rfl) ?_
    refine opCallG (some 10) rfl rfl (by kernel_rfl) 54 _ (run_call eN68 [.tmp 9] _ rfl [v] rfl) ?_
    refine (HSZ.out X HBX.out).mono ?_
    rintro e w2 ⟨rfl, rfl⟩
    refine ⟨_, rfl, ?_⟩
    refine ⟨hS0, ?_⟩
    simp only [Act.put, aS, aC, aZ]
    refine oneH (i := 6) (by kernel_rfl) ?_
    refine opCallG (some 11) rfl rfl (by kernel_rfl) 55 _ (run_call eN69 [.tmp 10] _ rfl [.int .i64 (sz : Nat)] rfl) ?_
    refine (HSC.out X).mono ?_
    rintro e w3 ⟨rfl, rfl⟩
    refine ⟨_, rfl, ?_⟩
    refine ⟨hS0, ?_⟩
    simp only [Act.put, aS, aC, aZ]
    refine oneH (i := 15) (by kernel_rfl) ?_
    refine opCallG (some 20) rfl rfl (by kernel_rfl) 27 _ (run_call eN43 [.tmp 15, .tmp 19] _ rfl [ptr g, .int .i64 (i : Nat)] rfl) ?_
    refine (HLS.out X HBX.out).mono ?_
    rintro e w4 ⟨rfl, b4⟩
    refine ⟨_, rfl, ?_⟩
    have HB4 : Hid (Below w.heap.size w w4) := HBX.out.trans (b4.mono HBX.out.size)
    have hS4 : Row w4 gw 70 (walCells g (i : Int) s used) := hS0.later b4 hS0.lt
    clear b4 hS0
    refine ⟨hS4, ?_⟩
    simp only [Act.put, aS, aC, aZ]
    refine takeH (i := 20) (some 25) rfl rfl (by kernel_rfl) (by kernel_rfl) (by kernel_rfl) (fun _ _ _ h => h) (gSub (by kernel_rfl) (.tmp 20) (.tmp 24) rfl (n - 1) used (by omega) hu rfl rfl) hS4 ?_
    simp only [Act.put, aS, aC, aZ]
    refine takeH (i := 21) (some 26) rfl rfl (by kernel_rfl) (by kernel_rfl) (by kernel_rfl) (fun _ _ _ h => h) (gLeq (by kernel_rfl) (.tmp 11) (.tmp 25) rfl (sc : Int) (((n - 1 : Nat) : Int) - (used : Int)) rfl rfl) hS4 ?_
    simp only [Act.put, aS, aC, aZ]
    have erb : decide ((sc : Int) ≤ ((n - 1 : Nat) : Int) - (used : Int)) = r := by rw [HFB.out]; rfl
    rw [erb]
    clear erb
    refine takeH (i := 22) (some 27) rfl rfl (by kernel_rfl) (by kernel_rfl) (by kernel_rfl) (fun _ _ _ h => h) (gPick rfl (.tmp 8) (.tmp 26) (.const (.bool false)) rfl true (.bool r) rfl rfl) hS4 ?_
    simp only [Act.put, aS, aC, aZ]
    refine takeH (i := 23) (some 4) rfl rfl (by kernel_rfl) (by kernel_rfl) (by kernel_rfl) (fun _ _ _ h => h) (gAssign rfl (.tmp 27) rfl (.bool r) rfl) hS4 ?_
    simp only [Act.put, aS, aC, aZ]
    refine wpAnyH_done (by kernel_rfl) ?_ _
    go_wp2_with fail
    go_ret
    exact ⟨rfl, HB4.out⟩
end Go.Proofs.YtebalanfagglnaaDoor

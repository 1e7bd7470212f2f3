/- Layer 8: heads opened. -/
import Derived.Test.YtebalanfagglnaaDoorV21
namespace Go.Proofs.YtebalanfagglnaaDoor
open Go.RowKit Go.Maps

theorem results_cell_tmp {fn : Func} {p u : Tmp} {t n : Nat} (ht : AggT t n) (h : fn.results = #[.cell p t, .tmp u]) (tmps : Array Value) (w : World) (g T : Nat) (hp : tmps.getD p undef = .pointer (some ⟨g, 0, none⟩)) (cs : List Value) (hn : cs.length = n) (hr : Row w g T cs) :
    (results fn tmps).run Tryd.prog w = .ok (.tuple #[.agg cs.toArray, tmps.getD u undef]) w := by
  have hl := run_loadVar ht w g 0 cs hn (fun j v hv => by rw [Nat.zero_add]; exact hr.at j v hv)
  have hp' : tmps[p]?.getD undef = .pointer (some ⟨g, 0, none⟩) := by simpa using hp
  simp [results, h, hp', asAddr, hl]
theorem results_cell_tmp2 {fn : Func} {p u u' : Tmp} {t n : Nat} (ht : AggT t n) (h : fn.results = #[.cell p t, .tmp u, .tmp u']) (tmps : Array Value) (w : World) (g T : Nat) (hp : tmps.getD p undef = .pointer (some ⟨g, 0, none⟩)) (cs : List Value) (hn : cs.length = n) (hr : Row w g T cs) :
    (results fn tmps).run Tryd.prog w = .ok (.tuple #[.agg cs.toArray, tmps.getD u undef, tmps.getD u' undef]) w := by
  have hl := run_loadVar ht w g 0 cs hn (fun j v hv => by rw [Nat.zero_add]; exact hr.at j v hv)
  have hp' : tmps[p]?.getD undef = .pointer (some ⟨g, 0, none⟩) := by simpa using hp
  simp [results, h, hp', asAddr, hl]
section
variable {ops : Array Oper} {a : Act} {S : World → Prop} {o : Oper}
theorem gRun (hw : Region.wanted o (yielded ops a.tmps) = true) (v : Value) (hr : ∀ w, S w → (execOp a.eval o).run Tryd.prog w = .ok (.value v) w) : YieldsIf Tryd.prog ops S o v a := Or.inl ⟨hw, hr⟩
theorem gMove (hw : Region.wanted o (yielded ops a.tmps) = true) (x : Operand) (ho : o.op = .move x) (v : Value) (hv : a.eval x = v) : YieldsIf Tryd.prog ops S o v a := gRun hw v fun w _ => by simp [execOp, ho, hv]
theorem gAssign (hw : Region.wanted o (yielded ops a.tmps) = true) (x : Operand) (ho : o.op = .assign x) (v : Value) (hv : a.eval x = v) : YieldsIf Tryd.prog ops S o v a := gRun hw v fun w _ => by simp [execOp, ho, hv]
theorem gField {T i k : Nat} (hf : FieldAt T i k) (hw : Region.wanted o (yielded ops a.tmps) = true) (x : Operand) (ho : o.op = .fieldAddr T x i) (g off : Nat) (hv : a.eval x = .pointer (some ⟨g, off, none⟩)) : YieldsIf Tryd.prog ops S o (.pointer (some ⟨g, off + k, none⟩)) a := gRun hw _ fun _ _ => run_fieldOp' hf x ho g off hv
theorem gLoad {t : Nat} (ht : OneT t) (hw : Region.wanted o (yielded ops a.tmps) = true) (x : Operand) (ho : o.op = .load t x) (g off : Nat) (hx : a.eval x = .pointer (some ⟨g, off, none⟩)) (v : Value) (hc : ∀ w, S w → w.cell? ⟨g, off, none⟩ = some v) : YieldsIf Tryd.prog ops S o v a := gRun hw v fun w h => run_load1 ht x ho g off hx v (hc w h)
theorem gLoadA {t n : Nat} (ht : AggT t n) (hw : Region.wanted o (yielded ops a.tmps) = true) (x : Operand) (ho : o.op = .load t x) (g : Nat) (hx : a.eval x = .pointer (some ⟨g, 0, none⟩)) (cs : List Value) (hn : cs.length = n) (hc : ∀ w, S w → Row w g t cs) : YieldsIf Tryd.prog ops S o (.agg cs.toArray) a := gRun hw _ fun w h => run_loadA ht x ho g 0 hx cs hn fun j v hj => by rw [Nat.zero_add]; exact (hc w h).at j v hj
theorem gPick (hw : Region.wanted o (yielded ops a.tmps) = true) (c x y : Operand) (ho : o.op = .pick c x y) (b : Bool) (v : Value) (hc : a.eval c = .bool b) (hv : (if b then a.eval x else a.eval y) = v) : YieldsIf Tryd.prog ops S o v a := gRun hw v fun w _ => by
  subst hv
  have hb : (asBool (.bool b)).run Tryd.prog w = .ok b w := rfl
  simp only [execOp, ho, hc, hb, Sem.run_bind, Sem.run_pure, Result.andThen_ok]
theorem gLeq64 (hw : Region.wanted o (yielded ops a.tmps) = true) (x y : Operand) (ho : o.op = .binOp .leq 61 x y 61) (m n : Nat) (hx : a.eval x = .int .u64 (m : Nat)) (hy : a.eval y = .int .u64 (n : Nat)) : YieldsIf Tryd.prog ops S o (.bool (decide (m ≤ n))) a := gRun hw _ fun w _ => by
  have e : (eqGuard .leq 61 x y (.int .u64 (m : Nat)) (.int .u64 (n : Nat))).run Tryd.prog w = .ok () w := rfl
  have hr : (binOp .leq 61 (.int .u64 (m : Nat)) (.int .u64 (n : Nat))).run Tryd.prog w = .ok (.bool (decide (m ≤ n))) w := by simp [binOp, Op.intCmp]
  simp only [execOp, ho, hx, hy, e, hr, Sem.run_bind, Sem.run_pure, Result.andThen_ok]
theorem gLss64 (hw : Region.wanted o (yielded ops a.tmps) = true) (x : Operand) (C : Nat) (ho : o.op = .binOp .lss 61 x (.const (.int .u64 (C : Nat))) 61) (m : Nat) (hx : a.eval x = .int .u64 (m : Nat)) : YieldsIf Tryd.prog ops S o (.bool (decide (m < C))) a := gRun hw _ fun w _ => by
  have hy : a.eval (.const (.int .u64 (C : Nat))) = .int .u64 (C : Nat) := rfl
  have e : (eqGuard .lss 61 x (.const (.int .u64 (C : Nat))) (.int .u64 (m : Nat)) (.int .u64 (C : Nat))).run Tryd.prog w = .ok () w := rfl
  have hr : (binOp .lss 61 (.int .u64 (m : Nat)) (.int .u64 (C : Nat))).run Tryd.prog w = .ok (.bool (decide (m < C))) w := by simp [binOp, Op.intCmp]
  simp only [execOp, ho, hx, hy, e, hr, Sem.run_bind, Sem.run_pure, Result.andThen_ok]
theorem gLss (hw : Region.wanted o (yielded ops a.tmps) = true) (x y : Operand) (ho : o.op = .binOp .lss 3 x y 3) (m n : Nat) (hx : a.eval x = .int .i64 (m : Nat)) (hy : a.eval y = .int .i64 (n : Nat)) : YieldsIf Tryd.prog ops S o (.bool (decide (m < n))) a := gRun hw _ fun w _ => by
  have e : (eqGuard .lss 3 x y (.int .i64 (m : Nat)) (.int .i64 (n : Nat))).run Tryd.prog w = .ok () w := rfl
  have hr : (binOp .lss 3 (.int .i64 (m : Nat)) (.int .i64 (n : Nat))).run Tryd.prog w = .ok (.bool (decide (m < n))) w := by simp [binOp, Op.intCmp]
  simp only [execOp, ho, hx, hy, e, hr, Sem.run_bind, Sem.run_pure, Result.andThen_ok]
end
theorem run_storeA {w : World} {a : Act} {o : Oper} {t n : Nat} (ht : AggT t n) (x y : Operand) (ho : o.op = .store t x y) (g T : Nat) (hx : a.eval x = .pointer (some ⟨g, 0, none⟩)) (cs cur : List Value) (hy : a.eval y = .agg cs.toArray) (hn : cs.length = n) (hr : Row w g T cur) (hfit : cs.length = cur.length) (h1 : ∀ v ∈ cs, v.oneCell' = true) : (execOp a.eval o).run Tryd.prog w = .ok .skip (w.setRow g cs.toArray) := by
  have e : splice cur 0 cs = cs := splice_all cur cs hfit
  have := run_storeVar ht w g 0 T cur cs hn hr (by omega) h1
  rw [e] at this
  simp [execOp, ho, hx, hy, Instr.storeAt, Instr.sureAddr, this]
theorem size99 : (Tryd.prog.info? 61).map (·.size) = some 1 := by kernel_rfl
theorem zero101 : (Tryd.prog.info? 63).map (·.zero) = some (some (.agg (headCells 0 0).toArray)) := by kernel_rfl
theorem en77 : EntersF 69 := Go.Proofs.enters_of Tryd.func69 (by kernel_rfl) rfl
theorem en78 : EntersF 70 := Go.Proofs.enters_of Tryd.func70 (by kernel_rfl) rfl
theorem en44 : EntersF 28 := Go.Proofs.enters_of Tryd.func28 (by kernel_rfl) rfl
theorem en79 : EntersF 71 := Go.Proofs.enters_of Tryd.func71 (by kernel_rfl) rfl
theorem run_build101 (w : World) : (Instr.build 63 #[]).run Tryd.prog w = .ok (.agg (headCells 0 0).toArray) w := by kernel_rfl
theorem run_build101Op {w : World} {a : Act} {o : Oper} (ho : o.op = .build 63 #[]) : (execOp a.eval o).run Tryd.prog w = .ok (.value (.agg (headCells 0 0).toArray)) w := by
  simp [execOp, ho, run_build101]
def hS (b : List Nat) : Nat := Fr.Frame.val ((Fr.Frame.payOf b).take 8)
def hF (b : List Nat) : Nat := Fr.Frame.val (((Fr.Frame.payOf b).drop 8).take 8)
def headOk (b : List Nat) : Bool := payB 74 b && (decide (b = headSec (hS b) (hF b)) && (decide (hF b ≤ hS b) && decide (hS b < 4611686018427387904)))
theorem headCells_one (s f : Nat) : ∀ v ∈ headCells s f, v.oneCell' = true := by
  intro v hv
  simp only [headCells, List.mem_cons, List.not_mem_nil, or_false] at hv
  rcases hv with rfl | rfl <;> rfl
set_option maxHeartbeats 2000000 in
set_option maxRecDepth 100000 in
theorem headOf_any (w : World) (v : Value) (b : List Nat) (h : SliceIn w v b) (hl : b.length ≤ 1000000) (ht : Fr.TabIn w) :
    Calls Tryd.prog 50 #[v] w fun e w' => ∃ s f, e = .returned (.tuple #[.agg (headCells s f).toArray, .bool (headOk b)]) ∧ (headOk b = true → s = hS b ∧ f = hF b) ∧ Below w.heap.size w w' := by
  obtain ⟨q, hq⟩ : ∃ q, q = w.heap.size := ⟨_, rfl⟩
  have HQ : Hid (q = w.heap.size) := hq
  have HT : Hid (Fr.TabIn w) := ht
  have HV : Hid (SliceIn w v b) := h
  obtain ⟨r, hr⟩ : ∃ r, r = headOk b := ⟨_, rfl⟩
  have HR : Hid (r = headOk b) := hr
  rw [← hq, ← hr]
  clear hq ht h hr
  go_enter Tryd.func50, Tryd.ntmps50
  go_upto_region 0 with fail
  refine wp_region_lit ?_
  refine wpList_alloc' (headCells 0 0) zero101 rfl rfl ?_
  intro w1 r1 s1 b1
  rw [← HQ.out] at r1 s1 b1 ⊢
  refine wpList_assign (.const (.bool false)) rfl rfl (.bool false) rfl ?_
  refine wpList_nil ?_
  simp only [Act.put, aS, aC, aZ]
  have R1 : Hid (Row w1 q 63 (headCells 0 0) ∧ w1.heap.size = q + 1 ∧ Below q w w1) := ⟨r1, s1, b1⟩
  clear r1 s1 b1
  go_upto_region 1 with fail
  refine wp_region_lit ?_
  refine wl_mv (.tmp 0) rfl rfl v rfl ?_
  simp only [Act.put, aS, aC, aZ]
  refine wpList_callF en77 [.const (.int .u8 74), .tmp 8] _ rfl rfl [.int .u8 ((74 : Nat) : Int), v] rfl ?_
  refine (payload_any w1 74 (by decide) v b (HV.out.later (by rw [← HQ.out]; exact R1.out.2.2)) hl (TabIn.later HT.out (by rw [← HQ.out]; exact R1.out.2.2))).mono ?_
  rintro e w2 ⟨vp, rfl, o2, b2⟩
  refine ⟨_, rfl, ?_⟩
  have R2 : Hid (BOwn w2 w1.heap.size vp (Fr.Frame.payOf b) ∧ Below w1.heap.size w1 w2) := ⟨o2, b2⟩
  have R2r : Hid (Row w2 q 63 (headCells 0 0)) := R1.out.1.later b2 R1.out.1.lt
  have B2 : Hid (Below q w w2) := R1.out.2.2.trans (b2.mono (by have := R1.out.2.1; omega))
  clear o2 b2
  cases hpb : payB 74 b with
  | false =>
    have er : r = false := by rw [HR.out]; unfold headOk; rw [hpb]; rfl
    subst er
    go_upto_region 3 with fail
    refine wp_region_lit ?_
    refine wl rfl _ w2 (run_build101Op rfl) ?_
    simp only [Act.put, aS, aC, aZ]
    refine wpList_store0 agg101 (.tmp 2) (.tmp 14) rfl rfl rfl q 0 63 rfl (headCells 0 0) _ rfl rfl R2r.out (by simp [headCells]) (headCells_one 0 0) ?_
    rw [splice_all _ _ rfl]
    refine wpList_assign (.const (.bool false)) rfl rfl (.bool false) rfl ?_
    refine wpList_nil ?_
    simp only [Act.put, aS, aC, aZ]
    have R3 : Hid (Row (w2.setRow q (headCells 0 0).toArray) q 63 (headCells 0 0) ∧ Below q w (w2.setRow q (headCells 0 0).toArray)) := ⟨R2r.out.setRow _, below_setRow B2.out (Nat.le_refl _) _⟩
    generalize w2.setRow q (headCells 0 0).toArray = w3 at R3 ⊢
    go_wp2_with fail
    exact bodyPost_ret (results_cell_tmp agg101 Tryd.results50 _ _ q 63 rfl _ rfl R3.out.1) rfl ⟨0, 0, rfl, fun h => (by cases h), R3.out.2⟩
  | true =>
    obtain ⟨P, hP⟩ : ∃ P, P = Fr.Frame.payOf b := ⟨_, rfl⟩
    have HPL : Hid (P.length = 55 ∧ P = Fr.Frame.payOf b ∧ ∀ c ∈ P, c < 256) := by
      refine ⟨?_, hP, fun c hc => ?_⟩
      · unfold payB at hpb
        simp only [Bool.and_eq_true, decide_eq_true_eq] at hpb
        rw [hP]
        exact hpb.2.2
      · rw [hP] at hc
        exact HV.out.lt256 c (Fr.Frame.payOf_mem b c hc)
    have HRR : Hid (r = (decide (b = headSec (hS b) (hF b)) && (decide (hF b ≤ hS b) && decide (hS b < 4611686018427387904)))) := by
      show _ = _
      rw [HR.out]
      unfold headOk
      rw [hpb, Bool.true_and]
    obtain ⟨s, hs⟩ : ∃ s, s = hS b := ⟨_, rfl⟩
    obtain ⟨f, hf⟩ : ∃ f, f = hF b := ⟨_, rfl⟩
    have HSF : Hid (s = hS b ∧ f = hF b ∧ s = Fr.Frame.val (P.take 8) ∧ f = Fr.Frame.val ((P.drop 8).take 8)) := ⟨hs, hf, by rw [hs, hP]; rfl, by rw [hf, hP]; rfl⟩
    rw [← hs, ← hf] at HRR
    rw [← hP] at R2
    clear hs hf hP hpb
    go_upto_region 4 with fail
    refine wp_region_lit ?_
    refine wpList_alloc' (headCells 0 0) zero101 rfl rfl ?_
    intro w3 r3 s3 b3
    obtain ⟨g, hg⟩ : ∃ g, g = w2.heap.size := ⟨_, rfl⟩
    rw [← hg] at r3 s3 b3 ⊢
    refine wpList_nil ?_
    simp only [Act.put, aS, aC, aZ]
    have hqg : q < g := by rw [hg]; exact R2r.out.lt
    have HS3 : Hid (SliceIn w3 vp P) := BOwn.slice (R2.out.1.later (by rw [← hg]; exact b3)) HPL.out.2.2 (by rw [HPL.out.1]; decide)
    have R3 : Hid (Row w3 g 63 (headCells 0 0) ∧ Row w3 q 63 (headCells 0 0) ∧ Below q w w3) := ⟨r3, R2r.out.later (by rw [← hg]; exact b3) R2r.out.lt, B2.out.trans (b3.mono (by omega))⟩
    clear r3 s3 b3 hg R2 R2r B2
    go_upto_region 5 with fail
    refine wp_region_lit ?_
    refine wl_mv (.tmp 4) rfl rfl vp rfl ?_
    simp only [Act.put, aS, aC, aZ]
    refine wpList_callF en78 [.tmp 16, .const (.int .i64 8)] _ rfl rfl [vp, .int .i64 ((8 : Nat) : Int)] rfl ?_
    refine (Fr.take_yes vp P 8 w3 HS3.out (by decide) (by decide) (by rw [HPL.out.1]; decide) (by rw [HPL.out.1]; decide)).mono ?_
    rintro e w4 ⟨v4, rfl, o4, b4⟩
    refine ⟨_, rfl, ?_⟩
    rw [← HSF.out.2.2.1]
    have R4 : Hid (SliceIn w4 v4 (P.drop 8) ∧ ∀ b', v4.ownBlock = some b' → g ≠ b') := ⟨BOwn.slice o4 (fun c hc => HPL.out.2.2 c (List.mem_of_mem_drop hc)) (by rw [List.length_drop, HPL.out.1]; decide), fun b' hb' => by have h1 := (World.ownsRow.lt o4 b' hb').1; have h2 := R3.out.1.lt; omega⟩
    have R4r : Hid (Row w4 g 63 (headCells 0 0) ∧ Row w4 q 63 (headCells 0 0) ∧ Below q w w4) := ⟨R3.out.1.later b4 R3.out.1.lt, R3.out.2.1.later b4 R3.out.2.1.lt, R3.out.2.2.trans (b4.mono (by have := R3.out.2.1.lt; omega))⟩
    clear o4 b4 HS3
    go_upto_region 6 with (refine wl_put size99 (.tmp 21) (.tmp 18) rfl rfl rfl g 0 63 _ rfl (.int .u64 (s : Nat)) rfl ⟨rfl, rfl⟩ R4r.out.1 (by show 0 < 2; decide) ?_)
    have R5 : Hid (Row (w4.setCell ⟨g, 0, none⟩ (.int .u64 (s : Nat))) g 63 (headCells s 0) ∧ Row (w4.setCell ⟨g, 0, none⟩ (.int .u64 (s : Nat))) q 63 (headCells 0 0) ∧ Below q w (w4.setCell ⟨g, 0, none⟩ (.int .u64 (s : Nat))) ∧ SliceIn (w4.setCell ⟨g, 0, none⟩ (.int .u64 (s : Nat))) v4 (P.drop 8)) := by
      refine ⟨?_, ?_, R4r.out.2.2.setCell (by show q ≤ g; omega) _, sliceK R4.out.1 fun b' hb' _ => Below.heap_setCell w4 ⟨g, 0, none⟩ _ b' (R4.out.2 b' hb').symm⟩
      · have := row_cell' (i := 0) R4r.out.1 (.int .u64 (s : Nat))
        simpa [headCells] using this
      · unfold Row
        rw [Below.heap_setCell w4 ⟨g, 0, none⟩ _ q (by show q ≠ g; omega)]
        exact R4r.out.2.1
    generalize w4.setCell ⟨g, 0, none⟩ (.int .u64 (s : Nat)) = w5 at R5 ⊢
    clear R3 R4 R4r
    refine wp_region_lit ?_
    refine wl_mv (.tmp 4) rfl rfl v4 rfl ?_
    simp only [Act.put, aS, aC, aZ]
    refine wpList_callF en78 [.tmp 23, .const (.int .i64 8)] _ rfl rfl [v4, .int .i64 ((8 : Nat) : Int)] rfl ?_
    refine (Fr.take_yes v4 (P.drop 8) 8 w5 R5.out.2.2.2 (by decide) (by decide) (by rw [List.length_drop, HPL.out.1]; decide) (by rw [List.length_drop, HPL.out.1]; decide)).mono ?_
    rintro e w6 ⟨v6, rfl, _, b6⟩
    refine ⟨_, rfl, ?_⟩
    rw [← HSF.out.2.2.2]
    have R6 : Hid (Row w6 g 63 (headCells s 0) ∧ Row w6 q 63 (headCells 0 0) ∧ Below q w w6) := ⟨R5.out.1.later b6 R5.out.1.lt, R5.out.2.1.later b6 R5.out.2.1.lt, R5.out.2.2.1.trans (b6.mono (by have := R5.out.2.1.lt; omega))⟩
    clear b6 R5
    go_upto_region 7 with (refine wl_put size99 (.tmp 28) (.tmp 25) rfl rfl rfl g 1 63 _ rfl (.int .u64 (f : Nat)) rfl ⟨rfl, rfl⟩ R6.out.1 (by show 1 < 2; decide) ?_)
    have R7 : Hid (Row (w6.setCell ⟨g, 1, none⟩ (.int .u64 (f : Nat))) g 63 (headCells s f) ∧ Row (w6.setCell ⟨g, 1, none⟩ (.int .u64 (f : Nat))) q 63 (headCells 0 0) ∧ Below q w (w6.setCell ⟨g, 1, none⟩ (.int .u64 (f : Nat)))) := by
      refine ⟨?_, ?_, R6.out.2.2.setCell (by show q ≤ g; omega) _⟩
      · have := row_cell' (i := 1) R6.out.1 (.int .u64 (f : Nat))
        simpa [headCells] using this
      · unfold Row
        rw [Below.heap_setCell w6 ⟨g, 1, none⟩ _ q (by show q ≠ g; omega)]
        exact R6.out.2.1
    generalize w6.setCell ⟨g, 1, none⟩ (.int .u64 (f : Nat)) = w7 at R7 ⊢
    clear R6
    obtain ⟨eb, heb⟩ : ∃ eb, eb = decide (b = headSec s f) := ⟨_, rfl⟩
    obtain ⟨le, hle⟩ : ∃ le, le = decide (f ≤ s) := ⟨_, rfl⟩
    obtain ⟨lt, hlt⟩ : ∃ lt, lt = decide (s < 4611686018427387904) := ⟨_, rfl⟩
    rw [← heb, ← hle, ← hlt] at HRR
    have HLE : Hid (le = decide (f ≤ s) ∧ lt = decide (s < 4611686018427387904)) := ⟨hle, hlt⟩
    have HEQ : Hid (∀ W va, SliceIn W v b → SliceIn W va (headSec s f) → Calls Tryd.prog 71 #[v, va] W fun e w' => e = .returned (.bool eb) ∧ W = w') := fun W va h1 h2 => by rw [heb]; exact equal_any W v va b _ h1 h2
    clear hle hlt heb
    refine wp_region_held (S := fun X => Row X g 63 (headCells s f)) (by kernel_rfl) ?_
    show wpAnyH _ _ _ _ _ 19 (Array.replicate 19 false) _ _
    obtain ⟨X, hX⟩ : ∃ X : World, X = { w7 with drawn := w7.drawn + 1 } := ⟨_, rfl⟩
    rw [← hX]
    have hbX : Below w7.heap.size w7 X := by rw [hX]; exact ⟨rfl, rfl, rfl, Nat.le_refl _, fun _ _ => rfl⟩
    have RX : Hid (Row X g 63 (headCells s f) ∧ Row X q 63 (headCells 0 0) ∧ Below q w X) := ⟨R7.out.1.later hbX R7.out.1.lt, R7.out.2.1.later hbX R7.out.2.1.lt, R7.out.2.2.trans (hbX.mono (by have := R7.out.2.1.lt; omega))⟩
    have hS0 := RX.out.1
    clear hX hbX R7
    refine takeH (i := 0) (some 29) rfl rfl (by kernel_rfl) (by kernel_rfl) (by kernel_rfl) (fun _ _ _ h => h) (gLoadA agg101 rfl (.tmp 6) rfl g rfl (headCells s f) rfl (fun _ h => h)) hS0 ?_
    simp only [Act.put, aS, aC, aZ]
    refine takeH (i := 1) (some 30) rfl rfl (by kernel_rfl) (by kernel_rfl) (by kernel_rfl) (fun _ _ _ h => h) (gMove rfl (.tmp 0) rfl v rfl) hS0 ?_
    simp only [Act.put, aS, aC, aZ]
    refine takeH (i := 2) (some 31) rfl rfl (by kernel_rfl) (by kernel_rfl) (by kernel_rfl) (fun _ _ _ h => h) (gLoadA agg101 rfl (.tmp 6) rfl g rfl (headCells s f) rfl (fun _ h => h)) hS0 ?_
    simp only [Act.put, aS, aC, aZ]
    clear hS0
    refine oneH (i := 3) (by kernel_rfl) ?_
    refine opCallA (some 32) rfl rfl rfl 28 _ (run_call en44 [.tmp 31] _ rfl [.agg (headCells s f).toArray] rfl) ?_
    refine (headSector_any X s f (TabIn.later HT.out (by rw [← HQ.out]; exact RX.out.2.2))).mono ?_
    rintro e w8 ⟨v8, rfl, o8, b8⟩
    refine ⟨_, rfl, ?_⟩
    have R8 : Hid (Row w8 g 63 (headCells s f) ∧ Row w8 q 63 (headCells 0 0) ∧ Below q w w8) := ⟨RX.out.1.later b8 RX.out.1.lt, RX.out.2.1.later b8 RX.out.2.1.lt, RX.out.2.2.trans (b8.mono (by have := RX.out.2.1.lt; omega))⟩
    have HS8 : Hid (SliceIn w8 v8 (headSec s f)) := BOwn.slice o8 (wsec_lt 74 _ (by decide) fun c hc => by rcases List.mem_append.1 hc with h | h; exact Fr.Frame.be_lt _ _ c h; exact Fr.Frame.be_lt _ _ c h) (by unfold headSec; rw [wsec_length 74 _ (by rw [List.length_append, Fr.Frame.be_length, Fr.Frame.be_length]; decide)]; decide)
    have HV8 : Hid (SliceIn w8 v b) := HV.out.later (by rw [← HQ.out]; exact R8.out.2.2)
    clear o8 b8 RX
    have hS8 := R8.out.1
    refine ⟨hS8, ?_⟩
    simp only [Act.put, aS, aC, aZ]
    refine oneH (i := 4) (by kernel_rfl) ?_
    refine opCallA (some 33) rfl rfl rfl 71 _ (run_call en79 [.tmp 30, .tmp 32] _ rfl [v, v8] rfl) ?_
    refine (HEQ.out w8 v8 HV8.out HS8.out).mono ?_
    rintro e w9 ⟨rfl, rfl⟩
    refine ⟨_, rfl, ?_⟩
    refine ⟨hS8, ?_⟩
    simp only [Act.put, aS, aC, aZ]
    cases eb with
    | false =>
      refine takeH (i := 5) (some 34) rfl rfl (by kernel_rfl) (by kernel_rfl) (by kernel_rfl) (fun _ _ _ h => h) (gMove rfl (.tmp 33) rfl (.bool false) rfl) hS8 ?_
      simp only [Act.put, aS, aC, aZ]
      refine takeH (i := 6) (some 35) rfl rfl (by kernel_rfl) (by kernel_rfl) (by kernel_rfl) (fun _ _ _ h => h) (Or.inr ⟨by kernel_rfl, rfl⟩) hS8 ?_
      simp only [Act.put, aS, aC, aZ]
      refine takeH (i := 7) (some 36) rfl rfl (by kernel_rfl) (by kernel_rfl) (by kernel_rfl) (fun _ _ _ h => h) (Or.inr ⟨by kernel_rfl, rfl⟩) hS8 ?_
      simp only [Act.put, aS, aC, aZ]
      refine takeH (i := 8) (some 37) rfl rfl (by kernel_rfl) (by kernel_rfl) (by kernel_rfl) (fun _ _ _ h => h) (Or.inr ⟨by kernel_rfl, rfl⟩) hS8 ?_
      simp only [Act.put, aS, aC, aZ]
      refine takeH (i := 9) (some 38) rfl rfl (by kernel_rfl) (by kernel_rfl) (by kernel_rfl) (fun _ _ _ h => h) (Or.inr ⟨by kernel_rfl, rfl⟩) hS8 ?_
      simp only [Act.put, aS, aC, aZ]
      refine takeH (i := 10) (some 39) rfl rfl (by kernel_rfl) (by kernel_rfl) (by kernel_rfl) (fun _ _ _ h => h) (Or.inr ⟨by kernel_rfl, rfl⟩) hS8 ?_
      simp only [Act.put, aS, aC, aZ]
      refine takeH (i := 11) (some 40) rfl rfl (by kernel_rfl) (by kernel_rfl) (by kernel_rfl) (fun _ _ _ h => h) (gPick rfl (.tmp 34) (.tmp 39) (.const (.bool false)) rfl false (.bool false) rfl rfl) hS8 ?_
      simp only [Act.put, aS, aC, aZ]
      refine takeH (i := 12) (some 41) rfl rfl (by kernel_rfl) (by kernel_rfl) (by kernel_rfl) (fun _ _ _ h => h) (gMove rfl (.tmp 40) rfl (.bool false) rfl) hS8 ?_
      simp only [Act.put, aS, aC, aZ]
      refine takeH (i := 13) (some 42) rfl rfl (by kernel_rfl) (by kernel_rfl) (by kernel_rfl) (fun _ _ _ h => h) (Or.inr ⟨by kernel_rfl, rfl⟩) hS8 ?_
      simp only [Act.put, aS, aC, aZ]
      refine takeH (i := 14) (some 43) rfl rfl (by kernel_rfl) (by kernel_rfl) (by kernel_rfl) (fun _ _ _ h => h) (Or.inr ⟨by kernel_rfl, rfl⟩) hS8 ?_
      simp only [Act.put, aS, aC, aZ]
      refine takeH (i := 15) (some 44) rfl rfl (by kernel_rfl) (by kernel_rfl) (by kernel_rfl) (fun _ _ _ h => h) (Or.inr ⟨by kernel_rfl, rfl⟩) hS8 ?_
      simp only [Act.put, aS, aC, aZ]
      refine takeH (i := 16) (some 45) rfl rfl (by kernel_rfl) (by kernel_rfl) (by kernel_rfl) (fun _ _ _ h => h) (gPick rfl (.tmp 41) (.tmp 44) (.const (.bool false)) rfl false (.bool false) rfl rfl) hS8 ?_
      simp only [Act.put, aS, aC, aZ]
      refine oneH (i := 17) (by kernel_rfl) ?_
      refine opSkip rfl rfl rfl _ (run_storeA agg101 (.tmp 2) (.tmp 29) rfl q 63 rfl (headCells s f) _ rfl rfl R8.out.2.1 rfl (headCells_one s f)) ?_
      have R9 : Hid (Row (w8.setRow q (headCells s f).toArray) g 63 (headCells s f) ∧ Row (w8.setRow q (headCells s f).toArray) q 63 (headCells s f) ∧ Below q w (w8.setRow q (headCells s f).toArray)) := ⟨R8.out.1.setRow_other (by omega) _, R8.out.2.1.setRow _, below_setRow R8.out.2.2 (Nat.le_refl _) _⟩
      generalize w8.setRow q (headCells s f).toArray = w10 at R9 ⊢
      have hS9 := R9.out.1
      refine ⟨hS9, ?_⟩
      refine takeH (i := 18) (some 3) rfl rfl (by kernel_rfl) (by kernel_rfl) (by kernel_rfl) (fun _ _ _ h => h) (gAssign rfl (.tmp 45) rfl (.bool false) rfl) hS9 ?_
      simp only [Act.put, aS, aC, aZ]
      refine wpAnyH_done (by kernel_rfl) ?_ _
      go_wp2_with fail
      exact bodyPost_ret (results_cell_tmp agg101 Tryd.results50 _ _ q 63 rfl _ rfl R9.out.2.1) rfl ⟨s, f, by rw [HRR.out]; rfl, fun _ => ⟨HSF.out.1, HSF.out.2.1⟩, R9.out.2.2⟩
    | true =>
      refine takeH (i := 5) (some 34) rfl rfl (by kernel_rfl) (by kernel_rfl) (by kernel_rfl) (fun _ _ _ h => h) (gMove rfl (.tmp 33) rfl (.bool true) rfl) hS8 ?_
      simp only [Act.put, aS, aC, aZ]
      refine takeH (i := 6) (some 35) rfl rfl (by kernel_rfl) (by kernel_rfl) (by kernel_rfl) (fun _ _ _ h => h) (gField f101_1 (by kernel_rfl) (.tmp 6) rfl g 0 rfl) hS8 ?_
      simp only [Act.put, aS, aC, aZ]
      refine takeH (i := 7) (some 36) rfl rfl (by kernel_rfl) (by kernel_rfl) (by kernel_rfl) (fun _ _ _ h => h) (gLoad o99 (by kernel_rfl) (.tmp 35) rfl g (0 + 1) rfl (.int .u64 (f : Nat)) (fun _ h => h.at 1 _ rfl)) hS8 ?_
      simp only [Act.put, aS, aC, aZ]
      refine takeH (i := 8) (some 37) rfl rfl (by kernel_rfl) (by kernel_rfl) (by kernel_rfl) (fun _ _ _ h => h) (gField f101_0 (by kernel_rfl) (.tmp 6) rfl g 0 rfl) hS8 ?_
      simp only [Act.put, aS, aC, aZ]
      refine takeH (i := 9) (some 38) rfl rfl (by kernel_rfl) (by kernel_rfl) (by kernel_rfl) (fun _ _ _ h => h) (gLoad o99 (by kernel_rfl) (.tmp 37) rfl g (0 + 0) rfl (.int .u64 (s : Nat)) (fun _ h => h.at 0 _ rfl)) hS8 ?_
      simp only [Act.put, aS, aC, aZ]
      refine takeH (i := 10) (some 39) rfl rfl (by kernel_rfl) (by kernel_rfl) (by kernel_rfl) (fun _ _ _ h => h) (gLeq64 (by kernel_rfl) (.tmp 36) (.tmp 38) rfl f s rfl rfl) hS8 ?_
      simp only [Act.put, aS, aC, aZ]
      rw [← HLE.out.1]
      cases le with
      | false =>
        refine takeH (i := 11) (some 40) rfl rfl (by kernel_rfl) (by kernel_rfl) (by kernel_rfl) (fun _ _ _ h => h) (gPick rfl (.tmp 34) (.tmp 39) (.const (.bool false)) rfl true (.bool false) rfl rfl) hS8 ?_
        simp only [Act.put, aS, aC, aZ]
        refine takeH (i := 12) (some 41) rfl rfl (by kernel_rfl) (by kernel_rfl) (by kernel_rfl) (fun _ _ _ h => h) (gMove rfl (.tmp 40) rfl (.bool false) rfl) hS8 ?_
        simp only [Act.put, aS, aC, aZ]
        refine takeH (i := 13) (some 42) rfl rfl (by kernel_rfl) (by kernel_rfl) (by kernel_rfl) (fun _ _ _ h => h) (Or.inr ⟨by kernel_rfl, rfl⟩) hS8 ?_
        simp only [Act.put, aS, aC, aZ]
        refine takeH (i := 14) (some 43) rfl rfl (by kernel_rfl) (by kernel_rfl) (by kernel_rfl) (fun _ _ _ h => h) (Or.inr ⟨by kernel_rfl, rfl⟩) hS8 ?_
        simp only [Act.put, aS, aC, aZ]
        refine takeH (i := 15) (some 44) rfl rfl (by kernel_rfl) (by kernel_rfl) (by kernel_rfl) (fun _ _ _ h => h) (Or.inr ⟨by kernel_rfl, rfl⟩) hS8 ?_
        simp only [Act.put, aS, aC, aZ]
        refine takeH (i := 16) (some 45) rfl rfl (by kernel_rfl) (by kernel_rfl) (by kernel_rfl) (fun _ _ _ h => h) (gPick rfl (.tmp 41) (.tmp 44) (.const (.bool false)) rfl false (.bool false) rfl rfl) hS8 ?_
        simp only [Act.put, aS, aC, aZ]
        refine oneH (i := 17) (by kernel_rfl) ?_
        refine opSkip rfl rfl rfl _ (run_storeA agg101 (.tmp 2) (.tmp 29) rfl q 63 rfl (headCells s f) _ rfl rfl R8.out.2.1 rfl (headCells_one s f)) ?_
        have R9 : Hid (Row (w8.setRow q (headCells s f).toArray) g 63 (headCells s f) ∧ Row (w8.setRow q (headCells s f).toArray) q 63 (headCells s f) ∧ Below q w (w8.setRow q (headCells s f).toArray)) := ⟨R8.out.1.setRow_other (by omega) _, R8.out.2.1.setRow _, below_setRow R8.out.2.2 (Nat.le_refl _) _⟩
        generalize w8.setRow q (headCells s f).toArray = w10 at R9 ⊢
        have hS9 := R9.out.1
        refine ⟨hS9, ?_⟩
        refine takeH (i := 18) (some 3) rfl rfl (by kernel_rfl) (by kernel_rfl) (by kernel_rfl) (fun _ _ _ h => h) (gAssign rfl (.tmp 45) rfl (.bool false) rfl) hS9 ?_
        simp only [Act.put, aS, aC, aZ]
        refine wpAnyH_done (by kernel_rfl) ?_ _
        go_wp2_with fail
        exact bodyPost_ret (results_cell_tmp agg101 Tryd.results50 _ _ q 63 rfl _ rfl R9.out.2.1) rfl ⟨s, f, by rw [HRR.out]; rfl, fun _ => ⟨HSF.out.1, HSF.out.2.1⟩, R9.out.2.2⟩
      | true =>
        refine takeH (i := 11) (some 40) rfl rfl (by kernel_rfl) (by kernel_rfl) (by kernel_rfl) (fun _ _ _ h => h) (gPick rfl (.tmp 34) (.tmp 39) (.const (.bool false)) rfl true (.bool true) rfl rfl) hS8 ?_
        simp only [Act.put, aS, aC, aZ]
        refine takeH (i := 12) (some 41) rfl rfl (by kernel_rfl) (by kernel_rfl) (by kernel_rfl) (fun _ _ _ h => h) (gMove rfl (.tmp 40) rfl (.bool true) rfl) hS8 ?_
        simp only [Act.put, aS, aC, aZ]
        refine takeH (i := 13) (some 42) rfl rfl (by kernel_rfl) (by kernel_rfl) (by kernel_rfl) (fun _ _ _ h => h) (gField f101_0 (by kernel_rfl) (.tmp 6) rfl g 0 rfl) hS8 ?_
        simp only [Act.put, aS, aC, aZ]
        refine takeH (i := 14) (some 43) rfl rfl (by kernel_rfl) (by kernel_rfl) (by kernel_rfl) (fun _ _ _ h => h) (gLoad o99 (by kernel_rfl) (.tmp 42) rfl g (0 + 0) rfl (.int .u64 (s : Nat)) (fun _ h => h.at 0 _ rfl)) hS8 ?_
        simp only [Act.put, aS, aC, aZ]
        refine takeH (i := 15) (some 44) rfl rfl (by kernel_rfl) (by kernel_rfl) (by kernel_rfl) (fun _ _ _ h => h) (gLss64 (by kernel_rfl) (.tmp 43) 4611686018427387904 rfl s rfl) hS8 ?_
        simp only [Act.put, aS, aC, aZ]
        rw [← HLE.out.2]
        refine takeH (i := 16) (some 45) rfl rfl (by kernel_rfl) (by kernel_rfl) (by kernel_rfl) (fun _ _ _ h => h) (gPick rfl (.tmp 41) (.tmp 44) (.const (.bool false)) rfl true (.bool lt) rfl rfl) hS8 ?_
        simp only [Act.put, aS, aC, aZ]
        refine oneH (i := 17) (by kernel_rfl) ?_
        refine opSkip rfl rfl rfl _ (run_storeA agg101 (.tmp 2) (.tmp 29) rfl q 63 rfl (headCells s f) _ rfl rfl R8.out.2.1 rfl (headCells_one s f)) ?_
        have R9 : Hid (Row (w8.setRow q (headCells s f).toArray) g 63 (headCells s f) ∧ Row (w8.setRow q (headCells s f).toArray) q 63 (headCells s f) ∧ Below q w (w8.setRow q (headCells s f).toArray)) := ⟨R8.out.1.setRow_other (by omega) _, R8.out.2.1.setRow _, below_setRow R8.out.2.2 (Nat.le_refl _) _⟩
        generalize w8.setRow q (headCells s f).toArray = w10 at R9 ⊢
        have hS9 := R9.out.1
        refine ⟨hS9, ?_⟩
        refine takeH (i := 18) (some 3) rfl rfl (by kernel_rfl) (by kernel_rfl) (by kernel_rfl) (fun _ _ _ h => h) (gAssign rfl (.tmp 45) rfl (.bool lt) rfl) hS9 ?_
        simp only [Act.put, aS, aC, aZ]
        refine wpAnyH_done (by kernel_rfl) ?_ _
        go_wp2_with fail
        exact bodyPost_ret (results_cell_tmp agg101 Tryd.results50 _ _ q 63 rfl _ rfl R9.out.2.1) rfl ⟨s, f, by rw [HRR.out]; rfl, fun _ => ⟨HSF.out.1, HSF.out.2.1⟩, R9.out.2.2⟩
end Go.Proofs.YtebalanfagglnaaDoor

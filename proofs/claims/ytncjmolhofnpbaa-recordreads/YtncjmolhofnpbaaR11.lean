/- A reading as a whole: what gives up is caught. -/
import Derived.Test.YtncjmolhofnpbaaR10
import Derived.Defers
import Derived.Recover
namespace Go.Proofs.Ytncjmolhofnpbaa
open Go.RowKit

section
variable {w : World} {ops : Array Oper} {rest : List Oper} {o : Oper} {a : Act} {Q : Exit → Act → World → Prop}
theorem run_callV {f : Nat} (ef : EntersF f) (x : Tmp) (cap : List Value) (xs : List Operand) (ts : Array TypeId) (ho : o.op = .call { callee := .value (.tmp x), args := xs.toArray, argTypes := ts }) (hx : a.eval (.tmp x) = .func (.func f) #[] cap.toArray) (vs : List Value) (hv : xs.map a.eval = vs) : (execOp a.eval o).run Try.prog w = .ok (.enter f (vs ++ cap).toArray) w := by
  subst hv
  have hen := ef (xs.map a.eval ++ cap).toArray w
  simp [execOp, ho, resolve, hx, Deferred.ofValue, invoke, hen]
theorem wpList_callVP {f : Nat} (ef : EntersF f) (x : Tmp) (cap : List Value) (xs : List Operand) (ts : Array TypeId) (hgd : Region.wanted o (yielded ops a.tmps) = true) (ho : o.op = .call { callee := .value (.tmp x), args := xs.toArray, argTypes := ts }) (hx : a.eval (.tmp x) = .func (.func f) #[] cap.toArray) (vs : List Value) (hv : xs.map a.eval = vs)
    (h : Calls Try.prog f (vs ++ cap).toArray w fun e w' => (∃ v, e = .returned v ∧ wpList Try.prog ops Q rest (a.put o.dst v) w') ∨ (∃ ch, e = .panicked ch ∧ Q (.panic ch) a w')) : wpList Try.prog ops Q (o :: rest) a w :=
  BigFrame.wpList_want hgd fun K hK => by
    unfold Oper.wp
    rw [run_callV ef x cap xs ts ho hx vs hv]
    refine h.mono fun e w' he => ?_
    rcases he with ⟨v, rfl, hw⟩ | ⟨ch, rfl, hq⟩
    · exact hK _ _ hw
    · exact hq
end
theorem neq_gave (w : World) : (binOp .neq 20 (.iface 71 (.agg #[])) .nilIface).run Try.prog w = .ok (.bool true) w := by kernel_rfl
theorem neq_none (w : World) : (binOp .neq 20 .nilIface .nilIface).run Try.prog w = .ok (.bool false) w := by kernel_rfl
/-- what is deferred: the reading gave up -/
theorem catch_panicking (q : Nat) (x : Bool) (w : World) (hr : Row w q 4 [.bool x]) :
    CallsD Try.prog 38 #[ptr q] (.panicking GU) w fun e u' w' => e = .returned (.tuple #[]) ∧ u' = .panicking [{ v := .iface 71 (.agg #[]), recovered := true }] ∧ w' = w.setCell ⟨q, 0, none⟩ (.bool false) := by
  have hc : w.cell? ⟨q, 0, none⟩ = some (.bool x) := hr.at 0 _ rfl
  have hz : w.frozen? ⟨q, 0, none⟩ = false := hr.frozen 0
  have hn := neq_gave
  unfold GU
  refine callsD_of_wpS Try.func38 rfl fun c₀ cs hu => ?_
  apply wpS_seq
  apply wpS_region
  simp [wpOpsS, go_sem, recoverD, hu, Try.ntmps38, Exit.thenS, hn, ptr]
  refine wpS_cond (t := true) (by simp [Act.eval, Array.replicate]) ?_
  simp only [if_true]
  apply wpS_region
  simp [wpOpsS, go_sem, hc, hz, bodyPostS, results, Try.results38]
theorem catch_idle (q : Nat) (w : World) :
    CallsD Try.prog 38 #[ptr q] .returning w fun e u' w' => e = .returned (.tuple #[]) ∧ u' = .returning ∧ w' = w := by
  have hn := neq_none
  refine callsD_of_wpS Try.func38 rfl fun c₀ cs hu => ?_
  apply wpS_seq
  apply wpS_region
  simp [wpOpsS, go_sem, recoverD, hu, Try.ntmps38, Exit.thenS, hn, ptr]
  refine wpS_cond (t := false) (by simp [Act.eval, Array.replicate]) ?_
  simp only [Bool.false_eq_true, if_false]
  refine wpS_of_wp (wp_skip ?_)
  cases c₀
  simp_all [bodyPostS, results, Try.results38]
/-- a reader that has so many bytes left -/
def LenAt (w : World) (g n : Nat) : Prop := ∃ p c, Row w g 62 [.slice p n c]
theorem RdAt.len {w : World} {g : Nat} {l : List Nat} (h : RdAt w g l) : LenAt w g l.length := by
  obtain ⟨v, h1, ⟨p, c, rfl, _⟩, _⟩ := h
  exact ⟨p, c, h1⟩
theorem LenAt.ch {w w' : World} {g q n : Nat} (h : LenAt w g n) (hc : Ch (· = q) w w') (hne : g ≠ q) : LenAt w' g n := by
  obtain ⟨p, c, h1⟩ := h
  exact ⟨p, c, hc.row hne h1⟩
/-- how a reading ends: none: it gave up -/
def doneB : Option (List Nat) → Bool
  | none => false
  | some l => decide (l.length = 0)
set_option maxHeartbeats 1000000 in
theorem readsAll_any (k : Nat) (ek : EntersF k) (caps : List Value) (v : Value) (b : List Nat) (w : World) (hin : SliceIn w v b) (R : Option (List Nat) → World → Prop)
    (hR : ∀ (o : Option (List Nat)) (W W' : World) (q : Nat) (cs : List Value), R o W → Row W q 4 cs → w.heap.size ≤ q → Ch (· = q) W W' → R o W')
    (HC : ∀ (W : World) (g : Nat), Below w.heap.size w W → w.heap.size ≤ g → RdAt W g b → Calls Try.prog k (ptr g :: caps).toArray W fun e W' => (∀ i, w.heap.size ≤ i → i < g → W'.heap[i]? = W.heap[i]?) ∧ ((e = .panicked GU ∧ R none W') ∨ (∃ l', e = .returned (.tuple #[]) ∧ LenAt W' g l'.length ∧ R (some l') W'))) :
    Calls Try.prog 27 #[v, .func (.func k) #[] caps.toArray] w fun e w' => ∃ o, R o w' ∧ e = .returned (.bool (doneB o)) := by
  obtain ⟨p, n, cap, rfl⟩ := hin.isSlice
  have HI : Hid (SliceIn w (.slice p n cap) b) := hin
  have HHR := hR
  have HR : Hid (∀ (o : Option (List Nat)) (W W' : World) (q : Nat) (cs : List Value), R o W → Row W q 4 cs → w.heap.size ≤ q → Ch (· = q) W W' → R o W') := hR
  have HCC : Hid (∀ (W : World) (g : Nat), Below w.heap.size w W → w.heap.size ≤ g → RdAt W g b → Calls Try.prog k (ptr g :: caps).toArray W fun e W' => (∀ i, w.heap.size ≤ i → i < g → W'.heap[i]? = W.heap[i]?) ∧ ((e = .panicked GU ∧ R none W') ∨ (∃ l', e = .returned (.tuple #[]) ∧ LenAt W' g l'.length ∧ R (some l') W'))) := HC
  clear hin hR HC HHR
  have hmf : ∀ (fn : Fn) (first cap : Array Value) (w : World), (Instr.makeFunc fn first cap).run Try.prog w = .ok (.func fn first cap) w := fun _ _ _ _ => rfl
  obtain ⟨PQ, HPQ⟩ : ∃ PQ : Ending → World → Prop, Hid (PQ = fun e w' => ∃ o, R o w' ∧ e = .returned (.bool (doneB o))) := ⟨_, rfl⟩
  rw [← HPQ.out]
  go_enter_defers Try.func27, Try.ntmps27
  go_upto_region 3 with fail
  obtain ⟨w2, hw2⟩ : ∃ W, W = (w.alloc (Obj.cells #[Value.bool false] 4)).alloc (Obj.cells #[Value.slice p n cap] 62) := ⟨_, rfl⟩
  have H2 : Hid (Below w.heap.size w w2 ∧ Row w2 w.heap.size 4 [.bool false] ∧ RdAt w2 (w.heap.size + 1) b) := (by
    have b1 := below_alloc w (Obj.cells #[Value.bool false] 4)
    have r1 := Row.new w 4 [.bool false]
    have hs1 : (w.alloc (Obj.cells #[Value.bool false] 4)).heap.size = w.heap.size + 1 := by simp
    have b2 := below_alloc (w.alloc (Obj.cells #[Value.bool false] 4)) (Obj.cells #[Value.slice p n cap] 62)
    have r2 := Row.new (w.alloc (Obj.cells #[Value.bool false] 4)) 62 [.slice p n cap]
    rw [hs1] at b2 r2
    have hb : Below w.heap.size w w2 := hw2 ▸ b1.trans (b2.mono (by omega))
    refine ⟨hb, hw2 ▸ Row.later r1 b2 (by omega), ⟨_, hw2 ▸ r2, HI.out.later hb, fun hne bk e => ?_⟩⟩
    obtain ⟨p', c', e', _, h'⟩ := HI.out
    injection e' with e1 e2 e3
    rcases h' with h' | ⟨bb, off, hp, hc, _⟩
    · exact absurd h' hne
    · rw [e1, hp] at e
      have e4 : bb = bk := Option.some.inj e
      subst e4
      have : bb < w.heap.size := block_lt_of_cell (hc 0 (by cases b with | nil => exact absurd rfl hne | cons x xs => simp))
      omega)
  rw [← hw2]
  obtain ⟨q, hq⟩ : ∃ q, q = w.heap.size := ⟨_, rfl⟩
  obtain ⟨g, hg⟩ : ∃ g, g = w.heap.size + 1 := ⟨_, rfl⟩
  have HQ : Hid (q = w.heap.size ∧ g = w.heap.size + 1) := ⟨hq, hg⟩
  have H2 : Hid (Below w.heap.size w w2 ∧ Row w2 q 4 [.bool false] ∧ RdAt w2 g b) := (by rw [hq, hg]; exact H2.out)
  rw [← hg, ← hq]
  clear hw2 hq hg HI
  change Code.wp _ _ _ ⟨#[Value.slice p n cap, Value.func (Fn.func k) #[] caps.toArray, undef, undef, ptr q, ptr g, Value.func (Fn.func 38) #[] #[ptr q], Value.slice p n cap, Value.agg #[Value.slice p n cap], ptr g, undef, undef, undef, undef, undef, undef, undef, undef, undef], [{ target := Target.fn (Fn.func 38) #[ptr q], args := #[] }]⟩ w2
  refine wp_region_lit ?_
  refine wl rfl (.func (.func k) #[] caps.toArray) _ (run_mvZ (.tmp 1) rfl (.func (.func k) #[] caps.toArray) rfl) ?_
  simp only [Act.put, List.setIfInBounds_toArray, List.set_cons_succ, List.set_cons_zero]
  refine wl rfl (ptr g) _ (run_mvZ (.tmp 5) rfl (ptr g) rfl) ?_
  simp only [Act.put, List.setIfInBounds_toArray, List.set_cons_succ, List.set_cons_zero]
  refine wpList_callVP ek 10 caps [.tmp 11] _ rfl rfl rfl [ptr g] rfl ?_
  refine (HCC.out w2 g H2.out.1 (by have := HQ.out.2; omega) H2.out.2.2).mono ?_
  rintro e w3 ⟨hk, ⟨rfl, hr3⟩ | ⟨l3, rfl, r3, hr3⟩⟩
  · refine Or.inr ⟨_, rfl, ?_⟩
    have hrow : Row w3 q 4 [.bool false] := (by have := hk q (by have := HQ.out.1; omega) (by have := HQ.out; omega); unfold Row; rw [this]; exact H2.out.2.1)
    refine leaves_cons (f := 38) (args := #[ptr q]) (by simp) (by simp [go_sem]) ?_
    refine (catch_panicking q false w3 hrow).mono ?_
    rintro e u' w'' ⟨rfl, rfl, rfl⟩
    have hrow2 : (w3.setCell ⟨q, 0, none⟩ (.bool false)).cell? ⟨q, 0, none⟩ = some (.bool false) := (row_cell' (i := 0) hrow (.bool false)).at 0 _ rfl
    have hfin : PQ (.returned (.bool false)) (w3.setCell ⟨q, 0, none⟩ (.bool false)) := (by
      rw [HPQ.out]
      exact ⟨none, HR.out none w3 _ q _ hr3 hrow (by have := HQ.out.1; omega) ((Ch.refl (· = q) w3).setCell (g := q) (Or.inl rfl) 0 (.bool false)), rfl⟩)
    simp [Leaves, settle, results, Try.results27, go_sem, ptr]
    rw [hrow2]
    exact ⟨_, rfl, hfin⟩
  refine Or.inl ⟨_, rfl, ?_⟩
  have H3 : Hid (Row w3 q 4 [.bool false] ∧ LenAt w3 g l3.length ∧ R (some l3) w3) := (by
    have := hk q (by have := HQ.out.1; omega) (by have := HQ.out; omega)
    exact ⟨by unfold Row; rw [this]; exact H2.out.2.1, r3, hr3⟩)
  clear hk r3 hr3 H2
  simp only [Act.put, List.setIfInBounds_toArray, List.set_cons_succ, List.set_cons_zero]
  refine wpList_nil ?_
  obtain ⟨p3, c3, row3⟩ := H3.out.2.1
  obtain ⟨v3, hv3⟩ : ∃ v3, v3 = Value.slice p3 l3.length c3 := ⟨_, rfl⟩
  have H4 : Hid (Row w3 g 62 [v3] ∧ v3 = .slice p3 l3.length c3) := ⟨hv3 ▸ row3, hv3⟩
  clear row3 hv3
  go_upto_region 4 with fail
  refine wp_region_lit ?_
  refine wl rfl (ptr g) _ (run_mvZ (.tmp 5) rfl (ptr g) rfl) ?_
  simp only [Act.put, List.setIfInBounds_toArray, List.set_cons_succ, List.set_cons_zero]
  refine wl rfl (ptr g) _ (run_nil (.tmp 13) rfl ⟨g, 0, none⟩ rfl) ?_
  simp only [Act.put, List.setIfInBounds_toArray, List.set_cons_succ, List.set_cons_zero]
  refine wl rfl (.pointer (some ⟨g, 0 + 0, none⟩)) _ (run_fieldOp' f62_0 (.tmp 14) rfl g (0) rfl) ?_
  simp only [Act.put, List.setIfInBounds_toArray, List.set_cons_succ, List.set_cons_zero]
  refine wl rfl v3 _ (run_load1 o28 (.tmp 15) rfl g (0 + 0) rfl v3 (H4.out.1.at 0 v3 rfl)) ?_
  simp only [Act.put, List.setIfInBounds_toArray, List.set_cons_succ, List.set_cons_zero]
  refine wl rfl (.int .i64 (l3.length : Nat)) _ (run_lenZ sl28 (.tmp 16) rfl p3 l3.length c3 H4.out.2) ?_
  simp only [Act.put, List.setIfInBounds_toArray, List.set_cons_succ, List.set_cons_zero]
  refine wl rfl (.bool (decide (l3.length = 0))) _ (run_eqZ (.tmp 17) (.const (.int .i64 0)) rfl (l3.length : Nat) 0 rfl rfl _ (by rw [Bool.eq_iff_iff]; simp)) ?_
  simp only [Act.put, List.setIfInBounds_toArray, List.set_cons_succ, List.set_cons_zero]
  refine wl_put (t := 4) (by kernel_rfl) (.tmp 4) (.tmp 18) rfl rfl rfl q 0 4 [.bool false] rfl (.bool (decide (l3.length = 0))) rfl ⟨rfl, rfl⟩ H3.out.1 (by simp) ?_
  have hrow := row_cell' (i := 0) H3.out.1 (.bool (decide (l3.length = 0)))
  obtain ⟨w4, hw4⟩ : ∃ W, W = w3.setCell ⟨q, 0, none⟩ (.bool (decide (l3.length = 0))) := ⟨_, rfl⟩
  have H5 : Hid (Row w4 q 4 [.bool (decide (l3.length = 0))] ∧ R (some l3) w4) := (by
    rw [← hw4] at hrow
    exact ⟨hrow, HR.out (some l3) w3 _ q _ H3.out.2.2 H3.out.1 (by have := HQ.out.1; omega) (hw4 ▸ (Ch.refl (· = q) w3).setCell (g := q) (Or.inl rfl) 0 (.bool (decide (l3.length = 0))))⟩)
  rw [← hw4]
  clear hw4 hrow H3 H4
  refine wpList_nil ?_
  go_wp2_with fail
  refine leaves_cons (f := 38) (args := #[ptr q]) (by simp) (by simp [go_sem]) ?_
  refine (catch_idle q w4).mono ?_
  rintro e u' w'' ⟨rfl, rfl, rfl⟩
  have hc4 : w''.cell? ⟨q, 0, none⟩ = some (.bool (decide (l3.length = 0))) := H5.out.1.at 0 _ rfl
  have hfin : PQ (.returned (.bool (decide (l3.length = 0)))) w'' := (by rw [HPQ.out]; exact ⟨some l3, H5.out.2, rfl⟩)
  simp [Leaves, settle, results, Try.results27, go_sem, ptr]
  rw [hc4]
  exact ⟨_, rfl, hfin⟩
/-- what Decode's reading leaves behind -/
def DR (w : World) (qc : Nat) (b : List Nat) : Option (List Nat) → World → Prop
  | none, W => rdR b = none ∧ Ch (· = qc) w W
  | some l', W => Ch (· = qc) w W ∧ ∃ r vc, rdR b = some (r, l') ∧ Row W qc 26 (rcells r vc) ∧ POwn W w.heap.size vc r.cp ∧ Fine r ∧ r.cp.length ≤ 255
theorem DR.keep {w : World} {qc : Nat} {b : List Nat} (hq : qc < w.heap.size) (o : Option (List Nat)) (W W' : World) (q : Nat) (cs : List Value) (h : DR w qc b o W) (hr : Row W q 4 cs) (hqq : w.heap.size ≤ q) (hc : Ch (· = q) W W') : DR w qc b o W' := by
  cases o with
  | none => exact ⟨h.1, h.2.trans' hc fun i hi e => absurd e (by omega)⟩
  | some l' =>
    obtain ⟨h0, r, vc, h1, h2, h3, h4⟩ := h
    exact ⟨h0.trans' hc fun i hi e => absurd e (by omega), r, vc, h1, hc.row (by omega) h2, h3.keep fun b hb _ hlt => hc.one b hlt fun e => h3.ne hr (by decide) (e ▸ hb), h4⟩
set_option maxHeartbeats 1000000 in
theorem decode1_any (w : World) (qc : Nat) (b : List Nat) (hqc : Row w qc 26 (rcells rz (.slice none 0 0))) (W : World) (g : Nat) (hb : Below w.heap.size w W) (hg : w.heap.size ≤ g) (hr : RdAt W g b) :
    Calls Try.prog 28 (ptr g :: [ptr qc]).toArray W fun e W' => (∀ i, w.heap.size ≤ i → i < g → W'.heap[i]? = W.heap[i]?) ∧ ((e = .panicked GU ∧ DR w qc b none W') ∨ (∃ l', e = .returned (.tuple #[]) ∧ LenAt W' g l'.length ∧ DR w qc b (some l') W')) := by
  have HH : Hid (Row w qc 26 (rcells rz (.slice none 0 0)) ∧ Below w.heap.size w W ∧ w.heap.size ≤ g ∧ RdAt W g b) := ⟨hqc, hb, hg, hr⟩
  have hqlt : qc < w.heap.size := hqc.lt
  clear hqc hb hr
  obtain ⟨PQ, HPQ⟩ : ∃ PQ : Ending → World → Prop, Hid (PQ = fun e W' => (∀ i, w.heap.size ≤ i → i < g → W'.heap[i]? = W.heap[i]?) ∧ ((e = .panicked GU ∧ DR w qc b none W') ∨ (∃ l', e = .returned (.tuple #[]) ∧ LenAt W' g l'.length ∧ DR w qc b (some l') W'))) := ⟨_, rfl⟩
  rw [← HPQ.out]
  go_enter Try.func28, Try.ntmps28
  go_upto_region 0 with fail
  refine wp_region_lit ?_
  refine wl rfl (ptr g) _ (run_mvZ (.tmp 0) rfl (ptr g) rfl) ?_
  simp only [Act.put, List.setIfInBounds_toArray, List.set_cons_succ, List.set_cons_zero]
  refine wpList_callP eN29 [.tmp 3] _ rfl rfl [(ptr g)] rfl ?_
  refine (record_any g b W HH.out.2.2.2).mono ?_
  rintro e w1 ⟨hb1, ⟨hno, rfl⟩ | ⟨r, l', vc, hso, rfl, r1, f1, o1, c1⟩⟩
  · refine Or.inr ⟨_, rfl, ?_⟩
    refine ⟨rfl, ?_⟩
    rw [HPQ.out]
    exact ⟨fun i h1 h2 => hb1.block i h2, Or.inl ⟨rfl, hno, ⟨hb1.os.trans HH.out.2.1.os, hb1.tape.trans HH.out.2.1.tape, hb1.output.trans HH.out.2.1.output, Nat.le_trans HH.out.2.1.size hb1.size, fun i hi _ => (hb1.block i (by omega)).trans (HH.out.2.1.block i hi)⟩⟩⟩
  refine Or.inl ⟨_, rfl, ?_⟩
  have H1 : Hid (Below g W w1 ∧ rdR b = some (r, l') ∧ RdAt w1 g l' ∧ POwn w1 W.heap.size vc r.cp ∧ Fine r ∧ r.cp.length ≤ 255) := ⟨hb1, hso, r1, o1, f1, c1⟩
  clear hb1 hso r1 f1 o1 c1
  simp only [Act.put, List.setIfInBounds_toArray, List.set_cons_succ, List.set_cons_zero]
  have hl39 := rcells_length vc H1.out.2.2.2.2.1.1
  have hfit : Fits w1 r vc := ⟨H1.out.2.2.2.2.1.1, H1.out.2.2.2.2.1.2.1, H1.out.2.2.2.2.1.2.2, H1.out.2.2.2.1.isIn (by have := H1.out.2.2.2.2.2; omega)⟩
  have hrow : Row w1 qc 26 (rcells rz (.slice none 0 0)) := H1.out.1.block qc (by omega) |>.trans (HH.out.2.1.block qc hqlt |>.trans HH.out.1)
  have hst := run_storeVar ag26 w1 qc 0 26 (rcells rz (.slice none 0 0)) (rcells r vc) hl39 hrow (by rw [hl39, rcells_length _ rz_fine.1]; decide) (rcells_one hfit)
  rw [splice_all _ _ (by rw [hl39, rcells_length _ rz_fine.1])] at hst
  refine wlS rfl rfl _ (run_stV (.tmp 1) (.tmp 4) rfl qc 0 rfl _ rfl hst) ?_
  obtain ⟨w2, hw⟩ : ∃ W, W = w1.setRow qc (rcells r vc).toArray := ⟨_, rfl⟩
  have H2 : Hid ((∀ i, w.heap.size ≤ i → i < g → w2.heap[i]? = W.heap[i]?) ∧ LenAt w2 g l'.length ∧ DR w qc b (some l') w2) := (by
    have h := H1.out
    have hc : Ch (· = qc) w1 w2 := hw ▸ (Ch.refl (· = qc) w1).setRow (g := qc) (Or.inl rfl) _
    have hw1 : Ch (· = qc) w w1 := ⟨h.1.os.trans HH.out.2.1.os, h.1.tape.trans HH.out.2.1.tape, h.1.output.trans HH.out.2.1.output, Nat.le_trans HH.out.2.1.size h.1.size, fun i hi _ => (h.1.block i (by omega)).trans (HH.out.2.1.block i hi)⟩
    exact ⟨fun i h1 h2 => ((hc.one i (by have := h.1.size; have := HH.out.2.2.2.lt; omega) (by omega)).trans (h.1.block i h2)), h.2.2.1.len.ch hc (by omega), hw1.trans hc, r, vc, h.2.1, hw ▸ hrow.setRow _, (h.2.2.2.1.weaken HH.out.2.1.size).keep (fun k hk _ hlt => hc.one k hlt (fun e => by have := (h.2.2.2.1.lt k hk).1; have := HH.out.2.1.size; omega)), h.2.2.2.2⟩)
  rw [← hw]
  clear hw hst hfit hl39 hrow H1
  refine wpList_nil ?_
  go_wp2_with fail
  first | go_end0 | skip
  rw [HPQ.out]
  exact ⟨H2.out.1, Or.inr ⟨l', rfl, H2.out.2.1, H2.out.2.2⟩⟩

end Go.Proofs.Ytncjmolhofnpbaa

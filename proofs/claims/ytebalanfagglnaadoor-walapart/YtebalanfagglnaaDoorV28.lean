/- Layer 8: what reads the log for one journal. -/
import Derived.Test.YtebalanfagglnaaDoorV27
namespace Go.Proofs.YtebalanfagglnaaDoor
open Go.RowKit Go.Maps

theorem eN66 : EntersF 52 := Go.Proofs.enters_of Tryd.func52 (by kernel_rfl) rfl
theorem size46 : (Tryd.prog.info? 41).map (·.size) = some 1 := by kernel_rfl
/-- nothing below B turned but block g -/
structure OnlyG (g B : Nat) (w w' : World) : Prop where
  os : w'.os = w.os
  tape : w'.tape = w.tape
  output : w'.output = w.output
  size : w.heap.size ≤ w'.heap.size
  block : ∀ k, k < B → k ≠ g → w'.heap[k]? = w.heap[k]?
theorem OnlyG.of {g B : Nat} {w w' : World} (h : Below B w w') : OnlyG g B w w' := ⟨h.os, h.tape, h.output, h.size, fun k hk _ => h.block k hk⟩
theorem OnlyG.trans {g B : Nat} {a b c : World} (h : OnlyG g B a b) (k : OnlyG g B b c) : OnlyG g B a c :=
  ⟨k.os.trans h.os, k.tape.trans h.tape, k.output.trans h.output, Nat.le_trans h.size k.size, fun i hi hne => (k.block i hi hne).trans (h.block i hi hne)⟩
theorem OnlyG.mono {g B C : Nat} {a b : World} (h : OnlyG g B a b) (hC : C ≤ B) : OnlyG g C a b := ⟨h.os, h.tape, h.output, h.size, fun i hi hne => h.block i (by omega) hne⟩
theorem OnlyG.below {g B C : Nat} {w w' : World} (h : OnlyG g B w w') (hC : C ≤ B) (hg : C ≤ g) : Below C w w' := ⟨h.os, h.tape, h.output, h.size, fun k hk => h.block k (by omega) (by omega)⟩
theorem OnlyG.setRow {g B : Nat} {a w : World} (h : OnlyG g B a w) (k : Nat) (hk : k = g ∨ B ≤ k) (xs : Array Value) : OnlyG g B a (w.setRow k xs) :=
  h.trans ⟨rfl, rfl, rfl, by simp [World.setRow], fun i hi hne => Go.setRow_other w k i xs (by omega)⟩
theorem OnlyG.row {g B : Nat} {w w' : World} (h : OnlyG g B w w') {k : Nat} {t : TypeId} {cs : List Value} (hk : k ≠ g) (hb : k < B) (hr : Row w k t cs) : Row w' k t cs := by
  unfold Row
  rw [h.block k hb hk]
  exact hr
/-- what one place tells: its part, and the fault -/
def rdEr (n : Nat) (b : List Nat) (a S : Nat) : Int := if partIs n b a && decide (S < pS b) then 4 else partEr n b a
def rdOk (n : Nat) (b : List Nat) (a S F : Nat) : Bool := partIs n b a && (!decide (S < pS b) && decide (F ≤ pS b))
def rdF (f : Int) (n : Nat) (b : List Nat) (a S : Nat) : Int := if rdEr n b a S = 0 then f else rdEr n b a S
theorem partEr_ok (n : Nat) (b : List Nat) (a : Nat) (h : partIs n b a = true) : partEr n b a = 0 := by
  unfold partIs at h
  unfold partEr
  simp only [Bool.and_eq_true] at h
  rw [h.1, h.2.1, h.2.2]
  rfl
theorem partEr_two (n : Nat) (b : List Nat) (a : Nat) : partEr n b a = 0 ∨ partEr n b a = 4 := by
  unfold partEr
  split
  · exact Or.inr rfl
  · exact Or.inl rfl
def RdI (W : World) (q gf gh q6 : Nat) (f' : Int) (S F s k l : Nat) (pv : Value) (b : List Nat) (ok : Bool) (X : World) : Prop :=
  Row X q6 104 (partCells s k l pv) ∧ Row X q 104 (partCells 0 0 0 (.slice none 0 0)) ∧ Row X gh 63 (headCells S F) ∧ Row X gf 41 [.int .i64 f'] ∧ OnlyG gf q W X ∧ (ok = true → SliceIn X pv (pP b))
def RdZ (W : World) (q gf gh q6 : Nat) (f' : Int) (S F s k l : Nat) (pv : Value) (b : List Nat) (ok : Bool) (X : World) : Prop :=
  Row X q6 104 (partCells s k l pv) ∧ Row X q 104 (partCells s k l pv) ∧ Row X gh 63 (headCells S F) ∧ Row X gf 41 [.int .i64 f'] ∧ OnlyG gf q W X ∧ (ok = true → SliceIn X pv (pP b))
theorem RdI.drawn {W : World} {q gf gh q6 : Nat} {f' : Int} {S F s k l : Nat} {pv : Value} {b : List Nat} {ok : Bool} {X : World} (h : RdI W q gf gh q6 f' S F s k l pv b ok X) : RdI W q gf gh q6 f' S F s k l pv b ok { X with drawn := X.drawn + 1 } := by
  have hb : Below X.heap.size X { X with drawn := X.drawn + 1 } := ⟨rfl, rfl, rfl, Nat.le_refl _, fun _ _ => rfl⟩
  exact ⟨h.1.later hb h.1.lt, h.2.1.later hb h.2.1.lt, h.2.2.1.later hb h.2.2.1.lt, h.2.2.2.1.later hb h.2.2.2.1.lt, h.2.2.2.2.1.trans (OnlyG.of (hb.mono (Nat.le_of_lt h.2.1.lt))), fun e => (h.2.2.2.2.2 e).later hb⟩
theorem RdI.done {W : World} {q gf gh q6 : Nat} {f' : Int} {S F s k l : Nat} {pv : Value} {b : List Nat} {ok : Bool} {X : World} (h : RdI W q gf gh q6 f' S F s k l pv b ok X) (h1 : q < q6) (h2 : gf < q) (h3 : gh < q) (h4 : ok = true → ∀ b', pv.ownBlock = some b' → q < b') : RdZ W q gf gh q6 f' S F s k l pv b ok (X.setRow q (partCells s k l pv).toArray) :=
  ⟨h.1.setRow_other (by omega) _, h.2.1.setRow _, h.2.2.1.setRow_other (by omega) _, h.2.2.2.1.setRow_other (by omega) _, h.2.2.2.2.1.setRow q (Or.inr (Nat.le_refl _)) _, fun e => sliceK (h.2.2.2.2.2 e) fun b' hb' _ => Go.setRow_other _ _ _ _ (by have := h4 e b' hb'; omega)⟩
theorem RdI.fault {W : World} {q gf gh q6 : Nat} {f f' : Int} {S F s k l : Nat} {pv : Value} {b : List Nat} {ok : Bool} {X : World} (h : RdI W q gf gh q6 f S F s k l pv b ok X) (h1 : gf < q) (h2 : gf ≠ gh) (h3 : q < q6) (h4 : ok = true → ∀ b', pv.ownBlock = some b' → q < b') : RdI W q gf gh q6 f' S F s k l pv b ok (X.setRow gf [.int .i64 f'].toArray) :=
  ⟨h.1.setRow_other (by omega) _, h.2.1.setRow_other (by omega) _, h.2.2.1.setRow_other (by omega) _, h.2.2.2.1.setRow _, h.2.2.2.2.1.setRow gf (Or.inl rfl) _, fun e => sliceK (h.2.2.2.2.2 e) fun b' hb' _ => Go.setRow_other _ _ _ _ (by have := h4 e b' hb'; omega)⟩
section
variable {ops : Array Oper} {a : Act} {S : World → Prop} {o : Oper}
theorem gEq46 (hw : Region.wanted o (yielded ops a.tmps) = true) (x : Operand) (ho : o.op = .binOp .eql 41 x (.const (.int .i64 0)) 41) (z : Int) (r : Bool) (hx : a.eval x = .int .i64 z) (hr : decide (z = 0) = r) : YieldsIf Tryd.prog ops S o (.bool r) a := gRun hw _ fun w _ => by
  have e : (eqGuard .eql 41 x (.const (.int .i64 0)) (.int .i64 z) (.int .i64 0)).run Tryd.prog w = .ok () w := rfl
  have h : (binOp .eql 41 (.int .i64 z) (.int .i64 0)).run Tryd.prog w = .ok (.bool r) w := by
    rw [← hr]
    simp [binOp, Op.intCmp]
    rw [Bool.eq_iff_iff]
    simp
  exact run_binOp' x (.const (.int .i64 0)) ho (.int .i64 z) (.int .i64 0) _ hx rfl e h
theorem gGeq64 (hw : Region.wanted o (yielded ops a.tmps) = true) (x y : Operand) (ho : o.op = .binOp .geq 61 x y 61) (m n : Nat) (hx : a.eval x = .int .u64 (m : Nat)) (hy : a.eval y = .int .u64 (n : Nat)) : YieldsIf Tryd.prog ops S o (.bool (decide (n ≤ m))) a := gRun hw _ fun w _ => by
  have e : (eqGuard .geq 61 x y (.int .u64 (m : Nat)) (.int .u64 (n : Nat))).run Tryd.prog w = .ok () w := rfl
  have h : (binOp .geq 61 (.int .u64 (m : Nat)) (.int .u64 (n : Nat))).run Tryd.prog w = .ok (.bool (decide (n ≤ m))) w := by
    simp [binOp, Op.intCmp]
  exact run_binOp' x y ho (.int .u64 (m : Nat)) (.int .u64 (n : Nat)) _ hx hy e h
end
/-- the boxes of the closure -/
def Boxes (W : World) (B g i S F gp gd gh gf : Nat) (f : Int) : Prop := Row W gp 24 [ptr g] ∧ Row W gd 3 [.int .i64 (i : Nat)] ∧ Row W gh 63 (headCells S F) ∧ Row W gf 41 [.int .i64 f] ∧ B ≤ gp ∧ B ≤ gd ∧ B ≤ gh ∧ B ≤ gf ∧ gf ≠ gp ∧ gf ≠ gd ∧ gf ≠ gh
set_option maxHeartbeats 4000000 in
set_option maxRecDepth 100000 in
theorem look_any {w0 W : World} {c : Nat → Colour} {t g : Nat} {m : Pl} (h : Live w0 c t g m) {ds ts : List Nat} {i : Nat} (hd : DiskOn m ds ts i) (ht : Fr.TabIn w0) (hb : Below w0.heap.size w0 W) {S F gp gd gh gf : Nat} {f : Int} (hx : Boxes W w0.heap.size g i S F gp gd gh gf f) (a : Nat) (ha : a ≤ 1000000) :
    Calls Tryd.prog 51 #[.int .i64 (a : Nat), ptr gp, ptr gd, ptr gh, ptr gf] W fun e w' => ∃ s k l pv, e = .returned (.tuple #[.agg (partCells s k l pv).toArray, .bool (rdOk (ds.getD i 0) (m.rd i (1 + a)) a S F)]) ∧ (∃ p l c, pv = .slice p l c) ∧ (rdOk (ds.getD i 0) (m.rd i (1 + a)) a S F = true → s = pS (m.rd i (1 + a)) ∧ k = pI (m.rd i (1 + a)) ∧ l = pL (m.rd i (1 + a)) ∧ SliceIn w' pv (pP (m.rd i (1 + a))) ∧ (pP (m.rd i (1 + a))).length = 44 ∧ ∀ b', pv.ownBlock = some b' → W.heap.size < b') ∧ Row w' gf 41 [.int .i64 (rdF f (ds.getD i 0) (m.rd i (1 + a)) a S)] ∧ OnlyG gf W.heap.size W w' := by
  obtain ⟨n, hn⟩ : ∃ n, n = ds.getD i 0 := ⟨_, rfl⟩
  obtain ⟨b, hbb⟩ : ∃ b, b = m.rd i (1 + a) := ⟨_, rfl⟩
  obtain ⟨q, hq⟩ : ∃ q, q = W.heap.size := ⟨_, rfl⟩
  have HQ : Hid (q = W.heap.size) := hq
  obtain ⟨ok, hok⟩ : ∃ ok, ok = partIs n b a := ⟨_, rfl⟩
  obtain ⟨er, her⟩ : ∃ er, er = partEr n b a := ⟨_, rfl⟩
  obtain ⟨rok, hrok⟩ : ∃ rok, rok = rdOk n b a S F := ⟨_, rfl⟩
  obtain ⟨rf, hrf⟩ : ∃ rf, rf = rdF f n b a S := ⟨_, rfl⟩
  have HOK : Hid (ok = partIs n b a ∧ er = partEr n b a ∧ rok = rdOk n b a S F ∧ rf = rdF f n b a S) := ⟨hok, her, hrok, hrf⟩
  have HBX : Hid (Boxes W w0.heap.size g i S F gp gd gh gf f ∧ gp < q ∧ gd < q ∧ gh < q ∧ gf < q) := ⟨hx, by rw [hq]; exact hx.1.lt, by rw [hq]; exact hx.2.1.lt, by rw [hq]; exact hx.2.2.1.lt, by rw [hq]; exact hx.2.2.2.1.lt⟩
  have HRP : Hid (∀ W1, Below q W W1 → Calls Tryd.prog 52 #[ptr g, .int .i64 (i : Nat), .int .i64 (a : Nat)] W1 fun e w' => ∃ s k l pv, e = .returned (.tuple #[.agg (partCells s k l pv).toArray, .bool ok, .int .i64 er]) ∧ (∃ p l c, pv = .slice p l c) ∧ (ok = true → s = pS b ∧ k = pI b ∧ l = pL b ∧ SliceIn w' pv (pP b) ∧ (pP b).length = 44 ∧ ∀ b', pv.ownBlock = some b' → W1.heap.size < b') ∧ Below W1.heap.size W1 w') := fun W1 h1 => by
    have h2 : Below w0.heap.size w0 W1 := hb.trans (h1.mono (by have := hb.size; omega))
    rw [hok, her, hbb, hn]
    exact readPart_any (h.below h2) hd (TabIn.later ht h2) a ha
  obtain ⟨PR, hPR⟩ : ∃ PR : World → Nat → Nat → Nat → Value → Prop, PR = fun w' s k l pv => (∃ p l c, pv = .slice p l c) ∧ (rok = true → s = pS b ∧ k = pI b ∧ l = pL b ∧ SliceIn w' pv (pP b) ∧ (pP b).length = 44 ∧ ∀ b', pv.ownBlock = some b' → W.heap.size < b') ∧ Row w' gf 41 [.int .i64 rf] := ⟨_, rfl⟩
  have HPR : Hid (PR = fun w' s k l pv => (∃ p l c, pv = .slice p l c) ∧ (rok = true → s = pS b ∧ k = pI b ∧ l = pL b ∧ SliceIn w' pv (pP b) ∧ (pP b).length = 44 ∧ ∀ b', pv.ownBlock = some b' → W.heap.size < b') ∧ Row w' gf 41 [.int .i64 rf]) := hPR
  rw [← hn, ← hbb, ← hrok, ← hrf]
  refine Calls.mono (R := fun e w' => ∃ s k l pv, e = .returned (.tuple #[.agg (partCells s k l pv).toArray, .bool rok]) ∧ PR w' s k l pv ∧ OnlyG gf q W w') ?_ (fun e w' ⟨s, k, l, pv, h1, h2, h3⟩ => ⟨s, k, l, pv, h1, by rw [hPR] at h2; exact h2.1, by rw [hPR] at h2; exact h2.2.1, by rw [hPR] at h2; exact h2.2.2, by rw [← hq]; exact h3⟩)
  clear hn hbb h hd ht hb hx hok her hrok hrf hPR hq
  go_enter Tryd.func51, Tryd.ntmps51
  go_upto_region 0 with fail
  refine wp_region_lit ?_
  refine wpList_alloc' (partCells 0 0 0 (.slice none 0 0)) zero126 rfl rfl ?_
  intro w1 r1 s1 b1
  rw [← HQ.out] at r1 s1 b1 ⊢
  refine wpList_assign (.const (.bool false)) rfl rfl (.bool false) rfl ?_
  refine wpList_nil ?_
  simp only [Act.put, aS, aC, aZ]
  have R1 : Hid (Row w1 q 104 (partCells 0 0 0 (.slice none 0 0)) ∧ Below q W w1) := ⟨r1, b1⟩
  clear r1 s1 b1
  go_upto_region 1 with fail
  refine wp_region_lit ?_
  refine wl_ld o25 (.tmp 1) rfl rfl gp 0 rfl (ptr g) ((HBX.out.1.1.later R1.out.2 HBX.out.2.1).at 0 _ rfl) ?_
  simp only [Act.put, aS, aC, aZ]
  refine wl_ld o3' (.tmp 2) rfl rfl gd 0 rfl (.int .i64 (i : Nat)) ((HBX.out.1.2.1.later R1.out.2 HBX.out.2.2.1).at 0 _ rfl) ?_
  simp only [Act.put, aS, aC, aZ]
  refine wl_mv (.tmp 0) rfl rfl (.int .i64 (a : Nat)) rfl ?_
  simp only [Act.put, aS, aC, aZ]
  refine wpList_callF eN66 [.tmp 12, .tmp 13, .tmp 14] _ rfl rfl [ptr g, .int .i64 (i : Nat), .int .i64 (a : Nat)] rfl ?_
  refine (HRP.out w1 R1.out.2).mono ?_
  rintro e w5 ⟨s, k, l, pv, rfl, hsl, hpp, b5⟩
  refine ⟨_, rfl, ?_⟩
  have R5 : Hid ((∃ p l c, pv = .slice p l c) ∧ (ok = true → s = pS b ∧ k = pI b ∧ l = pL b ∧ (pP b).length = 44 ∧ ∀ b', pv.ownBlock = some b' → q < b')) := ⟨hsl, fun h => ⟨(hpp h).1, (hpp h).2.1, (hpp h).2.2.1, (hpp h).2.2.2.2.1, fun b' hb' => by have h3 := (hpp h).2.2.2.2.2 b' hb'; have h4 := R1.out.1.lt; omega⟩⟩
  have R5w : Hid (Row w5 q 104 (partCells 0 0 0 (.slice none 0 0)) ∧ Below q W w5 ∧ (ok = true → SliceIn w5 pv (pP b))) := ⟨R1.out.1.later b5 R1.out.1.lt, R1.out.2.trans (b5.mono (by have := R1.out.1.lt; omega)), fun h => (hpp h).2.2.2.1⟩
  clear hsl hpp b5 R1 HRP
  simp only [Act.put, aS, aC, aZ]
  refine wl_mv (.tmp 15) rfl rfl _ rfl ?_
  simp only [Act.put, aS, aC, aZ]
  refine wl rfl (.agg (partCells s k l pv).toArray) w5 (by simp [execOp, Act.eval, Instr.extract]) ?_
  simp only [Act.put, aS, aC, aZ]
  refine wl rfl (.bool ok) w5 (by simp [execOp, Act.eval, Instr.extract]) ?_
  simp only [Act.put, aS, aC, aZ]
  refine wl rfl (.int .i64 er) w5 (by simp [execOp, Act.eval, Instr.extract]) ?_
  simp only [Act.put, aS, aC, aZ]
  refine wpList_alloc_store agg126 _ zero126 rfl rfl rfl rfl rfl (.tmp 16) rfl (partCells s k l pv) rfl rfl (partCells_one s k l pv R5.out.1) (fun _ => rfl) (fun _ => rfl) ?_
  intro w6 r6 s6 b6
  obtain ⟨q6, hq6⟩ : ∃ q6, q6 = w5.heap.size := ⟨_, rfl⟩
  rw [← hq6] at r6 s6 b6 ⊢
  have hq6' : q < q6 := by rw [hq6]; exact R5w.out.1.lt
  have hb6 : Below q W w6 := R5w.out.2.1.trans (b6.mono (by omega))
  have R6 : Hid (RdI W q gf gh q6 f S F s k l pv b ok w6) := ⟨r6, R5w.out.1.later b6 hq6', HBX.out.1.2.2.1.later hb6 HBX.out.2.2.2.1, HBX.out.1.2.2.2.1.later hb6 HBX.out.2.2.2.2, OnlyG.of hb6, fun h => (R5w.out.2.2 h).later (by rw [← hq6]; exact b6)⟩
  have HQL : Hid (q < q6 ∧ gf < q ∧ gh < q) := ⟨hq6', HBX.out.2.2.2.2, HBX.out.2.2.2.1⟩
  have HLG : Hid (gf < q ∧ gf ≠ gh ∧ q < q6) := ⟨HBX.out.2.2.2.2, HBX.out.1.2.2.2.2.2.2.2.2.2.2, hq6'⟩
  clear r6 s6 b6 hq6 hq6' hb6 R5w HBX
  simp only [Act.put, aS, aC, aZ]
  refine wl_as (.tmp 17) rfl rfl (.bool ok) rfl ?_
  simp only [Act.put, aS, aC, aZ]
  refine wl_as (.tmp 18) rfl rfl (.int .i64 er) rfl ?_
  simp only [Act.put, aS, aC, aZ]
  refine wpList_nil ?_
  cases ok with
  | false =>
    have hr0 : rok = false := by rw [HOK.out.2.2.1]; unfold rdOk; rw [← HOK.out.1]; rfl
    subst hr0
    have hre : rdEr n b a S = er := by rw [HOK.out.2.1]; unfold rdEr; rw [← HOK.out.1]; rfl
    rcases partEr_two n b a with h0 | h4
    · have he : er = 0 := by rw [HOK.out.2.1]; exact h0
      have HRF : Hid (rf = f) := by show _ = _; rw [HOK.out.2.2.2]; unfold rdF; rw [hre, he]; rfl
      clear h0 hre
      subst he
      go_upto_region 6 with fail
      refine wp_region_held (S := fun X => Row X q6 104 (partCells s k l pv) ∧ Row X gh 63 (headCells S F)) (by kernel_rfl) ?_
      show wpAnyH _ _ _ _ _ 15 (Array.replicate 15 false) _ _
      obtain ⟨X, hX⟩ : ∃ X : World, X = { w6 with drawn := w6.drawn + 1 } := ⟨_, rfl⟩
      rw [← hX]
      have RX : Hid (RdI W q gf gh q6 f S F s k l pv b false X) := by rw [hX]; exact R6.out.drawn
      clear hX
      have hS0 : Row X q6 104 (partCells s k l pv) ∧ Row X gh 63 (headCells S F) := ⟨RX.out.1, RX.out.2.2.1⟩
      refine takeH (i := 0) (some 30) rfl rfl (by kernel_rfl) (by kernel_rfl) (by kernel_rfl) (fun _ _ _ h => h) (gLoadA agg126 rfl (.tmp 8) rfl q6 rfl (partCells s k l pv) rfl (fun _ h => h.1)) hS0 ?_
      simp only [Act.put, aS, aC, aZ]
      refine takeH (i := 1) (some 31) rfl rfl (by kernel_rfl) (by kernel_rfl) (by kernel_rfl) (fun _ _ _ h => h) (gMove rfl (.tmp 10) rfl (.int .i64 0) rfl) hS0 ?_
      simp only [Act.put, aS, aC, aZ]
      refine takeH (i := 2) (some 32) rfl rfl (by kernel_rfl) (by kernel_rfl) (by kernel_rfl) (fun _ _ _ h => h) (gEq46 rfl (.tmp 31) rfl 0 true rfl (by decide)) hS0 ?_
      simp only [Act.put, aS, aC, aZ]
      refine takeH (i := 3) (some 33) rfl rfl (by kernel_rfl) (by kernel_rfl) (by kernel_rfl) (fun _ _ _ h => h) (gMove rfl (.tmp 32) rfl (.bool true) rfl) hS0 ?_
      simp only [Act.put, aS, aC, aZ]
      refine takeH (i := 4) (some 34) rfl rfl (by kernel_rfl) (by kernel_rfl) (by kernel_rfl) (fun _ _ _ h => h) (gMove rfl (.tmp 9) rfl (.bool false) rfl) hS0 ?_
      simp only [Act.put, aS, aC, aZ]
      refine takeH (i := 5) (some 35) rfl rfl (by kernel_rfl) (by kernel_rfl) (by kernel_rfl) (fun _ _ _ h => h) (gPick rfl (.tmp 33) (.tmp 34) (.const (.bool false)) rfl true (.bool false) rfl rfl) hS0 ?_
      simp only [Act.put, aS, aC, aZ]
      refine takeH (i := 6) (some 36) rfl rfl (by kernel_rfl) (by kernel_rfl) (by kernel_rfl) (fun _ _ _ h => h) (gMove rfl (.tmp 35) rfl (.bool false) rfl) hS0 ?_
      simp only [Act.put, aS, aC, aZ]
      refine takeH (i := 7) (some 37) rfl rfl (by kernel_rfl) (by kernel_rfl) (by kernel_rfl) (fun _ _ _ h => h) (Or.inr ⟨by kernel_rfl, rfl⟩) hS0 ?_
      simp only [Act.put, aS, aC, aZ]
      refine takeH (i := 8) (some 38) rfl rfl (by kernel_rfl) (by kernel_rfl) (by kernel_rfl) (fun _ _ _ h => h) (Or.inr ⟨by kernel_rfl, rfl⟩) hS0 ?_
      simp only [Act.put, aS, aC, aZ]
      refine takeH (i := 9) (some 39) rfl rfl (by kernel_rfl) (by kernel_rfl) (by kernel_rfl) (fun _ _ _ h => h) (Or.inr ⟨by kernel_rfl, rfl⟩) hS0 ?_
      simp only [Act.put, aS, aC, aZ]
      refine takeH (i := 10) (some 40) rfl rfl (by kernel_rfl) (by kernel_rfl) (by kernel_rfl) (fun _ _ _ h => h) (Or.inr ⟨by kernel_rfl, rfl⟩) hS0 ?_
      simp only [Act.put, aS, aC, aZ]
      refine takeH (i := 11) (some 41) rfl rfl (by kernel_rfl) (by kernel_rfl) (by kernel_rfl) (fun _ _ _ h => h) (Or.inr ⟨by kernel_rfl, rfl⟩) hS0 ?_
      simp only [Act.put, aS, aC, aZ]
      refine takeH (i := 12) (some 42) rfl rfl (by kernel_rfl) (by kernel_rfl) (by kernel_rfl) (fun _ _ _ h => h) (gPick rfl (.tmp 36) (.tmp 41) (.const (.bool false)) rfl false (.bool false) rfl rfl) hS0 ?_
      simp only [Act.put, aS, aC, aZ]
      refine oneH (i := 13) (by kernel_rfl) ?_
      refine opSkip rfl rfl rfl _ (run_storeA agg126 (.tmp 6) (.tmp 30) rfl q 104 rfl (partCells s k l pv) _ rfl rfl RX.out.2.1 rfl (partCells_one s k l pv R5.out.1)) ?_
      have R9 : Hid (RdZ W q gf gh q6 f S F s k l pv b false (X.setRow q (partCells s k l pv).toArray)) := RX.out.done HQL.out.1 HQL.out.2.1 HQL.out.2.2 (fun h => (R5.out.2 h).2.2.2.2)
      generalize X.setRow q (partCells s k l pv).toArray = w10 at R9 ⊢
      have hS9 : Row w10 q6 104 (partCells s k l pv) ∧ Row w10 gh 63 (headCells S F) := ⟨R9.out.1, R9.out.2.2.1⟩
      refine ⟨hS9, ?_⟩
      refine takeH (i := 14) (some 7) rfl rfl (by kernel_rfl) (by kernel_rfl) (by kernel_rfl) (fun _ _ _ h => h) (gAssign rfl (.tmp 42) rfl (.bool false) rfl) hS9 ?_
      simp only [Act.put, aS, aC, aZ]
      refine wpAnyH_done (by kernel_rfl) ?_ _
      clear hS9 hS0
      have HP9 : Hid (PR w10 s k l pv) := by rw [HPR.out]; exact ⟨R5.out.1, fun h => (by cases h), by rw [HRF.out]; exact R9.out.2.2.2.1⟩
      go_wp2_with fail
      exact bodyPost_ret (results_cell_tmp agg126 Tryd.results51 _ _ q 104 rfl _ rfl R9.out.2.1) rfl ⟨s, k, l, pv, rfl, HP9.out, R9.out.2.2.2.2.1⟩
    · have he : er = 4 := by rw [HOK.out.2.1]; exact h4
      have HRF : Hid (rf = 4) := by show _ = _; rw [HOK.out.2.2.2]; unfold rdF; rw [hre, he]; rfl
      clear h4 hre
      subst he
      go_upto_region 5 with fail
      refine wp_region_lit ?_
      refine wl_mv (.tmp 10) rfl rfl (.int .i64 4) rfl ?_
      simp only [Act.put, aS, aC, aZ]
      refine wpList_store1 size46 (.tmp 4) (.tmp 29) rfl rfl rfl gf 0 41 rfl (.int .i64 4) [.int .i64 f] rfl rfl rfl R6.out.2.2.2.1 (by simp) ?_
      simp only [List.set_cons_zero]
      refine wpList_nil ?_
      have R7 : Hid (RdI W q gf gh q6 4 S F s k l pv b false (w6.setRow gf [Value.int .i64 4].toArray)) := R6.out.fault HLG.out.1 HLG.out.2.1 HLG.out.2.2 (fun h => (R5.out.2 h).2.2.2.2)
      generalize w6.setRow gf [Value.int .i64 4].toArray = w7 at R7 ⊢
      go_upto_region 6 with fail
      refine wp_region_held (S := fun X => Row X q6 104 (partCells s k l pv) ∧ Row X gh 63 (headCells S F)) (by kernel_rfl) ?_
      show wpAnyH _ _ _ _ _ 15 (Array.replicate 15 false) _ _
      obtain ⟨X, hX⟩ : ∃ X : World, X = { w7 with drawn := w7.drawn + 1 } := ⟨_, rfl⟩
      rw [← hX]
      have RX : Hid (RdI W q gf gh q6 4 S F s k l pv b false X) := by rw [hX]; exact R7.out.drawn
      clear hX
      have hS0 : Row X q6 104 (partCells s k l pv) ∧ Row X gh 63 (headCells S F) := ⟨RX.out.1, RX.out.2.2.1⟩
      refine takeH (i := 0) (some 30) rfl rfl (by kernel_rfl) (by kernel_rfl) (by kernel_rfl) (fun _ _ _ h => h) (gLoadA agg126 rfl (.tmp 8) rfl q6 rfl (partCells s k l pv) rfl (fun _ h => h.1)) hS0 ?_
      simp only [Act.put, aS, aC, aZ]
      refine takeH (i := 1) (some 31) rfl rfl (by kernel_rfl) (by kernel_rfl) (by kernel_rfl) (fun _ _ _ h => h) (gMove rfl (.tmp 10) rfl (.int .i64 4) rfl) hS0 ?_
      simp only [Act.put, aS, aC, aZ]
      refine takeH (i := 2) (some 32) rfl rfl (by kernel_rfl) (by kernel_rfl) (by kernel_rfl) (fun _ _ _ h => h) (gEq46 rfl (.tmp 31) rfl 4 false rfl (by decide)) hS0 ?_
      simp only [Act.put, aS, aC, aZ]
      refine takeH (i := 3) (some 33) rfl rfl (by kernel_rfl) (by kernel_rfl) (by kernel_rfl) (fun _ _ _ h => h) (gMove rfl (.tmp 32) rfl (.bool false) rfl) hS0 ?_
      simp only [Act.put, aS, aC, aZ]
      refine takeH (i := 4) (some 34) rfl rfl (by kernel_rfl) (by kernel_rfl) (by kernel_rfl) (fun _ _ _ h => h) (Or.inr ⟨by kernel_rfl, rfl⟩) hS0 ?_
      simp only [Act.put, aS, aC, aZ]
      refine takeH (i := 5) (some 35) rfl rfl (by kernel_rfl) (by kernel_rfl) (by kernel_rfl) (fun _ _ _ h => h) (gPick rfl (.tmp 33) (.tmp 34) (.const (.bool false)) rfl false (.bool false) rfl rfl) hS0 ?_
      simp only [Act.put, aS, aC, aZ]
      refine takeH (i := 6) (some 36) rfl rfl (by kernel_rfl) (by kernel_rfl) (by kernel_rfl) (fun _ _ _ h => h) (gMove rfl (.tmp 35) rfl (.bool false) rfl) hS0 ?_
      simp only [Act.put, aS, aC, aZ]
      refine takeH (i := 7) (some 37) rfl rfl (by kernel_rfl) (by kernel_rfl) (by kernel_rfl) (fun _ _ _ h => h) (Or.inr ⟨by kernel_rfl, rfl⟩) hS0 ?_
      simp only [Act.put, aS, aC, aZ]
      refine takeH (i := 8) (some 38) rfl rfl (by kernel_rfl) (by kernel_rfl) (by kernel_rfl) (fun _ _ _ h => h) (Or.inr ⟨by kernel_rfl, rfl⟩) hS0 ?_
      simp only [Act.put, aS, aC, aZ]
      refine takeH (i := 9) (some 39) rfl rfl (by kernel_rfl) (by kernel_rfl) (by kernel_rfl) (fun _ _ _ h => h) (Or.inr ⟨by kernel_rfl, rfl⟩) hS0 ?_
      simp only [Act.put, aS, aC, aZ]
      refine takeH (i := 10) (some 40) rfl rfl (by kernel_rfl) (by kernel_rfl) (by kernel_rfl) (fun _ _ _ h => h) (Or.inr ⟨by kernel_rfl, rfl⟩) hS0 ?_
      simp only [Act.put, aS, aC, aZ]
      refine takeH (i := 11) (some 41) rfl rfl (by kernel_rfl) (by kernel_rfl) (by kernel_rfl) (fun _ _ _ h => h) (Or.inr ⟨by kernel_rfl, rfl⟩) hS0 ?_
      simp only [Act.put, aS, aC, aZ]
      refine takeH (i := 12) (some 42) rfl rfl (by kernel_rfl) (by kernel_rfl) (by kernel_rfl) (fun _ _ _ h => h) (gPick rfl (.tmp 36) (.tmp 41) (.const (.bool false)) rfl false (.bool false) rfl rfl) hS0 ?_
      simp only [Act.put, aS, aC, aZ]
      refine oneH (i := 13) (by kernel_rfl) ?_
      refine opSkip rfl rfl rfl _ (run_storeA agg126 (.tmp 6) (.tmp 30) rfl q 104 rfl (partCells s k l pv) _ rfl rfl RX.out.2.1 rfl (partCells_one s k l pv R5.out.1)) ?_
      have R9 : Hid (RdZ W q gf gh q6 4 S F s k l pv b false (X.setRow q (partCells s k l pv).toArray)) := RX.out.done HQL.out.1 HQL.out.2.1 HQL.out.2.2 (fun h => (R5.out.2 h).2.2.2.2)
      generalize X.setRow q (partCells s k l pv).toArray = w10 at R9 ⊢
      have hS9 : Row w10 q6 104 (partCells s k l pv) ∧ Row w10 gh 63 (headCells S F) := ⟨R9.out.1, R9.out.2.2.1⟩
      refine ⟨hS9, ?_⟩
      refine takeH (i := 14) (some 7) rfl rfl (by kernel_rfl) (by kernel_rfl) (by kernel_rfl) (fun _ _ _ h => h) (gAssign rfl (.tmp 42) rfl (.bool false) rfl) hS9 ?_
      simp only [Act.put, aS, aC, aZ]
      refine wpAnyH_done (by kernel_rfl) ?_ _
      clear hS9 hS0
      have HP9 : Hid (PR w10 s k l pv) := by rw [HPR.out]; exact ⟨R5.out.1, fun h => (by cases h), by rw [HRF.out]; exact R9.out.2.2.2.1⟩
      go_wp2_with fail
      exact bodyPost_ret (results_cell_tmp agg126 Tryd.results51 _ _ q 104 rfl _ rfl R9.out.2.1) rfl ⟨s, k, l, pv, rfl, HP9.out, R9.out.2.2.2.2.1⟩
  | true =>
    have he : er = 0 := by rw [HOK.out.2.1]; exact partEr_ok n b a HOK.out.1.symm
    have hs := (R5.out.2 rfl).1
    have k0 := R6.out.1.at 0 _ rfl
    have k1 := R6.out.2.2.1.at 0 _ rfl
    by_cases hlt : S < s
    · have hre : rdEr n b a S = 4 := by unfold rdEr; rw [← HOK.out.1, ← hs, decide_eq_true hlt]; rfl
      have hr0 : rok = false := by rw [HOK.out.2.2.1]; unfold rdOk; rw [← HOK.out.1, ← hs, decide_eq_true hlt]; rfl
      have HRF : Hid (rf = 4) := by show _ = _; rw [HOK.out.2.2.2]; unfold rdF; rw [hre]; rfl
      clear hre hs
      subst he hr0
      have t1 : decide ((S : Int) < (s : Int)) = true := decide_eq_true (by omega)
      go_upto_region 5 with fail
      refine wp_region_lit ?_
      refine wl_mv (.tmp 10) rfl rfl (.int .i64 4) rfl ?_
      simp only [Act.put, aS, aC, aZ]
      refine wpList_store1 size46 (.tmp 4) (.tmp 29) rfl rfl rfl gf 0 41 rfl (.int .i64 4) [.int .i64 f] rfl rfl rfl R6.out.2.2.2.1 (by simp) ?_
      simp only [List.set_cons_zero]
      refine wpList_nil ?_
      have R7 : Hid (RdI W q gf gh q6 4 S F s k l pv b true (w6.setRow gf [Value.int .i64 4].toArray)) := R6.out.fault HLG.out.1 HLG.out.2.1 HLG.out.2.2 (fun h => (R5.out.2 h).2.2.2.2)
      generalize w6.setRow gf [Value.int .i64 4].toArray = w7 at R7 ⊢
      go_upto_region 6 with fail
      refine wp_region_held (S := fun X => Row X q6 104 (partCells s k l pv) ∧ Row X gh 63 (headCells S F)) (by kernel_rfl) ?_
      show wpAnyH _ _ _ _ _ 15 (Array.replicate 15 false) _ _
      obtain ⟨X, hX⟩ : ∃ X : World, X = { w7 with drawn := w7.drawn + 1 } := ⟨_, rfl⟩
      rw [← hX]
      have RX : Hid (RdI W q gf gh q6 4 S F s k l pv b true X) := by rw [hX]; exact R7.out.drawn
      clear hX
      have hS0 : Row X q6 104 (partCells s k l pv) ∧ Row X gh 63 (headCells S F) := ⟨RX.out.1, RX.out.2.2.1⟩
      refine takeH (i := 0) (some 30) rfl rfl (by kernel_rfl) (by kernel_rfl) (by kernel_rfl) (fun _ _ _ h => h) (gLoadA agg126 rfl (.tmp 8) rfl q6 rfl (partCells s k l pv) rfl (fun _ h => h.1)) hS0 ?_
      simp only [Act.put, aS, aC, aZ]
      refine takeH (i := 1) (some 31) rfl rfl (by kernel_rfl) (by kernel_rfl) (by kernel_rfl) (fun _ _ _ h => h) (gMove rfl (.tmp 10) rfl (.int .i64 4) rfl) hS0 ?_
      simp only [Act.put, aS, aC, aZ]
      refine takeH (i := 2) (some 32) rfl rfl (by kernel_rfl) (by kernel_rfl) (by kernel_rfl) (fun _ _ _ h => h) (gEq46 rfl (.tmp 31) rfl 4 false rfl (by decide)) hS0 ?_
      simp only [Act.put, aS, aC, aZ]
      refine takeH (i := 3) (some 33) rfl rfl (by kernel_rfl) (by kernel_rfl) (by kernel_rfl) (fun _ _ _ h => h) (gMove rfl (.tmp 32) rfl (.bool false) rfl) hS0 ?_
      simp only [Act.put, aS, aC, aZ]
      refine takeH (i := 4) (some 34) rfl rfl (by kernel_rfl) (by kernel_rfl) (by kernel_rfl) (fun _ _ _ h => h) (Or.inr ⟨by kernel_rfl, rfl⟩) hS0 ?_
      simp only [Act.put, aS, aC, aZ]
      refine takeH (i := 5) (some 35) rfl rfl (by kernel_rfl) (by kernel_rfl) (by kernel_rfl) (fun _ _ _ h => h) (gPick rfl (.tmp 33) (.tmp 34) (.const (.bool false)) rfl false (.bool false) rfl rfl) hS0 ?_
      simp only [Act.put, aS, aC, aZ]
      refine takeH (i := 6) (some 36) rfl rfl (by kernel_rfl) (by kernel_rfl) (by kernel_rfl) (fun _ _ _ h => h) (gMove rfl (.tmp 35) rfl (.bool false) rfl) hS0 ?_
      simp only [Act.put, aS, aC, aZ]
      refine takeH (i := 7) (some 37) rfl rfl (by kernel_rfl) (by kernel_rfl) (by kernel_rfl) (fun _ _ _ h => h) (Or.inr ⟨by kernel_rfl, rfl⟩) hS0 ?_
      simp only [Act.put, aS, aC, aZ]
      refine takeH (i := 8) (some 38) rfl rfl (by kernel_rfl) (by kernel_rfl) (by kernel_rfl) (fun _ _ _ h => h) (Or.inr ⟨by kernel_rfl, rfl⟩) hS0 ?_
      simp only [Act.put, aS, aC, aZ]
      refine takeH (i := 9) (some 39) rfl rfl (by kernel_rfl) (by kernel_rfl) (by kernel_rfl) (fun _ _ _ h => h) (Or.inr ⟨by kernel_rfl, rfl⟩) hS0 ?_
      simp only [Act.put, aS, aC, aZ]
      refine takeH (i := 10) (some 40) rfl rfl (by kernel_rfl) (by kernel_rfl) (by kernel_rfl) (fun _ _ _ h => h) (Or.inr ⟨by kernel_rfl, rfl⟩) hS0 ?_
      simp only [Act.put, aS, aC, aZ]
      refine takeH (i := 11) (some 41) rfl rfl (by kernel_rfl) (by kernel_rfl) (by kernel_rfl) (fun _ _ _ h => h) (Or.inr ⟨by kernel_rfl, rfl⟩) hS0 ?_
      simp only [Act.put, aS, aC, aZ]
      refine takeH (i := 12) (some 42) rfl rfl (by kernel_rfl) (by kernel_rfl) (by kernel_rfl) (fun _ _ _ h => h) (gPick rfl (.tmp 36) (.tmp 41) (.const (.bool false)) rfl false (.bool false) rfl rfl) hS0 ?_
      simp only [Act.put, aS, aC, aZ]
      refine oneH (i := 13) (by kernel_rfl) ?_
      refine opSkip rfl rfl rfl _ (run_storeA agg126 (.tmp 6) (.tmp 30) rfl q 104 rfl (partCells s k l pv) _ rfl rfl RX.out.2.1 rfl (partCells_one s k l pv R5.out.1)) ?_
      have R9 : Hid (RdZ W q gf gh q6 4 S F s k l pv b true (X.setRow q (partCells s k l pv).toArray)) := RX.out.done HQL.out.1 HQL.out.2.1 HQL.out.2.2 (fun h => (R5.out.2 h).2.2.2.2)
      generalize X.setRow q (partCells s k l pv).toArray = w10 at R9 ⊢
      have hS9 : Row w10 q6 104 (partCells s k l pv) ∧ Row w10 gh 63 (headCells S F) := ⟨R9.out.1, R9.out.2.2.1⟩
      refine ⟨hS9, ?_⟩
      refine takeH (i := 14) (some 7) rfl rfl (by kernel_rfl) (by kernel_rfl) (by kernel_rfl) (fun _ _ _ h => h) (gAssign rfl (.tmp 42) rfl (.bool false) rfl) hS9 ?_
      simp only [Act.put, aS, aC, aZ]
      refine wpAnyH_done (by kernel_rfl) ?_ _
      clear hS9 hS0
      have HP9 : Hid (PR w10 s k l pv) := by rw [HPR.out]; exact ⟨R5.out.1, fun h => (by cases h), by rw [HRF.out]; exact R9.out.2.2.2.1⟩
      go_wp2_with fail
      exact bodyPost_ret (results_cell_tmp agg126 Tryd.results51 _ _ q 104 rfl _ rfl R9.out.2.1) rfl ⟨s, k, l, pv, rfl, HP9.out, R9.out.2.2.2.2.1⟩
    · have hre : rdEr n b a S = 0 := by unfold rdEr; rw [← HOK.out.1, ← hs, decide_eq_false hlt, ← HOK.out.2.1]; exact he
      have HAN : Hid (rok = decide (F ≤ s)) := by show _ = _; rw [HOK.out.2.2.1]; unfold rdOk; rw [← HOK.out.1, ← hs, decide_eq_false hlt]; rfl
      have HRF : Hid (rf = f) := by show _ = _; rw [HOK.out.2.2.2]; unfold rdF; rw [hre]; rfl
      clear hre hs
      subst he
      have t1 : decide ((S : Int) < (s : Int)) = false := decide_eq_false (by omega)
      go_upto_region 6 with fail
      refine wp_region_held (S := fun X => Row X q6 104 (partCells s k l pv) ∧ Row X gh 63 (headCells S F)) (by kernel_rfl) ?_
      show wpAnyH _ _ _ _ _ 15 (Array.replicate 15 false) _ _
      obtain ⟨X, hX⟩ : ∃ X : World, X = { w6 with drawn := w6.drawn + 1 } := ⟨_, rfl⟩
      rw [← hX]
      have RX : Hid (RdI W q gf gh q6 f S F s k l pv b true X) := by rw [hX]; exact R6.out.drawn
      clear hX
      have hS0 : Row X q6 104 (partCells s k l pv) ∧ Row X gh 63 (headCells S F) := ⟨RX.out.1, RX.out.2.2.1⟩
      refine takeH (i := 0) (some 30) rfl rfl (by kernel_rfl) (by kernel_rfl) (by kernel_rfl) (fun _ _ _ h => h) (gLoadA agg126 rfl (.tmp 8) rfl q6 rfl (partCells s k l pv) rfl (fun _ h => h.1)) hS0 ?_
      simp only [Act.put, aS, aC, aZ]
      refine takeH (i := 1) (some 31) rfl rfl (by kernel_rfl) (by kernel_rfl) (by kernel_rfl) (fun _ _ _ h => h) (gMove rfl (.tmp 10) rfl (.int .i64 0) rfl) hS0 ?_
      simp only [Act.put, aS, aC, aZ]
      refine takeH (i := 2) (some 32) rfl rfl (by kernel_rfl) (by kernel_rfl) (by kernel_rfl) (fun _ _ _ h => h) (gEq46 rfl (.tmp 31) rfl 0 true rfl (by decide)) hS0 ?_
      simp only [Act.put, aS, aC, aZ]
      refine takeH (i := 3) (some 33) rfl rfl (by kernel_rfl) (by kernel_rfl) (by kernel_rfl) (fun _ _ _ h => h) (gMove rfl (.tmp 32) rfl (.bool true) rfl) hS0 ?_
      simp only [Act.put, aS, aC, aZ]
      refine takeH (i := 4) (some 34) rfl rfl (by kernel_rfl) (by kernel_rfl) (by kernel_rfl) (fun _ _ _ h => h) (gMove rfl (.tmp 9) rfl (.bool true) rfl) hS0 ?_
      simp only [Act.put, aS, aC, aZ]
      refine takeH (i := 5) (some 35) rfl rfl (by kernel_rfl) (by kernel_rfl) (by kernel_rfl) (fun _ _ _ h => h) (gPick rfl (.tmp 33) (.tmp 34) (.const (.bool false)) rfl true (.bool true) rfl rfl) hS0 ?_
      simp only [Act.put, aS, aC, aZ]
      refine takeH (i := 6) (some 36) rfl rfl (by kernel_rfl) (by kernel_rfl) (by kernel_rfl) (fun _ _ _ h => h) (gMove rfl (.tmp 35) rfl (.bool true) rfl) hS0 ?_
      simp only [Act.put, aS, aC, aZ]
      refine takeH (i := 7) (some 37) rfl rfl (by kernel_rfl) (by kernel_rfl) (by kernel_rfl) (fun _ _ _ h => h) (gField f126_0 rfl (.tmp 8) rfl q6 0 rfl) hS0 ?_
      simp only [Act.put, aS, aC, aZ]
      refine takeH (i := 8) (some 38) rfl rfl (by kernel_rfl) (by kernel_rfl) (by kernel_rfl) (fun _ _ _ h => h) (gLoad o99 rfl (.tmp 37) rfl q6 (0 + 0) rfl (.int .u64 (s : Nat)) (fun _ h => h.1.at 0 _ rfl)) hS0 ?_
      simp only [Act.put, aS, aC, aZ]
      refine takeH (i := 9) (some 39) rfl rfl (by kernel_rfl) (by kernel_rfl) (by kernel_rfl) (fun _ _ _ h => h) (gField f101_1 rfl (.tmp 3) rfl gh 0 rfl) hS0 ?_
      simp only [Act.put, aS, aC, aZ]
      refine takeH (i := 10) (some 40) rfl rfl (by kernel_rfl) (by kernel_rfl) (by kernel_rfl) (fun _ _ _ h => h) (gLoad o99 rfl (.tmp 39) rfl gh (0 + 1) rfl (.int .u64 (F : Nat)) (fun _ h => h.2.at 1 _ rfl)) hS0 ?_
      simp only [Act.put, aS, aC, aZ]
      refine takeH (i := 11) (some 41) rfl rfl (by kernel_rfl) (by kernel_rfl) (by kernel_rfl) (fun _ _ _ h => h) (gGeq64 rfl (.tmp 38) (.tmp 40) rfl s F rfl rfl) hS0 ?_
      simp only [Act.put, aS, aC, aZ]
      refine takeH (i := 12) (some 42) rfl rfl (by kernel_rfl) (by kernel_rfl) (by kernel_rfl) (fun _ _ _ h => h) (gPick rfl (.tmp 36) (.tmp 41) (.const (.bool false)) rfl true (.bool (decide (F ≤ s))) rfl rfl) hS0 ?_
      simp only [Act.put, aS, aC, aZ]
      rw [← HAN.out]
      refine oneH (i := 13) (by kernel_rfl) ?_
      refine opSkip rfl rfl rfl _ (run_storeA agg126 (.tmp 6) (.tmp 30) rfl q 104 rfl (partCells s k l pv) _ rfl rfl RX.out.2.1 rfl (partCells_one s k l pv R5.out.1)) ?_
      have R9 : Hid (RdZ W q gf gh q6 f S F s k l pv b true (X.setRow q (partCells s k l pv).toArray)) := RX.out.done HQL.out.1 HQL.out.2.1 HQL.out.2.2 (fun h => (R5.out.2 h).2.2.2.2)
      generalize X.setRow q (partCells s k l pv).toArray = w10 at R9 ⊢
      have hS9 : Row w10 q6 104 (partCells s k l pv) ∧ Row w10 gh 63 (headCells S F) := ⟨R9.out.1, R9.out.2.2.1⟩
      refine ⟨hS9, ?_⟩
      refine takeH (i := 14) (some 7) rfl rfl (by kernel_rfl) (by kernel_rfl) (by kernel_rfl) (fun _ _ _ h => h) (gAssign rfl (.tmp 42) rfl (.bool rok) rfl) hS9 ?_
      simp only [Act.put, aS, aC, aZ]
      refine wpAnyH_done (by kernel_rfl) ?_ _
      clear hS9 hS0
      have HP9 : Hid (PR w10 s k l pv) := by rw [HPR.out]; exact ⟨R5.out.1, fun _ => ⟨(R5.out.2 rfl).1, (R5.out.2 rfl).2.1, (R5.out.2 rfl).2.2.1, R9.out.2.2.2.2.2 rfl, (R5.out.2 rfl).2.2.2.1, by rw [← HQ.out]; exact (R5.out.2 rfl).2.2.2.2⟩, by rw [HRF.out]; exact R9.out.2.2.2.1⟩
      go_wp2_with fail
      exact bodyPost_ret (results_cell_tmp agg126 Tryd.results51 _ _ q 104 rfl _ rfl R9.out.2.1) rfl ⟨s, k, l, pv, rfl, HP9.out, R9.out.2.2.2.2.1⟩
end Go.Proofs.YtebalanfagglnaaDoor

/- A drawn region whose first n operations are quiet in a class of worlds and whose other operations wait for all of them and for one another: one walk in the order of the text serves every order. (The two laws of the library on the quiet walk and on the forced end, put together.) The head law once more, for a region whose first operation is a copy that only a later one of the forced end waits for ('x = append(x, ..)'). The calls that look at a plant or at a device, and the step. More operations on blocks that are known whole. Structs, slices of structs, bytes: made, looked at, copied. The calls of one device: read, wait, waitNoMore, settle. Regions that draw their order, taken by hand: what is pure comes first, then the few orders that are left. -/
import Derived.StillTail
import Derived.Deep.QuietTactic
import Derived.Test.YthgidfoidbgnaaaDoorE01
import Derived.WalkSpells
import Derived.WalkLawsBesides
import Derived.BigQuiet
import Derived.Deep.Cut
namespace Go.Proofs.YthgidfoidbgnaaaDoor
open Go

section
variable {P : Program} {ops : Array Oper} {md : Region.Mode} {C : World → Prop}

/-- whatever order is picked, only operations ahead of n come up, each quiet in C; then L -/
def headAny (P : Program) (md : Region.Mode) (ops : Array Oper) (C : World → Prop) (n : Nat) (L : Array Bool → Act → Prop) : Nat → Array Bool → Act → Prop
 | 0, listed, a => L listed a
 | f + 1, listed, a => Region.ready md ops listed ≠ [] ∧ ∀ i ∈ Region.ready md ops listed, i < n ∧ qOp P ops C i (headAny P md ops C n L f (listed.setIfInBounds i true)) a

theorem headAny_wp {n g : Nat} {L : Array Bool → Act → Prop} {Q : Exit → Act → World → Prop} (hL : ∀ listed a w, C w → L listed a → wpAny P md ops Q g listed a w) :
  ∀ (f : Nat) (listed : Array Bool) (a : Act) (w : World), C w → headAny P md ops C n L f listed a → wpAny P md ops Q (f + g) listed a w := by
 intro f
 induction f with
 | zero =>
  intro listed a w hw h
  rw [Nat.zero_add]
  exact hL _ _ _ hw h
 | succ f ih =>
  intro listed a w hw h
  have e : f + 1 + g = f + g + 1 := by omega
  rw [e]
  exact ⟨fun h0 => absurd h0 h.1, fun i hi => wpOp_of_qOp hw (fun a' w' hw' h' => ih _ a' w' hw' h') (h.2 i hi).2⟩

/-- an operation of the head that may come up now may be taken first -/
theorem headAny_take {n i : Nat} {oi : Oper} {v : Value} {L : Array Bool → Act → Prop} (hi : ops[i]? = some oi) (hsel : ∀ (j : Nat) (o : Oper) cs b, ops[j]? = some o → o.op ≠ .select cs b)
  (hs : Region.sinkB md ops n = true) (hc : Region.chainB md ops n = true) (hn : n < ops.size) (hin : i < n)
  (hdone : ∀ listed a, L listed a → ∀ j ∈ Region.ready md ops listed, n ≤ j) (f : Nat) :
  ∀ (listed : Array Bool) (a : Act), HeadInv md ops n listed →
   (∀ j oj, ops[j]? = some oj → j ≠ i → listed.getD j true = false → (∀ e ∈ oj.after, Region.binds md e = true → e.on ≠ i) → oi.apart ops oj = true) →
   i ∈ Region.ready md ops listed → YieldsIn P ops C oi v a →
   headAny P md ops C n L f (listed.setIfInBounds i true) (a.put oi.dst v) → headAny P md ops C n L (f + 1) listed a := by
 have small : ∀ (listed : Array Bool), HeadInv md ops n listed → i ∈ Region.ready md ops listed → ∀ j ∈ Region.ready md ops listed, j < n := by
  intro listed inv hr j hj
  apply Nat.lt_of_not_le
  intro hle
  exact tail_waits hs hc hn inv _ i rfl hin (mem_ready.1 hr).1 j hle hj
 induction f with
 | zero =>
  intro listed a inv _ hr hy H
  refine ⟨List.ne_nil_of_mem hr, fun j hj => ⟨small listed inv hr j hj, ?_⟩⟩
  by_cases hji : j = i
  ·subst hji
   exact hy.qOp hi H
  ·have h1 := hdone _ _ H j (ready_mono hj hji)
   have h2 := small listed inv hr j hj
   omega
 | succ f ih =>
  intro listed a inv hfree hr hy H
  refine ⟨List.ne_nil_of_mem hr, fun j hj => ⟨small listed inv hr j hj, ?_⟩⟩
  by_cases hji : j = i
  ·subst hji
   exact hy.qOp hi H
  ·obtain ⟨hjun, oj, hoj, hall⟩ := mem_ready.1 hj
   have hnot : ∀ e ∈ oj.after, Region.binds md e = true → e.on ≠ i := by
    intro e he hb heq
    have h1 := hall e he hb
    rw [heq, getD_both (mem_ready.1 hr).1] at h1
    exact Bool.false_ne_true h1
   have step := qOp_put hoj (hfree j oj hoj hji hjun hnot) (fun cs b => hsel i oi cs b hi) (fun cs b => hsel j oj cs b hoj) hy (H.2 j (ready_mono hj hji)).2
   refine qOp_mono (fun a' h3 => ?_) step
   refine ih (listed.setIfInBounds j true) a' (inv.set hj (small listed inv hr j hj)) ?_ (ready_mono hr (Ne.symm hji)) h3.1 ?_
   ·intro k ok hk hki hun hno
    refine hfree k ok hk hki ?_ hno
    by_cases hjk : j = k
    ·rw [← hjk]; exact hjun
    ·rwa [getD_set_ne true hjk] at hun
   ·rw [Array.setIfInBounds_comm _ _ hji]
    exact h3.2

theorem headAny_text {n g : Nat} {R : Act → Prop} (hsel : Region.noSelect ops = true) (hs : Region.sinkB md ops n = true) (hc : Region.chainB md ops n = true) (hn : n < ops.size) (l : List Oper) :
  ∀ (k : Nat) (listed : Array Bool) (a : Act), (∀ j, j < l.length → l[j]? = ops[k + j]?) → k + l.length = n → HeadInv md ops n listed →
  Region.lexHead md ops g l.length k listed = true → wpQuiet P ops C R l a →
  headAny P md ops C n (fun listed' a' => Region.seqB md ops g n listed' = true ∧ R a') l.length listed a := by
 induction l with
 | nil =>
  intro k listed a _ hk _ hB h
  have e : k = n := by simpa using hk
  subst e
  exact ⟨hB, h⟩
 | cons o l ih =>
  intro k listed a hl hk inv hB h
  have h0 : ops[k]? = some o := by simpa using (hl 0 (by simp)).symm
  simp only [List.length_cons] at hk
  simp only [List.length_cons, Region.lexHead, Bool.and_eq_true] at hB
  have hr : k ∈ Region.ready md ops listed := by simpa using hB.1.1
  have hq : qOp P ops C k (wpQuiet P ops C R l) a := by unfold qOp; simp only [h0]; exact h
  obtain ⟨v, hy, hK⟩ := yieldsIn_of_qOp h0 hq
  refine headAny_take h0 (Region.noSelect_spec hsel) hs hc hn (by omega) (fun listed' a' hL => seqB_ready hL.1) l.length listed a inv (Region.free_spec h0 hB.1.2) hr hy ?_
  refine ih (k + 1) _ _ (fun j hj => ?_) (by omega) (inv.set hr (by omega)) hB.2 hK
  have := hl (j + 1) (by simp; omega)
  simpa [Nat.add_assoc, Nat.add_comm 1 j] using this

/-- THE LAW -/
theorem wp_region_head {id : Nat} {Q : Exit → Act → World → Prop} {a : Act} {w : World} {l : List Oper} (n : Nat) (hm : P.follows .mixedOrders = true) (hB : Region.lexTailB .any l.toArray n = true)
  (hC : C { w with drawn := w.drawn + 1 })
  (h : wpQuiet P l.toArray C (fun a' => ∀ w', C w' → wpList P l.toArray Q (l.drop n) a' w') (l.take n) a) : (Code.region id l.toArray true).wp P Q a w := by
 simp only [Region.lexTailB, Bool.and_eq_true, decide_eq_true_eq] at hB
 obtain ⟨⟨⟨⟨hsel, hn⟩, hs⟩, hc⟩, hlex⟩ := hB
 have hn' : n < l.length := by simpa using hn
 have htl : (l.take n).length = n := by simp; omega
 have hdl : (l.drop n).length = l.toArray.size - n := by simp
 have inv0 : HeadInv .any l.toArray n (Array.replicate l.toArray.size false) :=
  ⟨by simp, fun j oj _ hl => (by rw [getD_replicate_false] at hl; cases hl), fun t _ ht => getD_in (by simpa using ht) (getD_replicate_false _ _)⟩
 have H := headAny_text (md := .any) (g := l.toArray.size - n) hsel hs hc hn (l.take n) 0 _ a (fun j hj => by
  have hj' : j < n := by rw [htl] at hj; exact hj
  simp [hj']) (by simpa using htl) inv0 (by rw [htl]; exact hlex) h
 refine wp_region_any hm ?_
 have := headAny_wp (Q := Q) (g := l.toArray.size - n) (fun listed a' w' hw' hL => by
  have := wpAny_of_seq (md := .any) (Q' := Q) (l.drop n) n listed a' w' (fun j => by simp [List.getElem?_drop]) (by rw [hdl]; exact hL.1) (hL.2 w' hw')
  rwa [hdl] at this) _ _ _ _ hC H
 rw [htl, show n + (l.toArray.size - n) = l.toArray.size by omega] at this
 exact this

/-- .. at the class 'w after some draws' -/
theorem wp_region_head_drew {id : Nat} {Q : Exit → Act → World → Prop} {a : Act} {w : World} {l : List Oper} (n : Nat) (hm : P.follows .mixedOrders = true) (hB : Region.lexTailB .any l.toArray n = true)
  (h : wpQuiet P l.toArray (fun w' => ∃ n, w' = w.drewN n) (fun a' => ∀ w', (∃ n, w' = w.drewN n) → wpList P l.toArray Q (l.drop n) a' w') (l.take n) a) : (Code.region id l.toArray true).wp P Q a w :=
 wp_region_head (C := fun w' => ∃ n, w' = w.drewN n) n hm hB ⟨1, rfl⟩ h

end
end Go.Proofs.YthgidfoidbgnaaaDoor

namespace Go.Proofs.YthgidfoidbgnaaaDoor
open Go

section
variable {P : Program} {ops : Array Oper} {md : Region.Mode} {C : World → Prop}

end
end Go.Proofs.YthgidfoidbgnaaaDoor

namespace Go.Proofs.YthgidfoidbgnaaaDoor
open Go.RowKit Go.Maps

abbrev ptr (g : Nat) : Value := .pointer (some ⟨g, 0, none⟩)

theorem on_cells (w : World) (g : Nat) (b : Bool) (c1 : w.cell? ⟨g, 1, none⟩ = some (.bool b)) : Calls Tryd.prog 45 #[ptr g] w fun e w' => e = .returned (.bool b) ∧ w' = w := by
 go_enter Tryd.func45, Tryd.ntmps45
 go_wp2
 go_ret
 exact ⟨rfl, rfl⟩
theorem steps_cells (w : World) (g : Nat) (n : Int) (c1 : w.cell? ⟨g, 3, none⟩ = some (.int .i64 n)) : Calls Tryd.prog 65 #[ptr g] w fun e w' => e = .returned (.int .i64 n) ∧ w' = w := by
 go_enter Tryd.func65, Tryd.ntmps65
 go_wp2
 go_ret
 exact ⟨rfl, rfl⟩
theorem device_in (w : World) (g db n cap gi i : Nat) (c0 : w.cell? ⟨g, 0, none⟩ = some (.slice (some ⟨db, 0, none⟩) n cap)) (hi : i < n) (ci : w.cell? ⟨db, i, none⟩ = some (ptr gi)) :
  Calls Tryd.prog 47 #[ptr g, .int .i64 (i : Int)] w fun e w' => e = .returned (ptr gi) ∧ w' = w := by
 have h1 : decide ((i : Int) < 0) = false := by simp
 have h2 : decide ((n : Int) ≤ (i : Int)) = false := by simp; omega
 go_enter Tryd.func47, Tryd.ntmps47
 go_wp2
 go_ret
 exact ⟨rfl, rfl⟩
theorem device_out (w : World) (g db n cap : Nat) (d : Int) (c0 : w.cell? ⟨g, 0, none⟩ = some (.slice (some ⟨db, 0, none⟩) n cap)) (hd : d < 0 ∨ (n : Int) ≤ d) :
  Calls Tryd.prog 47 #[ptr g, .int .i64 d] w fun e w' => e = .returned (.pointer none) ∧ w' = w := by
 by_cases h0 : d < 0
 ·have h1 : decide (d < 0) = true := by simpa using h0
  go_enter Tryd.func47, Tryd.ntmps47
  go_wp2
  go_ret
  exact ⟨rfl, rfl⟩
 ·have h1 : decide (d < 0) = false := by simpa using h0
  have h2 : decide ((n : Int) ≤ d) = true := by simp; omega
  go_enter Tryd.func47, Tryd.ntmps47
  go_wp2
  go_ret
  exact ⟨rfl, rfl⟩
theorem step_off (w : World) (g : Nat) (c2 : w.cell? ⟨g, 2, none⟩ = some (.int .i64 0)) (f : ∀ i, w.frozen? ⟨g, i, none⟩ = false) (x : Value) (c1 : w.cell? ⟨g, 1, none⟩ = some x) :
  Calls Tryd.prog 72 #[ptr g] w fun e w' => e = .returned (.bool false) ∧ w' = (w.setCell ⟨g, 1, none⟩ (.bool false)).setCell ⟨g, 2, none⟩ (.int .i64 (-1)) := by
 go_enter Tryd.func72, Tryd.ntmps72
 go_wp2
 go_ret
 exact ⟨rfl, rfl⟩
theorem step_fuse (w : World) (g : Nat) (fu st : Int) (c2 : w.cell? ⟨g, 2, none⟩ = some (.int .i64 fu)) (c3 : w.cell? ⟨g, 3, none⟩ = some (.int .i64 st)) (f : ∀ i, w.frozen? ⟨g, i, none⟩ = false) (h0 : 0 < fu) (h1 : fu ≤ 9223372036854775807) (h2 : 0 ≤ st) (h3 : st < 4611686018427387904) :
  Calls Tryd.prog 72 #[ptr g] w fun e w' => e = .returned (.bool true) ∧ w' = (w.setCell ⟨g, 2, none⟩ (.int .i64 (fu - 1))).setCell ⟨g, 3, none⟩ (.int .i64 (st + 1)) := by
 have e1 : (fu == 0) = false := by simp; omega
 have e2 : decide (0 < fu) = true := by simpa using h0
 go_enter Tryd.func72, Tryd.ntmps72
 go_wp2
 go_ret
 exact ⟨rfl, rfl⟩
theorem step_none (w : World) (g : Nat) (fu st : Int) (c2 : w.cell? ⟨g, 2, none⟩ = some (.int .i64 fu)) (c3 : w.cell? ⟨g, 3, none⟩ = some (.int .i64 st)) (f : ∀ i, w.frozen? ⟨g, i, none⟩ = false) (h0 : fu < 0) (h2 : 0 ≤ st) (h3 : st < 4611686018427387904) :
  Calls Tryd.prog 72 #[ptr g] w fun e w' => e = .returned (.bool true) ∧ w' = w.setCell ⟨g, 3, none⟩ (.int .i64 (st + 1)) := by
 have e1 : (fu == 0) = false := by simp; omega
 have e2 : decide (0 < fu) = false := by simp; omega
 go_enter Tryd.func72, Tryd.ntmps72
 go_wp2
 go_ret
 exact ⟨rfl, rfl⟩

section
variable {w : World} {c : Nat → Colour} {t g db cap : Nat} {gs : Nat → Nat} {m : Pl}
theorem PlantAt.c0 (h : PlantAt w c t g db cap gs m) : w.cell? ⟨g, 0, none⟩ = some (.slice (some ⟨db, 0, none⟩) m.n cap) := h.row.at 0 _ rfl
theorem PlantAt.c1 (h : PlantAt w c t g db cap gs m) : w.cell? ⟨g, 1, none⟩ = some (.bool m.on) := h.row.at 1 _ rfl
theorem PlantAt.c2 (h : PlantAt w c t g db cap gs m) : w.cell? ⟨g, 2, none⟩ = some (.int .i64 m.fuse) := h.row.at 2 _ rfl
theorem PlantAt.c3 (h : PlantAt w c t g db cap gs m) : w.cell? ⟨g, 3, none⟩ = some (.int .i64 (m.steps : Nat)) := h.row.at 3 _ rfl
/-- a step, as the plant has it -/
theorem step_any (h : PlantAt w c t g db cap gs m) (hst : m.steps < 4611686018427387904) (hf1 : m.fuse ≤ 9223372036854775807) :
  Calls Tryd.prog 72 #[ptr g] w fun e w' => e = .returned (.bool m.stepOk) ∧ PlantAt w' c t g db cap gs m.step ∧ Ch (· = g) w w' := by
 have fz : ∀ i, w.frozen? ⟨g, i, none⟩ = false := fun i => h.row.frozen i
 have hch : ∀ i v, Ch (· = g) w (w.setCell ⟨g, i, none⟩ v) := fun i v => (Ch.refl (· = g) w).setCell (g := g) (Or.inl rfl) i v
 rcases Int.lt_trichotomy m.fuse 0 with h0 | h0 | h0
 ·refine (step_none w g m.fuse _ h.c2 h.c3 fz h0 (by omega) (by omega)).mono ?_
  rintro e w' ⟨rfl, rfl⟩
  have hne : ¬ m.fuse = 0 := by omega
  refine ⟨by simp [Pl.stepOk, hne], h.head m.step ?_ ?_ ?_ (hch _ _) ?_, hch _ _⟩
  ·simp [Pl.step, hne]
  ·simp [Pl.step, hne]
  ·simp [Pl.step, hne]
  ·have := h.row.setCell 3 (.int .i64 ((m.steps : Int) + 1))
   have h2 : ¬ 0 < m.fuse := by omega
   simpa [plCells, Pl.step, hne, h2, Pl.n] using this
 ·refine (step_off w g (by rw [← h0]; exact h.c2) fz _ h.c1).mono ?_
  rintro e w' ⟨rfl, rfl⟩
  have hc2 := (hch 1 (.bool false)).setCell (g := g) (Or.inl rfl) 2 (.int .i64 (-1))
  refine ⟨by simp [Pl.stepOk, h0], h.head m.step ?_ ?_ ?_ hc2 ?_, hc2⟩
  ·simp [Pl.step, h0]
  ·simp [Pl.step, h0]
  ·simp [Pl.step, h0]
  ·have := (h.row.setCell 1 (.bool false)).setCell 2 (.int .i64 (-1))
   simpa [plCells, Pl.step, h0, Pl.n] using this
 ·refine (step_fuse w g m.fuse _ h.c2 h.c3 fz h0 hf1 (by omega) (by omega)).mono ?_
  rintro e w' ⟨rfl, rfl⟩
  have hne : ¬ m.fuse = 0 := by omega
  have hc2 := (hch 2 (.int .i64 (m.fuse - 1))).setCell (g := g) (Or.inl rfl) 3 (.int .i64 ((m.steps : Int) + 1))
  refine ⟨by simp [Pl.stepOk, hne], h.head m.step ?_ ?_ ?_ hc2 ?_, hc2⟩
  ·simp [Pl.step, hne]
  ·simp [Pl.step, hne]
  ·simp [Pl.step, hne]
  ·have := (h.row.setCell 2 (.int .i64 (m.fuse - 1))).setCell 3 (.int .i64 ((m.steps : Int) + 1))
   simpa [plCells, Pl.step, hne, h0, Pl.n] using this
end
end Go.Proofs.YthgidfoidbgnaaaDoor

namespace Go.Proofs.YthgidfoidbgnaaaDoor
open Go.RowKit Go.Maps

section
variable {w : World} {ops : Array Oper} {rest : List Oper} {o : Oper} {a : Act} {Q : Exit → Act → World → Prop}
theorem wpList_box {t : Nat} (x : Operand) (hgd : o.guard = none) (ho : o.op = .box t x) (cs : List Value) (hx : a.eval x = .agg cs.toArray)
  (h : ∀ w', Row w' w.heap.size t cs → w'.heap.size = w.heap.size + 1 → Below w.heap.size w w' → wpList Tryd.prog ops Q rest (a.put o.dst (.pointer (some ⟨w.heap.size, 0, none⟩))) w') : wpList Tryd.prog ops Q (o :: rest) a w :=
 wpList_value hgd _ _ (by simp [execOp, ho, hx, Instr.box, newVar, newRow, Value.cells]) (h (w.alloc (.cells cs.toArray t)) (Row.new w t cs) (by simp) ((Below.refl _ _).alloc (Nat.le_refl _) _))
theorem wpList_alloc' {t : Nat} (zs : List Value) (hz : (Tryd.prog.info? t).map (·.zero) = some (some (.agg zs.toArray))) (hgd : o.guard = none) (ho : o.op = .alloc t)
  (h : ∀ w', Row w' w.heap.size t zs → w'.heap.size = w.heap.size + 1 → Below w.heap.size w w' → wpList Tryd.prog ops Q rest (a.put o.dst (.pointer (some ⟨w.heap.size, 0, none⟩))) w') : wpList Tryd.prog ops Q (o :: rest) a w :=
 wpList_alloc zs hz hgd ho (h (w.alloc (.cells zs.toArray t)) (Row.new w t zs) (by simp) ((Below.refl _ _).alloc (Nat.le_refl _) _))
theorem wpList_store0 {t n : Nat} (ht : AggT t n) (x y : Operand) (hgd : o.guard = none) (hdst : o.dst = none) (ho : o.op = .store t x y) (g off T : Nat) (hx : a.eval x = .pointer (some ⟨g, off, none⟩)) (cs cur : List Value) (hy : a.eval y = .agg cs.toArray) (hn : cs.length = n)
  (hr : Row w g T cur) (hfit : off + cs.length ≤ cur.length) (h1 : ∀ v ∈ cs, v.oneCell' = true) (h : wpList Tryd.prog ops Q rest a (w.setRow g (splice cur off cs).toArray)) : wpList Tryd.prog ops Q (o :: rest) a w :=
 wpList_store ht x y hgd ho g off T hx cs cur hy hn hr hfit h1 (by rw [hdst]; exact h)
theorem wpList_nilCheck (x : Operand) (hgd : o.guard = none) (ho : o.op = .nilCheck x) (p : Addr) (hx : a.eval x = .pointer (some p))
  (h : wpList Tryd.prog ops Q rest (a.put o.dst (.pointer (some p))) w) : wpList Tryd.prog ops Q (o :: rest) a w :=
 wpList_value hgd _ w (by simp [execOp, ho, hx]) h
/-- the address of a field -/
def FieldAt (T i k : Nat) : Prop := ∀ (w : World) (g off : Nat), (Instr.fieldAt T (.pointer (some ⟨g, off, none⟩)) i).run Tryd.prog w = .ok (.pointer (some ⟨g, off + k, none⟩)) w
theorem wpList_field {T i k : Nat} (hf : FieldAt T i k) (x : Operand) (hgd : o.guard = none) (ho : o.op = .fieldAddr T x i) (g off : Nat) (hx : a.eval x = .pointer (some ⟨g, off, none⟩))
  (h : wpList Tryd.prog ops Q rest (a.put o.dst (.pointer (some ⟨g, off + k, none⟩))) w) : wpList Tryd.prog ops Q (o :: rest) a w :=
 wpList_value hgd _ w (by simp [execOp, ho, hx, hf w g off]) h
/-- alloc and store of a whole struct or array behind it -/
theorem splice_all {α : Type} (zs cs : List α) (h : cs.length = zs.length) : splice zs 0 cs = cs := by
 unfold splice
 simp [h]
theorem wpList_alloc_store {t n : Nat} (ht : AggT t n) (zs : List Value) (hz : (Tryd.prog.info? t).map (·.zero) = some (some (.agg zs.toArray))) {o1 o2 : Oper} {d : Tmp} (hgd1 : o1.guard = none) (hgd2 : o2.guard = none) (hd1 : o1.dst = some d) (hd2 : o2.dst = none) (ho1 : o1.op = .alloc t) (y : Operand) (ho2 : o2.op = .store t (.tmp d) y)
  (cs : List Value) (hl : cs.length = n) (hzl : zs.length = n) (h1 : ∀ v ∈ cs, v.oneCell' = true)
  (hx : ∀ v, (a.put (some d) v).eval (.tmp d) = v) (hy : ∀ v, (a.put (some d) v).eval y = .agg cs.toArray)
  (h : ∀ w', Row w' w.heap.size t cs → w'.heap.size = w.heap.size + 1 → Below w.heap.size w w' → wpList Tryd.prog ops Q rest (a.put (some d) (.pointer (some ⟨w.heap.size, 0, none⟩))) w') : wpList Tryd.prog ops Q (o1 :: o2 :: rest) a w := by
 refine wpList_alloc' zs hz hgd1 ho1 ?_
 intro w1 r1 s1 b1
 rw [hd1]
 refine wpList_store0 ht (.tmp d) y hgd2 hd2 ho2 w.heap.size 0 t (hx _) cs zs (hy _) hl r1 (by omega) h1 ?_
 rw [splice_all _ _ (by omega)]
 refine h _ (r1.setRow cs) (by simp [World.setRow, s1]) ?_
 exact b1.trans ⟨rfl, rfl, rfl, by simp [World.setRow], fun k hk => Go.setRow_other w1 _ k _ (by omega)⟩
end

section
variable {P : Program} {ops : Array Oper} {C : World → Prop} {R : Act → Prop} {o : Oper} {rest : List Oper} {a : Act}
theorem wpQuiet_value (hgd : o.guard = none) (v : Value) (hrun : ∀ w, C w → (execOp a.eval o).run P w = .ok (.value v) w) (h : wpQuiet P ops C R rest (a.put o.dst v)) : wpQuiet P ops C R (o :: rest) a := by
 have hw : Region.wanted o (yielded ops a.tmps) = true := by simp [Region.wanted, hgd]
 simp only [wpQuiet, hw, if_true]
 exact ⟨v, fun w hC => by unfold Oper.quietAt; rw [hrun w hC]; exact ⟨rfl, rfl⟩, h⟩
end
theorem wpQuiet_load {ops : Array Oper} {C : World → Prop} {R : Act → Prop} {o : Oper} {rest : List Oper} {a : Act} {t n : Nat} (ht : AggT t n) (x : Operand) (hgd : o.guard = none) (ho : o.op = .load t x) (g off : Nat) (hx : a.eval x = .pointer (some ⟨g, off, none⟩)) (cs : List Value) (hn : cs.length = n)
  (hc : ∀ w, C w → ∀ j v, cs[j]? = some v → w.cell? ⟨g, off + j, none⟩ = some v) (h : wpQuiet Tryd.prog ops C R rest (a.put o.dst (.agg cs.toArray))) : wpQuiet Tryd.prog ops C R (o :: rest) a :=
 wpQuiet_value hgd _ (fun w hw => by simp [execOp, ho, hx, Instr.loadAt, Instr.sureAddr, run_loadVar ht w g off cs hn (hc w hw)]) h

theorem f87_2 : FieldAt 76 2 2 := fun w g off => by kernel_rfl
theorem f93_1 : FieldAt 78 1 1 := fun w g off => by kernel_rfl
theorem f76_2 : FieldAt 106 2 2 := fun w g off => by kernel_rfl

section
variable {w : World} {c : Nat → Colour} {k : Colour} {g : Nat} {tape : Bool} {size : Nat} {fl : List (List Nat)} {wt : List Wr}
theorem WtIn.shape {v : Value} (h : WtIn w c k v wt) : ∃ p cap, v = .slice p wt.length cap := by
 obtain ⟨⟨hl, h1⟩, h2⟩ := h
 rcases h1 with ⟨rfl, hn⟩ | ⟨g, cap, cur, rfl, h0, hg, h3⟩
 ·exact ⟨none, 0, by rw [hn]⟩
 ·exact ⟨_, cap, rfl⟩
/-- how many sectors or blocks may be read -/
theorem length_any (h : DevIn w c k g tape size fl wt) (hw : wt.length < 1099511627776) :
  Calls Tryd.prog 77 #[ptr g] w fun e w' => e = .returned (.int .i64 ((if tape then fl.length + wt.length else size : Nat) : Int)) ∧ ∃ n, w' = w.drewN n := by
 obtain ⟨bm, bl, v, hr, _, _, _, _, ⟨f, n, hm, _, hft⟩, hwt, _⟩ := h
 have c0 := hr.at 0 _ rfl
 have c1 := hr.at 1 _ rfl
 have c2 := hr.at 2 _ rfl
 have c3 := hr.at 3 _ rfl
 obtain ⟨p, cap, rfl⟩ := hwt.shape
 clear hwt hr
 cases tape with
 | false =>
  go_enter Tryd.func77, Tryd.ntmps77
  go_wp2
  go_ret
  exact ⟨rfl, 0, rfl⟩
 | true =>
  have hb := hm.bound
  obtain ⟨hn, _⟩ := hft rfl
  have hl : ∀ q ty, (Builtin.len_ #[103] ty #[.map (some bm)]).run Tryd.prog (w.drewN q) = .ok (.int .i64 (n : Nat)) (w.drewN q) := fun q ty => (hm.drewN q).len Tryd.underlying103 ty
  clear hft hm
  generalize wt.length = L at *
  go_enter Tryd.func77, Tryd.ntmps77
  go_wp2
  go_quiet (fail)
  go_wp2
  go_ret
  exact ⟨rfl, _, rfl⟩
end
end Go.Proofs.YthgidfoidbgnaaaDoor

namespace Go.Proofs.YthgidfoidbgnaaaDoor
open Go.RowKit Go.Maps

theorem splice_cons {α : Type} (A : List α) (o : Nat) (c : α) (r : List α) (h : o + (r.length + 1) ≤ A.length) : splice (A.set o c) (o + 1) r = splice A o (c :: r) := by
 unfold splice
 rw [List.take_succ_eq_append_getElem (by simp; omega), List.take_set_of_le (Nat.le_refl _), List.getElem_set_self, List.drop_set_of_lt (by omega), List.append_assoc]
 simp [show o + 1 + r.length = o + (r.length + 1) by omega]
theorem splice_nil {α : Type} (A : List α) (o : Nat) : splice A o [] = A := by simp [splice]
theorem fold_set : ∀ (cs : List Value) (off s : Nat) (A : Array Value), off + s + cs.length ≤ A.size → (cs.zipIdx s).foldl (fun a x => a.setIfInBounds (off + x.2) x.1) A = (splice A.toList (off + s) cs).toArray
 | [], off, s, A, _ => by simp [splice_nil]
 | c :: r, off, s, A, h => by
  simp only [List.length_cons] at h
  rw [List.zipIdx_cons, List.foldl_cons, fold_set r off (s + 1) _ (by simp; omega)]
  have := splice_cons A.toList (off + s) c r (by simp; omega)
  rw [← this]
  simp [Nat.add_assoc]
theorem fold_arr (cs : List Value) (off : Nat) (A : Array Value) (h : off + cs.length ≤ A.size) : cs.toArray.zipIdx.foldl (fun a x => a.setIfInBounds (off + x.2) x.1) A = (splice A.toList off cs).toArray := by
 have := fold_set cs off 0 A (by omega)
 rw [Nat.add_zero] at this
 rw [← this]
 simp
theorem info87 : (Tryd.prog.info? 76).map (fun i => (i.zero, i.size, i.bytes)) = some (some (.agg (Value.int .i64 0 :: Value.int .i64 0 :: zerosU8 64).toArray), 66, 80) := by kernel_rfl
theorem info93 : (Tryd.prog.info? 78).map (fun i => (i.zero, i.size, i.bytes)) = some (some (.agg (Value.int .i64 0 :: Value.int .i64 0 :: Value.int .i64 0 :: zerosU8 64).toArray), 67, 88) := by kernel_rfl
theorem info5 : (Tryd.prog.info? 5).map (·.size) = some 1 := by kernel_rfl

theorem fill_step (place : Nat → Option (Nat × Nat)) (A : Array Value) (i : Nat) (v : Value) (rest : List (Nat × Value)) (off size : Nat) (cs : List Value) (hp : place i = some (off, size)) (hv : v.cells = cs.toArray) (hl : cs.length = size) (hfit : off + cs.length ≤ A.size) :
  Instr.fill place A ((i, v) :: rest) = Instr.fill place (splice A.toList off cs).toArray rest := by
 have h1 : (decide (v.cells.size ≠ size) || decide (off + v.cells.size > A.size)) = false := by
  rw [hv]
  simp [hl]
  omega
 have h2 := fold_arr cs off A hfit
 rw [← hv] at h2
 rw [Instr.fill, hp]
 simp only [h1]
 rw [← h2]
 rfl
/-- a slice of one struct -/
theorem run_one {t e n bytes : Nat} {zs : List Value} (ht : Tryd.prog.underlying t = some (.slice e)) (hi : (Tryd.prog.info? e).map (fun i => (i.zero, i.size, i.bytes)) = some (some (.agg zs.toArray), n, bytes)) (hn : 0 < n) (hn' : n ≤ 100)
  (w : World) (cs : List Value) (hc : cs.length = n) : (Instr.buildSlice t 1 #[(0, .agg cs.toArray)]).run Tryd.prog w = .ok (.slice (some ⟨w.heap.size, 0, none⟩) 1 1) (w.alloc (.cells cs.toArray e)) := by
 obtain ⟨i, hi, h0, h1, h2⟩ := info_parts hi
 have e1 : ¬ n = 0 := by omega
 have e2 : ¬ 16777216 < n := by omega
 have hf : ∀ A : Array Value, A.size = n → Instr.fill (fun i => some (i * n, n)) A [(0, .agg cs.toArray)] = some cs.toArray := fun A hA => by
  rw [fill_step _ A 0 (.agg cs.toArray) [] 0 n cs (by simp) rfl hc (by omega), splice_all _ _ (by simp; omega)]
  rfl
 have hf' := hf ((Array.range n).map (zs.toArray[· % zs.toArray.size]!)) (by simp)
 simp only [List.size_toArray, List.getElem!_toArray] at hf'
 simp [Instr.buildSlice, run_underlying ht, sizeOf, typeInfo, hi, h1, e1, e2, zeroValue, h0, Value.cells, newRow]
 simp at hf'
 rw [hf']
 rfl
theorem und73 : Tryd.prog.underlying 104 = some (.slice 76) := Tryd.underlying104
theorem und90 : Tryd.prog.underlying 71 = some (.slice 78) := Tryd.underlying71

/-- a write with its device's number -/
theorem run_build93 (w : World) (d : Int) (cs : List Value) (hc : cs.length = 66) : (Instr.build 78 #[(0, .int .i64 d), (1, .agg cs.toArray)]).run Tryd.prog w = .ok (.agg (Value.int .i64 d :: cs).toArray) w := by
 have hf : Instr.fill (fun i => #[(0, 1), (1, 66)][i]?) (Value.int .i64 0 :: Value.int .i64 0 :: Value.int .i64 0 :: zerosU8 64).toArray [(0, .int .i64 d), (1, .agg cs.toArray)] = some (Value.int .i64 d :: cs).toArray := by
  rw [fill_step _ _ 0 (.int .i64 d) _ 0 1 [.int .i64 d] rfl rfl rfl (by simp), fill_step _ _ 1 (.agg cs.toArray) _ 1 66 cs rfl rfl hc (by simp [splice, zerosU8, hc])]
  simp [splice, zerosU8, hc, Instr.fill]
 have hz : (zeroValue 78).run Tryd.prog w = .ok (.agg (Value.int .i64 0 :: Value.int .i64 0 :: Value.int .i64 0 :: zerosU8 64).toArray) w := by kernel_rfl
 simp [Instr.build, hz, run_underlying Tryd.underlying78, Value.cells]
 simp at hf
 rw [hf]
 rfl
theorem run_build87 (w : World) (x y : Int) : (Instr.build 76 #[(0, .int .i64 x), (1, .int .i64 y)]).run Tryd.prog w = .ok (.agg (Value.int .i64 x :: Value.int .i64 y :: zerosU8 64).toArray) w := by kernel_rfl

theorem slice84 (g o : Nat) (W : World) : (Instr.sliceAt 74 (.pointer (some ⟨g, o, none⟩)) none none none).run Tryd.prog W = .ok (.slice (some ⟨g, o, none⟩) 64 64) W := by
 obtain ⟨i, hi, _⟩ := Option.map_eq_some_iff.1 info5
 simp [Instr.sliceAt, run_underlying Tryd.underlying74, Instr.sureAddr, Instr.sliceBounds, sizeOf, typeInfo, hi, add_none]
theorem slice84_32 (g o : Nat) (W : World) : (Instr.sliceAt 74 (.pointer (some ⟨g, o, none⟩)) none (some (.int .i64 32)) none).run Tryd.prog W = .ok (.slice (some ⟨g, o, none⟩) 32 64) W := by
 obtain ⟨i, hi, _⟩ := Option.map_eq_some_iff.1 info5
 simp [Instr.sliceAt, run_underlying Tryd.underlying74, Instr.sureAddr, Instr.sliceBounds, Instr.sliceBound, asIntOf, sizeOf, typeInfo, hi, add_none]

section
variable {w : World} {ops : Array Oper} {rest : List Oper} {o : Oper} {a : Act} {Q : Exit → Act → World → Prop}
/-- copy of bytes into a block that is known whole -/
theorem wpList_copy_row (d s : Operand) (hgd : o.guard = none) (ho : o.op = .call { callee := .builtin .copy, args := #[d, s], argTypes := #[28, 28] })
  (g off dLen dCap b so sLen sCap T k : Nat) (hd : a.eval d = .slice (some ⟨g, off, none⟩) dLen dCap) (hs : a.eval s = .slice (some ⟨b, so, none⟩) sLen sCap)
  (cur : List Value) (hr : Row w g T cur) (c : List Nat) (hk : c.length = k) (hn : k = Nat.min sLen dLen) (hsrc : ∀ j, j < c.length → w.cell? ⟨b, so + j, none⟩ = some (.int .u8 (c.getD j 0 : Nat))) (hfit : off + k ≤ cur.length)
  (h : ∀ w', Row w' g T (splice cur off (bcells c)) → w'.heap.size = w.heap.size → Ch (· = g) w w' → wpList Tryd.prog ops Q rest (a.put o.dst (.int .i64 (k : Nat))) w') : wpList Tryd.prog ops Q (o :: rest) a w := by
 have hbl : (bcells c).length = k := by rw [bcells_length]; exact hk
 refine wpList_copy_own hgd d s 28 28 ho 5 Tryd.underlying28 info5 g off dLen dCap ⟨b, so, none⟩ sLen sCap hd hs cur.toArray T hr (bcells c) (by rw [hbl]; exact hn) ?_ (by rw [hbl]; simpa using hfit) (bcells_one c) ?_
 ·intro j v hv
  have hj : j < c.length := by
   have := (List.getElem?_eq_some_iff.1 hv).1
   rwa [bcells_length] at this
  rw [add_none, hsrc j hj, ← hv, bcells_at c j hj]
 ·have hh := h (w.setRow g (splice cur off (bcells c)).toArray) (hr.setRow _) (by simp [World.setRow]) ((Ch.refl (· = g) w).setRow (g := g) (Or.inl rfl) _)
  rw [← hbl] at hh
  exact hh
/-- the address of an element of a slice -/
theorem wpList_indexAddr {t e n : Nat} (ht : Tryd.prog.underlying t = some (.slice e)) (hs : (Tryd.prog.info? e).map (·.size) = some n) (x ix : Operand) (hgd : o.guard = none) (ho : o.op = .indexAddr t x ix) (b off len cap j : Nat) (hx : a.eval x = .slice (some ⟨b, off, none⟩) len cap)
  (hix : a.eval ix = .int .i64 (j : Nat)) (hj : j < len) (h : wpList Tryd.prog ops Q rest (a.put o.dst (.pointer (some ⟨b, off + j * n, none⟩))) w) : wpList Tryd.prog ops Q (o :: rest) a w := by
 obtain ⟨i, hi, hsz⟩ := Option.map_eq_some_iff.1 hs
 refine wpList_value hgd _ w ?_ h
 simp [execOp, ho, hx, hix, Instr.indexAt, asIntOf, run_underlying ht, sizeOf, typeInfo, hi, hsz, hj, add_none]
end
theorem size87 : (Tryd.prog.info? 76).map (·.size) = some 66 := by kernel_rfl
theorem size93 : (Tryd.prog.info? 78).map (·.size) = some 67 := by kernel_rfl

def BytesIn (w : World) (b off : Nat) (cs : List Nat) : Prop := (∀ j, j < cs.length → w.cell? ⟨b, off + j, none⟩ = some (.int .u8 (cs.getD j 0 : Nat))) ∧ ∀ j, cs.getD j 0 < 256
/-- a slice value that holds just these bytes -/
def SliceIn (w : World) (v : Value) (cs : List Nat) : Prop :=
 ∃ p cap, v = .slice p cs.length cap ∧ (cs.length ≤ cap ∧ cs.length ≤ 9223372036854775807) ∧ (cs = [] ∨ ∃ b off, p = some ⟨b, off, none⟩ ∧ BytesIn w b off cs)
theorem BytesIn.lt {w : World} {b off : Nat} {cs : List Nat} (h : BytesIn w b off cs) (hne : cs ≠ []) : b < w.heap.size :=
 block_lt_of_cell (h.1 0 (by cases cs <;> simp_all))
theorem BytesIn.later {w wx : World} {b off : Nat} {cs : List Nat} (h : BytesIn w b off cs) (hb : Below w.heap.size w wx) : BytesIn wx b off cs :=
 ⟨fun j hj => by
  rw [← h.1 j hj]
  exact World.cell?_of_block (hb.block b (block_lt_of_cell (h.1 j hj))), h.2⟩
theorem SliceIn.later {w wx : World} {v : Value} {cs : List Nat} (hb : Below w.heap.size w wx) (h : SliceIn w v cs) : SliceIn wx v cs := by
 obtain ⟨p, cap, rfl, hl, h⟩ := h
 refine ⟨p, cap, rfl, hl, ?_⟩
 rcases h with h | ⟨b, off, rfl, h⟩
 ·exact Or.inl h
 ·exact Or.inr ⟨b, off, rfl, h.later hb⟩
end Go.Proofs.YthgidfoidbgnaaaDoor

namespace Go.Proofs.YthgidfoidbgnaaaDoor
open Go.RowKit Go.Maps

/-- a type whose values are one cell -/
def OneT (t : Nat) : Prop := ∀ (w : World) (g o : Nat) (v : Value), w.cell? ⟨g, o, none⟩ = some v → (loadVar t ⟨g, o, none⟩).run Tryd.prog w = .ok v w
theorem one3 : OneT 3 := fun w g o v h => by simp [loadVar, isAgg, run_underlying Tryd.underlying3, h]
theorem one70 : OneT 79 := fun w g o v h => by simp [loadVar, isAgg, run_underlying Tryd.underlying79, h]
theorem one72 : OneT 103 := fun w g o v h => by simp [loadVar, isAgg, run_underlying Tryd.underlying103, h]
theorem one73 : OneT 104 := fun w g o v h => by simp [loadVar, isAgg, run_underlying Tryd.underlying104, h]
theorem f76_3 : FieldAt 106 3 3 := fun w g off => by kernel_rfl
theorem f76_4 : FieldAt 106 4 4 := fun w g off => by kernel_rfl
section
variable {w : World} {ops : Array Oper} {rest : List Oper} {o : Oper} {a : Act} {Q : Exit → Act → World → Prop}
theorem wpList_load1 {t : Nat} (ht : OneT t) (x : Operand) (hgd : o.guard = none) (ho : o.op = .load t x) (g off : Nat) (hx : a.eval x = .pointer (some ⟨g, off, none⟩)) (v : Value) (hc : w.cell? ⟨g, off, none⟩ = some v)
  (h : wpList Tryd.prog ops Q rest (a.put o.dst v) w) : wpList Tryd.prog ops Q (o :: rest) a w :=
 wpList_value hgd _ w (by simp [execOp, ho, hx, Instr.loadAt, Instr.sureAddr, ht w g off v hc]) h
theorem wpList_lookMapOk' {α : Type} {E : Elem α} {b n : Nat} {f : Nat → Option α} (h : MapAt E w b n f) (m x : Operand) (t e : TypeId) (hgd : o.guard = none) (ho : o.op = .lookup t m x true) (ht : Tryd.prog.underlying t = some (.map 3 e)) (z : α) (hz : (zeroValue e).run Tryd.prog w = .ok (E.enc z) w) (hzo : E.ok z)
  (p : Nat) (hp : p < 4611686018427387904) (hm : a.eval m = .map (some b)) (hx : a.eval x = .int .i64 (p : Int)) (u : Value) (y : Bool) (hu : E.enc ((f p).getD z) = u) (hy : (f p).isSome = y) (hK : wpList Tryd.prog ops Q rest (a.put o.dst (.tuple #[u, .bool y])) w) : wpList Tryd.prog ops Q (o :: rest) a w := by
 subst hu hy
 exact wpList_lookMapOk h m x t e hgd ho ht z hz hzo p hp hm hx hK
end
theorem wrCells_length (x : Wr) (h : x.b.length = 64) : (wrCells x).length = 66 := by simp [wrCells, bcells_length, h]
/-- the cells of the j-th write -/
theorem wcells_at (l : List Wr) (h : ∀ x ∈ l, x.b.length = 64) (j i : Nat) (x : Wr) (hj : l[j]? = some x) (hi : i < 66) : (wcells l)[j * 66 + i]? = (wrCells x)[i]? := by
 induction l generalizing j with
 | nil => simp at hj
 | cons y l ih =>
  have hy := wrCells_length y (h y (by simp))
  unfold wcells at *
  rw [List.flatMap_cons]
  cases j with
  | zero =>
   simp at hj
   subst hj
   rw [List.getElem?_append_left (by omega)]
   simp
  | succ j =>
   rw [List.getElem?_append_right (by omega), hy, show (j + 1) * 66 + i - 66 = j * 66 + i by omega]
   exact ih (fun z hz => h z (by simp [hz])) j (by simpa using hj)
theorem ok0 : ints.ok 0 := (by decide : (Lit.int .i64 0).wf = true)
/-- the writes that wait, as cells of a block -/
theorem WtIn.cells {w : World} {c : Nat → Colour} {k : Colour} {v : Value} {wt : List Wr} (h : WtIn w c k v wt) (hw : ∀ x ∈ wt, x.b.length = 64) (hne : wt ≠ []) :
  ∃ b cap, v = .slice (some ⟨b, 0, none⟩) wt.length cap ∧ c b = k ∧ ∀ j x, wt[j]? = some x → ∀ i u, (wrCells x)[i]? = some u → w.cell? ⟨b, j * 66 + i, none⟩ = some u := by
 obtain ⟨⟨hl, h1⟩, h2⟩ := h
 rcases h1 with ⟨rfl, hn⟩ | ⟨g, cap, cur, rfl, h0, hg, hc1, hc2, hc3, hc4⟩
 ·exact absurd (List.length_eq_zero_iff.1 hn) hne
 ·refine ⟨g, cap, rfl, h2 g rfl, fun j x hj i u hu => ?_⟩
  have hjl : j < wt.length := (List.getElem?_eq_some_iff.1 hj).1
  have hx := wrCells_length x (hw x (List.mem_of_getElem? hj))
  have hi : i < 66 := by have := (List.getElem?_eq_some_iff.1 hu).1; omega
  have e : (wcells wt)[j * 66 + i]? = some u := by rw [wcells_at wt hw j i x hj hi]; exact hu
  rw [← hc4] at e
  rw [List.getElem?_take] at e
  split at e
  ·simp [World.cell?, hg]
   simpa using e
  ·cases e

set_option maxHeartbeats 1000000 in
set_option maxRecDepth 100000 in
theorem read_any {w : World} {c : Nat → Colour} {k : Colour} {g : Nat} {tape : Bool} {size : Nat} {fl : List (List Nat)} {wt : List Wr} (h : DevIn w c k g tape size fl wt) (p : Nat) (hp : p < 4096) (hwt : ∀ x ∈ wt, x.b.length = 64) (hfl : p < fl.length ∨ (lastIdx wt p).isSome = true) (hfs : ∀ s ∈ fl, s.length = 64) (s : List Nat) (hs : (lastAt wt p).getD (fl.getD p zeros) = s) :
  Calls Tryd.prog 78 #[ptr g, .int .i64 (p : Int)] w fun e w' => e = .returned (secV s) ∧ Below w.heap.size w w' := by
 go_enter Tryd.func78, Tryd.ntmps78
 go_upto_region 0 with fail
 refine wp_region_lit ?_
 refine wpList_alloc' (zerosU8 64) zero84 rfl rfl ?_
 intro w1 r1 s1 b1
 refine wpList_nil ?_
 obtain ⟨q, hq⟩ : ∃ q, q = w.heap.size := ⟨_, rfl⟩
 rw [← hq] at r1 s1 b1 ⊢
 have h1 : DevIn w1 c k g tape size fl wt := h.kept fun b hb hk => ⟨b1.block b (by omega), hk⟩
 obtain ⟨bm, bl, v, hr, _, _, _, _, ⟨f, n, hm, hff, hft⟩, hwi, ⟨nl, hl⟩⟩ := h1
 have c2 := hr.at 2 _ rfl
 have c3 := hr.at 3 _ rfl
 have c4 := hr.at 4 _ rfl
 have HB : Hid (Below q w w1) := b1
 have HQ : Hid (q = w.heap.size) := hq
 have HS : Hid (w1.heap.size = q + 1) := s1
 clear h hft b1 hq s1
 cases hi : lastIdx wt p with
 | none =>
  have hpl : p < fl.length := by rw [hi] at hfl; simpa using hfl
  have hla : lastAt wt p = none := by simp [lastAt, hi]
  rw [hla, Option.getD_none] at hs
  have hv : (f p).getD (List.replicate 64 0) = fl.getD p zeros := hff p hpl
  have hlen : ((fl.getD p zeros).map fun c : Nat => c).length = 64 := by
   simp only [List.length_map]
   rw [List.getD_eq_getElem?_getD, List.getElem?_eq_getElem hpl]
   exact hfs _ (List.getElem_mem hpl)
  simp only [List.length_map] at hlen
  rw [hs] at hlen hv
  clear hwi hff hfl hr hs
  go_upto_region 4 with (at_lookup; refine wpList_lookMapOk' hl _ _ 88 3 rfl rfl Tryd.underlying88 (0 : Int) (zeroInt _) ok0 p (by omega) rfl rfl (.int .i64 0) false (by rw [hi]; rfl) (by rw [hi]; rfl) ?_)
  refine wp_region_lit ?_
  refine wpList_move (.tmp 0) rfl rfl _ rfl ?_
  simp only [Act.put, aS, aC, aZ]
  refine wpList_nilCheck (.tmp 25) rfl rfl _ rfl ?_
  simp only [Act.put, aS, aC, aZ]
  refine wpList_field f76_2 (.tmp 26) rfl rfl g 0 rfl ?_
  simp only [Act.put, aS, aC, aZ]
  refine wpList_load1 (by first | exact one72 | exact one73 | exact one74 | exact one67) (.tmp 27) rfl rfl g (0 + 2) rfl _ c2 ?_
  simp only [Act.put, aS, aC, aZ]
  refine wpList_move (.tmp 1) rfl rfl _ rfl ?_
  simp only [Act.put, aS, aC, aZ]
  refine wpList_lookMap hm (.tmp 28) (.tmp 29) 103 74 rfl rfl Tryd.underlying103 (List.replicate 64 0) (zeroSec _) sec_zero p (by omega) rfl rfl ?_
  simp only [Act.put, aS, aC, aZ]
  rw [hv]
  refine wpList_store0 agg84 (.tmp 4) (.tmp 30) rfl rfl rfl q 0 74 rfl (bcells s) (zerosU8 64) rfl (by rw [bcells_length, hlen]) r1 (by rw [bcells_length, hlen]; simp [zerosU8]) (bcells_one _) ?_
  refine wpList_nil ?_
  have r2 := r1.setRow (bcells s)
  rw [splice_all _ _ (by rw [bcells_length, hlen]; simp [zerosU8])]
  have HB2 : Hid (Below w.heap.size w (w1.setRow q (bcells s).toArray)) := by
   rw [← HQ.out]
   exact HB.out.trans ⟨rfl, rfl, rfl, by simp [World.setRow], fun k hk => Go.setRow_other w1 _ k _ (by omega)⟩
  go_wp2
  exact bodyPost_ret (results_cell agg84 Tryd.results78 _ _ q 74 rfl _ (by rw [bcells_length, hlen]) r2) rfl ⟨rfl, HB2.out⟩
 | some j =>
  have hjl := lastIdx_lt hi
  obtain ⟨x, hx⟩ : ∃ x, wt[j]? = some x := ⟨_, List.getElem?_eq_getElem hjl⟩
  have hla : lastAt wt p = some x.b := by simp [lastAt, hi, hx]
  have hlen : x.b.length = 64 := hwt x (List.mem_of_getElem? hx)
  rw [hla, Option.getD_some] at hs
  obtain ⟨b, cap, rfl, _, hc⟩ := hwi.cells hwt (by rintro rfl; simp at hjl)
  have hcx : ∀ i u, (bcells x.b)[i]? = some u → w1.cell? ⟨b, 0 + j * 66 + 2 + i, none⟩ = some u := by
   intro i u hu
   have := hc j x hx (i + 2) u (by simpa [wrCells] using hu)
   rw [show 0 + j * 66 + 2 + i = j * 66 + (i + 2) by omega]
   exact this
  rw [hs] at hlen hcx
  clear hwi hff hfl hc hm hs
  generalize wt.length = L at *
  go_upto_region 3 with (at_lookup; refine wpList_lookMapOk' hl _ _ 88 3 rfl rfl Tryd.underlying88 (0 : Int) (zeroInt _) ok0 p (by omega) rfl rfl (.int .i64 (j : Int)) true (by rw [hi]; rfl) (by rw [hi]; rfl) ?_)
  refine wp_region_lit ?_
  refine wpList_move (.tmp 0) rfl rfl _ rfl ?_
  simp only [Act.put, aS, aC, aZ]
  refine wpList_nilCheck (.tmp 17) rfl rfl _ rfl ?_
  simp only [Act.put, aS, aC, aZ]
  refine wpList_field f76_3 (.tmp 18) rfl rfl g 0 rfl ?_
  simp only [Act.put, aS, aC, aZ]
  refine wpList_load1 (by first | exact one72 | exact one73 | exact one74 | exact one67) (.tmp 19) rfl rfl g (0 + 3) rfl _ c3 ?_
  simp only [Act.put, aS, aC, aZ]
  refine wpList_move (.tmp 5) rfl rfl _ rfl ?_
  simp only [Act.put, aS, aC, aZ]
  refine wpList_indexAddr und73 size87 (.tmp 20) (.tmp 21) rfl rfl b 0 L cap j rfl rfl hjl ?_
  simp only [Act.put, aS, aC, aZ]
  refine wpList_field f87_2 (.tmp 22) rfl rfl b (0 + j * 66) rfl ?_
  simp only [Act.put, aS, aC, aZ]
  refine wpList_load agg84 (.tmp 23) rfl rfl b (0 + j * 66 + 2) rfl (bcells s) (by rw [bcells_length, hlen]) hcx ?_
  simp only [Act.put, aS, aC, aZ]
  refine wpList_store0 agg84 (.tmp 4) (.tmp 24) rfl rfl rfl q 0 74 rfl (bcells s) (zerosU8 64) rfl (by rw [bcells_length, hlen]) r1 (by rw [bcells_length, hlen]; simp [zerosU8]) (bcells_one _) ?_
  refine wpList_nil ?_
  have r2 := r1.setRow (bcells s)
  rw [splice_all _ _ (by rw [bcells_length, hlen]; simp [zerosU8])]
  have HB2 : Hid (Below w.heap.size w (w1.setRow q (bcells s).toArray)) := by
   rw [← HQ.out]
   exact HB.out.trans ⟨rfl, rfl, rfl, by simp [World.setRow], fun k hk => Go.setRow_other w1 _ k _ (by omega)⟩
  go_wp2
  exact bodyPost_ret (results_cell agg84 Tryd.results78 _ _ q 74 rfl _ (by rw [bcells_length, hlen]) r2) rfl ⟨rfl, HB2.out⟩
end Go.Proofs.YthgidfoidbgnaaaDoor

namespace Go.Proofs.YthgidfoidbgnaaaDoor
open Go.RowKit Go.Maps

section
variable {ops : Array Oper} {Q : Exit → Act → World → Prop} {a : Act} {w : World} {listed : Array Bool} {fuel : Nat}
theorem takeA {i : Nat} (d : Option Tmp) {oi : Oper} {v : Value} (hi : ops[i]? = some oi) (hd : oi.dst = d)
  (hs : Region.noSelect ops = true) (hf : Region.free .any ops listed i = true) (hr : (Region.ready .any ops listed).contains i = true)
  (hQ : ∀ c a w, Q (.panic c) (a.put d v) w → Q (.panic c) a w) (hy : Yields Tryd.prog ops oi v a)
  (h : wpAny Tryd.prog .any ops Q fuel (listed.setIfInBounds i true) (a.put d v) w) : wpAny Tryd.prog .any ops Q (fuel + 1) listed a w := by
 subst hd
 exact wpAny_take hi hs hf hr hQ hy h
theorem anyOne {i : Nat} (hr : Region.ready .any ops listed = [i]) (h : wpOp Tryd.prog ops Q i (wpAny Tryd.prog .any ops Q fuel (listed.setIfInBounds i true)) a w) : wpAny Tryd.prog .any ops Q (fuel + 1) listed a w :=
 ⟨fun h0 => (by rw [hr] at h0; cases h0), fun j hj => by rw [hr] at hj; obtain rfl := List.mem_singleton.1 hj; exact h⟩
theorem anyTwo {i j : Nat} (hr : Region.ready .any ops listed = [i, j]) (h : wpOp Tryd.prog ops Q i (wpAny Tryd.prog .any ops Q fuel (listed.setIfInBounds i true)) a w) (h' : wpOp Tryd.prog ops Q j (wpAny Tryd.prog .any ops Q fuel (listed.setIfInBounds j true)) a w) : wpAny Tryd.prog .any ops Q (fuel + 1) listed a w :=
 ⟨fun h0 => (by rw [hr] at h0; cases h0), fun k hk => by
  rw [hr] at hk
  rcases List.mem_cons.1 hk with rfl | hk
  ·exact h
  ·obtain rfl := List.mem_singleton.1 hk
   exact h'⟩
theorem opValue {i : Nat} (d : Option Tmp) {o : Oper} {K : Act → World → Prop} (hi : ops[i]? = some o) (hd : o.dst = d) (hgd : o.guard = none) (v : Value) (w' : World) (hrun : (execOp a.eval o).run Tryd.prog w = .ok (.value v) w') (h : K (a.put d v) w') : wpOp Tryd.prog ops Q i K a w := by
 subst hd
 unfold wpOp
 have hw : Region.wanted o (yielded ops a.tmps) = true := by simp [Region.wanted, hgd]
 simp only [hi, hw, if_true, Oper.wp, hrun, Oper.upon]
 exact .inl h
theorem opCallA {i : Nat} (d : Option Tmp) {o : Oper} {K : Act → World → Prop} (hi : ops[i]? = some o) (hd : o.dst = d) (hgd : o.guard = none) (f : Nat) (args : Array Value) (hrun : (execOp a.eval o).run Tryd.prog w = .ok (.enter f args) w) (h : Calls Tryd.prog f args w fun e w' => ∃ v, e = .returned v ∧ K (a.put d v) w') : wpOp Tryd.prog ops Q i K a w := by
 subst hd
 unfold wpOp
 have hw : Region.wanted o (yielded ops a.tmps) = true := by simp [Region.wanted, hgd]
 simp only [hi, hw, if_true, Oper.wp, hrun, Oper.upon]
 refine .inl (Calls.mono h fun e w' he => ?_)
 obtain ⟨v, rfl, hK⟩ := he
 exact hK
theorem yMove {o : Oper} (hgd : o.guard = none) (x : Operand) (ho : o.op = .move x) (v : Value) (hv : a.eval x = v) : Yields Tryd.prog ops o v a :=
 Or.inl ⟨by simp [Region.wanted, hgd], fun w => by simp [execOp, ho, hv]⟩
theorem yNil {o : Oper} (hgd : o.guard = none) (x : Operand) (ho : o.op = .nilCheck x) (p : Addr) (hv : a.eval x = .pointer (some p)) : Yields Tryd.prog ops o (.pointer (some p)) a :=
 Or.inl ⟨by simp [Region.wanted, hgd], fun w => by simp [execOp, ho, hv]⟩
theorem yField {o : Oper} {T i k : Nat} (hf : FieldAt T i k) (hgd : o.guard = none) (x : Operand) (ho : o.op = .fieldAddr T x i) (g off : Nat) (hv : a.eval x = .pointer (some ⟨g, off, none⟩)) : Yields Tryd.prog ops o (.pointer (some ⟨g, off + k, none⟩)) a :=
 Or.inl ⟨by simp [Region.wanted, hgd], fun w => by simp [execOp, ho, hv, hf w g off]⟩
/-- the end of a region whose order is forced -/
theorem anySeq (l : List Oper) (n : Nat) (hl : ∀ j, l[j]? = ops[n + j]?) (hB : Region.seqB .any ops fuel n listed = true) (hf : fuel = l.length) (h : wpList Tryd.prog ops Q l a w) : wpAny Tryd.prog .any ops Q fuel listed a w := by
 subst hf
 exact wpAny_of_seq (md := .any) (Q' := Q) l n listed a w hl hB h
theorem anySeqD {l : List Oper} (n : Nat) (hB : Region.seqB .any l.toArray fuel n listed = true) (hf : fuel = l.length - n) (h : wpList Tryd.prog l.toArray Q (l.drop n) a w) : wpAny Tryd.prog .any l.toArray Q fuel listed a w :=
 anySeq (l.drop n) n (fun j => by simp [List.getElem?_drop]) hB (by simpa using hf) h
/-- a look i, and an operation j with k behind it: three orders, one end -/
theorem anyThree {i j k : Nat} {oi : Oper} (di dj dk : Tmp) (hi : ops[i]? = some oi) (hdi : oi.dst = some di) (gi : oi.guard = none) (hij : di ≠ dj) (hik : di ≠ dk) (nij : i ≠ j) (nik : i ≠ k)
  (r0 : Region.ready .any ops listed = [i, j]) (r1 : Region.ready .any ops (listed.setIfInBounds i true) = [j]) (r2 : Region.ready .any ops ((listed.setIfInBounds i true).setIfInBounds j true) = [k])
  (r3 : Region.ready .any ops (listed.setIfInBounds j true) = [i, k]) (r5 : Region.ready .any ops ((listed.setIfInBounds j true).setIfInBounds k true) = [i])
  (vi : Value) (J : Value → World → Prop) (K : Value → Value → World → Prop)
  (ei : (execOp a.eval oi).run Tryd.prog w = .ok (.value vi) w)
  (ei1 : ∀ v w', J v w' → (execOp (a.put (some dj) v).eval oi).run Tryd.prog w' = .ok (.value vi) w')
  (ei2 : ∀ v w' u w'', J v w' → K v u w'' → (execOp ((a.put (some dj) v).put (some dk) u).eval oi).run Tryd.prog w'' = .ok (.value vi) w'')
  (hj : ∀ R : Act → World → Prop, (∀ v w', J v w' → R (a.put (some dj) v) w') → wpOp Tryd.prog ops Q j R a w)
  (hj' : ∀ R : Act → World → Prop, (∀ v w', J v w' → R ((a.put (some di) vi).put (some dj) v) w') → wpOp Tryd.prog ops Q j R (a.put (some di) vi) w)
  (hk : ∀ v w', J v w' → ∀ R : Act → World → Prop, (∀ u w'', K v u w'' → R ((a.put (some dj) v).put (some dk) u) w'') → wpOp Tryd.prog ops Q k R (a.put (some dj) v) w')
  (hk' : ∀ v w', J v w' → ∀ R : Act → World → Prop, (∀ u w'', K v u w'' → R (((a.put (some di) vi).put (some dj) v).put (some dk) u) w'') → wpOp Tryd.prog ops Q k R ((a.put (some di) vi).put (some dj) v) w')
  (tail : ∀ v w' u w'', J v w' → K v u w'' → wpAny Tryd.prog .any ops Q fuel (((listed.setIfInBounds i true).setIfInBounds j true).setIfInBounds k true) (((a.put (some di) vi).put (some dj) v).put (some dk) u) w'') :
  wpAny Tryd.prog .any ops Q (fuel + 3) listed a w := by
 have cij : ∀ (b : Act) (u v : Value), (b.put (some dj) u).put (some di) v = (b.put (some di) v).put (some dj) u := fun b u v => by
  unfold Act.put
  simp [Array.setIfInBounds_comm _ _ hij]
 have cik : ∀ (b : Act) (u v : Value), (b.put (some dk) u).put (some di) v = (b.put (some di) v).put (some dk) u := fun b u v => by
  unfold Act.put
  simp [Array.setIfInBounds_comm _ _ hik]
 have sij : (listed.setIfInBounds j true).setIfInBounds i true = (listed.setIfInBounds i true).setIfInBounds j true := Array.setIfInBounds_comm _ _ (Ne.symm nij)
 refine anyTwo r0 ?_ ?_
 ·refine opValue (some di) hi hdi gi vi w ei (anyOne r1 (hj' _ fun v w' hJ => anyOne r2 (hk' v w' hJ _ fun u w'' hK => tail v w' u w'' hJ hK)))
 ·refine hj _ fun v w' hJ => anyTwo r3 ?_ ?_
  ·refine opValue (some di) hi hdi gi vi w' (ei1 v w' hJ) ?_
   rw [sij, cij]
   exact anyOne r2 (hk' v w' hJ _ fun u w'' hK => tail v w' u w'' hJ hK)
  ·refine hk v w' hJ _ fun u w'' hK => anyOne r5 (opValue (some di) hi hdi gi vi w'' (ei2 v w' u w'' hJ hK) ?_)
   rw [cik, cij, Array.setIfInBounds_comm _ _ (Ne.symm nik), sij]
   exact tail v w' u w'' hJ hK
theorem run_oneOp {o : Oper} {t e n bytes : Nat} {zs : List Value} (ht : Tryd.prog.underlying t = some (.slice e)) (hi : (Tryd.prog.info? e).map (fun i => (i.zero, i.size, i.bytes)) = some (some (.agg zs.toArray), n, bytes)) (hn : 0 < n) (hn' : n ≤ 100) (x : Operand) (ho : o.op = .buildSlice t 1 #[(0, x)]) (cs : List Value) (hc : cs.length = n) (hx : a.eval x = .agg cs.toArray) :
  (execOp a.eval o).run Tryd.prog w = .ok (.value (.slice (some ⟨w.heap.size, 0, none⟩) 1 1)) (w.alloc (.cells cs.toArray e)) := by
 simp [execOp, ho, hx, run_one ht hi hn hn' w cs hc]
theorem run_load1 {o : Oper} {t : Nat} (ht : OneT t) (x : Operand) (ho : o.op = .load t x) (g off : Nat) (hx : a.eval x = .pointer (some ⟨g, off, none⟩)) (v : Value) (hc : w.cell? ⟨g, off, none⟩ = some v) : (execOp a.eval o).run Tryd.prog w = .ok (.value v) w := by
 simp [execOp, ho, hx, Instr.loadAt, Instr.sureAddr, ht w g off v hc]
theorem run_loadA {o : Oper} {t n : Nat} (ht : AggT t n) (x : Operand) (ho : o.op = .load t x) (g off : Nat) (hx : a.eval x = .pointer (some ⟨g, off, none⟩)) (cs : List Value) (hn : cs.length = n) (hc : ∀ j v, cs[j]? = some v → w.cell? ⟨g, off + j, none⟩ = some v) : (execOp a.eval o).run Tryd.prog w = .ok (.value (.agg cs.toArray)) w := by
 simp [execOp, ho, hx, Instr.loadAt, Instr.sureAddr, run_loadVar ht w g off cs hn hc]
end
end Go.Proofs.YthgidfoidbgnaaaDoor

/- Laws for walks. -/
import Derived.Test.YtbmlbnbhjligdaaProg
import Derived.WalkKit
import Derived.Below
import Derived.Lib.QuietBelow
import Derived.Laws.CopyOwn
import Derived.Laws.Cells
import Derived.WalkSpells
import Derived.WalkLawsBesides
import Derived.BigQuiet
import Derived.Deep.QuietTactic
import Derived.Deep.Cut
import Derived.Shelf.Abstract
import Derived.OrdersHeld
import Derived.Laws.BytesArg
namespace Go.Proofs.Ytbmlbnbhjligdaa
open Go.RowKit
/-- block g holds just these cells; none of them is frozen -/
def Row (w : World) (g : Nat) (t : TypeId) (cs : List Value) : Prop := w.heap[g]? = some (.cells cs.toArray t (0, 0))
theorem add_none (g o j : Nat) : (⟨g, o, none⟩ : Addr).add j = ⟨g, o + j, none⟩ := by unfold Addr.add; split <;> simp_all
theorem Row.lt {w : World} {g : Nat} {t : TypeId} {cs : List Value} (h : Row w g t cs) : g < w.heap.size := (Array.getElem?_eq_some_iff.1 h).1
theorem Row.cell {w : World} {g : Nat} {t : TypeId} {cs : List Value} (h : Row w g t cs) (i : Nat) : w.cell? ⟨g, i, none⟩ = cs[i]? := by
  unfold Row at h
  simp [World.cell?, h]
theorem Row.at {w : World} {g : Nat} {t : TypeId} {cs : List Value} (h : Row w g t cs) (i : Nat) (v : Value) (hv : cs[i]? = some v) : w.cell? ⟨g, i, none⟩ = some v := by
  rw [h.cell, hv]
theorem Row.frozen {w : World} {g : Nat} {t : TypeId} {cs : List Value} (h : Row w g t cs) (i : Nat) : w.frozen? ⟨g, i, none⟩ = false := by
  unfold Row at h
  simp [World.frozen?, h]
theorem Row.later {w w' : World} {B g : Nat} {t : TypeId} {cs : List Value} (h : Row w g t cs) (hb : Below B w w') (hg : g < B) : Row w' g t cs := by
  unfold Row
  rw [hb.block g hg]
  exact h
theorem Row.new (w : World) (t : TypeId) (cs : List Value) : Row (w.alloc (.cells cs.toArray t)) w.heap.size t cs := by
  show (w.heap.push _)[w.heap.size]? = _
  simp
theorem Row.new' (w : World) (t : TypeId) (cs : Array Value) : Row (w.alloc (.cells cs t)) w.heap.size t cs.toList := by
  show (w.heap.push _)[w.heap.size]? = _
  simp
theorem Row.alloc {w : World} {g : Nat} {t : TypeId} {cs : List Value} (h : Row w g t cs) (o : Obj) : Row (w.alloc o) g t cs := by
  unfold Row
  rw [Below.heap_alloc _ _ _ h.lt]
  exact h
theorem Row.setRow {w : World} {g : Nat} {t : TypeId} {cs : List Value} (h : Row w g t cs) (xs : List Value) : Row (w.setRow g xs.toArray) g t xs := setRow_heap w g _ _ t _ h
theorem Row.setRow_other {w : World} {g k : Nat} {t : TypeId} {cs : List Value} (h : Row w k t cs) (hk : k ≠ g) (xs : Array Value) : Row (w.setRow g xs) k t cs := by
  unfold Row
  rw [Go.setRow_other w g k xs hk]
  exact h
theorem Row.setCell {w : World} {g : Nat} {t : TypeId} {cs : List Value} (h : Row w g t cs) (i : Nat) (v : Value) : Row (w.setCell ⟨g, i, none⟩ v) g t (cs.set i v) := by
  rw [setCell_eq_setRow w g i _ t (0, 0) v h]
  have := setRow_heap w g _ (cs.toArray.setIfInBounds i v) t (0, 0) h
  unfold Row
  rw [this]
  simp
theorem Row.setCell_other {w : World} {g k : Nat} {t : TypeId} {cs : List Value} (h : Row w k t cs) (hk : k ≠ g) (i : Nat) (v : Value) : Row (w.setCell ⟨g, i, none⟩ v) k t cs := by
  unfold Row
  rw [Below.heap_setCell w _ v k hk]
  exact h
theorem Row.drewN {w : World} {g : Nat} {t : TypeId} {cs : List Value} (h : Row w g t cs) (n : Nat) : Row (w.drewN n) g t cs := h
theorem Below.drewN {B : Nat} {a w : World} (h : Below B a w) (n : Nat) : Below B a (w.drewN n) := ⟨h.os, h.tape, h.output, h.size, h.block⟩
/-- a type whose values are n cells side by side -/
def AggT (t n : Nat) : Prop := ((∃ fs, Try.prog.underlying t = some (.struct fs)) ∨ ∃ k e, Try.prog.underlying t = some (.array k e)) ∧ (Try.prog.info? t).map (·.size) = some n
theorem run_loadVar {t n : Nat} (ht : AggT t n) (w : World) (g o : Nat) (cs : List Value) (hn : cs.length = n) (hc : ∀ j v, cs[j]? = some v → w.cell? ⟨g, o + j, none⟩ = some v) :
    (loadVar t ⟨g, o, none⟩).run Try.prog w = .ok (.agg cs.toArray) w := by
  obtain ⟨hu, hs⟩ := ht
  obtain ⟨i, hi, hsz⟩ := Option.map_eq_some_iff.1 hs
  have hl := run_loadCells_list (P := Try.prog) w ⟨g, o, none⟩ cs (fun j v hv => by rw [add_none]; exact hc j v hv)
  rw [hn] at hl
  rcases hu with ⟨fs, hu⟩ | ⟨k, e, hu⟩
  · simp [loadVar, isAgg, run_underlying hu, sizeOf, typeInfo, hi, hsz, hl]
  · simp [loadVar, isAgg, run_underlying hu, sizeOf, typeInfo, hi, hsz, hl]
theorem run_storeVar {t n : Nat} (ht : AggT t n) (w : World) (g o T : Nat) (cur cs : List Value) (hn : cs.length = n) (hr : Row w g T cur) (hfit : o + cs.length ≤ cur.length) (h1 : ∀ v ∈ cs, v.oneCell' = true) :
    (storeVar t ⟨g, o, none⟩ (.agg cs.toArray)).run Try.prog w = .ok () (w.setRow g (splice cur o cs).toArray) := by
  obtain ⟨hu, hs⟩ := ht
  obtain ⟨i, hi, hsz⟩ := Option.map_eq_some_iff.1 hs
  have hst := run_storeCells_at (P := Try.prog) g o T cs 0 cur.toArray w hr (by simpa using hfit) h1
  simp only [Nat.add_zero] at hst
  simp [storeVar, sizeOf, typeInfo, hi, hsz, Value.cells, hn, hst, splice]
section
variable {w : World} {ops : Array Oper} {rest : List Oper} {o : Oper} {a : Act} {Q : Exit → Act → World → Prop}
end
/-- what a function hands back out of its result's block -/
theorem results_cell {fn : Func} {p : Tmp} {t n : Nat} (ht : AggT t n) (h : fn.results = #[.cell p t]) (tmps : Array Value) (w : World) (g T : Nat) (hp : tmps.getD p undef = .pointer (some ⟨g, 0, none⟩)) (cs : List Value) (hn : cs.length = n) (hr : Row w g T cs) :
    (results fn tmps).run Try.prog w = .ok (.agg cs.toArray) w := by
  have hl := run_loadVar ht w g 0 cs hn (fun j v hv => by rw [Nat.zero_add]; exact hr.at j v hv)
  have hp' : tmps[p]?.getD undef = .pointer (some ⟨g, 0, none⟩) := by simpa using hp
  simp [results, h, hp', asAddr, hl]
def zerosU8 (n : Nat) : List Value := List.replicate n (.int .u8 0)
end Go.Proofs.Ytbmlbnbhjligdaa
namespace Go.Proofs.Ytbmlbnbhjligdaa
open Go.RowKit Go.MapKept
/-- bytes as cells -/
def bcells (cs : List Nat) : List Value := cs.map fun c => Value.int .u8 (c : Nat)
theorem bcells_length (cs : List Nat) : (bcells cs).length = cs.length := by simp [bcells]
theorem bcells_append (a b : List Nat) : bcells (a ++ b) = bcells a ++ bcells b := by simp [bcells]
theorem bcells_one (cs : List Nat) : ∀ v ∈ bcells cs, v.oneCell' = true := by
  intro v hv
  obtain ⟨c, _, rfl⟩ := List.mem_map.1 hv
  rfl
theorem bcells_at (cs : List Nat) (i : Nat) (h : i < cs.length) : (bcells cs)[i]? = some (.int .u8 (cs.getD i 0 : Nat)) := by simp [bcells, h]
theorem bcells_inj {a b : List Nat} (h : bcells a = bcells b) : a = b := by
  have : Function.Injective (fun c : Nat => Value.int .u8 (c : Int)) := by
    intro x y hxy
    simp only [Value.int.injEq, true_and] at hxy
    omega
  exact List.map_inj_right (f := fun c : Nat => Value.int .u8 (c : Int)) (fun x y hxy => this hxy) |>.1 h
section
end
section
end
end Go.Proofs.Ytbmlbnbhjligdaa
namespace Go.Proofs.Ytbmlbnbhjligdaa
open Go.RowKit
/-- nothing has turned but blocks of S, and what is new -/
structure Ch (S : Nat → Prop) (w w' : World) : Prop where
  os : w'.os = w.os
  tape : w'.tape = w.tape
  output : w'.output = w.output
  size : w.heap.size ≤ w'.heap.size
  block : ∀ k, k < w.heap.size → ¬ S k → w'.heap[k]? = w.heap[k]?
theorem Ch.refl (S : Nat → Prop) (w : World) : Ch S w w := ⟨rfl, rfl, rfl, Nat.le_refl _, fun _ _ _ => rfl⟩
theorem Ch.trans {S : Nat → Prop} {a b c : World} (h : Ch S a b) (k : Ch S b c) : Ch S a c :=
  ⟨k.os.trans h.os, k.tape.trans h.tape, k.output.trans h.output, Nat.le_trans h.size k.size, fun i hi hn => (k.block i (Nat.lt_of_lt_of_le hi h.size) hn).trans (h.block i hi hn)⟩
theorem Ch.trans' {S S' : Nat → Prop} {a b c : World} (h : Ch S a b) (k : Ch S' b c) (hs : ∀ i, i < a.heap.size → S' i → S i) : Ch S a c :=
  ⟨k.os.trans h.os, k.tape.trans h.tape, k.output.trans h.output, Nat.le_trans h.size k.size, fun i hi hn => (k.block i (Nat.lt_of_lt_of_le hi h.size) (fun hs' => hn (hs i hi hs'))).trans (h.block i hi hn)⟩
theorem Ch.mono {S S' : Nat → Prop} {w w' : World} (h : Ch S w w') (hs : ∀ i, i < w.heap.size → S i → S' i) : Ch S' w w' :=
  ⟨h.os, h.tape, h.output, h.size, fun i hi hn => h.block i hi (fun hs' => hn (hs i hi hs'))⟩
theorem Ch.of_below {S : Nat → Prop} {w w' : World} (h : Below w.heap.size w w') : Ch S w w' := ⟨h.os, h.tape, h.output, h.size, fun k hk _ => h.block k hk⟩
theorem Ch.below {S : Nat → Prop} {B : Nat} {w w' : World} (h : Ch S w w') (hB : B ≤ w.heap.size) (hS : ∀ i, i < B → ¬ S i) : Below B w w' :=
  ⟨h.os, h.tape, h.output, h.size, fun k hk => h.block k (by omega) (hS k hk)⟩
theorem Ch.drewN {S : Nat → Prop} {a w : World} (h : Ch S a w) (n : Nat) : Ch S a (w.drewN n) := ⟨h.os, h.tape, h.output, h.size, h.block⟩
theorem Ch.setCell {S : Nat → Prop} {a w : World} (h : Ch S a w) {g : Nat} (hg : S g ∨ a.heap.size ≤ g) (i : Nat) (v : Value) : Ch S a (w.setCell ⟨g, i, none⟩ v) :=
  ⟨h.os, h.tape, h.output, by simpa using h.size, fun k hk hn => (Below.heap_setCell w _ v k (by rintro rfl; rcases hg with hg | hg; exact hn hg; omega)).trans (h.block k hk hn)⟩
theorem Ch.setRow {S : Nat → Prop} {a w : World} (h : Ch S a w) {g : Nat} (hg : S g ∨ a.heap.size ≤ g) (xs : Array Value) : Ch S a (w.setRow g xs) :=
  ⟨h.os, h.tape, h.output, by simpa [World.setRow] using h.size, fun k hk hn => (Go.setRow_other w g k xs (by rintro rfl; rcases hg with hg | hg; exact hn hg; omega)).trans (h.block k hk hn)⟩
theorem Ch.alloc {S : Nat → Prop} {a w : World} (h : Ch S a w) (o : Obj) : Ch S a (w.alloc o) :=
  ⟨h.os, h.tape, h.output, by have := h.size; simp; omega, fun k hk hn => (Below.heap_alloc w o k (Nat.lt_of_lt_of_le hk h.size)).trans (h.block k hk hn)⟩
theorem Ch.grown {S : Nat → Prop} {a w w' : World} (h : Ch S a w) {row : Option Nat} (hg : w.grownBy w' row) (hr : ∀ k, row = some k → S k ∨ a.heap.size ≤ k) : Ch S a w' :=
  ⟨hg.os.trans h.os, hg.tape.trans h.tape, hg.output.trans h.output, Nat.le_trans h.size hg.size, fun k hk hn => (hg.block k (Nat.lt_of_lt_of_le hk h.size) (fun e => by rcases hr k e.symm with hs | hs; exact hn hs; omega)).trans (h.block k hk hn)⟩
theorem Ch.row {S : Nat → Prop} {w w' : World} (h : Ch S w w') {k : Nat} {t : TypeId} {cs : List Value} (hk : ¬ S k) (hr : Row w k t cs) : Row w' k t cs := by
  unfold Row
  rw [h.block k hr.lt hk]
  exact hr
theorem Ch.cell {S : Nat → Prop} {w w' : World} (h : Ch S w w') {b i : Nat} {v : Value} (hb : ¬ S b) (hc : w.cell? ⟨b, i, none⟩ = some v) : w'.cell? ⟨b, i, none⟩ = some v := by
  rw [← hc]
  exact World.cell?_of_block (w := w) (h.block b (block_lt_of_cell hc) hb)
theorem Ch.one {g : Nat} {w w' : World} (h : Ch (· = g) w w') (k : Nat) (hk : k < w.heap.size) (hne : k ≠ g) : w'.heap[k]? = w.heap[k]? := h.block k hk hne
end Go.Proofs.Ytbmlbnbhjligdaa
namespace Go.Proofs.Ytbmlbnbhjligdaa
open Go.RowKit
abbrev ptr (g : Nat) : Value := .pointer (some ⟨g, 0, none⟩)
section
end
end Go.Proofs.Ytbmlbnbhjligdaa
namespace Go.Proofs.Ytbmlbnbhjligdaa
open Go.RowKit
section
variable {w : World} {ops : Array Oper} {rest : List Oper} {o : Oper} {a : Act} {Q : Exit → Act → World → Prop}
/-- the address of a field -/
def FieldAt (T i k : Nat) : Prop := ∀ (w : World) (g off : Nat), (Instr.fieldAt T (.pointer (some ⟨g, off, none⟩)) i).run Try.prog w = .ok (.pointer (some ⟨g, off + k, none⟩)) w
/-- alloc and store of a whole struct or array behind it -/
theorem splice_all {α : Type} (zs cs : List α) (h : cs.length = zs.length) : splice zs 0 cs = cs := by
  unfold splice
  simp [h]
end
section
variable {P : Program} {ops : Array Oper} {C : World → Prop} {R : Act → Prop} {o : Oper} {rest : List Oper} {a : Act}
end
section
end
end Go.Proofs.Ytbmlbnbhjligdaa
namespace Go.Proofs.Ytbmlbnbhjligdaa
open Go.RowKit
theorem splice_cons {α : Type} (A : List α) (o : Nat) (c : α) (r : List α) (h : o + (r.length + 1) ≤ A.length) : splice (A.set o c) (o + 1) r = splice A o (c :: r) := by
  unfold splice
  rw [List.take_succ_eq_append_getElem (by simp; omega), List.take_set_of_le (Nat.le_refl _), List.getElem_set_self, List.drop_set_of_lt (by omega), List.append_assoc]
  simp [show o + 1 + r.length = o + (r.length + 1) by omega]
theorem splice_nil {α : Type} (A : List α) (o : Nat) : splice A o [] = A := by simp [splice]
theorem fold_set : ∀ (cs : List Value) (off s : Nat) (A : Array Value), off + s + cs.length ≤ A.size → (cs.zipIdx s).foldl (fun a x => a.setIfInBounds (off + x.2) x.1) A = (splice A.toList (off + s) cs).toArray
  | [], off, s, A, _ => by simp [splice_nil]
  | c :: r, off, s, A, h => by
    simp only [List.length_cons] at h
    rw [List.zipIdx_cons, List.foldl_cons, fold_set r off (s + 1) _ (by simp; omega)]
    have := splice_cons A.toList (off + s) c r (by simp; omega)
    rw [← this]
    simp [Nat.add_assoc]
theorem fold_arr (cs : List Value) (off : Nat) (A : Array Value) (h : off + cs.length ≤ A.size) : cs.toArray.zipIdx.foldl (fun a x => a.setIfInBounds (off + x.2) x.1) A = (splice A.toList off cs).toArray := by
  have := fold_set cs off 0 A (by omega)
  rw [Nat.add_zero] at this
  rw [← this]
  simp
theorem info5 : (Try.prog.info? 5).map (·.size) = some 1 := by kernel_rfl
section
variable {w : World} {ops : Array Oper} {rest : List Oper} {o : Oper} {a : Act} {Q : Exit → Act → World → Prop}
end
end Go.Proofs.Ytbmlbnbhjligdaa
namespace Go.Proofs.Ytbmlbnbhjligdaa
open Go.RowKit
/-- a type whose values are one cell -/
def OneT (t : Nat) : Prop := ∀ (w : World) (g o : Nat) (v : Value), w.cell? ⟨g, o, none⟩ = some v → (loadVar t ⟨g, o, none⟩).run Try.prog w = .ok v w
section
variable {w : World} {ops : Array Oper} {rest : List Oper} {o : Oper} {a : Act} {Q : Exit → Act → World → Prop}
end
end Go.Proofs.Ytbmlbnbhjligdaa
namespace Go.Proofs.Ytbmlbnbhjligdaa
open Go.RowKit
section
variable {ops : Array Oper} {Q : Exit → Act → World → Prop} {a : Act} {w : World} {listed : Array Bool} {fuel : Nat}
theorem takeA {i : Nat} (d : Option Tmp) {oi : Oper} {v : Value} (hi : ops[i]? = some oi) (hd : oi.dst = d)
    (hs : Region.noSelect ops = true) (hf : Region.free .any ops listed i = true) (hr : (Region.ready .any ops listed).contains i = true)
    (hQ : ∀ c a w, Q (.panic c) (a.put d v) w → Q (.panic c) a w) (hy : Yields Try.prog ops oi v a)
    (h : wpAny Try.prog .any ops Q fuel (listed.setIfInBounds i true) (a.put d v) w) : wpAny Try.prog .any ops Q (fuel + 1) listed a w := by
  subst hd
  exact wpAny_take hi hs hf hr hQ hy h
theorem anyOne {i : Nat} (hr : Region.ready .any ops listed = [i]) (h : wpOp Try.prog ops Q i (wpAny Try.prog .any ops Q fuel (listed.setIfInBounds i true)) a w) : wpAny Try.prog .any ops Q (fuel + 1) listed a w :=
  ⟨fun h0 => (by rw [hr] at h0; cases h0), fun j hj => by rw [hr] at hj; obtain rfl := List.mem_singleton.1 hj; exact h⟩
theorem anyTwo {i j : Nat} (hr : Region.ready .any ops listed = [i, j]) (h : wpOp Try.prog ops Q i (wpAny Try.prog .any ops Q fuel (listed.setIfInBounds i true)) a w) (h' : wpOp Try.prog ops Q j (wpAny Try.prog .any ops Q fuel (listed.setIfInBounds j true)) a w) : wpAny Try.prog .any ops Q (fuel + 1) listed a w :=
  ⟨fun h0 => (by rw [hr] at h0; cases h0), fun k hk => by
    rw [hr] at hk
    rcases List.mem_cons.1 hk with rfl | hk
    · exact h
    · obtain rfl := List.mem_singleton.1 hk
      exact h'⟩
theorem opValue {i : Nat} (d : Option Tmp) {o : Oper} {K : Act → World → Prop} (hi : ops[i]? = some o) (hd : o.dst = d) (hgd : o.guard = none) (v : Value) (w' : World) (hrun : (execOp a.eval o).run Try.prog w = .ok (.value v) w') (h : K (a.put d v) w') : wpOp Try.prog ops Q i K a w := by
  subst hd
  unfold wpOp
  have hw : Region.wanted o (yielded ops a.tmps) = true := by simp [Region.wanted, hgd]
  simp only [hi, hw, if_true, Oper.wp, hrun, Oper.upon]
  exact .inl h
theorem opCallA {i : Nat} (d : Option Tmp) {o : Oper} {K : Act → World → Prop} (hi : ops[i]? = some o) (hd : o.dst = d) (hgd : o.guard = none) (f : Nat) (args : Array Value) (hrun : (execOp a.eval o).run Try.prog w = .ok (.enter f args) w) (h : Calls Try.prog f args w fun e w' => ∃ v, e = .returned v ∧ K (a.put d v) w') : wpOp Try.prog ops Q i K a w := by
  subst hd
  unfold wpOp
  have hw : Region.wanted o (yielded ops a.tmps) = true := by simp [Region.wanted, hgd]
  simp only [hi, hw, if_true, Oper.wp, hrun, Oper.upon]
  refine .inl (Calls.mono h fun e w' he => ?_)
  obtain ⟨v, rfl, hK⟩ := he
  exact hK
theorem run_load1 {o : Oper} {t : Nat} (ht : OneT t) (x : Operand) (ho : o.op = .load t x) (g off : Nat) (hx : a.eval x = .pointer (some ⟨g, off, none⟩)) (v : Value) (hc : w.cell? ⟨g, off, none⟩ = some v) : (execOp a.eval o).run Try.prog w = .ok (.value v) w := by
  simp [execOp, ho, hx, Instr.loadAt, Instr.sureAddr, ht w g off v hc]
theorem run_loadA {o : Oper} {t n : Nat} (ht : AggT t n) (x : Operand) (ho : o.op = .load t x) (g off : Nat) (hx : a.eval x = .pointer (some ⟨g, off, none⟩)) (cs : List Value) (hn : cs.length = n) (hc : ∀ j v, cs[j]? = some v → w.cell? ⟨g, off + j, none⟩ = some v) : (execOp a.eval o).run Try.prog w = .ok (.value (.agg cs.toArray)) w := by
  simp [execOp, ho, hx, Instr.loadAt, Instr.sureAddr, run_loadVar ht w g off cs hn hc]
end
end Go.Proofs.Ytbmlbnbhjligdaa
namespace Go.Proofs.Ytbmlbnbhjligdaa
open Go.RowKit
section
variable {w : World} {ops : Array Oper} {rest : List Oper} {o : Oper} {a : Act} {Q : Exit → Act → World → Prop}
theorem splice_one {α : Type} (cur : List α) (i : Nat) (v : α) (h : i < cur.length) : splice cur i [v] = cur.set i v := by
  unfold splice
  rw [List.set_eq_take_append_cons_drop, if_pos h]
  rfl
theorem run_store1 {t : Nat} (ht : (Try.prog.info? t).map (·.size) = some 1) (w : World) (g off T : Nat) (cur : List Value) (v : Value) (hv : v.cells = #[v]) (h1 : v.oneCell' = true) (hr : Row w g T cur) (hfit : off < cur.length) :
    (storeVar t ⟨g, off, none⟩ v).run Try.prog w = .ok () (w.setRow g (cur.set off v).toArray) := by
  obtain ⟨i, hi, hsz⟩ := Option.map_eq_some_iff.1 ht
  have hst := run_storeCells_at (P := Try.prog) g off T [v] 0 cur.toArray w hr (by simp; omega) (by simpa using h1)
  simp only [Nat.add_zero] at hst
  rw [← splice_one cur off v hfit]
  simp [storeVar, sizeOf, typeInfo, hi, hsz, hv]
  simpa [splice] using hst
end
end Go.Proofs.Ytbmlbnbhjligdaa
namespace Go.Proofs.Ytbmlbnbhjligdaa
open Go.RowKit
section
variable {w : World} {ops : Array Oper} {rest : List Oper} {o : Oper} {a : Act} {Q : Exit → Act → World → Prop}
/-- a function that has a body is entered -/
def EntersF (f : Nat) : Prop := ∀ args w, (callFunc f args).run Try.prog w = .ok (.enter f args) w
theorem run_call {f : Nat} (ef : EntersF f) (xs : List Operand) (ts : Array TypeId) (ho : o.op = .call { callee := .value (.func f), args := xs.toArray, argTypes := ts }) (vs : List Value) (hv : xs.map a.eval = vs) : (execOp a.eval o).run Try.prog w = .ok (.enter f vs.toArray) w := by
  subst hv
  have hen := ef (xs.map a.eval).toArray w
  simp [execOp, ho, resolve, BigFrame.eval_func, Deferred.ofValue, invoke, hen]
end
end Go.Proofs.Ytbmlbnbhjligdaa
namespace Go.Proofs.Ytbmlbnbhjligdaa
open Go.RowKit
section
variable {ops : Array Oper} {Q : Exit → Act → World → Prop} {S : World → Prop} {a : Act} {w : World} {listed : Array Bool} {fuel : Nat}
theorem takeH {i : Nat} (d : Option Tmp) {oi : Oper} {v : Value} (hi : ops[i]? = some oi) (hd : oi.dst = d)
    (hs : Region.noSelect ops = true) (hf : Region.free .any ops listed i = true) (hr : (Region.ready .any ops listed).contains i = true)
    (hQ : ∀ c a w, Q (.panic c) (a.put d v) w → Q (.panic c) a w) (hy : YieldsIf Try.prog ops S oi v a) (hS : S w)
    (h : wpAnyH Try.prog .any ops Q S fuel (listed.setIfInBounds i true) (a.put d v) w) : wpAnyH Try.prog .any ops Q S (fuel + 1) listed a w := by
  subst hd
  exact wpAnyH_take hi hs hf hr hQ hy hS h
theorem oneH {i : Nat} (hr : Region.ready .any ops listed = [i]) (h : wpOp Try.prog ops Q i (fun a' w' => S w' ∧ wpAnyH Try.prog .any ops Q S fuel (listed.setIfInBounds i true) a' w') a w) : wpAnyH Try.prog .any ops Q S (fuel + 1) listed a w :=
  wpAnyH_all (rs := [i]) hr (by simp) fun j hj => by obtain rfl := List.mem_singleton.1 hj; exact h
theorem opSkip {i : Nat} {o : Oper} {K : Act → World → Prop} (hi : ops[i]? = some o) (hd : o.dst = none) (hgd : o.guard = none) (w' : World) (hrun : (execOp a.eval o).run Try.prog w = .ok .skip w') (h : K a w') : wpOp Try.prog ops Q i K a w := by
  unfold wpOp
  have hw : Region.wanted o (yielded ops a.tmps) = true := by simp [Region.wanted, hgd]
  simp only [hi, hw, if_true, Oper.wp, hrun, Oper.upon]
  refine .inl ?_
  rw [hd]
  exact h
theorem run_not {o : Oper} (x : Operand) (ty : TypeId) (ho : o.op = .unOp .not ty x) (y : Bool) (hx : a.eval x = .bool y) : (execOp a.eval o).run Try.prog w = .ok (.value (.bool (!y))) w := by
  simp [execOp, ho, hx, Op.unary]
theorem run_storeOp1 {o : Oper} {t : Nat} (ht : (Try.prog.info? t).map (·.size) = some 1) (x y : Operand) (ho : o.op = .store t x y) (g off T : Nat) (hx : a.eval x = .pointer (some ⟨g, off, none⟩)) (v : Value) (cur : List Value) (hy : a.eval y = v) (hv : v.cells = #[v]) (h1 : v.oneCell' = true)
    (hr : Row w g T cur) (hfit : off < cur.length) : (execOp a.eval o).run Try.prog w = .ok .skip (w.setRow g (cur.set off v).toArray) := by
  simp [execOp, ho, hx, hy, Instr.storeAt, Instr.sureAddr, run_store1 ht w g off T cur v hv h1 hr hfit]
end
end Go.Proofs.Ytbmlbnbhjligdaa
namespace Go.Proofs.Ytbmlbnbhjligdaa
open Go.RowKit
theorem bytes_inj : ∀ (a b : List Nat), (∀ c ∈ a, c < 256) → (∀ c ∈ b, c < 256) → a.map UInt8.ofNat = b.map UInt8.ofNat → a = b
  | [], [], _, _, _ => rfl
  | [], _ :: _, _, _, h => by simp at h
  | _ :: _, [], _, _, h => by simp at h
  | x :: a, y :: b, ha, hb, h => by
    simp only [List.map_cons, List.cons.injEq] at h
    have hx := ha x (by simp)
    have hy := hb y (by simp)
    have e : x = y := by
      have := congrArg UInt8.toNat h.1
      simp at this
      omega
    rw [e, bytes_inj a b (fun c hc => ha c (by simp [hc])) (fun c hc => hb c (by simp [hc])) h.2]
end Go.Proofs.Ytbmlbnbhjligdaa
namespace Go.Proofs.Ytbmlbnbhjligdaa
open Go.RowKit
theorem slice_of_own {w : World} {base e size n : Nat} {v : Value} {xs : List Value} (h : w.ownsRow base e size v n xs) : v.cells = #[v] ∧ v.oneCell' = true := by
  obtain ⟨_, h⟩ := h
  rcases h with ⟨rfl, _⟩ | ⟨_, _, _, rfl, _⟩
  · exact ⟨rfl, rfl⟩
  · exact ⟨rfl, rfl⟩
theorem own_kept {w w' : World} {base e size n : Nat} {v : Value} {xs : List Value} (h : w.ownsRow base e size v n xs) (hb : ∀ b, v.ownBlock = some b → w'.heap[b]? = w.heap[b]?) : w'.ownsRow base e size v n xs := by
  obtain ⟨hl, h⟩ := h
  refine ⟨hl, ?_⟩
  rcases h with ⟨rfl, h⟩ | ⟨g, cap, cur, rfl, h0, hg, h⟩
  · exact Or.inl ⟨rfl, h⟩
  · exact Or.inr ⟨g, cap, cur, rfl, h0, (hb g rfl).trans hg, h⟩
theorem run_fieldOp' {w : World} {a : Act} {o : Oper} {T i k : Nat} (hf : FieldAt T i k) (x : Operand) (ho : o.op = .fieldAddr T x i) (g off : Nat) (hx : a.eval x = .pointer (some ⟨g, off, none⟩)) : (execOp a.eval o).run Try.prog w = .ok (.value (.pointer (some ⟨g, off + k, none⟩))) w := by
  simp [execOp, ho, hx, hf w g off]
section
variable {ops : Array Oper} {Q : Exit → Act → World → Prop} {a : Act} {w : World}
end
end Go.Proofs.Ytbmlbnbhjligdaa
namespace Go.Proofs.Ytbmlbnbhjligdaa
open Go.RowKit
theorem ownK {w w' : World} {base e size n : Nat} {v : Value} {xs : List Value} (h : w.ownsRow base e size v n xs) (hb : ∀ b, v.ownBlock = some b → w'.heap[b]? = w.heap[b]?) : w'.ownsRow base e size v n xs := by
  obtain ⟨hl, h⟩ := h
  refine ⟨hl, ?_⟩
  rcases h with ⟨rfl, h⟩ | ⟨g, cap, cur, rfl, h0, hg, h⟩
  · exact Or.inl ⟨rfl, h⟩
  · exact Or.inr ⟨g, cap, cur, rfl, h0, (hb g rfl).trans hg, h⟩
section
variable {w w0 : World} {ops : Array Oper} {rest : List Oper} {o : Oper} {a : Act} {Q : Exit → Act → World → Prop}
theorem wl (hgd : Region.wanted o (yielded ops a.tmps) = true) (v : Value) (w' : World) (hrun : (execOp a.eval o).run Try.prog w = .ok (.value v) w') (h : wpList Try.prog ops Q rest (a.put o.dst v) w') : wpList Try.prog ops Q (o :: rest) a w :=
  BigFrame.wpList_want hgd fun K hK => by
    unfold Oper.wp
    rw [hrun]
    exact hK _ _ h
theorem own_len {base e sz n : Nat} {v : Value} {xs : List Value} (h : w0.ownsRow base e sz v n xs) {t : TypeId} (hu : Try.prog.underlying t = some (.slice (Try.prog.elem t))) (ty : TypeId) : (Builtin.len_ #[t] ty #[v]).run Try.prog w = .ok (goInt n) w := by
  rcases h.2 with ⟨rfl, rfl⟩ | ⟨g, cap, cur, rfl, _⟩
  · exact run_len_slice w _ _ _ _ _ hu
  · exact run_len_slice w _ _ _ _ _ hu
theorem wl_olen (x : Operand) (t : TypeId) (hgd : Region.wanted o (yielded ops a.tmps) = true) (ho : o.op = .call { callee := .builtin .len, args := #[x], argTypes := #[t] }) (hu : Try.prog.underlying t = some (.slice (Try.prog.elem t))) {base e sz n : Nat} (v : Value) {xs : List Value} (hx : a.eval x = v) (hown : w0.ownsRow base e sz v n xs)
    (h : wpList Try.prog ops Q rest (a.put o.dst (.int .i64 (n : Nat))) w) : wpList Try.prog ops Q (o :: rest) a w := by
  have hr := own_len (w := w) hown hu o.type
  refine wl hgd _ w ?_ h
  simp only [execOp, ho, resolve, invoke, builtin, Sem.run_bind, Sem.run_pure, Result.andThen_ok, List.map_toArray, List.map_cons, List.map_nil, hx, hr]
  rfl
theorem own_index {base e sz n : Nat} {v : Value} {xs : List Value} (hown : w0.ownsRow base e sz v n xs) {t : TypeId} (hu : Try.prog.underlying t = some (.slice e)) (hs : (Try.prog.info? e).map (·.size) = some sz) (k : Nat) (hk : k < n) :
    ∃ b, v.ownBlock = some b ∧ (∀ w', (Instr.indexAt t v (.int .i64 (k : Nat))).run Try.prog w' = .ok (.pointer (some ⟨b, k * sz, none⟩)) w') ∧ ∀ j, j < sz → w0.cell? ⟨b, k * sz + j, none⟩ = xs[k * sz + j]? := by
  obtain ⟨i5, hi5, hsz⟩ := Option.map_eq_some_iff.1 hs
  rcases hown.2 with ⟨rfl, rfl⟩ | ⟨g, cap, cur, rfl, _, hg, hcap, hmax, hcs, htake⟩
  · omega
  · refine ⟨g, rfl, fun w' => by simp [Instr.indexAt, asIntOf, run_underlying hu, hk, sizeOf, typeInfo, hi5, hsz, add_none], fun j hj => ?_⟩
    have hlt : k * sz + j < n * sz := by
      have : (k + 1) * sz ≤ n * sz := Nat.mul_le_mul_right sz hk
      rw [Nat.add_mul, Nat.one_mul] at this
      omega
    rw [← htake, List.getElem?_take, if_pos hlt]
    simp [World.cell?, hg]
theorem wl_oidx (x i : Operand) (t e : TypeId) (hgd : Region.wanted o (yielded ops a.tmps) = true) (ho : o.op = .indexAddr t x i) (hu : Try.prog.underlying t = some (.slice e)) {sz base n : Nat} (hs : (Try.prog.info? e).map (·.size) = some sz) (v : Value) {xs : List Value} (hx : a.eval x = v) (hown : w.ownsRow base e sz v n xs) (k : Nat) (I : Int) (hi : a.eval i = .int .i64 I) (hI : I = (k : Int)) (hk : k < n)
    (h : ∀ b, v.ownBlock = some b → (∀ j, j < sz → w.cell? ⟨b, k * sz + j, none⟩ = xs[k * sz + j]?) → wpList Try.prog ops Q rest (a.put o.dst (.pointer (some ⟨b, k * sz, none⟩))) w) : wpList Try.prog ops Q (o :: rest) a w := by
  subst hI
  obtain ⟨b, hb, hr, hc⟩ := own_index hown hu hs k hk
  refine wl hgd _ w ?_ (h b hb hc)
  simp only [execOp, ho, hx, hi, hr, Sem.run_bind, Sem.run_pure, Result.andThen_ok]
theorem wl_ld {t : Nat} (ht : OneT t) (x : Operand) (hgd : Region.wanted o (yielded ops a.tmps) = true) (ho : o.op = .load t x) (g i : Nat) (hx : a.eval x = .pointer (some ⟨g, i, none⟩)) (v : Value) (hc : w.cell? ⟨g, i, none⟩ = some v)
    (h : wpList Try.prog ops Q rest (a.put o.dst v) w) : wpList Try.prog ops Q (o :: rest) a w := wl hgd _ _ (run_load1 ht x ho g i hx v hc) h
theorem wl_fld {T i k : Nat} (hf : FieldAt T i k) (x : Operand) (hgd : Region.wanted o (yielded ops a.tmps) = true) (ho : o.op = .fieldAddr T x i) (g off : Nat) (hx : a.eval x = .pointer (some ⟨g, off, none⟩))
    (h : wpList Try.prog ops Q rest (a.put o.dst (.pointer (some ⟨g, off + k, none⟩))) w) : wpList Try.prog ops Q (o :: rest) a w := wl hgd _ _ (by simp [execOp, ho, hx, hf w g off]) h
theorem wl_eqI {t : Nat} (x y : Operand) (hgd : Region.wanted o (yielded ops a.tmps) = true) (ho : o.op = .binOp .eql t x y t) (z z' : Int) (hx : a.eval x = .int .i64 z) (hy : a.eval y = .int .i64 z') (b : Bool) (hb : decide (z = z') = b) (h : wpList Try.prog ops Q rest (a.put o.dst (.bool b)) w) : wpList Try.prog ops Q (o :: rest) a w :=
  wl hgd _ _ (by
    subst hb
    simp only [execOp, ho, hx, hy]
    by_cases h : z = z'
    · subst h; simp [go_sem]
    · simp [go_sem, h]) h
end
theorem run_nil {w : World} {a : Act} {o : Oper} (x : Operand) (ho : o.op = .nilCheck x) (p : Addr) (hv : a.eval x = .pointer (some p)) : (execOp a.eval o).run Try.prog w = .ok (.value (.pointer (some p))) w := by
  simp [execOp, ho, hv]
theorem run_append {w w' : World} {a : Act} {o : Oper} {t : TypeId} (sv x : Operand) (ho : o.op = .call { callee := .builtin .append, args := #[sv, x], argTypes := #[t, t] }) (v vx v' : Value) (hs : a.eval sv = v) (hx : a.eval x = vx) (hr : (Builtin.append_ #[t, t] o.type #[v, vx]).run Try.prog w = .ok v' w') : (execOp a.eval o).run Try.prog w = .ok (.value v') w' := by
  simp only [execOp, ho, resolve, invoke, builtin, Sem.run_bind, Sem.run_pure, Result.andThen_ok, List.map_toArray, List.map_cons, List.map_nil, hs, hx, hr]
theorem run_idx {w : World} {a : Act} {o : Oper} {t : TypeId} (x i : Operand) (ho : o.op = .indexAddr t x i) (v p I : Value) (hx : a.eval x = v) (hi : a.eval i = I) (hr : ∀ w', (Instr.indexAt t v I).run Try.prog w' = .ok p w') : (execOp a.eval o).run Try.prog w = .ok (.value p) w := by
  simp only [execOp, ho, hx, hi, hr, Sem.run_bind, Sem.run_pure, Result.andThen_ok]
theorem run_putRow {w : World} {o : Oper} {a : Act} {t : Nat} (hs : (Try.prog.info? t).map (·.size) = some 1) (x y : Operand) (ho : o.op = .store t x y) (g i T : Nat) (cur : List Value) (hx : a.eval x = .pointer (some ⟨g, i, none⟩)) (v : Value) (hy : a.eval y = v) (hv : v.cells = #[v] ∧ v.oneCell' = true) (hr : Row w g T cur) (hi : i < cur.length) :
    (execOp a.eval o).run Try.prog w = .ok .skip (w.setCell ⟨g, i, none⟩ v) := by
  obtain ⟨ti, hti, hsz⟩ := Option.map_eq_some_iff.1 hs
  have hst := run_storeCells_at (P := Try.prog) g i T [v] 0 cur.toArray w hr (by simp; omega) (by intro u hu; rw [List.mem_singleton.1 hu]; exact hv.2)
  simp only [Nat.add_zero] at hst
  have e : w.setRow g (splice cur i [v]).toArray = w.setCell ⟨g, i, none⟩ v := by
    have e1 : splice cur i [v] = cur.set i v := by
      rw [List.set_eq_take_append_cons_drop, if_pos hi]
      simp [splice]
    rw [setCell_eq_setRow w g i _ T (0, 0) v hr, e1, List.setIfInBounds_toArray]
  have hst' : (storeVar t ⟨g, i, none⟩ v).run Try.prog w = .ok () (w.setCell ⟨g, i, none⟩ v) := by
    rw [← e]
    simp [storeVar, sizeOf, typeInfo, hti, hsz, hv.1, hst, splice]
  simp [execOp, ho, hx, hy, Instr.storeAt, Instr.sureAddr, hst']
section
variable {w w0 : World} {ops : Array Oper} {rest : List Oper} {o : Oper} {a : Act} {Q : Exit → Act → World → Prop}
theorem wlS (hgd : Region.wanted o (yielded ops a.tmps) = true) (hd : o.dst = none) (w' : World) (hrun : (execOp a.eval o).run Try.prog w = .ok .skip w') (h : wpList Try.prog ops Q rest a w') : wpList Try.prog ops Q (o :: rest) a w :=
  BigFrame.wpList_want hgd fun K hK => by
    unfold Oper.wp
    rw [hrun]
    simp only [Oper.upon, hd]
    exact hK _ _ h
theorem wl_ldA {t n : Nat} (ht : AggT t n) (x : Operand) (hgd : Region.wanted o (yielded ops a.tmps) = true) (ho : o.op = .load t x) (g off : Nat) (hx : a.eval x = .pointer (some ⟨g, off, none⟩)) (cs : List Value) (hn : cs.length = n) (hc : ∀ j v, cs[j]? = some v → w.cell? ⟨g, off + j, none⟩ = some v)
    (h : wpList Try.prog ops Q rest (a.put o.dst (.agg cs.toArray)) w) : wpList Try.prog ops Q (o :: rest) a w := wl hgd _ _ (run_loadA ht x ho g off hx cs hn hc) h
theorem wl_mv (x : Operand) (hgd : Region.wanted o (yielded ops a.tmps) = true) (ho : o.op = .move x) (v : Value) (hx : a.eval x = v) (h : wpList Try.prog ops Q rest (a.put o.dst v) w) : wpList Try.prog ops Q (o :: rest) a w := wl hgd v w (by simp [execOp, ho, hx]) h
theorem wl_as (x : Operand) (hgd : Region.wanted o (yielded ops a.tmps) = true) (ho : o.op = .assign x) (v : Value) (hx : a.eval x = v) (h : wpList Try.prog ops Q rest (a.put o.dst v) w) : wpList Try.prog ops Q (o :: rest) a w := wl hgd v w (by simp [execOp, ho, hx]) h
theorem wl_nil (x : Operand) (hgd : Region.wanted o (yielded ops a.tmps) = true) (ho : o.op = .nilCheck x) (p : Addr) (hx : a.eval x = .pointer (some p)) (h : wpList Try.prog ops Q rest (a.put o.dst (.pointer (some p))) w) : wpList Try.prog ops Q (o :: rest) a w := wl hgd _ w (run_nil x ho p hx) h
theorem wl_app {t : TypeId} {w' : World} (sv x : Operand) (hgd : Region.wanted o (yielded ops a.tmps) = true) (ho : o.op = .call { callee := .builtin .append, args := #[sv, x], argTypes := #[t, t] }) (v vx v' : Value) (hs : a.eval sv = v) (hx : a.eval x = vx) (hr : (Builtin.append_ #[t, t] o.type #[v, vx]).run Try.prog w = .ok v' w')
    (h : wpList Try.prog ops Q rest (a.put o.dst v') w') : wpList Try.prog ops Q (o :: rest) a w := wl hgd _ _ (run_append sv x ho v vx v' hs hx hr) h
theorem wl_put {t : Nat} (hs : (Try.prog.info? t).map (·.size) = some 1) (x y : Operand) (hgd : Region.wanted o (yielded ops a.tmps) = true) (hd : o.dst = none) (ho : o.op = .store t x y) (g i T : Nat) (cur : List Value) (hx : a.eval x = .pointer (some ⟨g, i, none⟩)) (v : Value) (hy : a.eval y = v) (hv : v.cells = #[v] ∧ v.oneCell' = true) (hr : Row w g T cur) (hi : i < cur.length)
    (h : wpList Try.prog ops Q rest a (w.setCell ⟨g, i, none⟩ v)) : wpList Try.prog ops Q (o :: rest) a w := wlS hgd hd _ (run_putRow hs x y ho g i T cur hx v hy hv hr hi) h
theorem wl_ix {t : TypeId} (x i : Operand) (hgd : Region.wanted o (yielded ops a.tmps) = true) (ho : o.op = .indexAddr t x i) (v p I : Value) (hx : a.eval x = v) (hi : a.eval i = I) (hr : ∀ w', (Instr.indexAt t v I).run Try.prog w' = .ok p w') (h : wpList Try.prog ops Q rest (a.put o.dst p) w) : wpList Try.prog ops Q (o :: rest) a w := wl hgd p w (run_idx x i ho v p I hx hi hr) h
end
theorem row_cell' {W : World} {g T i : Nat} {cur : List Value} (h : Row W g T cur) (v : Value) : Row (W.setCell ⟨g, i, none⟩ v) g T (cur.set i v) := by
  rw [setCell_eq_setRow W g i _ T (0, 0) v h]
  have := h.setRow (cur.set i v)
  simpa using this
/-- one more behind a row of rows -/
theorem app_one {w : World} {t e : TypeId} (hu : Try.prog.underlying t = some (.slice e)) (hinfo : (Try.prog.info? e).map (fun i => (i.zero, i.size, i.bytes)) = some (some (.slice none 0 0), 1, 24)) (ty : TypeId) (v : Value) (n : Nat) (xs : List Value) (hown : w.ownsRow 0 e 1 v n xs) (b : Nat) (u : Value) (hu1 : u.oneCell' = true) (hb : Row w b e [u]) (hn : n ≤ 1000000) :
    ∃ v' w', (Builtin.append_ #[t, t] ty #[v, .slice (some ⟨b, 0, none⟩) 1 1]).run Try.prog w = .ok v' w' ∧ w'.ownsRow 0 e 1 v' (n + 1) (xs ++ [u]) ∧ w.grownBy w' v.ownBlock ∧ (v'.ownBlock = v.ownBlock ∨ v'.ownBlock = some w.heap.size) := by
  obtain ⟨i, hi, hz0, hz1, hz2⟩ := info_parts hinfo
  obtain ⟨v', w', hr, h2, h3, _, h5⟩ := run_append_own_at (P := Try.prog) (w := w) 0 t ty e i (.slice none 0 0) 1 24 hu hi hz0 hz1 hz2 rfl (by decide) v n xs hown
    ⟨b, 0, none⟩ 1 1 [u] (by simp) (fun j y hy => by rw [add_none, Nat.zero_add]; exact hb.at j y hy) (by intro y hy; rw [List.mem_singleton.1 hy]; exact hu1) (by unfold maxLen; omega) (by omega) (Nat.zero_le _)
  exact ⟨v', w', hr, h2, h3, h5⟩
theorem own_cells {w : World} {base e sz n : Nat} {v : Value} {xs : List Value} (h : w.ownsRow base e sz v n xs) : v.cells = #[v] ∧ v.oneCell' = true := by
  rcases h.2 with ⟨rfl, _⟩ | ⟨g, cap, cur, rfl, _⟩
  · exact ⟨rfl, rfl⟩
  · exact ⟨rfl, rfl⟩
theorem own_later {w w' : World} {base e size n : Nat} {v : Value} {xs : List Value} (h : w.ownsRow base e size v n xs) (hb : Below w.heap.size w w') : w'.ownsRow base e size v n xs :=
  own_kept h fun q hq => hb.block q (h.lt q hq).2
theorem own_isSlice {w : World} {base e size n : Nat} {v : Value} {xs : List Value} (h : w.ownsRow base e size v n xs) : ∃ p n c, v = .slice p n c := by
  rcases h.2 with ⟨rfl, _⟩ | ⟨g, cap, cur, rfl, _⟩
  · exact ⟨_, _, _, rfl⟩
  · exact ⟨_, _, _, rfl⟩
section
variable {ops : Array Oper} {Q : Exit → Act → World → Prop} {a : Act} {w : World} {listed : Array Bool} {fuel : Nat} {S : World → Prop} {o : Oper}
theorem yRunH (hgd : o.guard = none) (v : Value) (hr : ∀ w, S w → (execOp a.eval o).run Try.prog w = .ok (.value v) w) : YieldsIf Try.prog ops S o v a :=
  Or.inl ⟨by simp [Region.wanted, hgd], hr⟩
theorem hMove (hgd : o.guard = none) (x : Operand) (ho : o.op = .move x) (v : Value) (hv : a.eval x = v) : YieldsIf Try.prog ops S o v a := yRunH hgd v fun w _ => by simp [execOp, ho, hv]
theorem hAssign (hgd : o.guard = none) (x : Operand) (ho : o.op = .assign x) (v : Value) (hv : a.eval x = v) : YieldsIf Try.prog ops S o v a := yRunH hgd v fun w _ => by simp [execOp, ho, hv]
theorem hField {T i k : Nat} (hf : FieldAt T i k) (hgd : o.guard = none) (x : Operand) (ho : o.op = .fieldAddr T x i) (g off : Nat) (hv : a.eval x = .pointer (some ⟨g, off, none⟩)) : YieldsIf Try.prog ops S o (.pointer (some ⟨g, off + k, none⟩)) a := yRunH hgd _ fun _ _ => run_fieldOp' hf x ho g off hv
theorem hLoad {t : Nat} (ht : OneT t) (hgd : o.guard = none) (x : Operand) (ho : o.op = .load t x) (g off : Nat) (hx : a.eval x = .pointer (some ⟨g, off, none⟩)) (v : Value) (hc : ∀ w, S w → w.cell? ⟨g, off, none⟩ = some v) : YieldsIf Try.prog ops S o v a := yRunH hgd v fun w hw => run_load1 ht x ho g off hx v (hc w hw)
theorem hLoadA {t n : Nat} (ht : AggT t n) (hgd : o.guard = none) (x : Operand) (ho : o.op = .load t x) (g : Nat) (hx : a.eval x = .pointer (some ⟨g, 0, none⟩)) (cs : List Value) (hn : cs.length = n) (hc : ∀ w, S w → Row w g t cs) : YieldsIf Try.prog ops S o (.agg cs.toArray) a := yRunH hgd _ fun w hw => run_loadA ht x ho g 0 hx cs hn fun j v hj => by rw [Nat.zero_add]; exact (hc w hw).at j v hj
theorem hExtract (hgd : o.guard = none) (x : Operand) (i : Nat) (ho : o.op = .extract x i) (u v : Value) (hx : a.eval x = .tuple #[u, v]) (r : Value) (hr : #[u, v][i]? = some r) : YieldsIf Try.prog ops S o r a := yRunH hgd r fun w _ => by simp [execOp, ho, hx, Instr.extract, hr]
end
end Go.Proofs.Ytbmlbnbhjligdaa
namespace Go.Proofs.Ytbmlbnbhjligdaa
open Go.RowKit
theorem info5z : (Try.prog.info? 5).map (fun i => (i.zero, i.size, i.bytes)) = some (some (.int .u8 0), 1, 1) := by kernel_rfl
theorem lt256 (cs : List Nat) (h : ∀ c ∈ cs, c < 256) (j : Nat) : cs.getD j 0 < 256 := by
  by_cases hj : j < cs.length
  · simpa [hj] using h _ (List.getElem_mem hj)
  · simp [hj]
theorem below_alloc (w : World) (o : Obj) : Below w.heap.size w (w.alloc o) := (Below.refl _ _).alloc (Nat.le_refl _) _
theorem mem_lt' {cs : List Nat} (h : ∀ j : Nat, cs.getD j 0 < 256) : ∀ c ∈ cs, c < 256 := by
  intro c hc
  obtain ⟨j, hj, rfl⟩ := List.getElem_of_mem hc
  simpa [hj] using h j
/-- which cut it is -/
def SubOf (lo hi mx : Option Value) (n l h : Nat) : Prop :=
  ((lo = none ∧ l = 0) ∨ ∃ L : Int, lo = some (.int .i64 L) ∧ L = (l : Int)) ∧ ((hi = none ∧ mx = none ∧ h = n) ∨ ∃ H : Int, hi = some (.int .i64 H) ∧ H = (h : Int) ∧ (mx = none ∨ mx = some (.int .i64 H))) ∧ l ≤ h ∧ h ≤ n
/-- a slice that is a whole block -/
def whole (g n : Nat) : Value := .slice (some ⟨g, 0, none⟩) n n
section
variable {w w0 : World} {ops : Array Oper} {rest : List Oper} {o : Oper} {a : Act} {Q : Exit → Act → World → Prop}
theorem wl_make (l c : Operand) (t e : TypeId) (z : Value) (sz bts : Nat) (hgd : Region.wanted o (yielded ops a.tmps) = true) (ho : o.op = .makeSlice t l c) (hu : Try.prog.underlying t = some (.slice e)) (hinfo : (Try.prog.info? e).map (fun i => (i.zero, i.size, i.bytes)) = some (some z, sz, bts))
    (n : Nat) (hl : a.eval l = .int .i64 (n : Nat)) (hc : a.eval c = .int .i64 (n : Nat)) (hb : bts * n ≤ 281474976710656) (hn : n ≤ 9223372036854775807)
    (h : ∀ w', Row w' w.heap.size e (madeCells z.cells (n * sz)).toList → w'.heap.size = w.heap.size + 1 → Below w.heap.size w w' → wpList Try.prog ops Q rest (a.put o.dst (whole w.heap.size n)) w') : wpList Try.prog ops Q (o :: rest) a w := by
  obtain ⟨i, hi, hz0, hz1, hz2⟩ := info_parts hinfo
  have hr := run_make (P := Try.prog) (w := w) t e i z hu hi hz0 .i64 .i64 (n : Nat) (n : Nat) (by omega) (Int.le_refl _) (by rw [hz2]; omega) (by omega)
  rw [Int.toNat_natCast, hz1] at hr
  exact wl hgd _ _ (by simp only [execOp, ho, hl, hc, hr, Sem.run_bind, Sem.run_pure, Result.andThen_ok]; rfl) (h _ (Row.new' w e _) (by show (w.heap.push _).size = _; simp) (below_alloc w _))
end
theorem made5 (n : Nat) : (madeCells (Value.int IntKind.u8 0).cells (n * 1)).toList = bcells (List.replicate n 0) := by
  apply List.ext_getElem
  · rw [bcells_length]
    simp [madeCells, Value.cells]
  · intro j h1 h2
    simp [bcells, madeCells, Value.cells, Nat.mod_one]
theorem results_cell_tmp {fn : Func} {p u : Tmp} {t n : Nat} (ht : AggT t n) (h : fn.results = #[.cell p t, .tmp u]) (tmps : Array Value) (w : World) (g T : Nat) (hp : tmps.getD p undef = .pointer (some ⟨g, 0, none⟩)) (cs : List Value) (hn : cs.length = n) (hr : Row w g T cs) :
    (results fn tmps).run Try.prog w = .ok (.tuple #[.agg cs.toArray, tmps.getD u undef]) w := by
  have hl := run_loadVar ht w g 0 cs hn (fun j v hv => by rw [Nat.zero_add]; exact hr.at j v hv)
  have hp' : tmps[p]?.getD undef = .pointer (some ⟨g, 0, none⟩) := by simpa using hp
  simp [results, h, hp', asAddr, hl]
section
variable {ops : Array Oper} {Q : Exit → Act → World → Prop} {a : Act} {w : World} {listed : Array Bool} {fuel : Nat} {S : World → Prop} {o : Oper}
theorem gRun (hw : Region.wanted o (yielded ops a.tmps) = true) (v : Value) (hr : ∀ w, S w → (execOp a.eval o).run Try.prog w = .ok (.value v) w) : YieldsIf Try.prog ops S o v a := Or.inl ⟨hw, hr⟩
theorem gMove (hw : Region.wanted o (yielded ops a.tmps) = true) (x : Operand) (ho : o.op = .move x) (v : Value) (hv : a.eval x = v) : YieldsIf Try.prog ops S o v a := gRun hw v fun w _ => by simp [execOp, ho, hv]
theorem gAssign (hw : Region.wanted o (yielded ops a.tmps) = true) (x : Operand) (ho : o.op = .assign x) (v : Value) (hv : a.eval x = v) : YieldsIf Try.prog ops S o v a := gRun hw v fun w _ => by simp [execOp, ho, hv]
theorem gField {T i k : Nat} (hf : FieldAt T i k) (hw : Region.wanted o (yielded ops a.tmps) = true) (x : Operand) (ho : o.op = .fieldAddr T x i) (g off : Nat) (hv : a.eval x = .pointer (some ⟨g, off, none⟩)) : YieldsIf Try.prog ops S o (.pointer (some ⟨g, off + k, none⟩)) a := gRun hw _ fun _ _ => run_fieldOp' hf x ho g off hv
theorem gLoad {t : Nat} (ht : OneT t) (hw : Region.wanted o (yielded ops a.tmps) = true) (x : Operand) (ho : o.op = .load t x) (g off : Nat) (hx : a.eval x = .pointer (some ⟨g, off, none⟩)) (v : Value) (hc : ∀ w, S w → w.cell? ⟨g, off, none⟩ = some v) : YieldsIf Try.prog ops S o v a := gRun hw v fun w h => run_load1 ht x ho g off hx v (hc w h)
theorem gLoadA {t n : Nat} (ht : AggT t n) (hw : Region.wanted o (yielded ops a.tmps) = true) (x : Operand) (ho : o.op = .load t x) (g : Nat) (hx : a.eval x = .pointer (some ⟨g, 0, none⟩)) (cs : List Value) (hn : cs.length = n) (hc : ∀ w, S w → Row w g t cs) : YieldsIf Try.prog ops S o (.agg cs.toArray) a := gRun hw _ fun w h => run_loadA ht x ho g 0 hx cs hn fun j v hj => by rw [Nat.zero_add]; exact (hc w h).at j v hj
theorem gPick (hw : Region.wanted o (yielded ops a.tmps) = true) (c x y : Operand) (ho : o.op = .pick c x y) (b : Bool) (v : Value) (hc : a.eval c = .bool b) (hv : (if b then a.eval x else a.eval y) = v) : YieldsIf Try.prog ops S o v a := gRun hw v fun w _ => by
  subst hv
  have hb : (asBool (.bool b)).run Try.prog w = .ok b w := rfl
  simp only [execOp, ho, hc, hb, Sem.run_bind, Sem.run_pure, Result.andThen_ok]
end
theorem run_storeA {w : World} {a : Act} {o : Oper} {t n : Nat} (ht : AggT t n) (x y : Operand) (ho : o.op = .store t x y) (g T : Nat) (hx : a.eval x = .pointer (some ⟨g, 0, none⟩)) (cs cur : List Value) (hy : a.eval y = .agg cs.toArray) (hn : cs.length = n) (hr : Row w g T cur) (hfit : cs.length = cur.length) (h1 : ∀ v ∈ cs, v.oneCell' = true) : (execOp a.eval o).run Try.prog w = .ok .skip (w.setRow g cs.toArray) := by
  have e : splice cur 0 cs = cs := splice_all cur cs hfit
  have := run_storeVar ht w g 0 T cur cs hn hr (by omega) h1
  rw [e] at this
  simp [execOp, ho, hx, hy, Instr.storeAt, Instr.sureAddr, this]
theorem nilOp {ops : Array Oper} {a : Act} {S : World → Prop} {o : Oper} (hw : Region.wanted o (yielded ops a.tmps) = true) (x : Operand) (ho : o.op = .nilCheck x) (p : Addr) (hv : a.eval x = .pointer (some p)) : YieldsIf Try.prog ops S o (.pointer (some p)) a := gRun hw _ fun _ _ => run_nil x ho p hv
theorem opCallG {ops : Array Oper} {Q : Exit → Act → World → Prop} {a : Act} {w : World} {i : Nat} (d : Option Tmp) {o : Oper} {K : Act → World → Prop} (hi : ops[i]? = some o) (hd : o.dst = d) (hw : Region.wanted o (yielded ops a.tmps) = true) (f : Nat) (args : Array Value) (hrun : (execOp a.eval o).run Try.prog w = .ok (.enter f args) w) (h : Calls Try.prog f args w fun e w' => ∃ v, e = .returned v ∧ K (a.put d v) w') : wpOp Try.prog ops Q i K a w := by
  subst hd
  unfold wpOp
  simp only [hi, hw, if_true, Oper.wp, hrun, Oper.upon]
  refine .inl (Calls.mono h fun e w' he => ?_)
  obtain ⟨v, rfl, hK⟩ := he
  exact hK
theorem gNot {ops : Array Oper} {a : Act} {S : World → Prop} {o : Oper} (hw : Region.wanted o (yielded ops a.tmps) = true) (x : Operand) (ty : TypeId) (ho : o.op = .unOp .not ty x) (y : Bool) (hx : a.eval x = .bool y) : YieldsIf Try.prog ops S o (.bool (!y)) a := gRun hw _ fun _ _ => run_not x ty ho y hx
theorem run_binOp' {w : World} {a : Act} {o : Oper} {k : BinOp} {t : TypeId} (x y : Operand) (ho : o.op = .binOp k t x y t) (u v r : Value) (hx : a.eval x = u) (hy : a.eval y = v) (e : (eqGuard k t x y u v).run Try.prog w = .ok () w) (hr : (binOp k t u v).run Try.prog w = .ok r w) : (execOp a.eval o).run Try.prog w = .ok (.value r) w := by
  simp only [execOp, ho, hx, hy, e, hr, Sem.run_bind, Sem.run_pure, Result.andThen_ok]
theorem opSkipZ {ops : Array Oper} {Q : Exit → Act → World → Prop} {a : Act} {w : World} {i : Nat} {o : Oper} {K : Act → World → Prop} (hi : ops[i]? = some o) (hd : o.dst = none) (hgd : o.guard = none) (w' : World) (hrun : (execOp a.eval o).run Try.prog w = .ok .skip w') (h : K a w') : wpOp Try.prog ops Q i K a w := by
  unfold wpOp
  have hw : Region.wanted o (yielded ops a.tmps) = true := by simp [Region.wanted, hgd]
  simp only [hi, hw, if_true, Oper.wp, hrun, Oper.upon, hd]
  exact .inl h
theorem opValueG {ops : Array Oper} {Q : Exit → Act → World → Prop} {a : Act} {w : World} {i : Nat} (d : Option Tmp) {o : Oper} {K : Act → World → Prop} (hi : ops[i]? = some o) (hd : o.dst = d) (hw : Region.wanted o (yielded ops a.tmps) = true) (v : Value) (w' : World) (hrun : (execOp a.eval o).run Try.prog w = .ok (.value v) w') (h : K (a.put d v) w') : wpOp Try.prog ops Q i K a w := by
  subst hd
  unfold wpOp
  simp only [hi, hw, if_true, Oper.wp, hrun, Oper.upon]
  exact .inl h
theorem run_mvZ {w : World} {a : Act} {o : Oper} (x : Operand) (ho : o.op = .move x) (v : Value) (hx : a.eval x = v) : (execOp a.eval o).run Try.prog w = .ok (.value v) w := by simp [execOp, ho, hx]
theorem run_asZ {w : World} {a : Act} {o : Oper} (x : Operand) (ho : o.op = .assign x) (v : Value) (hx : a.eval x = v) : (execOp a.eval o).run Try.prog w = .ok (.value v) w := by simp [execOp, ho, hx]
theorem run_pickZ {w : World} {a : Act} {o : Oper} (c x y : Operand) (ho : o.op = .pick c x y) (b : Bool) (v : Value) (hc : a.eval c = .bool b) (hv : (if b then a.eval x else a.eval y) = v) : (execOp a.eval o).run Try.prog w = .ok (.value v) w := by
  subst hv
  have hb : (asBool (.bool b)).run Try.prog w = .ok b w := rfl
  simp only [execOp, ho, hc, hb, Sem.run_bind, Sem.run_pure, Result.andThen_ok]
theorem wpList_callW {w : World} {ops : Array Oper} {rest : List Oper} {o : Oper} {a : Act} {Q : Exit → Act → World → Prop} {f : Nat} (ef : EntersF f) (xs : List Operand) (ts : Array TypeId) (hgd : Region.wanted o (yielded ops a.tmps) = true) (ho : o.op = .call { callee := .value (.func f), args := xs.toArray, argTypes := ts }) (vs : List Value) (hv : xs.map a.eval = vs)
    (h : Calls Try.prog f vs.toArray w fun e w' => ∃ v, e = .returned v ∧ wpList Try.prog ops Q rest (a.put o.dst v) w') : wpList Try.prog ops Q (o :: rest) a w :=
  BigFrame.wpList_want hgd fun K hK => by
    unfold Oper.wp
    rw [run_call ef xs ts ho vs hv]
    refine h.mono fun e w' he => ?_
    obtain ⟨v, rfl, hw⟩ := he
    exact hK _ _ hw
theorem wl_ext {w : World} {ops : Array Oper} {rest : List Oper} {o : Oper} {a : Act} {Q : Exit → Act → World → Prop} (x : Operand) (i : Nat) (hgd : Region.wanted o (yielded ops a.tmps) = true) (ho : o.op = .extract x i) (vs : Array Value) (hx : a.eval x = .tuple vs) (v : Value) (hv : vs[i]? = some v) (h : wpList Try.prog ops Q rest (a.put o.dst v) w) : wpList Try.prog ops Q (o :: rest) a w := wl hgd v w (by simp [execOp, ho, hx, Instr.extract, hv]) h
section
variable {w w0 : World} {ops : Array Oper} {rest : List Oper} {o : Oper} {a : Act} {Q : Exit → Act → World → Prop}
theorem wl_not (x : Operand) (hgd : Region.wanted o (yielded ops a.tmps) = true) (ho : o.op = .unOp .not 4 x) (b : Bool) (hx : a.eval x = .bool b) (h : wpList Try.prog ops Q rest (a.put o.dst (.bool !b)) w) : wpList Try.prog ops Q (o :: rest) a w := wl hgd _ w (by
  simp only [execOp, ho, hx]
  simp [go_sem]) h
set_option maxRecDepth 10000 in
theorem wl_neI {t : Nat} (x y : Operand) (hgd : Region.wanted o (yielded ops a.tmps) = true) (ho : o.op = .binOp .neq t x y t) (z z' : Int) (hx : a.eval x = .int .i64 z) (hy : a.eval y = .int .i64 z') (b : Bool) (hb : (!decide (z = z')) = b) (h : wpList Try.prog ops Q rest (a.put o.dst (.bool b)) w) : wpList Try.prog ops Q (o :: rest) a w := wl hgd _ w (by
  have e : (eqGuard .neq t x y (.int .i64 z) (.int .i64 z')).run Try.prog w = .ok () w := rfl
  have hr : (binOp .neq t (.int .i64 z) (.int .i64 z')).run Try.prog w = .ok (.bool b) w := by rw [← hb]; simp [binOp, Op.intCmp, bne]; rfl
  simp only [execOp, ho, hx, hy, e, hr, Sem.run_bind, Sem.run_pure, Result.andThen_ok]) h
theorem wl_pick (c x y : Operand) (hgd : Region.wanted o (yielded ops a.tmps) = true) (ho : o.op = .pick c x y) (b : Bool) (v : Value) (hc : a.eval c = .bool b) (hv : (if b then a.eval x else a.eval y) = v) (h : wpList Try.prog ops Q rest (a.put o.dst v) w) : wpList Try.prog ops Q (o :: rest) a w := wl hgd v w (run_pickZ c x y ho b v hc hv) h
theorem wl_sl {t : TypeId} (hu : Try.prog.underlying t = some (.slice (Try.prog.elem t))) (x : Operand) (hgd : Region.wanted o (yielded ops a.tmps) = true) (ho : o.op = .call { callee := .builtin .len, args := #[x], argTypes := #[t] }) (p : Option Addr) (n cap : Nat) (hx : a.eval x = .slice p n cap) (h : wpList Try.prog ops Q rest (a.put o.dst (.int .i64 (n : Nat))) w) : wpList Try.prog ops Q (o :: rest) a w := by
  refine wl hgd _ w ?_ h
  simp only [execOp, ho, resolve, invoke, builtin, Sem.run_bind, Sem.run_pure, Result.andThen_ok, List.map_toArray, List.map_cons, List.map_nil, hx, run_len_slice w _ _ _ _ _ hu]
  rfl
end
/-- blocks of one's own, each known whole -/
structure Loc (w W : World) (l : List (Nat × TypeId × List Value)) : Prop where
  below : Below w.heap.size w W
  row : ∀ (i : Nat) (g : Nat) (T : TypeId) (cs : List Value), l[i]? = some (g, T, cs) → Row W g T cs ∧ w.heap.size ≤ g
  ne : ∀ (i j : Nat) (a b : Nat × TypeId × List Value), l[i]? = some a → l[j]? = some b → i ≠ j → a.1 ≠ b.1
theorem Loc.nil {w W : World} (h : Below w.heap.size w W) : Loc w W [] := ⟨h, fun i g T cs e => by simp at e, fun i j a b e => by simp at e⟩
theorem Loc.later {w W W' : World} {l : List (Nat × TypeId × List Value)} (h : Loc w W l) (hb : Below W.heap.size W W') : Loc w W' l :=
  ⟨h.below.trans (hb.mono h.below.size), fun i g T cs e => ⟨(h.row i g T cs e).1.later hb (h.row i g T cs e).1.lt, (h.row i g T cs e).2⟩, h.ne⟩
theorem Loc.add {w W W' : World} {l : List (Nat × TypeId × List Value)} (h : Loc w W l) {g : Nat} {T : TypeId} {cs : List Value} (hr : Row W' g T cs) (hg : W.heap.size ≤ g) (hb : Below W.heap.size W W') : Loc w W' (l ++ [(g, T, cs)]) := by
  have h1 := h.later hb
  have hne : ∀ (i : Nat) (a : Nat × TypeId × List Value), l[i]? = some a → a.1 < W.heap.size := fun i a e => (h.row i a.1 a.2.1 a.2.2 e).1.lt
  refine ⟨h1.below, fun i g' T' cs' e => ?_, fun i j a b e1 e2 hij => ?_⟩
  · by_cases hi : i < l.length
    · rw [List.getElem?_append_left hi] at e
      exact h1.row i g' T' cs' e
    · rw [List.getElem?_append_right (by omega)] at e
      have : i - l.length = 0 := by
        by_cases h0 : i - l.length = 0
        · exact h0
        · rw [List.getElem?_eq_none (by simp; omega)] at e; cases e
      rw [this] at e
      simp at e
      obtain ⟨rfl, rfl, rfl⟩ := e
      exact ⟨hr, Nat.le_trans h.below.size hg⟩
  · have key : ∀ (i : Nat) (a : Nat × TypeId × List Value), (l ++ [(g, T, cs)])[i]? = some a → (i < l.length ∧ a.1 < W.heap.size) ∨ (i = l.length ∧ a.1 = g) := fun i a e => by
      by_cases hi : i < l.length
      · rw [List.getElem?_append_left hi] at e
        exact Or.inl ⟨hi, hne i a e⟩
      · rw [List.getElem?_append_right (by omega)] at e
        by_cases h0 : i - l.length = 0
        · rw [h0] at e
          simp at e
          exact Or.inr ⟨by omega, by rw [← e]⟩
        · rw [List.getElem?_eq_none (by simp; omega)] at e; cases e
    rcases key i a e1 with ⟨k1, k2⟩ | ⟨k1, k2⟩ <;> rcases key j b e2 with ⟨k3, k4⟩ | ⟨k3, k4⟩
    · rw [List.getElem?_append_left k1] at e1
      rw [List.getElem?_append_left k3] at e2
      exact h.ne i j a b e1 e2 hij
    · omega
    · omega
    · omega
theorem Loc.set {w W W' : World} {l : List (Nat × TypeId × List Value)} (h : Loc w W l) (i : Nat) {g : Nat} {T : TypeId} {cs cs' : List Value} (e : l[i]? = some (g, T, cs)) (hr : Row W' g T cs') (hc : Ch (· = g) W W') : Loc w W' (l.set i (g, T, cs')) := by
  have hi : i < l.length := (List.getElem?_eq_some_iff.1 e).1
  have hg := (h.row i g T cs e).2
  have same : ∀ (j : Nat) (a : Nat × TypeId × List Value), (l.set i (g, T, cs'))[j]? = some a → (j = i ∧ a = (g, T, cs')) ∨ (j ≠ i ∧ l[j]? = some a) := fun j a e2 => by
    by_cases hj : i = j
    · subst hj
      rw [List.getElem?_set_self hi] at e2
      exact Or.inl ⟨rfl, (Option.some.inj e2).symm⟩
    · rw [List.getElem?_set_ne hj] at e2
      exact Or.inr ⟨fun x => hj x.symm, e2⟩
  refine ⟨h.below.trans (hc.below h.below.size fun k hk e => by omega), fun j g' T' cs2 e2 => ?_, fun j k a b e1 e2 hjk => ?_⟩
  · rcases same j _ e2 with ⟨k1, k2⟩ | ⟨k1, k2⟩
    · injection k2 with k2 k3
      injection k3 with k3 k4
      subst k2 k3 k4
      exact ⟨hr, hg⟩
    · have hne : g' ≠ g := h.ne j i _ _ k2 e k1
      exact ⟨hc.row hne (h.row j g' T' cs2 k2).1, (h.row j g' T' cs2 k2).2⟩
  · have f1 : ∀ (j : Nat) (a : Nat × TypeId × List Value), (l.set i (g, T, cs'))[j]? = some a → ∃ a', l[j]? = some a' ∧ a'.1 = a.1 := fun j a e2 => by
      rcases same j a e2 with ⟨rfl, rfl⟩ | ⟨_, k2⟩
      · exact ⟨_, e, rfl⟩
      · exact ⟨a, k2, rfl⟩
    obtain ⟨a', q1, q2⟩ := f1 j a e1
    obtain ⟨b', q3, q4⟩ := f1 k b e2
    rw [← q2, ← q4]
    exact h.ne j k a' b' q1 q3 hjk
theorem Loc.at {w W : World} {l : List (Nat × TypeId × List Value)} (h : Loc w W l) (i : Nat) {g : Nat} {T : TypeId} {cs : List Value} (e : l[i]? = some (g, T, cs)) : Row W g T cs := (h.row i g T cs e).1
theorem Loc.ge {w W : World} {l : List (Nat × TypeId × List Value)} (h : Loc w W l) (i : Nat) {g : Nat} {T : TypeId} {cs : List Value} (e : l[i]? = some (g, T, cs)) : w.heap.size ≤ g := (h.row i g T cs e).2
theorem Loc.drew {w W : World} {l : List (Nat × TypeId × List Value)} (h : Loc w W l) : Loc w { W with drawn := W.drawn + 1 } l := h.later ⟨rfl, rfl, rfl, Nat.le_refl _, fun _ _ => rfl⟩
/-- some of them -/
theorem Loc.take {w W : World} {l : List (Nat × TypeId × List Value)} (h : Loc w W l) (n : Nat) : Loc w W (l.take n) := by
  have f : ∀ (i : Nat) (a : Nat × TypeId × List Value), (l.take n)[i]? = some a → l[i]? = some a := fun i a e => by
    rw [List.getElem?_take] at e
    split at e
    · exact e
    · cases e
  exact ⟨h.below, fun i g T cs e => h.row i g T cs (f i _ e), fun i j a b e1 e2 => h.ne i j a b (f i a e1) (f j b e2)⟩
/-- a cut of an array of bytes -/
def ArrCut (l h : Option Value) (n lo hi : Nat) : Prop := ((l = none ∧ lo = 0) ∨ l = some (.int .i64 (lo : Nat))) ∧ ((h = none ∧ hi = n) ∨ h = some (.int .i64 (hi : Nat))) ∧ lo ≤ hi ∧ hi ≤ n ∧ lo < n
theorem sliceArr {T n : Nat} (hu : Try.prog.underlying T = some (.array n 5)) (g o lo hi : Nat) (l h : Option Value) (hc : ArrCut l h n lo hi) (W : World) : (Instr.sliceAt T (.pointer (some ⟨g, o, none⟩)) l h none).run Try.prog W = .ok (.slice (some ⟨g, o + lo, none⟩) (hi - lo) (n - lo)) W := by
  obtain ⟨i, hi5, hsz⟩ := Option.map_eq_some_iff.1 info5
  obtain ⟨h1, h2, h3, h4, h5⟩ := hc
  rcases h1 with ⟨rfl, rfl⟩ | rfl <;> rcases h2 with ⟨rfl, rfl⟩ | rfl <;> simp [Instr.sliceAt, run_underlying hu, Instr.sureAddr, Instr.sliceBounds, Instr.sliceBound, asIntOf, sizeOf, typeInfo, hi5, hsz, add_none, h3, h4] <;> (try omega)
theorem run_slA {w : World} {a : Act} {o : Oper} {T n : Nat} (hu : Try.prog.underlying T = some (.array n 5)) (x : Operand) (lo' hi' : Option Operand) (ho : o.op = .slice T x lo' hi' none) (g off lo hi : Nat) (hx : a.eval x = .pointer (some ⟨g, off, none⟩)) (hc : ArrCut (lo'.map a.eval) (hi'.map a.eval) n lo hi) : (execOp a.eval o).run Try.prog w = .ok (.value (.slice (some ⟨g, off + lo, none⟩) (hi - lo) (n - lo))) w := by
  have h := sliceArr hu g off lo hi _ _ hc w
  simp only [execOp, ho, hx, Option.map_none]
  first
    | (simp only [Sem.run_bind, h, Result.andThen_ok, Sem.run_pure])
    | (simp [h])
theorem run_boxA {w : World} {a : Act} {o : Oper} {t : Nat} (x : Operand) (ho : o.op = .box t x) (cs : List Value) (hx : a.eval x = .agg cs.toArray) : (execOp a.eval o).run Try.prog w = .ok (.value (ptr w.heap.size)) (w.alloc (.cells cs.toArray t)) := by
  simp [execOp, ho, hx, Instr.box, newVar, newRow, Value.cells]
theorem run_allocA {w : World} {a : Act} {o : Oper} {t : Nat} (zs : List Value) (hz : (Try.prog.info? t).map (·.zero) = some (some (.agg zs.toArray))) (ho : o.op = .alloc t) : (execOp a.eval o).run Try.prog w = .ok (.value (ptr w.heap.size)) (w.alloc (.cells zs.toArray t)) := by
  obtain ⟨i, hi, hz⟩ := Option.map_eq_some_iff.1 hz
  simp [execOp, ho, Instr.alloc, zeroValue, typeInfo, hi, hz, newVar, newRow, Value.cells]
theorem Loc.box {w W : World} {l : List (Nat × TypeId × List Value)} (h : Loc w W l) (T : TypeId) (cs : List Value) : Loc w (W.alloc (.cells cs.toArray T)) (l ++ [(W.heap.size, T, cs)]) := h.add (Row.new W T cs) (Nat.le_refl _) ((Below.refl _ _).alloc (Nat.le_refl _) _)
theorem run_storeL {w W : World} {a : Act} {o : Oper} {t n : Nat} (ht : AggT t n) (x y : Operand) (ho : o.op = .store t x y) {l : List (Nat × TypeId × List Value)} (h : Loc w W l) (i : Nat) {g T : Nat} {cur : List Value} (e : l[i]? = some (g, T, cur)) (off : Nat) (hx : a.eval x = .pointer (some ⟨g, off, none⟩)) (cs : List Value) (hy : a.eval y = .agg cs.toArray) (hn : cs.length = n) (hfit : off + cs.length ≤ cur.length) (h1 : ∀ v ∈ cs, v.oneCell' = true) : (execOp a.eval o).run Try.prog W = .ok .skip (W.setRow g (splice cur off cs).toArray) ∧ Loc w (W.setRow g (splice cur off cs).toArray) (l.set i (g, T, splice cur off cs)) := by
  have hst := run_storeVar ht W g off T cur cs hn (h.at i e) hfit h1
  exact ⟨by simp [execOp, ho, hx, hy, Instr.storeAt, Instr.sureAddr, hst], h.set i e ((h.at i e).setRow _) ((Ch.refl (· = g) W).setRow (Or.inl rfl) _)⟩
end Go.Proofs.Ytbmlbnbhjligdaa
namespace Go.Proofs.Ytbmlbnbhjligdaa
open Go.RowKit
theorem o3 : OneT 3 := fun w g o v h => by simp [loadVar, isAgg, run_underlying Try.underlying3, h]
theorem o5 : OneT 5 := fun w g o v h => by simp [loadVar, isAgg, run_underlying Try.underlying5, h]
theorem zerosB (n : Nat) : zerosU8 n = bcells (List.replicate n 0) := by simp [zerosU8, bcells]
section
variable {w : World} {a : Act} {o : Oper}
theorem run_extZ (x : Operand) (i : Nat) (ho : o.op = .extract x i) (vs : Array Value) (hx : a.eval x = .tuple vs) (v : Value) (hv : vs[i]? = some v) : (execOp a.eval o).run Try.prog w = .ok (.value v) w := by simp [execOp, ho, hx, Instr.extract, hv]
theorem run_eqZ {t : Nat} (x y : Operand) (ho : o.op = .binOp .eql t x y t) (z z' : Int) (hx : a.eval x = .int .i64 z) (hy : a.eval y = .int .i64 z') (b : Bool) (hb : decide (z = z') = b) : (execOp a.eval o).run Try.prog w = .ok (.value (.bool b)) w := by
  subst hb
  simp only [execOp, ho, hx, hy]
  by_cases h : z = z'
  · subst h; simp [go_sem]
  · simp [go_sem, h]
theorem run_neZ {t : Nat} (x y : Operand) (ho : o.op = .binOp .neq t x y t) (z z' : Int) (hx : a.eval x = .int .i64 z) (hy : a.eval y = .int .i64 z') (b : Bool) (hb : (!decide (z = z')) = b) : (execOp a.eval o).run Try.prog w = .ok (.value (.bool b)) w := by
  subst hb
  simp only [execOp, ho, hx, hy]
  by_cases h : z = z'
  · subst h; simp [go_sem]
  · simp [go_sem, h]
theorem run_lenZ {t : TypeId} (hu : Try.prog.underlying t = some (.slice (Try.prog.elem t))) (x : Operand) (ho : o.op = .call { callee := .builtin .len, args := #[x], argTypes := #[t] }) (p : Option Addr) (n cap : Nat) (hx : a.eval x = .slice p n cap) : (execOp a.eval o).run Try.prog w = .ok (.value (.int .i64 (n : Nat))) w := by
  have hr := run_len_slice (P := Try.prog) w t o.type p n cap hu
  simp only [execOp, ho, resolve, invoke, builtin, Sem.run_bind, Sem.run_pure, Result.andThen_ok, List.map_toArray, List.map_cons, List.map_nil, hx, hr]
  rfl
theorem run_lssZ (x y : Operand) (ho : o.op = .binOp .lss 3 x y 3) (z z' : Int) (hx : a.eval x = .int .i64 z) (hy : a.eval y = .int .i64 z') (b : Bool) (hb : decide (z < z') = b) : (execOp a.eval o).run Try.prog w = .ok (.value (.bool b)) w := by
  subst hb
  simp only [execOp, ho, hx, hy]
  simp [go_sem]
theorem run_geqZ (x y : Operand) (ho : o.op = .binOp .geq 3 x y 3) (z z' : Int) (hx : a.eval x = .int .i64 z) (hy : a.eval y = .int .i64 z') (b : Bool) (hb : decide (z' ≤ z) = b) : (execOp a.eval o).run Try.prog w = .ok (.value (.bool b)) w := by
  subst hb
  simp only [execOp, ho, hx, hy]
  simp [go_sem]
/-- the place of a byte of an array -/
theorem run_ixA {T n : Nat} (hu : Try.prog.underlying T = some (.array n 5)) (x i : Operand) (ho : o.op = .indexAddr T x i) (g off j : Nat) (hx : a.eval x = .pointer (some ⟨g, off, none⟩)) (hi : a.eval i = .int .i64 (j : Nat)) (hj : j < n) : (execOp a.eval o).run Try.prog w = .ok (.value (.pointer (some ⟨g, off + j, none⟩))) w := by
  obtain ⟨i5, hi5, hsz⟩ := Option.map_eq_some_iff.1 info5
  simp [execOp, ho, hx, hi, Instr.indexAt, asIntOf, run_underlying hu, Instr.sureAddr, hj, sizeOf, typeInfo, hi5, hsz, add_none]
end
end Go.Proofs.Ytbmlbnbhjligdaa
namespace Go.Proofs.Ytbmlbnbhjligdaa
open Go.RowKit
section
variable {w : World} {a : Act} {o : Oper}
theorem run_put1 {t : Nat} (hs : (Try.prog.info? t).map (·.size) = some 1) (x y : Operand) (ho : o.op = .store t x y) {w0 W : World} {l : List (Nat × TypeId × List Value)} (h : Loc w0 W l) (i : Nat) {g T : Nat} {cur : List Value} (e : l[i]? = some (g, T, cur)) (j : Nat) (hx : a.eval x = .pointer (some ⟨g, j, none⟩)) (v : Value) (hy : a.eval y = v) (hv : v.cells = #[v] ∧ v.oneCell' = true) (hj : j < cur.length) : (execOp a.eval o).run Try.prog W = .ok .skip (W.setCell ⟨g, j, none⟩ v) ∧ Loc w0 (W.setCell ⟨g, j, none⟩ v) (l.set i (g, T, cur.set j v)) :=
  ⟨run_putRow hs x y ho g j T cur hx v hy hv (h.at i e) hj, h.set i e (row_cell' (h.at i e) v) ((Ch.refl (· = g) W).setCell (Or.inl rfl) j v)⟩
end
theorem bcells_set (u : List Nat) (j v : Nat) : (bcells u).set j (.int .u8 (v : Nat)) = bcells (u.set j v) := by simp [bcells, List.map_set]
theorem bat {u : List Nat} {j : Nat} (h : j < u.length) : (bcells u)[j]? = some (.int .u8 (u.getD j 0 : Nat)) := by simp [bcells, h]
theorem Loc.put {w W : World} {l : List (Nat × TypeId × List Value)} (h : Loc w W l) (i : Nat) {g T : Nat} {cur : List Value} (e : l[i]? = some (g, T, cur)) (j : Nat) (v : Value) : Loc w (W.setCell ⟨g, j, none⟩ v) (l.set i (g, T, cur.set j v)) := h.set i e (row_cell' (h.at i e) v) ((Ch.refl (· = g) W).setCell (Or.inl rfl) j v)
theorem Loc.lay {w W : World} {l : List (Nat × TypeId × List Value)} (h : Loc w W l) (i : Nat) {g T : Nat} {cur : List Value} (e : l[i]? = some (g, T, cur)) (off : Nat) (cs : List Value) : Loc w (W.setRow g (splice cur off cs).toArray) (l.set i (g, T, splice cur off cs)) := h.set i e ((h.at i e).setRow _) ((Ch.refl (· = g) W).setRow (Or.inl rfl) _)
end Go.Proofs.Ytbmlbnbhjligdaa
namespace Go.Proofs.Ytbmlbnbhjligdaa
open Go.RowKit
section
variable {P : Program} {ops : Array Oper} {Q : Exit → Act → World → Prop} {md : Region.Mode} {S : World → Prop} {z : Nat}
/-- whatever order is picked from here on; S holds behind every operation, as long as the last one has not come up -/
def wpAnyU (P : Program) (md : Region.Mode) (ops : Array Oper) (Q : Exit → Act → World → Prop) (S : World → Prop) (z : Nat) : Nat → Array Bool → Act → World → Prop
  | 0, listed, a, w => Region.ready md ops listed = [] ∧ Q .normal a w
  | fuel + 1, listed, a, w =>
    (Region.ready md ops listed = [] → Q .normal a w) ∧
    ∀ i ∈ Region.ready md ops listed, wpOp P ops Q i (fun a' w' => ((listed.setIfInBounds i true).getD z true = false → S w') ∧ wpAnyU P md ops Q S z fuel (listed.setIfInBounds i true) a' w') a w
theorem wpAny_of_until : ∀ (fuel : Nat) (listed : Array Bool) (a : Act) (w : World), wpAnyU P md ops Q S z fuel listed a w → wpAny P md ops Q fuel listed a w
  | 0, _, _, _, h => h
  | fuel + 1, _, _, _, h => ⟨h.1, fun i hi => wpOp_mono (fun a' w' h' => wpAny_of_until fuel _ a' w' h'.2) (h.2 i hi)⟩
theorem wp_region_until {id : Nat} {a : Act} {w : World} (z : Nat) (hm : P.follows .mixedOrders = true)
    (h : wpAnyU P .any ops Q S z ops.size (Array.replicate ops.size false) a { w with drawn := w.drawn + 1 }) : (Code.region id ops true).wp P Q a w :=
  wp_region_any hm (wpAny_of_until _ _ _ _ h)
theorem wpAnyU_done {listed : Array Bool} {a : Act} {w : World} (hr : Region.ready md ops listed = []) (h : Q .normal a w) :
    ∀ fuel, wpAnyU P md ops Q S z fuel listed a w
  | 0 => ⟨hr, h⟩
  | _ + 1 => ⟨fun _ => h, by rw [hr]; simp⟩
/-- the last waits for i -/
def waitsB (md : Region.Mode) (ops : Array Oper) (z i : Nat) : Bool := i != z && match ops[z]? with
  | some o => o.after.any fun e => Region.binds md e && e.on == i
  | none => false
end
/-- one waits for the next, none has come up -/
def chainB (md : Region.Mode) (ops : Array Oper) (listed : Array Bool) : List Nat → Bool
  | [] => true
  | [a] => !(listed.getD a true)
  | a :: b :: r => !(listed.getD a true) && (waitsB md ops b a && chainB md ops listed (b :: r))
section
variable {P : Program} {ops : Array Oper} {Q : Exit → Act → World → Prop} {md : Region.Mode} {S : World → Prop} {z : Nat}
theorem chain_head {listed : Array Bool} {a : Nat} {r : List Nat} (h : chainB md ops listed (a :: r) = true) : listed.getD a true = false := by
  cases r with
  | nil => simpa [chainB] using h
  | cons b r =>
    unfold chainB at h
    simp only [Bool.and_eq_true, Bool.not_eq_true'] at h
    exact h.1
theorem waits_not {listed : Array Bool} {a b : Nat} (hw : waitsB md ops b a = true) (ha : listed.getD a true = false) : b ∉ Region.ready md ops listed := by
  intro hb
  obtain ⟨_, ob, hob, hall⟩ := mem_ready.1 hb
  unfold waitsB at hw
  rw [Bool.and_eq_true, hob] at hw
  obtain ⟨_, h2⟩ := hw
  simp only [Array.any_eq_true] at h2
  obtain ⟨n, hn, hb'⟩ := h2
  simp only [Bool.and_eq_true, beq_iff_eq] at hb'
  have h1 := hall _ (Array.getElem_mem hn) hb'.1
  rw [hb'.2] at h1
  rcases Nat.lt_or_ge a listed.size with h' | h'
  · simp [h'] at ha h1; rw [ha] at h1; cases h1
  · simp [Array.getElem?_eq_none h'] at h1
theorem chain_not {listed : Array Bool} : ∀ (r : List Nat) (a j : Nat), chainB md ops listed (a :: r) = true → j ∈ Region.ready md ops listed → j ∉ r := by
  intro r
  induction r with
  | nil => intro a j _ _ h; cases h
  | cons b r ih =>
    intro a j h hj hm
    have ha := chain_head h
    unfold chainB at h
    simp only [Bool.and_eq_true] at h
    rcases List.mem_cons.1 hm with e | e
    · subst e; exact waits_not h.2.1 ha hj
    · exact ih b j h.2.2 hj e
theorem chain_set {listed : Array Bool} (j : Nat) : ∀ (l : List Nat), chainB md ops listed l = true → j ∉ l → chainB md ops (listed.setIfInBounds j true) l = true := by
  intro l
  induction l with
  | nil => intro _ _; rfl
  | cons a r ih =>
    intro h hj
    have hja : j ≠ a := fun e => hj (by rw [e]; simp)
    have ha := chain_head h
    have ha' : (listed.setIfInBounds j true).getD a true = false := by rw [getD_set_ne true hja]; exact ha
    cases r with
    | nil => simp only [chainB, ha', Bool.not_false]
    | cons b r =>
      unfold chainB at h ⊢
      simp only [Bool.and_eq_true] at h ⊢
      exact ⟨by rw [ha']; rfl, h.2.1, ih h.2.2 (fun e => hj (by simp [e]))⟩
theorem chain_mem {listed : Array Bool} : ∀ (l : List Nat) (j : Nat), chainB md ops listed l = true → j ∈ l → listed.getD j true = false := by
  intro l
  induction l with
  | nil => intro j _ h; cases h
  | cons a r ih =>
    intro j h hj
    rcases List.mem_cons.1 hj with e | e
    · rw [e]; exact chain_head h
    · cases r with
      | nil => cases e
      | cons b r =>
        unfold chainB at h
        simp only [Bool.and_eq_true] at h
        exact ih j h.2.2 e
theorem wpAnyU_chain {i : Nat} {oi : Oper} {v : Value} (l : List Nat) (hzm : z ∈ l) (hil : i ∉ l) (hi : ops[i]? = some oi) (hsel : ∀ (j : Nat) (o : Oper) cs b, ops[j]? = some o → o.op ≠ .select cs b)
    (hQ : ∀ c a w, Q (.panic c) (a.put oi.dst v) w → Q (.panic c) a w) :
    ∀ (fuel : Nat) (listed : Array Bool) (a : Act) (w : World),
      (∀ j oj, ops[j]? = some oj → j ≠ i → listed.getD j true = false → (∀ e ∈ oj.after, Region.binds md e = true → e.on ≠ i) → oi.apart ops oj = true) →
      i ∈ Region.ready md ops listed → chainB md ops listed (i :: l) = true → YieldsIf P ops S oi v a → S w →
      wpAnyU P md ops Q S z fuel (listed.setIfInBounds i true) (a.put oi.dst v) w → wpAnyU P md ops Q S z (fuel + 1) listed a w := by
  intro fuel
  induction fuel with
  | zero =>
    intro listed a w _ hr hzl hy hS H
    refine ⟨fun h => (by rw [h] at hr; cases hr), fun j hj => ?_⟩
    by_cases hji : j = i
    · subst hji; exact hy.wpOp hi hS ⟨fun _ => hS, H⟩
    · have := ready_mono hj hji
      rw [H.1] at this
      cases this
  | succ fuel ih =>
    intro listed a w hfree hr hcl hy hS H
    have hiz : i ≠ z := fun e => hil (by rw [e]; exact hzm)
    have hzl : listed.getD z true = false := chain_mem _ z hcl (by simp [hzm])
    refine ⟨fun h => (by rw [h] at hr; cases hr), fun j hj => ?_⟩
    by_cases hji : j = i
    · subst hji; exact hy.wpOp hi hS ⟨fun _ => hS, H⟩
    · have h1 := H.2 j (ready_mono hj hji)
      obtain ⟨hjun, oj, hoj, hall⟩ := mem_ready.1 hj
      have hnot : ∀ e ∈ oj.after, Region.binds md e = true → e.on ≠ i := fun e he hb heq => by
        have h1 := hall e he hb
        have h0 := (mem_ready.1 hr).1
        rw [heq] at h1
        rcases Nat.lt_or_ge i listed.size with h' | h'
        · simp [h'] at h0 h1; rw [h0] at h1; cases h1
        · simp [Array.getElem?_eq_none h'] at h1
      have hjl : j ∉ l := chain_not l i j hcl hj
      have hjz : j ≠ z := fun e => hjl (by rw [e]; exact hzm)
      have hlij : ((listed.setIfInBounds i true).setIfInBounds j true).getD z true = false := by rw [getD_set_ne true hjz, getD_set_ne true hiz]; exact hzl
      have h2 := wpOp_putIf hoj (hfree j oj hoj hji hjun hnot) (fun cs b => hsel i oi cs b hi) (fun cs b => hsel j oj cs b hoj) hQ hy h1
      have hfree' : ∀ k ok, ops[k]? = some ok → k ≠ i → (listed.setIfInBounds j true).getD k true = false →
          (∀ e ∈ ok.after, Region.binds md e = true → e.on ≠ i) → oi.apart ops ok = true := fun k ok hk hki hun hno => by
        refine hfree k ok hk hki ?_ hno
        by_cases hjk : j = k
        · subst hjk; exact hjun
        · rw [getD_set_ne true hjk] at hun; exact hun
      refine wpOp_mono (fun a' w' h3 => ?_) h2
      have hSw := h3.2.1 hlij
      refine ⟨fun _ => hSw, ih (listed.setIfInBounds j true) a' w' hfree' (ready_mono hr (Ne.symm hji)) (chain_set j _ hcl (fun e => by rcases List.mem_cons.1 e with e | e; exact hji e; exact hjl e)) h3.1 hSw ?_⟩
      rw [Array.setIfInBounds_comm _ _ hji]
      exact h3.2.2
end
section
variable {ops : Array Oper} {Q : Exit → Act → World → Prop} {a : Act} {w : World} {listed : Array Bool} {fuel : Nat} {S : World → Prop} {z : Nat}
theorem takeV {i : Nat} (l : List Nat) (d : Option Tmp) {oi : Oper} {v : Value} (hi : ops[i]? = some oi) (hd : oi.dst = d)
    (hs : Region.noSelect ops = true) (hf : Region.free .any ops listed i = true) (hr : (Region.ready .any ops listed).contains i = true) (hz : (chainB .any ops listed (i :: l) && (l.contains z && !l.contains i)) = true)
    (hQ : ∀ c a w, Q (.panic c) (a.put d v) w → Q (.panic c) a w) (hy : YieldsIf Try.prog ops S oi v a) (hS : S w)
    (h : wpAnyU Try.prog .any ops Q S z fuel (listed.setIfInBounds i true) (a.put d v) w) : wpAnyU Try.prog .any ops Q S z (fuel + 1) listed a w := by
  subst hd
  simp only [Bool.and_eq_true, Bool.not_eq_true'] at hz
  exact wpAnyU_chain l (by simpa using hz.2.1) (by simpa using hz.2.2) hi (Region.noSelect_spec hs) hQ fuel listed a w (Region.free_spec hi hf) (by simpa using hr) hz.1 hy hS h
end
section
variable {ops : Array Oper} {Q : Exit → Act → World → Prop} {a : Act} {w : World} {listed : Array Bool} {fuel : Nat} {S : World → Prop} {z : Nat}
theorem oneU {i : Nat} (hr : Region.ready .any ops listed = [i]) (h : wpOp Try.prog ops Q i (fun a' w' => ((listed.setIfInBounds i true).getD z true = false → S w') ∧ wpAnyU Try.prog .any ops Q S z fuel (listed.setIfInBounds i true) a' w') a w) : wpAnyU Try.prog .any ops Q S z (fuel + 1) listed a w :=
  ⟨fun h0 => (by rw [hr] at h0; cases h0), fun j hj => (by rw [hr] at hj; obtain rfl := List.mem_singleton.1 hj; exact h)⟩
end
end Go.Proofs.Ytbmlbnbhjligdaa
namespace Go.Proofs.Ytbmlbnbhjligdaa
open Go.RowKit Go.MapKept
theorem o4 : OneT 4 := fun w g o v h => by simp [loadVar, isAgg, run_underlying Try.underlying4, h]
theorem enters {f : Nat} {fn : Func} (hf : Try.prog.funcs[f]? = some fn) (hn : (fn.name == "runtime.NumGoroutine") = false) (hb : fn.body.isNone = false) : EntersF f := by
  intro args w
  have h1 : fn.name ≠ "runtime.NumGoroutine" := by simpa using hn
  have hb' : fn.body ≠ none := by intro hn; rw [hn] at hb; cases hb
  simp [callFunc, hf, h1, hb', mark]
theorem eN (f : Nat) {fn : Func} (hf : Try.prog.funcs[f]? = some fn) (hn : (fn.name == "runtime.NumGoroutine") = false) (hb : fn.body.isNone = false) : EntersF f := enters hf hn hb
section
variable {w : World} {a : Act} {o : Oper}
theorem run_leqZ (x y : Operand) (ho : o.op = .binOp .leq 3 x y 3) (z z' : Int) (hx : a.eval x = .int .i64 z) (hy : a.eval y = .int .i64 z') (b : Bool) (hb : decide (z ≤ z') = b) : (execOp a.eval o).run Try.prog w = .ok (.value (.bool b)) w := by
  subst hb
  simp only [execOp, ho, hx, hy]
  simp [go_sem]
theorem run_gtrZ (x y : Operand) (ho : o.op = .binOp .gtr 3 x y 3) (z z' : Int) (hx : a.eval x = .int .i64 z) (hy : a.eval y = .int .i64 z') (b : Bool) (hb : decide (z' < z) = b) : (execOp a.eval o).run Try.prog w = .ok (.value (.bool b)) w := by
  subst hb
  simp only [execOp, ho, hx, hy]
  simp [go_sem]
end
theorem run_stV {w w' : World} {a : Act} {o : Oper} {t : TypeId} (x y : Operand) (ho : o.op = .store t x y) (g off : Nat) (hx : a.eval x = .pointer (some ⟨g, off, none⟩)) (v : Value) (hy : a.eval y = v) (hst : (storeVar t ⟨g, off, none⟩ v).run Try.prog w = .ok () w') : (execOp a.eval o).run Try.prog w = .ok .skip w' := by
  simp [execOp, ho, hx, hy, Instr.storeAt, Instr.sureAddr, hst]
theorem Ch.under {w w' : World} {g : Nat} (h : Ch (· = g) w w') (hg : g ≤ w.heap.size) : Below g w w' := h.below hg fun i hi e => by omega
theorem eN7 : EntersF 7 := eN 7 Try.func7 (by kernel_rfl) (by kernel_rfl)
theorem eN8 : EntersF 8 := eN 8 Try.func8 (by kernel_rfl) (by kernel_rfl)
theorem eN9 : EntersF 9 := eN 9 Try.func9 (by kernel_rfl) (by kernel_rfl)
theorem eN10 : EntersF 10 := eN 10 Try.func10 (by kernel_rfl) (by kernel_rfl)
theorem eN11 : EntersF 11 := eN 11 Try.func11 (by kernel_rfl) (by kernel_rfl)
theorem eN12 : EntersF 12 := eN 12 Try.func12 (by kernel_rfl) (by kernel_rfl)
theorem eN13 : EntersF 13 := eN 13 Try.func13 (by kernel_rfl) (by kernel_rfl)
theorem eN14 : EntersF 14 := eN 14 Try.func14 (by kernel_rfl) (by kernel_rfl)
theorem eN15 : EntersF 15 := eN 15 Try.func15 (by kernel_rfl) (by kernel_rfl)
theorem eN16 : EntersF 16 := eN 16 Try.func16 (by kernel_rfl) (by kernel_rfl)
theorem eN17 : EntersF 17 := eN 17 Try.func17 (by kernel_rfl) (by kernel_rfl)
theorem eN18 : EntersF 18 := eN 18 Try.func18 (by kernel_rfl) (by kernel_rfl)
theorem eN19 : EntersF 19 := eN 19 Try.func19 (by kernel_rfl) (by kernel_rfl)
theorem eN20 : EntersF 20 := eN 20 Try.func20 (by kernel_rfl) (by kernel_rfl)
end Go.Proofs.Ytbmlbnbhjligdaa

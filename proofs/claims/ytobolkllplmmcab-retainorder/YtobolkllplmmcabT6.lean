/- The order of what is due: by expiry, then by id; comparing. -/
import Derived.Test.YtobolkllplmmcabT5
import Derived.Sort.Walk0
namespace Go.Proofs.Ytobolkllplmmcab
open Go.RowKit

/-- one text before another -/
def sl (x y : ByteArray) : Prop := x.data.toList < y.data.toList
instance (x y : ByteArray) : Decidable (sl x y) := by unfold sl; infer_instance
theorem bl_eq (x y : ByteArray) : Op.bytesLess x.toList y.toList = decide (sl x y) := by
  rw [bytesLess_eq, Lib.toList_data, Lib.toList_data]
  rfl
theorem sl_irrefl (x : ByteArray) : ¬ sl x x := List.lt_irrefl _
theorem sl_trans {x y z : ByteArray} (h : sl x y) (k : sl y z) : sl x z := List.lt_trans h k
theorem sl_total {x y : ByteArray} (h : ¬ sl x y) (k : ¬ sl y x) : x = y := by
  have : x.data.toList = y.data.toList := List.le_antisymm k h
  cases x
  cases y
  simp only [ByteArray.mk.injEq]
  exact Array.ext' this
theorem sl_asymm {x y : ByteArray} (h : sl x y) : ¬ sl y x := fun k => sl_irrefl x (sl_trans h k)

abbrev Key := Int × ByteArray
def klt (a b : Key) : Prop := a.1 < b.1 ∨ (a.1 = b.1 ∧ sl a.2 b.2)
instance (a b : Key) : Decidable (klt a b) := by unfold klt; infer_instance
theorem klt_irrefl (a : Key) : ¬ klt a a := by
  rintro (h | ⟨_, h⟩)
  · omega
  · exact sl_irrefl _ h
theorem klt_trans {a b c : Key} (h : klt a b) (k : klt b c) : klt a c := by
  rcases h with h | ⟨h1, h2⟩ <;> rcases k with k | ⟨k1, k2⟩
  · exact Or.inl (by omega)
  · exact Or.inl (by omega)
  · exact Or.inl (by omega)
  · exact Or.inr ⟨by omega, sl_trans h2 k2⟩
theorem klt_total {a b : Key} (h : ¬ klt a b) (k : ¬ klt b a) : a = b := by
  unfold klt at h k
  have e : a.1 = b.1 := by
    rcases Int.lt_trichotomy a.1 b.1 with x | x | x
    · exact absurd (Or.inl x) h
    · exact x
    · exact absurd (Or.inl x) k
  have e2 : a.2 = b.2 := sl_total (fun x => h (Or.inr ⟨e, x⟩)) (fun x => k (Or.inr ⟨e.symm, x⟩))
  exact Prod.ext e e2
/-- a row that rises -/
def Up (l : List Key) : Prop := l.Pairwise fun a b => ¬ klt b a
theorem up_unique : ∀ (l l' : List Key), l.Perm l' → Up l → Up l' → l = l'
  | [], l', hp, _, _ => by simpa using hp.symm
  | x :: l, l', hp, h1, h2 => by
    cases l' with
    | nil => simp at hp
    | cons y l' =>
      obtain ⟨hx, k1⟩ := List.pairwise_cons.1 h1
      obtain ⟨hy, k2⟩ := List.pairwise_cons.1 h2
      have hxm : x ∈ y :: l' := hp.subset (by simp)
      have hym : y ∈ x :: l := hp.symm.subset (by simp)
      have e : x = y := by
        rcases List.mem_cons.1 hym with e | hm
        · exact e.symm
        · rcases List.mem_cons.1 hxm with e | hm'
          · exact e
          · exact klt_total (hy x hm') (hx y hm)
      subst e
      rw [up_unique l l' hp.cons_inv k1 k2]

/-- may be deleted now, and was locked -/
def dueB (now : Int) (r : Rc) : Bool := decide (0 < r.expiry) && decide (refS r now = 0)
def keyOf (r : Rc) : Key := (r.expiry, r.id)
def keys (now : Int) (rs : List Rc) : List Key := (rs.filter (dueB now)).map keyOf
/-- what is due, in its order -/
def IsDue (now : Int) (rs : List Rc) (out : List ByteArray) : Prop := ∃ ks : List Key, ks.Perm (keys now rs) ∧ Up ks ∧ out = ks.map (·.2)
theorem IsDue.unique {now : Int} {rs : List Rc} {a b : List ByteArray} (h : IsDue now rs a) (k : IsDue now rs b) : a = b := by
  obtain ⟨x, hp, hu, rfl⟩ := h
  obtain ⟨y, kp, ku, rfl⟩ := k
  rw [up_unique x y (hp.trans kp.symm) hu ku]

/-- records one behind the other, each with the value of its places -/
structure Rv where
  r : Rc
  v : Value
def rvs : List Rv → List Value
  | [] => []
  | x :: l => rcells x.r x.v ++ rvs l
theorem rvs_append (a b : List Rv) : rvs (a ++ b) = rvs a ++ rvs b := by
  induction a with
  | nil => rfl
  | cons p a ih => simp [rvs, ih]
def AllOk (l : List Rv) : Prop := ∀ x ∈ l, Rok x.r x.v
theorem rvs_length (l : List Rv) (h : AllOk l) : (rvs l).length = l.length * 39 := by
  induction l with
  | nil => rfl
  | cons p l ih =>
    rw [rvs, List.length_append, ih (fun x hx => h x (by simp [hx])), (h p (by simp)).len, List.length_cons]
    omega
theorem rvs_at (l : List Rv) (h : AllOk l) (i : Nat) (x : Rv) (hx : l[i]? = some x) (j : Nat) (hj : j < 39) : (rvs l)[i * 39 + j]? = (rcells x.r x.v)[j]? := by
  induction l generalizing i with
  | nil => simp at hx
  | cons q l ih =>
    have hq := (h q (by simp)).len
    cases i with
    | zero =>
      simp at hx
      subst hx
      rw [rvs, Nat.zero_mul, Nat.zero_add, List.getElem?_append_left (by omega)]
    | succ i =>
      simp at hx
      rw [rvs, List.getElem?_append_right (by omega), ← ih (fun y hy => h y (by simp [hy])) i hx, hq]
      congr 1
      omega
theorem rvs_one (l : List Rv) (h : AllOk l) : ∀ v ∈ rvs l, v.oneCell' = true := by
  induction l with
  | nil => intro v hv; cases hv
  | cons p l ih =>
    intro v hv
    rcases List.mem_append.1 hv with hv | hv
    · exact (h p (by simp)).one v hv
    · exact ih (fun x hx => h x (by simp [hx])) v hv
/-- a slice that holds these records -/
def RsIn (w : World) (v : Value) (l : List Rv) : Prop :=
  ∃ p cap, v = .slice p l.length cap ∧ (l.length ≤ cap ∧ l.length ≤ 9223372036854775807) ∧ AllOk l ∧ (l = [] ∨ ∃ b off, p = some ⟨b, off, none⟩ ∧ ∀ j, j < l.length * 39 → w.cell? ⟨b, off + j, none⟩ = (rvs l)[j]?)
theorem RsIn.ok {w : World} {v : Value} {l : List Rv} (h : RsIn w v l) : AllOk l := by
  obtain ⟨_, _, _, _, h, _⟩ := h
  exact h
theorem RsIn.max {w : World} {v : Value} {l : List Rv} (h : RsIn w v l) : l.length ≤ 9223372036854775807 := by
  obtain ⟨_, _, _, h, _⟩ := h
  exact h.2
/-- it lies below B -/
def Under (B : Nat) (v : Value) : Prop := ∀ p n c, v = .slice p n c → n = 0 ∨ ∃ b off, p = some ⟨b, off, none⟩ ∧ b < B
theorem RsIn.keep {w w' : World} {v : Value} {l : List Rv} (h : RsIn w v l) (hb : ∀ b, v.ownBlock = some b → b < w.heap.size → w'.heap[b]? = w.heap[b]?) : RsIn w' v l := by
  obtain ⟨p, cap, rfl, hl, hk, h⟩ := h
  refine ⟨p, cap, rfl, hl, hk, ?_⟩
  rcases h with h | ⟨b, off, rfl, h1⟩
  · exact Or.inl h
  · refine Or.inr ⟨b, off, rfl, fun j hj => ?_⟩
    obtain ⟨u, hu⟩ : ∃ u, (rvs l)[j]? = some u := ⟨_, List.getElem?_eq_getElem (by rw [rvs_length l hk]; exact hj)⟩
    rw [hu, ← hu, ← h1 j hj]
    exact World.cell?_of_block (w := w) (hb b rfl (block_lt_of_cell ((h1 j hj).trans hu)))
theorem RsIn.later {w w' : World} {v : Value} {l : List Rv} (h : RsIn w v l) (hb : Below w.heap.size w w') : RsIn w' v l := h.keep fun b _ hlt => hb.block b hlt
theorem sl37 : Try.prog.underlying 40 = some (.slice (Try.prog.elem 40)) := by kernel_rfl
theorem und37 : Try.prog.underlying 40 = some (.slice 26) := Try.underlying40
theorem size26 : (Try.prog.info? 26).map (·.size) = some 39 := by kernel_rfl
theorem o37 : OneT 40 := fun w g o v h => by simp [loadVar, isAgg, run_underlying Try.underlying40, h]
theorem run_lenR {w0 w : World} {a : Act} {o : Oper} {v : Value} {l : List Rv} (hin : RsIn w0 v l) (x : Operand) (ho : o.op = .call { callee := .builtin .len, args := #[x], argTypes := #[40] }) (hx : a.eval x = v) : (execOp a.eval o).run Try.prog w = .ok (.value (.int .i64 (l.length : Nat))) w := by
  obtain ⟨p, cap, rfl, _⟩ := hin
  exact run_lenZ sl37 x ho p _ cap hx
theorem ix_rec {w : World} {v : Value} {l : List Rv} (hin : RsIn w v l) (i : Nat) (x : Rv) (h : l[i]? = some x) :
    ∃ b off, (∀ w', (Instr.indexAt 40 v (.int .i64 (i : Nat))).run Try.prog w' = .ok (.pointer (some ⟨b, off, none⟩)) w') ∧ (∀ j u, (rcells x.r x.v)[j]? = some u → w.cell? ⟨b, off + j, none⟩ = some u) ∧ v.ownBlock = some b := by
  obtain ⟨q, cap, rfl, hl, hk, hin⟩ := hin
  have hi : i < l.length := (List.getElem?_eq_some_iff.1 h).1
  obtain ⟨i5, hi5, hsz⟩ := Option.map_eq_some_iff.1 size26
  rcases hin with rfl | ⟨b, off, rfl, hc⟩
  · simp at hi
  · refine ⟨b, off + i * 39, fun w' => by simp [Instr.indexAt, asIntOf, run_underlying und37, hi, sizeOf, typeInfo, hi5, hsz, add_none], fun j u hu => ?_, rfl⟩
    have hj : j < 39 := by
      have := (List.getElem?_eq_some_iff.1 hu).1
      rw [(hk x (List.mem_of_getElem? h)).len] at this
      exact this
    rw [Nat.add_assoc, hc (i * 39 + j) (by omega), rvs_at l hk i x h j hj, hu]

def cmpZ (x y : Int) : Int := if x < y then -1 else if y < x then 1 else 0
def cmpS (x y : ByteArray) : Int := if sl x y then -1 else if sl y x then 1 else 0
section
variable {w : World} {a : Act} {o : Oper}
theorem run_lssS (x y : Operand) (ho : o.op = .binOp .lss 9 x y 9) (s s' : ByteArray) (hx : a.eval x = .string s) (hy : a.eval y = .string s') (b : Bool) (hb : decide (sl s s') = b) : (execOp a.eval o).run Try.prog w = .ok (.value (.bool b)) w := by
  exact run_binOp' x y ho _ _ _ hx hy rfl (by rw [binOp_string_lss, bl_eq, hb]; rfl)
theorem run_gtrS (x y : Operand) (ho : o.op = .binOp .gtr 9 x y 9) (s s' : ByteArray) (hx : a.eval x = .string s) (hy : a.eval y = .string s') (b : Bool) (hb : decide (sl s' s) = b) : (execOp a.eval o).run Try.prog w = .ok (.value (.bool b)) w := by
  have e : (!(Op.bytesLess s.toList s'.toList || s.toList == s'.toList)) = b := by
    rw [bl_eq, ← hb, Lib.toList_data, Lib.toList_data]
    by_cases h : sl s s'
    · rw [decide_eq_true h, decide_eq_false (sl_asymm h)]
      rfl
    · rw [decide_eq_false h]
      by_cases k : sl s' s
      · rw [decide_eq_true k]
        have : (s.data.toList == s'.data.toList) = false := by
          rw [beq_eq_false_iff_ne]
          intro e
          have k' : s'.data.toList < s.data.toList := k
          rw [e] at k'
          exact List.lt_irrefl _ k'
        rw [this]
        rfl
      · rw [decide_eq_false k, sl_total h k]
        simp
  exact run_binOp' x y ho _ _ _ hx hy rfl (by rw [binOp_string_gtr, e]; rfl)
end
/-- how two of these records stand in the order of what is due -/
def cmpI (l : List Rc) (i j : Nat) : Int :=
  if cmpZ (l.getD i rz).expiry (l.getD j rz).expiry ≠ 0 then cmpZ (l.getD i rz).expiry (l.getD j rz).expiry else if cmpS (l.getD i rz).id (l.getD j rz).id ≠ 0 then cmpS (l.getD i rz).id (l.getD j rz).id else cmpZ i j
theorem cmpZ_lt (x y : Int) : cmpZ x y < 0 ↔ x < y := by unfold cmpZ; split <;> (try split) <;> omega
theorem cmpZ_eq (x y : Int) : cmpZ x y = 0 ↔ x = y := by unfold cmpZ; split <;> (try split) <;> omega
theorem cmpS_lt (x y : ByteArray) : cmpS x y < 0 ↔ sl x y := by
  unfold cmpS
  by_cases h : sl x y
  · rw [if_pos h]; simp [h]
  · rw [if_neg h]; split <;> simp [h]
theorem cmpS_eq (x y : ByteArray) : cmpS x y = 0 ↔ x = y := by
  unfold cmpS
  by_cases h : sl x y
  · rw [if_pos h]
    simp
    rintro rfl
    exact sl_irrefl _ h
  · rw [if_neg h]
    by_cases k : sl y x
    · rw [if_pos k]
      simp
      rintro rfl
      exact sl_irrefl _ k
    · rw [if_neg k]
      simp [sl_total h k]
theorem cmpI_lt (l : List Rc) (i j : Nat) : cmpI l i j < 0 ↔ klt (keyOf (l.getD i rz)) (keyOf (l.getD j rz)) ∨ (keyOf (l.getD i rz) = keyOf (l.getD j rz) ∧ i < j) := by
  unfold cmpI
  generalize hx : l.getD i rz = x
  generalize hy : l.getD j rz = y
  by_cases h1 : x.expiry = y.expiry
  · rw [if_neg (by rw [Ne, Decidable.not_not, cmpZ_eq]; exact h1)]
    by_cases h2 : x.id = y.id
    · rw [if_neg (by rw [Ne, Decidable.not_not, cmpS_eq]; exact h2), cmpZ_lt]
      constructor
      · intro h
        exact Or.inr ⟨Prod.ext h1 h2, by omega⟩
      · rintro ((h | ⟨_, h⟩) | ⟨_, h⟩)
        · exact absurd h (by simp only [keyOf]; omega)
        · simp only [keyOf] at h
          rw [h2] at h
          exact absurd h (sl_irrefl _)
        · omega
    · rw [if_pos (by rw [Ne, cmpS_eq]; exact h2), cmpS_lt]
      constructor
      · intro h
        exact Or.inl (Or.inr ⟨h1, h⟩)
      · rintro ((h | ⟨_, h⟩) | ⟨h, _⟩)
        · exact absurd h (by simp only [keyOf]; omega)
        · exact h
        · exact absurd (congrArg Prod.snd h) h2
  · rw [if_pos (by rw [Ne, cmpZ_eq]; exact h1), cmpZ_lt]
    constructor
    · intro h
      exact Or.inl (Or.inl h)
    · rintro ((h | ⟨h, _⟩) | ⟨h, _⟩)
      · exact h
      · exact absurd h h1
      · exact absurd (congrArg Prod.fst h) h1
/-- that order -/
def RI (l : List Rc) (i j : Nat) : Prop := klt (keyOf (l.getD i rz)) (keyOf (l.getD j rz)) ∨ (keyOf (l.getD i rz) = keyOf (l.getD j rz) ∧ i < j)
theorem RI.irrefl (l : List Rc) (i : Nat) : ¬ RI l i i := by
  rintro (h | ⟨_, h⟩)
  · exact klt_irrefl _ h
  · omega
theorem RI.trans {l : List Rc} {i j k : Nat} (h : RI l i j) (h' : RI l j k) : RI l i k := by
  rcases h with h | ⟨h1, h2⟩ <;> rcases h' with k | ⟨k1, k2⟩
  · exact Or.inl (klt_trans h k)
  · exact Or.inl (k1 ▸ h)
  · exact Or.inl (h1.symm ▸ k)
  · exact Or.inr ⟨h1.trans k1, by omega⟩
theorem RI.total {l : List Rc} {i j : Nat} (h : ¬ RI l i j) (h' : ¬ RI l j i) : i = j := by
  have e := klt_total (fun x => h (Or.inl x)) (fun x => h' (Or.inl x))
  have h1 : ¬ i < j := fun x => h (Or.inr ⟨e, x⟩)
  have h2 : ¬ j < i := fun x => h' (Or.inr ⟨e.symm, x⟩)
  omega
theorem RI.ntrans {l : List Rc} {i j k : Nat} (h : ¬ RI l i j) (h' : ¬ RI l j k) : ¬ RI l i k := by
  intro x
  by_cases y : RI l j i
  · exact h' (y.trans x)
  · exact h' (RI.total h y ▸ x)
theorem isnan_int (z : Int) (w : World) : Calls Try.prog 19 #[.int .i64 z] w fun e w' => e = .returned (.bool false) ∧ w' = w := by
  go_enter Try.func19, Try.ntmps19
  go_wp2_with fail
  go_ret
  exact ⟨by simp, rfl⟩
theorem isnan_str (z : ByteArray) (w : World) : Calls Try.prog 20 #[.string z] w fun e w' => e = .returned (.bool false) ∧ w' = w := by
  go_enter Try.func20, Try.ntmps20
  go_wp2_with fail
  go_ret
  exact ⟨by simp, rfl⟩
end Go.Proofs.Ytobolkllplmmcab

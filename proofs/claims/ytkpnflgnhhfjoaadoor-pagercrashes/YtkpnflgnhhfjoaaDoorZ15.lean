/- Laws for walks: one operation at a time. Layer 9: plain: sets of pages, heads, images. Laws for walks of one operation, of blocks of one's own. -/
import Derived.Test.YtkpnflgnhhfjoaaDoorZ06
import Derived.Test.YtkpnflgnhhfjoaaDoorZ07
import Derived.Test.YtkpnflgnhhfjoaaDoorZ12
import Derived.Test.YtkpnflgnhhfjoaaDoorZ14
import Derived.Laws.CopyOwn
namespace Go.Proofs.YtkpnflgnhhfjoaaDoor
open Go.RowKit Go.Maps

theorem ownK {w w' : World} {base e size n : Nat} {v : Value} {xs : List Value} (h : w.ownsRow base e size v n xs) (hb : ∀ b, v.ownBlock = some b → w'.heap[b]? = w.heap[b]?) : w'.ownsRow base e size v n xs := by
  obtain ⟨hl, h⟩ := h
  refine ⟨hl, ?_⟩
  rcases h with ⟨rfl, h⟩ | ⟨g, cap, cur, rfl, h0, hg, h⟩
  · exact Or.inl ⟨rfl, h⟩
  · exact Or.inr ⟨g, cap, cur, rfl, h0, (hb g rfl).trans hg, h⟩
section
variable {w w0 : World} {ops : Array Oper} {rest : List Oper} {o : Oper} {a : Act} {Q : Exit → Act → World → Prop}
theorem wl (hgd : Region.wanted o (yielded ops a.tmps) = true) (v : Value) (w' : World) (hrun : (execOp a.eval o).run Tryd.prog w = .ok (.value v) w') (h : wpList Tryd.prog ops Q rest (a.put o.dst v) w') : wpList Tryd.prog ops Q (o :: rest) a w :=
  BigFrame.wpList_want hgd fun K hK => by
    unfold Oper.wp
    rw [hrun]
    exact hK _ _ h
theorem own_len {base e sz n : Nat} {v : Value} {xs : List Value} (h : w0.ownsRow base e sz v n xs) {t : TypeId} (hu : Tryd.prog.underlying t = some (.slice (Tryd.prog.elem t))) (ty : TypeId) : (Builtin.len_ #[t] ty #[v]).run Tryd.prog w = .ok (goInt n) w := by
  rcases h.2 with ⟨rfl, rfl⟩ | ⟨g, cap, cur, rfl, _⟩
  · exact run_len_slice w _ _ _ _ _ hu
  · exact run_len_slice w _ _ _ _ _ hu
theorem wl_olen (x : Operand) (t : TypeId) (hgd : Region.wanted o (yielded ops a.tmps) = true) (ho : o.op = .call { callee := .builtin .len, args := #[x], argTypes := #[t] }) (hu : Tryd.prog.underlying t = some (.slice (Tryd.prog.elem t))) {base e sz n : Nat} (v : Value) {xs : List Value} (hx : a.eval x = v) (hown : w0.ownsRow base e sz v n xs)
    (h : wpList Tryd.prog ops Q rest (a.put o.dst (.int .i64 (n : Nat))) w) : wpList Tryd.prog ops Q (o :: rest) a w := by
  have hr := own_len (w := w) hown hu o.type
  refine wl hgd _ w ?_ h
  simp only [execOp, ho, resolve, invoke, builtin, Sem.run_bind, Sem.run_pure, Result.andThen_ok, List.map_toArray, List.map_cons, List.map_nil, hx, hr]
  rfl
theorem own_index {base e sz n : Nat} {v : Value} {xs : List Value} (hown : w0.ownsRow base e sz v n xs) {t : TypeId} (hu : Tryd.prog.underlying t = some (.slice e)) (hs : (Tryd.prog.info? e).map (·.size) = some sz) (k : Nat) (hk : k < n) :
    ∃ b, v.ownBlock = some b ∧ (∀ w', (Instr.indexAt t v (.int .i64 (k : Nat))).run Tryd.prog w' = .ok (.pointer (some ⟨b, k * sz, none⟩)) w') ∧ ∀ j, j < sz → w0.cell? ⟨b, k * sz + j, none⟩ = xs[k * sz + j]? := by
  obtain ⟨i5, hi5, hsz⟩ := Option.map_eq_some_iff.1 hs
  rcases hown.2 with ⟨rfl, rfl⟩ | ⟨g, cap, cur, rfl, _, hg, hcap, hmax, hcs, htake⟩
  · omega
  · refine ⟨g, rfl, fun w' => by simp [Instr.indexAt, asIntOf, run_underlying hu, hk, sizeOf, typeInfo, hi5, hsz, add_none], fun j hj => ?_⟩
    have hlt : k * sz + j < n * sz := by
      have : (k + 1) * sz ≤ n * sz := Nat.mul_le_mul_right sz hk
      rw [Nat.add_mul, Nat.one_mul] at this
      omega
    rw [← htake, List.getElem?_take, if_pos hlt]
    simp [World.cell?, hg]
theorem wl_fld {T i k : Nat} (hf : FieldAt T i k) (x : Operand) (hgd : Region.wanted o (yielded ops a.tmps) = true) (ho : o.op = .fieldAddr T x i) (g off : Nat) (hx : a.eval x = .pointer (some ⟨g, off, none⟩))
    (h : wpList Tryd.prog ops Q rest (a.put o.dst (.pointer (some ⟨g, off + k, none⟩))) w) : wpList Tryd.prog ops Q (o :: rest) a w := wl hgd _ _ (by simp [execOp, ho, hx, hf w g off]) h
end
theorem run_nil {w : World} {a : Act} {o : Oper} (x : Operand) (ho : o.op = .nilCheck x) (p : Addr) (hv : a.eval x = .pointer (some p)) : (execOp a.eval o).run Tryd.prog w = .ok (.value (.pointer (some p))) w := by
  simp [execOp, ho, hv]
theorem run_append {w w' : World} {a : Act} {o : Oper} {t : TypeId} (sv x : Operand) (ho : o.op = .call { callee := .builtin .append, args := #[sv, x], argTypes := #[t, t] }) (v vx v' : Value) (hs : a.eval sv = v) (hx : a.eval x = vx) (hr : (Builtin.append_ #[t, t] o.type #[v, vx]).run Tryd.prog w = .ok v' w') : (execOp a.eval o).run Tryd.prog w = .ok (.value v') w' := by
  simp only [execOp, ho, resolve, invoke, builtin, Sem.run_bind, Sem.run_pure, Result.andThen_ok, List.map_toArray, List.map_cons, List.map_nil, hs, hx, hr]
theorem run_idx {w : World} {a : Act} {o : Oper} {t : TypeId} (x i : Operand) (ho : o.op = .indexAddr t x i) (v p I : Value) (hx : a.eval x = v) (hi : a.eval i = I) (hr : ∀ w', (Instr.indexAt t v I).run Tryd.prog w' = .ok p w') : (execOp a.eval o).run Tryd.prog w = .ok (.value p) w := by
  simp only [execOp, ho, hx, hi, hr, Sem.run_bind, Sem.run_pure, Result.andThen_ok]
theorem run_putRow {w : World} {o : Oper} {a : Act} {t : Nat} (hs : (Tryd.prog.info? t).map (·.size) = some 1) (x y : Operand) (ho : o.op = .store t x y) (g i T : Nat) (cur : List Value) (hx : a.eval x = .pointer (some ⟨g, i, none⟩)) (v : Value) (hy : a.eval y = v) (hv : v.cells = #[v] ∧ v.oneCell' = true) (hr : Row w g T cur) (hi : i < cur.length) :
    (execOp a.eval o).run Tryd.prog w = .ok .skip (w.setCell ⟨g, i, none⟩ v) := by
  obtain ⟨ti, hti, hsz⟩ := Option.map_eq_some_iff.1 hs
  have hst := run_storeCells_at (P := Tryd.prog) g i T [v] 0 cur.toArray w hr (by simp; omega) (by intro u hu; rw [List.mem_singleton.1 hu]; exact hv.2)
  simp only [Nat.add_zero] at hst
  have e : w.setRow g (splice cur i [v]).toArray = w.setCell ⟨g, i, none⟩ v := by
    have e1 : splice cur i [v] = cur.set i v := by
      rw [List.set_eq_take_append_cons_drop, if_pos hi]
      simp [splice]
    rw [setCell_eq_setRow w g i _ T (0, 0) v hr, e1, List.setIfInBounds_toArray]
  have hst' : (storeVar t ⟨g, i, none⟩ v).run Tryd.prog w = .ok () (w.setCell ⟨g, i, none⟩ v) := by
    rw [← e]
    simp [storeVar, sizeOf, typeInfo, hti, hsz, hv.1, hst, splice]
  simp [execOp, ho, hx, hy, Instr.storeAt, Instr.sureAddr, hst']
section
variable {w w0 : World} {ops : Array Oper} {rest : List Oper} {o : Oper} {a : Act} {Q : Exit → Act → World → Prop}
theorem wlS (hgd : Region.wanted o (yielded ops a.tmps) = true) (hd : o.dst = none) (w' : World) (hrun : (execOp a.eval o).run Tryd.prog w = .ok .skip w') (h : wpList Tryd.prog ops Q rest a w') : wpList Tryd.prog ops Q (o :: rest) a w :=
  BigFrame.wpList_want hgd fun K hK => by
    unfold Oper.wp
    rw [hrun]
    simp only [Oper.upon, hd]
    exact hK _ _ h
theorem wl_ldA {t n : Nat} (ht : AggT t n) (x : Operand) (hgd : Region.wanted o (yielded ops a.tmps) = true) (ho : o.op = .load t x) (g off : Nat) (hx : a.eval x = .pointer (some ⟨g, off, none⟩)) (cs : List Value) (hn : cs.length = n) (hc : ∀ j v, cs[j]? = some v → w.cell? ⟨g, off + j, none⟩ = some v)
    (h : wpList Tryd.prog ops Q rest (a.put o.dst (.agg cs.toArray)) w) : wpList Tryd.prog ops Q (o :: rest) a w := wl hgd _ _ (run_loadA ht x ho g off hx cs hn hc) h
theorem wl_mv (x : Operand) (hgd : Region.wanted o (yielded ops a.tmps) = true) (ho : o.op = .move x) (v : Value) (hx : a.eval x = v) (h : wpList Tryd.prog ops Q rest (a.put o.dst v) w) : wpList Tryd.prog ops Q (o :: rest) a w := wl hgd v w (by simp [execOp, ho, hx]) h
theorem wl_as (x : Operand) (hgd : Region.wanted o (yielded ops a.tmps) = true) (ho : o.op = .assign x) (v : Value) (hx : a.eval x = v) (h : wpList Tryd.prog ops Q rest (a.put o.dst v) w) : wpList Tryd.prog ops Q (o :: rest) a w := wl hgd v w (by simp [execOp, ho, hx]) h
theorem wl_put {t : Nat} (hs : (Tryd.prog.info? t).map (·.size) = some 1) (x y : Operand) (hgd : Region.wanted o (yielded ops a.tmps) = true) (hd : o.dst = none) (ho : o.op = .store t x y) (g i T : Nat) (cur : List Value) (hx : a.eval x = .pointer (some ⟨g, i, none⟩)) (v : Value) (hy : a.eval y = v) (hv : v.cells = #[v] ∧ v.oneCell' = true) (hr : Row w g T cur) (hi : i < cur.length)
    (h : wpList Tryd.prog ops Q rest a (w.setCell ⟨g, i, none⟩ v)) : wpList Tryd.prog ops Q (o :: rest) a w := wlS hgd hd _ (run_putRow hs x y ho g i T cur hx v hy hv hr hi) h
theorem wl_ix {t : TypeId} (x i : Operand) (hgd : Region.wanted o (yielded ops a.tmps) = true) (ho : o.op = .indexAddr t x i) (v p I : Value) (hx : a.eval x = v) (hi : a.eval i = I) (hr : ∀ w', (Instr.indexAt t v I).run Tryd.prog w' = .ok p w') (h : wpList Tryd.prog ops Q rest (a.put o.dst p) w) : wpList Tryd.prog ops Q (o :: rest) a w := wl hgd p w (run_idx x i ho v p I hx hi hr) h
end
theorem row_cell' {W : World} {g T i : Nat} {cur : List Value} (h : Row W g T cur) (v : Value) : Row (W.setCell ⟨g, i, none⟩ v) g T (cur.set i v) := by
  rw [setCell_eq_setRow W g i _ T (0, 0) v h]
  have := h.setRow (cur.set i v)
  simpa using this
theorem own_cells {w : World} {base e sz n : Nat} {v : Value} {xs : List Value} (h : w.ownsRow base e sz v n xs) : v.cells = #[v] ∧ v.oneCell' = true := by
  rcases h.2 with ⟨rfl, _⟩ | ⟨g, cap, cur, rfl, _⟩
  · exact ⟨rfl, rfl⟩
  · exact ⟨rfl, rfl⟩
theorem own_isSlice {w : World} {base e size n : Nat} {v : Value} {xs : List Value} (h : w.ownsRow base e size v n xs) : ∃ p n c, v = .slice p n c := by
  rcases h.2 with ⟨rfl, _⟩ | ⟨g, cap, cur, rfl, _⟩
  · exact ⟨_, _, _, rfl⟩
  · exact ⟨_, _, _, rfl⟩
section
variable {ops : Array Oper} {Q : Exit → Act → World → Prop} {a : Act} {w : World} {listed : Array Bool} {fuel : Nat} {S : World → Prop} {o : Oper}
end
end Go.Proofs.YtkpnflgnhhfjoaaDoor

namespace Go.Proofs.YtkpnflgnhhfjoaaDoor
open Fr.Frame

/-- a set of pages: 48 bytes -/
def USet (u : List Nat) : Prop := u.length = 48 ∧ ∀ c ∈ u, c < 256
def bitP (u : List Nat) (p : Nat) : Bool := (u.getD (p / 8) 0).testBit (p % 8)
def hasP (u : List Nat) (p : Int) : Bool := decide (0 ≤ p) && (decide (p < 384) && bitP u p.toNat)
def withP (u : List Nat) (p : Nat) : List Nat := u.set (p / 8) (u.getD (p / 8) 0 ||| 2 ^ (p % 8))
def lessP (u : List Nat) (p : Nat) : List Nat := u.set (p / 8) (u.getD (p / 8) 0 &&& (255 ^^^ 2 ^ (p % 8)))
def noneP : List Nat := List.replicate 48 0
theorem uset_none : USet noneP := ⟨by simp [noneP], fun c hc => by rw [(List.mem_replicate.1 hc).2]; decide⟩
theorem bitP_none (p : Nat) : bitP noneP p = false := by
  unfold bitP noneP
  rw [List.getD_eq_getElem?_getD, List.getElem?_replicate]
  split <;> simp
theorem hasP_nat (u : List Nat) (p : Nat) (h : p < 384) : hasP u (p : Int) = bitP u p := by
  unfold hasP
  rw [decide_eq_true (by omega), decide_eq_true (by omega)]
  simp
theorem hasP_bound {u : List Nat} {p : Int} (h : hasP u p = true) : 0 ≤ p ∧ p < 384 := by
  unfold hasP at h
  simp only [Bool.and_eq_true, decide_eq_true_eq] at h
  exact ⟨h.1, h.2.1⟩
theorem uset_getD {u : List Nat} {i v : Nat} (h : i < u.length) : (u.set i v).getD i 0 = v := by simp [List.getD_eq_getElem?_getD, h]
theorem uset_getD_ne {u : List Nat} {i j v : Nat} (h : i ≠ j) : (u.set i v).getD j 0 = u.getD j 0 := by simp [List.getD_eq_getElem?_getD, List.getElem?_set_ne h]
theorem uget_lt {u : List Nat} (h : USet u) (j : Nat) : u.getD j 0 < 256 := getD_lt h.2 j
theorem pow_lt (p : Nat) : 2 ^ (p % 8) < 256 := by
  have h : p % 8 < 8 := Nat.mod_lt _ (by decide)
  have : 2 ^ (p % 8) < 2 ^ 8 := Nat.pow_lt_pow_right (by decide) h
  simpa using this
theorem or_lt {a b : Nat} (ha : a < 256) (hb : b < 256) : a ||| b < 256 := by
  have := Nat.or_lt_two_pow (x := a) (y := b) (n := 8) ha hb
  simpa using this
theorem and_lt {a b : Nat} (ha : a < 256) : a &&& b < 256 := Nat.lt_of_le_of_lt Nat.and_le_left ha
theorem uset_set {u : List Nat} (h : USet u) (i v : Nat) (hv : v < 256) : USet (u.set i v) := ⟨by rw [List.length_set]; exact h.1, fun c hc => by
  rcases List.mem_or_eq_of_mem_set hc with hc | hc
  · exact h.2 c hc
  · rw [hc]; exact hv⟩
theorem uset_with {u : List Nat} (h : USet u) (p : Nat) : USet (withP u p) := uset_set h _ _ (or_lt (uget_lt h _) (pow_lt p))
theorem uset_less {u : List Nat} (h : USet u) (p : Nat) : USet (lessP u p) := uset_set h _ _ (and_lt (uget_lt h _))
theorem bitP_with {u : List Nat} (h : USet u) {p : Nat} (hp : p < 384) (q : Nat) : bitP (withP u p) q = (decide (q = p) || bitP u q) := by
  unfold bitP withP
  by_cases e : p / 8 = q / 8
  · rw [e, uset_getD (by have := h.1; omega), Nat.testBit_or, Nat.testBit_two_pow]
    rw [Bool.or_comm]
    congr 1
    by_cases e2 : p % 8 = q % 8
    · rw [decide_eq_true e2, decide_eq_true (by omega)]
    · rw [decide_eq_false e2, decide_eq_false (by omega)]
  · rw [uset_getD_ne e, decide_eq_false (by rintro rfl; exact e rfl), Bool.false_or]
theorem bitP_less {u : List Nat} (h : USet u) {p : Nat} (hp : p < 384) (q : Nat) : bitP (lessP u p) q = (!(decide (q = p)) && bitP u q) := by
  unfold bitP lessP
  by_cases e : p / 8 = q / 8
  · rw [e, uset_getD (by have := h.1; omega), Nat.testBit_and, Nat.testBit_xor, Nat.testBit_two_pow, show (255 : Nat) = 2 ^ 8 - 1 by decide, Nat.testBit_two_pow_sub_one, decide_eq_true (show q % 8 < 8 by omega), Bool.and_comm]
    congr 1
    by_cases e2 : p % 8 = q % 8
    · rw [decide_eq_true e2, decide_eq_true (by omega)]; rfl
    · rw [decide_eq_false e2, decide_eq_false (by omega)]; rfl
  · rw [uset_getD_ne e, decide_eq_false (by rintro rfl; exact e rfl)]; simp

/-- a head -/
structure Hd where
  num : Nat
  root : Int
  used : List Nat
structure Hd.WF (h : Hd) : Prop where
  num : h.num < 18446744073709551616
  lo : -1 ≤ h.root
  hi : h.root ≤ 65534
  used : USet h.used
def hdBody (h : Hd) : List Nat := [80, 71] ++ (be 2 (h.root + 1).toNat ++ (be 8 h.num ++ h.used))
def hdSec (h : Hd) : List Nat := hdBody h ++ be 4 (crc (hdBody h))
def hdOf (s : List Nat) : Hd := ⟨val ((s.drop 4).take 8), (val ((s.drop 2).take 2) : Int) - 1, (s.drop 12).take 48⟩
def hdOk (s : List Nat) : Bool := decide (hdSec (hdOf s) = s)
theorem hdBody_length {h : Hd} (hw : h.WF) : (hdBody h).length = 60 := by
  unfold hdBody
  simp only [List.length_append, be_length, hw.used.1, List.length_cons, List.length_nil]
theorem hdSec_length {h : Hd} (hw : h.WF) : (hdSec h).length = 64 := by
  unfold hdSec
  rw [List.length_append, hdBody_length hw, be_length]
theorem hdSec_lt {h : Hd} (hw : h.WF) : ∀ c ∈ hdSec h, c < 256 := by
  intro c hc
  unfold hdSec hdBody at hc
  simp only [List.mem_append, List.mem_cons, List.not_mem_nil, or_false] at hc
  rcases hc with ((rfl | rfl) | hc | hc | hc) | hc
  · decide
  · decide
  · exact be_lt _ _ c hc
  · exact be_lt _ _ c hc
  · exact hw.used.2 c hc
  · exact be_lt _ _ c hc
theorem hdOf_sec {h : Hd} (hw : h.WF) : hdOf (hdSec h) = h := by
  obtain ⟨num, root, used⟩ := h
  have h1 := hw.num
  have h2 := hw.lo
  have h3 := hw.hi
  have h4 := hw.used.1
  simp only at h1 h2 h3 h4
  unfold hdOf hdSec
  have e4 : ((hdBody ⟨num, root, used⟩ ++ be 4 (crc (hdBody ⟨num, root, used⟩))).drop 4).take 8 = be 8 num := by
    generalize crc (hdBody ⟨num, root, used⟩) = z
    unfold hdBody
    rw [List.append_assoc, List.append_assoc, List.append_assoc, ← List.append_assoc [80, 71], List.drop_append_of_le_length (by simp [be_length]), List.drop_of_length_le (by simp [be_length]), List.nil_append, List.take_append_of_le_length (by simp [be_length]), List.take_of_length_le (by simp [be_length])]
  have e2 : ((hdBody ⟨num, root, used⟩ ++ be 4 (crc (hdBody ⟨num, root, used⟩))).drop 2).take 2 = be 2 (root + 1).toNat := by
    generalize crc (hdBody ⟨num, root, used⟩) = z
    unfold hdBody
    rw [List.append_assoc, List.drop_append_of_le_length (by simp), List.drop_of_length_le (by simp), List.nil_append, List.append_assoc, List.take_append_of_le_length (by simp [be_length]), List.take_of_length_le (by simp [be_length])]
  have e12 : ((hdBody ⟨num, root, used⟩ ++ be 4 (crc (hdBody ⟨num, root, used⟩))).drop 12).take 48 = used := by
    generalize crc (hdBody ⟨num, root, used⟩) = z
    unfold hdBody
    rw [List.append_assoc, List.append_assoc, List.append_assoc, ← List.append_assoc (be 2 _), ← List.append_assoc [80, 71], List.drop_append_of_le_length (by simp [be_length]), List.drop_of_length_le (by simp [be_length]), List.nil_append, List.take_append_of_le_length (by show 48 ≤ used.length; omega), List.take_of_length_le (by show used.length ≤ 48; omega)]
  rw [e4, e2, e12, val_be, val_be]
  have k1 : num % 256 ^ 8 = num := Nat.mod_eq_of_lt (by simpa using h1)
  have k2 : (((root + 1).toNat % 256 ^ 2 : Nat) : Int) - 1 = root := by
    rw [Nat.mod_eq_of_lt (by have : (256 : Nat) ^ 2 = 65536 := by decide
                             omega)]
    omega
  rw [k1, k2]
theorem hdOk_sec {h : Hd} (hw : h.WF) : hdOk (hdSec h) = true := by
  unfold hdOk
  rw [hdOf_sec hw]
  exact decide_eq_true rfl
theorem hdOf_wf {s : List Nat} (hl : s.length = 64) (hs : ∀ c ∈ s, c < 256) : (hdOf s).WF := by
  refine ⟨?_, ?_, ?_, ?_, ?_⟩
  · have := val_lt ((s.drop 4).take 8) fun c hc => hs c (List.mem_of_mem_drop (List.mem_of_mem_take hc))
    have h2 : ((s.drop 4).take 8).length = 8 := by simp; omega
    rw [h2] at this
    show val ((s.drop 4).take 8) < _
    simpa using this
  · show -1 ≤ (val ((s.drop 2).take 2) : Int) - 1
    omega
  · have := val_lt ((s.drop 2).take 2) fun c hc => hs c (List.mem_of_mem_drop (List.mem_of_mem_take hc))
    have h2 : ((s.drop 2).take 2).length = 2 := by simp; omega
    rw [h2] at this
    show (val ((s.drop 2).take 2) : Int) - 1 ≤ _
    have h3 : (256 : Nat) ^ 2 = 65536 := by decide
    omega
  · show ((s.drop 12).take 48).length = 48
    simp; omega
  · exact fun c hc => hs c (List.mem_of_mem_drop (List.mem_of_mem_take hc))

/-- an image: the sectors of a page -/
def imBody (b : List Nat) : List Nat := be 2 b.length ++ (b ++ List.replicate (506 - b.length) 0)
def imOf (b : List Nat) : List Nat := imBody b ++ be 4 (crc (imBody b))
def imLen (x : List Nat) : Nat := val (x.take 2)
def imBytes (x : List Nat) : List Nat := (x.drop 2).take (imLen x)
def imOk (x : List Nat) : Bool := decide (imLen x ≤ 500) && decide (imOf (imBytes x) = x)
theorem imBody_length {b : List Nat} (h : b.length ≤ 506) : (imBody b).length = 508 := by
  unfold imBody
  simp only [List.length_append, be_length, List.length_replicate]
  omega
theorem imOf_length {b : List Nat} (h : b.length ≤ 506) : (imOf b).length = 512 := by
  unfold imOf
  rw [List.length_append, imBody_length h, be_length]
theorem imOf_lt {b : List Nat} (h : ∀ c ∈ b, c < 256) : ∀ c ∈ imOf b, c < 256 := by
  intro c hc
  unfold imOf imBody at hc
  simp only [List.mem_append] at hc
  rcases hc with (hc | hc | hc) | hc
  · exact be_lt _ _ c hc
  · exact h c hc
  · rw [(List.mem_replicate.1 hc).2]; decide
  · exact be_lt _ _ c hc
theorem imLen_of {b : List Nat} (h : b.length ≤ 500) : imLen (imOf b) = b.length := by
  unfold imLen imOf
  generalize crc (imBody b) = z
  unfold imBody
  rw [List.append_assoc, List.take_append_of_le_length (by simp [be_length]), List.take_of_length_le (by simp [be_length]), val_be]
  exact Nat.mod_eq_of_lt (by have : (256 : Nat) ^ 2 = 65536 := by decide
                             omega)
theorem imBytes_of {b : List Nat} (h : b.length ≤ 500) : imBytes (imOf b) = b := by
  unfold imBytes
  rw [imLen_of h]
  unfold imOf
  generalize crc (imBody b) = z
  unfold imBody
  rw [List.append_assoc, List.drop_append_of_le_length (by simp [be_length]), List.drop_of_length_le (by simp [be_length]), List.nil_append, List.append_assoc, List.take_append_of_le_length (Nat.le_refl _), List.take_of_length_le (Nat.le_refl _)]
theorem imOk_of {b : List Nat} (h : b.length ≤ 500) : imOk (imOf b) = true := by
  unfold imOk
  rw [imLen_of h, imBytes_of h, decide_eq_true h, decide_eq_true rfl]
  rfl
/-- a sector of an image -/
def secAt (x : List Nat) (j : Nat) : List Nat := (x.drop (64 * j)).take 64
theorem secAt_length {x : List Nat} (h : x.length = 512) {j : Nat} (hj : j < 8) : (secAt x j).length = 64 := by unfold secAt; simp; omega
theorem secAt_lt {x : List Nat} (h : ∀ c ∈ x, c < 256) (j : Nat) : ∀ c ∈ secAt x j, c < 256 := fun c hc => h c (List.mem_of_mem_drop (List.mem_of_mem_take hc))
/-- what eight sectors have -/
def join8 (f : Nat → List Nat) : Nat → List Nat
  | 0 => []
  | k + 1 => join8 f k ++ f k
theorem join8_secAt (x : List Nat) : ∀ k, join8 (secAt x) k = x.take (64 * k) := by
  intro k
  induction k with
  | zero => simp [join8]
  | succ k ih =>
    rw [join8, ih, secAt, Nat.mul_succ, List.take_add]
theorem join8_length (f : Nat → List Nat) (h : ∀ j, (f j).length = 64) : ∀ k, (join8 f k).length = 64 * k := by
  intro k
  induction k with
  | zero => rfl
  | succ k ih => rw [join8, List.length_append, ih, h, Nat.mul_succ]
theorem join8_congr {f g : Nat → List Nat} : ∀ k, (∀ j, j < k → f j = g j) → join8 f k = join8 g k := by
  intro k
  induction k with
  | zero => intro _; rfl
  | succ k ih => intro h; rw [join8, join8, ih (fun j hj => h j (by omega)), h k (by omega)]
theorem join8_lt {f : Nat → List Nat} (h : ∀ j, ∀ c ∈ f j, c < 256) : ∀ k, ∀ c ∈ join8 f k, c < 256 := by
  intro k
  induction k with
  | zero => intro c hc; cases hc
  | succ k ih =>
    intro c hc
    rw [join8] at hc
    rcases List.mem_append.1 hc with hc | hc
    · exact ih c hc
    · exact h k c hc
end Go.Proofs.YtkpnflgnhhfjoaaDoor

namespace Go.Proofs.YtkpnflgnhhfjoaaDoor
open Go.RowKit Go.Maps

theorem sl38 : Tryd.prog.underlying 38 = some (.slice (Tryd.prog.elem 38)) := by kernel_rfl
/-- bytes that the call has made -/
def BOwn (w : World) (base : Nat) (v : Value) (cs : List Nat) : Prop := w.ownsRow base 5 1 v cs.length (bcells cs)
theorem info5z : (Tryd.prog.info? 5).map (fun i => (i.zero, i.size, i.bytes)) = some (some (.int .u8 0), 1, 1) := by kernel_rfl
theorem lt256 (cs : List Nat) (h : ∀ c ∈ cs, c < 256) (j : Nat) : cs.getD j 0 < 256 := by
  by_cases hj : j < cs.length
  · simpa [hj] using h _ (List.getElem_mem hj)
  · simp [hj]
theorem below_alloc (w : World) (o : Obj) : Below w.heap.size w (w.alloc o) := (Below.refl _ _).alloc (Nat.le_refl _) _
theorem BOwn.slice {w : World} {base : Nat} {v : Value} {cs : List Nat} (h : BOwn w base v cs) (hb : ∀ c ∈ cs, c < 256) (hl : cs.length ≤ 9223372036854775807) : SliceIn w v cs := by
  rcases h.2 with ⟨rfl, h0⟩ | ⟨g, cap, cur, rfl, _, hg, hcap, hmax, hsz, htake⟩
  · obtain rfl : cs = [] := List.length_eq_zero_iff.1 h0
    exact ⟨none, 0, rfl, ⟨Nat.le_refl _, by decide⟩, Or.inl rfl⟩
  · refine ⟨_, cap, rfl, ⟨hcap, hl⟩, Or.inr ⟨g, 0, rfl, fun j hj => ?_, fun j => ?_⟩⟩
    · have h2 := h.cells (g := g) rfl j (.int .u8 (cs.getD j 0 : Nat)) (by simp [bcells, hj])
      rw [add_none] at h2
      exact h2
    · by_cases hj : j < cs.length
      · rw [List.getD_eq_getElem?_getD, List.getElem?_eq_getElem hj]
        exact hb _ (List.getElem_mem hj)
      · rw [List.getD_eq_getElem?_getD, List.getElem?_eq_none (by omega)]
        decide
/-- which cut it is -/
def SubOf (lo hi mx : Option Value) (n l h : Nat) : Prop :=
  ((lo = none ∧ l = 0) ∨ ∃ L : Int, lo = some (.int .i64 L) ∧ L = (l : Int)) ∧ ((hi = none ∧ mx = none ∧ h = n) ∨ ∃ H : Int, hi = some (.int .i64 H) ∧ H = (h : Int) ∧ (mx = none ∨ mx = some (.int .i64 H))) ∧ l ≤ h ∧ h ≤ n
theorem run_bstring {w : World} {v : Value} {cs : List Nat} (hin : SliceIn w v cs) : (convert 38 9 v).run Tryd.prog w = .ok (.string (strOfNums (cs.map Int.ofNat))) w := by
  obtain ⟨p, cap, rfl, hl, hin⟩ := hin
  rcases hin with rfl | ⟨b, off, rfl, hc, _⟩
  · cases p with
    | none => exact run_convert_bytes_nil w 38 5 Tryd.underlying38 Tryd.underlying5 _ _ 9 Tryd.underlying9
    | some ad =>
      rw [run_convert_bytes_string w 38 9 5 (some ad) _ cap Tryd.underlying38 Tryd.underlying5 Tryd.underlying9]
      simp [Conv.bytesToString, strOfNums, loadCells]
      rfl
  · refine run_convert_bytes_arg w 38 5 Tryd.underlying38 Tryd.underlying5 b off cs.length cap (cs.map Int.ofNat) (by simp) (fun i hi => ?_) 9 Tryd.underlying9
    rw [hc i hi]
    simp [hi]
/-- append of bytes to bytes of the call's own: nothing but its own block is turned -/
theorem run_bappend {w : World} (base : Nat) (ty : TypeId) (v vx : Value) (cs ys : List Nat) (hown : BOwn w base v cs) (hin : SliceIn w vx ys) (hsz : cs.length + ys.length ≤ 140737488355328) (hbase : base ≤ w.heap.size) :
    ∃ v' w', (Builtin.append_ #[38, 38] ty #[v, vx]).run Tryd.prog w = .ok v' w' ∧ BOwn w' base v' (cs ++ ys) ∧ w.grownBy w' v.ownBlock := by
  obtain ⟨i, hi, hz0, hz1, hz2⟩ := info_parts info5z
  obtain ⟨p, cap, rfl, hl, hin⟩ := hin
  have hgo : ∀ ad : Addr, (∀ j u, (bcells ys)[j]? = some u → w.cell? (ad.add j) = some u) → p = some ad → ∃ v' w', (Builtin.append_ #[38, 38] ty #[v, .slice p ys.length cap]).run Tryd.prog w = .ok v' w' ∧ BOwn w' base v' (cs ++ ys) ∧ w.grownBy w' v.ownBlock := by
    rintro ad hnews rfl
    obtain ⟨v', w', hr, ho', hg, _⟩ := run_append_own (P := Tryd.prog) (w := w) base 38 ty 5 i (.int .u8 0) 1 1 Tryd.underlying38 hi hz0 hz1 hz2 rfl (by decide) v cs.length (bcells cs) hown
      ad ys.length cap (bcells ys) (by simp [bcells_length]) hnews (bcells_one ys) (by unfold maxLen; omega) (by omega) hbase
    refine ⟨v', w', hr, ?_, hg⟩
    unfold BOwn
    rw [bcells_append, List.length_append]
    exact ho'
  rcases hin with rfl | ⟨b, off, rfl, hc, _⟩
  · cases p with
    | none =>
      refine ⟨v, w, ?_, ?_, World.grownBy.refl w _⟩
      · rcases hown.2 with ⟨rfl, h0⟩ | ⟨g, cap', cur, rfl, _, hg, hcap, hmax, hsz, htake⟩
        · simp [Builtin.append_, run_underlying Tryd.underlying38, sizeOf, typeInfo, hi, Builtin.lenOf, Builtin.firstCells]
        · simp [Builtin.append_, run_underlying Tryd.underlying38, sizeOf, typeInfo, hi, Builtin.lenOf, Builtin.firstCells, hcap, storeCells]
      · rw [List.append_nil]
        exact hown
    | some ad => exact hgo ad (by intro j u hu; simp [bcells] at hu) rfl
  · refine hgo ⟨b, off, none⟩ (fun j u hu => ?_) rfl
    have hj : j < ys.length := by
      have := (List.getElem?_eq_some_iff.1 hu).1
      rwa [bcells_length] at this
    rw [add_none, hc j hj, ← hu, bcells_at ys j hj]
/-- a slice that is a whole block -/
def whole (g n : Nat) : Value := .slice (some ⟨g, 0, none⟩) n n
section
variable {w w0 : World} {ops : Array Oper} {rest : List Oper} {o : Oper} {a : Act} {Q : Exit → Act → World → Prop}
theorem wl_make (l c : Operand) (t e : TypeId) (z : Value) (sz bts : Nat) (hgd : Region.wanted o (yielded ops a.tmps) = true) (ho : o.op = .makeSlice t l c) (hu : Tryd.prog.underlying t = some (.slice e)) (hinfo : (Tryd.prog.info? e).map (fun i => (i.zero, i.size, i.bytes)) = some (some z, sz, bts))
    (n : Nat) (hl : a.eval l = .int .i64 (n : Nat)) (hc : a.eval c = .int .i64 (n : Nat)) (hb : bts * n ≤ 281474976710656) (hn : n ≤ 9223372036854775807)
    (h : ∀ w', Row w' w.heap.size e (madeCells z.cells (n * sz)).toList → w'.heap.size = w.heap.size + 1 → Below w.heap.size w w' → wpList Tryd.prog ops Q rest (a.put o.dst (whole w.heap.size n)) w') : wpList Tryd.prog ops Q (o :: rest) a w := by
  obtain ⟨i, hi, hz0, hz1, hz2⟩ := info_parts hinfo
  have hr := run_make (P := Tryd.prog) (w := w) t e i z hu hi hz0 .i64 .i64 (n : Nat) (n : Nat) (by omega) (Int.le_refl _) (by rw [hz2]; omega) (by omega)
  rw [Int.toNat_natCast, hz1] at hr
  exact wl hgd _ _ (by simp only [execOp, ho, hl, hc, hr, Sem.run_bind, Sem.run_pure, Result.andThen_ok]; rfl) (h _ (Row.new' w e _) (by show (w.heap.push _).size = _; simp) (below_alloc w _))
end
theorem made5 (n : Nat) : (madeCells (Value.int IntKind.u8 0).cells (n * 1)).toList = bcells (List.replicate n 0) := by
  apply List.ext_getElem
  · rw [bcells_length]
    simp [madeCells, Value.cells]
  · intro j h1 h2
    simp [bcells, madeCells, Value.cells, Nat.mod_one]

theorem results_cell_tmp {fn : Func} {p u : Tmp} {t n : Nat} (ht : AggT t n) (h : fn.results = #[.cell p t, .tmp u]) (tmps : Array Value) (w : World) (g T : Nat) (hp : tmps.getD p undef = .pointer (some ⟨g, 0, none⟩)) (cs : List Value) (hn : cs.length = n) (hr : Row w g T cs) :
    (results fn tmps).run Tryd.prog w = .ok (.tuple #[.agg cs.toArray, tmps.getD u undef]) w := by
  have hl := run_loadVar ht w g 0 cs hn (fun j v hv => by rw [Nat.zero_add]; exact hr.at j v hv)
  have hp' : tmps[p]?.getD undef = .pointer (some ⟨g, 0, none⟩) := by simpa using hp
  simp [results, h, hp', asAddr, hl]
section
variable {ops : Array Oper} {Q : Exit → Act → World → Prop} {a : Act} {w : World} {listed : Array Bool} {fuel : Nat} {S : World → Prop} {o : Oper}
theorem gRun (hw : Region.wanted o (yielded ops a.tmps) = true) (v : Value) (hr : ∀ w, S w → (execOp a.eval o).run Tryd.prog w = .ok (.value v) w) : YieldsIf Tryd.prog ops S o v a := Or.inl ⟨hw, hr⟩
end
theorem opCallG {ops : Array Oper} {Q : Exit → Act → World → Prop} {a : Act} {w : World} {i : Nat} (d : Option Tmp) {o : Oper} {K : Act → World → Prop} (hi : ops[i]? = some o) (hd : o.dst = d) (hw : Region.wanted o (yielded ops a.tmps) = true) (f : Nat) (args : Array Value) (hrun : (execOp a.eval o).run Tryd.prog w = .ok (.enter f args) w) (h : Calls Tryd.prog f args w fun e w' => ∃ v, e = .returned v ∧ K (a.put d v) w') : wpOp Tryd.prog ops Q i K a w := by
  subst hd
  unfold wpOp
  simp only [hi, hw, if_true, Oper.wp, hrun, Oper.upon]
  refine .inl (Calls.mono h fun e w' he => ?_)
  obtain ⟨v, rfl, hK⟩ := he
  exact hK
theorem run_binOp' {w : World} {a : Act} {o : Oper} {k : BinOp} {t : TypeId} (x y : Operand) (ho : o.op = .binOp k t x y t) (u v r : Value) (hx : a.eval x = u) (hy : a.eval y = v) (e : (eqGuard k t x y u v).run Tryd.prog w = .ok () w) (hr : (binOp k t u v).run Tryd.prog w = .ok r w) : (execOp a.eval o).run Tryd.prog w = .ok (.value r) w := by
  simp only [execOp, ho, hx, hy, e, hr, Sem.run_bind, Sem.run_pure, Result.andThen_ok]
theorem opSkipZ {ops : Array Oper} {Q : Exit → Act → World → Prop} {a : Act} {w : World} {i : Nat} {o : Oper} {K : Act → World → Prop} (hi : ops[i]? = some o) (hd : o.dst = none) (hgd : o.guard = none) (w' : World) (hrun : (execOp a.eval o).run Tryd.prog w = .ok .skip w') (h : K a w') : wpOp Tryd.prog ops Q i K a w := by
  unfold wpOp
  have hw : Region.wanted o (yielded ops a.tmps) = true := by simp [Region.wanted, hgd]
  simp only [hi, hw, if_true, Oper.wp, hrun, Oper.upon, hd]
  exact .inl h
theorem opValueG {ops : Array Oper} {Q : Exit → Act → World → Prop} {a : Act} {w : World} {i : Nat} (d : Option Tmp) {o : Oper} {K : Act → World → Prop} (hi : ops[i]? = some o) (hd : o.dst = d) (hw : Region.wanted o (yielded ops a.tmps) = true) (v : Value) (w' : World) (hrun : (execOp a.eval o).run Tryd.prog w = .ok (.value v) w') (h : K (a.put d v) w') : wpOp Tryd.prog ops Q i K a w := by
  subst hd
  unfold wpOp
  simp only [hi, hw, if_true, Oper.wp, hrun, Oper.upon]
  exact .inl h
theorem run_mvZ {w : World} {a : Act} {o : Oper} (x : Operand) (ho : o.op = .move x) (v : Value) (hx : a.eval x = v) : (execOp a.eval o).run Tryd.prog w = .ok (.value v) w := by simp [execOp, ho, hx]
theorem run_asZ {w : World} {a : Act} {o : Oper} (x : Operand) (ho : o.op = .assign x) (v : Value) (hx : a.eval x = v) : (execOp a.eval o).run Tryd.prog w = .ok (.value v) w := by simp [execOp, ho, hx]
theorem run_pickZ {w : World} {a : Act} {o : Oper} (c x y : Operand) (ho : o.op = .pick c x y) (b : Bool) (v : Value) (hc : a.eval c = .bool b) (hv : (if b then a.eval x else a.eval y) = v) : (execOp a.eval o).run Tryd.prog w = .ok (.value v) w := by
  subst hv
  have hb : (asBool (.bool b)).run Tryd.prog w = .ok b w := rfl
  simp only [execOp, ho, hc, hb, Sem.run_bind, Sem.run_pure, Result.andThen_ok]
theorem wpList_callW {w : World} {ops : Array Oper} {rest : List Oper} {o : Oper} {a : Act} {Q : Exit → Act → World → Prop} {f : Nat} (ef : EntersF f) (xs : List Operand) (ts : Array TypeId) (hgd : Region.wanted o (yielded ops a.tmps) = true) (ho : o.op = .call { callee := .value (.func f), args := xs.toArray, argTypes := ts }) (vs : List Value) (hv : xs.map a.eval = vs)
    (h : Calls Tryd.prog f vs.toArray w fun e w' => ∃ v, e = .returned v ∧ wpList Tryd.prog ops Q rest (a.put o.dst v) w') : wpList Tryd.prog ops Q (o :: rest) a w :=
  BigFrame.wpList_want hgd fun K hK => by
    unfold Oper.wp
    rw [run_call ef xs ts ho vs hv]
    refine h.mono fun e w' he => ?_
    obtain ⟨v, rfl, hw⟩ := he
    exact hK _ _ hw
section
variable {w w0 : World} {ops : Array Oper} {rest : List Oper} {o : Oper} {a : Act} {Q : Exit → Act → World → Prop}
end

/-- blocks of one's own, each known whole -/
structure Loc (w W : World) (l : List (Nat × TypeId × List Value)) : Prop where
  below : Below w.heap.size w W
  row : ∀ (i : Nat) (g : Nat) (T : TypeId) (cs : List Value), l[i]? = some (g, T, cs) → Row W g T cs ∧ w.heap.size ≤ g
  ne : ∀ (i j : Nat) (a b : Nat × TypeId × List Value), l[i]? = some a → l[j]? = some b → i ≠ j → a.1 ≠ b.1
theorem Loc.nil {w W : World} (h : Below w.heap.size w W) : Loc w W [] := ⟨h, fun i g T cs e => by simp at e, fun i j a b e => by simp at e⟩
theorem Loc.later {w W W' : World} {l : List (Nat × TypeId × List Value)} (h : Loc w W l) (hb : Below W.heap.size W W') : Loc w W' l :=
  ⟨h.below.trans (hb.mono h.below.size), fun i g T cs e => ⟨(h.row i g T cs e).1.later hb (h.row i g T cs e).1.lt, (h.row i g T cs e).2⟩, h.ne⟩
theorem Loc.add {w W W' : World} {l : List (Nat × TypeId × List Value)} (h : Loc w W l) {g : Nat} {T : TypeId} {cs : List Value} (hr : Row W' g T cs) (hg : W.heap.size ≤ g) (hb : Below W.heap.size W W') : Loc w W' (l ++ [(g, T, cs)]) := by
  have h1 := h.later hb
  have hne : ∀ (i : Nat) (a : Nat × TypeId × List Value), l[i]? = some a → a.1 < W.heap.size := fun i a e => (h.row i a.1 a.2.1 a.2.2 e).1.lt
  refine ⟨h1.below, fun i g' T' cs' e => ?_, fun i j a b e1 e2 hij => ?_⟩
  · by_cases hi : i < l.length
    · rw [List.getElem?_append_left hi] at e
      exact h1.row i g' T' cs' e
    · rw [List.getElem?_append_right (by omega)] at e
      have : i - l.length = 0 := by
        by_cases h0 : i - l.length = 0
        · exact h0
        · rw [List.getElem?_eq_none (by simp; omega)] at e; cases e
      rw [this] at e
      simp at e
      obtain ⟨rfl, rfl, rfl⟩ := e
      exact ⟨hr, Nat.le_trans h.below.size hg⟩
  · have key : ∀ (i : Nat) (a : Nat × TypeId × List Value), (l ++ [(g, T, cs)])[i]? = some a → (i < l.length ∧ a.1 < W.heap.size) ∨ (i = l.length ∧ a.1 = g) := fun i a e => by
      by_cases hi : i < l.length
      · rw [List.getElem?_append_left hi] at e
        exact Or.inl ⟨hi, hne i a e⟩
      · rw [List.getElem?_append_right (by omega)] at e
        by_cases h0 : i - l.length = 0
        · rw [h0] at e
          simp at e
          exact Or.inr ⟨by omega, by rw [← e]⟩
        · rw [List.getElem?_eq_none (by simp; omega)] at e; cases e
    rcases key i a e1 with ⟨k1, k2⟩ | ⟨k1, k2⟩ <;> rcases key j b e2 with ⟨k3, k4⟩ | ⟨k3, k4⟩
    · rw [List.getElem?_append_left k1] at e1
      rw [List.getElem?_append_left k3] at e2
      exact h.ne i j a b e1 e2 hij
    · omega
    · omega
    · omega
theorem Loc.set {w W W' : World} {l : List (Nat × TypeId × List Value)} (h : Loc w W l) (i : Nat) {g : Nat} {T : TypeId} {cs cs' : List Value} (e : l[i]? = some (g, T, cs)) (hr : Row W' g T cs') (hc : Ch (· = g) W W') : Loc w W' (l.set i (g, T, cs')) := by
  have hi : i < l.length := (List.getElem?_eq_some_iff.1 e).1
  have hg := (h.row i g T cs e).2
  have same : ∀ (j : Nat) (a : Nat × TypeId × List Value), (l.set i (g, T, cs'))[j]? = some a → (j = i ∧ a = (g, T, cs')) ∨ (j ≠ i ∧ l[j]? = some a) := fun j a e2 => by
    by_cases hj : i = j
    · subst hj
      rw [List.getElem?_set_self hi] at e2
      exact Or.inl ⟨rfl, (Option.some.inj e2).symm⟩
    · rw [List.getElem?_set_ne hj] at e2
      exact Or.inr ⟨fun x => hj x.symm, e2⟩
  refine ⟨h.below.trans (hc.below h.below.size fun k hk e => by omega), fun j g' T' cs2 e2 => ?_, fun j k a b e1 e2 hjk => ?_⟩
  · rcases same j _ e2 with ⟨k1, k2⟩ | ⟨k1, k2⟩
    · injection k2 with k2 k3
      injection k3 with k3 k4
      subst k2 k3 k4
      exact ⟨hr, hg⟩
    · have hne : g' ≠ g := h.ne j i _ _ k2 e k1
      exact ⟨hc.row hne (h.row j g' T' cs2 k2).1, (h.row j g' T' cs2 k2).2⟩
  · have f1 : ∀ (j : Nat) (a : Nat × TypeId × List Value), (l.set i (g, T, cs'))[j]? = some a → ∃ a', l[j]? = some a' ∧ a'.1 = a.1 := fun j a e2 => by
      rcases same j a e2 with ⟨rfl, rfl⟩ | ⟨_, k2⟩
      · exact ⟨_, e, rfl⟩
      · exact ⟨a, k2, rfl⟩
    obtain ⟨a', q1, q2⟩ := f1 j a e1
    obtain ⟨b', q3, q4⟩ := f1 k b e2
    rw [← q2, ← q4]
    exact h.ne j k a' b' q1 q3 hjk
theorem Loc.at {w W : World} {l : List (Nat × TypeId × List Value)} (h : Loc w W l) (i : Nat) {g : Nat} {T : TypeId} {cs : List Value} (e : l[i]? = some (g, T, cs)) : Row W g T cs := (h.row i g T cs e).1
theorem Loc.ge {w W : World} {l : List (Nat × TypeId × List Value)} (h : Loc w W l) (i : Nat) {g : Nat} {T : TypeId} {cs : List Value} (e : l[i]? = some (g, T, cs)) : w.heap.size ≤ g := (h.row i g T cs e).2
theorem Loc.drew {w W : World} {l : List (Nat × TypeId × List Value)} (h : Loc w W l) : Loc w { W with drawn := W.drawn + 1 } l := h.later ⟨rfl, rfl, rfl, Nat.le_refl _, fun _ _ => rfl⟩
/-- some of them -/
theorem Loc.take {w W : World} {l : List (Nat × TypeId × List Value)} (h : Loc w W l) (n : Nat) : Loc w W (l.take n) := by
  have f : ∀ (i : Nat) (a : Nat × TypeId × List Value), (l.take n)[i]? = some a → l[i]? = some a := fun i a e => by
    rw [List.getElem?_take] at e
    split at e
    · exact e
    · cases e
  exact ⟨h.below, fun i g T cs e => h.row i g T cs (f i _ e), fun i j a b e1 e2 => h.ne i j a b (f i a e1) (f j b e2)⟩

/-- a cut of an array of bytes -/
def ArrCut (l h : Option Value) (n lo hi : Nat) : Prop := ((l = none ∧ lo = 0) ∨ l = some (.int .i64 (lo : Nat))) ∧ ((h = none ∧ hi = n) ∨ h = some (.int .i64 (hi : Nat))) ∧ lo ≤ hi ∧ hi ≤ n ∧ lo < n
theorem sliceArr {T n : Nat} (hu : Tryd.prog.underlying T = some (.array n 5)) (g o lo hi : Nat) (l h : Option Value) (hc : ArrCut l h n lo hi) (W : World) : (Instr.sliceAt T (.pointer (some ⟨g, o, none⟩)) l h none).run Tryd.prog W = .ok (.slice (some ⟨g, o + lo, none⟩) (hi - lo) (n - lo)) W := by
  obtain ⟨i, hi5, hsz⟩ := Option.map_eq_some_iff.1 info5
  obtain ⟨h1, h2, h3, h4, h5⟩ := hc
  rcases h1 with ⟨rfl, rfl⟩ | rfl <;> rcases h2 with ⟨rfl, rfl⟩ | rfl <;> simp [Instr.sliceAt, run_underlying hu, Instr.sureAddr, Instr.sliceBounds, Instr.sliceBound, asIntOf, sizeOf, typeInfo, hi5, hsz, add_none, h3, h4] <;> (try omega)
theorem run_slA {w : World} {a : Act} {o : Oper} {T n : Nat} (hu : Tryd.prog.underlying T = some (.array n 5)) (x : Operand) (lo' hi' : Option Operand) (ho : o.op = .slice T x lo' hi' none) (g off lo hi : Nat) (hx : a.eval x = .pointer (some ⟨g, off, none⟩)) (hc : ArrCut (lo'.map a.eval) (hi'.map a.eval) n lo hi) : (execOp a.eval o).run Tryd.prog w = .ok (.value (.slice (some ⟨g, off + lo, none⟩) (hi - lo) (n - lo))) w := by
  have h := sliceArr hu g off lo hi _ _ hc w
  simp only [execOp, ho, hx, Option.map_none]
  first
    | (simp only [Sem.run_bind, h, Result.andThen_ok, Sem.run_pure])
    | (simp [h])
theorem run_boxA {w : World} {a : Act} {o : Oper} {t : Nat} (x : Operand) (ho : o.op = .box t x) (cs : List Value) (hx : a.eval x = .agg cs.toArray) : (execOp a.eval o).run Tryd.prog w = .ok (.value (ptr w.heap.size)) (w.alloc (.cells cs.toArray t)) := by
  simp [execOp, ho, hx, Instr.box, newVar, newRow, Value.cells]
theorem run_allocA {w : World} {a : Act} {o : Oper} {t : Nat} (zs : List Value) (hz : (Tryd.prog.info? t).map (·.zero) = some (some (.agg zs.toArray))) (ho : o.op = .alloc t) : (execOp a.eval o).run Tryd.prog w = .ok (.value (ptr w.heap.size)) (w.alloc (.cells zs.toArray t)) := by
  obtain ⟨i, hi, hz⟩ := Option.map_eq_some_iff.1 hz
  simp [execOp, ho, Instr.alloc, zeroValue, typeInfo, hi, hz, newVar, newRow, Value.cells]
theorem Loc.box {w W : World} {l : List (Nat × TypeId × List Value)} (h : Loc w W l) (T : TypeId) (cs : List Value) : Loc w (W.alloc (.cells cs.toArray T)) (l ++ [(W.heap.size, T, cs)]) := h.add (Row.new W T cs) (Nat.le_refl _) ((Below.refl _ _).alloc (Nat.le_refl _) _)
theorem run_storeL {w W : World} {a : Act} {o : Oper} {t n : Nat} (ht : AggT t n) (x y : Operand) (ho : o.op = .store t x y) {l : List (Nat × TypeId × List Value)} (h : Loc w W l) (i : Nat) {g T : Nat} {cur : List Value} (e : l[i]? = some (g, T, cur)) (off : Nat) (hx : a.eval x = .pointer (some ⟨g, off, none⟩)) (cs : List Value) (hy : a.eval y = .agg cs.toArray) (hn : cs.length = n) (hfit : off + cs.length ≤ cur.length) (h1 : ∀ v ∈ cs, v.oneCell' = true) : (execOp a.eval o).run Tryd.prog W = .ok .skip (W.setRow g (splice cur off cs).toArray) ∧ Loc w (W.setRow g (splice cur off cs).toArray) (l.set i (g, T, splice cur off cs)) := by
  have hst := run_storeVar ht W g off T cur cs hn (h.at i e) hfit h1
  exact ⟨by simp [execOp, ho, hx, hy, Instr.storeAt, Instr.sureAddr, hst], h.set i e ((h.at i e).setRow _) ((Ch.refl (· = g) W).setRow (Or.inl rfl) _)⟩
/-- copy of bytes into a block of one's own -/
theorem run_copyL {w W : World} {a : Act} {o : Oper} (d s : Operand) (ho : o.op = .call { callee := .builtin .copy, args := #[d, s], argTypes := #[38, 38] }) {l : List (Nat × TypeId × List Value)} (h : Loc w W l) (i : Nat) {g T : Nat} {cur : List Value} (e : l[i]? = some (g, T, cur)) (off dLen dCap b so sLen sCap k : Nat) (hd : a.eval d = .slice (some ⟨g, off, none⟩) dLen dCap) (hs : a.eval s = .slice (some ⟨b, so, none⟩) sLen sCap) (c : List Nat) (hk : c.length = k) (hn : k = Nat.min sLen dLen) (hsrc : ∀ j, j < c.length → W.cell? ⟨b, so + j, none⟩ = some (.int .u8 (c.getD j 0 : Nat))) (hfit : off + k ≤ cur.length) : (execOp a.eval o).run Tryd.prog W = .ok (.value (.int .i64 (k : Nat))) (W.setRow g (splice cur off (bcells c)).toArray) ∧ Loc w (W.setRow g (splice cur off (bcells c)).toArray) (l.set i (g, T, splice cur off (bcells c))) := by
  have hbl : (bcells c).length = k := by rw [bcells_length]; exact hk
  have hrun := run_copy_row (P := Tryd.prog) W 38 38 o.type 5 g off dLen dCap ⟨b, so, none⟩ sLen sCap cur.toArray T (bcells c) Tryd.underlying38 info5 (h.at i e) (by rw [hbl]; exact hn) (by
    intro j v hv
    have hj : j < c.length := by
      have := (List.getElem?_eq_some_iff.1 hv).1
      rwa [bcells_length] at this
    rw [add_none, hsrc j hj, ← hv]
    simp [bcells, hj]) (by rw [hbl]; simpa using hfit) (bcells_one c)
  refine ⟨?_, h.set i e ((h.at i e).setRow _) ((Ch.refl (· = g) W).setRow (Or.inl rfl) _)⟩
  simp [execOp, ho, resolve, invoke, builtin, hd, hs, hrun, Result.andThen, goInt, hbl, splice]
end Go.Proofs.YtkpnflgnhhfjoaaDoor

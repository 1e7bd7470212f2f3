/- Laws for walks: one operation at a time. Layer 8: what is counted of a transaction. Layer 8: what is counted of a transaction: sectors, long, cost. -/
import Derived.Test.YtebalanfagglnaaDoorV06
import Derived.Test.YtebalanfagglnaaDoorV07
import Derived.Test.YtebalanfagglnaaDoorV18
namespace Go.Proofs.YtebalanfagglnaaDoor
open Go.RowKit Go.Maps

theorem ownK {w w' : World} {base e size n : Nat} {v : Value} {xs : List Value} (h : w.ownsRow base e size v n xs) (hb : ∀ b, v.ownBlock = some b → w'.heap[b]? = w.heap[b]?) : w'.ownsRow base e size v n xs := by
  obtain ⟨hl, h⟩ := h
  refine ⟨hl, ?_⟩
  rcases h with ⟨rfl, h⟩ | ⟨g, cap, cur, rfl, h0, hg, h⟩
  · exact Or.inl ⟨rfl, h⟩
  · exact Or.inr ⟨g, cap, cur, rfl, h0, (hb g rfl).trans hg, h⟩
theorem sliceK {w w' : World} {v : Value} {cs : List Nat} (h : SliceIn w v cs) (hb : ∀ b, v.ownBlock = some b → b < w.heap.size → w'.heap[b]? = w.heap[b]?) : SliceIn w' v cs := by
  obtain ⟨p, cap, rfl, hl, h⟩ := h
  refine ⟨p, cap, rfl, hl, ?_⟩
  rcases h with h | ⟨b, off, rfl, h1, h2⟩
  · exact Or.inl h
  · refine Or.inr ⟨b, off, rfl, fun j hj => ?_, h2⟩
    rw [← h1 j hj]
    exact World.cell?_of_block (w := w) (hb b rfl (block_lt_of_cell (h1 j hj)))
section
variable {w w0 : World} {ops : Array Oper} {rest : List Oper} {o : Oper} {a : Act} {Q : Exit → Act → World → Prop}
theorem wl (hgd : Region.wanted o (yielded ops a.tmps) = true) (v : Value) (w' : World) (hrun : (execOp a.eval o).run Tryd.prog w = .ok (.value v) w') (h : wpList Tryd.prog ops Q rest (a.put o.dst v) w') : wpList Tryd.prog ops Q (o :: rest) a w :=
  BigFrame.wpList_want hgd fun K hK => by
    unfold Oper.wp
    rw [hrun]
    exact hK _ _ h
theorem own_len {base e sz n : Nat} {v : Value} {xs : List Value} (h : w0.ownsRow base e sz v n xs) {t : TypeId} (hu : Tryd.prog.underlying t = some (.slice (Tryd.prog.elem t))) (ty : TypeId) : (Builtin.len_ #[t] ty #[v]).run Tryd.prog w = .ok (goInt n) w := by
  rcases h.2 with ⟨rfl, rfl⟩ | ⟨g, cap, cur, rfl, _⟩
  · exact run_len_slice w _ _ _ _ _ hu
  · exact run_len_slice w _ _ _ _ _ hu
theorem wl_olen (x : Operand) (t : TypeId) (hgd : Region.wanted o (yielded ops a.tmps) = true) (ho : o.op = .call { callee := .builtin .len, args := #[x], argTypes := #[t] }) (hu : Tryd.prog.underlying t = some (.slice (Tryd.prog.elem t))) {base e sz n : Nat} (v : Value) {xs : List Value} (hx : a.eval x = v) (hown : w0.ownsRow base e sz v n xs)
    (h : wpList Tryd.prog ops Q rest (a.put o.dst (.int .i64 (n : Nat))) w) : wpList Tryd.prog ops Q (o :: rest) a w := by
  have hr := own_len (w := w) hown hu o.type
  refine wl hgd _ w ?_ h
  simp only [execOp, ho, resolve, invoke, builtin, Sem.run_bind, Sem.run_pure, Result.andThen_ok, List.map_toArray, List.map_cons, List.map_nil, hx, hr]
  rfl
theorem own_index {base e sz n : Nat} {v : Value} {xs : List Value} (hown : w0.ownsRow base e sz v n xs) {t : TypeId} (hu : Tryd.prog.underlying t = some (.slice e)) (hs : (Tryd.prog.info? e).map (·.size) = some sz) (k : Nat) (hk : k < n) :
    ∃ b, v.ownBlock = some b ∧ (∀ w', (Instr.indexAt t v (.int .i64 (k : Nat))).run Tryd.prog w' = .ok (.pointer (some ⟨b, k * sz, none⟩)) w') ∧ ∀ j, j < sz → w0.cell? ⟨b, k * sz + j, none⟩ = xs[k * sz + j]? := by
  obtain ⟨i5, hi5, hsz⟩ := Option.map_eq_some_iff.1 hs
  rcases hown.2 with ⟨rfl, rfl⟩ | ⟨g, cap, cur, rfl, _, hg, hcap, hmax, hcs, htake⟩
  · omega
  · refine ⟨g, rfl, fun w' => by simp [Instr.indexAt, asIntOf, run_underlying hu, hk, sizeOf, typeInfo, hi5, hsz, add_none], fun j hj => ?_⟩
    have hlt : k * sz + j < n * sz := by
      have : (k + 1) * sz ≤ n * sz := Nat.mul_le_mul_right sz hk
      rw [Nat.add_mul, Nat.one_mul] at this
      omega
    rw [← htake, List.getElem?_take, if_pos hlt]
    simp [World.cell?, hg]
theorem wl_ld {t : Nat} (ht : OneT t) (x : Operand) (hgd : Region.wanted o (yielded ops a.tmps) = true) (ho : o.op = .load t x) (g i : Nat) (hx : a.eval x = .pointer (some ⟨g, i, none⟩)) (v : Value) (hc : w.cell? ⟨g, i, none⟩ = some v)
    (h : wpList Tryd.prog ops Q rest (a.put o.dst v) w) : wpList Tryd.prog ops Q (o :: rest) a w := wl hgd _ _ (run_load1 ht x ho g i hx v hc) h
theorem wl_fld {T i k : Nat} (hf : FieldAt T i k) (x : Operand) (hgd : Region.wanted o (yielded ops a.tmps) = true) (ho : o.op = .fieldAddr T x i) (g off : Nat) (hx : a.eval x = .pointer (some ⟨g, off, none⟩))
    (h : wpList Tryd.prog ops Q rest (a.put o.dst (.pointer (some ⟨g, off + k, none⟩))) w) : wpList Tryd.prog ops Q (o :: rest) a w := wl hgd _ _ (by simp [execOp, ho, hx, hf w g off]) h
theorem wl_eqI {t : Nat} (x y : Operand) (hgd : Region.wanted o (yielded ops a.tmps) = true) (ho : o.op = .binOp .eql t x y t) (z z' : Int) (hx : a.eval x = .int .i64 z) (hy : a.eval y = .int .i64 z') (b : Bool) (hb : decide (z = z') = b) (h : wpList Tryd.prog ops Q rest (a.put o.dst (.bool b)) w) : wpList Tryd.prog ops Q (o :: rest) a w :=
  wl hgd _ _ (by
    subst hb
    simp only [execOp, ho, hx, hy]
    by_cases h : z = z'
    · subst h; simp [go_sem]
    · simp [go_sem, h]) h
end
theorem run_nil {w : World} {a : Act} {o : Oper} (x : Operand) (ho : o.op = .nilCheck x) (p : Addr) (hv : a.eval x = .pointer (some p)) : (execOp a.eval o).run Tryd.prog w = .ok (.value (.pointer (some p))) w := by
  simp [execOp, ho, hv]
theorem run_append {w w' : World} {a : Act} {o : Oper} {t : TypeId} (sv x : Operand) (ho : o.op = .call { callee := .builtin .append, args := #[sv, x], argTypes := #[t, t] }) (v vx v' : Value) (hs : a.eval sv = v) (hx : a.eval x = vx) (hr : (Builtin.append_ #[t, t] o.type #[v, vx]).run Tryd.prog w = .ok v' w') : (execOp a.eval o).run Tryd.prog w = .ok (.value v') w' := by
  simp only [execOp, ho, resolve, invoke, builtin, Sem.run_bind, Sem.run_pure, Result.andThen_ok, List.map_toArray, List.map_cons, List.map_nil, hs, hx, hr]
theorem run_idx {w : World} {a : Act} {o : Oper} {t : TypeId} (x i : Operand) (ho : o.op = .indexAddr t x i) (v p I : Value) (hx : a.eval x = v) (hi : a.eval i = I) (hr : ∀ w', (Instr.indexAt t v I).run Tryd.prog w' = .ok p w') : (execOp a.eval o).run Tryd.prog w = .ok (.value p) w := by
  simp only [execOp, ho, hx, hi, hr, Sem.run_bind, Sem.run_pure, Result.andThen_ok]
theorem run_putRow {w : World} {o : Oper} {a : Act} {t : Nat} (hs : (Tryd.prog.info? t).map (·.size) = some 1) (x y : Operand) (ho : o.op = .store t x y) (g i T : Nat) (cur : List Value) (hx : a.eval x = .pointer (some ⟨g, i, none⟩)) (v : Value) (hy : a.eval y = v) (hv : v.cells = #[v] ∧ v.oneCell' = true) (hr : Row w g T cur) (hi : i < cur.length) :
    (execOp a.eval o).run Tryd.prog w = .ok .skip (w.setCell ⟨g, i, none⟩ v) := by
  obtain ⟨ti, hti, hsz⟩ := Option.map_eq_some_iff.1 hs
  have hst := run_storeCells_at (P := Tryd.prog) g i T [v] 0 cur.toArray w hr (by simp; omega) (by intro u hu; rw [List.mem_singleton.1 hu]; exact hv.2)
  simp only [Nat.add_zero] at hst
  have e : w.setRow g (splice cur i [v]).toArray = w.setCell ⟨g, i, none⟩ v := by
    have e1 : splice cur i [v] = cur.set i v := by
      rw [List.set_eq_take_append_cons_drop, if_pos hi]
      simp [splice]
    rw [setCell_eq_setRow w g i _ T (0, 0) v hr, e1, List.setIfInBounds_toArray]
  have hst' : (storeVar t ⟨g, i, none⟩ v).run Tryd.prog w = .ok () (w.setCell ⟨g, i, none⟩ v) := by
    rw [← e]
    simp [storeVar, sizeOf, typeInfo, hti, hsz, hv.1, hst, splice]
  simp [execOp, ho, hx, hy, Instr.storeAt, Instr.sureAddr, hst']
section
variable {w w0 : World} {ops : Array Oper} {rest : List Oper} {o : Oper} {a : Act} {Q : Exit → Act → World → Prop}
theorem wlS (hgd : Region.wanted o (yielded ops a.tmps) = true) (hd : o.dst = none) (w' : World) (hrun : (execOp a.eval o).run Tryd.prog w = .ok .skip w') (h : wpList Tryd.prog ops Q rest a w') : wpList Tryd.prog ops Q (o :: rest) a w :=
  BigFrame.wpList_want hgd fun K hK => by
    unfold Oper.wp
    rw [hrun]
    simp only [Oper.upon, hd]
    exact hK _ _ h
theorem wl_ldA {t n : Nat} (ht : AggT t n) (x : Operand) (hgd : Region.wanted o (yielded ops a.tmps) = true) (ho : o.op = .load t x) (g off : Nat) (hx : a.eval x = .pointer (some ⟨g, off, none⟩)) (cs : List Value) (hn : cs.length = n) (hc : ∀ j v, cs[j]? = some v → w.cell? ⟨g, off + j, none⟩ = some v)
    (h : wpList Tryd.prog ops Q rest (a.put o.dst (.agg cs.toArray)) w) : wpList Tryd.prog ops Q (o :: rest) a w := wl hgd _ _ (run_loadA ht x ho g off hx cs hn hc) h
theorem wl_mv (x : Operand) (hgd : Region.wanted o (yielded ops a.tmps) = true) (ho : o.op = .move x) (v : Value) (hx : a.eval x = v) (h : wpList Tryd.prog ops Q rest (a.put o.dst v) w) : wpList Tryd.prog ops Q (o :: rest) a w := wl hgd v w (by simp [execOp, ho, hx]) h
theorem wl_as (x : Operand) (hgd : Region.wanted o (yielded ops a.tmps) = true) (ho : o.op = .assign x) (v : Value) (hx : a.eval x = v) (h : wpList Tryd.prog ops Q rest (a.put o.dst v) w) : wpList Tryd.prog ops Q (o :: rest) a w := wl hgd v w (by simp [execOp, ho, hx]) h
theorem wl_nil (x : Operand) (hgd : Region.wanted o (yielded ops a.tmps) = true) (ho : o.op = .nilCheck x) (p : Addr) (hx : a.eval x = .pointer (some p)) (h : wpList Tryd.prog ops Q rest (a.put o.dst (.pointer (some p))) w) : wpList Tryd.prog ops Q (o :: rest) a w := wl hgd _ w (run_nil x ho p hx) h
theorem wl_app {t : TypeId} {w' : World} (sv x : Operand) (hgd : Region.wanted o (yielded ops a.tmps) = true) (ho : o.op = .call { callee := .builtin .append, args := #[sv, x], argTypes := #[t, t] }) (v vx v' : Value) (hs : a.eval sv = v) (hx : a.eval x = vx) (hr : (Builtin.append_ #[t, t] o.type #[v, vx]).run Tryd.prog w = .ok v' w')
    (h : wpList Tryd.prog ops Q rest (a.put o.dst v') w') : wpList Tryd.prog ops Q (o :: rest) a w := wl hgd _ _ (run_append sv x ho v vx v' hs hx hr) h
theorem wl_put {t : Nat} (hs : (Tryd.prog.info? t).map (·.size) = some 1) (x y : Operand) (hgd : Region.wanted o (yielded ops a.tmps) = true) (hd : o.dst = none) (ho : o.op = .store t x y) (g i T : Nat) (cur : List Value) (hx : a.eval x = .pointer (some ⟨g, i, none⟩)) (v : Value) (hy : a.eval y = v) (hv : v.cells = #[v] ∧ v.oneCell' = true) (hr : Row w g T cur) (hi : i < cur.length)
    (h : wpList Tryd.prog ops Q rest a (w.setCell ⟨g, i, none⟩ v)) : wpList Tryd.prog ops Q (o :: rest) a w := wlS hgd hd _ (run_putRow hs x y ho g i T cur hx v hy hv hr hi) h
theorem wl_ix {t : TypeId} (x i : Operand) (hgd : Region.wanted o (yielded ops a.tmps) = true) (ho : o.op = .indexAddr t x i) (v p I : Value) (hx : a.eval x = v) (hi : a.eval i = I) (hr : ∀ w', (Instr.indexAt t v I).run Tryd.prog w' = .ok p w') (h : wpList Tryd.prog ops Q rest (a.put o.dst p) w) : wpList Tryd.prog ops Q (o :: rest) a w := wl hgd p w (run_idx x i ho v p I hx hi hr) h
end
theorem row_cell' {W : World} {g T i : Nat} {cur : List Value} (h : Row W g T cur) (v : Value) : Row (W.setCell ⟨g, i, none⟩ v) g T (cur.set i v) := by
  rw [setCell_eq_setRow W g i _ T (0, 0) v h]
  have := h.setRow (cur.set i v)
  simpa using this
/-- one more behind a row of rows -/
theorem app_one {w : World} {t e : TypeId} (hu : Tryd.prog.underlying t = some (.slice e)) (hinfo : (Tryd.prog.info? e).map (fun i => (i.zero, i.size, i.bytes)) = some (some (.slice none 0 0), 1, 24)) (ty : TypeId) (v : Value) (n : Nat) (xs : List Value) (hown : w.ownsRow 0 e 1 v n xs) (b : Nat) (u : Value) (hu1 : u.oneCell' = true) (hb : Row w b e [u]) (hn : n ≤ 1000000) :
    ∃ v' w', (Builtin.append_ #[t, t] ty #[v, .slice (some ⟨b, 0, none⟩) 1 1]).run Tryd.prog w = .ok v' w' ∧ w'.ownsRow 0 e 1 v' (n + 1) (xs ++ [u]) ∧ w.grownBy w' v.ownBlock ∧ (v'.ownBlock = v.ownBlock ∨ v'.ownBlock = some w.heap.size) := by
  obtain ⟨i, hi, hz0, hz1, hz2⟩ := info_parts hinfo
  obtain ⟨v', w', hr, h2, h3, _, h5⟩ := run_append_own_at (P := Tryd.prog) (w := w) 0 t ty e i (.slice none 0 0) 1 24 hu hi hz0 hz1 hz2 rfl (by decide) v n xs hown
    ⟨b, 0, none⟩ 1 1 [u] (by simp) (fun j y hy => by rw [add_none, Nat.zero_add]; exact hb.at j y hy) (by intro y hy; rw [List.mem_singleton.1 hy]; exact hu1) (by unfold maxLen; omega) (by omega) (Nat.zero_le _)
  exact ⟨v', w', hr, h2, h3, h5⟩
theorem own_cells {w : World} {base e sz n : Nat} {v : Value} {xs : List Value} (h : w.ownsRow base e sz v n xs) : v.cells = #[v] ∧ v.oneCell' = true := by
  rcases h.2 with ⟨rfl, _⟩ | ⟨g, cap, cur, rfl, _⟩
  · exact ⟨rfl, rfl⟩
  · exact ⟨rfl, rfl⟩
theorem own_isSlice {w : World} {base e size n : Nat} {v : Value} {xs : List Value} (h : w.ownsRow base e size v n xs) : ∃ p n c, v = .slice p n c := by
  rcases h.2 with ⟨rfl, _⟩ | ⟨g, cap, cur, rfl, _⟩
  · exact ⟨_, _, _, rfl⟩
  · exact ⟨_, _, _, rfl⟩
section
variable {ops : Array Oper} {Q : Exit → Act → World → Prop} {a : Act} {w : World} {listed : Array Bool} {fuel : Nat} {S : World → Prop} {o : Oper}
end
end Go.Proofs.YtebalanfagglnaaDoor

namespace Go.Proofs.YtebalanfagglnaaDoor
open Go.RowKit Go.Maps

/-- a transaction's bytes, its size, how many sectors a row takes, whether it is long, what it costs -/
def bytesOf (L : List (List Nat)) : Nat := (L.map List.length).sum
def txSize (L : List (List Nat)) : Nat := bytesOf L + 2 * L.length
def secsOf (n : Nat) : Nat := max 1 ((n + 43) / 44)
def longTx (L : List (List Nat)) : Bool := decide (16 < L.length) || decide (1024 < bytesOf L)
def costOf (L : List (List Nat)) : Nat := 1 + txSize L / 32
/-- a slice of slices of bytes -/
def RowsIn (w : World) (v : Value) (L : List (List Nat)) : Prop :=
  ∃ p cap, v = .slice p L.length cap ∧ L.length ≤ 1099511627776 ∧ (L = [] ∨ ∃ b off, p = some ⟨b, off, none⟩ ∧ ∀ i, i < L.length → ∃ u, w.cell? ⟨b, off + i, none⟩ = some u ∧ SliceIn w u (L.getD i []))
theorem sl30 : Tryd.prog.underlying 28 = some (.slice (Tryd.prog.elem 28)) := by kernel_rfl
theorem sl51 : Tryd.prog.underlying 50 = some (.slice (Tryd.prog.elem 50)) := by kernel_rfl
theorem size51 : (Tryd.prog.info? 50).map (·.size) = some 1 := by kernel_rfl
theorem o51 : OneT 50 := fun w g o v h => by simp [loadVar, isAgg, run_underlying Tryd.underlying50, h]
theorem idx30 (b off n cap k : Nat) (h : k < n) (w' : World) : (Instr.indexAt 28 (.slice (some ⟨b, off, none⟩) n cap) (.int .i64 (k : Nat))).run Tryd.prog w' = .ok (.pointer (some ⟨b, off + k, none⟩)) w' := by
  obtain ⟨i5, hi5, hsz⟩ := Option.map_eq_some_iff.1 size51
  simp [Instr.indexAt, asIntOf, run_underlying Tryd.underlying28, h, sizeOf, typeInfo, hi5, hsz, add_none]
section
variable {w : World} {ops : Array Oper} {rest : List Oper} {o : Oper} {a : Act} {Q : Exit → Act → World → Prop}
theorem wl_sl {t : TypeId} (hu : Tryd.prog.underlying t = some (.slice (Tryd.prog.elem t))) (x : Operand) (hgd : Region.wanted o (yielded ops a.tmps) = true) (ho : o.op = .call { callee := .builtin .len, args := #[x], argTypes := #[t] }) (p : Option Addr) (n cap : Nat) (hx : a.eval x = .slice p n cap) (h : wpList Tryd.prog ops Q rest (a.put o.dst (.int .i64 (n : Nat))) w) : wpList Tryd.prog ops Q (o :: rest) a w := by
  refine wl hgd _ w ?_ h
  simp only [execOp, ho, resolve, invoke, builtin, Sem.run_bind, Sem.run_pure, Result.andThen_ok, List.map_toArray, List.map_cons, List.map_nil, hx, run_len_slice w _ _ _ _ _ hu]
  rfl
theorem wl_slS (x : Operand) (hgd : Region.wanted o (yielded ops a.tmps) = true) (ho : o.op = .call { callee := .builtin .len, args := #[x], argTypes := #[50] }) (v : Value) (cs : List Nat) {w0 : World} (hs : SliceIn w0 v cs) (hx : a.eval x = v) (h : wpList Tryd.prog ops Q rest (a.put o.dst (.int .i64 (cs.length : Nat))) w) : wpList Tryd.prog ops Q (o :: rest) a w := by
  obtain ⟨p, cap, rfl, _⟩ := hs
  exact wl_sl sl51 x hgd ho p cs.length cap hx h
end
theorem RowsIn.at {w : World} {p : Option Addr} {n cap : Nat} {L : List (List Nat)} (h : RowsIn w (.slice p n cap) L) (k : Nat) (hk : k < L.length) : ∃ b off u, p = some ⟨b, off, none⟩ ∧ w.cell? ⟨b, off + k, none⟩ = some u ∧ SliceIn w u (L.getD k []) := by
  obtain ⟨p', cap', e, _, h⟩ := h
  injection e with e1 e2 e3
  subst e1
  rcases h with rfl | ⟨b, off, rfl, h⟩
  · exact absurd hk (Nat.not_lt_zero _)
  · obtain ⟨u, h1, h2⟩ := h k hk
    exact ⟨b, off, u, rfl, h1, h2⟩
def sizeTo (L : List (List Nat)) (k : Nat) : Nat := bytesOf (L.take k)
theorem bytes_step (L : List (List Nat)) (k : Nat) (hk : k < L.length) : bytesOf (L.take (k + 1)) = bytesOf (L.take k) + (L.getD k []).length := by
  have e : L.take (k + 1) = L.take k ++ [L[k]] := by rw [List.take_succ_eq_append_getElem hk]
  unfold bytesOf
  rw [e, List.map_append, List.sum_append, List.getD_eq_getElem?_getD, List.getElem?_eq_getElem hk]
  rfl
theorem bytes_le (L : List (List Nat)) (k : Nat) : bytesOf (L.take k) ≤ bytesOf L := by
  have e : bytesOf L = bytesOf (L.take k) + bytesOf (L.drop k) := by
    unfold bytesOf
    rw [← List.sum_append, ← List.map_append, List.take_append_drop]
  omega
set_option maxHeartbeats 1000000 in
set_option maxRecDepth 100000 in
theorem size_any (w : World) (v : Value) (L : List (List Nat)) (h : RowsIn w v L) (hsz : bytesOf L ≤ 1099511627776) : Calls Tryd.prog 54 #[v] w fun e w' => e = .returned (.int .i64 (txSize L : Nat)) ∧ w = w' := by
  have hh := h
  obtain ⟨p, cap, rfl, hl, _⟩ := h
  have HR : Hid (RowsIn w (.slice p L.length cap) L) := hh
  obtain ⟨n, hn⟩ : ∃ n, n = L.length := ⟨_, rfl⟩
  have HN : Hid (n = L.length) := hn
  rw [← hn] at hl ⊢
  clear hh hn
  go_enter Tryd.func54, Tryd.ntmps54
  go_upto_region 3 with (refine wl_sl sl30 (.tmp 6) rfl rfl p n cap rfl ?_)
  go_loopw [3, 8] (fun s i W => ∃ k : Nat, k ≤ n ∧ i = .int .i64 k ∧ s = .int .i64 ((bytesOf (L.take k) + 2 * k : Nat) : Int) ∧ W = w) (fun _ i _ => n - (intOf i).toNat)
  case atStart => exact ⟨0, Nat.zero_le _, rfl, by simp [bytesOf], rfl⟩
  case round =>
    obtain ⟨k, hk, rfl, rfl, rfl⟩ := hrel
    by_cases hlt : k < n
    · have t1 : decide ((k : Int) < (n : Int)) = true := decide_eq_true (by omega)
      obtain ⟨b, off, u, rfl, hc, hu⟩ := HR.out.at k (by rw [← HN.out]; exact hlt)
      have HC : Hid (wr.cell? ⟨b, off + k, none⟩ = some u ∧ SliceIn wr u (L.getD k [])) := ⟨hc, hu⟩
      have hb1 := bytes_step L k (by rw [← HN.out]; exact hlt)
      have hb2 := bytes_le L (k + 1)
      have HB : Hid (bytesOf (L.take (k + 1)) = bytesOf (L.take k) + (L.getD k []).length) := hb1
      obtain ⟨B, hB⟩ : ∃ B, B = bytesOf (L.take k) := ⟨_, rfl⟩
      obtain ⟨ln, hln⟩ : ∃ ln, ln = (L.getD k []).length := ⟨_, rfl⟩
      have HBL : Hid (B = bytesOf (L.take k) ∧ ln = (L.getD k []).length) := ⟨hB, hln⟩
      rw [hb1, ← hB, ← hln] at hb2
      rw [← hB]
      clear hc hu hb1 hB hln
      have kc := HC.out.1
      go_wp2_with (first
        | (refine wl_ix (.tmp 6) (.tmp 8) rfl rfl _ _ _ rfl rfl (idx30 b off n cap k hlt) ?_)
        | (refine wl_slS (.tmp 13) rfl rfl u _ HC.out.2 rfl ?_; rw [← HBL.out.2]))
      refine ⟨⟨k + 1, by omega, by go_num, ?_, trivial⟩, ?_⟩
      · rw [HB.out, ← HBL.out.1, ← HBL.out.2]
        go_num
      · simp [intOf]; omega
    · obtain rfl : n = k := by omega
      have t1 : decide ((n : Int) < (n : Int)) = false := decide_eq_false (by omega)
      have HT : Hid (L.take n = L) := by show _ = _; rw [HN.out]; exact List.take_length
      go_wp2_with fail
      go_ret
      refine ⟨?_, rfl⟩
      rw [HT.out]
      unfold txSize
      rw [← HN.out]
      rfl
set_option maxHeartbeats 1000000 in
set_option maxRecDepth 100000 in
theorem bytes_any (w : World) (v : Value) (L : List (List Nat)) (h : RowsIn w v L) (hsz : bytesOf L ≤ 1099511627776) : Calls Tryd.prog 59 #[v] w fun e w' => e = .returned (.int .i64 (bytesOf L : Nat)) ∧ w = w' := by
  have hh := h
  obtain ⟨p, cap, rfl, hl, _⟩ := h
  have HR : Hid (RowsIn w (.slice p L.length cap) L) := hh
  obtain ⟨n, hn⟩ : ∃ n, n = L.length := ⟨_, rfl⟩
  have HN : Hid (n = L.length) := hn
  rw [← hn] at hl ⊢
  clear hh hn
  go_enter Tryd.func59, Tryd.ntmps59
  go_upto_region 2 with fail
  go_wp2_with fail
  go_loopw [3, 4] (fun s i W => ∃ k : Nat, k ≤ n ∧ i = .int .i64 k ∧ s = .int .i64 ((bytesOf (L.take k) : Nat) : Int) ∧ W = w) (fun _ i _ => n - (intOf i).toNat)
  case atStart => exact ⟨0, Nat.zero_le _, rfl, by simp [bytesOf], rfl⟩
  case round =>
    obtain ⟨k, hk, rfl, rfl, rfl⟩ := hrel
    by_cases hlt : k < n
    · have t1 : decide ((k : Int) < (n : Int)) = true := decide_eq_true (by omega)
      obtain ⟨b, off, u, rfl, hc, hu⟩ := HR.out.at k (by rw [← HN.out]; exact hlt)
      have HC : Hid (wr.cell? ⟨b, off + k, none⟩ = some u ∧ SliceIn wr u (L.getD k [])) := ⟨hc, hu⟩
      have hb1 := bytes_step L k (by rw [← HN.out]; exact hlt)
      have hb2 := bytes_le L (k + 1)
      have HB : Hid (bytesOf (L.take (k + 1)) = bytesOf (L.take k) + (L.getD k []).length) := hb1
      obtain ⟨B, hB⟩ : ∃ B, B = bytesOf (L.take k) := ⟨_, rfl⟩
      obtain ⟨ln, hln⟩ : ∃ ln, ln = (L.getD k []).length := ⟨_, rfl⟩
      have HBL : Hid (B = bytesOf (L.take k) ∧ ln = (L.getD k []).length) := ⟨hB, hln⟩
      rw [hb1, ← hB, ← hln] at hb2
      rw [← hB]
      clear hc hu hb1 hB hln
      have kc := HC.out.1
      go_wp2_with (first
        | (refine wl_sl sl30 (.tmp 6) rfl rfl _ n cap rfl ?_)
        | (refine wl_ix (.tmp 12) (.tmp 13) rfl rfl _ _ _ rfl rfl (idx30 b off n cap k hlt) ?_)
        | (refine wl_slS (.tmp 15) rfl rfl u _ HC.out.2 rfl ?_; rw [← HBL.out.2]))
      refine ⟨⟨k + 1, by omega, by go_num, ?_, trivial⟩, ?_⟩
      · rw [HB.out, ← HBL.out.1, ← HBL.out.2]
        go_num
      · simp [intOf]; omega
    · obtain rfl : n = k := by omega
      have t1 : decide ((n : Int) < (n : Int)) = false := decide_eq_false (by omega)
      have HT : Hid (L.take n = L) := by show _ = _; rw [HN.out]; exact List.take_length
      go_wp2_with (refine wl_sl sl30 (.tmp 6) rfl rfl _ n cap rfl ?_)
      go_ret
      refine ⟨?_, rfl⟩
      rw [HT.out]
      rfl
end Go.Proofs.YtebalanfagglnaaDoor

namespace Go.Proofs.YtebalanfagglnaaDoor
open Go.RowKit Go.Maps

set_option maxRecDepth 100000 in
theorem sectors_any (w : World) (n : Nat) (hn : n ≤ 1099511627776) : Calls Tryd.prog 55 #[.int .i64 (n : Nat)] w fun e w' => e = .returned (.int .i64 (secsOf n : Nat)) ∧ w = w' := by
  have HE : Hid (max (1 : Int) (((n : Int) + 44 - 1) / 44) = ((secsOf n : Nat) : Int)) := by show _ = _; unfold secsOf; omega
  go_enter Tryd.func55, Tryd.ntmps55
  go_wp2_with fail
  rw [HE.out]
  go_ret
  exact ⟨rfl, rfl⟩
set_option maxRecDepth 100000 in
theorem long_any (w : World) (v : Value) (L : List (List Nat)) (h : RowsIn w v L) (hsz : bytesOf L ≤ 1099511627776) : Calls Tryd.prog 32 #[v] w fun e w' => e = .returned (.bool (longTx L)) ∧ w = w' := by
  have hc := size_any w v L h hsz
  obtain ⟨p, cap, rfl, hl, _⟩ := h
  have HC : Hid (Calls Tryd.prog 54 #[.slice p L.length cap] w fun e w' => e = .returned (.int .i64 (txSize L : Nat)) ∧ w = w') := hc
  obtain ⟨r, hr⟩ : ∃ r, r = longTx L := ⟨_, rfl⟩
  rw [← hr]
  have HR : Hid (r = longTx L) := hr
  obtain ⟨B, hB⟩ : ∃ B, B = bytesOf L := ⟨_, rfl⟩
  have HB : Hid (B = bytesOf L) := hB
  rw [← hB] at hsz
  obtain ⟨n, hn⟩ : ∃ n, n = L.length := ⟨_, rfl⟩
  have HN : Hid (n = L.length) := hn
  have HT : Hid (txSize L = B + 2 * n) := by show _ = _; unfold txSize; rw [← hB, ← hn]
  rw [← hn] at HC hl ⊢
  rw [HT.out] at HC
  clear hc hr hB hn
  go_enter Tryd.func32, Tryd.ntmps32
  by_cases h1 : 16 < n
  · have t1 : decide ((16 : Int) < (n : Int)) = true := decide_eq_true (by omega)
    go_wp2_with (first | (refine wl_sl sl30 (.tmp 3) rfl rfl p n cap rfl ?_) | (go_at_call 54; refine HC.out.mono ?_; rintro e w' ⟨rfl, rfl⟩) | (refine wl_sl sl30 (.tmp 9) rfl rfl p n cap rfl ?_))
    go_ret
    refine ⟨?_, rfl⟩
    rw [HR.out]
    unfold longTx
    rw [← HN.out, decide_eq_true h1]
    rfl
  · have t1 : decide ((16 : Int) < (n : Int)) = false := decide_eq_false (by omega)
    have HD : Hid (r = decide ((1024 : Int) < (B : Int))) := by
      show _ = _
      rw [HR.out]
      unfold longTx
      rw [← HN.out, ← HB.out, decide_eq_false h1, Bool.false_or]
      by_cases h2 : 1024 < B
      · rw [decide_eq_true h2, decide_eq_true (by omega)]
      · rw [decide_eq_false h2, decide_eq_false (by omega)]
    go_wp2_with (first | (refine wl_sl sl30 (.tmp 3) rfl rfl p n cap rfl ?_) | (go_at_call 54; refine HC.out.mono ?_; rintro e w' ⟨rfl, rfl⟩) | (refine wl_sl sl30 (.tmp 9) rfl rfl p n cap rfl ?_))
    go_ret
    refine ⟨?_, rfl⟩
    rw [HD.out]
    rfl
set_option maxRecDepth 100000 in
theorem longR_any (w : World) (v : Value) (L : List (List Nat)) (h : RowsIn w v L) (hsz : bytesOf L ≤ 1099511627776) : Calls Tryd.prog 41 #[v] w fun e w' => e = .returned (.bool (longTx L)) ∧ w = w' := by
  have hc := bytes_any w v L h hsz
  obtain ⟨p, cap, rfl, hl, _⟩ := h
  have HC : Hid (Calls Tryd.prog 59 #[.slice p L.length cap] w fun e w' => e = .returned (.int .i64 (bytesOf L : Nat)) ∧ w = w') := hc
  obtain ⟨r, hr⟩ : ∃ r, r = longTx L := ⟨_, rfl⟩
  rw [← hr]
  have HR : Hid (r = longTx L) := hr
  obtain ⟨B, hB⟩ : ∃ B, B = bytesOf L := ⟨_, rfl⟩
  have HB : Hid (B = bytesOf L) := hB
  rw [← hB] at hsz HC
  obtain ⟨n, hn⟩ : ∃ n, n = L.length := ⟨_, rfl⟩
  have HN : Hid (n = L.length) := hn
  rw [← hn] at HC hl ⊢
  clear hc hr hB hn
  go_enter Tryd.func41, Tryd.ntmps41
  by_cases h1 : 16 < n
  · have t1 : decide ((16 : Int) < (n : Int)) = true := decide_eq_true (by omega)
    go_wp2_with (first | (refine wl_sl sl30 (.tmp 3) rfl rfl p n cap rfl ?_) | (go_at_call 59; refine HC.out.mono ?_; rintro e w' ⟨rfl, rfl⟩))
    go_ret
    refine ⟨?_, rfl⟩
    rw [HR.out]
    unfold longTx
    rw [← HN.out, decide_eq_true h1]
    rfl
  · have t1 : decide ((16 : Int) < (n : Int)) = false := decide_eq_false (by omega)
    have HD : Hid (r = decide ((1024 : Int) < (B : Int))) := by
      show _ = _
      rw [HR.out]
      unfold longTx
      rw [← HN.out, ← HB.out, decide_eq_false h1, Bool.false_or]
      by_cases h2 : 1024 < B
      · rw [decide_eq_true h2, decide_eq_true (by omega)]
      · rw [decide_eq_false h2, decide_eq_false (by omega)]
    go_wp2_with (first | (refine wl_sl sl30 (.tmp 3) rfl rfl p n cap rfl ?_) | (go_at_call 59; refine HC.out.mono ?_; rintro e w' ⟨rfl, rfl⟩))
    go_ret
    refine ⟨?_, rfl⟩
    rw [HD.out]
    rfl
set_option maxRecDepth 100000 in
theorem cost_any (w : World) (v : Value) (L : List (List Nat)) (h : RowsIn w v L) (hsz : bytesOf L ≤ 1099511627776) : Calls Tryd.prog 42 #[v] w fun e w' => e = .returned (.int .i64 (costOf L : Nat)) ∧ w = w' := by
  have hc := bytes_any w v L h hsz
  obtain ⟨p, cap, rfl, hl, _⟩ := h
  have HC : Hid (Calls Tryd.prog 59 #[.slice p L.length cap] w fun e w' => e = .returned (.int .i64 (bytesOf L : Nat)) ∧ w = w') := hc
  obtain ⟨B, hB⟩ : ∃ B, B = bytesOf L := ⟨_, rfl⟩
  have HB : Hid (B = bytesOf L) := hB
  rw [← hB] at hsz HC
  obtain ⟨n, hn⟩ : ∃ n, n = L.length := ⟨_, rfl⟩
  have HN : Hid (n = L.length) := hn
  have HE : Hid ((1 : Int) + ((B : Int) + 2 * (n : Int)) / 32 = ((costOf L : Nat) : Int)) := by show _ = _; unfold costOf txSize; rw [← hB, ← hn]; omega
  rw [← hn] at HC hl ⊢
  clear hc hB hn
  go_enter Tryd.func42, Tryd.ntmps42
  go_wp2_with (first | (refine wl_sl sl30 (.tmp 5) rfl rfl p n cap rfl ?_) | (go_at_call 59; refine HC.out.mono ?_; rintro e w' ⟨rfl, rfl⟩))
  rw [HE.out]
  go_ret
  exact ⟨rfl, rfl⟩
/-- which of n things -/
def whichOf (c : Int) (n : Nat) : Nat := ((if c < 0 then -(c + 1) else c) % n).toNat
theorem whichOf_lt (c : Int) (n : Nat) (h : 0 < n) : whichOf c n < n := by
  unfold whichOf
  have h1 := Int.emod_nonneg (if c < 0 then -(c + 1) else c) (show (n : Int) ≠ 0 by omega)
  have h2 := Int.emod_lt_of_pos (if c < 0 then -(c + 1) else c) (show (0 : Int) < n by omega)
  omega
theorem run_remN (w : World) (k : Int) (n : Nat) (hn : 0 < n) (h : 0 ≤ k) : (binOp .rem 3 (.int .i64 k) (.int .i64 (n : Int))).run Tryd.prog w = .ok (.int .i64 (k % n)) w := by
  have e := Int.tmod_eq_emod_of_nonneg (b := (n : Int)) h
  have hne : ¬ n = 0 := by omega
  simp [binOp, Op.intDiv, hne]
  exact e
theorem wl_remN {w : World} {ops : Array Oper} {rest : List Oper} {o : Oper} {a : Act} {Q : Exit → Act → World → Prop} (x y : Operand) (hgd : Region.wanted o (yielded ops a.tmps) = true) (ho : o.op = .binOp .rem 3 x y 3) (k : Int) (n : Nat) (hn : 0 < n) (h0 : 0 ≤ k) (hx : a.eval x = .int .i64 k) (hy : a.eval y = .int .i64 (n : Int)) (h : wpList Tryd.prog ops Q rest (a.put o.dst (.int .i64 (k % n))) w) : wpList Tryd.prog ops Q (o :: rest) a w := wl hgd _ w (by
  have e : (eqGuard .rem 3 x y (.int .i64 k) (.int .i64 (n : Int))).run Tryd.prog w = .ok () w := rfl
  simp only [execOp, ho, hx, hy, e, Sem.run_bind, Sem.run_pure, Result.andThen_ok, run_remN w k n hn h0]) h
set_option maxRecDepth 100000 in
theorem which_any (w : World) (c : Int) (n : Nat) (hn : 0 < n) (h0 : -9223372036854775808 ≤ c) (h1 : c ≤ 9223372036854775807) : Calls Tryd.prog 8 #[.int .i64 c, .int .i64 (n : Nat)] w fun e w' => e = .returned (.int .i64 (whichOf c n : Nat)) ∧ w = w' := by
  by_cases hc : c < 0
  · have t1 : decide (c < 0) = true := decide_eq_true hc
    have HE : Hid ((-(c + 1)) % (n : Int) = ((whichOf c n : Nat) : Int)) := by
      show _ = _
      unfold whichOf
      rw [if_pos hc]
      have := Int.emod_nonneg (-(c + 1)) (show (n : Int) ≠ 0 by omega)
      omega
    go_enter Tryd.func8, Tryd.ntmps8
    go_wp2_with (refine wl_remN (.tmp 10) (.tmp 11) rfl rfl (-(c + 1)) n hn (by omega) rfl rfl ?_)
    rw [HE.out]
    go_ret
    exact ⟨rfl, rfl⟩
  · have t1 : decide (c < 0) = false := decide_eq_false hc
    have HE : Hid (c % (n : Int) = ((whichOf c n : Nat) : Int)) := by
      show _ = _
      unfold whichOf
      rw [if_neg hc]
      have := Int.emod_nonneg c (show (n : Int) ≠ 0 by omega)
      omega
    go_enter Tryd.func8, Tryd.ntmps8
    go_wp2_with (refine wl_remN (.tmp 10) (.tmp 11) rfl rfl c n hn (by omega) rfl rfl ?_)
    rw [HE.out]
    go_ret
    exact ⟨rfl, rfl⟩
end Go.Proofs.YtebalanfagglnaaDoor

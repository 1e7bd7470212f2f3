/- The two ways in memory: a struct of two hashes. -/
import Derived.Test.YtjdmpanemdhbbaaDoorUp
import Derived.Laws.Tables
namespace Go.Proofs.YtjdmpanemdhbbaaDoor
open Go.RowKit

/-- two hashes as a value -/
def wv (x y : List Nat) : Value := .agg (bcells (x ++ y)).toArray
/-- in a block of their own -/
def WIs (w : World) (g : Nat) (x y : List Nat) : Prop := (IsH x ∧ IsH y) ∧ Row w g 52 (bcells (x ++ y))
theorem aggW : AggT 52 64 := ⟨Or.inl ⟨_, Tryd.underlying52⟩, by kernel_rfl⟩
theorem zeroW : (Tryd.prog.info? 52).map (·.zero) = some (some (.agg (zerosU8 64).toArray)) := by kernel_rfl
theorem noW_cells : zerosU8 64 = bcells (noH ++ noH) := by kernel_rfl
theorem WIs.len {w : World} {g : Nat} {x y : List Nat} (h : WIs w g x y) : (bcells (x ++ y)).length = 64 := by rw [bcells_length, List.length_append, h.1.1.1, h.1.2.1]
theorem WIs.lt {w : World} {g : Nat} {x y : List Nat} (h : WIs w g x y) : g < w.heap.size := h.2.lt
theorem WIs.next {w w' : World} {g : Nat} {x y : List Nat} (h : WIs w g x y) (hb : Below w.heap.size w w') : WIs w' g x y := ⟨h.1, h.2.later hb h.lt⟩
theorem WIs.other {w w' : World} {g k : Nat} {x y : List Nat} (h : WIs w k x y) (ho : Only g w w') (hk : k ≠ g) : WIs w' k x y := ⟨h.1, ho.row hk h.2⟩
theorem WIs.old {w : World} {g : Nat} {x y : List Nat} (h : WIs w g x y) : HAt w (.pointer (some ⟨g, 0, none⟩)) x :=
  ⟨h.1.1, g, 0, rfl, fun j hj => by
    rw [Nat.zero_add]
    have e : (x ++ y).getD j 0 = x.getD j 0 := by simp [List.getElem?_append_left, h.1.1.1, hj]
    have := h.2.at j _ (bcells_at (x ++ y) j (by rw [List.length_append, h.1.1.1, h.1.2.1]; omega))
    rwa [e] at this⟩
theorem WIs.new {w : World} {g : Nat} {x y : List Nat} (h : WIs w g x y) : HAt w (.pointer (some ⟨g, 0 + 32, none⟩)) y :=
  ⟨h.1.2, g, 0 + 32, rfl, fun j hj => by
    have e : (x ++ y).getD (0 + 32 + j) 0 = y.getD j 0 := by
      have hx := h.1.1.1
      rw [List.getD_eq_getElem?_getD, List.getElem?_append_right (by omega), hx, show 0 + 32 + j - 32 = j by omega, ← List.getD_eq_getElem?_getD]
    have := h.2.at (0 + 32 + j) _ (bcells_at (x ++ y) (0 + 32 + j) (by rw [List.length_append, h.1.1.1, h.1.2.1]; omega))
    rwa [e] at this⟩
theorem f52_0 : FieldAt 52 0 0 := fun w g off => by kernel_rfl
theorem f52_1 : FieldAt 52 1 32 := fun w g off => by kernel_rfl
theorem built52 (parts : List (Nat × Value)) : Tryd.prog.built 52 parts = Instr.fill ((#[(0, 32), (32, 32)] : Array (Nat × Nat))[·]?) (zerosU8 64).toArray parts := by kernel_rfl
theorem fill_two (p q : Nat → Option (Nat × Nat)) (h0 : p 0 = q 0) (h1 : p 1 = q 1) (cells : Array Value) (a b : Value) : Instr.fill p cells [(0, a), (1, b)] = Instr.fill q cells [(0, a), (1, b)] := by simp only [Instr.fill, h0, h1]
theorem run_buildW (x y : List Nat) (hx : IsH x) (hy : IsH y) (w : World) : (Instr.build 52 #[(0, hv x), (1, hv y)]).run Tryd.prog w = .ok (wv x y) w := by
  refine Go.run_build w 52 _ _ ?_
  rw [built52]
  show Instr.fill _ _ [(0, hv x), (1, hv y)] = _
  rw [fill_two _ (fun i => some (i * 32, 32)) rfl rfl]
  have ha : AllH [x, y] := fun z hz => by
    rcases List.mem_cons.1 hz with rfl | hz
    · exact hx
    · rw [List.mem_singleton.1 hz]; exact hy
  have := fill_hashes [x, y] ha (zerosU8 64).toArray (by simp [zerosU8])
  simp only [List.flatten_cons, List.flatten_nil, List.append_nil] at this
  exact this
theorem run_zeroW (w : World) : (Instr.build 52 #[]).run Tryd.prog w = .ok (wv noH noH) w := by kernel_rfl
section
variable {w : World} {ops : Array Oper} {rest : List Oper} {o : Oper} {a : Act} {Q : Exit → Act → World → Prop} {S : World → Prop}
theorem rx_field {T i k : Nat} (hf : FieldAt T i k) (x : Operand) (ho : o.op = .fieldAddr T x i) (g off : Nat) (hx : a.eval x = .pointer (some ⟨g, off, none⟩)) : (execOp a.eval o).run Tryd.prog w = .ok (.value (.pointer (some ⟨g, off + k, none⟩))) w := by
  simp only [execOp, ho, hx, hf w g off, Sem.run_bind, Sem.run_pure, Result.andThen_ok]
theorem wl_field {T i k : Nat} (hf : FieldAt T i k) (x : Operand) (hgd : Region.wanted o (yielded ops a.tmps) = true) (ho : o.op = .fieldAddr T x i) (g off : Nat) (hx : a.eval x = .pointer (some ⟨g, off, none⟩))
    (h : wpList Tryd.prog ops Q rest (a.put o.dst (.pointer (some ⟨g, off + k, none⟩))) w) : wpList Tryd.prog ops Q (o :: rest) a w := wl hgd _ _ (rx_field hf x ho g off hx) h
theorem rx_buildW (p q : Operand) (ho : o.op = .build 52 #[(0, p), (1, q)]) (x y : List Nat) (hx : IsH x) (hy : IsH y) (hp : a.eval p = hv x) (hq : a.eval q = hv y) : (execOp a.eval o).run Tryd.prog w = .ok (.value (wv x y)) w := by
  simp only [execOp, ho, List.map_toArray, List.map_cons, List.map_nil, hp, hq, run_buildW x y hx hy, Sem.run_bind, Sem.run_pure, Result.andThen_ok]
theorem wl_buildW (p q : Operand) (hgd : Region.wanted o (yielded ops a.tmps) = true) (ho : o.op = .build 52 #[(0, p), (1, q)]) (x y : List Nat) (hx : IsH x) (hy : IsH y) (hp : a.eval p = hv x) (hq : a.eval q = hv y)
    (h : wpList Tryd.prog ops Q rest (a.put o.dst (wv x y)) w) : wpList Tryd.prog ops Q (o :: rest) a w := wl hgd _ _ (rx_buildW p q ho x y hx hy hp hq) h
theorem wl_zeroW (hgd : Region.wanted o (yielded ops a.tmps) = true) (ho : o.op = .build 52 #[]) (h : wpList Tryd.prog ops Q rest (a.put o.dst (wv noH noH)) w) : wpList Tryd.prog ops Q (o :: rest) a w :=
  wl hgd _ w (by simp only [execOp, ho, List.map_toArray, List.map_nil, run_zeroW, Sem.run_bind, Sem.run_pure, Result.andThen_ok]) h
theorem wl_allocW (hgd : o.guard = none) (ho : o.op = .alloc 52)
    (h : ∀ w', WIs w' w.heap.size noH noH → w'.heap.size = w.heap.size + 1 → Below w.heap.size w w' → wpList Tryd.prog ops Q rest (a.put o.dst (.pointer (some ⟨w.heap.size, 0, none⟩))) w') : wpList Tryd.prog ops Q (o :: rest) a w :=
  wpList_alloc' (zerosU8 64) zeroW hgd ho fun w' r s b => h w' ⟨⟨noH_isH, noH_isH⟩, by rw [← noW_cells]; exact r⟩ s b
theorem rx_storeW (p q : Operand) (ho : o.op = .store 52 p q) (g : Nat) (hp : a.eval p = .pointer (some ⟨g, 0, none⟩)) (x y x' y' : List Nat) (hx : IsH x') (hy : IsH y') (hq : a.eval q = wv x' y') (hr : WIs w g x y) : (execOp a.eval o).run Tryd.prog w = .ok .skip (w.setRow g (bcells (x' ++ y')).toArray) := by
  have hl : (bcells (x' ++ y')).length = 64 := by rw [bcells_length, List.length_append, hx.1, hy.1]
  have hr' := run_storeVar aggW w g 0 52 (bcells (x ++ y)) (bcells (x' ++ y')) hl hr.2 (by rw [hl, hr.len]; decide) (bcells_one _)
  rw [splice_all _ _ (by rw [hl, hr.len])] at hr'
  simp only [execOp, ho, hp, hq, wv, Instr.storeAt, Instr.sureAddr, hr', Sem.run_bind, Sem.run_pure, Result.andThen_ok]
theorem wis_store {g : Nat} {x y x' y' : List Nat} (hx : IsH x') (hy : IsH y') (hr : WIs w g x y) : WIs (w.setRow g (bcells (x' ++ y')).toArray) g x' y' := ⟨⟨hx, hy⟩, hr.2.setRow _⟩
theorem wl_storeW (p q : Operand) (hgd : Region.wanted o (yielded ops a.tmps) = true) (hdst : o.dst = none) (ho : o.op = .store 52 p q) (g : Nat) (hp : a.eval p = .pointer (some ⟨g, 0, none⟩)) (x y x' y' : List Nat) (hx : IsH x') (hy : IsH y') (hq : a.eval q = wv x' y') (hr : WIs w g x y)
    (h : ∀ w', WIs w' g x' y' → Only g w w' → w'.heap.size = w.heap.size → wpList Tryd.prog ops Q rest a w') : wpList Tryd.prog ops Q (o :: rest) a w :=
  wlSkip hgd hdst _ (rx_storeW p q ho g hp x y x' y' hx hy hq hr) (h _ (wis_store hx hy hr) ((Only.refl g w).setRow _) (by simp [World.setRow]))
theorem wl_newW {o1 o2 : Oper} {d : Tmp} (hgd1 : o1.guard = none) (hgd2 : o2.guard = none) (hd1 : o1.dst = some d) (hd2 : o2.dst = none) (ho1 : o1.op = .alloc 52) (q : Operand) (ho2 : o2.op = .store 52 (.tmp d) q) (x y : List Nat) (hh : IsH x) (hk : IsH y)
    (hx : ∀ v, (a.put (some d) v).eval (.tmp d) = v) (hy : ∀ v, (a.put (some d) v).eval q = wv x y)
    (h : ∀ w', WIs w' w.heap.size x y → w'.heap.size = w.heap.size + 1 → Below w.heap.size w w' → wpList Tryd.prog ops Q rest (a.put (some d) (.pointer (some ⟨w.heap.size, 0, none⟩))) w') : wpList Tryd.prog ops Q (o1 :: o2 :: rest) a w := by
  refine wl_allocW hgd1 ho1 ?_
  intro w1 r1 s1 b1
  rw [hd1]
  refine wl_storeW (.tmp d) q (by simp [Region.wanted, hgd2]) hd2 ho2 w.heap.size (hx _) noH noH x y hh hk (hy _) r1 ?_
  intro w2 r2 o2 s2
  exact h w2 r2 (by omega) (b1.trans (o2.below (Nat.le_refl _) (by omega)))
end
/-- what a function hands back out of a block and a slot -/
theorem results_WB {fn : Func} {p q : Tmp} (h : fn.results = #[.cell p 52, .tmp q]) (tmps : Array Value) (w : World) (g : Nat) (hp : tmps.getD p undef = .pointer (some ⟨g, 0, none⟩)) (x y : List Nat) (hr : WIs w g x y) (v : Value) (hq : tmps.getD q undef = v) : (results fn tmps).run Tryd.prog w = .ok (.tuple #[wv x y, v]) w := by
  have hl := run_loadVar aggW w g 0 (bcells (x ++ y)) hr.len (fun j v hv => by rw [Nat.zero_add]; exact hr.2.at j v hv)
  have hp' : tmps[p]?.getD undef = .pointer (some ⟨g, 0, none⟩) := by simpa using hp
  have hq' : tmps[q]?.getD undef = v := by simpa using hq
  simp [results, h, hp', hq', asAddr, hl, wv]
end Go.Proofs.YtjdmpanemdhbbaaDoor

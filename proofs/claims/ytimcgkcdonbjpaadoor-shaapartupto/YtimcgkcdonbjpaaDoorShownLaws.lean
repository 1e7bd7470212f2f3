/- What the statements hold ahead of all: 'shown'; and two rows of bytes held against one another. -/
import Derived.Test.YtimcgkcdonbjpaaDoorNew
import Derived.Test.YtimcgkcdonbjpaaDoorRefSum
import Derived.Test.YtimcgkcdonbjpaaDoorEql
import Derived.Laws.BytesArg
import Derived.OrdersHeld
namespace Go.Proofs.YtimcgkcdonbjpaaDoor
open Go.RowKit

def noneBytes : List Nat := [227, 176, 196, 66, 152, 252, 28, 20, 154, 251, 244, 200, 153, 111, 185, 36, 39, 174, 65, 228, 100, 155, 147, 76, 164, 149, 153, 27, 120, 82, 184, 85]
def abcBytes : List Nat := [186, 120, 22, 191, 143, 1, 207, 234, 65, 65, 64, 222, 93, 174, 34, 35, 176, 3, 97, 163, 150, 23, 122, 156, 180, 16, 255, 97, 242, 0, 21, 173]
theorem sha_none : Sha.sha [] = noneBytes := by decide +kernel
theorem sha_abc : Sha.sha [97, 98, 99] = abcBytes := by decide +kernel
theorem none_len : (bcells noneBytes).length = 32 := rfl
theorem abc_len : (bcells abcBytes).length = 32 := rfl
section
variable {w : World} {ops : Array Oper} {rest : List Oper} {o : Oper} {a : Act} {Q : Exit → Act → World → Prop}
theorem run_build_none : (Instr.build 25 #[(0, .int .u8 227), (1, .int .u8 176), (2, .int .u8 196), (3, .int .u8 66), (4, .int .u8 152), (5, .int .u8 252), (6, .int .u8 28), (7, .int .u8 20), (8, .int .u8 154), (9, .int .u8 251), (10, .int .u8 244), (11, .int .u8 200), (12, .int .u8 153), (13, .int .u8 111), (14, .int .u8 185), (15, .int .u8 36), (16, .int .u8 39), (17, .int .u8 174), (18, .int .u8 65), (19, .int .u8 228), (20, .int .u8 100), (21, .int .u8 155), (22, .int .u8 147), (23, .int .u8 76), (24, .int .u8 164), (25, .int .u8 149), (26, .int .u8 153), (27, .int .u8 27), (28, .int .u8 120), (29, .int .u8 82), (30, .int .u8 184), (31, .int .u8 85)]).run Tryd.prog w = .ok (.agg (bcells noneBytes).toArray) w := by
  kernel_rfl
theorem wpList_none (hgd : o.guard = none) (ho : o.op = .build 25 #[(0, .const (.int .u8 227)), (1, .const (.int .u8 176)), (2, .const (.int .u8 196)), (3, .const (.int .u8 66)), (4, .const (.int .u8 152)), (5, .const (.int .u8 252)), (6, .const (.int .u8 28)), (7, .const (.int .u8 20)), (8, .const (.int .u8 154)), (9, .const (.int .u8 251)), (10, .const (.int .u8 244)), (11, .const (.int .u8 200)), (12, .const (.int .u8 153)), (13, .const (.int .u8 111)), (14, .const (.int .u8 185)), (15, .const (.int .u8 36)), (16, .const (.int .u8 39)), (17, .const (.int .u8 174)), (18, .const (.int .u8 65)), (19, .const (.int .u8 228)), (20, .const (.int .u8 100)), (21, .const (.int .u8 155)), (22, .const (.int .u8 147)), (23, .const (.int .u8 76)), (24, .const (.int .u8 164)), (25, .const (.int .u8 149)), (26, .const (.int .u8 153)), (27, .const (.int .u8 27)), (28, .const (.int .u8 120)), (29, .const (.int .u8 82)), (30, .const (.int .u8 184)), (31, .const (.int .u8 85))])
    (h : wpList Tryd.prog ops Q rest (a.put o.dst (.agg (bcells noneBytes).toArray)) w) : wpList Tryd.prog ops Q (o :: rest) a w :=
  wpList_value hgd _ w (by simp [execOp, ho, Act.eval, run_build_none]) h
theorem run_build_abc : (Instr.build 25 #[(0, .int .u8 186), (1, .int .u8 120), (2, .int .u8 22), (3, .int .u8 191), (4, .int .u8 143), (5, .int .u8 1), (6, .int .u8 207), (7, .int .u8 234), (8, .int .u8 65), (9, .int .u8 65), (10, .int .u8 64), (11, .int .u8 222), (12, .int .u8 93), (13, .int .u8 174), (14, .int .u8 34), (15, .int .u8 35), (16, .int .u8 176), (17, .int .u8 3), (18, .int .u8 97), (19, .int .u8 163), (20, .int .u8 150), (21, .int .u8 23), (22, .int .u8 122), (23, .int .u8 156), (24, .int .u8 180), (25, .int .u8 16), (26, .int .u8 255), (27, .int .u8 97), (28, .int .u8 242), (29, .int .u8 0), (30, .int .u8 21), (31, .int .u8 173)]).run Tryd.prog w = .ok (.agg (bcells abcBytes).toArray) w := by
  kernel_rfl
theorem wpList_abc (hgd : o.guard = none) (ho : o.op = .build 25 #[(0, .const (.int .u8 186)), (1, .const (.int .u8 120)), (2, .const (.int .u8 22)), (3, .const (.int .u8 191)), (4, .const (.int .u8 143)), (5, .const (.int .u8 1)), (6, .const (.int .u8 207)), (7, .const (.int .u8 234)), (8, .const (.int .u8 65)), (9, .const (.int .u8 65)), (10, .const (.int .u8 64)), (11, .const (.int .u8 222)), (12, .const (.int .u8 93)), (13, .const (.int .u8 174)), (14, .const (.int .u8 34)), (15, .const (.int .u8 35)), (16, .const (.int .u8 176)), (17, .const (.int .u8 3)), (18, .const (.int .u8 97)), (19, .const (.int .u8 163)), (20, .const (.int .u8 150)), (21, .const (.int .u8 23)), (22, .const (.int .u8 122)), (23, .const (.int .u8 156)), (24, .const (.int .u8 180)), (25, .const (.int .u8 16)), (26, .const (.int .u8 255)), (27, .const (.int .u8 97)), (28, .const (.int .u8 242)), (29, .const (.int .u8 0)), (30, .const (.int .u8 21)), (31, .const (.int .u8 173))])
    (h : wpList Tryd.prog ops Q rest (a.put o.dst (.agg (bcells abcBytes).toArray)) w) : wpList Tryd.prog ops Q (o :: rest) a w :=
  wpList_value hgd _ w (by simp [execOp, ho, Act.eval, run_build_abc]) h
/-- an array is made and written at once -/
theorem wpList_alloc_store {o1 o2 : Oper} {d : Tmp} (hgd1 : o1.guard = none) (hgd2 : o2.guard = none) (hd1 : o1.dst = some d) (hd2 : o2.dst = none) (ho1 : o1.op = .alloc 25) (y : Operand) (ho2 : o2.op = .store 25 (.tmp d) y) (bs : List Nat) (hbs : (bcells bs).length = 32)
    (hx : ∀ v, (a.put (some d) v).eval (.tmp d) = v) (hy : ∀ v, (a.put (some d) v).eval y = .agg (bcells bs).toArray)
    (h : ∀ w', Row w' w.heap.size 25 (bcells bs) → w'.heap.size = w.heap.size + 1 → Below w.heap.size w w' → wpList Tryd.prog ops Q rest (a.put (some d) (.pointer (some ⟨w.heap.size, 0, none⟩))) w') : wpList Tryd.prog ops Q (o1 :: o2 :: rest) a w := by
  refine wpList_alloc' (zerosU8 32) zero25 hgd1 ho1 ?_
  intro w1 r1 s1 b1
  rw [hd1]
  refine wpList_store0 agg25 (.tmp d) y hgd2 hd2 ho2 w.heap.size 0 25 (hx _) (bcells bs) (zerosU8 32) (hy _) hbs r1 (by rw [hbs]; simp [zerosU8]) (bcells_one _) ?_
  rw [splice_all _ _ (by rw [hbs]; simp [zerosU8])]
  exact h _ (r1.setRow _) (by simp [World.setRow, s1]) (below_setRow b1 (Nat.le_refl _) _)

theorem conv_any {v : Value} {cs : List Nat} (h : SliceIn w v cs) : (convert 22 9 v).run Tryd.prog w = .ok (.string (strOfNums (cs.map Int.ofNat))) w := by
  obtain ⟨p, cap, rfl, hl, h⟩ := h
  rcases h with rfl | ⟨b, off, rfl, hc, _⟩
  · cases p with
    | none => exact run_convert_bytes_nil w 22 5 Tryd.underlying22 Tryd.underlying5 _ _ 9 Tryd.underlying9
    | some ad =>
      rw [run_convert_bytes_string w 22 9 5 _ _ _ Tryd.underlying22 Tryd.underlying5 Tryd.underlying9]
      exact run_bytesToString w ad 0 cap [] (by simp [loadCells, loadCellsFrom])
  · refine run_convert_bytes_arg w 22 5 Tryd.underlying22 Tryd.underlying5 b off cs.length cap (cs.map Int.ofNat) (by simp) (fun i hi => ?_) 9 Tryd.underlying9
    rw [hc i hi]
    simp [hi]
theorem wpList_conv (x : Operand) (hgd : o.guard = none) (ho : o.op = .convert 22 9 x) (v : Value) (hx : a.eval x = v) (cs : List Nat) (hv : SliceIn w v cs) (h : wpList Tryd.prog ops Q rest (a.put o.dst (.string (strOfNums (cs.map Int.ofNat)))) w) : wpList Tryd.prog ops Q (o :: rest) a w :=
  wpList_value hgd _ w (by simp [execOp, ho, hx, conv_any hv]) h
end

set_option maxHeartbeats 400000 in
theorem same_any (va vb : Value) (cs : List Nat) (w : World) (ha : SliceIn w va cs) (hb : SliceIn w vb cs) :
    Calls Tryd.prog 9 #[va, vb] w fun e w' => e = .returned (.bool true) ∧ w = w' := by
  go_enter Tryd.func9, Tryd.ntmps9
  go_upto_region 1 with fail
  refine wp_region_lit ?_
  refine wpList_move (.tmp 0) rfl rfl _ rfl ?_
  refine wpList_conv (.tmp 5) rfl rfl _ rfl cs ha ?_
  refine wpList_move (.tmp 1) rfl rfl _ rfl ?_
  refine wpList_conv (.tmp 7) rfl rfl _ rfl cs hb ?_
  go_wp2
  go_ret
  exact ⟨by simp, rfl⟩

/-- what the last test reads, and what it leaves -/
def ShownS (w : World) (g1 g2 g4 g5 : Nat) (w' : World) : Prop :=
  Row w' g1 25 (bcells noneBytes) ∧ Row w' g2 25 (bcells abcBytes) ∧ Row w' g4 25 (bcells noneBytes) ∧ Row w' g5 25 (bcells abcBytes) ∧ TabIn w' ∧ StartIn w' ∧ Below w.heap.size w w'
theorem ShownS.later {w W W' : World} {g1 g2 g4 g5 : Nat} (h : ShownS w g1 g2 g4 g5 W) (hb : Below W.heap.size W W') : ShownS w g1 g2 g4 g5 W' :=
  ⟨h.1.later hb h.1.lt, h.2.1.later hb h.2.1.lt, h.2.2.1.later hb h.2.2.1.lt, h.2.2.2.1.later hb h.2.2.2.1.lt, h.2.2.2.2.1.later hb, h.2.2.2.2.2.1.later hb, h.2.2.2.2.2.2.trans (hb.mono h.2.2.2.2.2.2.size)⟩

section
variable {ops : Array Oper} {o : Oper} {a : Act} {Q : Exit → Act → World → Prop} {S : World → Prop} {K : Act → World → Prop} {w : World}
theorem yLoad (hw : Region.wanted o (yielded ops a.tmps) = true) (x : Operand) (ho : o.op = .load 25 x) (g : Nat) (hx : a.eval x = .pointer (some ⟨g, 0, none⟩)) (bs : List Nat) (hbs : (bcells bs).length = 32) (hS : ∀ w', S w' → Row w' g 25 (bcells bs)) : YieldsIf Tryd.prog ops S o (.agg (bcells bs).toArray) a :=
  Or.inl ⟨hw, fun w' hs => by simp [execOp, ho, hx, Instr.loadAt, Instr.sureAddr, run_loadVar agg25 w' g 0 (bcells bs) hbs (fun j v hv => by rw [Nat.zero_add]; exact (hS w' hs).at j v hv)]⟩
theorem yEql (hw : Region.wanted o (yielded ops a.tmps) = true) (x y : Operand) (ho : o.op = .binOp .eql 25 x y 25) (bs : List Nat) (hbs : bs.length = 32) (hx : a.eval x = .agg (bcells bs).toArray) (hy : a.eval y = .agg (bcells bs).toArray) : YieldsIf Tryd.prog ops S o (.bool true) a :=
  Or.inl ⟨hw, fun w' _ => by
    have hm : Tryd.prog.eqGuardType Tryd.prog.depth 25 = false := by kernel_rfl
    simp [execOp, ho, hx, hy, run_eqGuard_agg w' .eql 25 x y _ _ hm, run_eql_struct w' 25, eql25 bs hbs]⟩
theorem yMove (hw : Region.wanted o (yielded ops a.tmps) = true) (x : Operand) (ho : o.op = .move x) (v : Value) (hx : a.eval x = v) : YieldsIf Tryd.prog ops S o v a :=
  Or.inl ⟨hw, fun w' _ => by simp [execOp, ho, hx]⟩
theorem yAssign (hw : Region.wanted o (yielded ops a.tmps) = true) (x : Operand) (ho : o.op = .assign x) (v : Value) (hx : a.eval x = v) : YieldsIf Tryd.prog ops S o v a :=
  Or.inl ⟨hw, fun w' _ => by simp [execOp, ho, hx]⟩
theorem yPick (hw : Region.wanted o (yielded ops a.tmps) = true) (c x y : Operand) (ho : o.op = .pick c x y) (hc : a.eval c = .bool true) (v : Value) (hx : a.eval x = v) : YieldsIf Tryd.prog ops S o v a :=
  Or.inl ⟨hw, fun w' _ => by simp [execOp, ho, hc, hx, asBool]⟩
theorem opCall {i : Nat} (hi : ops[i]? = some o) (hw : Region.wanted o (yielded ops a.tmps) = true) (x : Operand) (ts : Array TypeId) (ho : o.op = .call { callee := .value (.func 7), args := #[x], argTypes := ts }) (v : Value) (hx : a.eval x = v) (u : Value)
    (hc : Calls Tryd.prog 7 #[v] w fun e w' => e = .returned u ∧ Below w.heap.size w w') (h : ∀ w', Below w.heap.size w w' → K (a.put o.dst u) w') : wpOp Tryd.prog ops Q i K a w := by
  have hen : (callFunc 7 #[v]).run Tryd.prog w = .ok (.enter 7 #[v]) w := by
    have hname : (Tryd.f7.name == "runtime.NumGoroutine") = false := by kernel_rfl
    have h1 : Tryd.f7.name ≠ "runtime.NumGoroutine" := by simpa using hname
    have hb : Tryd.f7.body.isNone = false := by kernel_rfl
    have hb' : Tryd.f7.body ≠ none := by intro hn; rw [hn] at hb; cases hb
    simp [callFunc, Tryd.func7, h1, hb', mark]
  have hrun : (execOp a.eval o).run Tryd.prog w = .ok (.enter 7 #[v]) w := by
    simp [execOp, ho, resolve, BigFrame.eval_func, Deferred.ofValue, invoke, hx, hen]
  unfold wpOp
  simp only [hi, hw, if_true]
  refine Or.inl ?_
  unfold Oper.wp
  rw [hrun]
  exact hc.mono fun e w' ⟨he, hb⟩ => by subst he; exact h w' hb
theorem opValue {i : Nat} (hi : ops[i]? = some o) (hw : Region.wanted o (yielded ops a.tmps) = true) (v : Value) (w' : World) (hrun : (execOp a.eval o).run Tryd.prog w = .ok (.value v) w') (h : K (a.put o.dst v) w') : wpOp Tryd.prog ops Q i K a w := by
  unfold wpOp
  simp only [hi, hw, if_true]
  refine Or.inl ?_
  unfold Oper.wp
  rw [hrun]
  exact h
end
theorem run_lit3 (w : World) : (Instr.buildSlice 22 3 #[(0, .int .u8 97), (1, .int .u8 98), (2, .int .u8 99)]).run Tryd.prog w = .ok (.slice (some ⟨w.heap.size, 0, none⟩) 3 3) (w.alloc (.cells (bcells [97, 98, 99]).toArray 5)) := by
  kernel_rfl
theorem run_lit2 (w : World) : (Instr.buildSlice 22 2 #[(0, .int .u8 98), (1, .int .u8 99)]).run Tryd.prog w = .ok (.slice (some ⟨w.heap.size, 0, none⟩) 2 2) (w.alloc (.cells (bcells [98, 99]).toArray 5)) := by
  kernel_rfl
theorem lit_slice (w : World) (cs : List Nat) (h : ∀ j : Nat, cs.getD j 0 < 256) (hl : cs.length < 100) : SliceIn (w.alloc (.cells (bcells cs).toArray 5)) (.slice (some ⟨w.heap.size, 0, none⟩) cs.length cs.length) cs :=
  ⟨_, _, rfl, ⟨Nat.le_refl _, by omega⟩, Or.inr ⟨w.heap.size, 0, rfl, fun j hj => by rw [Nat.zero_add]; exact (Row.new w 5 (bcells cs)).at j _ (bcells_at cs j hj), h⟩⟩
theorem lt256 (cs : List Nat) (h : ∀ c ∈ cs, c < 256) (j : Nat) : cs.getD j 0 < 256 := by
  by_cases hj : j < cs.length
  · simpa [hj] using h _ (List.getElem_mem hj)
  · simp [hj]
theorem SliceIn.offNe {w : World} {v : Value} {cs : List Nat} {g : Nat} (h : SliceIn w v cs) (hne : ∀ p n c, v = .slice (some p) n c → p.block ≠ g) : SliceOff w g v cs := by
  obtain ⟨p, cap, rfl, hl, h⟩ := h
  refine ⟨p, cap, rfl, hl.1, ?_⟩
  rcases h with h | ⟨b, off, rfl, h⟩
  · exact Or.inl h
  · exact Or.inr ⟨b, off, rfl, hne _ _ _ rfl, h⟩
theorem callNone {W : World} (ht : TabIn W) (hs : StartIn W) (v : Value) (hv : SliceIn W v []) : Calls Tryd.prog 7 #[v] W fun e w' => e = .returned (.agg (bcells noneBytes).toArray) ∧ Below W.heap.size W w' := by
  have := sum_any v [] W hv ht hs (by decide)
  rwa [sha_none] at this
theorem callAbc {W : World} (ht : TabIn W) (hs : StartIn W) (v : Value) (hv : SliceIn W v [97, 98, 99]) : Calls Tryd.prog 7 #[v] W fun e w' => e = .returned (.agg (bcells abcBytes).toArray) ∧ Below W.heap.size W w' := by
  have := sum_any v [97, 98, 99] W hv ht hs (by decide)
  rwa [sha_abc] at this
theorem sliceNil (w : World) : SliceIn w (.slice none 0 0) [] := ⟨none, 0, rfl, ⟨Nat.le_refl _, by decide⟩, Or.inl rfl⟩
end Go.Proofs.YtimcgkcdonbjpaaDoor

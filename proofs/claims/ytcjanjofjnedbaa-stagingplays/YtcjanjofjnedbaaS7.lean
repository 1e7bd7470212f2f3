/- Slices of numbers. -/
import Derived.Test.YtcjanjofjnedbaaS6
namespace Go.Proofs.Ytcjanjofjnedbaa
open Go.RowKit Go.Maps Go.MapKept

/-- a slice of numbers -/
def IntsIn (w : World) (v : Value) (l : List Int) : Prop :=
  ∃ p cap, v = .slice p l.length cap ∧ l.length ≤ cap ∧ l.length < 4611686018427387904 ∧ (l = [] ∨ ∃ b off, p = some ⟨b, off, none⟩ ∧ ∀ j, j < l.length → w.cell? ⟨b, off + j, none⟩ = some (.int .i64 (l.getD j 0)))
theorem IntsIn.later {w wx : World} {v : Value} {l : List Int} (h : IntsIn w v l) (hb : Below w.heap.size w wx) : IntsIn wx v l := by
  obtain ⟨p, cap, rfl, h1, h2, h⟩ := h
  refine ⟨p, cap, rfl, h1, h2, ?_⟩
  rcases h with h | ⟨b, off, rfl, h⟩
  · exact Or.inl h
  · refine Or.inr ⟨b, off, rfl, fun j hj => ?_⟩
    have hc := h j hj
    have hlt : b < w.heap.size := by
      unfold World.cell? at hc
      cases hw : w.heap[b]? with
      | none => rw [hw] at hc; cases hc
      | some o => exact (Array.getElem?_eq_some_iff.1 hw).1
    unfold World.cell? at *
    rw [hb.block b hlt]
    exact hc
def icells (l : List Int) : List Value := l.map (Value.int .i64)
theorem icells_length (l : List Int) : (icells l).length = l.length := by simp [icells]
theorem icells_one (l : List Int) : ∀ v ∈ icells l, v.oneCell' = true := by
  intro v hv
  obtain ⟨c, _, rfl⟩ := List.mem_map.1 hv
  rfl
theorem icells_at (l : List Int) (i : Nat) (h : i < l.length) : (icells l)[i]? = some (.int .i64 (l.getD i 0)) := by simp [icells, h]
theorem icells_append (a b : List Int) : icells (a ++ b) = icells a ++ icells b := by simp [icells]
def IOwn (w : World) (v : Value) (l : List Int) : Prop := w.ownsRow 0 3 1 v l.length (icells l)
theorem und43 : Try.prog.underlying 43 = some (.slice 3) := by kernel_rfl
theorem sl43 : Try.prog.underlying 43 = some (.slice (Try.prog.elem 43)) := by kernel_rfl
theorem elem43 : Try.prog.elem 43 = 3 := by kernel_rfl
theorem info3z : (Try.prog.info? 3).map (fun i => (i.zero, i.size, i.bytes)) = some (some (.int .i64 0), 1, 8) := by kernel_rfl
theorem IOwn.ints {w : World} {v : Value} {l : List Int} (h : IOwn w v l) (hl : l.length < 4611686018427387904) : IntsIn w v l := by
  rcases h.2 with ⟨rfl, h0⟩ | ⟨g, cap, cur, rfl, _, hg, hcap, hmax, hsz, htake⟩
  · obtain rfl : l = [] := List.length_eq_zero_iff.1 h0
    exact ⟨none, 0, rfl, Nat.le_refl _, by decide, Or.inl rfl⟩
  · refine ⟨_, cap, rfl, hcap, hl, Or.inr ⟨g, 0, rfl, fun j hj => ?_⟩⟩
    have h2 := h.cells (g := g) rfl j _ (icells_at l j hj)
    rw [add_none] at h2
    exact h2
theorem IntsIn.cut {w : World} {p : Option Addr} {l : List Int} {cap : Nat} (hl : l.length ≤ cap ∧ l.length < 4611686018427387904) (hin : l = [] ∨ ∃ b off, p = some ⟨b, off, none⟩ ∧ ∀ j, j < l.length → w.cell? ⟨b, off + j, none⟩ = some (.int .i64 (l.getD j 0)))
    (a h m : Nat) (h1 : a ≤ h) (h2 : h ≤ l.length) (h3 : h ≤ m) : IntsIn w (sliced p a h m 1) ((l.take h).drop a) := by
  have hlen : ((l.take h).drop a).length = h - a := by simp; omega
  unfold sliced
  by_cases hz : h = a
  · have e : (l.take h).drop a = [] := List.length_eq_zero_iff.1 (by omega)
    rw [e]
    refine ⟨if m = a then p else p.map (·.add (a * 1)), m - a, ?_, by simp, by simp, Or.inl rfl⟩
    rw [show h - a = ([] : List Int).length by simp; omega]
  · rcases hin with rfl | ⟨b, off, rfl, hc⟩
    · simp at h2
      omega
    · refine ⟨_, m - a, by rw [hlen], by omega, by omega, Or.inr ⟨b, off + a, ?_, fun j hj => ?_⟩⟩
      · rw [if_neg (by omega), Option.map_some, Nat.mul_one, add_none]
      · rw [hlen] at hj
        have e : ((l.take h).drop a).getD j 0 = l.getD (a + j) 0 := by simp [show a + j < h by omega]
        rw [e, Nat.add_assoc]
        exact hc (a + j) (by omega)
theorem ints_upto {w : World} {v : Value} {l : List Int} (hin : IntsIn w v l) (k : Nat) (hk : k ≤ l.length) : ∃ v', (∀ w', (Instr.slice 43 v none (some (.int .i64 (k : Nat))) none).run Try.prog w' = .ok v' w') ∧ IntsIn w v' (l.take k) := by
  obtain ⟨p, cap, rfl, hl, h2, hin⟩ := hin
  obtain ⟨i, hi3, hsz⟩ := Option.map_eq_some_iff.1 sz3
  have hsize : ∀ w' : World, (sizeOf 3).run Try.prog w' = .ok 1 w' := fun w' => by simp [sizeOf, typeInfo, hi3, hsz]
  refine ⟨sliced p 0 k cap 1, fun w' => by rw [run_slice_h _ _ _ _ _ sl43 _ _ (by omega) (by omega), elem43, hsize]; rfl, ?_⟩
  have := IntsIn.cut ⟨hl, h2⟩ hin 0 k cap (Nat.zero_le _) hk (by omega)
  simpa using this
theorem ints_from {w : World} {v : Value} {l : List Int} (hin : IntsIn w v l) (k : Nat) (hk : k ≤ l.length) : ∃ v', (∀ w', (Instr.slice 43 v (some (.int .i64 (k : Nat))) none none).run Try.prog w' = .ok v' w') ∧ IntsIn w v' (l.drop k) := by
  obtain ⟨p, cap, rfl, hl, h2, hin⟩ := hin
  obtain ⟨i, hi3, hsz⟩ := Option.map_eq_some_iff.1 sz3
  have hsize : ∀ w' : World, (sizeOf 3).run Try.prog w' = .ok 1 w' := fun w' => by simp [sizeOf, typeInfo, hi3, hsz]
  refine ⟨sliced p k l.length cap 1, fun w' => by rw [run_slice_l _ _ _ _ _ sl43 _ _ (by omega) (by omega), elem43, hsize]; rfl, ?_⟩
  have := IntsIn.cut ⟨hl, h2⟩ hin k l.length cap hk (Nat.le_refl _) hl
  simpa using this
theorem run_subI43 {w : World} {a : Act} {o : Oper} (x : Operand) (lo hi : Option Operand) (ho : o.op = .slice 43 x lo hi none) (v v' : Value) (hv : ∃ p n c, v = .slice p n c) (hx : a.eval x = v) (l h : Option Value) (hl : lo.map a.eval = l) (hh : hi.map a.eval = h) (hr : ∀ w', (Instr.slice 43 v l h none).run Try.prog w' = .ok v' w') : (execOp a.eval o).run Try.prog w = .ok (.value v') w := by
  subst hl hh
  obtain ⟨p, n, c, rfl⟩ := hv
  simp [execOp, ho, hx, run_sliceAt_slice _ _ _ _ _ _ sl43, hr]
theorem IntsIn.isSlice {w : World} {v : Value} {l : List Int} (h : IntsIn w v l) : ∃ p n c, v = .slice p n c := by
  obtain ⟨p, c, rfl, _⟩ := h
  exact ⟨_, _, _, rfl⟩
theorem run_iapp {w : World} (ty : TypeId) (v vx : Value) (l m : List Int) (hown : IOwn w v l) (hin : IntsIn w vx m) (hsz : l.length + m.length ≤ 1000) :
    ∃ v' w', (Builtin.append_ #[43, 43] ty #[v, vx]).run Try.prog w = .ok v' w' ∧ IOwn w' v' (l ++ m) ∧ w.grownBy w' v.ownBlock ∧ (v'.ownBlock = v.ownBlock ∨ v'.ownBlock = some w.heap.size) := by
  obtain ⟨i, hi, hz0, hz1, hz2⟩ := info_parts info3z
  obtain ⟨p, cap, rfl, hl, hl2, hin⟩ := hin
  have hgo : ∀ ad : Addr, (∀ j u, (icells m)[j]? = some u → w.cell? (ad.add j) = some u) → p = some ad → ∃ v' w', (Builtin.append_ #[43, 43] ty #[v, .slice p m.length cap]).run Try.prog w = .ok v' w' ∧ IOwn w' v' (l ++ m) ∧ w.grownBy w' v.ownBlock ∧ (v'.ownBlock = v.ownBlock ∨ v'.ownBlock = some w.heap.size) := by
    rintro ad hnews rfl
    obtain ⟨v', w', hr, ho', hg, _, hat⟩ := run_append_own_at (P := Try.prog) (w := w) 0 43 ty 3 i (.int .i64 0) 1 8 und43 hi hz0 hz1 hz2 rfl (by decide) v l.length (icells l) hown
      ad m.length cap (icells m) (by simp [icells_length]) hnews (icells_one m) (by unfold maxLen; omega) (by omega) (Nat.zero_le _)
    refine ⟨v', w', hr, ?_, hg, hat⟩
    unfold IOwn
    rw [icells_append, List.length_append]
    exact ho'
  rcases hin with rfl | ⟨b, off, rfl, hc⟩
  · cases p with
    | none =>
      refine ⟨v, w, ?_, ?_, World.grownBy.refl w _, Or.inl rfl⟩
      · rcases hown.2 with ⟨rfl, h0⟩ | ⟨g, cap', cur, rfl, _, hg, hcap, hmax, hsz, htake⟩
        · simp [Builtin.append_, run_underlying und43, sizeOf, typeInfo, hi, Builtin.lenOf, Builtin.firstCells]
        · simp [Builtin.append_, run_underlying und43, sizeOf, typeInfo, hi, Builtin.lenOf, Builtin.firstCells, hcap, storeCells]
      · rw [List.append_nil]
        exact hown
    | some ad => exact hgo ad (by intro j u hu; simp [icells] at hu) rfl
  · refine hgo ⟨b, off, none⟩ (fun j u hu => ?_) rfl
    have hj : j < m.length := by
      have := (List.getElem?_eq_some_iff.1 hu).1
      rwa [icells_length] at this
    rw [add_none, hc j hj, ← hu, icells_at m j hj]
theorem run_ilit0 {w : World} {a : Act} {o : Oper} (ho : o.op = .buildSlice 43 0 #[]) : (execOp a.eval o).run Try.prog w = .ok (.value (.slice (some ⟨w.heap.size, 0, none⟩) 0 0)) (w.alloc (.cells #[] 3)) := by
  have hr : (Instr.buildSlice 43 0 #[]).run Try.prog w = .ok (.slice (some ⟨w.heap.size, 0, none⟩) 0 0) (w.alloc (.cells #[] 3)) := by kernel_rfl
  simp only [execOp, ho, hr, List.map_toArray, List.map_nil, Sem.run_bind, Sem.run_pure, Result.andThen_ok]
theorem run_ilit1 {w : World} {a : Act} {o : Oper} (x : Operand) (ho : o.op = .buildSlice 43 1 #[(0, x)]) (z : Int) (hx : a.eval x = .int .i64 z) : (execOp a.eval o).run Try.prog w = .ok (.value (.slice (some ⟨w.heap.size, 0, none⟩) 1 1)) (w.alloc (.cells #[.int .i64 z] 3)) := by
  have hr : (Instr.buildSlice 43 1 #[(0, .int .i64 z)]).run Try.prog w = .ok (.slice (some ⟨w.heap.size, 0, none⟩) 1 1) (w.alloc (.cells #[.int .i64 z] 3)) := by kernel_rfl
  simp only [execOp, ho, List.map_toArray, List.map_cons, List.map_nil, hx, hr, Sem.run_bind, Sem.run_pure, Result.andThen_ok]
theorem ints_lit0 (w : World) : IOwn (w.alloc (.cells #[] 3)) (.slice (some ⟨w.heap.size, 0, none⟩) 0 0) [] :=
  ⟨rfl, Or.inr ⟨w.heap.size, 0, #[], rfl, Nat.zero_le _, heap_alloc_new w _, Nat.le_refl _, by unfold maxLen; omega, rfl, rfl⟩⟩
theorem ints_lit1 (w : World) (z : Int) : IntsIn (w.alloc (.cells #[.int .i64 z] 3)) (.slice (some ⟨w.heap.size, 0, none⟩) 1 1) [z] := by
  refine ⟨some ⟨w.heap.size, 0, none⟩, 1, rfl, Nat.le_refl _, by simp, Or.inr ⟨w.heap.size, 0, rfl, fun j hj => ?_⟩⟩
  have : j = 0 := by simp at hj; omega
  subst this
  have hr := Row.new w 3 [.int .i64 z]
  exact hr.at 0 _ rfl
theorem run_lenN {w0 w : World} {a : Act} {o : Oper} {v : Value} {l : List Int} (hin : IntsIn w0 v l) (x : Operand) (ho : o.op = .call { callee := .builtin .len, args := #[x], argTypes := #[43] }) (hx : a.eval x = v) : (execOp a.eval o).run Try.prog w = .ok (.value (.int .i64 (l.length : Nat))) w := by
  obtain ⟨p, cap, rfl, _⟩ := hin
  exact run_lenZ sl43 x ho p l.length cap hx
theorem ix_num {w : World} {v : Value} {l : List Int} (hin : IntsIn w v l) (k : Nat) (hk : k < l.length) : ∃ b j, (∀ w', (Instr.indexAt 43 v (.int .i64 (k : Nat))).run Try.prog w' = .ok (.pointer (some ⟨b, j, none⟩)) w') ∧ w.cell? ⟨b, j, none⟩ = some (.int .i64 (l.getD k 0)) := by
  obtain ⟨i3, hi3, hsz⟩ := Option.map_eq_some_iff.1 sz3
  obtain ⟨p, cap, rfl, hl, _, h⟩ := hin
  rcases h with rfl | ⟨b, off, rfl, hc⟩
  · simp at hk
  · exact ⟨b, off + k, fun w' => by simp [Instr.indexAt, asIntOf, run_underlying und43, hk, sizeOf, typeInfo, hi3, hsz, add_none], hc k hk⟩
theorem run_neB {w : World} {a : Act} {o : Oper} (x y : Operand) (ho : o.op = .binOp .neq 4 x y 4) (b c : Bool) (hx : a.eval x = .bool b) (hy : a.eval y = .bool c) (r : Bool) (hr : (b != c) = r) : (execOp a.eval o).run Try.prog w = .ok (.value (.bool r)) w := by
  subst hr
  simp only [execOp, ho, hx, hy]
  cases b <;> cases c <;> simp [go_sem]
theorem run_rem3 {w : World} {a : Act} {o : Oper} (x : Operand) (ho : o.op = .binOp .rem 3 x (.const (.int .i64 3)) 3) (z : Int) (hx : a.eval x = .int .i64 z) : (execOp a.eval o).run Try.prog w = .ok (.value (.int .i64 (z.tmod 3))) w :=
  run_binOp' x (.const (.int .i64 3)) ho (.int .i64 z) (.int .i64 3) _ hx rfl rfl (by simp [binOp, Op.intDiv])
theorem tdiv3_bound (z : Int) (hb : -9223372036854775808 ≤ z ∧ z ≤ 9223372036854775807) : -3074457345618258605 ≤ z.tdiv 3 ∧ z.tdiv 3 ≤ 3074457345618258605 := by
  have h := Int.mul_tdiv_add_tmod z 3
  have h1 := Int.tmod_lt_of_pos z (show (0 : Int) < 3 by decide)
  have h2 : -3 < z.tmod 3 := by
    have := Int.lt_tmod_of_pos z (show (0 : Int) < 3 by decide)
    simpa using this
  omega
theorem run_quo3 {w : World} {a : Act} {o : Oper} (x : Operand) (ho : o.op = .binOp .quo 3 x (.const (.int .i64 3)) 3) (z : Int) (hb : -9223372036854775808 ≤ z ∧ z ≤ 9223372036854775807) (hx : a.eval x = .int .i64 z) : (execOp a.eval o).run Try.prog w = .ok (.value (.int .i64 (z.tdiv 3))) w :=
  run_binOp' x (.const (.int .i64 3)) ho (.int .i64 z) (.int .i64 3) _ hx rfl rfl (by
    have h1 : IntKind.i64.wrap (z.tdiv 3) = z.tdiv 3 := by
      have h3 := tdiv3_bound z hb
      simp only [IntKind.wrap, IntKind.signed, IntKind.bits]; simp; omega
    simp [binOp, Op.intDiv, h1])
theorem run_remN {w : World} {a : Act} {o : Oper} (x y : Operand) (ho : o.op = .binOp .rem 3 x y 3) (m n : Nat) (hn : 0 < n) (hx : a.eval x = .int .i64 (m : Nat)) (hy : a.eval y = .int .i64 (n : Nat)) : (execOp a.eval o).run Try.prog w = .ok (.value (.int .i64 ((m % n : Nat) : Int))) w :=
  run_binOp' x y ho (.int .i64 (m : Nat)) (.int .i64 (n : Nat)) _ hx hy rfl (by
    have e : (m : Int).tmod n = ((m % n : Nat) : Int) := by rw [Int.tmod_eq_emod_of_nonneg (Int.natCast_nonneg m)]; rfl
    have h0 : ¬ n = 0 := by omega
    simp [binOp, Op.intDiv, h0, e])
theorem run_neg3 {w : World} {a : Act} {o : Oper} (x : Operand) (ho : o.op = .unOp .neg 3 x) (z r : Int) (hb : -4611686018427387904 ≤ r ∧ r ≤ 4611686018427387904) (hr : -z = r) (hx : a.eval x = .int .i64 z) : (execOp a.eval o).run Try.prog w = .ok (.value (.int .i64 r)) w := by
  have hwr : IntKind.i64.wrap (-z) = r := by rw [hr]; simp only [IntKind.wrap, IntKind.signed, IntKind.bits]; simp; omega
  simp [execOp, ho, hx, Op.unary, Op.intArith, hwr]

end Go.Proofs.Ytcjanjofjnedbaa

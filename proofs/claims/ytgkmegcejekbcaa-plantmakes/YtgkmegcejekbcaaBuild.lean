/- Structs, slices of structs, bytes: made, looked at, copied. -/
import Derived.Test.YtgkmegcejekbcaaLaws
namespace Go.Proofs.Ytgkmegcejekbcaa
open Go.RowKit Go.Maps

theorem splice_cons {α : Type} (A : List α) (o : Nat) (c : α) (r : List α) (h : o + (r.length + 1) ≤ A.length) : splice (A.set o c) (o + 1) r = splice A o (c :: r) := by
  unfold splice
  rw [List.take_succ_eq_append_getElem (by simp; omega), List.take_set_of_le (Nat.le_refl _), List.getElem_set_self, List.drop_set_of_lt (by omega), List.append_assoc]
  simp [show o + 1 + r.length = o + (r.length + 1) by omega]
theorem splice_nil {α : Type} (A : List α) (o : Nat) : splice A o [] = A := by simp [splice]
theorem fold_set : ∀ (cs : List Value) (off s : Nat) (A : Array Value), off + s + cs.length ≤ A.size → (cs.zipIdx s).foldl (fun a x => a.setIfInBounds (off + x.2) x.1) A = (splice A.toList (off + s) cs).toArray
  | [], off, s, A, _ => by simp [splice_nil]
  | c :: r, off, s, A, h => by
    simp only [List.length_cons] at h
    rw [List.zipIdx_cons, List.foldl_cons, fold_set r off (s + 1) _ (by simp; omega)]
    have := splice_cons A.toList (off + s) c r (by simp; omega)
    rw [← this]
    simp [Nat.add_assoc]
theorem fold_arr (cs : List Value) (off : Nat) (A : Array Value) (h : off + cs.length ≤ A.size) : cs.toArray.zipIdx.foldl (fun a x => a.setIfInBounds (off + x.2) x.1) A = (splice A.toList off cs).toArray := by
  have := fold_set cs off 0 A (by omega)
  rw [Nat.add_zero] at this
  rw [← this]
  simp
theorem info87 : (Try.prog.info? 87).map (fun i => (i.zero, i.size, i.bytes)) = some (some (.agg (Value.int .i64 0 :: Value.int .i64 0 :: zerosU8 64).toArray), 66, 80) := by kernel_rfl
theorem info93 : (Try.prog.info? 93).map (fun i => (i.zero, i.size, i.bytes)) = some (some (.agg (Value.int .i64 0 :: Value.int .i64 0 :: Value.int .i64 0 :: zerosU8 64).toArray), 67, 88) := by kernel_rfl
theorem info5 : (Try.prog.info? 5).map (·.size) = some 1 := by kernel_rfl

theorem fill_step (place : Nat → Option (Nat × Nat)) (A : Array Value) (i : Nat) (v : Value) (rest : List (Nat × Value)) (off size : Nat) (cs : List Value) (hp : place i = some (off, size)) (hv : v.cells = cs.toArray) (hl : cs.length = size) (hfit : off + cs.length ≤ A.size) :
    Instr.fill place A ((i, v) :: rest) = Instr.fill place (splice A.toList off cs).toArray rest := by
  have h1 : (decide (v.cells.size ≠ size) || decide (off + v.cells.size > A.size)) = false := by
    rw [hv]
    simp [hl]
    omega
  have h2 := fold_arr cs off A hfit
  rw [← hv] at h2
  rw [Instr.fill, hp]
  simp only [h1]
  rw [← h2]
  rfl
/-- a slice of one struct -/
theorem run_one {t e n bytes : Nat} {zs : List Value} (ht : Try.prog.underlying t = some (.slice e)) (hi : (Try.prog.info? e).map (fun i => (i.zero, i.size, i.bytes)) = some (some (.agg zs.toArray), n, bytes)) (hn : 0 < n) (hn' : n ≤ 100)
    (w : World) (cs : List Value) (hc : cs.length = n) : (Instr.buildSlice t 1 #[(0, .agg cs.toArray)]).run Try.prog w = .ok (.slice (some ⟨w.heap.size, 0, none⟩) 1 1) (w.alloc (.cells cs.toArray e)) := by
  obtain ⟨i, hi, h0, h1, h2⟩ := info_parts hi
  have e1 : ¬ n = 0 := by omega
  have e2 : ¬ 16777216 < n := by omega
  have hf : ∀ A : Array Value, A.size = n → Instr.fill (fun i => some (i * n, n)) A [(0, .agg cs.toArray)] = some cs.toArray := fun A hA => by
    rw [fill_step _ A 0 (.agg cs.toArray) [] 0 n cs (by simp) rfl hc (by omega), splice_all _ _ (by simp; omega)]
    rfl
  have hf' := hf ((Array.range n).map (zs.toArray[· % zs.toArray.size]!)) (by simp)
  simp only [List.size_toArray, List.getElem!_toArray] at hf'
  simp [Instr.buildSlice, run_underlying ht, sizeOf, typeInfo, hi, h1, e1, e2, zeroValue, h0, Value.cells, newRow]
  simp at hf'
  rw [hf']
  rfl
theorem und73 : Try.prog.underlying 73 = some (.slice 87) := Try.underlying73
theorem und90 : Try.prog.underlying 90 = some (.slice 93) := Try.underlying90

/-- a write with its device's number -/
theorem run_build93 (w : World) (d : Int) (cs : List Value) (hc : cs.length = 66) : (Instr.build 93 #[(0, .int .i64 d), (1, .agg cs.toArray)]).run Try.prog w = .ok (.agg (Value.int .i64 d :: cs).toArray) w := by
  have hf : Instr.fill (fun i => #[(0, 1), (1, 66)][i]?) (Value.int .i64 0 :: Value.int .i64 0 :: Value.int .i64 0 :: zerosU8 64).toArray [(0, .int .i64 d), (1, .agg cs.toArray)] = some (Value.int .i64 d :: cs).toArray := by
    rw [fill_step _ _ 0 (.int .i64 d) _ 0 1 [.int .i64 d] rfl rfl rfl (by simp), fill_step _ _ 1 (.agg cs.toArray) _ 1 66 cs rfl rfl hc (by simp [splice, zerosU8, hc])]
    simp [splice, zerosU8, hc, Instr.fill]
  have hz : (zeroValue 93).run Try.prog w = .ok (.agg (Value.int .i64 0 :: Value.int .i64 0 :: Value.int .i64 0 :: zerosU8 64).toArray) w := by kernel_rfl
  simp [Instr.build, hz, run_underlying Try.underlying93, Value.cells]
  simp at hf
  rw [hf]
  rfl
theorem run_build87 (w : World) (x y : Int) : (Instr.build 87 #[(0, .int .i64 x), (1, .int .i64 y)]).run Try.prog w = .ok (.agg (Value.int .i64 x :: Value.int .i64 y :: zerosU8 64).toArray) w := by kernel_rfl

theorem slice84 (g o : Nat) (W : World) : (Instr.sliceAt 84 (.pointer (some ⟨g, o, none⟩)) none none none).run Try.prog W = .ok (.slice (some ⟨g, o, none⟩) 64 64) W := by
  obtain ⟨i, hi, _⟩ := Option.map_eq_some_iff.1 info5
  simp [Instr.sliceAt, run_underlying Try.underlying84, Instr.sureAddr, Instr.sliceBounds, sizeOf, typeInfo, hi, add_none]
theorem slice84_32 (g o : Nat) (W : World) : (Instr.sliceAt 84 (.pointer (some ⟨g, o, none⟩)) none (some (.int .i64 32)) none).run Try.prog W = .ok (.slice (some ⟨g, o, none⟩) 32 64) W := by
  obtain ⟨i, hi, _⟩ := Option.map_eq_some_iff.1 info5
  simp [Instr.sliceAt, run_underlying Try.underlying84, Instr.sureAddr, Instr.sliceBounds, Instr.sliceBound, asIntOf, sizeOf, typeInfo, hi, add_none]

section
variable {w : World} {ops : Array Oper} {rest : List Oper} {o : Oper} {a : Act} {Q : Exit → Act → World → Prop}
/-- copy of bytes into a block that is known whole -/
theorem wpList_copy_row (d s : Operand) (hgd : o.guard = none) (ho : o.op = .call { callee := .builtin .copy, args := #[d, s], argTypes := #[40, 40] })
    (g off dLen dCap b so sLen sCap T k : Nat) (hd : a.eval d = .slice (some ⟨g, off, none⟩) dLen dCap) (hs : a.eval s = .slice (some ⟨b, so, none⟩) sLen sCap)
    (cur : List Value) (hr : Row w g T cur) (c : List Nat) (hk : c.length = k) (hn : k = Nat.min sLen dLen) (hsrc : ∀ j, j < c.length → w.cell? ⟨b, so + j, none⟩ = some (.int .u8 (c.getD j 0 : Nat))) (hfit : off + k ≤ cur.length)
    (h : ∀ w', Row w' g T (splice cur off (bcells c)) → w'.heap.size = w.heap.size → Ch (· = g) w w' → wpList Try.prog ops Q rest (a.put o.dst (.int .i64 (k : Nat))) w') : wpList Try.prog ops Q (o :: rest) a w := by
  have hbl : (bcells c).length = k := by rw [bcells_length]; exact hk
  refine wpList_copy_own hgd d s 40 40 ho 5 Try.underlying40 info5 g off dLen dCap ⟨b, so, none⟩ sLen sCap hd hs cur.toArray T hr (bcells c) (by rw [hbl]; exact hn) ?_ (by rw [hbl]; simpa using hfit) (bcells_one c) ?_
  · intro j v hv
    have hj : j < c.length := by
      have := (List.getElem?_eq_some_iff.1 hv).1
      rwa [bcells_length] at this
    rw [add_none, hsrc j hj, ← hv, bcells_at c j hj]
  · have hh := h (w.setRow g (splice cur off (bcells c)).toArray) (hr.setRow _) (by simp [World.setRow]) ((Ch.refl (· = g) w).setRow (g := g) (Or.inl rfl) _)
    rw [← hbl] at hh
    exact hh
/-- the address of an element of a slice -/
theorem wpList_indexAddr {t e n : Nat} (ht : Try.prog.underlying t = some (.slice e)) (hs : (Try.prog.info? e).map (·.size) = some n) (x ix : Operand) (hgd : o.guard = none) (ho : o.op = .indexAddr t x ix) (b off len cap j : Nat) (hx : a.eval x = .slice (some ⟨b, off, none⟩) len cap)
    (hix : a.eval ix = .int .i64 (j : Nat)) (hj : j < len) (h : wpList Try.prog ops Q rest (a.put o.dst (.pointer (some ⟨b, off + j * n, none⟩))) w) : wpList Try.prog ops Q (o :: rest) a w := by
  obtain ⟨i, hi, hsz⟩ := Option.map_eq_some_iff.1 hs
  refine wpList_value hgd _ w ?_ h
  simp [execOp, ho, hx, hix, Instr.indexAt, asIntOf, run_underlying ht, sizeOf, typeInfo, hi, hsz, hj, add_none]
end
theorem size87 : (Try.prog.info? 87).map (·.size) = some 66 := by kernel_rfl
theorem size93 : (Try.prog.info? 93).map (·.size) = some 67 := by kernel_rfl

def BytesIn (w : World) (b off : Nat) (cs : List Nat) : Prop := (∀ j, j < cs.length → w.cell? ⟨b, off + j, none⟩ = some (.int .u8 (cs.getD j 0 : Nat))) ∧ ∀ j, cs.getD j 0 < 256
/-- a slice value that holds just these bytes -/
def SliceIn (w : World) (v : Value) (cs : List Nat) : Prop :=
  ∃ p cap, v = .slice p cs.length cap ∧ (cs.length ≤ cap ∧ cs.length ≤ 9223372036854775807) ∧ (cs = [] ∨ ∃ b off, p = some ⟨b, off, none⟩ ∧ BytesIn w b off cs)
theorem BytesIn.lt {w : World} {b off : Nat} {cs : List Nat} (h : BytesIn w b off cs) (hne : cs ≠ []) : b < w.heap.size :=
  block_lt_of_cell (h.1 0 (by cases cs <;> simp_all))
theorem BytesIn.later {w wx : World} {b off : Nat} {cs : List Nat} (h : BytesIn w b off cs) (hb : Below w.heap.size w wx) : BytesIn wx b off cs :=
  ⟨fun j hj => by
    rw [← h.1 j hj]
    exact World.cell?_of_block (hb.block b (block_lt_of_cell (h.1 j hj))), h.2⟩
theorem SliceIn.later {w wx : World} {v : Value} {cs : List Nat} (hb : Below w.heap.size w wx) (h : SliceIn w v cs) : SliceIn wx v cs := by
  obtain ⟨p, cap, rfl, hl, h⟩ := h
  refine ⟨p, cap, rfl, hl, ?_⟩
  rcases h with h | ⟨b, off, rfl, h⟩
  · exact Or.inl h
  · exact Or.inr ⟨b, off, rfl, h.later hb⟩
end Go.Proofs.Ytgkmegcejekbcaa

/- A slice of slices of bytes: its length, its cut, its elements. -/
import Derived.Test.YtflabbladikhbabDoorSums
namespace Go.Proofs.YtflabbladikhbabDoor
open Go.RowKit

/-- a slice of slices of bytes -/
def ListIn (w : World) (v : Value) (L : List (List Nat)) : Prop :=
  ∃ p cap, v = .slice p L.length cap ∧ (L.length ≤ cap ∧ L.length ≤ 9223372036854775807) ∧ (L = [] ∨ ∃ b off, p = some ⟨b, off, none⟩ ∧ ∀ i, i < L.length → ∃ vi, w.cell? ⟨b, off + i, none⟩ = some vi ∧ SliceIn w vi (L.getD i []))
theorem ListIn.later {w wx : World} {v : Value} {L : List (List Nat)} (hb : Below w.heap.size w wx) (h : ListIn w v L) : ListIn wx v L := by
  obtain ⟨p, cap, rfl, hl, h⟩ := h
  refine ⟨p, cap, rfl, hl, ?_⟩
  rcases h with h | ⟨b, off, rfl, h⟩
  · exact Or.inl h
  · refine Or.inr ⟨b, off, rfl, fun i hi => ?_⟩
    obtain ⟨vi, h1, h2⟩ := h i hi
    exact ⟨vi, cell_later hb h1, h2.later hb⟩
theorem ListIn.mem {w : World} {v : Value} {L : List (List Nat)} (h : ListIn w v L) (i : Nat) (hi : i < L.length) : ∀ c ∈ L.getD i [], c < 256 := by
  obtain ⟨p, cap, rfl, hl, h⟩ := h
  rcases h with rfl | ⟨b, off, rfl, h⟩
  · simp at hi
  · obtain ⟨vi, _, h2⟩ := h i hi
    exact h2.mem
theorem elem33 : Tryd.prog.elem 33 = 22 := by kernel_rfl
theorem size22 : (Tryd.prog.info? 22).map (·.size) = some 1 := by kernel_rfl
section
variable {w : World} {ops : Array Oper} {rest : List Oper} {o : Oper} {a : Act} {Q : Exit → Act → World → Prop}
theorem wpList_lenL {w0 : World} (x : Operand) (hgd : Region.wanted o (yielded ops a.tmps) = true) (ho : o.op = .call { callee := .builtin .len, args := #[x], argTypes := #[33] }) (v : Value) (L : List (List Nat)) (hx : a.eval x = v) (hin : ListIn w0 v L)
    (h : wpList Tryd.prog ops Q rest (a.put o.dst (.int .i64 (L.length : Nat))) w) : wpList Tryd.prog ops Q (o :: rest) a w := by
  refine wpList_value hgd _ w ?_ h
  obtain ⟨p, cap, rfl, hl, hin⟩ := hin
  have hu' : Tryd.prog.underlying 33 = some (.slice (Tryd.prog.elem 33)) := by rw [elem33]; exact Tryd.underlying33
  have hr := run_len_slice w 33 o.type p L.length cap hu'
  simp only [execOp, ho, resolve, invoke, builtin, Sem.run_bind, Sem.run_pure, Result.andThen_ok, List.map_toArray, List.map_cons, List.map_nil, hx, hr]
  rfl
theorem wpList_subL (x : Operand) (hgd : Region.wanted o (yielded ops a.tmps) = true) (n : Nat) (I : Operand) (ho : o.op = .slice 33 x none (some I) none) (hI : a.eval I = .int .i64 (n : Nat)) (v : Value) (L : List (List Nat)) (hx : a.eval x = v) (hin : ListIn w v L) (hn : n ≤ L.length)
    (h : ∀ v', ListIn w v' (L.take n) → wpList Tryd.prog ops Q rest (a.put o.dst v') w) : wpList Tryd.prog ops Q (o :: rest) a w := by
  obtain ⟨p, cap, rfl, hl, hin⟩ := hin
  have hu' : Tryd.prog.underlying 33 = some (.slice (Tryd.prog.elem 33)) := by rw [elem33]; exact Tryd.underlying33
  obtain ⟨i, hi5, hsz⟩ := Option.map_eq_some_iff.1 size22
  have hsize : ∀ w' : World, (sizeOf 22).run Tryd.prog w' = .ok 1 w' := fun w' => by simp [sizeOf, typeInfo, hi5, hsz]
  have hr : (Instr.slice 33 (.slice p L.length cap) none (some (.int .i64 (n : Nat))) none).run Tryd.prog w = .ok (sliced p 0 n cap 1) w := by
    rw [run_slice_h _ _ _ _ _ hu' _ _ (by omega) (by omega), elem33, hsize]
    rfl
  refine wpList_value hgd (sliced p 0 n cap 1) w ?_ (h _ ?_)
  · simp [execOp, ho, hx, hI, run_sliceAt_slice _ _ _ _ _ _ hu', hr]
  · have hlen : (L.take n).length = n := by simp; omega
    unfold sliced
    refine ⟨_, cap, by rw [hlen, Nat.sub_zero, Nat.sub_zero], ⟨by omega, by omega⟩, ?_⟩
    by_cases h0 : L.take n = []
    · exact Or.inl h0
    · rcases hin with rfl | ⟨b, off, rfl, hc⟩
      · simp at h0
      · have hnz : n ≠ 0 := by rintro rfl; simp at h0
        refine Or.inr ⟨b, off, ?_, fun i hi => ?_⟩
        · rw [if_neg (by omega), Option.map_some, Nat.zero_mul, add_none, Nat.add_zero]
        · rw [hlen] at hi
          obtain ⟨vi, h1, h2⟩ := hc i (by omega)
          refine ⟨vi, h1, ?_⟩
          rw [show (L.take n).getD i [] = L.getD i [] by simp [hi]]
          exact h2
theorem wpList_indexL (x i : Operand) (hgd : Region.wanted o (yielded ops a.tmps) = true) (ho : o.op = .indexAddr 33 x i) (v : Value) (L : List (List Nat)) (hx : a.eval x = v) (hin : ListIn w v L) (k : Nat) (hk : k < L.length) (I : Int) (hi : a.eval i = .int .i64 I) (hI : I = (k : Int))
    (h : ∀ b j vi, w.cell? ⟨b, j, none⟩ = some vi → SliceIn w vi (L.getD k []) → wpList Tryd.prog ops Q rest (a.put o.dst (.pointer (some ⟨b, j, none⟩))) w) : wpList Tryd.prog ops Q (o :: rest) a w := by
  subst hI
  obtain ⟨p, cap, rfl, hl, hin⟩ := hin
  rcases hin with rfl | ⟨b, off, rfl, hc⟩
  · simp at hk
  obtain ⟨i5, hi5, hsz⟩ := Option.map_eq_some_iff.1 size22
  obtain ⟨vi, h1, h2⟩ := hc k hk
  refine wpList_value hgd (.pointer (some ⟨b, off + k, none⟩)) w ?_ (h b (off + k) vi h1 h2)
  have hr : (Instr.indexAt 33 (.slice (some ⟨b, off, none⟩) L.length cap) (.int .i64 (k : Nat))).run Tryd.prog w = .ok (.pointer (some ⟨b, off + k, none⟩)) w := by
    simp [Instr.indexAt, asIntOf, run_underlying Tryd.underlying33, hk, sizeOf, typeInfo, hi5, hsz, add_none]
  simp only [execOp, ho, hx, hi, hr, Sem.run_bind, Sem.run_pure, Result.andThen_ok]
theorem wpList_load22 (x : Operand) (hgd : Region.wanted o (yielded ops a.tmps) = true) (ho : o.op = .load 22 x) (b j : Nat) (hx : a.eval x = .pointer (some ⟨b, j, none⟩)) (v : Value) (hc : w.cell? ⟨b, j, none⟩ = some v)
    (h : wpList Tryd.prog ops Q rest (a.put o.dst v) w) : wpList Tryd.prog ops Q (o :: rest) a w := by
  refine wpList_value hgd v w ?_ h
  have hr : (Instr.loadAt 22 (.pointer (some ⟨b, j, none⟩))).run Tryd.prog w = .ok v w := by simp [Instr.loadAt, Instr.sureAddr, go_sem, hc]
  simp only [execOp, ho, hx, hr, Sem.run_bind, Sem.run_pure, Result.andThen_ok]
end

namespace Frame
/-- the frames of the first k rows, one behind the other -/
def rowsTo (L : List (List Nat)) : Nat → List Nat
  | 0 => []
  | k + 1 => rowsTo L k ++ pack k (L.getD k [])
/-- the frames of m rows from k on -/
def tail (L : List (List Nat)) : Nat → Nat → List Nat
  | _, 0 => []
  | k, m + 1 => pack k (L.getD k []) ++ tail L (k + 1) m
theorem rowsTo_tail (L : List (List Nat)) (m : Nat) : ∀ k, rowsTo L (k + m) = rowsTo L k ++ tail L k m := by
  induction m with
  | zero => intro k; simp [tail]
  | succ m ih =>
    intro k
    rw [show k + (m + 1) = (k + 1) + m by omega, ih (k + 1), rowsTo, tail, List.append_assoc]
theorem rowsTo_lt (L : List (List Nat)) (h : ∀ i, i < L.length → ∀ c ∈ L.getD i [], c < 256) (n : Nat) (hn : n ≤ L.length) (h40 : n ≤ 40) : ∀ c ∈ rowsTo L n, c < 256 := by
  induction n with
  | zero => intro c hc; simp [rowsTo] at hc
  | succ n ih =>
    intro c hc
    rw [rowsTo] at hc
    rcases List.mem_append.1 hc with hc | hc
    · exact ih (by omega) (by omega) c hc
    · exact pack_lt n _ (by omega) (h n (by omega)) c hc
theorem rowsTo_length (L : List (List Nat)) (n : Nat) (hn : n ≤ L.length) : (rowsTo L n).length ≤ L.flatten.length + 9 * n := by
  have key : ∀ n, n ≤ L.length → (rowsTo L n).length = (L.take n).flatten.length + 9 * n := by
    intro n
    induction n with
    | zero => intro _; simp [rowsTo]
    | succ n ih =>
      intro hn
      have hlt : n < L.length := by omega
      rw [rowsTo, List.length_append, pack_length, ih (by omega), List.take_succ_eq_append_getElem hlt, List.flatten_append, List.length_append]
      simp [hlt]
      omega
  rw [key n hn]
  have h : L.flatten = (L.take n).flatten ++ (L.drop n).flatten := by rw [← List.flatten_append, List.take_append_drop]
  rw [h, List.length_append]
  omega
theorem getD_length (L : List (List Nat)) (k : Nat) (hk : k < L.length) : (L.getD k []).length ≤ L.flatten.length := by
  have h : L.flatten = (L.take k).flatten ++ (L.drop k).flatten := by rw [← List.flatten_append, List.take_append_drop]
  rw [h, List.drop_eq_getElem_cons hk, List.flatten_cons, List.length_append, List.length_append]
  simp [hk]
  omega
end Frame
theorem unpackBad (v : Value) (cs : List Nat) (w : World) (h : SliceIn w v cs) (ht : TabIn w) (hsz : cs.length ≤ 281474976710656) (hok : Frame.okB cs = false) :
    Calls Tryd.prog 10 #[v] w fun e w' => ∃ vp vr, e = .returned (.tuple #[.int .u8 0, vp, vr, .int .i64 40]) ∧ Below w.heap.size w w' := by
  have hu := unpack_any v cs w h ht hsz
  unfold Frame.kindOf Frame.payOf Frame.restOf Frame.errOf at hu
  rw [hok] at hu
  exact hu.mono fun e w' ⟨vp, vr, h1, h2, h3, _, h4⟩ => ⟨vp, vr, h1, h4⟩
theorem unpackPacked (v : Value) (kind : Nat) (cs rest : List Nat) (w : World) (h : SliceIn w v (Frame.pack kind cs ++ rest)) (ht : TabIn w) (hsz : (Frame.pack kind cs ++ rest).length ≤ 4000000) :
    Calls Tryd.prog 10 #[v] w fun e w' => ∃ vp vr, e = .returned (.tuple #[.int .u8 (kind : Nat), vp, vr, .int .i64 0]) ∧ SliceIn w' vp cs ∧ SliceIn w' vr rest ∧ Below w.heap.size w w' := by
  have hl : cs.length < 4294967296 := by rw [List.length_append, Frame.pack_length] at hsz; omega
  have hb := Frame.back kind cs rest hl
  have hu := unpack_any v _ w h ht (by omega)
  rw [hb.1, hb.2.1, hb.2.2.1, hb.2.2.2] at hu
  have hm := h.mem
  refine hu.mono fun e w' ⟨vp, vr, h1, h2, h3, _, h4⟩ => ⟨vp, vr, h1, h2.slice fun c hc => hm c (List.mem_append_left _ ?_), h3.slice fun c hc => hm c (List.mem_append_right _ hc), h4⟩
  unfold Frame.pack Frame.body
  simp [hc]
end Go.Proofs.YtflabbladikhbabDoor

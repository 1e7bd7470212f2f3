/- Slices of bytes in memory: what a slice value holds, what the call owns; the laws of len, cutting, append, make, copy, index for such values. -/
import Derived.Test.YthgidfoidbgnaaaDoorE10
import Derived.Laws.CopyOwn
import Derived.Laws.BytesArg
namespace Go.Proofs.YthgidfoidbgnaaaDoor.Fr
open Go.RowKit

/-- a slice value that holds just these bytes -/
def SliceIn (w : World) (v : Value) (cs : List Nat) : Prop :=
 ∃ p cap, v = .slice p cs.length cap ∧ (cs.length ≤ cap ∧ cs.length ≤ 9223372036854775807) ∧ (cs = [] ∨ ∃ b off, p = some ⟨b, off, none⟩ ∧ BytesIn w b off cs)
/-- bytes as cells -/
def bcells (cs : List Nat) : List Value := cs.map fun c => Value.int .u8 (c : Nat)
theorem bcells_length (cs : List Nat) : (bcells cs).length = cs.length := by simp [bcells]
theorem bcells_append (a b : List Nat) : bcells (a ++ b) = bcells a ++ bcells b := by simp [bcells]
theorem bcells_at (cs : List Nat) (j : Nat) (h : j < cs.length) : (bcells cs)[j]? = some (.int .u8 (cs.getD j 0 : Nat)) := by simp [bcells, h]
theorem bcells_one (cs : List Nat) : ∀ v ∈ bcells cs, v.oneCell' = true := by
 intro v hv
 obtain ⟨c, _, rfl⟩ := List.mem_map.1 hv
 rfl
/-- bytes that the call has made, in a block from base on that is this slice's alone -/
def BOwn (w : World) (base : Nat) (v : Value) (cs : List Nat) : Prop := w.ownsRow base 5 1 v cs.length (bcells cs)

theorem add_none (b o j : Nat) : (⟨b, o, none⟩ : Addr).add j = ⟨b, o + j, none⟩ := by unfold Addr.add; split <;> simp_all
theorem info5 : (Tryd.prog.info? 5).map (fun i => (i.zero, i.size, i.bytes)) = some (some (.int .u8 0), 1, 1) := by kernel_rfl
theorem size5 : (Tryd.prog.info? 5).map (·.size) = some 1 := by kernel_rfl
theorem elem22 : Tryd.prog.elem 28 = 5 := by kernel_rfl

theorem BytesIn.later {B : Nat} {w wx : World} {b off : Nat} {cs : List Nat} (hb : Below B w wx) (hlt : cs ≠ [] → b < B) (h : BytesIn w b off cs) : BytesIn wx b off cs := by
 refine ⟨fun j hj => ?_, h.2⟩
 have hb' : b < B := hlt (by rintro rfl; simp at hj)
 rw [hb.cell (p := ⟨b, off + j, none⟩) hb']
 exact h.1 j hj
theorem TabIn.later {w wx : World} (hb : Below w.heap.size w wx) (h : TabIn w) : TabIn wx := fun r => cell_later hb (h r)
theorem BytesIn.lt {w : World} {b off : Nat} {cs : List Nat} (h : BytesIn w b off cs) (hne : cs ≠ []) : b < w.heap.size :=
 block_lt_of_cell (h.1 0 (by cases cs <;> simp_all))
theorem SliceIn.later {w wx : World} {v : Value} {cs : List Nat} (hb : Below w.heap.size w wx) (h : SliceIn w v cs) : SliceIn wx v cs := by
 obtain ⟨p, cap, rfl, hl, h⟩ := h
 refine ⟨p, cap, rfl, hl, ?_⟩
 rcases h with h | ⟨b, off, rfl, h⟩
 ·exact Or.inl h
 ·exact Or.inr ⟨b, off, rfl, h.later hb h.lt⟩
theorem SliceIn.bytes {w : World} {v : Value} {cs : List Nat} (h : SliceIn w v cs) (j : Nat) : cs.getD j 0 < 256 := by
 obtain ⟨p, cap, rfl, hl, h⟩ := h
 rcases h with rfl | ⟨b, off, rfl, _, hb⟩
 ·simp
 ·exact hb j
theorem SliceIn.mem {w : World} {v : Value} {cs : List Nat} (h : SliceIn w v cs) : ∀ c ∈ cs, c < 256 := Frame.mem_lt h.bytes
theorem SliceIn.nil (w : World) : SliceIn w (.slice none 0 0) [] := ⟨none, 0, rfl, ⟨Nat.le_refl _, by decide⟩, Or.inl rfl⟩
theorem BOwn.slice {w : World} {base : Nat} {v : Value} {cs : List Nat} (h : BOwn w base v cs) (hb : ∀ c ∈ cs, c < 256) : SliceIn w v cs := by
 rcases h.2 with ⟨rfl, h0⟩ | ⟨g, cap, cur, rfl, _, hg, hcap, hmax, hsz, htake⟩
 ·obtain rfl : cs = [] := List.length_eq_zero_iff.1 h0
  exact SliceIn.nil w
 ·unfold maxLen at hmax
  refine ⟨_, cap, rfl, ⟨hcap, by omega⟩, Or.inr ⟨g, 0, rfl, fun j hj => ?_, Frame.getD_lt hb⟩⟩
  have h2 := h.cells (g := g) rfl j _ (bcells_at cs j hj)
  rw [add_none] at h2
  exact h2
theorem BOwn.nil (w : World) (base : Nat) : BOwn w base (.slice none 0 0) [] := World.ownsRow_nil w base 5 1
theorem BOwn.new (w : World) (base : Nat) (hb : base ≤ w.heap.size) : BOwn (w.alloc (.cells #[] 5)) base (.slice (some ⟨w.heap.size, 0, none⟩) 0 0) [] := World.ownsRow_made w #[] 0 hb (Nat.zero_le _) rfl
theorem BOwn.later {w w' : World} {B base : Nat} {v : Value} {cs : List Nat} (h : BOwn w base v cs) (hb : Below B w w') (hB : w.heap.size ≤ B) : BOwn w' base v cs := by
 refine World.ownsRow.kept h (row := none) ⟨hb.os, hb.tape, hb.output, hb.size, fun k hk _ => hb.block k (by omega)⟩ ?_
 cases hv : v.ownBlock with
 | none => exact Or.inl rfl
 | some k => exact Or.inr (by simp)
theorem BOwn.weaken {w : World} {base base' : Nat} {v : Value} {cs : List Nat} (h : BOwn w base v cs) (hb : base' ≤ base) : BOwn w base' v cs := by
 refine ⟨h.1, ?_⟩
 rcases h.2 with h | ⟨g, cap, cur, h1, h2, h3⟩
 ·exact Or.inl h
 ·exact Or.inr ⟨g, cap, cur, h1, Nat.le_trans hb h2, h3⟩
theorem BOwn.apart' {w w' : World} {B B' : Nat} {v v' : Value} {cs cs' : List Nat} (h : BOwn w B v cs) (h' : BOwn w' B' v' cs') (hs : w.heap.size ≤ B') : v'.ownBlock = none ∨ v'.ownBlock ≠ v.ownBlock := by
 cases hv : v'.ownBlock with
 | none => exact Or.inl rfl
 | some k =>
  refine Or.inr ?_
  intro e
  have h1 := h.lt k e.symm
  have h2 := h'.lt k hv
  omega
/-- what an own block's turning leaves -/
theorem BOwn.below {w w' : World} {base : Nat} {v : Value} {cs : List Nat} (h : BOwn w base v cs) (hg : w.grownBy w' v.ownBlock) (hb : base ≤ w.heap.size) : Below base w w' :=
 (Below.refl base w).grown hg hb fun k hk => (h.lt k hk).1

/-! cutting -/
theorem sub_in {w : World} {cs : List Nat} {p : Option Addr} {cap : Nat} (hl : cs.length ≤ cap ∧ cs.length ≤ 9223372036854775807) (hin : cs = [] ∨ ∃ b off, p = some ⟨b, off, none⟩ ∧ BytesIn w b off cs)
  (l h m : Nat) (h1 : l ≤ h) (h2 : h ≤ cs.length) (h3 : h ≤ m) : SliceIn w (sliced p l h m 1) ((cs.take h).drop l) := by
 have hlen : ((cs.take h).drop l).length = h - l := by simp; omega
 unfold sliced
 by_cases hz : h = l
 ·have e : (cs.take h).drop l = [] := List.length_eq_zero_iff.1 (by omega)
  rw [e]
  refine ⟨if m = l then p else p.map (·.add (l * 1)), m - l, ?_, ⟨by simp, by simp⟩, Or.inl rfl⟩
  rw [show h - l = ([] : List Nat).length by simp; omega]
 ·rcases hin with rfl | ⟨b, off, rfl, hc, hb⟩
  ·simp at h2
   omega
  ·refine ⟨_, m - l, by rw [hlen], ⟨by omega, by omega⟩, Or.inr ⟨b, off + l, ?_, fun j hj => ?_, fun j => ?_⟩⟩
   ·rw [if_neg (by omega), Option.map_some, Nat.mul_one, add_none]
   ·rw [hlen] at hj
    have e : ((cs.take h).drop l).getD j 0 = cs.getD (l + j) 0 := by simp [show l + j < h by omega]
    rw [e, Nat.add_assoc]
    exact hc (l + j) (by omega)
   ·refine Frame.getD_lt (fun c hc' => ?_) j
    exact Frame.mem_lt hb c (List.mem_of_mem_take (List.mem_of_mem_drop hc'))

/-- which cut it is -/
def SubOf (lo hi mx : Option Value) (n l h : Nat) : Prop :=
 ((lo = none ∧ l = 0) ∨ ∃ L : Int, lo = some (.int .i64 L) ∧ L = (l : Int)) ∧ ((hi = none ∧ mx = none ∧ h = n) ∨ ∃ H : Int, hi = some (.int .i64 H) ∧ H = (h : Int) ∧ (mx = none ∨ mx = some (.int .i64 H))) ∧ l ≤ h ∧ h ≤ n

theorem run_sub {w : World} {v : Value} {cs : List Nat} (hin : SliceIn w v cs) {lo hi mx : Option Value} {l h : Nat} (hs : SubOf lo hi mx cs.length l h) :
  ∃ v', (∀ w', (Instr.slice 28 v lo hi mx).run Tryd.prog w' = .ok v' w') ∧ SliceIn w v' ((cs.take h).drop l) := by
 obtain ⟨p, cap, rfl, hl, hin⟩ := hin
 obtain ⟨hlo, hhi, h1, h2⟩ := hs
 obtain ⟨i, hi5, hsz⟩ := Option.map_eq_some_iff.1 size5
 have hsize : ∀ w' : World, (sizeOf 5).run Tryd.prog w' = .ok 1 w' := fun w' => by simp [sizeOf, typeInfo, hi5, hsz]
 have hu := Tryd.underlying28
 have key : ∀ m : Nat, h ≤ m → ((∀ w', (Instr.slice 28 (.slice p cs.length cap) lo hi mx).run Tryd.prog w' = .ok (sliced p l h m 1) w') → ∃ v', (∀ w', (Instr.slice 28 (.slice p cs.length cap) lo hi mx).run Tryd.prog w' = .ok v' w') ∧ SliceIn w v' ((cs.take h).drop l)) :=
  fun m hm hr => ⟨_, hr, sub_in hl hin l h m h1 h2 hm⟩
 have hu' : Tryd.prog.underlying 28 = some (.slice (Tryd.prog.elem 28)) := by rw [elem22]; exact hu
 rcases hlo with ⟨rfl, rfl⟩ | ⟨L, rfl, rfl⟩
 ·rcases hhi with ⟨rfl, rfl, rfl⟩ | ⟨H, rfl, rfl, rfl | rfl⟩
  ·exact key cap hl.1 fun w' => by rw [run_slice_all _ _ _ _ _ hu', elem22, hsize]; rfl
  ·exact key cap (by omega) fun w' => by rw [run_slice_h _ _ _ _ _ hu' _ _ (by omega) (by omega), elem22, hsize]; rfl
  ·exact key h (Nat.le_refl _) fun w' => by rw [run_slice_hm _ _ _ _ _ hu' _ _ _ _ (by omega) (by omega) (by omega), elem22, hsize]; rfl
 ·rcases hhi with ⟨rfl, rfl, rfl⟩ | ⟨H, rfl, rfl, rfl | rfl⟩
  ·exact key cap hl.1 fun w' => by rw [run_slice_l _ _ _ _ _ hu' _ _ (by omega) (by omega), elem22, hsize]; rfl
  ·exact key cap (by omega) fun w' => by rw [run_slice_lh _ _ _ _ _ hu' _ _ _ _ (by omega) (by omega) (by omega), elem22, hsize]; rfl
  ·exact key h (Nat.le_refl _) fun w' => by rw [run_slice_lhm _ _ _ _ _ hu' _ _ _ _ _ _ (by omega) (by omega) (by omega) (by omega), elem22, hsize]; rfl

section
variable {w : World} {ops : Array Oper} {rest : List Oper} {o : Oper} {a : Act} {Q : Exit → Act → World → Prop}
/-- an operation whose run is known -/
theorem wpList_value (hgd : Region.wanted o (yielded ops a.tmps) = true) (v : Value) (w' : World) (hrun : (execOp a.eval o).run Tryd.prog w = .ok (.value v) w') (h : wpList Tryd.prog ops Q rest (a.put o.dst v) w') : wpList Tryd.prog ops Q (o :: rest) a w :=
 BigFrame.wpList_want hgd fun K hK => by
  unfold Oper.wp
  rw [hrun]
  exact hK _ _ h
/-- the length -/
theorem run_len {v : Value} {cs : List Nat} (hin : SliceIn w v cs) (ty : TypeId) (w' : World) : (Builtin.len_ #[28] ty #[v]).run Tryd.prog w' = .ok (goInt cs.length) w' := by
 obtain ⟨p, cap, rfl, hl, hin⟩ := hin
 have hu' : Tryd.prog.underlying 28 = some (.slice (Tryd.prog.elem 28)) := by rw [elem22]; exact Tryd.underlying28
 exact run_len_slice w' _ _ _ _ _ hu'
theorem wpList_len {w0 : World} (x : Operand) (hgd : Region.wanted o (yielded ops a.tmps) = true) (ho : o.op = .call { callee := .builtin .len, args := #[x], argTypes := #[28] }) (v : Value) (cs : List Nat) (hx : a.eval x = v) (hin : SliceIn w0 v cs)
  (h : wpList Tryd.prog ops Q rest (a.put o.dst (.int .i64 (cs.length : Nat))) w) : wpList Tryd.prog ops Q (o :: rest) a w := by
 refine wpList_value hgd _ w ?_ h
 have hr := run_len hin o.type w
 simp only [execOp, ho, resolve, invoke, builtin, Sem.run_bind, Sem.run_pure, Result.andThen_ok, List.map_toArray, List.map_cons, List.map_nil, hx, hr]
 rfl
/-- a cut -/
theorem wpList_sub (x : Operand) (lo hi mx : Option Operand) (hgd : Region.wanted o (yielded ops a.tmps) = true) (ho : o.op = .slice 28 x lo hi mx) (v : Value) (cs : List Nat) (hx : a.eval x = v) (hin : SliceIn w v cs) (l h' : Nat)
  (hs : SubOf (lo.map a.eval) (hi.map a.eval) (mx.map a.eval) cs.length l h')
  (h : ∀ v', SliceIn w v' ((cs.take h').drop l) → wpList Tryd.prog ops Q rest (a.put o.dst v') w) : wpList Tryd.prog ops Q (o :: rest) a w := by
 obtain ⟨v', hr, hv'⟩ := run_sub hin hs
 have hu' : Tryd.prog.underlying 28 = some (.slice (Tryd.prog.elem 28)) := by rw [elem22]; exact Tryd.underlying28
 refine wpList_value hgd v' w ?_ (h v' hv')
 simp [execOp, ho, hx, run_sliceAt_slice _ _ _ _ _ _ hu', hr]
/-- a slice of bytes behind one that the call has made -/
theorem wpList_append (sv x : Operand) (hgd : Region.wanted o (yielded ops a.tmps) = true) (ho : o.op = .call { callee := .builtin .append, args := #[sv, x], argTypes := #[28, 28] })
  (base : Nat) (v vx : Value) (cs ys : List Nat) (hs : a.eval sv = v) (hown : BOwn w base v cs) (hx : a.eval x = vx) (hin : SliceIn w vx ys)
  (hsz : cs.length + ys.length ≤ 140737488355328) (hbase : base ≤ w.heap.size)
  (h : ∀ v' w', BOwn w' base v' (cs ++ ys) → Below base w w' → wpList Tryd.prog ops Q rest (a.put o.dst v') w') : wpList Tryd.prog ops Q (o :: rest) a w := by
 obtain ⟨i, hi, hz0, hz1, hz2⟩ := info_parts info5
 obtain ⟨p, cap, rfl, hl, hin⟩ := hin
 have hgo : ∀ ad : Addr, (∀ j u, (bcells ys)[j]? = some u → w.cell? (ad.add j) = some u) → p = some ad → wpList Tryd.prog ops Q (o :: rest) a w := by
  rintro ad hnews rfl
  obtain ⟨v', w', hr, ho', hg, _⟩ := run_append_own (P := Tryd.prog) (w := w) base 28 o.type 5 i (.int .u8 0) 1 1 Tryd.underlying28 hi hz0 hz1 hz2 rfl (by decide) v cs.length (bcells cs) hown
   ad ys.length cap (bcells ys) (by simp [bcells_length]) hnews (bcells_one ys) (by unfold maxLen; omega) (by omega) hbase
  refine wpList_value hgd v' w' ?_ (h v' w' ?_ ((Below.refl base w).grown hg hbase fun k hk => (hown.lt k hk).1))
  ·simp only [execOp, ho, resolve, invoke, builtin, Sem.run_bind, Sem.run_pure, Result.andThen_ok, List.map_toArray, List.map_cons, List.map_nil, hs, hx, hr]
  ·unfold BOwn
   rw [bcells_append, List.length_append]
   exact ho'
 rcases hin with rfl | ⟨b, off, rfl, hc, _⟩
 ·cases p with
  | none =>
   have hrun : (Builtin.append_ #[28, 28] o.type #[v, .slice none ([] : List Nat).length cap]).run Tryd.prog w = .ok v w := by
    rcases hown.2 with ⟨rfl, h0⟩ | ⟨g, cap', cur, rfl, _, hg, hcap, hmax, hsz, htake⟩
    ·simp [Builtin.append_, run_underlying Tryd.underlying28, sizeOf, typeInfo, hi, Builtin.lenOf, Builtin.firstCells]
    ·simp [Builtin.append_, run_underlying Tryd.underlying28, sizeOf, typeInfo, hi, Builtin.lenOf, Builtin.firstCells, hcap, storeCells]
   refine wpList_value hgd v w ?_ (h v w ?_ (Below.refl _ _))
   ·simp only [execOp, ho, resolve, invoke, builtin, Sem.run_bind, Sem.run_pure, Result.andThen_ok, List.map_toArray, List.map_cons, List.map_nil, hs, hx, hrun]
   ·rw [List.append_nil]
    exact hown
  | some ad => exact hgo ad (by intro j u hu; simp [bcells] at hu) rfl
 ·refine hgo ⟨b, off, none⟩ (fun j u hu => ?_) rfl
  have hj : j < ys.length := by
   have := (List.getElem?_eq_some_iff.1 hu).1
   rwa [bcells_length] at this
  rw [add_none, hc j hj, ← hu, bcells_at ys j hj]
/-- a literal of no bytes, of one, .. -/
theorem lit_in (w : World) (cs : List Nat) (hb : ∀ c ∈ cs, c < 256) (hl : cs.length ≤ 1000000) : SliceIn (w.alloc (.cells (bcells cs).toArray 5)) (.slice (some ⟨w.heap.size, 0, none⟩) cs.length cs.length) cs := by
 refine ⟨_, _, rfl, ⟨Nat.le_refl _, by omega⟩, Or.inr ⟨w.heap.size, 0, rfl, fun j hj => ?_, Frame.getD_lt hb⟩⟩
 have e : ∀ o : Obj, (w.alloc o).heap[w.heap.size]? = some o := fun o => by
  show (w.heap.push o)[w.heap.size]? = _
  simp
 unfold World.cell?
 rw [e]
 simp [bcells, hj]
theorem run_lit1 (y : Nat) : (Instr.buildSlice 28 1 #[(0, .int .u8 (y : Nat))]).run Tryd.prog w = .ok (.slice (some ⟨w.heap.size, 0, none⟩) [y].length [y].length) (w.alloc (.cells (bcells [y]).toArray 5)) := by kernel_rfl
theorem wpList_lit1 (x : Operand) (hgd : Region.wanted o (yielded ops a.tmps) = true) (ho : o.op = .buildSlice 28 1 #[(0, x)]) (y : Nat) (hy : y < 256) (X : Int) (hx : a.eval x = .int .u8 X) (hX : X = (y : Int))
  (h : ∀ v' w', SliceIn w' v' [y] → Below w.heap.size w w' → wpList Tryd.prog ops Q rest (a.put o.dst v') w') : wpList Tryd.prog ops Q (o :: rest) a w := by
 subst hX
 refine wpList_value hgd _ _ (by simp only [execOp, ho, List.map_toArray, List.map_cons, List.map_nil, hx, run_lit1, Sem.run_bind, Sem.run_pure, Result.andThen_ok]) (h _ (w.alloc (.cells (bcells [y]).toArray 5)) (lit_in w [y] (by simpa using hy) (by simp)) ((Below.refl _ _).alloc (Nat.le_refl _) _))
/-- make([]byte, 0, n) -/
theorem wpList_make0 (l c : Operand) (hgd : o.guard = none) (ho : o.op = .makeSlice 28 l c) (base n : Nat) (C : Int) (hl : a.eval l = .int .i64 0) (hc : a.eval c = .int .i64 C) (hC : C = (n : Int)) (hn : n ≤ 281474976710656) (hb : base ≤ w.heap.size)
  (h : ∀ v' w', BOwn w' base v' [] → Below base w w' → wpList Tryd.prog ops Q rest (a.put o.dst v') w') : wpList Tryd.prog ops Q (o :: rest) a w := by
 obtain ⟨i, hi, hz0, hz1, hz2⟩ := info_parts info5
 refine wpList_make_own w hgd l c 28 ho base 5 i (.int .u8 0) 1 Tryd.underlying28 hi hz0 hz1 .i64 .i64 C n hl hc hC (by rw [hz2]; omega) (by unfold maxLen; omega) hb ?_
 intro w' hown hg
 exact h _ w' hown ((Below.refl base w).grown hg hb fun k hk => by cases hk)
end
end Go.Proofs.YthgidfoidbgnaaaDoor.Fr

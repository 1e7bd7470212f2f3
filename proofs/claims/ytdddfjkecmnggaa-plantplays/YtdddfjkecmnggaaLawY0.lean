/- The law PlantPlays, walked out of its callees' contracts. -/
import Derived.Test.YtdddfjkecmnggaaLawBeg
import Derived.Test.YtdddfjkecmnggaaOpArg
import Derived.Test.YtdddfjkecmnggaaRefNewC
import Derived.Test.YtdddfjkecmnggaaShown
import Derived.Test.YtdddfjkecmnggaaNewBad
import Derived.Deep.CutRange
import Derived.Deep.CutBlock
namespace Go.Proofs.Ytdddfjkecmnggaa
open Go.RowKit Go.Maps

theorem agg39 : AggT 39 7 := ⟨Or.inl ⟨_, Try.underlying39⟩, by kernel_rfl⟩
theorem zero39 : (Try.prog.info? 39).map (·.zero) = some (some (.agg ([.int .i64 0, .int .i64 0, .int .i64 0, .int .i64 0, .int .i64 0, .int .u8 0, .slice none 0 0] : List Value).toArray)) := by kernel_rfl
theorem size39 : (Try.prog.info? 39).map (·.size) = some 7 := by kernel_rfl
theorem sl35 : Try.prog.underlying 35 = some (.slice (Try.prog.elem 35)) := by kernel_rfl
theorem idx35 (b off n cap i : Nat) (h : i < n) (w' : World) : (Instr.indexAt 35 (.slice (some ⟨b, off, none⟩) n cap) (.int .i64 (i : Nat))).run Try.prog w' = .ok (.pointer (some ⟨b, off + i * 7, none⟩)) w' := by
  obtain ⟨i5, hi5, hsz⟩ := Option.map_eq_some_iff.1 size39
  simp [Instr.indexAt, asIntOf, run_underlying Try.underlying35, h, sizeOf, typeInfo, hi5, hsz, add_none]
theorem OpD.ones (o : OpD) (W : World) (h : OpIn W o) : ∀ v ∈ o.cells, v.oneCell' = true := by
  obtain ⟨p, cap, e, _⟩ := h.keep
  intro v hv
  simp only [OpD.cells, opCells, List.mem_cons, List.not_mem_nil, or_false, e] at hv
  rcases hv with rfl | rfl | rfl | rfl | rfl | rfl | rfl <;> rfl
/-- the bytes that are handed in, made anew -/
theorem sec_in {W : World} {b x : Nat} {p n : Int} (h : Row W b 5 (bcells (secOf x p n))) (hx : x < 256) : SliceIn W (.slice (some ⟨b, 0, none⟩) 64 64) (secOf x p n) := by
  have hl : (secOf x p n).length = 64 := by simp [secOf, ones]
  have hb : ∀ c ∈ secOf x p n, c < 256 := fun c hc => by
    unfold secOf ones at hc
    rcases List.mem_or_eq_of_mem_set hc with hc | rfl
    · rcases List.mem_or_eq_of_mem_set hc with hc | rfl
      · rw [List.eq_of_mem_replicate hc]; exact hx
      · exact byte8_lt _
    · exact byte8_lt _
  have := Row.slice h hb (by omega)
  rw [hl] at this
  exact this
section
variable {ops : Array Oper} {a : Act} {S : World → Prop} {o : Oper}
theorem hMove (hgd : o.guard = none) (x : Operand) (ho : o.op = .move x) (v : Value) (hv : a.eval x = v) : YieldsIf Try.prog ops S o v a := yRunH hgd v fun w _ => by simp [execOp, ho, hv]
theorem hAssign (hgd : o.guard = none) (x : Operand) (ho : o.op = .assign x) (v : Value) (hv : a.eval x = v) : YieldsIf Try.prog ops S o v a := yRunH hgd v fun w _ => by simp [execOp, ho, hv]
theorem hField {T i k : Nat} (hf : FieldAt T i k) (hgd : o.guard = none) (x : Operand) (ho : o.op = .fieldAddr T x i) (g off : Nat) (hv : a.eval x = .pointer (some ⟨g, off, none⟩)) : YieldsIf Try.prog ops S o (.pointer (some ⟨g, off + k, none⟩)) a := yRunH hgd _ fun _ _ => run_fieldOp' hf x ho g off hv
theorem hLoad {t : Nat} (ht : OneT t) (hgd : o.guard = none) (x : Operand) (ho : o.op = .load t x) (g off : Nat) (hx : a.eval x = .pointer (some ⟨g, off, none⟩)) (v : Value) (hc : ∀ w, S w → w.cell? ⟨g, off, none⟩ = some v) : YieldsIf Try.prog ops S o v a := yRunH hgd v fun w hw => run_load1 ht x ho g off hx v (hc w hw)
theorem hLoadA {t n : Nat} (ht : AggT t n) (hgd : o.guard = none) (x : Operand) (ho : o.op = .load t x) (g : Nat) (hx : a.eval x = .pointer (some ⟨g, 0, none⟩)) (cs : List Value) (hn : cs.length = n) (hc : ∀ w, S w → Row w g t cs) : YieldsIf Try.prog ops S o (.agg cs.toArray) a := yRunH hgd _ fun w hw => run_loadA ht x ho g 0 hx cs hn fun j v hj => by rw [Nat.zero_add]; exact (hc w hw).at j v hj
theorem hExtract (hgd : o.guard = none) (x : Operand) (i : Nat) (ho : o.op = .extract x i) (u v : Value) (hx : a.eval x = .tuple #[u, v]) (r : Value) (hr : #[u, v][i]? = some r) : YieldsIf Try.prog ops S o r a := yRunH hgd r fun w _ => by simp [execOp, ho, hx, Instr.extract, hr]
end
theorem en10 : EntersF 10 := Go.Proofs.enters_of Try.func10 (by kernel_rfl) rfl
theorem en12 : EntersF 12 := Go.Proofs.enters_of Try.func12 (by kernel_rfl) rfl
theorem en13 : EntersF 13 := Go.Proofs.enters_of Try.func13 (by kernel_rfl) rfl
theorem en14 : EntersF 14 := Go.Proofs.enters_of Try.func14 (by kernel_rfl) rfl
theorem en15 : EntersF 15 := Go.Proofs.enters_of Try.func15 (by kernel_rfl) rfl
theorem wl_slen {w : World} {ops : Array Oper} {rest : List Oper} {o : Oper} {a : Act} {Q : Exit → Act → World → Prop} (x : Operand) (hgd : Region.wanted o (yielded ops a.tmps) = true) (ho : o.op = .call { callee := .builtin .len, args := #[x], argTypes := #[35] }) (p : Option Addr) (n cap : Nat) (hx : a.eval x = .slice p n cap) (h : wpList Try.prog ops Q rest (a.put o.dst (.int .i64 (n : Nat))) w) : wpList Try.prog ops Q (o :: rest) a w := by
  refine wl hgd _ w ?_ h
  simp only [execOp, ho, resolve, invoke, builtin, Sem.run_bind, Sem.run_pure, Result.andThen_ok, List.map_toArray, List.map_cons, List.map_nil, hx, run_len_slice w _ _ _ _ _ sl35]
  rfl
theorem en16' : EntersF 16 := Go.Proofs.enters_of Try.func16 (by kernel_rfl) rfl
theorem en17 : EntersF 17 := Go.Proofs.enters_of Try.func17 (by kernel_rfl) rfl
theorem en19 : EntersF 19 := Go.Proofs.enters_of Try.func19 (by kernel_rfl) rfl
theorem en20 : EntersF 20 := Go.Proofs.enters_of Try.func20 (by kernel_rfl) rfl
theorem i5z : (Try.prog.info? 5).map (fun i => (i.zero, i.size, i.bytes)) = some (some (.int .u8 0), 1, 1) := by kernel_rfl
theorem made_u8 (n : Nat) : (madeCells (Value.int .u8 0).cells (n * 1)).toList = bcells (List.replicate n 0) := by
  apply List.ext_getElem?
  intro i
  by_cases h : i < n
  · simp [madeCells, bcells, h, Value.cells, Nat.mod_one]
  · simp [madeCells, bcells, h]
theorem run_make40 {w : World} {a : Act} {o : Oper} (x y : Operand) (ho : o.op = .makeSlice 40 x y) (n : Nat) (hn : n ≤ 70) (hx : a.eval x = .int .i64 (n : Nat)) (hy : a.eval y = .int .i64 (n : Nat)) :
    ∃ w', (execOp a.eval o).run Try.prog w = .ok (.value (.slice (some ⟨w.heap.size, 0, none⟩) n n)) w' ∧ SliceIn w' (.slice (some ⟨w.heap.size, 0, none⟩) n n) (List.replicate n 0) ∧ Below w.heap.size w w' := by
  obtain ⟨i0, hi0, hz0, hz1, hz2⟩ := info_parts i5z
  have hmk := run_make (P := Try.prog) w 40 5 i0 _ Try.underlying40 hi0 hz0 .i64 .i64 (n : Int) (n : Int) (by omega) (Int.le_refl _) (by rw [hz2]; omega) (by omega)
  simp only [Int.toNat_natCast, hz1] at hmk
  have hr := Row.new' w 5 (madeCells (Value.int .u8 0).cells (n * 1))
  rw [made_u8] at hr
  have hs := Row.slice hr (fun c hc => by rw [List.eq_of_mem_replicate hc]; decide) (by simp; omega)
  rw [List.length_replicate] at hs
  exact ⟨_, by simp only [execOp, ho, hx, hy, hmk, Sem.run_bind, Sem.run_pure, Result.andThen_ok], hs, (Below.refl _ _).alloc (Nat.le_refl _) _⟩
theorem opMake40 {ops : Array Oper} {Q : Exit → Act → World → Prop} {a : Act} {w : World} {i : Nat} (d : Option Tmp) {o : Oper} {K : Act → World → Prop} (hi : ops[i]? = some o) (hd : o.dst = d) (hgd : o.guard = none) (x y : Operand) (ho : o.op = .makeSlice 40 x y) (n : Nat) (hn : n ≤ 70) (hx : a.eval x = .int .i64 (n : Nat)) (hy : a.eval y = .int .i64 (n : Nat))
    (h : ∀ Y, SliceIn Y (.slice (some ⟨w.heap.size, 0, none⟩) n n) (List.replicate n 0) → Below w.heap.size w Y → K (a.put d (.slice (some ⟨w.heap.size, 0, none⟩) n n)) Y) : wpOp Try.prog ops Q i K a w := by
  obtain ⟨Y, h1, h2, h3⟩ := run_make40 (w := w) x y ho n hn hx hy
  exact opValue d hi hd hgd _ _ h1 (h Y h2 h3)
theorem f39_0 : FieldAt 39 0 0 := fun w g off => by kernel_rfl
theorem f39_1 : FieldAt 39 1 1 := fun w g off => by kernel_rfl
theorem f39_3 : FieldAt 39 3 3 := fun w g off => by kernel_rfl
theorem f39_6 : FieldAt 39 6 6 := fun w g off => by kernel_rfl
theorem o22 : OneT 22 := fun w g o v h => by simp [loadVar, isAgg, run_underlying Try.underlying22, h]
end Go.Proofs.Ytdddfjkecmnggaa

/- What a reader takes: it gives up by a panic. -/
import Derived.Test.YtncjmolhofnpbaaR1
import Derived.Test.YtncjmolhofnpbaaB
namespace Go.Proofs.Ytncjmolhofnpbaa
open Go.RowKit

theorem o28 : OneT 28 := fun w g o v h => by simp [loadVar, isAgg, run_underlying Try.underlying28, h]
theorem o9 : OneT 9 := fun w g o v h => by simp [loadVar, isAgg, run_underlying Try.underlying9, h]
theorem o4 : OneT 4 := fun w g o v h => by simp [loadVar, isAgg, run_underlying Try.underlying4, h]
theorem o24 : OneT 24 := fun w g o v h => by simp [loadVar, isAgg, run_underlying Try.underlying24, h]
theorem f62_0 : FieldAt 62 0 0 := fun w g off => by kernel_rfl
theorem f26_0 : FieldAt 26 0 0 := fun w g off => by kernel_rfl
theorem f26_1 : FieldAt 26 1 1 := fun w g off => by kernel_rfl
theorem f26_2 : FieldAt 26 2 2 := fun w g off => by kernel_rfl
theorem f26_3 : FieldAt 26 3 34 := fun w g off => by kernel_rfl
theorem f26_4 : FieldAt 26 4 35 := fun w g off => by kernel_rfl
theorem f26_5 : FieldAt 26 5 36 := fun w g off => by kernel_rfl
theorem f26_6 : FieldAt 26 6 37 := fun w g off => by kernel_rfl
theorem f26_7 : FieldAt 26 7 38 := fun w g off => by kernel_rfl
theorem f43_0 : FieldAt 43 0 0 := fun w g off => by kernel_rfl
theorem f43_1 : FieldAt 43 1 1 := fun w g off => by kernel_rfl
theorem f43_2 : FieldAt 43 2 2 := fun w g off => by kernel_rfl
theorem f43_3 : FieldAt 43 3 3 := fun w g off => by kernel_rfl
theorem ag26 : AggT 26 39 := ⟨Or.inl ⟨_, Try.underlying26⟩, by kernel_rfl⟩
theorem ag43 : AggT 43 4 := ⟨Or.inl ⟨_, Try.underlying43⟩, by kernel_rfl⟩
theorem ag23 : AggT 23 32 := ⟨Or.inr ⟨_, _, Try.underlying23⟩, by kernel_rfl⟩
theorem ag62 : AggT 62 1 := ⟨Or.inl ⟨_, Try.underlying62⟩, by kernel_rfl⟩
theorem eN (f : Nat) {fn : Func} (hf : Try.prog.funcs[f]? = some fn) (hn : (fn.name == "runtime.NumGoroutine") = false) (hb : fn.body.isNone = false) : EntersF f := Fr.enters hf hn hb
theorem eN8 : EntersF 8 := eN 8 Try.func8 (by kernel_rfl) (by kernel_rfl)
theorem eN9 : EntersF 9 := eN 9 Try.func9 (by kernel_rfl) (by kernel_rfl)
theorem eN10 : EntersF 10 := eN 10 Try.func10 (by kernel_rfl) (by kernel_rfl)
theorem eN11 : EntersF 11 := eN 11 Try.func11 (by kernel_rfl) (by kernel_rfl)
theorem eN12 : EntersF 12 := eN 12 Try.func12 (by kernel_rfl) (by kernel_rfl)
theorem eN13 : EntersF 13 := eN 13 Try.func13 (by kernel_rfl) (by kernel_rfl)
theorem eN14 : EntersF 14 := eN 14 Try.func14 (by kernel_rfl) (by kernel_rfl)
theorem eN15 : EntersF 15 := eN 15 Try.func15 (by kernel_rfl) (by kernel_rfl)
theorem eN16 : EntersF 16 := eN 16 Try.func16 (by kernel_rfl) (by kernel_rfl)
theorem eN17 : EntersF 17 := eN 17 Try.func17 (by kernel_rfl) (by kernel_rfl)
theorem eN18 : EntersF 18 := eN 18 Try.func18 (by kernel_rfl) (by kernel_rfl)
theorem eN19 : EntersF 19 := eN 19 Try.func19 (by kernel_rfl) (by kernel_rfl)
theorem eN20 : EntersF 20 := eN 20 Try.func20 (by kernel_rfl) (by kernel_rfl)
theorem eN21 : EntersF 21 := eN 21 Try.func21 (by kernel_rfl) (by kernel_rfl)
theorem eN22 : EntersF 22 := eN 22 Try.func22 (by kernel_rfl) (by kernel_rfl)
theorem eN23 : EntersF 23 := eN 23 Try.func23 (by kernel_rfl) (by kernel_rfl)
theorem eN24 : EntersF 24 := eN 24 Try.func24 (by kernel_rfl) (by kernel_rfl)
theorem eN25 : EntersF 25 := eN 25 Try.func25 (by kernel_rfl) (by kernel_rfl)
theorem eN26 : EntersF 26 := eN 26 Try.func26 (by kernel_rfl) (by kernel_rfl)
theorem eN27 : EntersF 27 := eN 27 Try.func27 (by kernel_rfl) (by kernel_rfl)
theorem eN28 : EntersF 28 := eN 28 Try.func28 (by kernel_rfl) (by kernel_rfl)
theorem eN29 : EntersF 29 := eN 29 Try.func29 (by kernel_rfl) (by kernel_rfl)
theorem eN30 : EntersF 30 := eN 30 Try.func30 (by kernel_rfl) (by kernel_rfl)
theorem eN31 : EntersF 31 := eN 31 Try.func31 (by kernel_rfl) (by kernel_rfl)
theorem eN32 : EntersF 32 := eN 32 Try.func32 (by kernel_rfl) (by kernel_rfl)
theorem eN33 : EntersF 33 := eN 33 Try.func33 (by kernel_rfl) (by kernel_rfl)
theorem eN34 : EntersF 34 := eN 34 Try.func34 (by kernel_rfl) (by kernel_rfl)
theorem eN35 : EntersF 35 := eN 35 Try.func35 (by kernel_rfl) (by kernel_rfl)
theorem eN36 : EntersF 36 := eN 36 Try.func36 (by kernel_rfl) (by kernel_rfl)
theorem eN37 : EntersF 37 := eN 37 Try.func37 (by kernel_rfl) (by kernel_rfl)
theorem eN38 : EntersF 38 := eN 38 Try.func38 (by kernel_rfl) (by kernel_rfl)
theorem eN39 : EntersF 39 := eN 39 Try.func39 (by kernel_rfl) (by kernel_rfl)
theorem eN40 : EntersF 40 := eN 40 Try.func40 (by kernel_rfl) (by kernel_rfl)
theorem eN41 : EntersF 41 := eN 41 Try.func41 (by kernel_rfl) (by kernel_rfl)
theorem eN42 : EntersF 42 := eN 42 Try.func42 (by kernel_rfl) (by kernel_rfl)
theorem eN43 : EntersF 43 := eN 43 Try.func43 (by kernel_rfl) (by kernel_rfl)
theorem eN44 : EntersF 44 := eN 44 Try.func44 (by kernel_rfl) (by kernel_rfl)
theorem eN45 : EntersF 45 := eN 45 Try.func45 (by kernel_rfl) (by kernel_rfl)
section
variable {w w0 : World} {a : Act} {o : Oper}
theorem run_lenB {v : Value} {cs : List Nat} (hin : SliceIn w0 v cs) (x : Operand) (ho : o.op = .call { callee := .builtin .len, args := #[x], argTypes := #[28] }) (hx : a.eval x = v) : (execOp a.eval o).run Try.prog w = .ok (.value (.int .i64 (cs.length : Nat))) w := by
  have hr := Fr.run_len hin o.type w
  simp only [execOp, ho, resolve, invoke, builtin, Sem.run_bind, Sem.run_pure, Result.andThen_ok, List.map_toArray, List.map_cons, List.map_nil, hx, hr]
  rfl
theorem run_leqZ (x y : Operand) (ho : o.op = .binOp .leq 3 x y 3) (z z' : Int) (hx : a.eval x = .int .i64 z) (hy : a.eval y = .int .i64 z') (b : Bool) (hb : decide (z ≤ z') = b) : (execOp a.eval o).run Try.prog w = .ok (.value (.bool b)) w := by
  subst hb
  simp only [execOp, ho, hx, hy]
  simp [go_sem]
theorem run_gtrZ (x y : Operand) (ho : o.op = .binOp .gtr 3 x y 3) (z z' : Int) (hx : a.eval x = .int .i64 z) (hy : a.eval y = .int .i64 z') (b : Bool) (hb : decide (z' < z) = b) : (execOp a.eval o).run Try.prog w = .ok (.value (.bool b)) w := by
  subst hb
  simp only [execOp, ho, hx, hy]
  simp [go_sem]
end
theorem run_bsubO {w : World} {v : Value} {cs : List Nat} (hin : SliceIn w v cs) {lo hi mx : Option Value} {l h : Nat} (hs : SubOf lo hi mx cs.length l h) :
    ∃ v', (∀ w', (Instr.slice 28 v lo hi mx).run Try.prog w' = .ok v' w') ∧ SliceIn w v' ((cs.take h).drop l) ∧ (v'.ownBlock = none ∨ v'.ownBlock = v.ownBlock) := by
  obtain ⟨p, cap, rfl, hl, hin⟩ := hin
  obtain ⟨hlo, hhi, h1, h2⟩ := hs
  obtain ⟨i, hi5, hsz⟩ := Option.map_eq_some_iff.1 info5
  have hsize : ∀ w' : World, (sizeOf 5).run Try.prog w' = .ok 1 w' := fun w' => by simp [sizeOf, typeInfo, hi5, hsz]
  have key : ∀ m : Nat, h ≤ m → ((∀ w', (Instr.slice 28 (.slice p cs.length cap) lo hi mx).run Try.prog w' = .ok (sliced p l h m 1) w') → ∃ v', (∀ w', (Instr.slice 28 (.slice p cs.length cap) lo hi mx).run Try.prog w' = .ok v' w') ∧ SliceIn w v' ((cs.take h).drop l) ∧ (v'.ownBlock = none ∨ v'.ownBlock = (Value.slice p cs.length cap).ownBlock)) :=
    fun m hm hr => ⟨_, hr, sub_in hl hin l h m h1 h2 hm, by
      unfold sliced
      cases p with
      | none => left; split <;> rfl
      | some ad =>
        right
        split
        · rfl
        · show (Value.slice (some (ad.add (l * 1))) _ _).ownBlock = _
          cases ad with
          | mk b o q => cases q <;> simp [Addr.add, Value.ownBlock] <;> split <;> rfl⟩
  have hu' := sl28
  rcases hlo with ⟨rfl, rfl⟩ | ⟨L, rfl, rfl⟩
  · rcases hhi with ⟨rfl, rfl, rfl⟩ | ⟨H, rfl, rfl, rfl | rfl⟩
    · exact key cap hl.1 fun w' => by rw [run_slice_all _ _ _ _ _ hu', elem51, hsize]; rfl
    · exact key cap (by omega) fun w' => by rw [run_slice_h _ _ _ _ _ hu' _ _ (by omega) (by omega), elem51, hsize]; rfl
    · exact key h (Nat.le_refl _) fun w' => by rw [run_slice_hm _ _ _ _ _ hu' _ _ _ _ (by omega) (by omega) (by omega), elem51, hsize]; rfl
  · rcases hhi with ⟨rfl, rfl, rfl⟩ | ⟨H, rfl, rfl, rfl | rfl⟩
    · exact key cap hl.1 fun w' => by rw [run_slice_l _ _ _ _ _ hu' _ _ (by omega) (by omega), elem51, hsize]; rfl
    · exact key cap (by omega) fun w' => by rw [run_slice_lh _ _ _ _ _ hu' _ _ _ _ (by omega) (by omega) (by omega), elem51, hsize]; rfl
    · exact key h (Nat.le_refl _) fun w' => by rw [run_slice_lhm _ _ _ _ _ hu' _ _ _ _ _ _ (by omega) (by omega) (by omega) (by omega), elem51, hsize]; rfl
theorem run_subZ {w : World} {a : Act} {o : Oper} (x : Operand) (lo hi mx : Option Operand) (ho : o.op = .slice 28 x lo hi mx) (v v' : Value) (hv : ∃ p n c, v = .slice p n c) (hx : a.eval x = v) (l h m : Option Value) (hl : lo.map a.eval = l) (hh : hi.map a.eval = h) (hm : mx.map a.eval = m) (hr : ∀ w', (Instr.slice 28 v l h m).run Try.prog w' = .ok v' w') : (execOp a.eval o).run Try.prog w = .ok (.value v') w := by
  subst hl hh hm
  obtain ⟨p, n, c, rfl⟩ := hv
  simp [execOp, ho, hx, run_sliceAt_slice _ _ _ _ _ _ sl28, hr]
theorem SliceIn.isSlice {w : World} {v : Value} {cs : List Nat} (h : SliceIn w v cs) : ∃ p n c, v = .slice p n c := by
  obtain ⟨p, c, rfl, _⟩ := h
  exact ⟨_, _, _, rfl⟩
/-- a call that hands back, or panics -/
theorem wpList_callP {w : World} {ops : Array Oper} {rest : List Oper} {o : Oper} {a : Act} {Q : Exit → Act → World → Prop} {f : Nat} (ef : EntersF f) (xs : List Operand) (ts : Array TypeId) (hgd : Region.wanted o (yielded ops a.tmps) = true) (ho : o.op = .call { callee := .value (.func f), args := xs.toArray, argTypes := ts }) (vs : List Value) (hv : xs.map a.eval = vs)
    (h : Calls Try.prog f vs.toArray w fun e w' => (∃ v, e = .returned v ∧ wpList Try.prog ops Q rest (a.put o.dst v) w') ∨ (∃ ch, e = .panicked ch ∧ Q (.panic ch) a w')) : wpList Try.prog ops Q (o :: rest) a w :=
  BigFrame.wpList_want hgd fun K hK => by
    unfold Oper.wp
    rw [run_call ef xs ts ho vs hv]
    refine h.mono fun e w' he => ?_
    rcases he with ⟨v, rfl, hw⟩ | ⟨ch, rfl, hq⟩
    · exact hK _ _ hw
    · exact hq

/-- it has given up -/
def GU : List PanicEntry := [{ v := .iface 71 (.agg #[]), recovered := false }]
theorem must_yes (w : World) : Calls Try.prog 42 #[.bool true] w fun e w' => e = .returned (.tuple #[]) ∧ w = w' := by
  go_enter Try.func42, Try.ntmps42
  go_wp2
  go_end0
  exact ⟨rfl, rfl⟩
theorem must_no (w : World) : Calls Try.prog 42 #[.bool false] w fun e w' => e = .panicked GU ∧ w = w' := by
  go_enter Try.func42, Try.ntmps42
  go_wp2
  exact ⟨rfl, rfl, rfl⟩
theorem must_any (b : Bool) (w : World) : Calls Try.prog 42 #[.bool b] w fun e w' => (b = false ∧ e = .panicked GU ∧ w = w') ∨ (b = true ∧ e = .returned (.tuple #[]) ∧ w = w') := by
  cases b with
  | true => exact (must_yes w).mono fun e w' h => Or.inr ⟨rfl, h⟩
  | false => exact (must_no w).mono fun e w' h => Or.inl ⟨rfl, h⟩

/-- bytes that lie ahead of block g -/
def Off (w : World) (g : Nat) (v : Value) (l : List Nat) : Prop := SliceIn w v l ∧ (l ≠ [] → ∀ b, v.ownBlock = some b → b < g)
theorem Off.later {w w' : World} {g : Nat} {v : Value} {l : List Nat} (h : Off w g v l) (hb : Below g w w') : Off w' g v l := by
  refine ⟨?_, h.2⟩
  obtain ⟨⟨p, cap, rfl, hl, h1⟩, h2⟩ := h
  refine ⟨p, cap, rfl, hl, ?_⟩
  by_cases hn : l = []
  · exact Or.inl hn
  · rcases h1 with h1 | ⟨b, off, rfl, h3, h4⟩
    · exact Or.inl h1
    · refine Or.inr ⟨b, off, rfl, fun j hj => ?_, h4⟩
      rw [← h3 j hj]
      exact World.cell?_of_block (w := w) (hb.block b (h2 hn b rfl))
theorem Ch.under {w w' : World} {g : Nat} (h : Ch (· = g) w w') (hg : g ≤ w.heap.size) : Below g w w' := h.below hg fun i hi e => by omega
theorem Off.ch {w w' : World} {g : Nat} {v : Value} {l : List Nat} (h : Off w g v l) (hc : Ch (· = g) w w') (hg : g ≤ w.heap.size) : Off w' g v l := h.later (hc.under hg)
/-- a reader that has these bytes left -/
def RdAt (w : World) (g : Nat) (l : List Nat) : Prop := ∃ v, Row w g 62 [v] ∧ Off w g v l
/-- what a reading tells: a value and what is left, or it gives up -/
def Tells (w : World) (g : Nat) (o : Option (Value × List Nat)) (e : Ending) (w' : World) : Prop :=
  Ch (· = g) w w' ∧ ((o = none ∧ e = .panicked GU) ∨ (∃ v l', o = some (v, l') ∧ e = .returned v ∧ RdAt w' g l'))
theorem RdAt.lt {w : World} {g : Nat} {l : List Nat} (h : RdAt w g l) : g < w.heap.size := by
  obtain ⟨v, h, _⟩ := h
  exact h.lt
/-- whatever is new may turn -/
theorem RdAt.later {w w' : World} {g : Nat} {l : List Nat} (h : RdAt w g l) (hb : Below (g + 1) w w') : RdAt w' g l := by
  obtain ⟨v, h1, h2⟩ := h
  exact ⟨v, h1.later hb (by omega), h2.later (hb.mono (by omega))⟩
theorem run_build43 {w : World} {a : Act} {o : Oper} (x y z u : Operand) (ho : o.op = .build 43 #[(0, x), (1, y), (2, z), (3, u)]) (i j k : Int) (b : Bool) (hx : a.eval x = .int .i64 i) (hy : a.eval y = .int .i64 j) (hz : a.eval z = .int .i64 k) (hu : a.eval u = .bool b) :
    (execOp a.eval o).run Try.prog w = .ok (.value (.agg #[.int .i64 i, .int .i64 j, .int .i64 k, .bool b])) w := by
  have hr : (Instr.build 43 #[(0, .int .i64 i), (1, .int .i64 j), (2, .int .i64 k), (3, .bool b)]).run Try.prog w = .ok (.agg #[.int .i64 i, .int .i64 j, .int .i64 k, .bool b]) w := by kernel_rfl
  simp only [execOp, ho, List.map_toArray, List.map_cons, List.map_nil, hx, hy, hz, hu, hr, Sem.run_bind, Sem.run_pure, Result.andThen_ok]
theorem run_stV {w w' : World} {a : Act} {o : Oper} {t : TypeId} (x y : Operand) (ho : o.op = .store t x y) (g off : Nat) (hx : a.eval x = .pointer (some ⟨g, off, none⟩)) (v : Value) (hy : a.eval y = v) (hst : (storeVar t ⟨g, off, none⟩ v).run Try.prog w = .ok () w') : (execOp a.eval o).run Try.prog w = .ok .skip w' := by
  simp [execOp, ho, hx, hy, Instr.storeAt, Instr.sureAddr, hst]
end Go.Proofs.Ytncjmolhofnpbaa

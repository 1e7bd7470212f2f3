/- Rows of one's own: numbers, texts, records. -/
import Derived.Test.YtobolkllplmmcabT7
import Derived.Great.BuildSlice
import Derived.Great.FillDense
namespace Go.Proofs.Ytobolkllplmmcab
open Go.RowKit

theorem und49 : Try.prog.underlying 27 = some (.slice 3) := Try.underlying27
theorem und38 : Try.prog.underlying 38 = some (.slice 9) := Try.underlying38
theorem sl49 : Try.prog.underlying 27 = some (.slice (Try.prog.elem 27)) := by kernel_rfl
theorem sl38 : Try.prog.underlying 38 = some (.slice (Try.prog.elem 38)) := by kernel_rfl
theorem el37 : Try.prog.elem 40 = 26 := by kernel_rfl
theorem info3 : (Try.prog.info? 3).map (fun i => (i.zero, i.size, i.bytes)) = some (some (.int .i64 0), 1, 8) := by kernel_rfl
theorem info9 : (Try.prog.info? 9).map (fun i => (i.zero, i.size, i.bytes)) = some (some (.string ⟨#[]⟩), 1, 16) := by kernel_rfl
theorem info26 : (Try.prog.info? 26).map (fun i => (i.zero, i.size, i.bytes)) = some (some (.agg (rcells rz (.slice none 0 0)).toArray), 39, 104) := by kernel_rfl
theorem s9 : (Try.prog.info? 9).map (·.size) = some 1 := by kernel_rfl
theorem o49 : OneT 27 := fun w g o v h => by simp [loadVar, isAgg, run_underlying Try.underlying27, h]
theorem o38 : OneT 38 := fun w g o v h => by simp [loadVar, isAgg, run_underlying Try.underlying38, h]
/-- a row of one's own and another row's block -/
theorem own_ne {w : World} {base e sz n : Nat} {v : Value} {xs : List Value} (h : w.ownsRow base e sz v n xs) {q T : Nat} {cs : List Value} (hr : Row w q T cs) (hT : T ≠ e) : v.ownBlock ≠ some q := by
  intro hq
  rcases h.2 with ⟨rfl, _⟩ | ⟨g, cap, cur, rfl, _, hg, _⟩
  · cases hq
  · have : g = q := Option.some.inj hq
    subst this
    unfold Row at hr
    rw [hg] at hr
    simp at hr
    exact hT hr.2.symm
theorem run_lenO {w0 w : World} {a : Act} {o : Oper} {base e sz n : Nat} {v : Value} {xs : List Value} (h : w0.ownsRow base e sz v n xs) {t : TypeId} (hu : Try.prog.underlying t = some (.slice (Try.prog.elem t))) (x : Operand) (ho : o.op = .call { callee := .builtin .len, args := #[x], argTypes := #[t] }) (hx : a.eval x = v) : (execOp a.eval o).run Try.prog w = .ok (.value (.int .i64 (n : Nat))) w := by
  have hr := own_len (w := w) h hu o.type
  simp only [execOp, ho, resolve, invoke, builtin, Sem.run_bind, Sem.run_pure, Result.andThen_ok, List.map_toArray, List.map_cons, List.map_nil, hx, hr]
  rfl
/-- one more behind a row of one's own -/
theorem own_push (e T sz by_ : Nat) (z : Value) (hund : Try.prog.underlying T = some (.slice e)) (hinfo : (Try.prog.info? e).map (fun i => (i.zero, i.size, i.bytes)) = some (some z, sz, by_)) (hzs : z.cells.size = sz) (hsz : 0 < sz) (hby : 0 < by_)
    {w : World} {base n : Nat} {v : Value} {xs : List Value} (h : w.ownsRow base e sz v n xs) (ty b : Nat) (cs : List Value) (hb : Row w b e cs) (hcs : cs.length = sz) (h1 : ∀ u ∈ cs, u.oneCell' = true) (hmax : (n + 1) * by_ ≤ 140737488355328) (hbase : base ≤ w.heap.size) :
    ∃ v' w', (Builtin.append_ #[T, T] ty #[v, .slice (some ⟨b, 0, none⟩) 1 1]).run Try.prog w = .ok v' w' ∧ w'.ownsRow base e sz v' (n + 1) (xs ++ cs) ∧ w.grownBy w' v.ownBlock := by
  obtain ⟨i, hi, hz0, hz1, hz2⟩ := info_parts hinfo
  have hn : n + 1 ≤ 140737488355328 := Nat.le_trans (Nat.le_mul_of_pos_right _ hby) hmax
  obtain ⟨v', w', hr, ho', hg, _⟩ := run_append_own (P := Try.prog) (w := w) base T ty e i z sz by_ hund hi hz0 hz1 hz2 hzs hsz v n xs h
    ⟨b, 0, none⟩ 1 1 cs (by omega) (fun j u hu => by rw [add_none, Nat.zero_add]; exact hb.at j u hu) h1 (by unfold maxLen; omega) hmax hbase
  exact ⟨v', w', hr, ho', hg⟩
/-- a part of a row behind a row of one's own -/
theorem own_part (e T sz by_ : Nat) (z : Value) (hund : Try.prog.underlying T = some (.slice e)) (hinfo : (Try.prog.info? e).map (fun i => (i.zero, i.size, i.bytes)) = some (some z, sz, by_)) (hzs : z.cells.size = sz) (hsz : 0 < sz) (hby : 0 < by_)
    {w : World} {base n : Nat} {v : Value} {xs : List Value} (h : w.ownsRow base e sz v n xs) (ty : Nat) (ad : Addr) (m c : Nat) (cs : List Value) (hb : ∀ j u, cs[j]? = some u → w.cell? (ad.add j) = some u) (hcs : cs.length = m * sz) (h1 : ∀ u ∈ cs, u.oneCell' = true) (hmax : (n + m) * by_ ≤ 140737488355328) (hbase : base ≤ w.heap.size) :
    ∃ v' w', (Builtin.append_ #[T, T] ty #[v, .slice (some ad) m c]).run Try.prog w = .ok v' w' ∧ w'.ownsRow base e sz v' (n + m) (xs ++ cs) ∧ w.grownBy w' v.ownBlock := by
  obtain ⟨i, hi, hz0, hz1, hz2⟩ := info_parts hinfo
  have hn : n + m ≤ 140737488355328 := Nat.le_trans (Nat.le_mul_of_pos_right _ hby) hmax
  obtain ⟨v', w', hr, ho', hg, _⟩ := run_append_own (P := Try.prog) (w := w) base T ty e i z sz by_ hund hi hz0 hz1 hz2 hzs hsz v n xs h ad m c cs hcs hb h1 (by unfold maxLen; omega) hmax hbase
  exact ⟨v', w', hr, ho', hg⟩

/-- numbers, texts, records of one's own -/
def IOwn (w : World) (base : Nat) (v : Value) (is : List Nat) : Prop := w.ownsRow base 3 1 v is.length (is.map fun i => .int .i64 (i : Nat))
def SOwn (w : World) (base : Nat) (v : Value) (ss : List ByteArray) : Prop := w.ownsRow base 9 1 v ss.length (ss.map .string)
def ROwn (w : World) (base : Nat) (v : Value) (l : List Rv) : Prop := w.ownsRow base 26 39 v l.length (rvs l) ∧ AllOk l
theorem IOwn.nil (w : World) (base : Nat) : IOwn w base (.slice none 0 0) [] := World.ownsRow_nil w base 3 1
theorem SOwn.nil (w : World) (base : Nat) : SOwn w base (.slice none 0 0) [] := World.ownsRow_nil w base 9 1
theorem IOwn.push {w : World} {base : Nat} {v : Value} {is : List Nat} (h : IOwn w base v is) (ty b k : Nat) (hb : Row w b 3 [.int .i64 (k : Nat)]) (hmax : (is.length + 1) * 8 ≤ 140737488355328) (hbase : base ≤ w.heap.size) :
    ∃ v' w', (Builtin.append_ #[27, 27] ty #[v, .slice (some ⟨b, 0, none⟩) 1 1]).run Try.prog w = .ok v' w' ∧ IOwn w' base v' (is ++ [k]) ∧ w.grownBy w' v.ownBlock := by
  obtain ⟨v', w', hr, ho, hg⟩ := own_push 3 27 1 8 _ und49 info3 rfl (by decide) (by decide) h ty b _ hb rfl (by intro u hu; simp at hu; subst hu; rfl) hmax hbase
  refine ⟨v', w', hr, ?_, hg⟩
  unfold IOwn
  rw [List.length_append, List.map_append]
  exact ho
theorem SOwn.push {w : World} {base : Nat} {v : Value} {ss : List ByteArray} (h : SOwn w base v ss) (ty b : Nat) (s : ByteArray) (hb : Row w b 9 [.string s]) (hmax : (ss.length + 1) * 16 ≤ 140737488355328) (hbase : base ≤ w.heap.size) :
    ∃ v' w', (Builtin.append_ #[38, 38] ty #[v, .slice (some ⟨b, 0, none⟩) 1 1]).run Try.prog w = .ok v' w' ∧ SOwn w' base v' (ss ++ [s]) ∧ w.grownBy w' v.ownBlock := by
  obtain ⟨v', w', hr, ho, hg⟩ := own_push 9 38 1 16 _ und38 info9 rfl (by decide) (by decide) h ty b _ hb rfl (by intro u hu; simp at hu; subst hu; rfl) hmax hbase
  refine ⟨v', w', hr, ?_, hg⟩
  unfold SOwn
  rw [List.length_append, List.map_append]
  exact ho
theorem ROwn.push {w : World} {base : Nat} {v : Value} {l : List Rv} (h : ROwn w base v l) (ty b : Nat) (x : Rv) (hx : Rok x.r x.v) (hb : Row w b 26 (rcells x.r x.v)) (hmax : (l.length + 1) * 104 ≤ 140737488355328) (hbase : base ≤ w.heap.size) :
    ∃ v' w', (Builtin.append_ #[40, 40] ty #[v, .slice (some ⟨b, 0, none⟩) 1 1]).run Try.prog w = .ok v' w' ∧ ROwn w' base v' (l ++ [x]) ∧ w.grownBy w' v.ownBlock := by
  obtain ⟨v', w', hr, ho, hg⟩ := own_push 26 40 39 104 _ und37 info26 rfl (by decide) (by decide) h.1 ty b _ hb hx.len hx.one hmax hbase
  refine ⟨v', w', hr, ⟨?_, fun y hy => ?_⟩, hg⟩
  · rw [List.length_append, rvs_append, show rvs [x] = rcells x.r x.v from List.append_nil _]
    exact ho
  · rcases List.mem_append.1 hy with hy | hy
    · exact h.2 y hy
    · simp at hy
      subst hy
      exact hx
theorem IOwn.ix {w : World} {base : Nat} {v : Value} {is : List Nat} (h : IOwn w base v is) (k : Nat) (hk : k < is.length) : ∃ b, (∀ w', (Instr.indexAt 27 v (.int .i64 (k : Nat))).run Try.prog w' = .ok (.pointer (some ⟨b, k, none⟩)) w') ∧ w.cell? ⟨b, k, none⟩ = some (.int .i64 (is[k] : Nat)) := by
  obtain ⟨b, _, hr, hc⟩ := own_index h und49 (by kernel_rfl) k hk
  refine ⟨b, ?_, ?_⟩
  · simpa using hr
  · have := hc 0 (by decide)
    simpa [hk] using this
theorem SOwn.ix {w : World} {base : Nat} {v : Value} {ss : List ByteArray} (h : SOwn w base v ss) (k : Nat) (hk : k < ss.length) : ∃ b, (∀ w', (Instr.indexAt 38 v (.int .i64 (k : Nat))).run Try.prog w' = .ok (.pointer (some ⟨b, k, none⟩)) w') ∧ w.cell? ⟨b, k, none⟩ = some (.string ss[k]) := by
  obtain ⟨b, _, hr, hc⟩ := own_index h und38 (by kernel_rfl) k hk
  refine ⟨b, ?_, ?_⟩
  · simpa using hr
  · have := hc 0 (by decide)
    simpa [hk] using this
/-- records of one's own are records -/
theorem ROwn.isIn {w : World} {base : Nat} {v : Value} {l : List Rv} (h : ROwn w base v l) (hl : l.length ≤ 9223372036854775807) : RsIn w v l := by
  rcases h.1.2 with ⟨rfl, h0⟩ | ⟨g, cap, cur, rfl, _, hg, hn, hm, hs, ht⟩
  · have : l = [] := List.eq_nil_of_length_eq_zero h0
    subst this
    exact ⟨none, 0, rfl, ⟨Nat.le_refl _, by decide⟩, h.2, Or.inl rfl⟩
  · refine ⟨_, cap, rfl, ⟨hn, hl⟩, h.2, Or.inr ⟨g, 0, rfl, fun j hj => ?_⟩⟩
    rw [← ht, List.getElem?_take, if_pos hj, Nat.zero_add]
    simp [World.cell?, hg]
theorem flat_rvs (l : List Rv) : ((l.map fun x => Value.agg (rcells x.r x.v).toArray).flatMap fun v => v.cells.toList) = rvs l := by
  induction l with
  | nil => rfl
  | cons x l ih =>
    rw [List.map_cons, List.flatMap_cons, ih]
    rfl
theorem run_litRs {w : World} (l : List Rv) (hk : AllOk l) (hn : 0 < l.length) (hm : l.length ≤ 1000) : (Instr.buildSlice 40 l.length (((l.map fun x => Value.agg (rcells x.r x.v).toArray).zipIdx 0).map fun x => (x.2, x.1)).toArray).run Try.prog w = .ok (.slice (some ⟨w.heap.size, 0, none⟩) l.length l.length) (w.alloc (.cells (rvs l).toArray 26)) := by
  obtain ⟨i, hi, hz0, hz1, hz2⟩ := info_parts info26
  refine run_buildSlice w 40 26 l.length _ _ i _ und37 hi hz0 (by rw [hz1]; omega) (by rw [hz1]; omega) ?_
  rw [hz1]
  have h1 : ∀ v ∈ (l.map fun x => Value.agg (rcells x.r x.v).toArray), v.cells.size = 39 := by
    intro v hv
    obtain ⟨x, hx, rfl⟩ := List.mem_map.1 hv
    simpa [Value.cells] using (hk x hx).len
  show Instr.fill _ _ (((l.map fun x => Value.agg (rcells x.r x.v).toArray).zipIdx 0).map fun x => (x.2, x.1)) = _
  rw [Great.fill_whole (by decide) (l.map fun x => Value.agg (rcells x.r x.v).toArray) _ h1 (by simp)]
  rw [flat_rvs]
theorem ROwn.lit {w : World} (base : Nat) (l : List Rv) (hk : AllOk l) (hb : base ≤ w.heap.size) (hm : l.length ≤ 1000) : ROwn (w.alloc (.cells (rvs l).toArray 26)) base (.slice (some ⟨w.heap.size, 0, none⟩) l.length l.length) l := by
  refine ⟨⟨rvs_length l hk, Or.inr ⟨w.heap.size, l.length, (rvs l).toArray, rfl, hb, ?_, Nat.le_refl _, by unfold maxLen; omega, by simp [rvs_length l hk], ?_⟩⟩, hk⟩
  · show (w.heap.push _)[w.heap.size]? = _
    simp
  · rw [List.toList_toArray, ← rvs_length l hk, List.take_length]
/-- a cut of records -/
theorem run_cutO {w : World} {a : Act} {o : Oper} {T : TypeId} (hu : Try.prog.underlying T = some (.slice (Try.prog.elem T))) (x : Operand) (lo hi mx : Option Operand) (ho : o.op = .slice T x lo hi mx) (p : Option Addr) (n c : Nat) (v' : Value) (hx : a.eval x = .slice p n c) (l h m : Option Value) (hl : lo.map a.eval = l) (hh : hi.map a.eval = h) (hm : mx.map a.eval = m) (hr : (Instr.slice T (.slice p n c) l h m).run Try.prog w = .ok v' w) : (execOp a.eval o).run Try.prog w = .ok (.value v') w := by
  subst hl hh hm
  simp [execOp, ho, hx, run_sliceAt_slice _ _ _ _ _ _ hu, hr]
theorem rvs_take (l : List Rv) (f : Nat) : ∀ (j : Nat) (u : Value), (rvs (l.take f))[j]? = some u → (rvs l)[j]? = some u := by
  intro j u hu
  have e : rvs l = rvs (l.take f) ++ rvs (l.drop f) := by rw [← rvs_append, List.take_append_drop]
  rw [e, List.getElem?_append_left (List.getElem?_eq_some_iff.1 hu).1]
  exact hu
theorem rvs_drop (l : List Rv) (hk : AllOk l) (f : Nat) (hf : f ≤ l.length) : ∀ (j : Nat) (u : Value), (rvs (l.drop f))[j]? = some u → (rvs l)[f * 39 + j]? = some u := by
  intro j u hu
  have e : rvs l = rvs (l.take f) ++ rvs (l.drop f) := by rw [← rvs_append, List.take_append_drop]
  have hl : (rvs (l.take f)).length = f * 39 := by
    rw [rvs_length _ (fun x hx => hk x (List.mem_of_mem_take hx)), List.length_take]
    congr 1
    omega
  rw [e, List.getElem?_append_right (by omega), hl, Nat.add_sub_cancel_left]
  exact hu
theorem ROwn.cuts {w : World} {base : Nat} {v : Value} {l : List Rv} (h : ROwn w base v l) (f : Nat) (hf : f < l.length) :
    ∃ g cap ad c, v = .slice (some ⟨g, 0, none⟩) l.length cap ∧ (∀ w', (Instr.slice 40 v none (some (.int .i64 (f : Nat))) none).run Try.prog w' = .ok (.slice (some ⟨g, 0, none⟩) f cap) w') ∧ (∀ w', (Instr.slice 40 v (some (.int .i64 ((f + 1 : Nat)))) none none).run Try.prog w' = .ok (.slice (some ad) (l.length - (f + 1)) c) w') ∧
    (∀ j u, (rvs (l.take f))[j]? = some u → w.cell? ((⟨g, 0, none⟩ : Addr).add j) = some u) ∧ (∀ j u, (rvs (l.drop (f + 1)))[j]? = some u → w.cell? (ad.add j) = some u ∧ ad.block = g) := by
  rcases h.1.2 with ⟨rfl, h0⟩ | ⟨g, cap, cur, rfl, _, hg, hn, hm, hs, ht⟩
  · omega
  · have hc : ∀ j u, (rvs l)[j]? = some u → w.cell? ⟨g, j, none⟩ = some u := by
      intro j u hu
      have := (List.getElem?_eq_some_iff.1 hu).1
      rw [rvs_length l h.2] at this
      rw [← ht, List.getElem?_take, if_pos this] at hu
      simpa [World.cell?, hg] using hu
    have hsz : ∀ w' : World, (sizeOf (Try.prog.elem 40)).run Try.prog w' = .ok 39 w' := by
      intro w'
      obtain ⟨i5, hi5, hsz⟩ := Option.map_eq_some_iff.1 size26
      rw [el37]
      simp [sizeOf, typeInfo, hi5, hsz]
    refine ⟨g, cap, if cap = f + 1 then ⟨g, 0, none⟩ else ⟨g, (f + 1) * 39, none⟩, cap - (f + 1), rfl, fun w' => ?_, fun w' => ?_, fun j u hu => ?_, fun j u hu => ?_⟩
    · rw [run_slice_h _ _ _ _ _ sl37 _ _ (by omega) (by omega), hsz]
      have e : sliced (some ⟨g, 0, none⟩) 0 (f : Int).toNat cap 39 = .slice (some ⟨g, 0, none⟩) f cap := by
        unfold sliced
        rw [Int.toNat_natCast, Nat.sub_zero, Nat.sub_zero, Nat.zero_mul]
        split
        · rfl
        · rw [Option.map_some, add_none]
      exact congrArg (fun v => Result.ok v w') e
    · rw [run_slice_l _ _ _ _ _ sl37 _ _ (by omega) (by omega), hsz]
      have e : sliced (some ⟨g, 0, none⟩) ((f + 1 : Nat) : Int).toNat l.length cap 39 = .slice (some (if cap = f + 1 then ⟨g, 0, none⟩ else ⟨g, (f + 1) * 39, none⟩)) (l.length - (f + 1)) (cap - (f + 1)) := by
        unfold sliced
        rw [Int.toNat_natCast]
        split
        · rfl
        · rw [Option.map_some, add_none, Nat.zero_add]
      exact congrArg (fun v => Result.ok v w') e
    · rw [add_none, Nat.zero_add]
      exact hc j u (rvs_take l f j u hu)
    · have hj := (List.getElem?_eq_some_iff.1 hu).1
      have hd := rvs_drop l h.2 (f + 1) (by omega) j u hu
      by_cases e : cap = f + 1
      · exfalso
        have : l.drop (f + 1) = [] := List.drop_eq_nil_of_le (by omega)
        rw [this] at hu
        cases hu
      · rw [if_neg e, add_none]
        exact ⟨hc _ u hd, rfl⟩
section
variable {w : World} {a : Act} {o : Oper}
theorem run_lit0R (ho : o.op = .buildSlice 40 0 #[]) : (execOp a.eval o).run Try.prog w = .ok (.value (.slice (some ⟨w.heap.size, 0, none⟩) 0 0)) (w.alloc (.cells #[] 26)) := by
  have hr : (Instr.buildSlice 40 0 #[]).run Try.prog w = .ok (.slice (some ⟨w.heap.size, 0, none⟩) 0 0) (w.alloc (.cells #[] 26)) := by kernel_rfl
  simp only [execOp, ho, hr, List.map_toArray, List.map_nil, Sem.run_bind, Sem.run_pure, Result.andThen_ok]
theorem run_lit0S (ho : o.op = .buildSlice 38 0 #[]) : (execOp a.eval o).run Try.prog w = .ok (.value (.slice (some ⟨w.heap.size, 0, none⟩) 0 0)) (w.alloc (.cells #[] 9)) := by
  have hr : (Instr.buildSlice 38 0 #[]).run Try.prog w = .ok (.slice (some ⟨w.heap.size, 0, none⟩) 0 0) (w.alloc (.cells #[] 9)) := by kernel_rfl
  simp only [execOp, ho, hr, List.map_toArray, List.map_nil, Sem.run_bind, Sem.run_pure, Result.andThen_ok]
theorem run_lit1I (x : Operand) (ho : o.op = .buildSlice 27 1 #[(0, x)]) (k : Int) (hx : a.eval x = .int .i64 k) : (execOp a.eval o).run Try.prog w = .ok (.value (.slice (some ⟨w.heap.size, 0, none⟩) 1 1)) (w.alloc (.cells [Value.int .i64 k].toArray 3)) := by
  have hr : (Instr.buildSlice 27 1 #[(0, .int .i64 k)]).run Try.prog w = .ok (.slice (some ⟨w.heap.size, 0, none⟩) 1 1) (w.alloc (.cells [Value.int .i64 k].toArray 3)) := by kernel_rfl
  simp only [execOp, ho, List.map_toArray, List.map_cons, List.map_nil, hx, hr, Sem.run_bind, Sem.run_pure, Result.andThen_ok]
theorem run_lit1S (x : Operand) (ho : o.op = .buildSlice 38 1 #[(0, x)]) (s : ByteArray) (hx : a.eval x = .string s) : (execOp a.eval o).run Try.prog w = .ok (.value (.slice (some ⟨w.heap.size, 0, none⟩) 1 1)) (w.alloc (.cells [Value.string s].toArray 9)) := by
  have hr : (Instr.buildSlice 38 1 #[(0, .string s)]).run Try.prog w = .ok (.slice (some ⟨w.heap.size, 0, none⟩) 1 1) (w.alloc (.cells [Value.string s].toArray 9)) := by kernel_rfl
  simp only [execOp, ho, List.map_toArray, List.map_cons, List.map_nil, hx, hr, Sem.run_bind, Sem.run_pure, Result.andThen_ok]
theorem run_lit1R (x : Operand) (ho : o.op = .buildSlice 40 1 #[(0, x)]) (r : Rc) (v : Value) (hr : Rok r v) (hx : a.eval x = .agg (rcells r v).toArray) : (execOp a.eval o).run Try.prog w = .ok (.value (.slice (some ⟨w.heap.size, 0, none⟩) 1 1)) (w.alloc (.cells (rcells r v).toArray 26)) := by
  have h1 : (Instr.buildSlice 40 1 #[(0, .agg (rcells r v).toArray)]).run Try.prog w = .ok (.slice (some ⟨w.heap.size, 0, none⟩) 1 1) (w.alloc (.cells (rcells r v).toArray 26)) := by
    have := run_litRs (w := w) [⟨r, v⟩] (by intro x hx; simp at hx; subst hx; exact hr) (by simp) (by simp)
    simpa [rvs] using this
  simp only [execOp, ho, List.map_toArray, List.map_cons, List.map_nil, hx, h1, Sem.run_bind, Sem.run_pure, Result.andThen_ok]
end
theorem ROwn.lit0 (w : World) (base : Nat) (hb : base ≤ w.heap.size) : ROwn (w.alloc (.cells #[] 26)) base (.slice (some ⟨w.heap.size, 0, none⟩) 0 0) [] := by
  refine ⟨⟨rfl, Or.inr ⟨w.heap.size, 0, #[], rfl, hb, ?_, Nat.le_refl _, Nat.zero_le _, rfl, rfl⟩⟩, fun x hx => by cases hx⟩
  show (w.heap.push _)[w.heap.size]? = _
  simp
theorem SOwn.lit0 (w : World) (base : Nat) (hb : base ≤ w.heap.size) : SOwn (w.alloc (.cells #[] 9)) base (.slice (some ⟨w.heap.size, 0, none⟩) 0 0) [] := by
  refine ⟨rfl, Or.inr ⟨w.heap.size, 0, #[], rfl, hb, ?_, Nat.le_refl _, Nat.zero_le _, rfl, rfl⟩⟩
  show (w.heap.push _)[w.heap.size]? = _
  simp
end Go.Proofs.Ytobolkllplmmcab

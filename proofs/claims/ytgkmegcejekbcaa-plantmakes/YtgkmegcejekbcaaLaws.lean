/- More operations on blocks that are known whole. -/
import Derived.Test.YtgkmegcejekbcaaSmall
namespace Go.Proofs.Ytgkmegcejekbcaa
open Go.RowKit Go.Maps

section
variable {w : World} {ops : Array Oper} {rest : List Oper} {o : Oper} {a : Act} {Q : Exit → Act → World → Prop}
theorem wpList_box {t : Nat} (x : Operand) (hgd : o.guard = none) (ho : o.op = .box t x) (cs : List Value) (hx : a.eval x = .agg cs.toArray)
    (h : ∀ w', Row w' w.heap.size t cs → w'.heap.size = w.heap.size + 1 → Below w.heap.size w w' → wpList Try.prog ops Q rest (a.put o.dst (.pointer (some ⟨w.heap.size, 0, none⟩))) w') : wpList Try.prog ops Q (o :: rest) a w :=
  wpList_value hgd _ _ (by simp [execOp, ho, hx, Instr.box, newVar, newRow, Value.cells]) (h (w.alloc (.cells cs.toArray t)) (Row.new w t cs) (by simp) ((Below.refl _ _).alloc (Nat.le_refl _) _))
theorem wpList_alloc' {t : Nat} (zs : List Value) (hz : (Try.prog.info? t).map (·.zero) = some (some (.agg zs.toArray))) (hgd : o.guard = none) (ho : o.op = .alloc t)
    (h : ∀ w', Row w' w.heap.size t zs → w'.heap.size = w.heap.size + 1 → Below w.heap.size w w' → wpList Try.prog ops Q rest (a.put o.dst (.pointer (some ⟨w.heap.size, 0, none⟩))) w') : wpList Try.prog ops Q (o :: rest) a w :=
  wpList_alloc zs hz hgd ho (h (w.alloc (.cells zs.toArray t)) (Row.new w t zs) (by simp) ((Below.refl _ _).alloc (Nat.le_refl _) _))
theorem wpList_store0 {t n : Nat} (ht : AggT t n) (x y : Operand) (hgd : o.guard = none) (hdst : o.dst = none) (ho : o.op = .store t x y) (g off T : Nat) (hx : a.eval x = .pointer (some ⟨g, off, none⟩)) (cs cur : List Value) (hy : a.eval y = .agg cs.toArray) (hn : cs.length = n)
    (hr : Row w g T cur) (hfit : off + cs.length ≤ cur.length) (h1 : ∀ v ∈ cs, v.oneCell' = true) (h : wpList Try.prog ops Q rest a (w.setRow g (splice cur off cs).toArray)) : wpList Try.prog ops Q (o :: rest) a w :=
  wpList_store ht x y hgd ho g off T hx cs cur hy hn hr hfit h1 (by rw [hdst]; exact h)
theorem wpList_nilCheck (x : Operand) (hgd : o.guard = none) (ho : o.op = .nilCheck x) (p : Addr) (hx : a.eval x = .pointer (some p))
    (h : wpList Try.prog ops Q rest (a.put o.dst (.pointer (some p))) w) : wpList Try.prog ops Q (o :: rest) a w :=
  wpList_value hgd _ w (by simp [execOp, ho, hx]) h
/-- the address of a field -/
def FieldAt (T i k : Nat) : Prop := ∀ (w : World) (g off : Nat), (Instr.fieldAt T (.pointer (some ⟨g, off, none⟩)) i).run Try.prog w = .ok (.pointer (some ⟨g, off + k, none⟩)) w
theorem wpList_field {T i k : Nat} (hf : FieldAt T i k) (x : Operand) (hgd : o.guard = none) (ho : o.op = .fieldAddr T x i) (g off : Nat) (hx : a.eval x = .pointer (some ⟨g, off, none⟩))
    (h : wpList Try.prog ops Q rest (a.put o.dst (.pointer (some ⟨g, off + k, none⟩))) w) : wpList Try.prog ops Q (o :: rest) a w :=
  wpList_value hgd _ w (by simp [execOp, ho, hx, hf w g off]) h
/-- alloc and store of a whole struct or array behind it -/
theorem splice_all {α : Type} (zs cs : List α) (h : cs.length = zs.length) : splice zs 0 cs = cs := by
  unfold splice
  simp [h]
theorem wpList_alloc_store {t n : Nat} (ht : AggT t n) (zs : List Value) (hz : (Try.prog.info? t).map (·.zero) = some (some (.agg zs.toArray))) {o1 o2 : Oper} {d : Tmp} (hgd1 : o1.guard = none) (hgd2 : o2.guard = none) (hd1 : o1.dst = some d) (hd2 : o2.dst = none) (ho1 : o1.op = .alloc t) (y : Operand) (ho2 : o2.op = .store t (.tmp d) y)
    (cs : List Value) (hl : cs.length = n) (hzl : zs.length = n) (h1 : ∀ v ∈ cs, v.oneCell' = true)
    (hx : ∀ v, (a.put (some d) v).eval (.tmp d) = v) (hy : ∀ v, (a.put (some d) v).eval y = .agg cs.toArray)
    (h : ∀ w', Row w' w.heap.size t cs → w'.heap.size = w.heap.size + 1 → Below w.heap.size w w' → wpList Try.prog ops Q rest (a.put (some d) (.pointer (some ⟨w.heap.size, 0, none⟩))) w') : wpList Try.prog ops Q (o1 :: o2 :: rest) a w := by
  refine wpList_alloc' zs hz hgd1 ho1 ?_
  intro w1 r1 s1 b1
  rw [hd1]
  refine wpList_store0 ht (.tmp d) y hgd2 hd2 ho2 w.heap.size 0 t (hx _) cs zs (hy _) hl r1 (by omega) h1 ?_
  rw [splice_all _ _ (by omega)]
  refine h _ (r1.setRow cs) (by simp [World.setRow, s1]) ?_
  exact b1.trans ⟨rfl, rfl, rfl, by simp [World.setRow], fun k hk => Go.setRow_other w1 _ k _ (by omega)⟩
end

section
variable {P : Program} {ops : Array Oper} {C : World → Prop} {R : Act → Prop} {o : Oper} {rest : List Oper} {a : Act}
theorem wpQuiet_value (hgd : o.guard = none) (v : Value) (hrun : ∀ w, C w → (execOp a.eval o).run P w = .ok (.value v) w) (h : wpQuiet P ops C R rest (a.put o.dst v)) : wpQuiet P ops C R (o :: rest) a := by
  have hw : Region.wanted o (yielded ops a.tmps) = true := by simp [Region.wanted, hgd]
  simp only [wpQuiet, hw, if_true]
  exact ⟨v, fun w hC => by unfold Oper.quietAt; rw [hrun w hC]; exact ⟨rfl, rfl⟩, h⟩
end
theorem wpQuiet_load {ops : Array Oper} {C : World → Prop} {R : Act → Prop} {o : Oper} {rest : List Oper} {a : Act} {t n : Nat} (ht : AggT t n) (x : Operand) (hgd : o.guard = none) (ho : o.op = .load t x) (g off : Nat) (hx : a.eval x = .pointer (some ⟨g, off, none⟩)) (cs : List Value) (hn : cs.length = n)
    (hc : ∀ w, C w → ∀ j v, cs[j]? = some v → w.cell? ⟨g, off + j, none⟩ = some v) (h : wpQuiet Try.prog ops C R rest (a.put o.dst (.agg cs.toArray))) : wpQuiet Try.prog ops C R (o :: rest) a :=
  wpQuiet_value hgd _ (fun w hw => by simp [execOp, ho, hx, Instr.loadAt, Instr.sureAddr, run_loadVar ht w g off cs hn (hc w hw)]) h

theorem f87_0 : FieldAt 87 0 0 := fun w g off => by kernel_rfl
theorem f87_1 : FieldAt 87 1 1 := fun w g off => by kernel_rfl
theorem f87_2 : FieldAt 87 2 2 := fun w g off => by kernel_rfl
theorem f93_1 : FieldAt 93 1 1 := fun w g off => by kernel_rfl
theorem f76_2 : FieldAt 76 2 2 := fun w g off => by kernel_rfl

section
variable {w : World} {c : Nat → Colour} {k : Colour} {g : Nat} {tape : Bool} {size : Nat} {fl : List (List Nat)} {wt : List Wr}
theorem WtIn.shape {v : Value} (h : WtIn w c k v wt) : ∃ p cap, v = .slice p wt.length cap := by
  obtain ⟨⟨hl, h1⟩, h2⟩ := h
  rcases h1 with ⟨rfl, hn⟩ | ⟨g, cap, cur, rfl, h0, hg, h3⟩
  · exact ⟨none, 0, by rw [hn]⟩
  · exact ⟨_, cap, rfl⟩
/-- how many sectors or blocks may be read -/
theorem length_any (h : DevIn w c k g tape size fl wt) (hw : wt.length < 1099511627776) :
    Calls Try.prog 46 #[ptr g] w fun e w' => e = .returned (.int .i64 ((if tape then fl.length + wt.length else size : Nat) : Int)) ∧ ∃ n, w' = w.drewN n := by
  obtain ⟨bm, bl, v, hr, _, _, _, _, ⟨f, n, hm, _, hft⟩, hwt, _⟩ := h
  have c0 := hr.at 0 _ rfl
  have c1 := hr.at 1 _ rfl
  have c2 := hr.at 2 _ rfl
  have c3 := hr.at 3 _ rfl
  obtain ⟨p, cap, rfl⟩ := hwt.shape
  clear hwt hr
  cases tape with
  | false =>
    go_enter Try.func46, Try.ntmps46
    go_wp2
    go_ret
    exact ⟨rfl, 0, rfl⟩
  | true =>
    have hb := hm.bound
    obtain ⟨hn, _⟩ := hft rfl
    have hl : ∀ q ty, (Builtin.len_ #[72] ty #[.map (some bm)]).run Try.prog (w.drewN q) = .ok (.int .i64 (n : Nat)) (w.drewN q) := fun q ty => (hm.drewN q).len Try.underlying72 ty
    clear hft hm
    generalize wt.length = L at *
    go_enter Try.func46, Try.ntmps46
    go_wp2
    go_quiet (fail)
    go_wp2
    go_ret
    exact ⟨rfl, _, rfl⟩
theorem lengthF_any (h : DevIn w c k g tape size fl wt) :
    Calls Try.prog 54 #[ptr g] w fun e w' => e = .returned (.int .i64 ((if tape then fl.length else size : Nat) : Int)) ∧ w' = w := by
  obtain ⟨bm, bl, v, hr, _, _, _, _, ⟨f, n, hm, _, hft⟩, hwt, _⟩ := h
  have c0 := hr.at 0 _ rfl
  have c1 := hr.at 1 _ rfl
  have c2 := hr.at 2 _ rfl
  clear hwt hr
  cases tape with
  | false =>
    go_enter Try.func54, Try.ntmps54
    go_wp2
    go_ret
    exact ⟨rfl, rfl⟩
  | true =>
    obtain ⟨hn, _⟩ := hft rfl
    have hl : ∀ ty, (Builtin.len_ #[72] ty #[.map (some bm)]).run Try.prog w = .ok (.int .i64 (n : Nat)) w := fun ty => hm.len Try.underlying72 ty
    clear hft hm
    go_enter Try.func54, Try.ntmps54
    go_wp2
    go_ret
    exact ⟨rfl, rfl⟩
end
end Go.Proofs.Ytgkmegcejekbcaa

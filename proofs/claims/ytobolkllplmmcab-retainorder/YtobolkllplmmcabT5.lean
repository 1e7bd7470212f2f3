/- A law spoils what it got. -/
import Derived.Test.YtobolkllplmmcabT4
namespace Go.Proofs.Ytobolkllplmmcab
open Go.RowKit

theorem run_bldD {w : World} {a : Act} {o : Oper} (d : Int) (ho : o.op = .build 36 #[(0, .const (.int .i64 d))]) : (execOp a.eval o).run Try.prog w = .ok (.value (.agg (pcells ⟨d, 0, 0, false⟩).toArray)) w := by
  have hr : (Instr.build 36 #[(0, .int .i64 d)]).run Try.prog w = .ok (.agg (pcells ⟨d, 0, 0, false⟩).toArray) w := by kernel_rfl
  have e1 : a.eval (.const (.int .i64 d)) = .int .i64 d := rfl
  simp only [execOp, ho, List.map_toArray, List.map_cons, List.map_nil, e1, hr, Sem.run_bind, Sem.run_pure, Result.andThen_ok]
theorem run_litPl {w : World} {a : Act} {o : Oper} (x : Operand) (ho : o.op = .buildSlice 24 1 #[(0, x)]) (p : Pc) (hx : a.eval x = .agg (pcells p).toArray) : (execOp a.eval o).run Try.prog w = .ok (.value (.slice (some ⟨w.heap.size, 0, none⟩) 1 1)) (w.alloc (.cells (pcells p).toArray 36)) := by
  simp only [execOp, ho, List.map_toArray, List.map_cons, List.map_nil, hx, run_lit47 p, Sem.run_bind, Sem.run_pure, Result.andThen_ok]
/-- n places of one's own, whatever they are -/
def PN (w : World) (base : Nat) (v : Value) (n : Nat) : Prop := ∃ xs, w.ownsRow base 36 4 v n xs
theorem POwn.pn {w : World} {base : Nat} {v : Value} {ps : List Pc} (h : POwn w base v ps) : PN w base v ps.length := ⟨_, h⟩
theorem PN.keep {w w' : World} {base : Nat} {v : Value} {n : Nat} (h : PN w base v n) (hb : ∀ b, v.ownBlock = some b → base ≤ b → b < w.heap.size → w'.heap[b]? = w.heap[b]?) : PN w' base v n := by
  obtain ⟨xs, h⟩ := h
  exact ⟨xs, ownK h fun b e => hb b e (h.lt b e).1 (h.lt b e).2⟩
theorem PN.later {w w' : World} {base : Nat} {v : Value} {n : Nat} (h : PN w base v n) (hb : Below w.heap.size w w') : PN w' base v n := h.keep fun b _ _ hlt => hb.block b hlt
theorem PN.ix {w : World} {base : Nat} {v : Value} {n : Nat} (h : PN w base v n) (k : Nat) (hk : k < n) : ∃ g cur, v.ownBlock = some g ∧ base ≤ g ∧ Row w g 36 cur ∧ k * 4 + 4 ≤ cur.length ∧ (∀ w', (Instr.indexAt 24 v (.int .i64 (k : Nat))).run Try.prog w' = .ok (.pointer (some ⟨g, k * 4, none⟩)) w') ∧ ∀ (w' : World) (cur' : List Value), cur'.length = cur.length → Row w' g 36 cur' → PN w' base v n := by
  obtain ⟨xs, hown⟩ := h
  obtain ⟨i5, hi5, hsz⟩ := Option.map_eq_some_iff.1 size47
  rcases hown.2 with ⟨rfl, rfl⟩ | ⟨g, cap, cur, rfl, hbg, hg, hcap, hmax, hcs, htake⟩
  · omega
  · refine ⟨g, cur.toList, rfl, hbg, hg, by rw [Array.length_toList, hcs]; omega, fun w' => by simp [Instr.indexAt, asIntOf, run_underlying und24, hk, sizeOf, typeInfo, hi5, hsz, add_none], fun w' cur' hl hr => ⟨cur'.take (n * 4), ?_, Or.inr ⟨g, cap, cur'.toArray, rfl, hbg, hr, hcap, hmax, ?_, rfl⟩⟩⟩
    · rw [List.length_take, hl, Array.length_toList, hcs]
      omega
    · rw [List.size_toArray, hl, Array.length_toList, hcs]
theorem PN.app {w : World} {base : Nat} {v : Value} {n : Nat} (h : PN w base v n) (ty : TypeId) (b : Nat) (p : Pc) (hb : Row w b 36 (pcells p)) (hsz : (n + 1) * 32 ≤ 140737488355328) (hbase : base ≤ w.heap.size) :
    ∃ v' w', (Builtin.append_ #[24, 24] ty #[v, .slice (some ⟨b, 0, none⟩) 1 1]).run Try.prog w = .ok v' w' ∧ PN w' base v' (n + 1) ∧ w.grownBy w' v.ownBlock ∧ (v'.ownBlock = v.ownBlock ∨ v'.ownBlock = some w.heap.size) := by
  obtain ⟨xs, hown⟩ := h
  obtain ⟨i, hi, hz0, hz1, hz2⟩ := info_parts info47
  obtain ⟨v', w', hr, ho', hg, _, hw⟩ := run_append_own_at (P := Try.prog) (w := w) base 24 ty 36 i (.agg (pcells ⟨0, 0, 0, false⟩).toArray) 4 32 und24 hi hz0 hz1 hz2 rfl (by decide) v n xs hown
    ⟨b, 0, none⟩ 1 1 (pcells p) rfl (fun j u hu => by rw [add_none, Nat.zero_add]; exact hb.at j u hu) (pcells_one p) (by unfold maxLen; omega) (by omega) hbase
  exact ⟨v', w', hr, ⟨_, ho'⟩, hg, hw⟩
theorem run_lenPN {w0 w : World} {a : Act} {o : Oper} {base : Nat} {v : Value} {n : Nat} (h : PN w0 base v n) (x : Operand) (ho : o.op = .call { callee := .builtin .len, args := #[x], argTypes := #[24] }) (hx : a.eval x = v) : (execOp a.eval o).run Try.prog w = .ok (.value (.int .i64 (n : Nat))) w := by
  obtain ⟨xs, h⟩ := h
  rcases h.2 with ⟨rfl, rfl⟩ | ⟨g, cap, cur, rfl, _⟩
  · exact run_lenZ sl24 x ho _ _ _ hx
  · exact run_lenZ sl24 x ho _ _ _ hx
theorem PN.ne {w : World} {base : Nat} {v : Value} {n : Nat} (h : PN w base v n) {q T : Nat} {cs : List Value} (hr : Row w q T cs) (hT : T ≠ 36) : v.ownBlock ≠ some q := by
  obtain ⟨xs, h⟩ := h
  intro e
  rcases h.2 with ⟨rfl, _⟩ | ⟨g, cap, cur, rfl, _, hg, _⟩
  · cases e
  · have e2 : g = q := Option.some.inj e
    subst e2
    unfold Row at hr
    rw [hg] at hr
    injection hr with hr
    injection hr with _ h2
    exact hT h2.symm
/-- nothing that is older has turned, but block b -/
def Sp (w W : World) (b : Option Nat) : Prop := w.grownBy W b
theorem Sp.later {w W W' : World} {b : Option Nat} (h : Sp w W b) (hb : Below W.heap.size W W') : Sp w W' b :=
  ⟨hb.os.trans h.os, hb.tape.trans h.tape, hb.output.trans h.output, Nat.le_trans h.size hb.size, fun k hk hn => (hb.block k (Nat.lt_of_lt_of_le hk h.size)).trans (h.block k hk hn)⟩
theorem Sp.ch {w W W' : World} {g : Nat} (h : Sp w W (some g)) (hc : Ch (· = g) W W') : Sp w W' (some g) :=
  ⟨hc.os.trans h.os, hc.tape.trans h.tape, hc.output.trans h.output, Nat.le_trans h.size hc.size, fun k hk hn => (hc.one k (Nat.lt_of_lt_of_le hk h.size) (fun e => hn (by rw [e]))).trans (h.block k hk hn)⟩
theorem Sp.grown {w W W' : World} {b b' : Option Nat} (h : Sp w W b) (hg : W.grownBy W' b') (hb : b' = b ∨ ∃ k, b' = some k ∧ w.heap.size ≤ k) : Sp w W' b :=
  ⟨hg.os.trans h.os, hg.tape.trans h.tape, hg.output.trans h.output, Nat.le_trans h.size hg.size, fun k hk hn => (hg.block k (Nat.lt_of_lt_of_le hk h.size) (fun e => by
    rcases hb with rfl | ⟨j, rfl, hj⟩
    · exact hn e
    · have := Option.some.inj e; omega)).trans (h.block k hk hn)⟩
theorem splice_length {α : Type} (A : List α) (o : Nat) (c : List α) (h : o + c.length ≤ A.length) : (splice A o c).length = A.length := by
  unfold splice
  simp only [List.length_append, List.length_take, List.length_drop]
  omega
/-- what the law holds while it spoils: a row of its own, the places, and what has turned -/
structure Spo (w W : World) (q base : Nat) (r : Rc) (v : Value) (n : Nat) : Prop where
  row : Row W q 26 (rcells r v)
  new : w.heap.size ≤ q
  own : PN W base v n
  sp : Sp w W v.ownBlock
  old : ∀ b, v.ownBlock = some b → b < w.heap.size
theorem Spo.put {w W W' : World} {q base : Nat} {r : Rc} {v : Value} {n : Nat} (h : Spo w W q base r v n) {g : Nat} (hg : v.ownBlock = some g) (hc : Ch (· = g) W W') (ho : PN W' base v n) : Spo w W' q base r v n := by
  have hne : q ≠ g := fun e => h.own.ne h.row (by decide) (e ▸ hg)
  refine ⟨?_, h.new, ho, by have := h.sp; rw [hg] at this ⊢; exact this.ch hc, h.old⟩
  unfold Row
  rw [hc.one q h.row.lt hne]
  exact h.row
theorem Spo.cp {w W : World} {q base : Nat} {r : Rc} {v : Value} {n : Nat} (h : Spo w W q base r v n) (hr : r.root.length = 32) : W.cell? ⟨q, 0 + 38, none⟩ = some v := h.row.at (0 + 38) _ (rcB v hr 4)
end Go.Proofs.Ytobolkllplmmcab

/- Maps from numbers to bytes. -/
import Derived.Test.YtcjanjofjnedbaaB
namespace Go.Proofs.Ytcjanjofjnedbaa
open Go.RowKit Go.Maps Go.MapKept

/-- a slice that is nil, or begins at its block's begin -/
abbrev Sv := Option (Nat × Nat × Nat)
def svV : Sv → Value
  | none => .slice none 0 0
  | some (g, n, c) => .slice (some ⟨g, 0, none⟩) n c
def svD : Sv → DataW Unit
  | none => .agg []
  | some (g, n, c) => .agg [.lit (.int .i64 (g : Int)), .lit (.int .i64 (n : Int)), .lit (.int .i64 (c : Int))]
def svB : Sv → Option Nat
  | none => none
  | some (g, _, _) => some g
theorem svV_block (s : Sv) : (svV s).ownBlock = svB s := by
  rcases s with _ | ⟨g, n, c⟩ <;> rfl
theorem svV_inj {a b : Sv} (h : svV a = svV b) : a = b := by
  rcases a with _ | ⟨g, n, c⟩ <;> rcases b with _ | ⟨g', n', c'⟩
  · rfl
  · cases h
  · cases h
  · simp only [svV, Value.slice.injEq, Option.some.injEq, Addr.mk.injEq] at h
    obtain ⟨⟨rfl, _⟩, rfl, rfl⟩ := h
    rfl
theorem svD_inj {a b : Sv} (h : svD a = svD b) : a = b := by
  rcases a with _ | ⟨g, n, c⟩ <;> rcases b with _ | ⟨g', n', c'⟩
  · rfl
  · simp [svD] at h
  · simp [svD] at h
  · simp only [svD, DataW.agg.injEq, List.cons.injEq, DataW.lit.injEq, Lit.int.injEq, true_and, and_true] at h
    obtain ⟨h1, h2, h3⟩ := h
    have e1 : g = g' := by omega
    have e2 : n = n' := by omega
    have e3 : c = c' := by omega
    rw [e1, e2, e3]
theorem svV_one (s : Sv) : (svV s).cells = #[svV s] ∧ (svV s).oneCell' = true := by
  rcases s with _ | ⟨g, n, c⟩ <;> exact ⟨rfl, rfl⟩
open Classical in
noncomputable def svR (v : Value) : Option (DataW Unit × List MemPlace) := if h : ∃ s, v = svV s then some (svD h.choose, []) else none
theorem svR_of (s : Sv) : svR (svV s) = some (svD s, []) := by
  have hx : ∃ s', svV s = svV s' := ⟨s, rfl⟩
  unfold svR
  rw [dif_pos hx, ← svV_inj hx.choose_spec]
theorem svR_inv {v : Value} {z : DataW Unit × List MemPlace} (h : svR v = some z) : ∃ s, v = svV s ∧ z = (svD s, []) := by
  unfold svR at h
  split at h
  · rename_i hx
    exact ⟨hx.choose, hx.choose_spec, (Option.some.inj h).symm⟩
  · cases h
def keyI (p : Int) : Lit := .int .i64 p
theorem keyI_inj {p q : Int} (h : keyI p = keyI q) : p = q := by simpa [keyI] using h
theorem keyI_ne {p q : Int} (h : p ≠ q) : keyI p ≠ keyI q := fun e => h (keyI_inj e)
def Wf (p : Int) : Prop := (Lit.int .i64 p).wf = true
theorem Wf.of {p : Int} (h : -9223372036854775808 ≤ p ∧ p ≤ 9223372036854775807) : Wf p := WalkArith.wf_i64 (by omega)
theorem law3 : Keyed Try.prog 3 := int_keyed Try.underlying3
theorem keyOf_I {p : Int} (h : Wf p) : keyOf Try.prog 3 (.int .i64 p) = some (keyI p) := keyOf_int_mk Try.underlying3 h
theorem isKey_I (p : Int) : WideAt.IsKeyLit (keyI p) := trivial
theorem map45 : Try.prog.underlying 45 = some (.map 3 28) := by kernel_rfl
theorem zero28 (w : World) : (zeroValue 28).run Try.prog w = .ok (svV none) w := by kernel_rfl

/-- block b is a map of n entries, at each number what f says -/
def MapI (w : World) (b n : Nat) (f : Int → Option Sv) : Prop :=
  ∃ D, w.ownsMap Try.prog 3 svR b n D ∧ Maps.size D = n ∧ (∀ p, Maps.has D (keyI p) = (f p).isSome) ∧ (∀ p a, f p = some a → ∀ z, D.atKey (keyI p) z = svD a)
section
variable {w : World} {b n : Nat} {f : Int → Option Sv}
theorem MapI.lt (h : MapI w b n f) : b < w.heap.size := by
  obtain ⟨D, hown, _⟩ := h
  exact hown.lt
theorem MapI.kept (h : MapI w b n f) {w' : World} (hb : w'.heap[b]? = w.heap[b]?) : MapI w' b n f := by
  obtain ⟨D, ⟨es, clock, h1, h2⟩, h⟩ := h
  exact ⟨D, ⟨es, clock, hb.trans h1, h2⟩, h⟩
theorem MapI.made (w : World) : MapI (w.alloc (.map #[] 0)) w.heap.size 0 (fun _ => none) :=
  ⟨.map [], World.ownsMap_made w _ _ _, rfl, fun _ => rfl, fun _ a (h : none = some a) => (nomatch h)⟩
theorem MapI.ne_row (h : MapI w b n f) {g : Nat} {t : TypeId} {cs : Array Value} {z : Nat × Nat} (hr : w.heap[g]? = some (.cells cs t z)) : b ≠ g := by
  rintro rfl
  obtain ⟨D, ⟨es, clock, h1, _⟩, _⟩ := h
  rw [hr] at h1
  cases h1
theorem MapI.look (h : MapI w b n f) (p : Int) (hp : Wf p) : (Instr.lookup 45 (.map (some b)) (.int .i64 p) true).run Try.prog w = .ok (.tuple #[svV ((f p).getD none), .bool (f p).isSome]) w := by
  obtain ⟨D, hown, _, hh, ha⟩ := h
  obtain ⟨v, ps, hrun, hv⟩ := hown.look_ok law3 map45 (zero28 w) (svR_of none) (keyOf_I hp)
  obtain ⟨a, rfl, hd⟩ := svR_inv hv
  injection hd with hd
  rw [hrun, hh p]
  cases hf : f p with
  | none =>
    rw [atKey_of_not_has (by rw [hh p, hf]; rfl)] at hd
    rw [svD_inj hd.symm]
    rfl
  | some c =>
    rw [ha p c hf] at hd
    rw [svD_inj hd.symm]
    rfl
theorem MapI.len (h : MapI w b n f) (ty : TypeId) : (Builtin.len_ #[45] ty #[.map (some b)]).run Try.prog w = .ok (.int .i64 (n : Nat)) w := by
  obtain ⟨D, hown, hs, _⟩ := h
  have := hown.len map45 ty
  rw [hs] at this
  exact this
theorem MapI.store (h : MapI w b n f) (hn : n ≤ 1000) (p : Int) (hp : Wf p) (a : Sv) :
    ∃ w', (Instr.mapUpdate 45 (.map (some b)) (.int .i64 p) (svV a)).run Try.prog w = .ok () w' ∧ MapI w' b (if (f p).isSome then n else n + 1) (fun q => if q = p then some a else f q) ∧ w.mapTurned w' b := by
  obtain ⟨D, hown, hs, hh, ha⟩ := h
  obtain ⟨w', hrun, hown', ht'⟩ := hown.store law3 map45 (by unfold maxLen; omega) (keyOf_I hp) (svR_of a)
  refine ⟨w', hrun, ⟨D.put (keyI p) (svD a), ?_, ?_, ?_, ?_⟩, ht'⟩
  · obtain ⟨es, clock, h1, h2, h3, h4⟩ := hown'
    refine ⟨es, clock, h1, h2, ?_, h4⟩
    have e1 : es.size = Maps.size (D.put (keyI p) (svD a)) := by rw [h4]; simp [Maps.size, length_sorted]
    rw [e1, size_put (hown.tidy law3), hh p, hs]
    exact Nat.le_refl _
  · rw [size_put (hown.tidy law3), hh p, hs]
  · intro q
    dsimp only
    by_cases hq : q = p
    · subst hq
      rw [if_pos rfl, has_put_same hown.isMap (isKey_I q)]
      rfl
    · rw [if_neg hq, has_put_other (keyI_ne hq)]
      exact hh q
  · intro q c hq z
    dsimp only at hq
    by_cases hqp : q = p
    · subst hqp
      rw [if_pos rfl] at hq
      cases hq
      exact atKey_put_same hown.isMap (isKey_I q) _ _
    · rw [if_neg hqp] at hq
      rw [atKey_put_other (keyI_ne hqp)]
      exact ha q c hq z
theorem MapI.drop (h : MapI w b n f) (p : Int) (hp : Wf p) (hf : (f p).isSome = true) (ty : TypeId) :
    ∃ w', (Builtin.delete_ #[45, 3] ty #[.map (some b), .int .i64 p]).run Try.prog w = .ok (.tuple #[]) w' ∧ MapI w' b (n - 1) (fun q => if q = p then none else f q) ∧ w.mapTurned w' b := by
  obtain ⟨D, hown, hs, hh, ha⟩ := h
  obtain ⟨w', hrun, hown', ht'⟩ := hown.drop law3 map45 (keyOf_I hp) ty
  have hsz : Maps.size (D.del (keyI p)) = n - 1 := by
    have := size_del (hown.tidy law3) (k := keyI p)
    rw [hh p, hf, hs] at this
    simp at this
    omega
  refine ⟨w', hrun, ⟨D.del (keyI p), ?_, hsz, ?_, ?_⟩, ht'⟩
  · obtain ⟨es, clock, h1, h2, h3, h4⟩ := hown'
    refine ⟨es, clock, h1, h2, ?_, h4⟩
    have e1 : es.size = Maps.size (D.del (keyI p)) := by rw [h4]; simp [Maps.size, length_sorted]
    rw [e1, hsz]
    exact Nat.le_refl _
  · intro q
    dsimp only
    by_cases hq : q = p
    · subst hq
      rw [if_pos rfl, has_del_same]
      rfl
    · rw [if_neg hq, has_del_other (keyI_ne hq)]
      exact hh q
  · intro q c hq z
    dsimp only at hq
    by_cases hqp : q = p
    · rw [if_pos hqp] at hq
      cases hq
    · rw [if_neg hqp] at hq
      rw [atKey_del_other (keyI_ne hqp)]
      exact ha q c hq z
end
theorem mapTurned_size {w w' : World} {b : Nat} (h : w.mapTurned w' b) : w'.heap.size = w.heap.size := by
  obtain ⟨es, clock, es', clock', _, rfl⟩ := h
  simp [ChangeMaps.setBlock]
theorem mapTurned_ch {w w' : World} {b : Nat} (h : w.mapTurned w' b) : Ch (· = b) w w' := by
  have hg := h.grown
  exact ⟨hg.os, hg.tape, hg.output, hg.size, fun k hk hne => hg.block k hk (fun e => hne (by injection e))⟩
section
variable {w : World} {a : Act} {o : Oper} {b n : Nat} {f : Int → Option Sv}
theorem run_lookI (h : MapI w b n f) (m x : Operand) (ho : o.op = .lookup 45 m x true) (p : Int) (hp : Wf p) (hm : a.eval m = .map (some b)) (hx : a.eval x = .int .i64 p) :
    (execOp a.eval o).run Try.prog w = .ok (.value (.tuple #[svV ((f p).getD none), .bool (f p).isSome])) w := by
  simp [execOp, ho, hm, hx, h.look p hp]
theorem run_lenI (h : MapI w b n f) (m : Operand) (ho : o.op = .call { callee := .builtin .len, args := #[m], argTypes := #[45] }) (hm : a.eval m = .map (some b)) : (execOp a.eval o).run Try.prog w = .ok (.value (.int .i64 (n : Nat))) w := by
  have hl := h.len o.type
  simp only [execOp, ho, resolve, invoke, builtin, Sem.run_bind, Sem.run_pure, Result.andThen_ok, List.map_toArray, List.map_cons, List.map_nil, hm, hl]
theorem run_putI (m x y : Operand) (ho : o.op = .mapUpdate 45 m x y) (p : Int) (c : Value) (hm : a.eval m = .map (some b)) (hx : a.eval x = .int .i64 p) (hy : a.eval y = c) {w' : World} (hr : (Instr.mapUpdate 45 (.map (some b)) (.int .i64 p) c).run Try.prog w = .ok () w') : (execOp a.eval o).run Try.prog w = .ok .skip w' := by
  simp [execOp, ho, hm, hx, hy, hr]
theorem run_delI (m x : Operand) (ho : o.op = .call { callee := .builtin .delete, args := #[m, x], argTypes := #[45, 3] }) (p : Int) (hm : a.eval m = .map (some b)) (hx : a.eval x = .int .i64 p) {w' : World} (hr : (Builtin.delete_ #[45, 3] o.type #[.map (some b), .int .i64 p]).run Try.prog w = .ok (.tuple #[]) w') : (execOp a.eval o).run Try.prog w = .ok (.value (.tuple #[])) w' := by
  simp only [execOp, ho, resolve, invoke, builtin, Sem.run_bind, Sem.run_pure, Result.andThen_ok, List.map_toArray, List.map_cons, List.map_nil, hm, hx, hr]
end
end Go.Proofs.Ytcjanjofjnedbaa

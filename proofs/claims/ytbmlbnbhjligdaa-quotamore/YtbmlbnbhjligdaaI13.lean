/- A shape of one's own, and what more room does. -/
import Derived.Test.YtbmlbnbhjligdaaI12
import Derived.Test.YtbmlbnbhjligdaaI14
namespace Go.Proofs.Ytbmlbnbhjligdaa
open Go.RowKit Go.MapKept

theorem IOwn.keep {w w' : World} {base : Nat} {v : Value} {l : List Int} (h : IOwn w base v l) (hb : ∀ b, v.ownBlock = some b → w'.heap[b]? = w.heap[b]?) : IOwn w' base v l := ⟨own_kept h.own hb, h.lt, h.bd⟩
theorem row_ne {W : World} {q b t t2 : Nat} {cs cs2 : List Value} (h : Row W q t cs) (h2 : Row W b t2 cs2) (hne : t ≠ t2) : q ≠ b := by
  rintro rfl
  unfold Row at h h2
  rw [h] at h2
  injection h2 with h2
  injection h2 with _ h3
  exact hne h3
/-- the block of numbers that the call has made -/
theorem IOwn.block {w : World} {base : Nat} {v : Value} {l : List Int} (h : IOwn w base v l) (b : Nat) (hb : v.ownBlock = some b) : base ≤ b ∧ ∃ cur, Row w b 3 cur ∧ l.length ≤ cur.length := by
  rcases h.own.2 with ⟨rfl, h0⟩ | ⟨g, cap, cur, rfl, hB, hg, hcap, hmax, hsz, htake⟩
  · cases hb
  · obtain rfl : g = b := by injection hb
    exact ⟨hB, cur.toList, by unfold Row; rw [hg], by rw [Array.length_toList (xs := cur), hsz]; omega⟩
theorem setCell_kept {W : World} {b T : Nat} {cur : List Value} (hr : Row W b T cur) (k : Nat) (v : Value) (b' : Nat) (hne : b' ≠ b) : (W.setCell ⟨b, k, none⟩ v).heap[b']? = W.heap[b']? := by
  rw [setCell_eq_setRow W b k _ T (0, 0) v hr]
  exact Go.setRow_other W b b' _ (by intro e; exact hne e)
/-- a shape of the call's own -/
structure OwnSh (W : World) (B q : Nat) (vD vT : Value) (es ts : List Int) : Prop where
  row : Row W q 24 [vD, vT]
  d : IOwn W B vD es
  t : IOwn W B vT ts
  ne : ∀ b b', vD.ownBlock = some b → vT.ownBlock = some b' → b ≠ b'
  ge : B ≤ q
theorem OwnSh.later {W W' : World} {B q : Nat} {vD vT : Value} {es ts : List Int} (h : OwnSh W B q vD vT es ts) (hb : Below W.heap.size W W') : OwnSh W' B q vD vT es ts := ⟨h.row.later hb h.row.lt, h.d.later hb, h.t.later hb, h.ne, h.ge⟩
theorem OwnSh.ix {W : World} {B q : Nat} {vD vT : Value} {es ts : List Int} (h : OwnSh W B q vD vT es ts) (k : Nat) (hk : k < es.length) : ∃ b, vD.ownBlock = some b ∧ (∀ w', (Instr.indexAt 22 vD (.int .i64 (k : Nat))).run Try.prog w' = .ok (.pointer (some ⟨b, k, none⟩)) w') ∧ W.cell? ⟨b, k, none⟩ = some (.int .i64 (nth es k)) := by
  obtain ⟨b, hb, hr, _⟩ := own_index h.d.own Try.underlying22 s3 k hk
  refine ⟨b, hb, fun w' => by rw [hr w', Nat.mul_one], ?_⟩
  rcases h.d.own.2 with ⟨he, h0⟩ | ⟨g, cap, cur, he, _⟩
  · omega
  · rw [he] at hb
    obtain rfl : g = b := by injection hb
    have h2 := h.d.own.cells (g := g) (by rw [he]; rfl) k (.int .i64 (nth es k)) (by simp [nth_at es k hk, hk])
    rw [add_none, Nat.zero_add] at h2
    exact h2
theorem OwnSh.put {W : World} {B q : Nat} {vD vT : Value} {es ts : List Int} (h : OwnSh W B q vD vT es ts) (k : Nat) (hk : k < es.length) (b : Nat) (hb : vD.ownBlock = some b) (z : Int) (hz : -9223372036854775808 ≤ z ∧ z ≤ 9223372036854775807) :
    ∃ cur, Row W b 3 cur ∧ k < cur.length ∧ B ≤ b ∧ OwnSh (W.setCell ⟨b, k, none⟩ (.int .i64 z)) B q vD vT (es.set k z) ts := by
  obtain ⟨hB, cur, hr, hl⟩ := h.d.block b hb
  refine ⟨cur, hr, by omega, hB, h.row.setCell_other (row_ne h.row hr (by decide)) k _, ⟨?_, by rw [List.length_set]; exact h.d.lt, fun y hy => ?_⟩, h.t.keep fun b' hb' => setCell_kept hr k _ b' (fun e => h.ne b b' hb hb' e.symm), h.ne, h.ge⟩
  · rw [List.length_set, List.map_set]
    obtain ⟨ho, _, _⟩ := h.d
    rcases ho.2 with ⟨rfl, h0⟩ | ⟨g, cap, cur, rfl, _⟩
    · cases hb
    · obtain rfl : g = b := by injection hb
      exact (World.ownsRow.stored ho k (.int .i64 z)).1
  · rcases List.mem_or_eq_of_mem_set hy with h1 | h1
    · exact h.d.bd y h1
    · rw [h1]; exact hz
/-- one number is appended to the tapes -/
theorem OwnSh.app {W : World} {B q : Nat} {vD vT : Value} {es ts : List Int} (h : OwnSh W B q vD vT es ts) (ty : TypeId) (v : Value) (z : Int) (hv : IntsIn W v [z]) (hl : ts.length ≤ 9) :
    ∃ v' W', (Builtin.append_ #[22, 22] ty #[vT, v]).run Try.prog W = .ok v' W' ∧ Row W' q 24 [vD, vT] ∧ IOwn W' B vD es ∧ IOwn W' B v' (ts ++ [z]) ∧ Below B W W' := by
  obtain ⟨i, hi, hz0, hz1, hz2⟩ := info_parts info3b
  obtain ⟨p, cap, rfl, h1, h2, hc, hbd⟩ := hv
  rcases hc with hc | ⟨b, off, rfl, hc⟩
  · cases hc
  have hBw : B ≤ W.heap.size := Nat.le_trans h.ge (Nat.le_of_lt h.row.lt)
  have hnews : ∀ j u, ([.int .i64 z] : List Value)[j]? = some u → W.cell? ((⟨b, off, none⟩ : Addr).add j) = some u := by
    intro j u hu
    have hj : j < 1 := by
      have := (List.getElem?_eq_some_iff.1 hu).1
      simpa using this
    obtain rfl : j = 0 := by omega
    rw [add_none, hc 0 (by simp), ← hu]
    rfl
  obtain ⟨v', W', hr, ho, hg, _⟩ := run_append_own (P := Try.prog) (w := W) B 22 ty 3 i (.int .i64 0) 1 8 Try.underlying22 hi hz0 hz1 hz2 rfl (by decide) _ _ _ h.t.own
    ⟨b, off, none⟩ 1 cap [.int .i64 z] (by simp) hnews (by intro u hu; rw [List.mem_singleton.1 hu]; rfl) (by unfold maxLen; omega) (by omega) hBw
  have kept : ∀ k, k < W.heap.size → vT.ownBlock ≠ some k → W'.heap[k]? = W.heap[k]? := fun k hk hne => hg.block k hk fun e => hne e.symm
  have hrow : Row W' q 24 [vD, vT] := by
    unfold Row
    rw [kept q h.row.lt fun e => ?_]
    · exact h.row
    · obtain ⟨_, cur, hr, _⟩ := h.t.block q e
      exact row_ne h.row hr (by decide) rfl
  have hd : IOwn W' B vD es := h.d.keep fun b' hb' => kept b' (h.d.own.lt b' hb').2 fun e => h.ne b' b' hb' e rfl
  refine ⟨v', W', hr, hrow, hd, ⟨?_, ?_, fun y hy => ?_⟩, ?_⟩
  · rw [List.length_append, List.map_append]
    exact ho
  · rw [List.length_append]; simp; omega
  · rcases List.mem_append.1 hy with h1 | h1
    · exact h.t.bd y h1
    · exact hbd y h1
  · exact ⟨hg.os, hg.tape, hg.output, hg.size, fun k hk => kept k (by omega) fun e => by have := (h.t.block k e).1; omega⟩
/-- the tapes are laid into the shape -/
theorem app_laid {W : World} {B q : Nat} {vD vT v' : Value} {es tz : List Int} (hr : Row W q 24 [vD, vT]) (hd : IOwn W B vD es) (ht : IOwn W B v' tz) (hB : B ≤ q) :
    ShB (W.setCell ⟨q, 0 + 1, none⟩ v') q vD v' es tz ∧ Below B W (W.setCell ⟨q, 0 + 1, none⟩ v') := by
  have hne : ∀ {v : Value} {l : List Int}, IOwn W B v l → ∀ b', v.ownBlock = some b' → b' ≠ q := by
    intro v l h b' hb' e
    obtain ⟨_, cur, hr', _⟩ := h.block b' hb'
    exact row_ne hr hr' (by decide) e.symm
  refine ⟨⟨hr.setCell (0 + 1) v', (hd.keep fun b' hb' => setCell_kept hr _ _ b' (hne hd b' hb')).ints, (ht.keep fun b' hb' => setCell_kept hr _ _ b' (hne ht b' hb')).ints⟩, ?_⟩
  exact ((Ch.refl (· = q) W).setCell (Or.inl rfl) (0 + 1) v').below (Nat.le_trans hB (Nat.le_of_lt hr.lt)) fun i hi e => by omega
section
variable {w : World} {o : Oper} {a : Act}
theorem run_litOne (x : Operand) (ho : o.op = .buildSlice 22 1 #[(0, x)]) (z : Int) (hx : a.eval x = .int .i64 z) : (execOp a.eval o).run Try.prog w = .ok (.value (.slice (some ⟨w.heap.size, 0, none⟩) 1 1)) (w.alloc (.cells (([z] : List Int).map (Value.int .i64)).toArray 3)) := by
  have hr : (Instr.buildSlice 22 1 #[(0, .int .i64 z)]).run Try.prog w = .ok (.slice (some ⟨w.heap.size, 0, none⟩) 1 1) (w.alloc (.cells (([z] : List Int).map (Value.int .i64)).toArray 3)) := by kernel_rfl
  simp only [execOp, ho, List.map_toArray, List.map_cons, List.map_nil, hx, hr, Sem.run_bind, Sem.run_pure, Result.andThen_ok]
end
theorem nth_set (l : List Int) (k j : Nat) (x : Int) (hk : k < l.length) : nth (l.set k x) j = if k = j then x else nth l j := by
  unfold nth
  rw [List.getD_eq_getElem?_getD, List.getD_eq_getElem?_getD, List.getElem?_set]
  by_cases e : k = j
  · subst e
    simp [hk]
  · simp [e]
/-- more room, and no more than may be -/
def Up (ds es : List Int) : Prop := es.length = ds.length ∧ ∀ k, k < ds.length → 0 ≤ nth es k ∧ nth ds k ≤ nth es k ∧ nth es k ≤ 4096
theorem Up.refl (ds : List Int) (h : ∀ k, k < ds.length → 0 ≤ nth ds k ∧ nth ds k ≤ 4096) : Up ds ds := ⟨rfl, fun k hk => ⟨(h k hk).1, Int.le_refl _, (h k hk).2⟩⟩
theorem Up.set {ds es : List Int} (h : Up ds es) (k : Nat) (hk : k < ds.length) (e y : Int) (he : e = nth es k) (h0 : 0 < y) (h1 : y ≤ 4096 - e) : Up ds (es.set k (e + y)) := by
  refine ⟨by rw [List.length_set]; exact h.1, fun j hj => ?_⟩
  rw [nth_set es k j _ (by rw [h.1]; exact hk)]
  have h2 := h.2 j hj
  split
  · rename_i e2
    subst e2
    omega
  · exact h2
theorem may_up {ds es ts : List Int} {r : Int} (h : mayOk ds ts r = true) (u : Up ds es) : mayOk es ts r = true := by
  obtain ⟨h3, h1, h2, h4, h5, h6, h7, h8, h9, h10⟩ := mayOk_facts ds ts r h
  have a0 := u.2 0 (by omega)
  have a1 := u.2 1 (by omega)
  have a2 := u.2 2 (by omega)
  exact mayOk_of es ts r ⟨by rw [u.1]; exact h3, h1, h2, h4, h5, h6, by omega, by omega, by omega, h10⟩
theorem may_app {es ts : List Int} {r z : Int} (h : mayOk es ts r = true) (hl : ts.length < 9) (h0 : 12 ≤ z) (h9 : z ≤ 4096) : mayOk es (ts ++ [z]) r = true := by
  obtain ⟨h3, h1, h2, h4, h5, h6, h7, h8, h9', h10⟩ := mayOk_facts es ts r h
  refine mayOk_of es (ts ++ [z]) r ⟨h3, by simp, by simp; omega, h4, h5, by simp; omega, h7, h8, h9', fun t ht => ?_⟩
  rcases List.mem_append.1 ht with h' | h'
  · exact h10 t h'
  · rw [List.mem_singleton.1 h']
    exact ⟨h0, h9⟩
theorem puts_up {ds es : List Int} (h3 : ds.length = 3) (u : Up ds es) (h1 : 386 ≤ nth ds 1) : putsZ ds ≤ putsZ es := by
  have a1 := u.2 1 (by omega)
  obtain ⟨p0, p1, p2⟩ := putsZ_is ds h3 h1 (by omega) _ _ rfl rfl
  obtain ⟨q0, q1, q2⟩ := putsZ_is es (by rw [u.1]; exact h3) (by omega) a1.2.2 _ _ rfl rfl
  rw [tdiv_nn _ 8 (by omega) (by decide)] at p0 p1 p2 q0 q1 q2
  have hz : ∀ p : Int, 48 ≤ p → max (Int.tdiv (Int.tdiv (p - 32) 3 - 1) 3) 0 = ((p - 32) / 3 - 1) / 3 := by
    intro p hp
    rw [tdiv_nn (p - 32) 3 (by omega) (by decide), tdiv_nn _ 3 (by omega) (by decide)]
    omega
  rw [p2, q2, hz _ p0, hz _ q0]
  omega
theorem sect_up {ds es : List Int} (h3 : ds.length = 3) (u : Up ds es) (h1 : 32 ≤ nth ds 2) : sectZ ds ≤ sectZ es := by
  have a1 := u.2 2 (by omega)
  have e : ∀ l : List Int, l.length = 3 → 32 ≤ nth l 2 → nth l 2 ≤ 4096 → sectZ l = 8 * (nth l 2 / 16 - 1) := by
    intro l hl h32 h4
    unfold sectZ
    rw [if_neg (by omega), show min (nth l 2) 4096 = nth l 2 by omega, tdiv_nn _ _ (by omega) (by decide)]
  rw [e ds h3 h1 (by omega), e es (by rw [u.1]; exact h3) (by omega) a1.2.2]
  omega
/-- what the loop keeps -/
structure LoopR (w0 W : World) (q : Nat) (vD vT : Value) (ds es ts : List Int) : Prop where
  up : Up ds es
  own : OwnSh W w0.heap.size q vD vT es ts
  bel : Below w0.heap.size w0 W

end Go.Proofs.Ytbmlbnbhjligdaa

/- Layer 9: numbers that a law keeps, and what a pager keeps. Layer 9: PagerKeeps, walked. For every list of pages that are put and committed, every list of others that are put behind them while some are given up, and every list of what a boot keeps: what was committed is read: the law PagerKeeps returns true and changes nothing that was there. Conditions: what is read holds together at most 1048576 values and letters; the table crc.halves starts as the program's text lays it (the card ties it). -/
import Derived.Test.YtcpnlccajcpjmaaDoorZ35
import Derived.Maps.AppendAt
import Derived.Test.YtcpnlccajcpjmaaDoorZ36
namespace Go.Proofs.YtcpnlccajcpjmaaDoor
open Go.RowKit Go.Maps

theorem info3b : (Tryd.prog.info? 3).map (·.size) = some 1 := by kernel_rfl
section
variable {w : World} {a : Act} {o : Oper}
theorem run_ix28 (x i : Operand) (ho : o.op = .indexAddr 28 x i) (g off n cap j : Nat) (hx : a.eval x = .slice (some ⟨g, off, none⟩) n cap) (hi : a.eval i = .int .i64 (j : Nat)) (hj : j < n) : (execOp a.eval o).run Tryd.prog w = .ok (.value (.pointer (some ⟨g, off + j, none⟩))) w := by
  obtain ⟨i5, hi5, hsz⟩ := Option.map_eq_some_iff.1 info3b
  simp [execOp, ho, hx, hi, Instr.indexAt, asIntOf, run_underlying Tryd.underlying28, hj, sizeOf, typeInfo, hi5, hsz, add_none]
theorem run_app28 (x y : Operand) (ho : o.op = .call { callee := .builtin .append, args := #[x, y], argTypes := #[28, 28] }) (v u v' : Value) (w' : World) (hx : a.eval x = v) (hy : a.eval y = u) (hr : (Builtin.append_ #[28, 28] o.type #[v, u]).run Tryd.prog w = .ok v' w') : (execOp a.eval o).run Tryd.prog w = .ok (.value v') w' := by
  simp only [execOp, ho, resolve, invoke, builtin, Sem.run_bind, Sem.run_pure, Result.andThen_ok, List.map_toArray, List.map_cons, List.map_nil, hx, hy, hr]
theorem run_max (x y : Operand) (ho : o.op = .call { callee := .builtin .max, args := #[x, y], argTypes := #[3, 3] }) (m n r : Int) (hr : max m n = r) (hx : a.eval x = .int .i64 m) (hy : a.eval y = .int .i64 n) : (execOp a.eval o).run Tryd.prog w = .ok (.value (.int .i64 r)) w := by
  subst hr
  simp only [execOp, ho, resolve, invoke, builtin, Sem.run_bind, Sem.run_pure, Result.andThen_ok, List.map_toArray, List.map_cons, List.map_nil, hx, hy]
  simp [go_sem]
theorem run_rem3 (x : Operand) (ho : o.op = .binOp .rem 3 x (.const (.int .i64 3)) 3) (p : Nat) (hx : a.eval x = .int .i64 (p : Nat)) : (execOp a.eval o).run Tryd.prog w = .ok (.value (.int .i64 ((p % 3 : Nat) : Int))) w := by
  have e : (a.eval (.const (.int .i64 3))) = .int .i64 3 := rfl
  simp only [execOp, ho, hx, e]
  simp [go_sem]
  exact Int.tmod_eq_emod_of_nonneg (by omega)
theorem run_quo3 (x : Operand) (ho : o.op = .binOp .quo 3 x (.const (.int .i64 3)) 3) (p : Nat) (hp : p < 1000000000000) (hx : a.eval x = .int .i64 (p : Nat)) : (execOp a.eval o).run Tryd.prog w = .ok (.value (.int .i64 ((p / 3 : Nat) : Int))) w := by
  have e : (a.eval (.const (.int .i64 3))) = .int .i64 3 := rfl
  have hwr : IntKind.i64.wrap ((p : Int) / 3) = (p : Int) / 3 := by
    simp [IntKind.wrap, IntKind.signed, IntKind.bits]
    omega
  simp only [execOp, ho, hx, e]
  simp [go_sem, hwr]
theorem run_leqZ (x y : Operand) (ho : o.op = .binOp .leq 3 x y 3) (z z' : Int) (hx : a.eval x = .int .i64 z) (hy : a.eval y = .int .i64 z') (b : Bool) (hb : decide (z ≤ z') = b) : (execOp a.eval o).run Tryd.prog w = .ok (.value (.bool b)) w := by
  subst hb
  simp only [execOp, ho, hx, hy]
  simp [go_sem]
theorem run_neB (x y : Operand) (ho : o.op = .binOp .neq 4 x y 4) (b : Bool) (hx : a.eval x = .bool b) (hy : a.eval y = .bool b) : (execOp a.eval o).run Tryd.prog w = .ok (.value (.bool false)) w := by
  refine run_binOp' x y ho _ _ _ hx hy rfl ?_
  cases b <;> simp [go_sem]
theorem run_lit0 (ho : o.op = .buildSlice 28 0 #[]) : (execOp a.eval o).run Tryd.prog w = .ok (.value (.slice (some ⟨w.heap.size, 0, none⟩) 0 0)) (w.alloc (.cells #[] 3)) := by
  have hr : (Instr.buildSlice 28 0 #[]).run Tryd.prog w = .ok (.slice (some ⟨w.heap.size, 0, none⟩) 0 0) (w.alloc (.cells #[] 3)) := by kernel_rfl
  simp only [execOp, ho, List.map_toArray, List.map_nil, hr, Sem.run_bind, Sem.run_pure, Result.andThen_ok]
end
def icells (l : List Int) : List Value := l.map fun z => .int .i64 z
theorem app_int {w : World} (ty : TypeId) (v : Value) (n : Nat) (xs : List Value) (hown : w.ownsRow 0 3 1 v n xs) (b : Nat) (x : Int) (hb : Row w b 3 [.int .i64 x]) (hn : n ≤ 1000) :
    ∃ v' w', (Builtin.append_ #[28, 28] ty #[v, .slice (some ⟨b, 0, none⟩) 1 1]).run Tryd.prog w = .ok v' w' ∧ w'.ownsRow 0 3 1 v' (n + 1) (xs ++ [.int .i64 x]) ∧ w.grownBy w' v.ownBlock ∧ (v'.ownBlock = v.ownBlock ∨ v'.ownBlock = some w.heap.size) := by
  obtain ⟨i, hi, hz0, hz1, hz2⟩ := info_parts info3
  obtain ⟨v', w', hr, h2, h3, _, h5⟩ := run_append_own_at (P := Tryd.prog) (w := w) 0 28 ty 3 i (.int .i64 0) 1 8 Tryd.underlying28 hi hz0 hz1 hz2 rfl (by decide) v n xs hown
    ⟨b, 0, none⟩ 1 1 [.int .i64 x] (by simp) (fun j y hy => by rw [add_none, Nat.zero_add]; exact hb.at j y hy) (by intro y hy; rw [List.mem_singleton.1 hy]; rfl) (by unfold maxLen; omega) (by omega) (Nat.zero_le _)
  exact ⟨v', w', hr, h2, h3, h5⟩
/-- numbers in a block that nothing else has -/
structure AtIn (w W : World) (c : Nat → Colour) (gp : Nat) (v : Value) (l : List Int) : Prop where
  own : W.ownsRow 0 3 1 v l.length (icells l)
  ap : ∀ b, v.ownBlock = some b → w.heap.size ≤ b ∧ b < W.heap.size ∧ (c b).1 ≠ 2 ∧ b ≠ gp
  sl : ∃ b cap, v = .slice (some ⟨b, 0, none⟩) l.length cap
theorem AtIn.step {w W W' : World} {c c' : Nat → Colour} {gp : Nat} {v : Value} {l : List Int} (h : AtIn w W c gp v l) (hs : Stp W W' c c' gp) : AtIn w W' c' gp v l := by
  refine ⟨ownK h.own fun b hb => ?_, fun b hb => ?_, h.sl⟩
  · obtain ⟨_, h2, h3, h4⟩ := h.ap b hb
    exact hs.ch.block b h2 fun e => e.elim h3 h4
  · obtain ⟨h1, h2, h3, h4⟩ := h.ap b hb
    exact ⟨h1, Nat.lt_of_lt_of_le h2 hs.ch.size, by rw [hs.cc b h2]; exact h3, h4⟩
theorem AtIn.bel {w W W' : World} {c : Nat → Colour} {gp : Nat} {v : Value} {l : List Int} (h : AtIn w W c gp v l) (hb : Below W.heap.size W W') : AtIn w W' c gp v l := h.step (Stp.bel c gp hb)
theorem AtIn.at {w W : World} {c : Nat → Colour} {gp : Nat} {b n cap : Nat} {l : List Int} (h : AtIn w W c gp (.slice (some ⟨b, 0, none⟩) n cap) l) (j : Nat) (hj : j < l.length) : W.cell? ⟨b, 0 + j, none⟩ = some (.int .i64 (l.getD j 0)) := by
  have h2 := h.own.cells (g := b) rfl j (.int .i64 (l.getD j 0)) (by unfold icells; rw [List.getElem?_map, List.getElem?_eq_getElem hj, List.getD_eq_getElem?_getD, List.getElem?_eq_getElem hj]; rfl)
  rw [add_none] at h2
  exact h2
section
variable {w W W' : World} {c : Nat → Colour} {gp g : Nat} {m : Pl} {ds ts : List Nat} {i n : Nat} {L : Hd} {U : List Nat} {X : Nat → List Nat} {K : Nat}
theorem PgW.chS {S : Nat → Prop} (h : PgW w W c gp g m ds ts i n L U X K) (hc : Ch S W W') (hS : ∀ b, b < W.heap.size → S b → w.heap.size ≤ b ∧ (c b).1 ≠ 2 ∧ b ≠ gp) : PgW w W' c gp g m ds ts i n L U X K := by
  have hgp := h.pg.row.lt
  refine ⟨⟨⟨h.pl.live.1.ch hc (fun b hb e => (hS b hb e).2.1) fun _ _ => rfl, h.pl.live.2.1, fun b hb => h.pl.live.2.2 b (Nat.le_trans hc.size hb)⟩, h.pl.tab, h.pl.cc, h.pl.below.trans (hc.below h.pl.below.size fun b hb e => ?_), h.pl.shape, h.pl.le⟩, ⟨hc.row (fun e => (hS gp hgp e).2.2 rfl) h.pg.row, h.pg.wf, h.pg.us⟩, h.gpn, h.ap, h.o, h.lt⟩
  have := (hS b (Nat.lt_of_lt_of_le hb h.pl.below.size) e).1
  omega
/-- one number more -/
theorem PgW.push (h : PgW w W c gp g m ds ts i n L U X K) {v : Value} {l : List Int} (ha : AtIn w W c gp v l) (hl : l.length ≤ 1000) (z : Int) (ty : TypeId) : ∃ v' W', (Builtin.append_ #[28, 28] ty #[v, .slice (some ⟨W.heap.size, 0, none⟩) 1 1]).run Tryd.prog (W.alloc (.cells #[.int .i64 z] 3)) = .ok v' W' ∧ PgW w W' c gp g m ds ts i n L U X K ∧ AtIn w W' c gp v' (l ++ [z]) := by
  have b1 := below_alloc W (.cells #[.int .i64 z] 3)
  have h1 := h.bel b1
  have a1 := ha.bel b1
  have rr : Row (W.alloc (.cells #[.int .i64 z] 3)) W.heap.size 3 [.int .i64 z] := Row.new W 3 _
  have hz1 : (W.alloc (.cells #[.int .i64 z] 3)).heap.size = W.heap.size + 1 := World.size_alloc _ _
  obtain ⟨v', W', hr, ho, hg, hb⟩ := app_int ty v l.length (icells l) a1.own W.heap.size z rr hl
  have hch : Ch (fun b => v.ownBlock = some b) (W.alloc (.cells #[.int .i64 z] 3)) W' := ⟨hg.os, hg.tape, hg.output, hg.size, fun k hk hn => hg.block k hk fun e => hn e.symm⟩
  have h2 := h1.chS hch fun b _ e => ⟨(a1.ap b e).1, (a1.ap b e).2.2.1, (a1.ap b e).2.2.2⟩
  have hsl : ∃ b cap, v' = .slice (some ⟨b, 0, none⟩) (l ++ [z]).length cap := by
    rcases ho.2 with ⟨_, h0⟩ | ⟨b, cap, cur, e, _⟩
    · omega
    · exact ⟨b, cap, by rw [List.length_append]; exact e⟩
  refine ⟨v', W', hr, h2, ⟨by rw [List.length_append]; unfold icells at ho ⊢; rw [List.map_append]; exact ho, fun b hb' => ?_, hsl⟩⟩
  have hlt : b < W'.heap.size := by
    rcases ho.2 with ⟨e, h0⟩ | ⟨b', cap, cur, e, _, hg', _⟩
    · omega
    · rw [e] at hb'
      injection hb' with hb'
      rw [← hb']
      exact (Array.getElem?_eq_some_iff.1 hg').1
  rcases hb with hb | hb
  · obtain ⟨k1, k2, k3, k4⟩ := a1.ap b (by rw [← hb]; exact hb')
    exact ⟨k1, hlt, k3, k4⟩
  · rw [hb] at hb'
    injection hb' with hb'
    have hgp := h1.pg.row.lt
    have hbs := h1.pl.below.size
    exact ⟨by omega, hlt, h1.pl.live.2.2 b (by omega), by omega⟩
theorem AtIn.nil (h : PgW w W c gp g m ds ts i n L U X K) : AtIn w (W.alloc (.cells #[] 3)) c gp (.slice (some ⟨W.heap.size, 0, none⟩) 0 0) [] := by
  have rr : Row (W.alloc (.cells #[] 3)) W.heap.size 3 [] := Row.new W 3 []
  have hz1 : (W.alloc (.cells #[] 3)).heap.size = W.heap.size + 1 := World.size_alloc _ _
  have hgp := h.pg.row.lt
  have hbs := h.pl.below.size
  refine ⟨⟨rfl, Or.inr ⟨W.heap.size, 0, #[], rfl, Nat.zero_le _, rr, Nat.le_refl _, by unfold maxLen; omega, rfl, rfl⟩⟩, fun b hb => ?_, ⟨_, _, rfl⟩⟩
  injection hb with hb
  have hb : W.heap.size = b := hb
  exact ⟨by omega, by omega, h.pl.live.2.2 b (by omega), by omega⟩
end
theorem leastK : ∀ n : Fin 21, leastP (noHd 1) (firstU n.val) 50 = some n.val := by decide +kernel
theorem hasK : ∀ n : Fin 21, ∀ k : Fin 21, k.val < n.val → hasP (firstU n.val) (k.val : Int) = true := by decide +kernel
/-- ahead of a round: what was put, and where -/
structure KpS (w : World) (first : List (List Nat)) (gp g i n : Nat) (c : Nat → Colour) (m : Pl) (X : Nat → List Nat) (v : Value) (l : List Int) (W : World) : Prop where
  le : i ≤ first.length
  le20 : i ≤ 20
  nle : n ≤ i
  calm : m.fuse < 0
  len : l.length = i
  st : PgW w W c gp g m [402] [] 0 50 (noHd 1) (firstU n) X (6 + 8 * i)
  ats : AtIn w W c gp v l
  each : ∀ j, j < i → (500 < (first.getD j []).length ∧ l.getD j 0 = -1) ∨ ∃ k : Nat, k < n ∧ (first.getD j []).length ≤ 500 ∧ l.getD j 0 = (k : Int) ∧ X k = imOf (first.getD j [])
section
variable {w W : World} {first : List (List Nat)} {gp g i n : Nat} {c : Nat → Colour} {m : Pl} {X : Nat → List Nat} {v : Value} {l : List Int}
theorem getDI_last (A : List Int) (b : Int) : (A ++ [b]).getD A.length 0 = b := by
  rw [List.getD_eq_getElem?_getD, List.getElem?_append_right (Nat.le_refl _), Nat.sub_self]
  rfl
theorem getDI_front (A B : List Int) {k : Nat} (h : k < A.length) : (A ++ B).getD k 0 = A.getD k 0 := by
  rw [List.getD_eq_getElem?_getD, List.getElem?_append_left h, ← List.getD_eq_getElem?_getD]
/-- behind the round's Put: the number that is kept is z -/
structure KpM (w : World) (first : List (List Nat)) (gp g i n : Nat) (c : Nat → Colour) (m : Pl) (X : Nat → List Nat) (v : Value) (l : List Int) (z : Int) (W : World) : Prop where
  nle : n ≤ i + 1
  calm : m.fuse < 0
  len : l.length = i
  st : PgW w W c gp g m [402] [] 0 50 (noHd 1) (firstU n) X (6 + 8 * i + 8)
  ats : AtIn w W c gp v l
  each : ∀ j, j < i + 1 → (500 < (first.getD j []).length ∧ (l ++ [z]).getD j 0 = -1) ∨ ∃ k : Nat, k < n ∧ (first.getD j []).length ≤ 500 ∧ (l ++ [z]).getD j 0 = (k : Int) ∧ X k = imOf (first.getD j [])
theorem KpS.put (h : KpS w first gp g i n c m X v l W) (h20 : i < 20) (u : Value) (hu : SliceIn W u (first.getD i [])) : Calls Tryd.prog 15 #[ptr gp, u] W fun e W' => ∃ (k : Nat) (er : Int) (n2 : Nat) (c' : Nat → Colour) (m' : Pl) (X' : Nat → List Nat), e = .returned (.tuple #[.int .i64 (k : Nat), .int .i64 er]) ∧ ((er = 0 ∧ (first.getD i []).length ≤ 500 ∧ KpM w first gp g i n2 c' m' X' v l (k : Nat) W') ∨ (er = 5 ∧ 500 < (first.getD i []).length ∧ KpM w first gp g i n2 c' m' X' v l (-1) W')) := by
  have hn := h.nle
  have hlen := h.len
  refine (h.st.putC (by omega) h.calm u _ hu).mono ?_
  rintro e W' ⟨c', h1, ⟨h2, h3, h4⟩ | ⟨_, h2, _⟩ | ⟨p, m', h2, h3, h4, h5, h6⟩⟩
  · refine ⟨0, 5, n, c', m, X, h3, Or.inr ⟨rfl, h2, ⟨by omega, h.calm, hlen, h4.mono (by omega), h.ats.step h1, fun j hj => ?_⟩⟩⟩
    rcases Nat.lt_or_ge j i with hji | hji
    · rw [getDI_front l _ (by omega)]
      exact h.each j hji
    · have e1 : j = l.length := by omega
      refine Or.inl ⟨by rw [e1, hlen]; exact h2, by rw [e1, getDI_last]⟩
  · rw [leastK ⟨n, by omega⟩] at h2
    cases h2
  · rw [leastK ⟨n, by omega⟩] at h3
    injection h3 with h3
    have e0 : p = n := h3.symm
    subst e0
    refine ⟨p, 0, p + 1, c', m', _, h4, Or.inl ⟨rfl, h2, ⟨by omega, h5, hlen, h6, h.ats.step h1, fun j hj => ?_⟩⟩⟩
    rcases Nat.lt_or_ge j i with hji | hji
    · rw [getDI_front l _ (by omega)]
      rcases h.each j hji with h7 | ⟨k, k1, k2, k3, k4⟩
      · exact Or.inl h7
      · refine Or.inr ⟨k, by omega, k2, k3, ?_⟩
        unfold updP
        rw [if_neg (by omega)]
        exact k4
    · have e1 : j = l.length := by omega
      refine Or.inr ⟨p, by omega, by rw [e1, hlen]; exact h2, by rw [e1, getDI_last], ?_⟩
      unfold updP
      rw [if_pos rfl, e1, hlen]
theorem KpM.push {z : Int} (h : KpM w first gp g i n c m X v l z W) (hi : i < first.length) (h20 : i < 20) (ty : TypeId) : ∃ v' W', (Builtin.append_ #[28, 28] ty #[v, .slice (some ⟨W.heap.size, 0, none⟩) 1 1]).run Tryd.prog (W.alloc (.cells #[.int .i64 z] 3)) = .ok v' W' ∧ KpS w first gp g (i + 1) n c m X v' (l ++ [z]) W' := by
  have hlen := h.len
  obtain ⟨v', W', h1, h2, h3⟩ := h.st.push h.ats (by omega) z ty
  exact ⟨v', W', h1, ⟨by omega, by omega, h.nle, h.calm, by rw [List.length_append, hlen]; rfl, h2, h3, h.each⟩⟩
/-- behind the commit: what was committed is where it was -/
structure KtS (w : World) (gp g n : Nat) (r : Int) (X : Nat → List Nat) (v : Value) (l : List Int) (i : Nat) (c : Nat → Colour) (m : Pl) (U : List Nat) (Y : Nat → List Nat) (W : World) : Prop where
  calm : m.fuse < 0
  st : PgW w W c gp g m [402] [] 0 50 (nextHd (noHd 1) r (firstU n)) U Y (200 + 8 * i)
  ats : AtIn w W c gp v l
  same : ∀ k, k < n → Y k = X k
theorem KpS.com (h : KpS w first gp g i n c m X v l W) (r : Int) (hr : r = -1 ∨ ∃ k : Nat, k < n ∧ r = (k : Int)) : Calls Tryd.prog 19 #[ptr gp, .int .i64 r] W fun e W' => e = .returned (.int .i64 0) ∧ ∃ c' m', KtS w gp g n r X v l 0 c' m' (firstU n) X W' := by
  have hn := h.nle
  have h20 := h.le20
  have hok : rootOk (firstU n) r = true := by
    unfold rootOk
    rcases hr with rfl | ⟨k, hk, rfl⟩
    · rfl
    · rw [hasK ⟨n, by omega⟩ ⟨k, by omega⟩ hk, Bool.or_true]
  refine (h.st.comC (by omega) h.calm r hok).mono ?_
  rintro e W' ⟨c', m', rfl, h1, h2, _, h4⟩
  exact ⟨rfl, c', m', ⟨h2, h4.mono (by omega), h.ats.step h1, fun _ _ => rfl⟩⟩
theorem KtS.free {r : Int} {U : List Nat} {Y : Nat → List Nat} (h : KtS w gp g n r X v l i c m U Y W) (hi : i ≤ 1048576) (p : Int) : Calls Tryd.prog 17 #[ptr gp, .int .i64 p] W fun e W' => ∃ (er : Int) (U' : List Nat), e = .returned (.int .i64 er) ∧ KtS w gp g n r X v l i c m U' Y W' := by
  refine (h.st.free (by omega) p).mono ?_
  rintro e W' ⟨h1, ⟨_, h2, h3⟩ | ⟨_, h2, h3⟩⟩
  · exact ⟨90, U, h2, ⟨h.calm, h3, h.ats.step h1, h.same⟩⟩
  · exact ⟨0, _, h2, ⟨h.calm, h3, h.ats.step h1, h.same⟩⟩
theorem KtS.put {r : Int} {U : List Nat} {Y : Nat → List Nat} (h : KtS w gp g n r X v l i c m U Y W) (hi : i ≤ 1048576) (hn : n ≤ 20) (u : Value) (b : List Nat) (hu : SliceIn W u b) : Calls Tryd.prog 15 #[ptr gp, u] W fun e W' => ∃ (k : Nat) (er : Int) (c' : Nat → Colour) (m' : Pl) (U' : List Nat) (Y' : Nat → List Nat), e = .returned (.tuple #[.int .i64 (k : Nat), .int .i64 er]) ∧ KtS w gp g n r X v l (i + 1) c' m' U' Y' W' := by
  refine (h.st.putC (by omega) h.calm u b hu).mono ?_
  rintro e W' ⟨c', h1, ⟨_, h2, h3⟩ | ⟨_, _, h2, h3⟩ | ⟨p, m', _, h2, h3, h4, h5⟩⟩
  · exact ⟨0, 5, c', m, U, Y, h2, ⟨h.calm, h3.mono (by omega), h.ats.step h1, h.same⟩⟩
  · exact ⟨0, 3, c', m, U, Y, h2, ⟨h.calm, h3.mono (by omega), h.ats.step h1, h.same⟩⟩
  · refine ⟨p, 0, c', m', _, _, h3, ⟨h4, h5.mono (by omega), h.ats.step h1, fun k hk => ?_⟩⟩
    have hf := (leastP_some h2).2
    unfold freeP at hf
    have hne : k ≠ p := fun e => by
      have h6 := hasK ⟨n, by omega⟩ ⟨k, by omega⟩ hk
      have h7 : hasP (nextHd (noHd 1) r (firstU n)).used (p : Int) = true := by rw [← e]; exact h6
      rw [h7] at hf
      simp at hf
    unfold updP
    rw [if_neg hne]
    exact h.same k hk
end
end Go.Proofs.YtcpnlccajcpjmaaDoor

namespace Go.Proofs.YtcpnlccajcpjmaaDoor
open Go.RowKit Go.Maps

set_option maxHeartbeats 16000000 in
set_option maxRecDepth 100000 in
theorem pagerKeeps_any (w : World) (ht : Fr.TabIn w) (p0 : Option Addr) (n0 cap0 : Nat) (first : List (List Nat)) (hf : RowsIn w (.slice p0 n0 cap0) first) (p1 : Option Addr) (n1 cap1 : Nat) (thn : List (List Nat)) (hb : RowsIn w (.slice p1 n1 cap1) thn) (hn1 : n1 ≤ 1048576) (vk : Value) (ks : List Int) (hk : IntsIn w vk ks) : Calls Tryd.prog 5 #[.slice p0 n0 cap0, .slice p1 n1 cap1, vk] w fun e w' => e = .returned (.bool true) ∧ Below w.heap.size w w' := by
  have HT : Hid (Fr.TabIn w) := ht
  have HR : Hid (RowsIn w (.slice p0 n0 cap0) first) := hf
  have HN : Hid (n0 = first.length ∧ n0 ≤ 1099511627776) := hf.len
  have HR1 : Hid (RowsIn w (.slice p1 n1 cap1) thn) := hb
  have HN1 : Hid (n1 = thn.length ∧ n1 ≤ 1048576) := ⟨hb.len.1, hn1⟩
  have HK : Hid (IntsIn w vk ks) := hk
  obtain ⟨PQ, hPQ⟩ : ∃ PQ : Ending → World → Prop, PQ = fun (e : Ending) (w' : World) => e = .returned (.bool true) ∧ Below w.heap.size w w' := ⟨_, rfl⟩
  have HPQ : Hid (PQ = fun (e : Ending) (w' : World) => e = .returned (.bool true) ∧ Below w.heap.size w w') := hPQ
  rw [← hPQ]
  clear hPQ ht hf hb hk hn1
  go_enter Tryd.func5, Tryd.ntmps5
  go_upto_region 0 with fail
  refine wp_region_lit ?_
  refine wl rfl (.bool false) _ (run_asZ (.const (.bool false)) rfl (.bool false) rfl) ?_
  simp only [Act.put, List.setIfInBounds_toArray, List.set_cons_succ, List.set_cons_zero]
  refine wpList_nil ?_
  go_upto_region 1 with fail
  refine wp_region_lit ?_
  refine wpList_callW eN9 [] _ rfl rfl [] rfl ?_
  refine (shown_any w HT.out).mono ?_
  rintro e W0 ⟨rfl, b_⟩
  refine ⟨_, rfl, ?_⟩
  have HB0 : Hid (Below w.heap.size w W0) := b_
  clear b_
  simp only [Act.put, List.setIfInBounds_toArray, List.set_cons_succ, List.set_cons_zero]
  refine wl rfl (.bool true) _ (run_asZ (.tmp 24) rfl (.bool true) rfl) ?_
  simp only [Act.put, List.setIfInBounds_toArray, List.set_cons_succ, List.set_cons_zero]
  refine wpList_nil ?_
  go_upto_region 2 with fail
  refine wp_region_lit ?_
  refine wl rfl (.slice (some ⟨W0.heap.size, 0, none⟩) 1 1) _ (run_lit28 (.const (.int .i64 402)) rfl 402 rfl) ?_
  have HI : Hid (IntsIn (W0.alloc (.cells #[.int .i64 402] 3)) (.slice (some ⟨W0.heap.size, 0, none⟩) 1 1) [((402 : Nat) : Int)] ∧ Below W0.heap.size W0 (W0.alloc (.cells #[.int .i64 402] 3))) := ⟨ints_lit W0 402, below_alloc W0 _⟩
  obtain ⟨W1, hW_⟩ : ∃ W, W = W0.alloc (.cells #[.int .i64 402] 3) := ⟨_, rfl⟩
  obtain ⟨q0, hq_⟩ : ∃ q, q = W0.heap.size := ⟨_, rfl⟩
  rw [← hW_] at HI ⊢
  rw [← hq_] at ⊢
  have HI2 : Hid (IntsIn W1 (.slice (some ⟨q0, 0, none⟩) 1 1) [((402 : Nat) : Int)] ∧ Below W0.heap.size W0 W1) := by rw [hq_]; exact HI.out
  clear hW_ hq_ HI
  simp only [Act.put, List.setIfInBounds_toArray, List.set_cons_succ, List.set_cons_zero]
  refine wl rfl (.agg #[.slice (some ⟨q0, 0, none⟩) 1 1, .slice none 0 0]) _ (run_build30 (.tmp 26) rfl _ _ _ rfl) ?_
  simp only [Act.put, List.setIfInBounds_toArray, List.set_cons_succ, List.set_cons_zero]
  refine wpList_callW eN10 [.tmp 27] _ rfl rfl [(.agg #[.slice (some ⟨q0, 0, none⟩) 1 1, .slice none 0 0])] rfl ?_
  refine (PlW.new (HB0.out.trans (HI2.out.2.mono HB0.out.size)) HT.out 402 ⟨by decide, by decide⟩ _ HI2.out.1).mono ?_
  rintro e W2 ⟨g, c2, rfl, b_, h_⟩
  refine ⟨_, rfl, ?_⟩
  have H2 : Hid (PlW w W2 c2 g (newPl [((402 : Nat) : Int)] []) [402] [] 0) := h_
  clear h_ b_ HI2
  simp only [Act.put, List.setIfInBounds_toArray, List.set_cons_succ, List.set_cons_zero]
  refine wl rfl (.tuple #[(ptr g), (.int .i64 0)]) _ (run_mvZ (.tmp 28) rfl (.tuple #[(ptr g), (.int .i64 0)]) rfl) ?_
  simp only [Act.put, List.setIfInBounds_toArray, List.set_cons_succ, List.set_cons_zero]
  refine wl rfl (ptr g) _ (run_extZ (.tmp 25) 0 rfl #[(ptr g), (.int .i64 0)] rfl (ptr g) rfl) ?_
  simp only [Act.put, List.setIfInBounds_toArray, List.set_cons_succ, List.set_cons_zero]
  refine wl rfl (.int .i64 0) _ (run_extZ (.tmp 25) 1 rfl #[(ptr g), (.int .i64 0)] rfl (.int .i64 0) rfl) ?_
  simp only [Act.put, List.setIfInBounds_toArray, List.set_cons_succ, List.set_cons_zero]
  refine wl rfl (ptr g) _ (run_asZ (.tmp 29) rfl (ptr g) rfl) ?_
  simp only [Act.put, List.setIfInBounds_toArray, List.set_cons_succ, List.set_cons_zero]
  refine wl rfl (.int .i64 0) _ (run_asZ (.tmp 30) rfl (.int .i64 0) rfl) ?_
  simp only [Act.put, List.setIfInBounds_toArray, List.set_cons_succ, List.set_cons_zero]
  refine wpList_nil ?_
  go_upto_region 3 with fail
  refine wp_region_lit ?_
  refine wl rfl (.bool true) _ (run_mvZ (.tmp 7) rfl (.bool true) rfl) ?_
  simp only [Act.put, List.setIfInBounds_toArray, List.set_cons_succ, List.set_cons_zero]
  refine wl rfl (.bool false) _ (run_not (.tmp 31) 4 rfl true rfl) ?_
  simp only [Act.put, List.setIfInBounds_toArray, List.set_cons_succ, List.set_cons_zero]
  refine wl rfl (.bool false) _ (run_mvZ (.tmp 32) rfl (.bool false) rfl) ?_
  simp only [Act.put, List.setIfInBounds_toArray, List.set_cons_succ, List.set_cons_zero]
  refine wl (by kernel_rfl) (ptr g) _ (run_mvZ (.tmp 8) rfl (ptr g) rfl) ?_
  simp only [Act.put, List.setIfInBounds_toArray, List.set_cons_succ, List.set_cons_zero]
  refine wl (by kernel_rfl) (.bool false) _ (run_binOp' (.tmp 34) (.const (.pointer none)) rfl _ _ _ rfl rfl rfl (by kernel_rfl)) ?_
  simp only [Act.put, List.setIfInBounds_toArray, List.set_cons_succ, List.set_cons_zero]
  refine wl rfl (.bool false) _ (run_pickZ (.tmp 33) (.const (.bool true)) (.tmp 35) rfl false (.bool false) rfl rfl) ?_
  simp only [Act.put, List.setIfInBounds_toArray, List.set_cons_succ, List.set_cons_zero]
  refine wl rfl (.bool false) _ (run_mvZ (.tmp 36) rfl (.bool false) rfl) ?_
  simp only [Act.put, List.setIfInBounds_toArray, List.set_cons_succ, List.set_cons_zero]
  refine wl (by kernel_rfl) (.int .i64 0) _ (run_mvZ (.tmp 9) rfl (.int .i64 0) rfl) ?_
  simp only [Act.put, List.setIfInBounds_toArray, List.set_cons_succ, List.set_cons_zero]
  refine wl (by kernel_rfl) (.bool false) _ (run_neZ (.tmp 38) (.const (.int .i64 0)) rfl (0) (0) rfl rfl false rfl) ?_
  simp only [Act.put, List.setIfInBounds_toArray, List.set_cons_succ, List.set_cons_zero]
  refine wl rfl (.bool false) _ (run_pickZ (.tmp 37) (.const (.bool true)) (.tmp 39) rfl false (.bool false) rfl rfl) ?_
  simp only [Act.put, List.setIfInBounds_toArray, List.set_cons_succ, List.set_cons_zero]
  refine wpList_nil ?_
  go_upto_region 5 with fail
  refine wp_region_lit ?_
  refine wl rfl (ptr g) _ (run_mvZ (.tmp 8) rfl (ptr g) rfl) ?_
  simp only [Act.put, List.setIfInBounds_toArray, List.set_cons_succ, List.set_cons_zero]
  refine wpList_callW eN11 [.tmp 41, .const (.int .i64 0)] _ rfl rfl [(ptr g), .int .i64 0] rfl ?_
  refine (PlW.first (n := 50) ⟨by decide, by decide⟩ (by decide) (by decide) H2.out).mono ?_
  rintro e W4 ⟨rfl, c4, m4, h_, o_, f_⟩
  refine ⟨_, rfl, ?_⟩
  have H4 : Hid (PlW w W4 c4 g m4 [402] [] 6 ∧ PgO m4 0 50 (noHd 1) noneP zX ∧ m4.fuse < 0) := ⟨h_, o_, f_⟩
  clear h_ o_ f_ H2
  simp only [Act.put, List.setIfInBounds_toArray, List.set_cons_succ, List.set_cons_zero]
  refine wl rfl (.int .i64 0) _ (run_asZ (.tmp 42) rfl (.int .i64 0) rfl) ?_
  simp only [Act.put, List.setIfInBounds_toArray, List.set_cons_succ, List.set_cons_zero]
  refine wpList_nil ?_
  go_upto_region 6 with fail
  refine wp_region_lit ?_
  refine wl rfl (ptr g) _ (run_mvZ (.tmp 8) rfl (ptr g) rfl) ?_
  simp only [Act.put, List.setIfInBounds_toArray, List.set_cons_succ, List.set_cons_zero]
  refine wpList_callW eN13 [.tmp 44, .const (.int .i64 0)] _ rfl rfl [(ptr g), .int .i64 0] rfl ?_
  refine (PlW.openZ H4.out.1 (by decide) (by decide) (L := noHd 1) H4.out.2.1).mono ?_
  rintro e W5 ⟨gp, rfl, b_, h_⟩
  refine ⟨_, rfl, ?_⟩
  have H5 : Hid (PgW w W5 c4 gp g m4 [402] [] 0 50 (noHd 1) (firstU 0) zX (6 + 8 * 0) ∧ m4.fuse < 0) := ⟨h_, H4.out.2.2⟩
  clear h_ b_ H4
  simp only [Act.put, List.setIfInBounds_toArray, List.set_cons_succ, List.set_cons_zero]
  refine wl rfl (.tuple #[(ptr gp), (.int .i64 0)]) _ (run_mvZ (.tmp 45) rfl (.tuple #[(ptr gp), (.int .i64 0)]) rfl) ?_
  simp only [Act.put, List.setIfInBounds_toArray, List.set_cons_succ, List.set_cons_zero]
  refine wl rfl (ptr gp) _ (run_extZ (.tmp 43) 0 rfl #[(ptr gp), (.int .i64 0)] rfl (ptr gp) rfl) ?_
  simp only [Act.put, List.setIfInBounds_toArray, List.set_cons_succ, List.set_cons_zero]
  refine wl rfl (.int .i64 0) _ (run_extZ (.tmp 43) 1 rfl #[(ptr gp), (.int .i64 0)] rfl (.int .i64 0) rfl) ?_
  simp only [Act.put, List.setIfInBounds_toArray, List.set_cons_succ, List.set_cons_zero]
  refine wl rfl (ptr gp) _ (run_asZ (.tmp 46) rfl (ptr gp) rfl) ?_
  simp only [Act.put, List.setIfInBounds_toArray, List.set_cons_succ, List.set_cons_zero]
  refine wl rfl (.int .i64 0) _ (run_asZ (.tmp 47) rfl (.int .i64 0) rfl) ?_
  simp only [Act.put, List.setIfInBounds_toArray, List.set_cons_succ, List.set_cons_zero]
  refine wpList_nil ?_
  go_upto_region 7 with fail
  refine wp_region_lit ?_
  refine wl rfl (.int .i64 0) _ (run_mvZ (.tmp 10) rfl (.int .i64 0) rfl) ?_
  simp only [Act.put, List.setIfInBounds_toArray, List.set_cons_succ, List.set_cons_zero]
  refine wl rfl (.bool false) _ (run_neZ (.tmp 48) (.const (.int .i64 0)) rfl (0) (0) rfl rfl false rfl) ?_
  simp only [Act.put, List.setIfInBounds_toArray, List.set_cons_succ, List.set_cons_zero]
  refine wl rfl (.bool false) _ (run_mvZ (.tmp 49) rfl (.bool false) rfl) ?_
  simp only [Act.put, List.setIfInBounds_toArray, List.set_cons_succ, List.set_cons_zero]
  refine wl (by kernel_rfl) (ptr gp) _ (run_mvZ (.tmp 11) rfl (ptr gp) rfl) ?_
  simp only [Act.put, List.setIfInBounds_toArray, List.set_cons_succ, List.set_cons_zero]
  refine wl (by kernel_rfl) (.bool false) _ (run_binOp' (.tmp 51) (.const (.pointer none)) rfl _ _ _ rfl rfl rfl (by kernel_rfl)) ?_
  simp only [Act.put, List.setIfInBounds_toArray, List.set_cons_succ, List.set_cons_zero]
  refine wl rfl (.bool false) _ (run_pickZ (.tmp 50) (.const (.bool true)) (.tmp 52) rfl false (.bool false) rfl rfl) ?_
  simp only [Act.put, List.setIfInBounds_toArray, List.set_cons_succ, List.set_cons_zero]
  refine wl rfl (.bool false) _ (run_mvZ (.tmp 53) rfl (.bool false) rfl) ?_
  simp only [Act.put, List.setIfInBounds_toArray, List.set_cons_succ, List.set_cons_zero]
  refine wl (by kernel_rfl) (.int .i64 0) _ (run_mvZ (.tmp 12) rfl (.int .i64 0) rfl) ?_
  simp only [Act.put, List.setIfInBounds_toArray, List.set_cons_succ, List.set_cons_zero]
  refine wl (by kernel_rfl) (.bool false) _ (run_neZ (.tmp 55) (.const (.int .i64 0)) rfl (0) (0) rfl rfl false rfl) ?_
  simp only [Act.put, List.setIfInBounds_toArray, List.set_cons_succ, List.set_cons_zero]
  refine wl rfl (.bool false) _ (run_pickZ (.tmp 54) (.const (.bool true)) (.tmp 56) rfl false (.bool false) rfl rfl) ?_
  simp only [Act.put, List.setIfInBounds_toArray, List.set_cons_succ, List.set_cons_zero]
  refine wpList_nil ?_
  go_upto_region 9 with fail
  refine wp_region_lit ?_
  refine wl rfl (.slice (some ⟨W5.heap.size, 0, none⟩) 0 0) _ (run_lit0 rfl) ?_
  have HQ : Hid (KpS w first gp g 0 0 c4 m4 zX (.slice (some ⟨W5.heap.size, 0, none⟩) 0 0) [] (W5.alloc (.cells #[] 3))) := ⟨Nat.zero_le _, by decide, Nat.le_refl _, H5.out.2, rfl, H5.out.1.bel (below_alloc W5 _), AtIn.nil H5.out.1, fun j hj => absurd hj (Nat.not_lt_zero _)⟩
  obtain ⟨W6, hW_⟩ : ∃ W, W = W5.alloc (.cells #[] 3) := ⟨_, rfl⟩
  obtain ⟨va, hv_⟩ : ∃ v, v = Value.slice (some ⟨W5.heap.size, 0, none⟩) 0 0 := ⟨_, rfl⟩
  rw [← hW_, ← hv_] at HQ
  rw [← hW_, ← hv_]
  clear hW_ hv_ H5
  simp only [Act.put, List.setIfInBounds_toArray, List.set_cons_succ, List.set_cons_zero]
  refine wl rfl va _ (run_asZ (.tmp 58) rfl va rfl) ?_
  simp only [Act.put, List.setIfInBounds_toArray, List.set_cons_succ, List.set_cons_zero]
  refine wpList_nil ?_
  go_upto_region 10 with fail
  refine wp_region_lit ?_
  refine wl rfl (.int .i64 0) _ (run_asZ (.const (.int .i64 0)) rfl (.int .i64 0) rfl) ?_
  simp only [Act.put, List.setIfInBounds_toArray, List.set_cons_succ, List.set_cons_zero]
  refine wpList_nil ?_
  go_wp2_with fail
  go_loopw [13, 14] (fun va vi W => ∃ (i n : Nat) (c : Nat → Colour) (m : Pl) (X : Nat → List Nat) (l : List Int), vi = .int .i64 (i : Nat) ∧ KpS w first gp g i n c m X va l W) (fun _ vi _ => 20 - (intOf vi).toNat)
  case atStart => exact ⟨0, 0, c4, m4, zX, [], rfl, HQ.out⟩
  case round =>
    obtain ⟨i, n, c, m, X, l, rfl, hst⟩ := hrel
    have HS : Hid (KpS w first gp g i n c m X u13 l wr) := hst
    clear hst HQ
    by_cases hlt : i < n0
    · by_cases hi2 : i < 20
      · have h1 : decide ((i : Int) < (n0 : Int)) = true := decide_eq_true (by omega)
        have h2 : decide ((i : Int) < (20 : Int)) = true := decide_eq_true (by omega)
        go_upto_region 11 with fail
        refine wp_region_lit ?_
        refine wl rfl (.int .i64 (i : Nat)) _ (run_mvZ (.tmp 14) rfl (.int .i64 (i : Nat)) rfl) ?_
        simp only [Act.put, List.setIfInBounds_toArray, List.set_cons_succ, List.set_cons_zero]
        refine wl rfl (.slice p0 n0 cap0) _ (run_mvZ (.tmp 0) rfl (.slice p0 n0 cap0) rfl) ?_
        simp only [Act.put, List.setIfInBounds_toArray, List.set_cons_succ, List.set_cons_zero]
        refine wl rfl (.int .i64 (n0 : Nat)) _ (run_lenZ sl50 (.tmp 60) rfl p0 n0 cap0 rfl) ?_
        simp only [Act.put, List.setIfInBounds_toArray, List.set_cons_succ, List.set_cons_zero]
        refine wl rfl (.bool true) _ (run_lssZ (.tmp 59) (.tmp 61) rfl _ _ rfl rfl true h1) ?_
        simp only [Act.put, List.setIfInBounds_toArray, List.set_cons_succ, List.set_cons_zero]
        refine wl rfl (.bool true) _ (run_mvZ (.tmp 62) rfl (.bool true) rfl) ?_
        simp only [Act.put, List.setIfInBounds_toArray, List.set_cons_succ, List.set_cons_zero]
        refine wl (by kernel_rfl) (.int .i64 (i : Nat)) _ (run_mvZ (.tmp 14) rfl (.int .i64 (i : Nat)) rfl) ?_
        simp only [Act.put, List.setIfInBounds_toArray, List.set_cons_succ, List.set_cons_zero]
        refine wl (by kernel_rfl) (.bool true) _ (run_lssZ (.tmp 64) (.const (.int .i64 20)) rfl _ _ rfl rfl true h2) ?_
        simp only [Act.put, List.setIfInBounds_toArray, List.set_cons_succ, List.set_cons_zero]
        refine wl rfl (.bool true) _ (run_pickZ (.tmp 63) (.tmp 65) (.const (.bool false)) rfl true (.bool true) rfl rfl) ?_
        simp only [Act.put, List.setIfInBounds_toArray, List.set_cons_succ, List.set_cons_zero]
        refine wpList_nil ?_
        obtain ⟨fb, fo, pu, cu, hp0, hul, hu⟩ := HR.out.at i (by rw [← HN.out.1]; exact hlt)
        subst hp0
        obtain ⟨hu1, hu2⟩ := hu wr HS.out.st.pl.below
        obtain ⟨ul, hue⟩ : ∃ ul, ul = (first.getD i []).length := ⟨_, rfl⟩
        rw [← hue] at hu1 hu2 hul
        have HU : Hid (wr.cell? ⟨fb, fo + i, none⟩ = some (.slice pu ul cu) ∧ SliceIn wr (.slice pu ul cu) (first.getD i []) ∧ ul = (first.getD i []).length) := ⟨hu1, hu2, hue⟩
        clear hu1 hu2 hue
        have HIL : Hid (i < first.length) := by show _ < _; rw [← HN.out.1]; exact hlt
        go_upto_region 13 with fail
        refine wp_region_lit ?_
        refine wl rfl (ptr gp) _ (run_mvZ (.tmp 11) rfl (ptr gp) rfl) ?_
        simp only [Act.put, List.setIfInBounds_toArray, List.set_cons_succ, List.set_cons_zero]
        refine wl rfl (.slice (some ⟨fb, fo, none⟩) n0 cap0) _ (run_mvZ (.tmp 0) rfl (.slice (some ⟨fb, fo, none⟩) n0 cap0) rfl) ?_
        simp only [Act.put, List.setIfInBounds_toArray, List.set_cons_succ, List.set_cons_zero]
        refine wl rfl (.int .i64 (i : Nat)) _ (run_mvZ (.tmp 14) rfl (.int .i64 (i : Nat)) rfl) ?_
        simp only [Act.put, List.setIfInBounds_toArray, List.set_cons_succ, List.set_cons_zero]
        refine wl rfl (.pointer (some ⟨fb, fo + i, none⟩)) _ (run_ix50 (.tmp 71) (.tmp 72) rfl fb fo n0 cap0 i rfl rfl hlt) ?_
        simp only [Act.put, List.setIfInBounds_toArray, List.set_cons_succ, List.set_cons_zero]
        refine wl rfl (.slice pu ul cu) _ (run_load1 o38' (.tmp 73) rfl fb (fo + i) rfl (.slice pu ul cu) HU.out.1) ?_
        simp only [Act.put, List.setIfInBounds_toArray, List.set_cons_succ, List.set_cons_zero]
        refine wpList_callW eN15 [.tmp 70, .tmp 74] _ rfl rfl [(ptr gp), (.slice pu ul cu)] rfl ?_
        refine (KpS.put HS.out hi2 _ HU.out.2.1).mono ?_
        rintro e W6 ⟨k6, er, n2, c6, m6, X6, rfl, a_⟩
        refine ⟨_, rfl, ?_⟩
        simp only [Act.put, List.setIfInBounds_toArray, List.set_cons_succ, List.set_cons_zero]
        refine wl rfl (.tuple #[(.int .i64 (k6 : Nat)), (.int .i64 er)]) _ (run_mvZ (.tmp 75) rfl (.tuple #[(.int .i64 (k6 : Nat)), (.int .i64 er)]) rfl) ?_
        simp only [Act.put, List.setIfInBounds_toArray, List.set_cons_succ, List.set_cons_zero]
        refine wl rfl (.int .i64 (k6 : Nat)) _ (run_extZ (.tmp 69) 0 rfl #[(.int .i64 (k6 : Nat)), (.int .i64 er)] rfl (.int .i64 (k6 : Nat)) rfl) ?_
        simp only [Act.put, List.setIfInBounds_toArray, List.set_cons_succ, List.set_cons_zero]
        refine wl rfl (.int .i64 er) _ (run_extZ (.tmp 69) 1 rfl #[(.int .i64 (k6 : Nat)), (.int .i64 er)] rfl (.int .i64 er) rfl) ?_
        simp only [Act.put, List.setIfInBounds_toArray, List.set_cons_succ, List.set_cons_zero]
        refine wl rfl (.int .i64 (k6 : Nat)) _ (run_asZ (.tmp 76) rfl (.int .i64 (k6 : Nat)) rfl) ?_
        simp only [Act.put, List.setIfInBounds_toArray, List.set_cons_succ, List.set_cons_zero]
        refine wl rfl (.int .i64 er) _ (run_asZ (.tmp 77) rfl (.int .i64 er) rfl) ?_
        simp only [Act.put, List.setIfInBounds_toArray, List.set_cons_succ, List.set_cons_zero]
        refine wpList_nil ?_
        rcases a_ with ⟨rfl, a2, h_⟩ | ⟨rfl, a2, h_⟩
        · have H6 : Hid (KpM w first gp g i n2 c6 m6 X6 u13 l ((k6 : Nat) : Int) W6) := h_
          have HU2 : Hid (W6.cell? ⟨fb, fo + i, none⟩ = some (.slice pu ul cu)) := by
            obtain ⟨fb2, fo2, pu2, cu2, e1, _, e2⟩ := HR.out.at i HIL.out
            injection e1 with e1
            injection e1 with e1 e3
            subst e1 e3
            have e4 := (e2 W6 h_.st.pl.below).1
            have e5 := (e2 wr HS.out.st.pl.below).1
            rw [HU.out.1] at e5
            rw [← e5] at e4
            exact e4
          have d1 : decide ((ul : Int) ≤ (500 : Int)) = true := decide_eq_true (by rw [HU.out.2.2]; omega)
          clear h_ HS HU a2
          go_upto_region 14 with fail
          refine wp_region_lit ?_
          refine wl rfl (.int .i64 0) _ (run_mvZ (.tmp 16) rfl (.int .i64 0) rfl) ?_
          simp only [Act.put, List.setIfInBounds_toArray, List.set_cons_succ, List.set_cons_zero]
          refine wl rfl (.bool true) _ (run_eqZ (.tmp 78) (.const (.int .i64 0)) rfl (0) (0) rfl rfl true rfl) ?_
          simp only [Act.put, List.setIfInBounds_toArray, List.set_cons_succ, List.set_cons_zero]
          refine wl rfl (.slice (some ⟨fb, fo, none⟩) n0 cap0) _ (run_mvZ (.tmp 0) rfl (.slice (some ⟨fb, fo, none⟩) n0 cap0) rfl) ?_
          simp only [Act.put, List.setIfInBounds_toArray, List.set_cons_succ, List.set_cons_zero]
          refine wl rfl (.int .i64 (i : Nat)) _ (run_mvZ (.tmp 14) rfl (.int .i64 (i : Nat)) rfl) ?_
          simp only [Act.put, List.setIfInBounds_toArray, List.set_cons_succ, List.set_cons_zero]
          refine wl rfl (.pointer (some ⟨fb, fo + i, none⟩)) _ (run_ix50 (.tmp 80) (.tmp 81) rfl fb fo n0 cap0 i rfl rfl hlt) ?_
          simp only [Act.put, List.setIfInBounds_toArray, List.set_cons_succ, List.set_cons_zero]
          refine wl rfl (.slice pu ul cu) _ (run_load1 o38' (.tmp 82) rfl fb (fo + i) rfl (.slice pu ul cu) HU2.out) ?_
          simp only [Act.put, List.setIfInBounds_toArray, List.set_cons_succ, List.set_cons_zero]
          refine wl rfl (.int .i64 (ul : Nat)) _ (run_lenZ sl38 (.tmp 83) rfl pu ul cu rfl) ?_
          simp only [Act.put, List.setIfInBounds_toArray, List.set_cons_succ, List.set_cons_zero]
          refine wl rfl (.bool true) _ (run_leqZ (.tmp 84) (.const (.int .i64 500)) rfl _ _ rfl rfl true d1) ?_
          simp only [Act.put, List.setIfInBounds_toArray, List.set_cons_succ, List.set_cons_zero]
          refine wl rfl (.bool false) _ (run_neB (.tmp 79) (.tmp 85) rfl true rfl rfl) ?_
          simp only [Act.put, List.setIfInBounds_toArray, List.set_cons_succ, List.set_cons_zero]
          refine wpList_nil ?_
          go_upto_region 16 with fail
          refine wp_region_lit ?_
          refine wl rfl (.int .i64 0) _ (run_mvZ (.tmp 16) rfl (.int .i64 0) rfl) ?_
          simp only [Act.put, List.setIfInBounds_toArray, List.set_cons_succ, List.set_cons_zero]
          refine wl rfl (.bool false) _ (run_neZ (.tmp 87) (.const (.int .i64 0)) rfl (0) (0) rfl rfl false rfl) ?_
          simp only [Act.put, List.setIfInBounds_toArray, List.set_cons_succ, List.set_cons_zero]
          refine wpList_nil ?_
          go_upto_region 18 with fail
          refine wp_region_lit ?_
          refine wl rfl u13 _ (run_mvZ (.tmp 13) rfl u13 rfl) ?_
          simp only [Act.put, List.setIfInBounds_toArray, List.set_cons_succ, List.set_cons_zero]
          refine wl rfl (.int .i64 (k6 : Nat)) _ (run_mvZ (.tmp 15) rfl (.int .i64 (k6 : Nat)) rfl) ?_
          simp only [Act.put, List.setIfInBounds_toArray, List.set_cons_succ, List.set_cons_zero]
          refine wl rfl (.slice (some ⟨W6.heap.size, 0, none⟩) 1 1) _ (run_lit28 (.tmp 90) rfl ((k6 : Nat) : Int) rfl) ?_
          simp only [Act.put, List.setIfInBounds_toArray, List.set_cons_succ, List.set_cons_zero]
          obtain ⟨v7, W7, hr7, h_⟩ := KpM.push H6.out HIL.out hi2 _
          refine wl rfl v7 W7 (run_app28 (.tmp 89) (.tmp 91) rfl _ _ v7 W7 rfl rfl hr7) ?_
          have H7 : Hid (KpS w first gp g (i + 1) n2 c6 m6 X6 v7 (l ++ [((k6 : Nat) : Int)]) W7) := h_
          clear h_ hr7 H6
          simp only [Act.put, List.setIfInBounds_toArray, List.set_cons_succ, List.set_cons_zero]
          refine wl rfl v7 _ (run_asZ (.tmp 92) rfl v7 rfl) ?_
          simp only [Act.put, List.setIfInBounds_toArray, List.set_cons_succ, List.set_cons_zero]
          refine wpList_nil ?_
          go_wp2_with fail
          refine ⟨⟨i + 1, n2, c6, m6, X6, l ++ [((k6 : Nat) : Int)], by go_num, H7.out⟩, ?_⟩
          simp [intOf]; omega
        · have H6 : Hid (KpM w first gp g i n2 c6 m6 X6 u13 l (-1) W6) := h_
          have HU2 : Hid (W6.cell? ⟨fb, fo + i, none⟩ = some (.slice pu ul cu)) := by
            obtain ⟨fb2, fo2, pu2, cu2, e1, _, e2⟩ := HR.out.at i HIL.out
            injection e1 with e1
            injection e1 with e1 e3
            subst e1 e3
            have e4 := (e2 W6 h_.st.pl.below).1
            have e5 := (e2 wr HS.out.st.pl.below).1
            rw [HU.out.1] at e5
            rw [← e5] at e4
            exact e4
          have d1 : decide ((ul : Int) ≤ (500 : Int)) = false := decide_eq_false (by rw [HU.out.2.2]; omega)
          clear h_ HS HU a2
          go_upto_region 14 with fail
          refine wp_region_lit ?_
          refine wl rfl (.int .i64 5) _ (run_mvZ (.tmp 16) rfl (.int .i64 5) rfl) ?_
          simp only [Act.put, List.setIfInBounds_toArray, List.set_cons_succ, List.set_cons_zero]
          refine wl rfl (.bool false) _ (run_eqZ (.tmp 78) (.const (.int .i64 0)) rfl (5) (0) rfl rfl false rfl) ?_
          simp only [Act.put, List.setIfInBounds_toArray, List.set_cons_succ, List.set_cons_zero]
          refine wl rfl (.slice (some ⟨fb, fo, none⟩) n0 cap0) _ (run_mvZ (.tmp 0) rfl (.slice (some ⟨fb, fo, none⟩) n0 cap0) rfl) ?_
          simp only [Act.put, List.setIfInBounds_toArray, List.set_cons_succ, List.set_cons_zero]
          refine wl rfl (.int .i64 (i : Nat)) _ (run_mvZ (.tmp 14) rfl (.int .i64 (i : Nat)) rfl) ?_
          simp only [Act.put, List.setIfInBounds_toArray, List.set_cons_succ, List.set_cons_zero]
          refine wl rfl (.pointer (some ⟨fb, fo + i, none⟩)) _ (run_ix50 (.tmp 80) (.tmp 81) rfl fb fo n0 cap0 i rfl rfl hlt) ?_
          simp only [Act.put, List.setIfInBounds_toArray, List.set_cons_succ, List.set_cons_zero]
          refine wl rfl (.slice pu ul cu) _ (run_load1 o38' (.tmp 82) rfl fb (fo + i) rfl (.slice pu ul cu) HU2.out) ?_
          simp only [Act.put, List.setIfInBounds_toArray, List.set_cons_succ, List.set_cons_zero]
          refine wl rfl (.int .i64 (ul : Nat)) _ (run_lenZ sl38 (.tmp 83) rfl pu ul cu rfl) ?_
          simp only [Act.put, List.setIfInBounds_toArray, List.set_cons_succ, List.set_cons_zero]
          refine wl rfl (.bool false) _ (run_leqZ (.tmp 84) (.const (.int .i64 500)) rfl _ _ rfl rfl false d1) ?_
          simp only [Act.put, List.setIfInBounds_toArray, List.set_cons_succ, List.set_cons_zero]
          refine wl rfl (.bool false) _ (run_neB (.tmp 79) (.tmp 85) rfl false rfl rfl) ?_
          simp only [Act.put, List.setIfInBounds_toArray, List.set_cons_succ, List.set_cons_zero]
          refine wpList_nil ?_
          go_upto_region 16 with fail
          refine wp_region_lit ?_
          refine wl rfl (.int .i64 5) _ (run_mvZ (.tmp 16) rfl (.int .i64 5) rfl) ?_
          simp only [Act.put, List.setIfInBounds_toArray, List.set_cons_succ, List.set_cons_zero]
          refine wl rfl (.bool true) _ (run_neZ (.tmp 87) (.const (.int .i64 0)) rfl (5) (0) rfl rfl true rfl) ?_
          simp only [Act.put, List.setIfInBounds_toArray, List.set_cons_succ, List.set_cons_zero]
          refine wpList_nil ?_
          go_upto_region 17 with fail
          refine wp_region_lit ?_
          refine wl rfl (.int .i64 (-1)) _ (run_asZ (.const (.int .i64 (-1))) rfl (.int .i64 (-1)) rfl) ?_
          simp only [Act.put, List.setIfInBounds_toArray, List.set_cons_succ, List.set_cons_zero]
          refine wpList_nil ?_
          go_upto_region 18 with fail
          refine wp_region_lit ?_
          refine wl rfl u13 _ (run_mvZ (.tmp 13) rfl u13 rfl) ?_
          simp only [Act.put, List.setIfInBounds_toArray, List.set_cons_succ, List.set_cons_zero]
          refine wl rfl (.int .i64 (-1)) _ (run_mvZ (.tmp 15) rfl (.int .i64 (-1)) rfl) ?_
          simp only [Act.put, List.setIfInBounds_toArray, List.set_cons_succ, List.set_cons_zero]
          refine wl rfl (.slice (some ⟨W6.heap.size, 0, none⟩) 1 1) _ (run_lit28 (.tmp 90) rfl (-1) rfl) ?_
          simp only [Act.put, List.setIfInBounds_toArray, List.set_cons_succ, List.set_cons_zero]
          obtain ⟨v7, W7, hr7, h_⟩ := KpM.push H6.out HIL.out hi2 _
          refine wl rfl v7 W7 (run_app28 (.tmp 89) (.tmp 91) rfl _ _ v7 W7 rfl rfl hr7) ?_
          have H7 : Hid (KpS w first gp g (i + 1) n2 c6 m6 X6 v7 (l ++ [(-1)]) W7) := h_
          clear h_ hr7 H6
          simp only [Act.put, List.setIfInBounds_toArray, List.set_cons_succ, List.set_cons_zero]
          refine wl rfl v7 _ (run_asZ (.tmp 92) rfl v7 rfl) ?_
          simp only [Act.put, List.setIfInBounds_toArray, List.set_cons_succ, List.set_cons_zero]
          refine wpList_nil ?_
          go_wp2_with fail
          refine ⟨⟨i + 1, n2, c6, m6, X6, l ++ [(-1)], by go_num, H7.out⟩, ?_⟩
          simp [intOf]; omega
      · have h1 : decide ((i : Int) < (n0 : Int)) = true := decide_eq_true (by omega)
        have h2 : decide ((i : Int) < (20 : Int)) = false := decide_eq_false (by omega)
        go_upto_region 11 with fail
        refine wp_region_lit ?_
        refine wl rfl (.int .i64 (i : Nat)) _ (run_mvZ (.tmp 14) rfl (.int .i64 (i : Nat)) rfl) ?_
        simp only [Act.put, List.setIfInBounds_toArray, List.set_cons_succ, List.set_cons_zero]
        refine wl rfl (.slice p0 n0 cap0) _ (run_mvZ (.tmp 0) rfl (.slice p0 n0 cap0) rfl) ?_
        simp only [Act.put, List.setIfInBounds_toArray, List.set_cons_succ, List.set_cons_zero]
        refine wl rfl (.int .i64 (n0 : Nat)) _ (run_lenZ sl50 (.tmp 60) rfl p0 n0 cap0 rfl) ?_
        simp only [Act.put, List.setIfInBounds_toArray, List.set_cons_succ, List.set_cons_zero]
        refine wl rfl (.bool true) _ (run_lssZ (.tmp 59) (.tmp 61) rfl _ _ rfl rfl true h1) ?_
        simp only [Act.put, List.setIfInBounds_toArray, List.set_cons_succ, List.set_cons_zero]
        refine wl rfl (.bool true) _ (run_mvZ (.tmp 62) rfl (.bool true) rfl) ?_
        simp only [Act.put, List.setIfInBounds_toArray, List.set_cons_succ, List.set_cons_zero]
        refine wl (by kernel_rfl) (.int .i64 (i : Nat)) _ (run_mvZ (.tmp 14) rfl (.int .i64 (i : Nat)) rfl) ?_
        simp only [Act.put, List.setIfInBounds_toArray, List.set_cons_succ, List.set_cons_zero]
        refine wl (by kernel_rfl) (.bool false) _ (run_lssZ (.tmp 64) (.const (.int .i64 20)) rfl _ _ rfl rfl false h2) ?_
        simp only [Act.put, List.setIfInBounds_toArray, List.set_cons_succ, List.set_cons_zero]
        refine wl rfl (.bool false) _ (run_pickZ (.tmp 63) (.tmp 65) (.const (.bool false)) rfl true (.bool false) rfl rfl) ?_
        simp only [Act.put, List.setIfInBounds_toArray, List.set_cons_succ, List.set_cons_zero]
        refine wpList_nil ?_
        clear h1 h2
        have HE : Hid (l.length ≤ 20 ∧ n ≤ 20 ∧ l.length ≤ n0) := ⟨by rw [HS.out.len]; exact HS.out.le20, Nat.le_trans HS.out.nle HS.out.le20, by rw [HS.out.len, HN.out.1]; exact HS.out.le⟩
        obtain ⟨ab, acap, hva⟩ := HS.out.ats.sl
        subst hva
        clear hlt
        go_upto_region 19 with fail
        refine wp_region_lit ?_
        refine wl rfl (.int .i64 (-1)) _ (run_asZ (.const (.int .i64 (-1))) rfl (.int .i64 (-1)) rfl) ?_
        simp only [Act.put, List.setIfInBounds_toArray, List.set_cons_succ, List.set_cons_zero]
        refine wpList_nil ?_
        go_upto_region 20 with fail
        refine wp_region_lit ?_
        refine wl rfl (.int .i64 0) _ (run_asZ (.const (.int .i64 0)) rfl (.int .i64 0) rfl) ?_
        simp only [Act.put, List.setIfInBounds_toArray, List.set_cons_succ, List.set_cons_zero]
        refine wpList_nil ?_
        go_wp2_with fail
        go_loopw [17, 18] (fun vr vj W => ∃ (r : Int) (j : Nat), vr = .int .i64 r ∧ vj = .int .i64 (j : Nat) ∧ j ≤ l.length ∧ (r = -1 ∨ ∃ k : Nat, k < n ∧ r = (k : Int)) ∧ KpS w first gp g i n c m X (.slice (some ⟨ab, 0, none⟩) l.length acap) l W) (fun _ vj _ => l.length - (intOf vj).toNat)
        case atStart => exact ⟨-1, 0, rfl, rfl, Nat.zero_le _, Or.inl rfl, HS.out⟩
        case round =>
          obtain ⟨r, j, rfl, rfl, hjl, hr, hst⟩ := hrel
          have HM : Hid (KpS w first gp g i n c m X (.slice (some ⟨ab, 0, none⟩) l.length acap) l wr) := hst
          have HRR : Hid (r = -1 ∨ ∃ k : Nat, k < n ∧ r = (k : Int)) := hr
          clear hst HS hr
          have hl20 := HE.out.1
          by_cases hj : j < l.length
          · have h1 : decide ((j : Int) < (l.length : Int)) = true := decide_eq_true (by omega)
            go_upto_region 21 with fail
            refine wp_region_lit ?_
            refine wl rfl (.int .i64 (j : Nat)) _ (run_mvZ (.tmp 18) rfl (.int .i64 (j : Nat)) rfl) ?_
            simp only [Act.put, List.setIfInBounds_toArray, List.set_cons_succ, List.set_cons_zero]
            refine wl rfl (.slice (some ⟨ab, 0, none⟩) l.length acap) _ (run_mvZ (.tmp 13) rfl (.slice (some ⟨ab, 0, none⟩) l.length acap) rfl) ?_
            simp only [Act.put, List.setIfInBounds_toArray, List.set_cons_succ, List.set_cons_zero]
            refine wl rfl (.int .i64 (l.length : Nat)) _ (run_lenZ sl28 (.tmp 94) rfl (some ⟨ab, 0, none⟩) l.length acap rfl) ?_
            simp only [Act.put, List.setIfInBounds_toArray, List.set_cons_succ, List.set_cons_zero]
            refine wl rfl (.bool true) _ (run_lssZ (.tmp 93) (.tmp 95) rfl _ _ rfl rfl true h1) ?_
            simp only [Act.put, List.setIfInBounds_toArray, List.set_cons_succ, List.set_cons_zero]
            refine wpList_nil ?_
            have hcell := HM.out.ats.at j hj
            obtain ⟨x, hx⟩ : ∃ x, x = l.getD j 0 := ⟨_, rfl⟩
            rw [← hx] at hcell
            have HC : Hid (wr.cell? ⟨ab, 0 + j, none⟩ = some (.int .i64 x)) := hcell
            have hx2 : x = -1 ∨ ∃ k : Nat, k < n ∧ x = (k : Int) := by
              rw [hx]
              rcases HM.out.each j (by rw [← HM.out.len]; exact hj) with ⟨_, e⟩ | ⟨k, k1, _, k3, _⟩
              · exact Or.inl e
              · exact Or.inr ⟨k, k1, k3⟩
            have HR2 : Hid (max r x = -1 ∨ ∃ k : Nat, k < n ∧ max r x = (k : Int)) := by
              rcases HRR.out with e1 | ⟨k1, q1, e1⟩ <;> rcases hx2 with e2 | ⟨k2, q2, e2⟩
              · exact Or.inl (by rw [e1, e2]; rfl)
              · exact Or.inr ⟨k2, q2, by rw [e1, e2]; omega⟩
              · exact Or.inr ⟨k1, q1, by rw [e1, e2]; omega⟩
              · rcases Nat.lt_or_ge k1 k2 with hk | hk
                · exact Or.inr ⟨k2, q2, by rw [e1, e2]; omega⟩
                · exact Or.inr ⟨k1, q1, by rw [e1, e2]; omega⟩
            obtain ⟨r2, hr2⟩ : ∃ r2, max r x = r2 := ⟨_, rfl⟩
            rw [hr2] at HR2
            clear hcell hx hx2
            go_upto_region 23 with fail
            refine wp_region_lit ?_
            refine wl rfl (.int .i64 r) _ (run_mvZ (.tmp 17) rfl (.int .i64 r) rfl) ?_
            simp only [Act.put, List.setIfInBounds_toArray, List.set_cons_succ, List.set_cons_zero]
            refine wl rfl (.slice (some ⟨ab, 0, none⟩) l.length acap) _ (run_mvZ (.tmp 13) rfl (.slice (some ⟨ab, 0, none⟩) l.length acap) rfl) ?_
            simp only [Act.put, List.setIfInBounds_toArray, List.set_cons_succ, List.set_cons_zero]
            refine wl rfl (.int .i64 (j : Nat)) _ (run_mvZ (.tmp 18) rfl (.int .i64 (j : Nat)) rfl) ?_
            simp only [Act.put, List.setIfInBounds_toArray, List.set_cons_succ, List.set_cons_zero]
            refine wl rfl (.pointer (some ⟨ab, 0 + j, none⟩)) _ (run_ix28 (.tmp 100) (.tmp 101) rfl ab 0 l.length acap j rfl rfl hj) ?_
            simp only [Act.put, List.setIfInBounds_toArray, List.set_cons_succ, List.set_cons_zero]
            refine wl rfl (.int .i64 x) _ (run_load1 o3 (.tmp 102) rfl ab (0 + j) rfl (.int .i64 x) HC.out) ?_
            simp only [Act.put, List.setIfInBounds_toArray, List.set_cons_succ, List.set_cons_zero]
            refine wl rfl (.int .i64 r2) _ (run_max (.tmp 99) (.tmp 103) rfl r x r2 hr2 rfl rfl) ?_
            simp only [Act.put, List.setIfInBounds_toArray, List.set_cons_succ, List.set_cons_zero]
            refine wl rfl (.int .i64 r2) _ (run_asZ (.tmp 104) rfl (.int .i64 r2) rfl) ?_
            simp only [Act.put, List.setIfInBounds_toArray, List.set_cons_succ, List.set_cons_zero]
            refine wpList_nil ?_
            go_wp2_with fail
            refine ⟨⟨r2, j + 1, rfl, by go_num, by omega, HR2.out, HM.out⟩, ?_⟩
            simp [intOf]; omega
          · have h1 : decide ((j : Int) < (l.length : Int)) = false := decide_eq_false (by omega)
            go_upto_region 21 with fail
            refine wp_region_lit ?_
            refine wl rfl (.int .i64 (j : Nat)) _ (run_mvZ (.tmp 18) rfl (.int .i64 (j : Nat)) rfl) ?_
            simp only [Act.put, List.setIfInBounds_toArray, List.set_cons_succ, List.set_cons_zero]
            refine wl rfl (.slice (some ⟨ab, 0, none⟩) l.length acap) _ (run_mvZ (.tmp 13) rfl (.slice (some ⟨ab, 0, none⟩) l.length acap) rfl) ?_
            simp only [Act.put, List.setIfInBounds_toArray, List.set_cons_succ, List.set_cons_zero]
            refine wl rfl (.int .i64 (l.length : Nat)) _ (run_lenZ sl28 (.tmp 94) rfl (some ⟨ab, 0, none⟩) l.length acap rfl) ?_
            simp only [Act.put, List.setIfInBounds_toArray, List.set_cons_succ, List.set_cons_zero]
            refine wl rfl (.bool false) _ (run_lssZ (.tmp 93) (.tmp 95) rfl _ _ rfl rfl false h1) ?_
            simp only [Act.put, List.setIfInBounds_toArray, List.set_cons_succ, List.set_cons_zero]
            refine wpList_nil ?_
            clear h1 hj hjl
            go_upto_region 24 with fail
            refine wp_region_lit ?_
            refine wl rfl (ptr gp) _ (run_mvZ (.tmp 11) rfl (ptr gp) rfl) ?_
            simp only [Act.put, List.setIfInBounds_toArray, List.set_cons_succ, List.set_cons_zero]
            refine wl rfl (.int .i64 r) _ (run_mvZ (.tmp 17) rfl (.int .i64 r) rfl) ?_
            simp only [Act.put, List.setIfInBounds_toArray, List.set_cons_succ, List.set_cons_zero]
            refine wpList_callW eN19 [.tmp 105, .tmp 106] _ rfl rfl [(ptr gp), (.int .i64 r)] rfl ?_
            refine (KpS.com HM.out r HRR.out).mono ?_
            rintro e W7 ⟨rfl, c7, m7, h_⟩
            refine ⟨_, rfl, ?_⟩
            have H7 : Hid (KtS w gp g n r X (.slice (some ⟨ab, 0, none⟩) l.length acap) l 0 c7 m7 (firstU n) X W7) := h_
            have HEA : Hid (∀ j, j < l.length → (500 < (first.getD j []).length ∧ l.getD j 0 = -1) ∨ ∃ k : Nat, k < n ∧ (first.getD j []).length ≤ 500 ∧ l.getD j 0 = (k : Int) ∧ X k = imOf (first.getD j [])) := by
              have h1 := HM.out.each
              have h2 := HM.out.len
              rw [← h2] at h1
              exact h1
            clear h_ HM HRR
            simp only [Act.put, List.setIfInBounds_toArray, List.set_cons_succ, List.set_cons_zero]
            refine wl rfl (.int .i64 0) _ (run_asZ (.tmp 107) rfl (.int .i64 0) rfl) ?_
            simp only [Act.put, List.setIfInBounds_toArray, List.set_cons_succ, List.set_cons_zero]
            refine wpList_nil ?_
            go_upto_region 25 with fail
            refine wp_region_lit ?_
            refine wl rfl (.int .i64 0) _ (run_mvZ (.tmp 19) rfl (.int .i64 0) rfl) ?_
            simp only [Act.put, List.setIfInBounds_toArray, List.set_cons_succ, List.set_cons_zero]
            refine wl rfl (.bool false) _ (run_neZ (.tmp 108) (.const (.int .i64 0)) rfl (0) (0) rfl rfl false rfl) ?_
            simp only [Act.put, List.setIfInBounds_toArray, List.set_cons_succ, List.set_cons_zero]
            refine wpList_nil ?_
            go_upto_region 27 with fail
            refine wp_region_lit ?_
            refine wl rfl (.int .i64 0) _ (run_asZ (.const (.int .i64 0)) rfl (.int .i64 0) rfl) ?_
            simp only [Act.put, List.setIfInBounds_toArray, List.set_cons_succ, List.set_cons_zero]
            refine wpList_nil ?_
            go_wp2_with fail
            go_loopw [20] (fun vt W => ∃ (t : Nat) (c : Nat → Colour) (m : Pl) (U : List Nat) (Y : Nat → List Nat), vt = .int .i64 (t : Nat) ∧ t ≤ n1 ∧ KtS w gp g n r X (.slice (some ⟨ab, 0, none⟩) l.length acap) l t c m U Y W) (fun vt _ => n1 - (intOf vt).toNat)
            case atStart => exact ⟨0, c7, m7, firstU n, X, rfl, Nat.zero_le _, H7.out⟩
            case round =>
              obtain ⟨t, c, m, U, Y, rfl, htn, hst⟩ := hrel
              have HV : Hid (KtS w gp g n r X (.slice (some ⟨ab, 0, none⟩) l.length acap) l t c m U Y wr) := hst
              clear hst H7
              have hn1 := HN1.out.2
              by_cases hlt : t < n1
              · have h1 : decide ((t : Int) < (n1 : Int)) = true := decide_eq_true (by omega)
                go_upto_region 28 with fail
                refine wp_region_lit ?_
                refine wl rfl (.int .i64 (t : Nat)) _ (run_mvZ (.tmp 20) rfl (.int .i64 (t : Nat)) rfl) ?_
                simp only [Act.put, List.setIfInBounds_toArray, List.set_cons_succ, List.set_cons_zero]
                refine wl rfl (.slice p1 n1 cap1) _ (run_mvZ (.tmp 1) rfl (.slice p1 n1 cap1) rfl) ?_
                simp only [Act.put, List.setIfInBounds_toArray, List.set_cons_succ, List.set_cons_zero]
                refine wl rfl (.int .i64 (n1 : Nat)) _ (run_lenZ sl50 (.tmp 111) rfl p1 n1 cap1 rfl) ?_
                simp only [Act.put, List.setIfInBounds_toArray, List.set_cons_succ, List.set_cons_zero]
                refine wl rfl (.bool true) _ (run_lssZ (.tmp 110) (.tmp 112) rfl _ _ rfl rfl true h1) ?_
                simp only [Act.put, List.setIfInBounds_toArray, List.set_cons_succ, List.set_cons_zero]
                refine wpList_nil ?_
                clear h1
                by_cases h3 : t % 3 = 1
                · have d1 : decide (((t % 3 : Nat) : Int) = 1) = true := decide_eq_true (by omega)
                  by_cases h4 : t / 3 < l.length
                  · have d2 : decide (((t / 3 : Nat) : Int) < (l.length : Int)) = true := decide_eq_true (by omega)
                    go_upto_region 30 with fail
                    refine wp_region_lit ?_
                    refine wl rfl (.int .i64 (t : Nat)) _ (run_mvZ (.tmp 20) rfl (.int .i64 (t : Nat)) rfl) ?_
                    simp only [Act.put, List.setIfInBounds_toArray, List.set_cons_succ, List.set_cons_zero]
                    refine wl rfl (.int .i64 ((t % 3 : Nat) : Int)) _ (run_rem3 (.tmp 116) rfl t rfl) ?_
                    simp only [Act.put, List.setIfInBounds_toArray, List.set_cons_succ, List.set_cons_zero]
                    refine wl rfl (.bool true) _ (run_eqZ (.tmp 117) (.const (.int .i64 1)) rfl _ _ rfl rfl true d1) ?_
                    simp only [Act.put, List.setIfInBounds_toArray, List.set_cons_succ, List.set_cons_zero]
                    refine wl rfl (.bool true) _ (run_mvZ (.tmp 118) rfl (.bool true) rfl) ?_
                    simp only [Act.put, List.setIfInBounds_toArray, List.set_cons_succ, List.set_cons_zero]
                    refine wl (by kernel_rfl) (.int .i64 (t : Nat)) _ (run_mvZ (.tmp 20) rfl (.int .i64 (t : Nat)) rfl) ?_
                    simp only [Act.put, List.setIfInBounds_toArray, List.set_cons_succ, List.set_cons_zero]
                    refine wl (by kernel_rfl) (.int .i64 ((t / 3 : Nat) : Int)) _ (run_quo3 (.tmp 120) rfl t (by omega) rfl) ?_
                    simp only [Act.put, List.setIfInBounds_toArray, List.set_cons_succ, List.set_cons_zero]
                    refine wl (by kernel_rfl) (.slice (some ⟨ab, 0, none⟩) l.length acap) _ (run_mvZ (.tmp 13) rfl (.slice (some ⟨ab, 0, none⟩) l.length acap) rfl) ?_
                    simp only [Act.put, List.setIfInBounds_toArray, List.set_cons_succ, List.set_cons_zero]
                    refine wl (by kernel_rfl) (.int .i64 (l.length : Nat)) _ (run_lenZ sl28 (.tmp 122) rfl (some ⟨ab, 0, none⟩) l.length acap rfl) ?_
                    simp only [Act.put, List.setIfInBounds_toArray, List.set_cons_succ, List.set_cons_zero]
                    refine wl (by kernel_rfl) (.bool true) _ (run_lssZ (.tmp 121) (.tmp 123) rfl _ _ rfl rfl true d2) ?_
                    simp only [Act.put, List.setIfInBounds_toArray, List.set_cons_succ, List.set_cons_zero]
                    refine wl rfl (.bool true) _ (run_pickZ (.tmp 119) (.tmp 124) (.const (.bool false)) rfl true (.bool true) rfl rfl) ?_
                    simp only [Act.put, List.setIfInBounds_toArray, List.set_cons_succ, List.set_cons_zero]
                    refine wpList_nil ?_
                    clear d1 d2
                    have hcell := HV.out.ats.at (t / 3) h4
                    obtain ⟨x, hx⟩ : ∃ x, x = l.getD (t / 3) 0 := ⟨_, rfl⟩
                    rw [← hx] at hcell
                    have HC : Hid (wr.cell? ⟨ab, 0 + t / 3, none⟩ = some (.int .i64 x)) := hcell
                    clear hcell hx
                    go_upto_region 31 with fail
                    refine wp_region_lit ?_
                    refine wl rfl (ptr gp) _ (run_mvZ (.tmp 11) rfl (ptr gp) rfl) ?_
                    simp only [Act.put, List.setIfInBounds_toArray, List.set_cons_succ, List.set_cons_zero]
                    refine wl rfl (.slice (some ⟨ab, 0, none⟩) l.length acap) _ (run_mvZ (.tmp 13) rfl (.slice (some ⟨ab, 0, none⟩) l.length acap) rfl) ?_
                    simp only [Act.put, List.setIfInBounds_toArray, List.set_cons_succ, List.set_cons_zero]
                    refine wl rfl (.int .i64 (t : Nat)) _ (run_mvZ (.tmp 20) rfl (.int .i64 (t : Nat)) rfl) ?_
                    simp only [Act.put, List.setIfInBounds_toArray, List.set_cons_succ, List.set_cons_zero]
                    refine wl rfl (.int .i64 ((t / 3 : Nat) : Int)) _ (run_quo3 (.tmp 128) rfl t (by omega) rfl) ?_
                    simp only [Act.put, List.setIfInBounds_toArray, List.set_cons_succ, List.set_cons_zero]
                    refine wl rfl (.pointer (some ⟨ab, 0 + t / 3, none⟩)) _ (run_ix28 (.tmp 127) (.tmp 129) rfl ab 0 l.length acap (t / 3) rfl rfl h4) ?_
                    simp only [Act.put, List.setIfInBounds_toArray, List.set_cons_succ, List.set_cons_zero]
                    refine wl rfl (.int .i64 x) _ (run_load1 o3 (.tmp 130) rfl ab (0 + t / 3) rfl (.int .i64 x) HC.out) ?_
                    simp only [Act.put, List.setIfInBounds_toArray, List.set_cons_succ, List.set_cons_zero]
                    refine wpList_callW eN17 [.tmp 126, .tmp 131] _ rfl rfl [(ptr gp), (.int .i64 x)] rfl ?_
                    refine (KtS.free HV.out (by omega) x).mono ?_
                    rintro e W8 ⟨er8, U8, rfl, h_⟩
                    refine ⟨_, rfl, ?_⟩
                    have H8 : Hid (KtS w gp g n r X (.slice (some ⟨ab, 0, none⟩) l.length acap) l t c m U8 Y W8) := h_
                    clear h_ HV HC
                    simp only [Act.put, List.setIfInBounds_toArray, List.set_cons_succ, List.set_cons_zero]
                    refine wpList_nil ?_
                    obtain ⟨fb, fo, pu, cu, hp0, hul, hu⟩ := HR1.out.at t (by rw [← HN1.out.1]; exact hlt)
                    subst hp0
                    obtain ⟨hu1, hu2⟩ := hu W8 H8.out.st.pl.below
                    obtain ⟨ul, hue⟩ : ∃ ul, ul = (thn.getD t []).length := ⟨_, rfl⟩
                    rw [← hue] at hu1 hu2 hul
                    have HU : Hid (W8.cell? ⟨fb, fo + t, none⟩ = some (.slice pu ul cu) ∧ SliceIn W8 (.slice pu ul cu) (thn.getD t []) ∧ ul = (thn.getD t []).length) := ⟨hu1, hu2, hue⟩
                    clear hu1 hu2 hue
                    go_upto_region 32 with fail
                    refine wp_region_lit ?_
                    refine wl rfl (ptr gp) _ (run_mvZ (.tmp 11) rfl (ptr gp) rfl) ?_
                    simp only [Act.put, List.setIfInBounds_toArray, List.set_cons_succ, List.set_cons_zero]
                    refine wl rfl (.slice (some ⟨fb, fo, none⟩) n1 cap1) _ (run_mvZ (.tmp 1) rfl (.slice (some ⟨fb, fo, none⟩) n1 cap1) rfl) ?_
                    simp only [Act.put, List.setIfInBounds_toArray, List.set_cons_succ, List.set_cons_zero]
                    refine wl rfl (.int .i64 (t : Nat)) _ (run_mvZ (.tmp 20) rfl (.int .i64 (t : Nat)) rfl) ?_
                    simp only [Act.put, List.setIfInBounds_toArray, List.set_cons_succ, List.set_cons_zero]
                    refine wl rfl (.pointer (some ⟨fb, fo + t, none⟩)) _ (run_ix50 (.tmp 134) (.tmp 135) rfl fb fo n1 cap1 t rfl rfl hlt) ?_
                    simp only [Act.put, List.setIfInBounds_toArray, List.set_cons_succ, List.set_cons_zero]
                    refine wl rfl (.slice pu ul cu) _ (run_load1 o38' (.tmp 136) rfl fb (fo + t) rfl (.slice pu ul cu) HU.out.1) ?_
                    simp only [Act.put, List.setIfInBounds_toArray, List.set_cons_succ, List.set_cons_zero]
                    refine wpList_callW eN15 [.tmp 133, .tmp 137] _ rfl rfl [(ptr gp), (.slice pu ul cu)] rfl ?_
                    refine (KtS.put H8.out (by omega) HE.out.2.1 _ _ HU.out.2.1).mono ?_
                    rintro e W9 ⟨k9, er9, c9, m9, U9, Y9, rfl, h_⟩
                    refine ⟨_, rfl, ?_⟩
                    have H9 : Hid (KtS w gp g n r X (.slice (some ⟨ab, 0, none⟩) l.length acap) l (t + 1) c9 m9 U9 Y9 W9) := h_
                    clear h_ H8 HU
                    simp only [Act.put, List.setIfInBounds_toArray, List.set_cons_succ, List.set_cons_zero]
                    refine wpList_nil ?_
                    go_wp2_with fail
                    refine ⟨⟨t + 1, c9, m9, U9, Y9, by go_num, by omega, H9.out⟩, ?_⟩
                    simp [intOf]; omega
                  · have d2 : decide (((t / 3 : Nat) : Int) < (l.length : Int)) = false := decide_eq_false (by omega)
                    go_upto_region 30 with fail
                    refine wp_region_lit ?_
                    refine wl rfl (.int .i64 (t : Nat)) _ (run_mvZ (.tmp 20) rfl (.int .i64 (t : Nat)) rfl) ?_
                    simp only [Act.put, List.setIfInBounds_toArray, List.set_cons_succ, List.set_cons_zero]
                    refine wl rfl (.int .i64 ((t % 3 : Nat) : Int)) _ (run_rem3 (.tmp 116) rfl t rfl) ?_
                    simp only [Act.put, List.setIfInBounds_toArray, List.set_cons_succ, List.set_cons_zero]
                    refine wl rfl (.bool true) _ (run_eqZ (.tmp 117) (.const (.int .i64 1)) rfl _ _ rfl rfl true d1) ?_
                    simp only [Act.put, List.setIfInBounds_toArray, List.set_cons_succ, List.set_cons_zero]
                    refine wl rfl (.bool true) _ (run_mvZ (.tmp 118) rfl (.bool true) rfl) ?_
                    simp only [Act.put, List.setIfInBounds_toArray, List.set_cons_succ, List.set_cons_zero]
                    refine wl (by kernel_rfl) (.int .i64 (t : Nat)) _ (run_mvZ (.tmp 20) rfl (.int .i64 (t : Nat)) rfl) ?_
                    simp only [Act.put, List.setIfInBounds_toArray, List.set_cons_succ, List.set_cons_zero]
                    refine wl (by kernel_rfl) (.int .i64 ((t / 3 : Nat) : Int)) _ (run_quo3 (.tmp 120) rfl t (by omega) rfl) ?_
                    simp only [Act.put, List.setIfInBounds_toArray, List.set_cons_succ, List.set_cons_zero]
                    refine wl (by kernel_rfl) (.slice (some ⟨ab, 0, none⟩) l.length acap) _ (run_mvZ (.tmp 13) rfl (.slice (some ⟨ab, 0, none⟩) l.length acap) rfl) ?_
                    simp only [Act.put, List.setIfInBounds_toArray, List.set_cons_succ, List.set_cons_zero]
                    refine wl (by kernel_rfl) (.int .i64 (l.length : Nat)) _ (run_lenZ sl28 (.tmp 122) rfl (some ⟨ab, 0, none⟩) l.length acap rfl) ?_
                    simp only [Act.put, List.setIfInBounds_toArray, List.set_cons_succ, List.set_cons_zero]
                    refine wl (by kernel_rfl) (.bool false) _ (run_lssZ (.tmp 121) (.tmp 123) rfl _ _ rfl rfl false d2) ?_
                    simp only [Act.put, List.setIfInBounds_toArray, List.set_cons_succ, List.set_cons_zero]
                    refine wl rfl (.bool false) _ (run_pickZ (.tmp 119) (.tmp 124) (.const (.bool false)) rfl true (.bool false) rfl rfl) ?_
                    simp only [Act.put, List.setIfInBounds_toArray, List.set_cons_succ, List.set_cons_zero]
                    refine wpList_nil ?_
                    clear d1 d2
                    obtain ⟨fb, fo, pu, cu, hp0, hul, hu⟩ := HR1.out.at t (by rw [← HN1.out.1]; exact hlt)
                    subst hp0
                    obtain ⟨hu1, hu2⟩ := hu wr HV.out.st.pl.below
                    obtain ⟨ul, hue⟩ : ∃ ul, ul = (thn.getD t []).length := ⟨_, rfl⟩
                    rw [← hue] at hu1 hu2 hul
                    have HU : Hid (wr.cell? ⟨fb, fo + t, none⟩ = some (.slice pu ul cu) ∧ SliceIn wr (.slice pu ul cu) (thn.getD t []) ∧ ul = (thn.getD t []).length) := ⟨hu1, hu2, hue⟩
                    clear hu1 hu2 hue
                    go_upto_region 32 with fail
                    refine wp_region_lit ?_
                    refine wl rfl (ptr gp) _ (run_mvZ (.tmp 11) rfl (ptr gp) rfl) ?_
                    simp only [Act.put, List.setIfInBounds_toArray, List.set_cons_succ, List.set_cons_zero]
                    refine wl rfl (.slice (some ⟨fb, fo, none⟩) n1 cap1) _ (run_mvZ (.tmp 1) rfl (.slice (some ⟨fb, fo, none⟩) n1 cap1) rfl) ?_
                    simp only [Act.put, List.setIfInBounds_toArray, List.set_cons_succ, List.set_cons_zero]
                    refine wl rfl (.int .i64 (t : Nat)) _ (run_mvZ (.tmp 20) rfl (.int .i64 (t : Nat)) rfl) ?_
                    simp only [Act.put, List.setIfInBounds_toArray, List.set_cons_succ, List.set_cons_zero]
                    refine wl rfl (.pointer (some ⟨fb, fo + t, none⟩)) _ (run_ix50 (.tmp 134) (.tmp 135) rfl fb fo n1 cap1 t rfl rfl hlt) ?_
                    simp only [Act.put, List.setIfInBounds_toArray, List.set_cons_succ, List.set_cons_zero]
                    refine wl rfl (.slice pu ul cu) _ (run_load1 o38' (.tmp 136) rfl fb (fo + t) rfl (.slice pu ul cu) HU.out.1) ?_
                    simp only [Act.put, List.setIfInBounds_toArray, List.set_cons_succ, List.set_cons_zero]
                    refine wpList_callW eN15 [.tmp 133, .tmp 137] _ rfl rfl [(ptr gp), (.slice pu ul cu)] rfl ?_
                    refine (KtS.put HV.out (by omega) HE.out.2.1 _ _ HU.out.2.1).mono ?_
                    rintro e W9 ⟨k9, er9, c9, m9, U9, Y9, rfl, h_⟩
                    refine ⟨_, rfl, ?_⟩
                    have H9 : Hid (KtS w gp g n r X (.slice (some ⟨ab, 0, none⟩) l.length acap) l (t + 1) c9 m9 U9 Y9 W9) := h_
                    clear h_ HV HU
                    simp only [Act.put, List.setIfInBounds_toArray, List.set_cons_succ, List.set_cons_zero]
                    refine wpList_nil ?_
                    go_wp2_with fail
                    refine ⟨⟨t + 1, c9, m9, U9, Y9, by go_num, by omega, H9.out⟩, ?_⟩
                    simp [intOf]; omega
                · have d1 : decide (((t % 3 : Nat) : Int) = 1) = false := decide_eq_false (by omega)
                  go_upto_region 30 with fail
                  refine wp_region_lit ?_
                  refine wl rfl (.int .i64 (t : Nat)) _ (run_mvZ (.tmp 20) rfl (.int .i64 (t : Nat)) rfl) ?_
                  simp only [Act.put, List.setIfInBounds_toArray, List.set_cons_succ, List.set_cons_zero]
                  refine wl rfl (.int .i64 ((t % 3 : Nat) : Int)) _ (run_rem3 (.tmp 116) rfl t rfl) ?_
                  simp only [Act.put, List.setIfInBounds_toArray, List.set_cons_succ, List.set_cons_zero]
                  refine wl rfl (.bool false) _ (run_eqZ (.tmp 117) (.const (.int .i64 1)) rfl _ _ rfl rfl false d1) ?_
                  simp only [Act.put, List.setIfInBounds_toArray, List.set_cons_succ, List.set_cons_zero]
                  refine wl rfl (.bool false) _ (run_mvZ (.tmp 118) rfl (.bool false) rfl) ?_
                  simp only [Act.put, List.setIfInBounds_toArray, List.set_cons_succ, List.set_cons_zero]
                  refine wpList_skip (by kernel_rfl) ?_
                  simp only [Act.put, List.setIfInBounds_toArray, List.set_cons_succ, List.set_cons_zero]
                  refine wpList_skip (by kernel_rfl) ?_
                  simp only [Act.put, List.setIfInBounds_toArray, List.set_cons_succ, List.set_cons_zero]
                  refine wpList_skip (by kernel_rfl) ?_
                  simp only [Act.put, List.setIfInBounds_toArray, List.set_cons_succ, List.set_cons_zero]
                  refine wpList_skip (by kernel_rfl) ?_
                  simp only [Act.put, List.setIfInBounds_toArray, List.set_cons_succ, List.set_cons_zero]
                  refine wpList_skip (by kernel_rfl) ?_
                  simp only [Act.put, List.setIfInBounds_toArray, List.set_cons_succ, List.set_cons_zero]
                  refine wl rfl (.bool false) _ (run_pickZ (.tmp 119) (.tmp 124) (.const (.bool false)) rfl false (.bool false) rfl rfl) ?_
                  simp only [Act.put, List.setIfInBounds_toArray, List.set_cons_succ, List.set_cons_zero]
                  refine wpList_nil ?_
                  clear d1
                  obtain ⟨fb, fo, pu, cu, hp0, hul, hu⟩ := HR1.out.at t (by rw [← HN1.out.1]; exact hlt)
                  subst hp0
                  obtain ⟨hu1, hu2⟩ := hu wr HV.out.st.pl.below
                  obtain ⟨ul, hue⟩ : ∃ ul, ul = (thn.getD t []).length := ⟨_, rfl⟩
                  rw [← hue] at hu1 hu2 hul
                  have HU : Hid (wr.cell? ⟨fb, fo + t, none⟩ = some (.slice pu ul cu) ∧ SliceIn wr (.slice pu ul cu) (thn.getD t []) ∧ ul = (thn.getD t []).length) := ⟨hu1, hu2, hue⟩
                  clear hu1 hu2 hue
                  go_upto_region 32 with fail
                  refine wp_region_lit ?_
                  refine wl rfl (ptr gp) _ (run_mvZ (.tmp 11) rfl (ptr gp) rfl) ?_
                  simp only [Act.put, List.setIfInBounds_toArray, List.set_cons_succ, List.set_cons_zero]
                  refine wl rfl (.slice (some ⟨fb, fo, none⟩) n1 cap1) _ (run_mvZ (.tmp 1) rfl (.slice (some ⟨fb, fo, none⟩) n1 cap1) rfl) ?_
                  simp only [Act.put, List.setIfInBounds_toArray, List.set_cons_succ, List.set_cons_zero]
                  refine wl rfl (.int .i64 (t : Nat)) _ (run_mvZ (.tmp 20) rfl (.int .i64 (t : Nat)) rfl) ?_
                  simp only [Act.put, List.setIfInBounds_toArray, List.set_cons_succ, List.set_cons_zero]
                  refine wl rfl (.pointer (some ⟨fb, fo + t, none⟩)) _ (run_ix50 (.tmp 134) (.tmp 135) rfl fb fo n1 cap1 t rfl rfl hlt) ?_
                  simp only [Act.put, List.setIfInBounds_toArray, List.set_cons_succ, List.set_cons_zero]
                  refine wl rfl (.slice pu ul cu) _ (run_load1 o38' (.tmp 136) rfl fb (fo + t) rfl (.slice pu ul cu) HU.out.1) ?_
                  simp only [Act.put, List.setIfInBounds_toArray, List.set_cons_succ, List.set_cons_zero]
                  refine wpList_callW eN15 [.tmp 133, .tmp 137] _ rfl rfl [(ptr gp), (.slice pu ul cu)] rfl ?_
                  refine (KtS.put HV.out (by omega) HE.out.2.1 _ _ HU.out.2.1).mono ?_
                  rintro e W9 ⟨k9, er9, c9, m9, U9, Y9, rfl, h_⟩
                  refine ⟨_, rfl, ?_⟩
                  have H9 : Hid (KtS w gp g n r X (.slice (some ⟨ab, 0, none⟩) l.length acap) l (t + 1) c9 m9 U9 Y9 W9) := h_
                  clear h_ HV HU
                  simp only [Act.put, List.setIfInBounds_toArray, List.set_cons_succ, List.set_cons_zero]
                  refine wpList_nil ?_
                  go_wp2_with fail
                  refine ⟨⟨t + 1, c9, m9, U9, Y9, by go_num, by omega, H9.out⟩, ?_⟩
                  simp [intOf]; omega
              · have h1 : decide ((t : Int) < (n1 : Int)) = false := decide_eq_false (by omega)
                go_upto_region 28 with fail
                refine wp_region_lit ?_
                refine wl rfl (.int .i64 (t : Nat)) _ (run_mvZ (.tmp 20) rfl (.int .i64 (t : Nat)) rfl) ?_
                simp only [Act.put, List.setIfInBounds_toArray, List.set_cons_succ, List.set_cons_zero]
                refine wl rfl (.slice p1 n1 cap1) _ (run_mvZ (.tmp 1) rfl (.slice p1 n1 cap1) rfl) ?_
                simp only [Act.put, List.setIfInBounds_toArray, List.set_cons_succ, List.set_cons_zero]
                refine wl rfl (.int .i64 (n1 : Nat)) _ (run_lenZ sl50 (.tmp 111) rfl p1 n1 cap1 rfl) ?_
                simp only [Act.put, List.setIfInBounds_toArray, List.set_cons_succ, List.set_cons_zero]
                refine wl rfl (.bool false) _ (run_lssZ (.tmp 110) (.tmp 112) rfl _ _ rfl rfl false h1) ?_
                simp only [Act.put, List.setIfInBounds_toArray, List.set_cons_succ, List.set_cons_zero]
                refine wpList_nil ?_
                clear h1 hlt
                go_upto_region 33 with fail
                refine wp_region_lit ?_
                refine wl rfl (ptr g) _ (run_mvZ (.tmp 8) rfl (ptr g) rfl) ?_
                simp only [Act.put, List.setIfInBounds_toArray, List.set_cons_succ, List.set_cons_zero]
                refine wl rfl vk _ (run_mvZ (.tmp 2) rfl vk rfl) ?_
                simp only [Act.put, List.setIfInBounds_toArray, List.set_cons_succ, List.set_cons_zero]
                refine wpList_callW eN26 [.tmp 139, .tmp 140] _ rfl rfl [(ptr g), vk] rfl ?_
                refine (PlW.boot HV.out.st.pl (by omega) _ ks (IntsIn.keep HK.out HV.out.st.pl.below HV.out.st.pl.cc) gp).mono ?_
                rintro e W8 ⟨rfl, c8, s_, h_⟩
                refine ⟨_, rfl, ?_⟩
                have H8 : Hid (PlW w W8 c8 g (m.boot ks) [402] [] 8390000 ∧ PgO (m.boot ks) 0 50 (nextHd (noHd 1) r (firstU n)) (nextHd (noHd 1) r (firstU n)).used Y ∧ AtIn w W8 c8 gp (.slice (some ⟨ab, 0, none⟩) l.length acap) l ∧ ∀ k, k < n → Y k = X k) := ⟨h_.mono (by omega), HV.out.st.o.c.boot ks, HV.out.ats.step s_, HV.out.same⟩
                clear h_ s_ HV
                simp only [Act.put, List.setIfInBounds_toArray, List.set_cons_succ, List.set_cons_zero]
                refine wpList_nil ?_
                go_upto_region 34 with fail
                refine wp_region_lit ?_
                refine wl rfl (ptr g) _ (run_mvZ (.tmp 8) rfl (ptr g) rfl) ?_
                simp only [Act.put, List.setIfInBounds_toArray, List.set_cons_succ, List.set_cons_zero]
                refine wpList_callW eN13 [.tmp 143, .const (.int .i64 0)] _ rfl rfl [(ptr g), .int .i64 0] rfl ?_
                refine (PlW.openZ H8.out.1 (by decide) (by decide) H8.out.2.1).mono ?_
                rintro e W9 ⟨gq, rfl, b_, h_⟩
                refine ⟨_, rfl, ?_⟩
                have H9 : Hid (PgW w W9 c8 gq g (m.boot ks) [402] [] 0 50 (nextHd (noHd 1) r (firstU n)) (nextHd (noHd 1) r (firstU n)).used Y 8390000 ∧ AtIn w W9 c8 gp (.slice (some ⟨ab, 0, none⟩) l.length acap) l) := ⟨h_, H8.out.2.2.1.bel b_⟩
                have HYX : Hid (∀ k, k < n → Y k = X k) := H8.out.2.2.2
                clear h_ b_ H8
                simp only [Act.put, List.setIfInBounds_toArray, List.set_cons_succ, List.set_cons_zero]
                refine wl rfl (.tuple #[(ptr gq), (.int .i64 0)]) _ (run_mvZ (.tmp 144) rfl (.tuple #[(ptr gq), (.int .i64 0)]) rfl) ?_
                simp only [Act.put, List.setIfInBounds_toArray, List.set_cons_succ, List.set_cons_zero]
                refine wl rfl (ptr gq) _ (run_extZ (.tmp 142) 0 rfl #[(ptr gq), (.int .i64 0)] rfl (ptr gq) rfl) ?_
                simp only [Act.put, List.setIfInBounds_toArray, List.set_cons_succ, List.set_cons_zero]
                refine wl rfl (.int .i64 0) _ (run_extZ (.tmp 142) 1 rfl #[(ptr gq), (.int .i64 0)] rfl (.int .i64 0) rfl) ?_
                simp only [Act.put, List.setIfInBounds_toArray, List.set_cons_succ, List.set_cons_zero]
                refine wl rfl (ptr gq) _ (run_asZ (.tmp 145) rfl (ptr gq) rfl) ?_
                simp only [Act.put, List.setIfInBounds_toArray, List.set_cons_succ, List.set_cons_zero]
                refine wl rfl (.int .i64 0) _ (run_asZ (.tmp 146) rfl (.int .i64 0) rfl) ?_
                simp only [Act.put, List.setIfInBounds_toArray, List.set_cons_succ, List.set_cons_zero]
                refine wpList_nil ?_
                have he : (!decide (r = r)) = false := by rw [decide_eq_true rfl]; rfl
                go_upto_region 35 with fail
                refine wp_region_lit ?_
                refine wl rfl (ptr gq) _ (run_mvZ (.tmp 11) rfl (ptr gq) rfl) ?_
                simp only [Act.put, List.setIfInBounds_toArray, List.set_cons_succ, List.set_cons_zero]
                refine wl rfl (.bool false) _ (run_binOp' (.tmp 147) (.const (.pointer none)) rfl _ _ _ rfl rfl rfl (by kernel_rfl)) ?_
                simp only [Act.put, List.setIfInBounds_toArray, List.set_cons_succ, List.set_cons_zero]
                refine wl rfl (.bool false) _ (run_mvZ (.tmp 148) rfl (.bool false) rfl) ?_
                simp only [Act.put, List.setIfInBounds_toArray, List.set_cons_succ, List.set_cons_zero]
                refine wl (by kernel_rfl) (.int .i64 0) _ (run_mvZ (.tmp 9) rfl (.int .i64 0) rfl) ?_
                simp only [Act.put, List.setIfInBounds_toArray, List.set_cons_succ, List.set_cons_zero]
                refine wl (by kernel_rfl) (.bool false) _ (run_neZ (.tmp 150) (.const (.int .i64 0)) rfl (0) (0) rfl rfl false rfl) ?_
                simp only [Act.put, List.setIfInBounds_toArray, List.set_cons_succ, List.set_cons_zero]
                refine wl rfl (.bool false) _ (run_pickZ (.tmp 149) (.const (.bool true)) (.tmp 151) rfl false (.bool false) rfl rfl) ?_
                simp only [Act.put, List.setIfInBounds_toArray, List.set_cons_succ, List.set_cons_zero]
                refine wl rfl (.bool false) _ (run_mvZ (.tmp 152) rfl (.bool false) rfl) ?_
                simp only [Act.put, List.setIfInBounds_toArray, List.set_cons_succ, List.set_cons_zero]
                refine wl (by kernel_rfl) (ptr gq) _ (run_mvZ (.tmp 11) rfl (ptr gq) rfl) ?_
                simp only [Act.put, List.setIfInBounds_toArray, List.set_cons_succ, List.set_cons_zero]
                refine wpList_callW eN27 [.tmp 154] _ (by kernel_rfl) rfl [(ptr gq)] rfl ?_
                refine (show Calls Tryd.prog 27 #[ptr gq] W9 fun e W' => e = .returned (.int .i64 r) ∧ W9 = W' from H9.out.1.root).mono ?_
                rintro e W_ ⟨rfl, rfl⟩
                refine ⟨_, rfl, ?_⟩
                simp only [Act.put, List.setIfInBounds_toArray, List.set_cons_succ, List.set_cons_zero]
                refine wl (by kernel_rfl) (.int .i64 r) _ (run_mvZ (.tmp 17) rfl (.int .i64 r) rfl) ?_
                simp only [Act.put, List.setIfInBounds_toArray, List.set_cons_succ, List.set_cons_zero]
                refine wl (by kernel_rfl) (.bool false) _ (run_neZ (.tmp 155) (.tmp 156) rfl _ _ rfl rfl false he) ?_
                simp only [Act.put, List.setIfInBounds_toArray, List.set_cons_succ, List.set_cons_zero]
                refine wl rfl (.bool false) _ (run_pickZ (.tmp 153) (.const (.bool true)) (.tmp 157) rfl false (.bool false) rfl rfl) ?_
                simp only [Act.put, List.setIfInBounds_toArray, List.set_cons_succ, List.set_cons_zero]
                refine wpList_nil ?_
                go_upto_region 37 with fail
                refine wp_region_lit ?_
                refine wl rfl (.int .i64 0) _ (run_asZ (.const (.int .i64 0)) rfl (.int .i64 0) rfl) ?_
                simp only [Act.put, List.setIfInBounds_toArray, List.set_cons_succ, List.set_cons_zero]
                refine wpList_nil ?_
                clear he
                go_wp2_with fail
                go_loopw [21] (fun vj W => ∃ (j : Nat), vj = .int .i64 (j : Nat) ∧ j ≤ l.length ∧ PgW w W c8 gq g (m.boot ks) [402] [] 0 50 (nextHd (noHd 1) r (firstU n)) (nextHd (noHd 1) r (firstU n)).used Y 8390000 ∧ AtIn w W c8 gp (.slice (some ⟨ab, 0, none⟩) l.length acap) l) (fun vj _ => l.length - (intOf vj).toNat)
                case atStart => exact ⟨0, rfl, Nat.zero_le _, H9.out⟩
                case round =>
                  obtain ⟨j, rfl, hjl, hst⟩ := hrel
                  have HJ : Hid (PgW w wr c8 gq g (m.boot ks) [402] [] 0 50 (nextHd (noHd 1) r (firstU n)) (nextHd (noHd 1) r (firstU n)).used Y 8390000 ∧ AtIn w wr c8 gp (.slice (some ⟨ab, 0, none⟩) l.length acap) l) := hst
                  clear hst H9
                  by_cases hj : j < l.length
                  · have h1 : decide ((j : Int) < (l.length : Int)) = true := decide_eq_true (by omega)
                    go_upto_region 38 with fail
                    refine wp_region_lit ?_
                    refine wl rfl (.int .i64 (j : Nat)) _ (run_mvZ (.tmp 21) rfl (.int .i64 (j : Nat)) rfl) ?_
                    simp only [Act.put, List.setIfInBounds_toArray, List.set_cons_succ, List.set_cons_zero]
                    refine wl rfl (.slice (some ⟨ab, 0, none⟩) l.length acap) _ (run_mvZ (.tmp 13) rfl (.slice (some ⟨ab, 0, none⟩) l.length acap) rfl) ?_
                    simp only [Act.put, List.setIfInBounds_toArray, List.set_cons_succ, List.set_cons_zero]
                    refine wl rfl (.int .i64 (l.length : Nat)) _ (run_lenZ sl28 (.tmp 160) rfl (some ⟨ab, 0, none⟩) l.length acap rfl) ?_
                    simp only [Act.put, List.setIfInBounds_toArray, List.set_cons_succ, List.set_cons_zero]
                    refine wl rfl (.bool true) _ (run_lssZ (.tmp 159) (.tmp 161) rfl _ _ rfl rfl true h1) ?_
                    simp only [Act.put, List.setIfInBounds_toArray, List.set_cons_succ, List.set_cons_zero]
                    refine wpList_nil ?_
                    clear h1
                    have hcell := HJ.out.2.at j hj
                    have hjn : j < n0 := Nat.lt_of_lt_of_le hj HE.out.2.2
                    rcases HEA.out j hj with ⟨_, e1⟩ | ⟨k, k1, k2, k3, k4⟩
                    · rw [e1] at hcell
                      have HC : Hid (wr.cell? ⟨ab, 0 + j, none⟩ = some (.int .i64 (-1))) := hcell
                      clear hcell e1
                      have d1 : decide ((-1 : Int) < 0) = true := rfl
                      go_upto_region 40 with fail
                      refine wp_region_lit ?_
                      refine wl rfl (.slice (some ⟨ab, 0, none⟩) l.length acap) _ (run_mvZ (.tmp 13) rfl (.slice (some ⟨ab, 0, none⟩) l.length acap) rfl) ?_
                      simp only [Act.put, List.setIfInBounds_toArray, List.set_cons_succ, List.set_cons_zero]
                      refine wl rfl (.int .i64 (j : Nat)) _ (run_mvZ (.tmp 21) rfl (.int .i64 (j : Nat)) rfl) ?_
                      simp only [Act.put, List.setIfInBounds_toArray, List.set_cons_succ, List.set_cons_zero]
                      refine wl rfl (.pointer (some ⟨ab, 0 + j, none⟩)) _ (run_ix28 (.tmp 165) (.tmp 166) rfl ab 0 l.length acap j rfl rfl hj) ?_
                      simp only [Act.put, List.setIfInBounds_toArray, List.set_cons_succ, List.set_cons_zero]
                      refine wl rfl (.int .i64 (-1)) _ (run_load1 o3 (.tmp 167) rfl ab (0 + j) rfl (.int .i64 (-1)) HC.out) ?_
                      simp only [Act.put, List.setIfInBounds_toArray, List.set_cons_succ, List.set_cons_zero]
                      refine wl rfl (.bool true) _ (run_lssZ (.tmp 168) (.const (.int .i64 0)) rfl _ _ rfl rfl true d1) ?_
                      simp only [Act.put, List.setIfInBounds_toArray, List.set_cons_succ, List.set_cons_zero]
                      refine wpList_nil ?_
                      go_wp2_with fail
                      refine ⟨⟨j + 1, by go_num, by omega, HJ.out⟩, ?_⟩
                      simp [intOf]; omega
                    · rw [k3] at hcell
                      have HC : Hid (wr.cell? ⟨ab, 0 + j, none⟩ = some (.int .i64 (k : Nat))) := hcell
                      clear hcell k3
                      have d1 : decide ((k : Int) < 0) = false := decide_eq_false (by omega)
                      have HRD : Hid (Calls Tryd.prog 28 #[ptr gq, .int .i64 (k : Nat)] wr fun e W' => ∃ v, e = .returned (.tuple #[v, .int .i64 0]) ∧ Below wr.heap.size wr W' ∧ NewB wr W' v (first.getD j [])) := by
                        have hn20 := HE.out.2.1
                        refine HJ.out.1.readOk (by decide) (k : Int) (first.getD j []) (hasK ⟨n, by omega⟩ ⟨k, by omega⟩ k1) ?_ k2
                        rw [Int.toNat_natCast, HYX.out k k1, k4]
                      obtain ⟨fb, fo, pu, cu, hp0, hul, hu⟩ := HR.out.at j (by rw [← HN.out.1]; exact hjn)
                      subst hp0
                      obtain ⟨hu1, hu2⟩ := hu wr HJ.out.1.pl.below
                      obtain ⟨ul, hue⟩ : ∃ ul, ul = (first.getD j []).length := ⟨_, rfl⟩
                      rw [← hue] at hu1 hu2 hul
                      have HU : Hid (wr.cell? ⟨fb, fo + j, none⟩ = some (.slice pu ul cu) ∧ SliceIn wr (.slice pu ul cu) (first.getD j []) ∧ ul = (first.getD j []).length) := ⟨hu1, hu2, hue⟩
                      clear hu1 hu2 hue
                      go_upto_region 40 with fail
                      refine wp_region_lit ?_
                      refine wl rfl (.slice (some ⟨ab, 0, none⟩) l.length acap) _ (run_mvZ (.tmp 13) rfl (.slice (some ⟨ab, 0, none⟩) l.length acap) rfl) ?_
                      simp only [Act.put, List.setIfInBounds_toArray, List.set_cons_succ, List.set_cons_zero]
                      refine wl rfl (.int .i64 (j : Nat)) _ (run_mvZ (.tmp 21) rfl (.int .i64 (j : Nat)) rfl) ?_
                      simp only [Act.put, List.setIfInBounds_toArray, List.set_cons_succ, List.set_cons_zero]
                      refine wl rfl (.pointer (some ⟨ab, 0 + j, none⟩)) _ (run_ix28 (.tmp 165) (.tmp 166) rfl ab 0 l.length acap j rfl rfl hj) ?_
                      simp only [Act.put, List.setIfInBounds_toArray, List.set_cons_succ, List.set_cons_zero]
                      refine wl rfl (.int .i64 (k : Nat)) _ (run_load1 o3 (.tmp 167) rfl ab (0 + j) rfl (.int .i64 (k : Nat)) HC.out) ?_
                      simp only [Act.put, List.setIfInBounds_toArray, List.set_cons_succ, List.set_cons_zero]
                      refine wl rfl (.bool false) _ (run_lssZ (.tmp 168) (.const (.int .i64 0)) rfl _ _ rfl rfl false d1) ?_
                      simp only [Act.put, List.setIfInBounds_toArray, List.set_cons_succ, List.set_cons_zero]
                      refine wpList_nil ?_
                      go_upto_region 41 with fail
                      refine wp_region_lit ?_
                      refine wl rfl (ptr gq) _ (run_mvZ (.tmp 11) rfl (ptr gq) rfl) ?_
                      simp only [Act.put, List.setIfInBounds_toArray, List.set_cons_succ, List.set_cons_zero]
                      refine wl rfl (.slice (some ⟨ab, 0, none⟩) l.length acap) _ (run_mvZ (.tmp 13) rfl (.slice (some ⟨ab, 0, none⟩) l.length acap) rfl) ?_
                      simp only [Act.put, List.setIfInBounds_toArray, List.set_cons_succ, List.set_cons_zero]
                      refine wl rfl (.int .i64 (j : Nat)) _ (run_mvZ (.tmp 21) rfl (.int .i64 (j : Nat)) rfl) ?_
                      simp only [Act.put, List.setIfInBounds_toArray, List.set_cons_succ, List.set_cons_zero]
                      refine wl rfl (.pointer (some ⟨ab, 0 + j, none⟩)) _ (run_ix28 (.tmp 172) (.tmp 173) rfl ab 0 l.length acap j rfl rfl hj) ?_
                      simp only [Act.put, List.setIfInBounds_toArray, List.set_cons_succ, List.set_cons_zero]
                      refine wl rfl (.int .i64 (k : Nat)) _ (run_load1 o3 (.tmp 174) rfl ab (0 + j) rfl (.int .i64 (k : Nat)) HC.out) ?_
                      simp only [Act.put, List.setIfInBounds_toArray, List.set_cons_succ, List.set_cons_zero]
                      refine wpList_callW eN28 [.tmp 171, .tmp 175] _ rfl rfl [(ptr gq), (.int .i64 (k : Nat))] rfl ?_
                      refine (HRD.out).mono ?_
                      rintro e W12 ⟨rv, rfl, b_, n_⟩
                      refine ⟨_, rfl, ?_⟩
                      have HD : Hid ((PgW w W12 c8 gq g (m.boot ks) [402] [] 0 50 (nextHd (noHd 1) r (firstU n)) (nextHd (noHd 1) r (firstU n)).used Y 8390000 ∧ AtIn w W12 c8 gp (.slice (some ⟨ab, 0, none⟩) l.length acap) l) ∧ SliceIn W12 rv (first.getD j []) ∧ W12.cell? ⟨fb, fo + j, none⟩ = some (.slice pu ul cu) ∧ SliceIn W12 (.slice pu ul cu) (first.getD j [])) := ⟨⟨HJ.out.1.bel b_, HJ.out.2.bel b_⟩, n_.slice HU.out.2.1.lt256 k2, by rw [← HU.out.1]; exact World.cell?_of_block (b_.block fb (block_lt_of_cell HU.out.1)), SliceIn.later b_ HU.out.2.1⟩
                      clear b_ n_ HRD HU HJ HC
                      simp only [Act.put, List.setIfInBounds_toArray, List.set_cons_succ, List.set_cons_zero]
                      refine wl rfl (.tuple #[rv, (.int .i64 0)]) _ (run_mvZ (.tmp 176) rfl (.tuple #[rv, (.int .i64 0)]) rfl) ?_
                      simp only [Act.put, List.setIfInBounds_toArray, List.set_cons_succ, List.set_cons_zero]
                      refine wl rfl rv _ (run_extZ (.tmp 170) 0 rfl #[rv, (.int .i64 0)] rfl rv rfl) ?_
                      simp only [Act.put, List.setIfInBounds_toArray, List.set_cons_succ, List.set_cons_zero]
                      refine wl rfl (.int .i64 0) _ (run_extZ (.tmp 170) 1 rfl #[rv, (.int .i64 0)] rfl (.int .i64 0) rfl) ?_
                      simp only [Act.put, List.setIfInBounds_toArray, List.set_cons_succ, List.set_cons_zero]
                      refine wl rfl rv _ (run_asZ (.tmp 177) rfl rv rfl) ?_
                      simp only [Act.put, List.setIfInBounds_toArray, List.set_cons_succ, List.set_cons_zero]
                      refine wl rfl (.int .i64 0) _ (run_asZ (.tmp 178) rfl (.int .i64 0) rfl) ?_
                      simp only [Act.put, List.setIfInBounds_toArray, List.set_cons_succ, List.set_cons_zero]
                      refine wpList_nil ?_
                      go_upto_region 42 with fail
                      refine wp_region_held (S := fun X => (SliceIn X rv (first.getD j []) ∧ X.cell? ⟨fb, fo + j, none⟩ = some (.slice pu ul cu) ∧ SliceIn X (.slice pu ul cu) (first.getD j []))) (by kernel_rfl) ?_
                      show wpAnyH _ _ _ _ _ 12 (Array.replicate 12 false) _ _
                      obtain ⟨Z, hX⟩ : ∃ Z : World, Z = { W12 with drawn := W12.drawn + 1 } := ⟨_, rfl⟩
                      rw [← hX]
                      have hS : SliceIn Z rv (first.getD j []) ∧ Z.cell? ⟨fb, fo + j, none⟩ = some (.slice pu ul cu) ∧ SliceIn Z (.slice pu ul cu) (first.getD j []) := by rw [hX]; exact HD.out.2
                      have hP : PgW w Z c8 gq g (m.boot ks) [402] [] 0 50 (nextHd (noHd 1) r (firstU n)) (nextHd (noHd 1) r (firstU n)).used Y 8390000 ∧ AtIn w Z c8 gp (.slice (some ⟨ab, 0, none⟩) l.length acap) l := by rw [hX]; exact ⟨HD.out.1.1.bel ⟨rfl, rfl, rfl, Nat.le_refl _, fun _ _ => rfl⟩, HD.out.1.2.bel ⟨rfl, rfl, rfl, Nat.le_refl _, fun _ _ => rfl⟩⟩
                      clear hX
                      refine takeH (i := 0) (some 179) rfl rfl (by kernel_rfl) (by kernel_rfl) (by kernel_rfl) (fun _ _ _ h => h) (gRun rfl (.int .i64 0) fun _ h => run_mvZ (.tmp 23) rfl (.int .i64 0) rfl) hS ?_
                      simp only [Act.put, List.setIfInBounds_toArray, List.set_cons_succ, List.set_cons_zero]
                      refine takeH (i := 1) (some 180) rfl rfl (by kernel_rfl) (by kernel_rfl) (by kernel_rfl) (fun _ _ _ h => h) (gRun rfl (.bool false) fun _ h => run_neZ (.tmp 179) (.const (.int .i64 0)) rfl (0) (0) rfl rfl false rfl) hS ?_
                      simp only [Act.put, List.setIfInBounds_toArray, List.set_cons_succ, List.set_cons_zero]
                      refine takeH (i := 2) (some 181) rfl rfl (by kernel_rfl) (by kernel_rfl) (by kernel_rfl) (fun _ _ _ h => h) (gRun rfl (.bool false) fun _ h => run_mvZ (.tmp 180) rfl (.bool false) rfl) hS ?_
                      simp only [Act.put, List.setIfInBounds_toArray, List.set_cons_succ, List.set_cons_zero]
                      refine takeH (i := 3) (some 182) rfl rfl (by kernel_rfl) (by kernel_rfl) (by kernel_rfl) (fun _ _ _ h => h) (gRun (by kernel_rfl) rv fun _ h => run_mvZ (.tmp 22) rfl rv rfl) hS ?_
                      simp only [Act.put, List.setIfInBounds_toArray, List.set_cons_succ, List.set_cons_zero]
                      refine takeH (i := 4) (some 183) rfl rfl (by kernel_rfl) (by kernel_rfl) (by kernel_rfl) (fun _ _ _ h => h) (gRun (by kernel_rfl) (.string (strOfNums ((first.getD j []).map Int.ofNat))) fun _ h => run_str (.tmp 182) rfl rv (first.getD j []) rfl h.1) hS ?_
                      simp only [Act.put, List.setIfInBounds_toArray, List.set_cons_succ, List.set_cons_zero]
                      refine takeH (i := 5) (some 184) rfl rfl (by kernel_rfl) (by kernel_rfl) (by kernel_rfl) (fun _ _ _ h => h) (gRun (by kernel_rfl) (.slice (some ⟨fb, fo, none⟩) n0 cap0) fun _ h => run_mvZ (.tmp 0) rfl (.slice (some ⟨fb, fo, none⟩) n0 cap0) rfl) hS ?_
                      simp only [Act.put, List.setIfInBounds_toArray, List.set_cons_succ, List.set_cons_zero]
                      refine takeH (i := 6) (some 185) rfl rfl (by kernel_rfl) (by kernel_rfl) (by kernel_rfl) (fun _ _ _ h => h) (gRun (by kernel_rfl) (.int .i64 (j : Nat)) fun _ h => run_mvZ (.tmp 21) rfl (.int .i64 (j : Nat)) rfl) hS ?_
                      simp only [Act.put, List.setIfInBounds_toArray, List.set_cons_succ, List.set_cons_zero]
                      refine takeH (i := 7) (some 186) rfl rfl (by kernel_rfl) (by kernel_rfl) (by kernel_rfl) (fun _ _ _ h => h) (gRun (by kernel_rfl) (.pointer (some ⟨fb, fo + j, none⟩)) fun _ h => run_ix50 (.tmp 184) (.tmp 185) rfl fb fo n0 cap0 j rfl rfl hjn) hS ?_
                      simp only [Act.put, List.setIfInBounds_toArray, List.set_cons_succ, List.set_cons_zero]
                      refine takeH (i := 8) (some 187) rfl rfl (by kernel_rfl) (by kernel_rfl) (by kernel_rfl) (fun _ _ _ h => h) (gRun (by kernel_rfl) (.slice pu ul cu) fun _ h => run_load1 o38' (.tmp 186) rfl fb (fo + j) rfl (.slice pu ul cu) h.2.1) hS ?_
                      simp only [Act.put, List.setIfInBounds_toArray, List.set_cons_succ, List.set_cons_zero]
                      refine takeH (i := 9) (some 188) rfl rfl (by kernel_rfl) (by kernel_rfl) (by kernel_rfl) (fun _ _ _ h => h) (gRun (by kernel_rfl) (.string (strOfNums ((first.getD j []).map Int.ofNat))) fun _ h => run_str (.tmp 187) rfl (.slice pu ul cu) (first.getD j []) rfl h.2.2) hS ?_
                      simp only [Act.put, List.setIfInBounds_toArray, List.set_cons_succ, List.set_cons_zero]
                      refine takeH (i := 10) (some 189) rfl rfl (by kernel_rfl) (by kernel_rfl) (by kernel_rfl) (fun _ _ _ h => h) (gRun (by kernel_rfl) (.bool false) fun _ h => run_neS (.tmp 183) (.tmp 188) rfl _ _ rfl rfl rfl) hS ?_
                      simp only [Act.put, List.setIfInBounds_toArray, List.set_cons_succ, List.set_cons_zero]
                      refine takeH (i := 11) (some 190) rfl rfl (by kernel_rfl) (by kernel_rfl) (by kernel_rfl) (fun _ _ _ h => h) (gRun rfl (.bool false) fun _ h => run_pickZ (.tmp 181) (.const (.bool true)) (.tmp 189) rfl false (.bool false) rfl rfl) hS ?_
                      simp only [Act.put, List.setIfInBounds_toArray, List.set_cons_succ, List.set_cons_zero]
                      refine wpAnyH_done (by kernel_rfl) ?_ _
                      have HVV : Hid (PgW w Z c8 gq g (m.boot ks) [402] [] 0 50 (nextHd (noHd 1) r (firstU n)) (nextHd (noHd 1) r (firstU n)).used Y 8390000 ∧ AtIn w Z c8 gp (.slice (some ⟨ab, 0, none⟩) l.length acap) l) := hP
                      clear hS hP HD
                      go_wp2_with fail
                      refine ⟨⟨j + 1, by go_num, by omega, HVV.out⟩, ?_⟩
                      simp [intOf]; omega
                  · have h1 : decide ((j : Int) < (l.length : Int)) = false := decide_eq_false (by omega)
                    go_upto_region 38 with fail
                    refine wp_region_lit ?_
                    refine wl rfl (.int .i64 (j : Nat)) _ (run_mvZ (.tmp 21) rfl (.int .i64 (j : Nat)) rfl) ?_
                    simp only [Act.put, List.setIfInBounds_toArray, List.set_cons_succ, List.set_cons_zero]
                    refine wl rfl (.slice (some ⟨ab, 0, none⟩) l.length acap) _ (run_mvZ (.tmp 13) rfl (.slice (some ⟨ab, 0, none⟩) l.length acap) rfl) ?_
                    simp only [Act.put, List.setIfInBounds_toArray, List.set_cons_succ, List.set_cons_zero]
                    refine wl rfl (.int .i64 (l.length : Nat)) _ (run_lenZ sl28 (.tmp 160) rfl (some ⟨ab, 0, none⟩) l.length acap rfl) ?_
                    simp only [Act.put, List.setIfInBounds_toArray, List.set_cons_succ, List.set_cons_zero]
                    refine wl rfl (.bool false) _ (run_lssZ (.tmp 159) (.tmp 161) rfl _ _ rfl rfl false h1) ?_
                    simp only [Act.put, List.setIfInBounds_toArray, List.set_cons_succ, List.set_cons_zero]
                    refine wpList_nil ?_
                    go_wp2_with fail
                    rw [HPQ.out]
                    exact ⟨rfl, HJ.out.1.pl.below⟩
    · have h1 : decide ((i : Int) < (n0 : Int)) = false := decide_eq_false (by omega)
      go_upto_region 11 with fail
      refine wp_region_lit ?_
      refine wl rfl (.int .i64 (i : Nat)) _ (run_mvZ (.tmp 14) rfl (.int .i64 (i : Nat)) rfl) ?_
      simp only [Act.put, List.setIfInBounds_toArray, List.set_cons_succ, List.set_cons_zero]
      refine wl rfl (.slice p0 n0 cap0) _ (run_mvZ (.tmp 0) rfl (.slice p0 n0 cap0) rfl) ?_
      simp only [Act.put, List.setIfInBounds_toArray, List.set_cons_succ, List.set_cons_zero]
      refine wl rfl (.int .i64 (n0 : Nat)) _ (run_lenZ sl50 (.tmp 60) rfl p0 n0 cap0 rfl) ?_
      simp only [Act.put, List.setIfInBounds_toArray, List.set_cons_succ, List.set_cons_zero]
      refine wl rfl (.bool false) _ (run_lssZ (.tmp 59) (.tmp 61) rfl _ _ rfl rfl false h1) ?_
      simp only [Act.put, List.setIfInBounds_toArray, List.set_cons_succ, List.set_cons_zero]
      refine wl rfl (.bool false) _ (run_mvZ (.tmp 62) rfl (.bool false) rfl) ?_
      simp only [Act.put, List.setIfInBounds_toArray, List.set_cons_succ, List.set_cons_zero]
      refine wpList_skip (by kernel_rfl) ?_
      simp only [Act.put, List.setIfInBounds_toArray, List.set_cons_succ, List.set_cons_zero]
      refine wpList_skip (by kernel_rfl) ?_
      simp only [Act.put, List.setIfInBounds_toArray, List.set_cons_succ, List.set_cons_zero]
      refine wl rfl (.bool false) _ (run_pickZ (.tmp 63) (.tmp 65) (.const (.bool false)) rfl false (.bool false) rfl rfl) ?_
      simp only [Act.put, List.setIfInBounds_toArray, List.set_cons_succ, List.set_cons_zero]
      refine wpList_nil ?_
      clear h1
      have HE : Hid (l.length ≤ 20 ∧ n ≤ 20 ∧ l.length ≤ n0) := ⟨by rw [HS.out.len]; exact HS.out.le20, Nat.le_trans HS.out.nle HS.out.le20, by rw [HS.out.len, HN.out.1]; exact HS.out.le⟩
      obtain ⟨ab, acap, hva⟩ := HS.out.ats.sl
      subst hva
      clear hlt
      go_upto_region 19 with fail
      refine wp_region_lit ?_
      refine wl rfl (.int .i64 (-1)) _ (run_asZ (.const (.int .i64 (-1))) rfl (.int .i64 (-1)) rfl) ?_
      simp only [Act.put, List.setIfInBounds_toArray, List.set_cons_succ, List.set_cons_zero]
      refine wpList_nil ?_
      go_upto_region 20 with fail
      refine wp_region_lit ?_
      refine wl rfl (.int .i64 0) _ (run_asZ (.const (.int .i64 0)) rfl (.int .i64 0) rfl) ?_
      simp only [Act.put, List.setIfInBounds_toArray, List.set_cons_succ, List.set_cons_zero]
      refine wpList_nil ?_
      go_wp2_with fail
      go_loopw [17, 18] (fun vr vj W => ∃ (r : Int) (j : Nat), vr = .int .i64 r ∧ vj = .int .i64 (j : Nat) ∧ j ≤ l.length ∧ (r = -1 ∨ ∃ k : Nat, k < n ∧ r = (k : Int)) ∧ KpS w first gp g i n c m X (.slice (some ⟨ab, 0, none⟩) l.length acap) l W) (fun _ vj _ => l.length - (intOf vj).toNat)
      case atStart => exact ⟨-1, 0, rfl, rfl, Nat.zero_le _, Or.inl rfl, HS.out⟩
      case round =>
        obtain ⟨r, j, rfl, rfl, hjl, hr, hst⟩ := hrel
        have HM : Hid (KpS w first gp g i n c m X (.slice (some ⟨ab, 0, none⟩) l.length acap) l wr) := hst
        have HRR : Hid (r = -1 ∨ ∃ k : Nat, k < n ∧ r = (k : Int)) := hr
        clear hst HS hr
        have hl20 := HE.out.1
        by_cases hj : j < l.length
        · have h1 : decide ((j : Int) < (l.length : Int)) = true := decide_eq_true (by omega)
          go_upto_region 21 with fail
          refine wp_region_lit ?_
          refine wl rfl (.int .i64 (j : Nat)) _ (run_mvZ (.tmp 18) rfl (.int .i64 (j : Nat)) rfl) ?_
          simp only [Act.put, List.setIfInBounds_toArray, List.set_cons_succ, List.set_cons_zero]
          refine wl rfl (.slice (some ⟨ab, 0, none⟩) l.length acap) _ (run_mvZ (.tmp 13) rfl (.slice (some ⟨ab, 0, none⟩) l.length acap) rfl) ?_
          simp only [Act.put, List.setIfInBounds_toArray, List.set_cons_succ, List.set_cons_zero]
          refine wl rfl (.int .i64 (l.length : Nat)) _ (run_lenZ sl28 (.tmp 94) rfl (some ⟨ab, 0, none⟩) l.length acap rfl) ?_
          simp only [Act.put, List.setIfInBounds_toArray, List.set_cons_succ, List.set_cons_zero]
          refine wl rfl (.bool true) _ (run_lssZ (.tmp 93) (.tmp 95) rfl _ _ rfl rfl true h1) ?_
          simp only [Act.put, List.setIfInBounds_toArray, List.set_cons_succ, List.set_cons_zero]
          refine wpList_nil ?_
          have hcell := HM.out.ats.at j hj
          obtain ⟨x, hx⟩ : ∃ x, x = l.getD j 0 := ⟨_, rfl⟩
          rw [← hx] at hcell
          have HC : Hid (wr.cell? ⟨ab, 0 + j, none⟩ = some (.int .i64 x)) := hcell
          have hx2 : x = -1 ∨ ∃ k : Nat, k < n ∧ x = (k : Int) := by
            rw [hx]
            rcases HM.out.each j (by rw [← HM.out.len]; exact hj) with ⟨_, e⟩ | ⟨k, k1, _, k3, _⟩
            · exact Or.inl e
            · exact Or.inr ⟨k, k1, k3⟩
          have HR2 : Hid (max r x = -1 ∨ ∃ k : Nat, k < n ∧ max r x = (k : Int)) := by
            rcases HRR.out with e1 | ⟨k1, q1, e1⟩ <;> rcases hx2 with e2 | ⟨k2, q2, e2⟩
            · exact Or.inl (by rw [e1, e2]; rfl)
            · exact Or.inr ⟨k2, q2, by rw [e1, e2]; omega⟩
            · exact Or.inr ⟨k1, q1, by rw [e1, e2]; omega⟩
            · rcases Nat.lt_or_ge k1 k2 with hk | hk
              · exact Or.inr ⟨k2, q2, by rw [e1, e2]; omega⟩
              · exact Or.inr ⟨k1, q1, by rw [e1, e2]; omega⟩
          obtain ⟨r2, hr2⟩ : ∃ r2, max r x = r2 := ⟨_, rfl⟩
          rw [hr2] at HR2
          clear hcell hx hx2
          go_upto_region 23 with fail
          refine wp_region_lit ?_
          refine wl rfl (.int .i64 r) _ (run_mvZ (.tmp 17) rfl (.int .i64 r) rfl) ?_
          simp only [Act.put, List.setIfInBounds_toArray, List.set_cons_succ, List.set_cons_zero]
          refine wl rfl (.slice (some ⟨ab, 0, none⟩) l.length acap) _ (run_mvZ (.tmp 13) rfl (.slice (some ⟨ab, 0, none⟩) l.length acap) rfl) ?_
          simp only [Act.put, List.setIfInBounds_toArray, List.set_cons_succ, List.set_cons_zero]
          refine wl rfl (.int .i64 (j : Nat)) _ (run_mvZ (.tmp 18) rfl (.int .i64 (j : Nat)) rfl) ?_
          simp only [Act.put, List.setIfInBounds_toArray, List.set_cons_succ, List.set_cons_zero]
          refine wl rfl (.pointer (some ⟨ab, 0 + j, none⟩)) _ (run_ix28 (.tmp 100) (.tmp 101) rfl ab 0 l.length acap j rfl rfl hj) ?_
          simp only [Act.put, List.setIfInBounds_toArray, List.set_cons_succ, List.set_cons_zero]
          refine wl rfl (.int .i64 x) _ (run_load1 o3 (.tmp 102) rfl ab (0 + j) rfl (.int .i64 x) HC.out) ?_
          simp only [Act.put, List.setIfInBounds_toArray, List.set_cons_succ, List.set_cons_zero]
          refine wl rfl (.int .i64 r2) _ (run_max (.tmp 99) (.tmp 103) rfl r x r2 hr2 rfl rfl) ?_
          simp only [Act.put, List.setIfInBounds_toArray, List.set_cons_succ, List.set_cons_zero]
          refine wl rfl (.int .i64 r2) _ (run_asZ (.tmp 104) rfl (.int .i64 r2) rfl) ?_
          simp only [Act.put, List.setIfInBounds_toArray, List.set_cons_succ, List.set_cons_zero]
          refine wpList_nil ?_
          go_wp2_with fail
          refine ⟨⟨r2, j + 1, rfl, by go_num, by omega, HR2.out, HM.out⟩, ?_⟩
          simp [intOf]; omega
        · have h1 : decide ((j : Int) < (l.length : Int)) = false := decide_eq_false (by omega)
          go_upto_region 21 with fail
          refine wp_region_lit ?_
          refine wl rfl (.int .i64 (j : Nat)) _ (run_mvZ (.tmp 18) rfl (.int .i64 (j : Nat)) rfl) ?_
          simp only [Act.put, List.setIfInBounds_toArray, List.set_cons_succ, List.set_cons_zero]
          refine wl rfl (.slice (some ⟨ab, 0, none⟩) l.length acap) _ (run_mvZ (.tmp 13) rfl (.slice (some ⟨ab, 0, none⟩) l.length acap) rfl) ?_
          simp only [Act.put, List.setIfInBounds_toArray, List.set_cons_succ, List.set_cons_zero]
          refine wl rfl (.int .i64 (l.length : Nat)) _ (run_lenZ sl28 (.tmp 94) rfl (some ⟨ab, 0, none⟩) l.length acap rfl) ?_
          simp only [Act.put, List.setIfInBounds_toArray, List.set_cons_succ, List.set_cons_zero]
          refine wl rfl (.bool false) _ (run_lssZ (.tmp 93) (.tmp 95) rfl _ _ rfl rfl false h1) ?_
          simp only [Act.put, List.setIfInBounds_toArray, List.set_cons_succ, List.set_cons_zero]
          refine wpList_nil ?_
          clear h1 hj hjl
          go_upto_region 24 with fail
          refine wp_region_lit ?_
          refine wl rfl (ptr gp) _ (run_mvZ (.tmp 11) rfl (ptr gp) rfl) ?_
          simp only [Act.put, List.setIfInBounds_toArray, List.set_cons_succ, List.set_cons_zero]
          refine wl rfl (.int .i64 r) _ (run_mvZ (.tmp 17) rfl (.int .i64 r) rfl) ?_
          simp only [Act.put, List.setIfInBounds_toArray, List.set_cons_succ, List.set_cons_zero]
          refine wpList_callW eN19 [.tmp 105, .tmp 106] _ rfl rfl [(ptr gp), (.int .i64 r)] rfl ?_
          refine (KpS.com HM.out r HRR.out).mono ?_
          rintro e W7 ⟨rfl, c7, m7, h_⟩
          refine ⟨_, rfl, ?_⟩
          have H7 : Hid (KtS w gp g n r X (.slice (some ⟨ab, 0, none⟩) l.length acap) l 0 c7 m7 (firstU n) X W7) := h_
          have HEA : Hid (∀ j, j < l.length → (500 < (first.getD j []).length ∧ l.getD j 0 = -1) ∨ ∃ k : Nat, k < n ∧ (first.getD j []).length ≤ 500 ∧ l.getD j 0 = (k : Int) ∧ X k = imOf (first.getD j [])) := by
            have h1 := HM.out.each
            have h2 := HM.out.len
            rw [← h2] at h1
            exact h1
          clear h_ HM HRR
          simp only [Act.put, List.setIfInBounds_toArray, List.set_cons_succ, List.set_cons_zero]
          refine wl rfl (.int .i64 0) _ (run_asZ (.tmp 107) rfl (.int .i64 0) rfl) ?_
          simp only [Act.put, List.setIfInBounds_toArray, List.set_cons_succ, List.set_cons_zero]
          refine wpList_nil ?_
          go_upto_region 25 with fail
          refine wp_region_lit ?_
          refine wl rfl (.int .i64 0) _ (run_mvZ (.tmp 19) rfl (.int .i64 0) rfl) ?_
          simp only [Act.put, List.setIfInBounds_toArray, List.set_cons_succ, List.set_cons_zero]
          refine wl rfl (.bool false) _ (run_neZ (.tmp 108) (.const (.int .i64 0)) rfl (0) (0) rfl rfl false rfl) ?_
          simp only [Act.put, List.setIfInBounds_toArray, List.set_cons_succ, List.set_cons_zero]
          refine wpList_nil ?_
          go_upto_region 27 with fail
          refine wp_region_lit ?_
          refine wl rfl (.int .i64 0) _ (run_asZ (.const (.int .i64 0)) rfl (.int .i64 0) rfl) ?_
          simp only [Act.put, List.setIfInBounds_toArray, List.set_cons_succ, List.set_cons_zero]
          refine wpList_nil ?_
          go_wp2_with fail
          go_loopw [20] (fun vt W => ∃ (t : Nat) (c : Nat → Colour) (m : Pl) (U : List Nat) (Y : Nat → List Nat), vt = .int .i64 (t : Nat) ∧ t ≤ n1 ∧ KtS w gp g n r X (.slice (some ⟨ab, 0, none⟩) l.length acap) l t c m U Y W) (fun vt _ => n1 - (intOf vt).toNat)
          case atStart => exact ⟨0, c7, m7, firstU n, X, rfl, Nat.zero_le _, H7.out⟩
          case round =>
            obtain ⟨t, c, m, U, Y, rfl, htn, hst⟩ := hrel
            have HV : Hid (KtS w gp g n r X (.slice (some ⟨ab, 0, none⟩) l.length acap) l t c m U Y wr) := hst
            clear hst H7
            have hn1 := HN1.out.2
            by_cases hlt : t < n1
            · have h1 : decide ((t : Int) < (n1 : Int)) = true := decide_eq_true (by omega)
              go_upto_region 28 with fail
              refine wp_region_lit ?_
              refine wl rfl (.int .i64 (t : Nat)) _ (run_mvZ (.tmp 20) rfl (.int .i64 (t : Nat)) rfl) ?_
              simp only [Act.put, List.setIfInBounds_toArray, List.set_cons_succ, List.set_cons_zero]
              refine wl rfl (.slice p1 n1 cap1) _ (run_mvZ (.tmp 1) rfl (.slice p1 n1 cap1) rfl) ?_
              simp only [Act.put, List.setIfInBounds_toArray, List.set_cons_succ, List.set_cons_zero]
              refine wl rfl (.int .i64 (n1 : Nat)) _ (run_lenZ sl50 (.tmp 111) rfl p1 n1 cap1 rfl) ?_
              simp only [Act.put, List.setIfInBounds_toArray, List.set_cons_succ, List.set_cons_zero]
              refine wl rfl (.bool true) _ (run_lssZ (.tmp 110) (.tmp 112) rfl _ _ rfl rfl true h1) ?_
              simp only [Act.put, List.setIfInBounds_toArray, List.set_cons_succ, List.set_cons_zero]
              refine wpList_nil ?_
              clear h1
              by_cases h3 : t % 3 = 1
              · have d1 : decide (((t % 3 : Nat) : Int) = 1) = true := decide_eq_true (by omega)
                by_cases h4 : t / 3 < l.length
                · have d2 : decide (((t / 3 : Nat) : Int) < (l.length : Int)) = true := decide_eq_true (by omega)
                  go_upto_region 30 with fail
                  refine wp_region_lit ?_
                  refine wl rfl (.int .i64 (t : Nat)) _ (run_mvZ (.tmp 20) rfl (.int .i64 (t : Nat)) rfl) ?_
                  simp only [Act.put, List.setIfInBounds_toArray, List.set_cons_succ, List.set_cons_zero]
                  refine wl rfl (.int .i64 ((t % 3 : Nat) : Int)) _ (run_rem3 (.tmp 116) rfl t rfl) ?_
                  simp only [Act.put, List.setIfInBounds_toArray, List.set_cons_succ, List.set_cons_zero]
                  refine wl rfl (.bool true) _ (run_eqZ (.tmp 117) (.const (.int .i64 1)) rfl _ _ rfl rfl true d1) ?_
                  simp only [Act.put, List.setIfInBounds_toArray, List.set_cons_succ, List.set_cons_zero]
                  refine wl rfl (.bool true) _ (run_mvZ (.tmp 118) rfl (.bool true) rfl) ?_
                  simp only [Act.put, List.setIfInBounds_toArray, List.set_cons_succ, List.set_cons_zero]
                  refine wl (by kernel_rfl) (.int .i64 (t : Nat)) _ (run_mvZ (.tmp 20) rfl (.int .i64 (t : Nat)) rfl) ?_
                  simp only [Act.put, List.setIfInBounds_toArray, List.set_cons_succ, List.set_cons_zero]
                  refine wl (by kernel_rfl) (.int .i64 ((t / 3 : Nat) : Int)) _ (run_quo3 (.tmp 120) rfl t (by omega) rfl) ?_
                  simp only [Act.put, List.setIfInBounds_toArray, List.set_cons_succ, List.set_cons_zero]
                  refine wl (by kernel_rfl) (.slice (some ⟨ab, 0, none⟩) l.length acap) _ (run_mvZ (.tmp 13) rfl (.slice (some ⟨ab, 0, none⟩) l.length acap) rfl) ?_
                  simp only [Act.put, List.setIfInBounds_toArray, List.set_cons_succ, List.set_cons_zero]
                  refine wl (by kernel_rfl) (.int .i64 (l.length : Nat)) _ (run_lenZ sl28 (.tmp 122) rfl (some ⟨ab, 0, none⟩) l.length acap rfl) ?_
                  simp only [Act.put, List.setIfInBounds_toArray, List.set_cons_succ, List.set_cons_zero]
                  refine wl (by kernel_rfl) (.bool true) _ (run_lssZ (.tmp 121) (.tmp 123) rfl _ _ rfl rfl true d2) ?_
                  simp only [Act.put, List.setIfInBounds_toArray, List.set_cons_succ, List.set_cons_zero]
                  refine wl rfl (.bool true) _ (run_pickZ (.tmp 119) (.tmp 124) (.const (.bool false)) rfl true (.bool true) rfl rfl) ?_
                  simp only [Act.put, List.setIfInBounds_toArray, List.set_cons_succ, List.set_cons_zero]
                  refine wpList_nil ?_
                  clear d1 d2
                  have hcell := HV.out.ats.at (t / 3) h4
                  obtain ⟨x, hx⟩ : ∃ x, x = l.getD (t / 3) 0 := ⟨_, rfl⟩
                  rw [← hx] at hcell
                  have HC : Hid (wr.cell? ⟨ab, 0 + t / 3, none⟩ = some (.int .i64 x)) := hcell
                  clear hcell hx
                  go_upto_region 31 with fail
                  refine wp_region_lit ?_
                  refine wl rfl (ptr gp) _ (run_mvZ (.tmp 11) rfl (ptr gp) rfl) ?_
                  simp only [Act.put, List.setIfInBounds_toArray, List.set_cons_succ, List.set_cons_zero]
                  refine wl rfl (.slice (some ⟨ab, 0, none⟩) l.length acap) _ (run_mvZ (.tmp 13) rfl (.slice (some ⟨ab, 0, none⟩) l.length acap) rfl) ?_
                  simp only [Act.put, List.setIfInBounds_toArray, List.set_cons_succ, List.set_cons_zero]
                  refine wl rfl (.int .i64 (t : Nat)) _ (run_mvZ (.tmp 20) rfl (.int .i64 (t : Nat)) rfl) ?_
                  simp only [Act.put, List.setIfInBounds_toArray, List.set_cons_succ, List.set_cons_zero]
                  refine wl rfl (.int .i64 ((t / 3 : Nat) : Int)) _ (run_quo3 (.tmp 128) rfl t (by omega) rfl) ?_
                  simp only [Act.put, List.setIfInBounds_toArray, List.set_cons_succ, List.set_cons_zero]
                  refine wl rfl (.pointer (some ⟨ab, 0 + t / 3, none⟩)) _ (run_ix28 (.tmp 127) (.tmp 129) rfl ab 0 l.length acap (t / 3) rfl rfl h4) ?_
                  simp only [Act.put, List.setIfInBounds_toArray, List.set_cons_succ, List.set_cons_zero]
                  refine wl rfl (.int .i64 x) _ (run_load1 o3 (.tmp 130) rfl ab (0 + t / 3) rfl (.int .i64 x) HC.out) ?_
                  simp only [Act.put, List.setIfInBounds_toArray, List.set_cons_succ, List.set_cons_zero]
                  refine wpList_callW eN17 [.tmp 126, .tmp 131] _ rfl rfl [(ptr gp), (.int .i64 x)] rfl ?_
                  refine (KtS.free HV.out (by omega) x).mono ?_
                  rintro e W8 ⟨er8, U8, rfl, h_⟩
                  refine ⟨_, rfl, ?_⟩
                  have H8 : Hid (KtS w gp g n r X (.slice (some ⟨ab, 0, none⟩) l.length acap) l t c m U8 Y W8) := h_
                  clear h_ HV HC
                  simp only [Act.put, List.setIfInBounds_toArray, List.set_cons_succ, List.set_cons_zero]
                  refine wpList_nil ?_
                  obtain ⟨fb, fo, pu, cu, hp0, hul, hu⟩ := HR1.out.at t (by rw [← HN1.out.1]; exact hlt)
                  subst hp0
                  obtain ⟨hu1, hu2⟩ := hu W8 H8.out.st.pl.below
                  obtain ⟨ul, hue⟩ : ∃ ul, ul = (thn.getD t []).length := ⟨_, rfl⟩
                  rw [← hue] at hu1 hu2 hul
                  have HU : Hid (W8.cell? ⟨fb, fo + t, none⟩ = some (.slice pu ul cu) ∧ SliceIn W8 (.slice pu ul cu) (thn.getD t []) ∧ ul = (thn.getD t []).length) := ⟨hu1, hu2, hue⟩
                  clear hu1 hu2 hue
                  go_upto_region 32 with fail
                  refine wp_region_lit ?_
                  refine wl rfl (ptr gp) _ (run_mvZ (.tmp 11) rfl (ptr gp) rfl) ?_
                  simp only [Act.put, List.setIfInBounds_toArray, List.set_cons_succ, List.set_cons_zero]
                  refine wl rfl (.slice (some ⟨fb, fo, none⟩) n1 cap1) _ (run_mvZ (.tmp 1) rfl (.slice (some ⟨fb, fo, none⟩) n1 cap1) rfl) ?_
                  simp only [Act.put, List.setIfInBounds_toArray, List.set_cons_succ, List.set_cons_zero]
                  refine wl rfl (.int .i64 (t : Nat)) _ (run_mvZ (.tmp 20) rfl (.int .i64 (t : Nat)) rfl) ?_
                  simp only [Act.put, List.setIfInBounds_toArray, List.set_cons_succ, List.set_cons_zero]
                  refine wl rfl (.pointer (some ⟨fb, fo + t, none⟩)) _ (run_ix50 (.tmp 134) (.tmp 135) rfl fb fo n1 cap1 t rfl rfl hlt) ?_
                  simp only [Act.put, List.setIfInBounds_toArray, List.set_cons_succ, List.set_cons_zero]
                  refine wl rfl (.slice pu ul cu) _ (run_load1 o38' (.tmp 136) rfl fb (fo + t) rfl (.slice pu ul cu) HU.out.1) ?_
                  simp only [Act.put, List.setIfInBounds_toArray, List.set_cons_succ, List.set_cons_zero]
                  refine wpList_callW eN15 [.tmp 133, .tmp 137] _ rfl rfl [(ptr gp), (.slice pu ul cu)] rfl ?_
                  refine (KtS.put H8.out (by omega) HE.out.2.1 _ _ HU.out.2.1).mono ?_
                  rintro e W9 ⟨k9, er9, c9, m9, U9, Y9, rfl, h_⟩
                  refine ⟨_, rfl, ?_⟩
                  have H9 : Hid (KtS w gp g n r X (.slice (some ⟨ab, 0, none⟩) l.length acap) l (t + 1) c9 m9 U9 Y9 W9) := h_
                  clear h_ H8 HU
                  simp only [Act.put, List.setIfInBounds_toArray, List.set_cons_succ, List.set_cons_zero]
                  refine wpList_nil ?_
                  go_wp2_with fail
                  refine ⟨⟨t + 1, c9, m9, U9, Y9, by go_num, by omega, H9.out⟩, ?_⟩
                  simp [intOf]; omega
                · have d2 : decide (((t / 3 : Nat) : Int) < (l.length : Int)) = false := decide_eq_false (by omega)
                  go_upto_region 30 with fail
                  refine wp_region_lit ?_
                  refine wl rfl (.int .i64 (t : Nat)) _ (run_mvZ (.tmp 20) rfl (.int .i64 (t : Nat)) rfl) ?_
                  simp only [Act.put, List.setIfInBounds_toArray, List.set_cons_succ, List.set_cons_zero]
                  refine wl rfl (.int .i64 ((t % 3 : Nat) : Int)) _ (run_rem3 (.tmp 116) rfl t rfl) ?_
                  simp only [Act.put, List.setIfInBounds_toArray, List.set_cons_succ, List.set_cons_zero]
                  refine wl rfl (.bool true) _ (run_eqZ (.tmp 117) (.const (.int .i64 1)) rfl _ _ rfl rfl true d1) ?_
                  simp only [Act.put, List.setIfInBounds_toArray, List.set_cons_succ, List.set_cons_zero]
                  refine wl rfl (.bool true) _ (run_mvZ (.tmp 118) rfl (.bool true) rfl) ?_
                  simp only [Act.put, List.setIfInBounds_toArray, List.set_cons_succ, List.set_cons_zero]
                  refine wl (by kernel_rfl) (.int .i64 (t : Nat)) _ (run_mvZ (.tmp 20) rfl (.int .i64 (t : Nat)) rfl) ?_
                  simp only [Act.put, List.setIfInBounds_toArray, List.set_cons_succ, List.set_cons_zero]
                  refine wl (by kernel_rfl) (.int .i64 ((t / 3 : Nat) : Int)) _ (run_quo3 (.tmp 120) rfl t (by omega) rfl) ?_
                  simp only [Act.put, List.setIfInBounds_toArray, List.set_cons_succ, List.set_cons_zero]
                  refine wl (by kernel_rfl) (.slice (some ⟨ab, 0, none⟩) l.length acap) _ (run_mvZ (.tmp 13) rfl (.slice (some ⟨ab, 0, none⟩) l.length acap) rfl) ?_
                  simp only [Act.put, List.setIfInBounds_toArray, List.set_cons_succ, List.set_cons_zero]
                  refine wl (by kernel_rfl) (.int .i64 (l.length : Nat)) _ (run_lenZ sl28 (.tmp 122) rfl (some ⟨ab, 0, none⟩) l.length acap rfl) ?_
                  simp only [Act.put, List.setIfInBounds_toArray, List.set_cons_succ, List.set_cons_zero]
                  refine wl (by kernel_rfl) (.bool false) _ (run_lssZ (.tmp 121) (.tmp 123) rfl _ _ rfl rfl false d2) ?_
                  simp only [Act.put, List.setIfInBounds_toArray, List.set_cons_succ, List.set_cons_zero]
                  refine wl rfl (.bool false) _ (run_pickZ (.tmp 119) (.tmp 124) (.const (.bool false)) rfl true (.bool false) rfl rfl) ?_
                  simp only [Act.put, List.setIfInBounds_toArray, List.set_cons_succ, List.set_cons_zero]
                  refine wpList_nil ?_
                  clear d1 d2
                  obtain ⟨fb, fo, pu, cu, hp0, hul, hu⟩ := HR1.out.at t (by rw [← HN1.out.1]; exact hlt)
                  subst hp0
                  obtain ⟨hu1, hu2⟩ := hu wr HV.out.st.pl.below
                  obtain ⟨ul, hue⟩ : ∃ ul, ul = (thn.getD t []).length := ⟨_, rfl⟩
                  rw [← hue] at hu1 hu2 hul
                  have HU : Hid (wr.cell? ⟨fb, fo + t, none⟩ = some (.slice pu ul cu) ∧ SliceIn wr (.slice pu ul cu) (thn.getD t []) ∧ ul = (thn.getD t []).length) := ⟨hu1, hu2, hue⟩
                  clear hu1 hu2 hue
                  go_upto_region 32 with fail
                  refine wp_region_lit ?_
                  refine wl rfl (ptr gp) _ (run_mvZ (.tmp 11) rfl (ptr gp) rfl) ?_
                  simp only [Act.put, List.setIfInBounds_toArray, List.set_cons_succ, List.set_cons_zero]
                  refine wl rfl (.slice (some ⟨fb, fo, none⟩) n1 cap1) _ (run_mvZ (.tmp 1) rfl (.slice (some ⟨fb, fo, none⟩) n1 cap1) rfl) ?_
                  simp only [Act.put, List.setIfInBounds_toArray, List.set_cons_succ, List.set_cons_zero]
                  refine wl rfl (.int .i64 (t : Nat)) _ (run_mvZ (.tmp 20) rfl (.int .i64 (t : Nat)) rfl) ?_
                  simp only [Act.put, List.setIfInBounds_toArray, List.set_cons_succ, List.set_cons_zero]
                  refine wl rfl (.pointer (some ⟨fb, fo + t, none⟩)) _ (run_ix50 (.tmp 134) (.tmp 135) rfl fb fo n1 cap1 t rfl rfl hlt) ?_
                  simp only [Act.put, List.setIfInBounds_toArray, List.set_cons_succ, List.set_cons_zero]
                  refine wl rfl (.slice pu ul cu) _ (run_load1 o38' (.tmp 136) rfl fb (fo + t) rfl (.slice pu ul cu) HU.out.1) ?_
                  simp only [Act.put, List.setIfInBounds_toArray, List.set_cons_succ, List.set_cons_zero]
                  refine wpList_callW eN15 [.tmp 133, .tmp 137] _ rfl rfl [(ptr gp), (.slice pu ul cu)] rfl ?_
                  refine (KtS.put HV.out (by omega) HE.out.2.1 _ _ HU.out.2.1).mono ?_
                  rintro e W9 ⟨k9, er9, c9, m9, U9, Y9, rfl, h_⟩
                  refine ⟨_, rfl, ?_⟩
                  have H9 : Hid (KtS w gp g n r X (.slice (some ⟨ab, 0, none⟩) l.length acap) l (t + 1) c9 m9 U9 Y9 W9) := h_
                  clear h_ HV HU
                  simp only [Act.put, List.setIfInBounds_toArray, List.set_cons_succ, List.set_cons_zero]
                  refine wpList_nil ?_
                  go_wp2_with fail
                  refine ⟨⟨t + 1, c9, m9, U9, Y9, by go_num, by omega, H9.out⟩, ?_⟩
                  simp [intOf]; omega
              · have d1 : decide (((t % 3 : Nat) : Int) = 1) = false := decide_eq_false (by omega)
                go_upto_region 30 with fail
                refine wp_region_lit ?_
                refine wl rfl (.int .i64 (t : Nat)) _ (run_mvZ (.tmp 20) rfl (.int .i64 (t : Nat)) rfl) ?_
                simp only [Act.put, List.setIfInBounds_toArray, List.set_cons_succ, List.set_cons_zero]
                refine wl rfl (.int .i64 ((t % 3 : Nat) : Int)) _ (run_rem3 (.tmp 116) rfl t rfl) ?_
                simp only [Act.put, List.setIfInBounds_toArray, List.set_cons_succ, List.set_cons_zero]
                refine wl rfl (.bool false) _ (run_eqZ (.tmp 117) (.const (.int .i64 1)) rfl _ _ rfl rfl false d1) ?_
                simp only [Act.put, List.setIfInBounds_toArray, List.set_cons_succ, List.set_cons_zero]
                refine wl rfl (.bool false) _ (run_mvZ (.tmp 118) rfl (.bool false) rfl) ?_
                simp only [Act.put, List.setIfInBounds_toArray, List.set_cons_succ, List.set_cons_zero]
                refine wpList_skip (by kernel_rfl) ?_
                simp only [Act.put, List.setIfInBounds_toArray, List.set_cons_succ, List.set_cons_zero]
                refine wpList_skip (by kernel_rfl) ?_
                simp only [Act.put, List.setIfInBounds_toArray, List.set_cons_succ, List.set_cons_zero]
                refine wpList_skip (by kernel_rfl) ?_
                simp only [Act.put, List.setIfInBounds_toArray, List.set_cons_succ, List.set_cons_zero]
                refine wpList_skip (by kernel_rfl) ?_
                simp only [Act.put, List.setIfInBounds_toArray, List.set_cons_succ, List.set_cons_zero]
                refine wpList_skip (by kernel_rfl) ?_
                simp only [Act.put, List.setIfInBounds_toArray, List.set_cons_succ, List.set_cons_zero]
                refine wl rfl (.bool false) _ (run_pickZ (.tmp 119) (.tmp 124) (.const (.bool false)) rfl false (.bool false) rfl rfl) ?_
                simp only [Act.put, List.setIfInBounds_toArray, List.set_cons_succ, List.set_cons_zero]
                refine wpList_nil ?_
                clear d1
                obtain ⟨fb, fo, pu, cu, hp0, hul, hu⟩ := HR1.out.at t (by rw [← HN1.out.1]; exact hlt)
                subst hp0
                obtain ⟨hu1, hu2⟩ := hu wr HV.out.st.pl.below
                obtain ⟨ul, hue⟩ : ∃ ul, ul = (thn.getD t []).length := ⟨_, rfl⟩
                rw [← hue] at hu1 hu2 hul
                have HU : Hid (wr.cell? ⟨fb, fo + t, none⟩ = some (.slice pu ul cu) ∧ SliceIn wr (.slice pu ul cu) (thn.getD t []) ∧ ul = (thn.getD t []).length) := ⟨hu1, hu2, hue⟩
                clear hu1 hu2 hue
                go_upto_region 32 with fail
                refine wp_region_lit ?_
                refine wl rfl (ptr gp) _ (run_mvZ (.tmp 11) rfl (ptr gp) rfl) ?_
                simp only [Act.put, List.setIfInBounds_toArray, List.set_cons_succ, List.set_cons_zero]
                refine wl rfl (.slice (some ⟨fb, fo, none⟩) n1 cap1) _ (run_mvZ (.tmp 1) rfl (.slice (some ⟨fb, fo, none⟩) n1 cap1) rfl) ?_
                simp only [Act.put, List.setIfInBounds_toArray, List.set_cons_succ, List.set_cons_zero]
                refine wl rfl (.int .i64 (t : Nat)) _ (run_mvZ (.tmp 20) rfl (.int .i64 (t : Nat)) rfl) ?_
                simp only [Act.put, List.setIfInBounds_toArray, List.set_cons_succ, List.set_cons_zero]
                refine wl rfl (.pointer (some ⟨fb, fo + t, none⟩)) _ (run_ix50 (.tmp 134) (.tmp 135) rfl fb fo n1 cap1 t rfl rfl hlt) ?_
                simp only [Act.put, List.setIfInBounds_toArray, List.set_cons_succ, List.set_cons_zero]
                refine wl rfl (.slice pu ul cu) _ (run_load1 o38' (.tmp 136) rfl fb (fo + t) rfl (.slice pu ul cu) HU.out.1) ?_
                simp only [Act.put, List.setIfInBounds_toArray, List.set_cons_succ, List.set_cons_zero]
                refine wpList_callW eN15 [.tmp 133, .tmp 137] _ rfl rfl [(ptr gp), (.slice pu ul cu)] rfl ?_
                refine (KtS.put HV.out (by omega) HE.out.2.1 _ _ HU.out.2.1).mono ?_
                rintro e W9 ⟨k9, er9, c9, m9, U9, Y9, rfl, h_⟩
                refine ⟨_, rfl, ?_⟩
                have H9 : Hid (KtS w gp g n r X (.slice (some ⟨ab, 0, none⟩) l.length acap) l (t + 1) c9 m9 U9 Y9 W9) := h_
                clear h_ HV HU
                simp only [Act.put, List.setIfInBounds_toArray, List.set_cons_succ, List.set_cons_zero]
                refine wpList_nil ?_
                go_wp2_with fail
                refine ⟨⟨t + 1, c9, m9, U9, Y9, by go_num, by omega, H9.out⟩, ?_⟩
                simp [intOf]; omega
            · have h1 : decide ((t : Int) < (n1 : Int)) = false := decide_eq_false (by omega)
              go_upto_region 28 with fail
              refine wp_region_lit ?_
              refine wl rfl (.int .i64 (t : Nat)) _ (run_mvZ (.tmp 20) rfl (.int .i64 (t : Nat)) rfl) ?_
              simp only [Act.put, List.setIfInBounds_toArray, List.set_cons_succ, List.set_cons_zero]
              refine wl rfl (.slice p1 n1 cap1) _ (run_mvZ (.tmp 1) rfl (.slice p1 n1 cap1) rfl) ?_
              simp only [Act.put, List.setIfInBounds_toArray, List.set_cons_succ, List.set_cons_zero]
              refine wl rfl (.int .i64 (n1 : Nat)) _ (run_lenZ sl50 (.tmp 111) rfl p1 n1 cap1 rfl) ?_
              simp only [Act.put, List.setIfInBounds_toArray, List.set_cons_succ, List.set_cons_zero]
              refine wl rfl (.bool false) _ (run_lssZ (.tmp 110) (.tmp 112) rfl _ _ rfl rfl false h1) ?_
              simp only [Act.put, List.setIfInBounds_toArray, List.set_cons_succ, List.set_cons_zero]
              refine wpList_nil ?_
              clear h1 hlt
              go_upto_region 33 with fail
              refine wp_region_lit ?_
              refine wl rfl (ptr g) _ (run_mvZ (.tmp 8) rfl (ptr g) rfl) ?_
              simp only [Act.put, List.setIfInBounds_toArray, List.set_cons_succ, List.set_cons_zero]
              refine wl rfl vk _ (run_mvZ (.tmp 2) rfl vk rfl) ?_
              simp only [Act.put, List.setIfInBounds_toArray, List.set_cons_succ, List.set_cons_zero]
              refine wpList_callW eN26 [.tmp 139, .tmp 140] _ rfl rfl [(ptr g), vk] rfl ?_
              refine (PlW.boot HV.out.st.pl (by omega) _ ks (IntsIn.keep HK.out HV.out.st.pl.below HV.out.st.pl.cc) gp).mono ?_
              rintro e W8 ⟨rfl, c8, s_, h_⟩
              refine ⟨_, rfl, ?_⟩
              have H8 : Hid (PlW w W8 c8 g (m.boot ks) [402] [] 8390000 ∧ PgO (m.boot ks) 0 50 (nextHd (noHd 1) r (firstU n)) (nextHd (noHd 1) r (firstU n)).used Y ∧ AtIn w W8 c8 gp (.slice (some ⟨ab, 0, none⟩) l.length acap) l ∧ ∀ k, k < n → Y k = X k) := ⟨h_.mono (by omega), HV.out.st.o.c.boot ks, HV.out.ats.step s_, HV.out.same⟩
              clear h_ s_ HV
              simp only [Act.put, List.setIfInBounds_toArray, List.set_cons_succ, List.set_cons_zero]
              refine wpList_nil ?_
              go_upto_region 34 with fail
              refine wp_region_lit ?_
              refine wl rfl (ptr g) _ (run_mvZ (.tmp 8) rfl (ptr g) rfl) ?_
              simp only [Act.put, List.setIfInBounds_toArray, List.set_cons_succ, List.set_cons_zero]
              refine wpList_callW eN13 [.tmp 143, .const (.int .i64 0)] _ rfl rfl [(ptr g), .int .i64 0] rfl ?_
              refine (PlW.openZ H8.out.1 (by decide) (by decide) H8.out.2.1).mono ?_
              rintro e W9 ⟨gq, rfl, b_, h_⟩
              refine ⟨_, rfl, ?_⟩
              have H9 : Hid (PgW w W9 c8 gq g (m.boot ks) [402] [] 0 50 (nextHd (noHd 1) r (firstU n)) (nextHd (noHd 1) r (firstU n)).used Y 8390000 ∧ AtIn w W9 c8 gp (.slice (some ⟨ab, 0, none⟩) l.length acap) l) := ⟨h_, H8.out.2.2.1.bel b_⟩
              have HYX : Hid (∀ k, k < n → Y k = X k) := H8.out.2.2.2
              clear h_ b_ H8
              simp only [Act.put, List.setIfInBounds_toArray, List.set_cons_succ, List.set_cons_zero]
              refine wl rfl (.tuple #[(ptr gq), (.int .i64 0)]) _ (run_mvZ (.tmp 144) rfl (.tuple #[(ptr gq), (.int .i64 0)]) rfl) ?_
              simp only [Act.put, List.setIfInBounds_toArray, List.set_cons_succ, List.set_cons_zero]
              refine wl rfl (ptr gq) _ (run_extZ (.tmp 142) 0 rfl #[(ptr gq), (.int .i64 0)] rfl (ptr gq) rfl) ?_
              simp only [Act.put, List.setIfInBounds_toArray, List.set_cons_succ, List.set_cons_zero]
              refine wl rfl (.int .i64 0) _ (run_extZ (.tmp 142) 1 rfl #[(ptr gq), (.int .i64 0)] rfl (.int .i64 0) rfl) ?_
              simp only [Act.put, List.setIfInBounds_toArray, List.set_cons_succ, List.set_cons_zero]
              refine wl rfl (ptr gq) _ (run_asZ (.tmp 145) rfl (ptr gq) rfl) ?_
              simp only [Act.put, List.setIfInBounds_toArray, List.set_cons_succ, List.set_cons_zero]
              refine wl rfl (.int .i64 0) _ (run_asZ (.tmp 146) rfl (.int .i64 0) rfl) ?_
              simp only [Act.put, List.setIfInBounds_toArray, List.set_cons_succ, List.set_cons_zero]
              refine wpList_nil ?_
              have he : (!decide (r = r)) = false := by rw [decide_eq_true rfl]; rfl
              go_upto_region 35 with fail
              refine wp_region_lit ?_
              refine wl rfl (ptr gq) _ (run_mvZ (.tmp 11) rfl (ptr gq) rfl) ?_
              simp only [Act.put, List.setIfInBounds_toArray, List.set_cons_succ, List.set_cons_zero]
              refine wl rfl (.bool false) _ (run_binOp' (.tmp 147) (.const (.pointer none)) rfl _ _ _ rfl rfl rfl (by kernel_rfl)) ?_
              simp only [Act.put, List.setIfInBounds_toArray, List.set_cons_succ, List.set_cons_zero]
              refine wl rfl (.bool false) _ (run_mvZ (.tmp 148) rfl (.bool false) rfl) ?_
              simp only [Act.put, List.setIfInBounds_toArray, List.set_cons_succ, List.set_cons_zero]
              refine wl (by kernel_rfl) (.int .i64 0) _ (run_mvZ (.tmp 9) rfl (.int .i64 0) rfl) ?_
              simp only [Act.put, List.setIfInBounds_toArray, List.set_cons_succ, List.set_cons_zero]
              refine wl (by kernel_rfl) (.bool false) _ (run_neZ (.tmp 150) (.const (.int .i64 0)) rfl (0) (0) rfl rfl false rfl) ?_
              simp only [Act.put, List.setIfInBounds_toArray, List.set_cons_succ, List.set_cons_zero]
              refine wl rfl (.bool false) _ (run_pickZ (.tmp 149) (.const (.bool true)) (.tmp 151) rfl false (.bool false) rfl rfl) ?_
              simp only [Act.put, List.setIfInBounds_toArray, List.set_cons_succ, List.set_cons_zero]
              refine wl rfl (.bool false) _ (run_mvZ (.tmp 152) rfl (.bool false) rfl) ?_
              simp only [Act.put, List.setIfInBounds_toArray, List.set_cons_succ, List.set_cons_zero]
              refine wl (by kernel_rfl) (ptr gq) _ (run_mvZ (.tmp 11) rfl (ptr gq) rfl) ?_
              simp only [Act.put, List.setIfInBounds_toArray, List.set_cons_succ, List.set_cons_zero]
              refine wpList_callW eN27 [.tmp 154] _ (by kernel_rfl) rfl [(ptr gq)] rfl ?_
              refine (show Calls Tryd.prog 27 #[ptr gq] W9 fun e W' => e = .returned (.int .i64 r) ∧ W9 = W' from H9.out.1.root).mono ?_
              rintro e W_ ⟨rfl, rfl⟩
              refine ⟨_, rfl, ?_⟩
              simp only [Act.put, List.setIfInBounds_toArray, List.set_cons_succ, List.set_cons_zero]
              refine wl (by kernel_rfl) (.int .i64 r) _ (run_mvZ (.tmp 17) rfl (.int .i64 r) rfl) ?_
              simp only [Act.put, List.setIfInBounds_toArray, List.set_cons_succ, List.set_cons_zero]
              refine wl (by kernel_rfl) (.bool false) _ (run_neZ (.tmp 155) (.tmp 156) rfl _ _ rfl rfl false he) ?_
              simp only [Act.put, List.setIfInBounds_toArray, List.set_cons_succ, List.set_cons_zero]
              refine wl rfl (.bool false) _ (run_pickZ (.tmp 153) (.const (.bool true)) (.tmp 157) rfl false (.bool false) rfl rfl) ?_
              simp only [Act.put, List.setIfInBounds_toArray, List.set_cons_succ, List.set_cons_zero]
              refine wpList_nil ?_
              go_upto_region 37 with fail
              refine wp_region_lit ?_
              refine wl rfl (.int .i64 0) _ (run_asZ (.const (.int .i64 0)) rfl (.int .i64 0) rfl) ?_
              simp only [Act.put, List.setIfInBounds_toArray, List.set_cons_succ, List.set_cons_zero]
              refine wpList_nil ?_
              clear he
              go_wp2_with fail
              go_loopw [21] (fun vj W => ∃ (j : Nat), vj = .int .i64 (j : Nat) ∧ j ≤ l.length ∧ PgW w W c8 gq g (m.boot ks) [402] [] 0 50 (nextHd (noHd 1) r (firstU n)) (nextHd (noHd 1) r (firstU n)).used Y 8390000 ∧ AtIn w W c8 gp (.slice (some ⟨ab, 0, none⟩) l.length acap) l) (fun vj _ => l.length - (intOf vj).toNat)
              case atStart => exact ⟨0, rfl, Nat.zero_le _, H9.out⟩
              case round =>
                obtain ⟨j, rfl, hjl, hst⟩ := hrel
                have HJ : Hid (PgW w wr c8 gq g (m.boot ks) [402] [] 0 50 (nextHd (noHd 1) r (firstU n)) (nextHd (noHd 1) r (firstU n)).used Y 8390000 ∧ AtIn w wr c8 gp (.slice (some ⟨ab, 0, none⟩) l.length acap) l) := hst
                clear hst H9
                by_cases hj : j < l.length
                · have h1 : decide ((j : Int) < (l.length : Int)) = true := decide_eq_true (by omega)
                  go_upto_region 38 with fail
                  refine wp_region_lit ?_
                  refine wl rfl (.int .i64 (j : Nat)) _ (run_mvZ (.tmp 21) rfl (.int .i64 (j : Nat)) rfl) ?_
                  simp only [Act.put, List.setIfInBounds_toArray, List.set_cons_succ, List.set_cons_zero]
                  refine wl rfl (.slice (some ⟨ab, 0, none⟩) l.length acap) _ (run_mvZ (.tmp 13) rfl (.slice (some ⟨ab, 0, none⟩) l.length acap) rfl) ?_
                  simp only [Act.put, List.setIfInBounds_toArray, List.set_cons_succ, List.set_cons_zero]
                  refine wl rfl (.int .i64 (l.length : Nat)) _ (run_lenZ sl28 (.tmp 160) rfl (some ⟨ab, 0, none⟩) l.length acap rfl) ?_
                  simp only [Act.put, List.setIfInBounds_toArray, List.set_cons_succ, List.set_cons_zero]
                  refine wl rfl (.bool true) _ (run_lssZ (.tmp 159) (.tmp 161) rfl _ _ rfl rfl true h1) ?_
                  simp only [Act.put, List.setIfInBounds_toArray, List.set_cons_succ, List.set_cons_zero]
                  refine wpList_nil ?_
                  clear h1
                  have hcell := HJ.out.2.at j hj
                  have hjn : j < n0 := Nat.lt_of_lt_of_le hj HE.out.2.2
                  rcases HEA.out j hj with ⟨_, e1⟩ | ⟨k, k1, k2, k3, k4⟩
                  · rw [e1] at hcell
                    have HC : Hid (wr.cell? ⟨ab, 0 + j, none⟩ = some (.int .i64 (-1))) := hcell
                    clear hcell e1
                    have d1 : decide ((-1 : Int) < 0) = true := rfl
                    go_upto_region 40 with fail
                    refine wp_region_lit ?_
                    refine wl rfl (.slice (some ⟨ab, 0, none⟩) l.length acap) _ (run_mvZ (.tmp 13) rfl (.slice (some ⟨ab, 0, none⟩) l.length acap) rfl) ?_
                    simp only [Act.put, List.setIfInBounds_toArray, List.set_cons_succ, List.set_cons_zero]
                    refine wl rfl (.int .i64 (j : Nat)) _ (run_mvZ (.tmp 21) rfl (.int .i64 (j : Nat)) rfl) ?_
                    simp only [Act.put, List.setIfInBounds_toArray, List.set_cons_succ, List.set_cons_zero]
                    refine wl rfl (.pointer (some ⟨ab, 0 + j, none⟩)) _ (run_ix28 (.tmp 165) (.tmp 166) rfl ab 0 l.length acap j rfl rfl hj) ?_
                    simp only [Act.put, List.setIfInBounds_toArray, List.set_cons_succ, List.set_cons_zero]
                    refine wl rfl (.int .i64 (-1)) _ (run_load1 o3 (.tmp 167) rfl ab (0 + j) rfl (.int .i64 (-1)) HC.out) ?_
                    simp only [Act.put, List.setIfInBounds_toArray, List.set_cons_succ, List.set_cons_zero]
                    refine wl rfl (.bool true) _ (run_lssZ (.tmp 168) (.const (.int .i64 0)) rfl _ _ rfl rfl true d1) ?_
                    simp only [Act.put, List.setIfInBounds_toArray, List.set_cons_succ, List.set_cons_zero]
                    refine wpList_nil ?_
                    go_wp2_with fail
                    refine ⟨⟨j + 1, by go_num, by omega, HJ.out⟩, ?_⟩
                    simp [intOf]; omega
                  · rw [k3] at hcell
                    have HC : Hid (wr.cell? ⟨ab, 0 + j, none⟩ = some (.int .i64 (k : Nat))) := hcell
                    clear hcell k3
                    have d1 : decide ((k : Int) < 0) = false := decide_eq_false (by omega)
                    have HRD : Hid (Calls Tryd.prog 28 #[ptr gq, .int .i64 (k : Nat)] wr fun e W' => ∃ v, e = .returned (.tuple #[v, .int .i64 0]) ∧ Below wr.heap.size wr W' ∧ NewB wr W' v (first.getD j [])) := by
                      have hn20 := HE.out.2.1
                      refine HJ.out.1.readOk (by decide) (k : Int) (first.getD j []) (hasK ⟨n, by omega⟩ ⟨k, by omega⟩ k1) ?_ k2
                      rw [Int.toNat_natCast, HYX.out k k1, k4]
                    obtain ⟨fb, fo, pu, cu, hp0, hul, hu⟩ := HR.out.at j (by rw [← HN.out.1]; exact hjn)
                    subst hp0
                    obtain ⟨hu1, hu2⟩ := hu wr HJ.out.1.pl.below
                    obtain ⟨ul, hue⟩ : ∃ ul, ul = (first.getD j []).length := ⟨_, rfl⟩
                    rw [← hue] at hu1 hu2 hul
                    have HU : Hid (wr.cell? ⟨fb, fo + j, none⟩ = some (.slice pu ul cu) ∧ SliceIn wr (.slice pu ul cu) (first.getD j []) ∧ ul = (first.getD j []).length) := ⟨hu1, hu2, hue⟩
                    clear hu1 hu2 hue
                    go_upto_region 40 with fail
                    refine wp_region_lit ?_
                    refine wl rfl (.slice (some ⟨ab, 0, none⟩) l.length acap) _ (run_mvZ (.tmp 13) rfl (.slice (some ⟨ab, 0, none⟩) l.length acap) rfl) ?_
                    simp only [Act.put, List.setIfInBounds_toArray, List.set_cons_succ, List.set_cons_zero]
                    refine wl rfl (.int .i64 (j : Nat)) _ (run_mvZ (.tmp 21) rfl (.int .i64 (j : Nat)) rfl) ?_
                    simp only [Act.put, List.setIfInBounds_toArray, List.set_cons_succ, List.set_cons_zero]
                    refine wl rfl (.pointer (some ⟨ab, 0 + j, none⟩)) _ (run_ix28 (.tmp 165) (.tmp 166) rfl ab 0 l.length acap j rfl rfl hj) ?_
                    simp only [Act.put, List.setIfInBounds_toArray, List.set_cons_succ, List.set_cons_zero]
                    refine wl rfl (.int .i64 (k : Nat)) _ (run_load1 o3 (.tmp 167) rfl ab (0 + j) rfl (.int .i64 (k : Nat)) HC.out) ?_
                    simp only [Act.put, List.setIfInBounds_toArray, List.set_cons_succ, List.set_cons_zero]
                    refine wl rfl (.bool false) _ (run_lssZ (.tmp 168) (.const (.int .i64 0)) rfl _ _ rfl rfl false d1) ?_
                    simp only [Act.put, List.setIfInBounds_toArray, List.set_cons_succ, List.set_cons_zero]
                    refine wpList_nil ?_
                    go_upto_region 41 with fail
                    refine wp_region_lit ?_
                    refine wl rfl (ptr gq) _ (run_mvZ (.tmp 11) rfl (ptr gq) rfl) ?_
                    simp only [Act.put, List.setIfInBounds_toArray, List.set_cons_succ, List.set_cons_zero]
                    refine wl rfl (.slice (some ⟨ab, 0, none⟩) l.length acap) _ (run_mvZ (.tmp 13) rfl (.slice (some ⟨ab, 0, none⟩) l.length acap) rfl) ?_
                    simp only [Act.put, List.setIfInBounds_toArray, List.set_cons_succ, List.set_cons_zero]
                    refine wl rfl (.int .i64 (j : Nat)) _ (run_mvZ (.tmp 21) rfl (.int .i64 (j : Nat)) rfl) ?_
                    simp only [Act.put, List.setIfInBounds_toArray, List.set_cons_succ, List.set_cons_zero]
                    refine wl rfl (.pointer (some ⟨ab, 0 + j, none⟩)) _ (run_ix28 (.tmp 172) (.tmp 173) rfl ab 0 l.length acap j rfl rfl hj) ?_
                    simp only [Act.put, List.setIfInBounds_toArray, List.set_cons_succ, List.set_cons_zero]
                    refine wl rfl (.int .i64 (k : Nat)) _ (run_load1 o3 (.tmp 174) rfl ab (0 + j) rfl (.int .i64 (k : Nat)) HC.out) ?_
                    simp only [Act.put, List.setIfInBounds_toArray, List.set_cons_succ, List.set_cons_zero]
                    refine wpList_callW eN28 [.tmp 171, .tmp 175] _ rfl rfl [(ptr gq), (.int .i64 (k : Nat))] rfl ?_
                    refine (HRD.out).mono ?_
                    rintro e W12 ⟨rv, rfl, b_, n_⟩
                    refine ⟨_, rfl, ?_⟩
                    have HD : Hid ((PgW w W12 c8 gq g (m.boot ks) [402] [] 0 50 (nextHd (noHd 1) r (firstU n)) (nextHd (noHd 1) r (firstU n)).used Y 8390000 ∧ AtIn w W12 c8 gp (.slice (some ⟨ab, 0, none⟩) l.length acap) l) ∧ SliceIn W12 rv (first.getD j []) ∧ W12.cell? ⟨fb, fo + j, none⟩ = some (.slice pu ul cu) ∧ SliceIn W12 (.slice pu ul cu) (first.getD j [])) := ⟨⟨HJ.out.1.bel b_, HJ.out.2.bel b_⟩, n_.slice HU.out.2.1.lt256 k2, by rw [← HU.out.1]; exact World.cell?_of_block (b_.block fb (block_lt_of_cell HU.out.1)), SliceIn.later b_ HU.out.2.1⟩
                    clear b_ n_ HRD HU HJ HC
                    simp only [Act.put, List.setIfInBounds_toArray, List.set_cons_succ, List.set_cons_zero]
                    refine wl rfl (.tuple #[rv, (.int .i64 0)]) _ (run_mvZ (.tmp 176) rfl (.tuple #[rv, (.int .i64 0)]) rfl) ?_
                    simp only [Act.put, List.setIfInBounds_toArray, List.set_cons_succ, List.set_cons_zero]
                    refine wl rfl rv _ (run_extZ (.tmp 170) 0 rfl #[rv, (.int .i64 0)] rfl rv rfl) ?_
                    simp only [Act.put, List.setIfInBounds_toArray, List.set_cons_succ, List.set_cons_zero]
                    refine wl rfl (.int .i64 0) _ (run_extZ (.tmp 170) 1 rfl #[rv, (.int .i64 0)] rfl (.int .i64 0) rfl) ?_
                    simp only [Act.put, List.setIfInBounds_toArray, List.set_cons_succ, List.set_cons_zero]
                    refine wl rfl rv _ (run_asZ (.tmp 177) rfl rv rfl) ?_
                    simp only [Act.put, List.setIfInBounds_toArray, List.set_cons_succ, List.set_cons_zero]
                    refine wl rfl (.int .i64 0) _ (run_asZ (.tmp 178) rfl (.int .i64 0) rfl) ?_
                    simp only [Act.put, List.setIfInBounds_toArray, List.set_cons_succ, List.set_cons_zero]
                    refine wpList_nil ?_
                    go_upto_region 42 with fail
                    refine wp_region_held (S := fun X => (SliceIn X rv (first.getD j []) ∧ X.cell? ⟨fb, fo + j, none⟩ = some (.slice pu ul cu) ∧ SliceIn X (.slice pu ul cu) (first.getD j []))) (by kernel_rfl) ?_
                    show wpAnyH _ _ _ _ _ 12 (Array.replicate 12 false) _ _
                    obtain ⟨Z, hX⟩ : ∃ Z : World, Z = { W12 with drawn := W12.drawn + 1 } := ⟨_, rfl⟩
                    rw [← hX]
                    have hS : SliceIn Z rv (first.getD j []) ∧ Z.cell? ⟨fb, fo + j, none⟩ = some (.slice pu ul cu) ∧ SliceIn Z (.slice pu ul cu) (first.getD j []) := by rw [hX]; exact HD.out.2
                    have hP : PgW w Z c8 gq g (m.boot ks) [402] [] 0 50 (nextHd (noHd 1) r (firstU n)) (nextHd (noHd 1) r (firstU n)).used Y 8390000 ∧ AtIn w Z c8 gp (.slice (some ⟨ab, 0, none⟩) l.length acap) l := by rw [hX]; exact ⟨HD.out.1.1.bel ⟨rfl, rfl, rfl, Nat.le_refl _, fun _ _ => rfl⟩, HD.out.1.2.bel ⟨rfl, rfl, rfl, Nat.le_refl _, fun _ _ => rfl⟩⟩
                    clear hX
                    refine takeH (i := 0) (some 179) rfl rfl (by kernel_rfl) (by kernel_rfl) (by kernel_rfl) (fun _ _ _ h => h) (gRun rfl (.int .i64 0) fun _ h => run_mvZ (.tmp 23) rfl (.int .i64 0) rfl) hS ?_
                    simp only [Act.put, List.setIfInBounds_toArray, List.set_cons_succ, List.set_cons_zero]
                    refine takeH (i := 1) (some 180) rfl rfl (by kernel_rfl) (by kernel_rfl) (by kernel_rfl) (fun _ _ _ h => h) (gRun rfl (.bool false) fun _ h => run_neZ (.tmp 179) (.const (.int .i64 0)) rfl (0) (0) rfl rfl false rfl) hS ?_
                    simp only [Act.put, List.setIfInBounds_toArray, List.set_cons_succ, List.set_cons_zero]
                    refine takeH (i := 2) (some 181) rfl rfl (by kernel_rfl) (by kernel_rfl) (by kernel_rfl) (fun _ _ _ h => h) (gRun rfl (.bool false) fun _ h => run_mvZ (.tmp 180) rfl (.bool false) rfl) hS ?_
                    simp only [Act.put, List.setIfInBounds_toArray, List.set_cons_succ, List.set_cons_zero]
                    refine takeH (i := 3) (some 182) rfl rfl (by kernel_rfl) (by kernel_rfl) (by kernel_rfl) (fun _ _ _ h => h) (gRun (by kernel_rfl) rv fun _ h => run_mvZ (.tmp 22) rfl rv rfl) hS ?_
                    simp only [Act.put, List.setIfInBounds_toArray, List.set_cons_succ, List.set_cons_zero]
                    refine takeH (i := 4) (some 183) rfl rfl (by kernel_rfl) (by kernel_rfl) (by kernel_rfl) (fun _ _ _ h => h) (gRun (by kernel_rfl) (.string (strOfNums ((first.getD j []).map Int.ofNat))) fun _ h => run_str (.tmp 182) rfl rv (first.getD j []) rfl h.1) hS ?_
                    simp only [Act.put, List.setIfInBounds_toArray, List.set_cons_succ, List.set_cons_zero]
                    refine takeH (i := 5) (some 184) rfl rfl (by kernel_rfl) (by kernel_rfl) (by kernel_rfl) (fun _ _ _ h => h) (gRun (by kernel_rfl) (.slice (some ⟨fb, fo, none⟩) n0 cap0) fun _ h => run_mvZ (.tmp 0) rfl (.slice (some ⟨fb, fo, none⟩) n0 cap0) rfl) hS ?_
                    simp only [Act.put, List.setIfInBounds_toArray, List.set_cons_succ, List.set_cons_zero]
                    refine takeH (i := 6) (some 185) rfl rfl (by kernel_rfl) (by kernel_rfl) (by kernel_rfl) (fun _ _ _ h => h) (gRun (by kernel_rfl) (.int .i64 (j : Nat)) fun _ h => run_mvZ (.tmp 21) rfl (.int .i64 (j : Nat)) rfl) hS ?_
                    simp only [Act.put, List.setIfInBounds_toArray, List.set_cons_succ, List.set_cons_zero]
                    refine takeH (i := 7) (some 186) rfl rfl (by kernel_rfl) (by kernel_rfl) (by kernel_rfl) (fun _ _ _ h => h) (gRun (by kernel_rfl) (.pointer (some ⟨fb, fo + j, none⟩)) fun _ h => run_ix50 (.tmp 184) (.tmp 185) rfl fb fo n0 cap0 j rfl rfl hjn) hS ?_
                    simp only [Act.put, List.setIfInBounds_toArray, List.set_cons_succ, List.set_cons_zero]
                    refine takeH (i := 8) (some 187) rfl rfl (by kernel_rfl) (by kernel_rfl) (by kernel_rfl) (fun _ _ _ h => h) (gRun (by kernel_rfl) (.slice pu ul cu) fun _ h => run_load1 o38' (.tmp 186) rfl fb (fo + j) rfl (.slice pu ul cu) h.2.1) hS ?_
                    simp only [Act.put, List.setIfInBounds_toArray, List.set_cons_succ, List.set_cons_zero]
                    refine takeH (i := 9) (some 188) rfl rfl (by kernel_rfl) (by kernel_rfl) (by kernel_rfl) (fun _ _ _ h => h) (gRun (by kernel_rfl) (.string (strOfNums ((first.getD j []).map Int.ofNat))) fun _ h => run_str (.tmp 187) rfl (.slice pu ul cu) (first.getD j []) rfl h.2.2) hS ?_
                    simp only [Act.put, List.setIfInBounds_toArray, List.set_cons_succ, List.set_cons_zero]
                    refine takeH (i := 10) (some 189) rfl rfl (by kernel_rfl) (by kernel_rfl) (by kernel_rfl) (fun _ _ _ h => h) (gRun (by kernel_rfl) (.bool false) fun _ h => run_neS (.tmp 183) (.tmp 188) rfl _ _ rfl rfl rfl) hS ?_
                    simp only [Act.put, List.setIfInBounds_toArray, List.set_cons_succ, List.set_cons_zero]
                    refine takeH (i := 11) (some 190) rfl rfl (by kernel_rfl) (by kernel_rfl) (by kernel_rfl) (fun _ _ _ h => h) (gRun rfl (.bool false) fun _ h => run_pickZ (.tmp 181) (.const (.bool true)) (.tmp 189) rfl false (.bool false) rfl rfl) hS ?_
                    simp only [Act.put, List.setIfInBounds_toArray, List.set_cons_succ, List.set_cons_zero]
                    refine wpAnyH_done (by kernel_rfl) ?_ _
                    have HVV : Hid (PgW w Z c8 gq g (m.boot ks) [402] [] 0 50 (nextHd (noHd 1) r (firstU n)) (nextHd (noHd 1) r (firstU n)).used Y 8390000 ∧ AtIn w Z c8 gp (.slice (some ⟨ab, 0, none⟩) l.length acap) l) := hP
                    clear hS hP HD
                    go_wp2_with fail
                    refine ⟨⟨j + 1, by go_num, by omega, HVV.out⟩, ?_⟩
                    simp [intOf]; omega
                · have h1 : decide ((j : Int) < (l.length : Int)) = false := decide_eq_false (by omega)
                  go_upto_region 38 with fail
                  refine wp_region_lit ?_
                  refine wl rfl (.int .i64 (j : Nat)) _ (run_mvZ (.tmp 21) rfl (.int .i64 (j : Nat)) rfl) ?_
                  simp only [Act.put, List.setIfInBounds_toArray, List.set_cons_succ, List.set_cons_zero]
                  refine wl rfl (.slice (some ⟨ab, 0, none⟩) l.length acap) _ (run_mvZ (.tmp 13) rfl (.slice (some ⟨ab, 0, none⟩) l.length acap) rfl) ?_
                  simp only [Act.put, List.setIfInBounds_toArray, List.set_cons_succ, List.set_cons_zero]
                  refine wl rfl (.int .i64 (l.length : Nat)) _ (run_lenZ sl28 (.tmp 160) rfl (some ⟨ab, 0, none⟩) l.length acap rfl) ?_
                  simp only [Act.put, List.setIfInBounds_toArray, List.set_cons_succ, List.set_cons_zero]
                  refine wl rfl (.bool false) _ (run_lssZ (.tmp 159) (.tmp 161) rfl _ _ rfl rfl false h1) ?_
                  simp only [Act.put, List.setIfInBounds_toArray, List.set_cons_succ, List.set_cons_zero]
                  refine wpList_nil ?_
                  go_wp2_with fail
                  rw [HPQ.out]
                  exact ⟨rfl, HJ.out.1.pl.below⟩
end Go.Proofs.YtcpnlccajcpjmaaDoor

namespace Go.Proofs.YtcpnlccajcpjmaaDoor.pagerKeepsUpto
open Go.ChangeShapes Go.WideShapes Go.ChangeAt Go.RowKit

set_option maxRecDepth 100000 in
/-- WHAT THE WALK GIVES, FOR EVERY ARGUMENT AND EVERY WORLD THAT HOLDS THE TABLE -/
theorem contract (H : Type) (enc : TypeId × Value → H) (W : World) (base : Nat) (args : Array Value) (ds gs : List (DataW H)) (before : List MemPlace)
    (hval : ∀ (j : Nat) t v, Tryd.f5.params[j]? = some t → args[j]? = some v → Value.okWide Tryd.prog W .any base t v)
    (hW : DataW.Whole enc Tryd.prog Tryd.f5.params.toList Rows.pagerKeepsSpec.vars false W args.toList ds gs before)
    (hk : Rows.uptoSmall H (ds ++ gs) = true)
    (hL : laidMetH Tryd.prog Rows.pagerKeepsUptoRow.laid W) :
    Calls Tryd.prog 5 args W fun e W' => ∃ v, e = .returned v ∧ Rows.pagerKeepsSpec.post enc Tryd.prog Tryd.f5 false true false false W args v W' := by
  have hW' := hW
  obtain ⟨p, q, hA0, hV, rfl, hfz, hnd⟩ := hW
  have hA : DataW.TrodAll enc Tryd.prog W 0 (fun _ => true) true Tryd.f5.params.toList args.toList ds p := hA0
  rw [Tryd.params5] at hA hval
  obtain ⟨v0, vs0, d0, ds0, p0, q0, hargs, rfl, rfl, h0, r0⟩ := trodAll_cons hA
  obtain ⟨v1, vs1, d1, ds1, p1, q1, rfl, rfl, rfl, h1, r1⟩ := trodAll_cons r0
  obtain ⟨v2, vs2, d2, ds2, p2, q2, rfl, rfl, rfl, h2, r2⟩ := trodAll_cons r1
  obtain ⟨rfl, rfl, rfl⟩ := trodAll_nil r2
  obtain rfl : args = #[v0, v1, v2] := by cases args; simp_all
  obtain ⟨rfl, rfl⟩ := trodVars_none hV
  have lt0 : ∀ x ∈ p0, x.block < W.heap.size := by obtain ⟨m, hm⟩ := h0; exact DataW.trod_lt m _ _ _ hm
  obtain ⟨L0, hs0, hd0⟩ := open_rows (hval 0 50 v0 rfl rfl) h0
  have lt1 : ∀ x ∈ p1, x.block < W.heap.size := by obtain ⟨m, hm⟩ := h1; exact DataW.trod_lt m _ _ _ hm
  obtain ⟨L1, hs1, hd1⟩ := open_rows (hval 1 50 v1 rfl rfl) h1
  have lt2 : ∀ x ∈ p2, x.block < W.heap.size := by obtain ⟨m, hm⟩ := h2; exact DataW.trod_lt m _ _ _ hm
  obtain ⟨ks2, hs2, hd2, hb2⟩ := open_nums (hval 2 28 v2 rfl rfl) h2
  clear hA0
  have hbk : Rows.uptoBulkAll [d0, d1, d2] ≤ 1048576 := of_decide_eq_true hk
  simp only [Rows.uptoBulkAll] at hbk
  have hr0 := hs0 (by omega)
  obtain ⟨p0', cap0', hv0, _, _⟩ := id hr0
  subst hv0
  have hr1 := hs1 (by omega)
  obtain ⟨p1', cap1', hv1, _, _⟩ := id hr1
  subst hv1
  have walk := pagerKeeps_any W (tabIn_of hL) p0' L0.length cap0' L0 hr0 p1' L1.length cap1' L1 hr1 (by omega) v2 ks2 (hs2 (open_len hd2 (by omega)))
  refine walk.mono fun e W' ⟨he, bel⟩ => ?_
  subst he
  exact ⟨_, rfl, _, _, _, [], _, [], hW', trodAll_mk1 (shut_bool Tryd.underlying4 _), (trodAll_cons_mk (Below.trod laidOut (by kernel_rfl) (of_decide_eq_true (by kernel_rfl)) h0 bel lt0) (trodAll_cons_mk (Below.trod laidOut (by kernel_rfl) (of_decide_eq_true (by kernel_rfl)) h1 bel lt1) (trodAll_cons_mk (Below.trod laidOut (by kernel_rfl) (of_decide_eq_true (by kernel_rfl)) h2 bel lt2) trodAll_mk0))), rfl, bel.frame _, fun h => by cases h⟩

theorem laid_met (os : Os) : laidMet Tryd.prog Rows.pagerKeepsUptoRow.laid ((laidOn (World.holding Tryd.prog os ⟨#[], #[], []⟩)).forCall (fun _ _ => 0) ⟨#[], #[.slice none 0 0, .slice none 0 0, .slice none 0 0], []⟩).memory :=
  laidMet_of_run' 8 (by kernel_rfl) (by kernel_rfl)
theorem reads (os : Os) {H : Type} (enc : TypeId × Value → H) : ∃ places, DataW.whole enc Tryd.prog ((laidOn (World.holding Tryd.prog os ⟨#[], #[], []⟩)).forCall (fun _ _ => 0) ⟨#[], #[.slice none 0 0, .slice none 0 0, .slice none 0 0], []⟩).memory Tryd.f5.params.toList Rows.pagerKeepsSpec.vars false #[Value.slice none 0 0, .slice none 0 0, .slice none 0 0].toList 8 = some ([.nil, .nil, .nil], [], places) :=
  ⟨[], by kernel_rfl⟩

set_option maxRecDepth 100000 in
theorem lifted (os : Os) (started : os.Started) (H : Type) (enc : TypeId × Value → H) (F : Stop.Interp) :
    ReturnsInHanded {} Tryd.checked os 5 .any ((Rows.OpenSpec.upto Rows.pagerKeepsSpec).preRow enc Tryd.prog Tryd.f5 Rows.pagerKeepsUptoRow.domain false Rows.pagerKeepsUptoRow.laid) (((Rows.OpenSpec.upto Rows.pagerKeepsSpec).at F).post enc Tryd.prog Tryd.f5 false true false false) := by
  obtain ⟨places, hx⟩ := reads os enc
  refine returnsInHanded_of_row (C := Tryd.checked) (s := Rows.OpenSpec.upto Rows.pagerKeepsSpec) own started (by kernel_rfl) Tryd.func5
    (witness_row_at (enc := enc) (C := Tryd.checked) false (laidOn (World.holding Tryd.prog os ⟨#[], #[], []⟩)) #[.slice none 0 0, .slice none 0 0, .slice none 0 0] rfl (by kernel_rfl) (by kernel_rfl) (by kernel_rfl)
      (OpenSpec.preRow_of_cond 8 hx (by kernel_rfl) (fun k hk => by cases hk; kernel_rfl) (by kernel_rfl) (laid_met os))) ?_
  intro W base args ds gs before hval hW _ hcond _ hL _ _
  exact contract H enc W base args ds gs before hval hW (hcond _ rfl) hL

theorem said : Rows.PagerKeepsUptoSaid :=
  OpenClaim.holds_of_cond 5 Tryd.f5 rfl rfl rfl rfl rfl rfl rfl ⟨rfl, rfl, rfl, rfl, rfl⟩ rfl rfl rfl rfl rfl (by kernel_rfl) Tryd.func5 (by kernel_rfl)
    (of_decide_eq_true (by kernel_rfl)) (by unfold Func.isWrapper; first | (rw [if_pos (by decide +kernel)]; kernel_rfl) | (rw [if_neg (by decide +kernel)]; exact ⟨rfl, rfl⟩))
    (fun os started H enc _ F => by rw [OpenClaim.pre_eq_preRow]; exact lifted os started H enc F)

theorem plain (f : FuncId) (fn : Func) (hf : Tryd.pinned.checked.prog.funcNamed "muniment/munimentlaw09.PagerKeeps" = some f) (hfn : Tryd.pinned.checked.prog.funcs[f]? = some fn) :
    false = Tryd.pinned.checked.prog.looks [] ∧ ∀ (j : Nat) t, fn.params[j]? = some t → Tryd.pinned.checked.prog.wantsStandIn t = false := by
  obtain rfl : f = 5 := Option.some.inj ((show Tryd.prog.funcNamed "muniment/munimentlaw09.PagerKeeps" = some 5 by kernel_rfl).symm.trans hf) |>.symm
  obtain rfl : fn = Tryd.f5 := (Option.some.inj (Tryd.func5.symm.trans hfn)).symm
  refine ⟨by kernel_rfl, fun j t ht => ?_⟩
  rw [Tryd.params5] at ht
  have hm := Array.mem_of_getElem? ht
  have : t = 50 ∨ t = 50 ∨ t = 28 := by simpa using hm
  rcases this with rfl | rfl | rfl
  · exact (show Tryd.prog.wantsStandIn 50 = false by kernel_rfl)
  · exact (show Tryd.prog.wantsStandIn 50 = false by kernel_rfl)
  · exact (show Tryd.prog.wantsStandIn 28 = false by kernel_rfl)

end Go.Proofs.YtcpnlccajcpjmaaDoor.pagerKeepsUpto
namespace Go.Proofs.YtcpnlccajcpjmaaDoor
/-- THE CARD -/
theorem pagerKeepsUpto_card : Rows.PagerKeepsUptoCardSaid :=
  Claim7.holds_tied_plain_at .later [] _ _ _ _ pagerKeepsUpto.said (fun _ h => by cases h) (by kernel_rfl) (fun _ h => by cases h) pagerKeepsUpto_row_tie rfl ⟨rfl, rfl⟩ (by kernel_rfl) rfl pagerKeepsUpto.plain (by kernel_rfl)
end Go.Proofs.YtcpnlccajcpjmaaDoor

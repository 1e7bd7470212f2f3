/- A record at hand. -/
import Derived.Test.YtncjmolhofnpbaaR8
namespace Go.Proofs.Ytncjmolhofnpbaa
open Go.RowKit

/-- a world without the blocks from g on -/
def cutW (w : World) (g : Nat) : World := { w with heap := w.heap.extract 0 g }
theorem cutW_size (w : World) (g : Nat) (h : g ≤ w.heap.size) : (cutW w g).heap.size = g := by simp [cutW]; omega
theorem cutW_below (w : World) (g : Nat) (h : g ≤ w.heap.size) : Below g (cutW w g) w := by
  refine ⟨rfl, rfl, rfl, by rw [cutW_size w g h]; exact h, fun k hk => ?_⟩
  simp [cutW]
  rw [Array.getElem?_extract]
  simp
  omega
theorem below_cut {w w' : World} {g : Nat} (h : Below g (cutW w g) w') (hg : g ≤ w.heap.size) (hs : w.heap.size ≤ w'.heap.size) : Below g w w' :=
  ⟨h.os, h.tape, h.output, hs, fun k hk => (h.block k hk).trans ((cutW_below w g hg).block k hk).symm⟩
theorem Loc.keep {w W W' : World} {l : List (Nat × TypeId × List Value)} (h : Loc w W l) (hb : Below w.heap.size W W') (hk : ∀ (i g : Nat) (T : TypeId) (cs : List Value), l[i]? = some (g, T, cs) → W'.heap[g]? = W.heap[g]?) : Loc w W' l :=
  ⟨h.below.trans hb, fun i g T cs e => ⟨(hk i g T cs e).trans (h.row i g T cs e).1, (h.row i g T cs e).2⟩, h.ne⟩
/-- places that the call has made -/
def POwn (w : World) (base : Nat) (v : Value) (ps : List Pc) : Prop := w.ownsRow base 43 4 v ps.length (pcs ps)
theorem POwn.nil (w : World) (base : Nat) : POwn w base (.slice none 0 0) [] := World.ownsRow_nil w base 43 4
theorem POwn.isIn {w : World} {base : Nat} {v : Value} {ps : List Pc} (h : POwn w base v ps) (hl : ps.length ≤ 9223372036854775807) : PlIn w v ps := by
  rcases h.2 with ⟨rfl, h0⟩ | ⟨g, cap, cur, rfl, _, hg, hcap, hmax, hsz, htake⟩
  · obtain rfl : ps = [] := List.length_eq_zero_iff.1 h0
    exact PlIn.nil w
  · refine ⟨_, cap, rfl, ⟨hcap, hl⟩, Or.inr ⟨g, 0, rfl, fun j hj => ?_⟩⟩
    rw [← htake, List.getElem?_take, if_pos hj]
    simp [World.cell?, hg]
theorem POwn.ne {w : World} {base : Nat} {v : Value} {ps : List Pc} (h : POwn w base v ps) {q T : Nat} {cs : List Value} (hr : Row w q T cs) (hT : T ≠ 43) : v.ownBlock ≠ some q := by
  intro e
  rcases h.2 with ⟨rfl, _⟩ | ⟨g, cap, cur, rfl, _, hg, _⟩
  · cases e
  · have e2 : g = q := Option.some.inj e
    subst e2
    unfold Row at hr
    rw [hg] at hr
    injection hr with hr
    injection hr with _ h2
    exact hT h2.symm
theorem POwn.keep {w w' : World} {base : Nat} {v : Value} {ps : List Pc} (h : POwn w base v ps) (hb : ∀ b, v.ownBlock = some b → base ≤ b → b < w.heap.size → w'.heap[b]? = w.heap[b]?) : POwn w' base v ps :=
  ownK h fun b e => hb b e (h.lt b e).1 (h.lt b e).2
theorem POwn.later {w w' : World} {base : Nat} {v : Value} {ps : List Pc} (h : POwn w base v ps) (hb : Below w.heap.size w w') : POwn w' base v ps := h.keep fun b _ _ hlt => hb.block b hlt
theorem POwn.weaken {w : World} {base base' : Nat} {v : Value} {ps : List Pc} (h : POwn w base v ps) (hb : base' ≤ base) : POwn w base' v ps := by
  refine ⟨h.1, ?_⟩
  rcases h.2 with h0 | ⟨g, cap, cur, e, h1, h2⟩
  · exact Or.inl h0
  · exact Or.inr ⟨g, cap, cur, e, Nat.le_trans hb h1, h2⟩
theorem info43 : (Try.prog.info? 43).map (fun i => (i.zero, i.size, i.bytes)) = some (some (.agg (pcells ⟨0, 0, 0, false⟩).toArray), 4, 32) := by kernel_rfl
theorem run_papp {w : World} (base : Nat) (ty : TypeId) (v : Value) (ps : List Pc) (p : Pc) (hown : POwn w base v ps) (b : Nat) (hrow : Row w b 43 (pcells p)) (hn : ps.length ≤ 1000) (hbase : base ≤ w.heap.size) :
    ∃ v' w', (Builtin.append_ #[24, 24] ty #[v, .slice (some ⟨b, 0, none⟩) 1 1]).run Try.prog w = .ok v' w' ∧ POwn w' base v' (ps ++ [p]) ∧ w.grownBy w' v.ownBlock := by
  obtain ⟨i, hi, hz0, hz1, hz2⟩ := info_parts info43
  obtain ⟨v', w', hr, ho', hg, _⟩ := run_append_own (P := Try.prog) (w := w) base 24 ty 43 i (.agg (pcells ⟨0, 0, 0, false⟩).toArray) 4 32 und24 hi hz0 hz1 hz2 rfl (by decide) v ps.length (pcs ps) hown
    ⟨b, 0, none⟩ 1 1 (pcells p) (by simp [pcells]) (fun j u hu => by rw [add_none, Nat.zero_add]; exact hrow.at j u hu) (pcells_one p) (by unfold maxLen; omega) (by omega) hbase
  refine ⟨v', w', hr, ?_, hg⟩
  unfold POwn
  rw [pcs_append, List.length_append]
  simpa [pcs] using ho'
theorem run_lit43 {w : World} (p : Pc) : (Instr.buildSlice 24 1 #[(0, .agg (pcells p).toArray)]).run Try.prog w = .ok (.slice (some ⟨w.heap.size, 0, none⟩) 1 1) (w.alloc (.cells (pcells p).toArray 43)) := by
  cases p with
  | mk a b c d => kernel_rfl

def rz : Rc := ⟨[], 0, List.replicate 32 0, 0, 0, false, false, []⟩
theorem zero26 : (Try.prog.info? 26).map (·.zero) = some (some (.agg (rcells rz (.slice none 0 0)).toArray)) := by kernel_rfl
/-- a reader and a record at hand -/
def Ru (g : Nat) (w0 : World) (q2 q3 : Nat) (W : World) (l : List Nat) (cs : List Value) : Prop :=
  ∃ v, Loc w0 W [(g, 62, [v]), (q2, 26, rcells rz (.slice none 0 0)), (q3, 26, cs)] ∧ Off W g v l ∧ w0.heap.size = g
section
variable {g q2 q3 : Nat} {w0 W W' : World} {l l' : List Nat} {cs cs' : List Value}
theorem Ru.rd (h : Ru g w0 q2 q3 W l cs) : RdAt W g l := by
  obtain ⟨v, h1, h2, _⟩ := h
  exact ⟨v, h1.at 0 rfl, h2⟩
theorem Ru.row (h : Ru g w0 q2 q3 W l cs) : Row W q3 26 cs := by
  obtain ⟨v, h1, _, _⟩ := h
  exact h1.at 2 rfl
theorem Ru.row2 (h : Ru g w0 q2 q3 W l cs) : Row W q2 26 (rcells rz (.slice none 0 0)) := by
  obtain ⟨v, h1, _, _⟩ := h
  exact h1.at 1 rfl
theorem Ru.under (h : Ru g w0 q2 q3 W l cs) : Below g w0 W := by
  obtain ⟨v, h1, _, h3⟩ := h
  have := h1.below
  rw [h3] at this
  exact this
theorem Ru.ge (h : Ru g w0 q2 q3 W l cs) : g ≤ q3 ∧ g ≤ q2 ∧ q2 ≠ g ∧ q3 ≠ g ∧ q2 ≠ q3 := by
  obtain ⟨v, h1, _, h3⟩ := h
  have e1 := h1.ge 2 rfl
  have e2 := h1.ge 1 rfl
  rw [h3] at e1 e2
  exact ⟨e1, e2, h1.ne 1 0 _ _ rfl rfl (by decide), h1.ne 2 0 _ _ rfl rfl (by decide), h1.ne 1 2 _ _ rfl rfl (by decide)⟩
theorem Ru.step (h : Ru g w0 q2 q3 W l cs) (hc : Ch (· = g) W W') (hr : RdAt W' g l') : Ru g w0 q2 q3 W' l' cs := by
  obtain ⟨v, h1, _, h3⟩ := h
  obtain ⟨v', r1, r2⟩ := hr
  exact ⟨v', h1.set 0 rfl r1 hc, r2, h3⟩
theorem Ru.later (h : Ru g w0 q2 q3 W l cs) (hb : Below W.heap.size W W') : Ru g w0 q2 q3 W' l cs := by
  have hg := h.rd.lt
  obtain ⟨v, h1, h2, h3⟩ := h
  exact ⟨v, h1.later hb, h2.later (hb.mono (Nat.le_of_lt hg)), h3⟩
theorem Ru.put (h : Ru g w0 q2 q3 W l cs) (hc : Ch (· = q3) W W') (hr : Row W' q3 26 cs') : Ru g w0 q2 q3 W' l cs' := by
  have hg := h.rd.lt
  have hq := h.ge
  obtain ⟨v, h1, h2, h3⟩ := h
  exact ⟨v, h1.set 2 rfl hr hc, h2.later (hc.below (Nat.le_of_lt hg) fun i hi e => by omega), h3⟩
theorem Ru.grow (h : Ru g w0 q2 q3 W l cs) {base : Nat} {vc : Value} {ps : List Pc} (ho : POwn W base vc ps) (hg : W.grownBy W' vc.ownBlock) (hb : g ≤ base) : Ru g w0 q2 q3 W' l cs := by
  have hlt := h.rd.lt
  obtain ⟨v, h1, h2, h3⟩ := h
  have hbl : Below g W W' := (Below.refl g W).grown hg (Nat.le_of_lt hlt) fun k hk => Nat.le_trans hb (ho.lt k hk).1
  refine ⟨v, h1.keep (by rw [h3]; exact hbl) fun i q T c e => ?_, h2.later hbl, h3⟩
  have hr := h1.at i e
  have hT : T ≠ 43 := by
    match i, e with
    | 0, e => cases e; decide
    | 1, e => cases e; decide
    | 2, e => cases e; decide
    | i + 3, e => simp at e
  exact hg.block q hr.lt (fun e2 => ho.ne hr hT e2.symm)
end
/-- a record whose bytes are bytes -/
def Fine (r : Rc) : Prop := r.root.length = 32 ∧ (∀ c ∈ r.id, c < 256) ∧ (∀ c ∈ r.root, c < 256)
theorem rz_fine : Fine rz := ⟨rfl, (by intro c hc; cases hc), (by intro c hc; rw [List.eq_of_mem_replicate hc]; decide)⟩
theorem set_at (r : Rc) (vc x : Value) (h : r.root.length = 32) (k : Nat) : (rcells r vc).set (34 + k) x = str r.id :: .int .i64 r.length :: (bcells r.root ++ [Value.int .i64 r.index, .int .i64 r.expiry, .bool r.hold, .bool r.gone, vc].set k x) := by
  rw [show 34 + k = (32 + k) + 1 + 1 by omega]
  simp only [rcells, List.set_cons_succ]
  rw [List.set_append_right _ _ (by rw [bcells_length, h]; omega), bcells_length, h, show 32 + k - 32 = k by omega]
theorem set34 (r : Rc) (vc : Value) (h : r.root.length = 32) (x : Int) : (rcells r vc).set 34 (.int .i64 x) = rcells { r with index := x } vc := set_at r vc _ h 0
theorem set35 (r : Rc) (vc : Value) (h : r.root.length = 32) (x : Int) : (rcells r vc).set 35 (.int .i64 x) = rcells { r with expiry := x } vc := set_at r vc _ h 1
theorem set36 (r : Rc) (vc : Value) (h : r.root.length = 32) (x : Bool) : (rcells r vc).set 36 (.bool x) = rcells { r with hold := x } vc := set_at r vc _ h 2
theorem set37 (r : Rc) (vc : Value) (h : r.root.length = 32) (x : Bool) : (rcells r vc).set 37 (.bool x) = rcells { r with gone := x } vc := set_at r vc _ h 3
theorem set38 (r : Rc) (vc vd : Value) (h : r.root.length = 32) (ps : List Pc) : (rcells r vc).set 38 vd = rcells { r with cp := ps } vd := set_at r vc _ h 4
theorem set2 (r : Rc) (vc : Value) (h : r.root.length = 32) (x : List Nat) (hx : x.length = 32) : splice (rcells r vc) 2 (bcells x) = rcells { r with root := x } vc := by
  unfold splice rcells
  rw [bcells_length, hx]
  simp only [List.take_succ_cons, List.take_zero, List.drop_succ_cons]
  rw [List.drop_left' (by rw [bcells_length, h])]
  rfl
def k5 (r : Rc) (k : Nat) (l : List Nat) : Option (Rc × List Nat) := (rdPs k l).bind fun f => if restB { r with cp := f.1 } then some ({ r with cp := f.1 }, f.2) else none
def k4 (r : Rc) (l : List Nat) : Option (Rc × List Nat) := (num 1 l).bind fun e => k5 r e.1 e.2
def k3 (r : Rc) (l : List Nat) : Option (Rc × List Nat) := (upTo 3 l).bind fun d => k4 { r with hold := decide (d.1 % 2 = 1), gone := decide (d.1 / 2 % 2 = 1) } d.2
def k2 (r : Rc) (l : List Nat) : Option (Rc × List Nat) := (num 6 l).bind fun c => k3 { r with expiry := c.1 } c.2
def k1 (r : Rc) (l : List Nat) : Option (Rc × List Nat) := (num 4 l).bind fun b => k2 { r with index := b.1 } b.2
theorem rdR_eq (l : List Nat) : rdR l = (rdE l).bind fun a => k1 { rz with id := a.1.1, length := a.1.2.1, root := a.1.2.2 } a.2 := rfl
theorem rdPs_none {i : Nat} {l : List Nat} (h : rdPs i l = none) : ∀ k, i ≤ k → rdPs k l = none := by
  intro k hk
  induction hk with
  | refl => exact h
  | step _ ih => rw [rdPs_snoc, ih]; rfl

end Go.Proofs.Ytncjmolhofnpbaa

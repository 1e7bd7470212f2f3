/- Layer 13: the document's stage in memory. -/
import Derived.Test.YtcjanjofjnedbaaS9
namespace Go.Proofs.Ytcjanjofjnedbaa
open Go.RowKit Go.Maps Go.MapKept

theorem info52z : (Try.prog.info? 52).map (fun i => (i.zero, i.size, i.bytes)) = some (some (.agg #[.int .i64 0, .slice none 0 0]), 2, 32) := by kernel_rfl
theorem sz52 : (Try.prog.info? 52).map (·.size) = some 2 := by kernel_rfl
theorem sl48 : Try.prog.underlying 48 = some (.slice (Try.prog.elem 48)) := by kernel_rfl
theorem elem48 : Try.prog.elem 48 = 52 := by kernel_rfl
/-- the document's sessions as cells -/
def rcells (l : List En) : List Value := l.flatMap fun x => [.int .i64 (x.no : Nat), svV x.a]
theorem rcells_length (l : List En) : (rcells l).length = l.length * 2 := by
  induction l with
  | nil => rfl
  | cons x l ih => simp [rcells] at *; omega
theorem rcells_append (a b : List En) : rcells (a ++ b) = rcells a ++ rcells b := by simp [rcells]
theorem rcells_at (l : List En) (k : Nat) (h : k < l.length) : (rcells l)[k * 2]? = some (.int .i64 (l[k].no : Nat)) ∧ (rcells l)[k * 2 + 1]? = some (svV l[k].a) := by
  induction l generalizing k with
  | nil => simp at h
  | cons x l ih =>
    cases k with
    | zero => exact ⟨rfl, rfl⟩
    | succ k =>
      have := ih k (by simpa using h)
      rw [show (k + 1) * 2 = k * 2 + 1 + 1 by omega]
      exact this
theorem rcells_one (l : List En) : ∀ v ∈ rcells l, v.oneCell' = true := by
  intro v hv
  obtain ⟨x, _, hx⟩ := List.mem_flatMap.1 hv
  rcases List.mem_cons.1 hx with rfl | hx
  · rfl
  · rw [List.mem_singleton.1 hx]
    exact (svV_one x.a).2
theorem rcells_take (l : List En) (k : Nat) : (rcells l).take (k * 2) = rcells (l.take k) := by
  induction l generalizing k with
  | nil => simp [rcells]
  | cons x l ih =>
    cases k with
    | zero => simp [rcells]
    | succ k =>
      rw [show (k + 1) * 2 = k * 2 + 1 + 1 by omega]
      show (Value.int .i64 (x.no : Nat) :: svV x.a :: rcells l).take (k * 2 + 1 + 1) = rcells (x :: l.take k)
      rw [List.take_succ_cons, List.take_succ_cons, ih]
      rfl
theorem rcells_drop (l : List En) (k : Nat) : (rcells l).drop (k * 2) = rcells (l.drop k) := by
  induction l generalizing k with
  | nil => simp [rcells]
  | cons x l ih =>
    cases k with
    | zero => simp
    | succ k =>
      rw [show (k + 1) * 2 = k * 2 + 1 + 1 by omega]
      show (Value.int .i64 (x.no : Nat) :: svV x.a :: rcells l).drop (k * 2 + 1 + 1) = rcells (l.drop k)
      rw [List.drop_succ_cons, List.drop_succ_cons, ih]
theorem rcells_set (l : List En) (k : Nat) (h : k < l.length) (a : Sv) (bs : List Nat) : (rcells l).set (k * 2 + 1) (svV a) = rcells (l.set k ⟨l[k].no, a, bs⟩) := by
  induction l generalizing k with
  | nil => simp at h
  | cons x l ih =>
    cases k with
    | zero => rfl
    | succ k =>
      have := ih k (by simpa using h)
      rw [show (k + 1) * 2 + 1 = (k * 2 + 1) + 1 + 1 by omega]
      show (Value.int .i64 (x.no : Nat) :: svV x.a :: rcells l).set ((k * 2 + 1) + 1 + 1) (svV a) = _
      rw [List.set_cons_succ, List.set_cons_succ, this]
      rfl
def RRow (w : World) (v : Value) (l : List En) : Prop := w.ownsRow 0 52 2 v l.length (rcells l)
theorem RRow.neB {w : World} {v u : Value} {l : List En} {cs : List Nat} {base : Nat} (h : RRow w v l) (hb : BOwn w base u cs) {k : Nat} (e : u.ownBlock = some k) : v.ownBlock ≠ some k := by
  intro e2
  rcases h.2 with ⟨rfl, _⟩ | ⟨g, cap, cur, rfl, _, hg, _⟩
  · cases e2
  · rcases hb.2 with ⟨rfl, _⟩ | ⟨g', cap', cur', rfl, _, hg', _⟩
    · cases e
    · have e3 : g = k := Option.some.inj e2
      have e4 : g' = k := Option.some.inj e
      subst e3
      subst e4
      rw [hg] at hg'
      injection hg' with h1
      injection h1 with _ h2
      exact absurd h2 (by decide)
theorem RRow.neG {w : World} {v : Value} {l : List En} (h : RRow w v l) {q T : Nat} {rs : List Value} (hr : Row w q T rs) (hT : T ≠ 52) : v.ownBlock ≠ some q := by
  intro e
  rcases h.2 with ⟨rfl, _⟩ | ⟨g, cap, cur, rfl, _, hg, _⟩
  · cases e
  · have e2 : g = q := Option.some.inj e
    subst e2
    unfold Row at hr
    rw [hg] at hr
    injection hr with hr
    injection hr with _ h2
    exact hT h2.symm
/-- the document's stage at block g -/
structure RfAt (w : World) (F : Nat → Prop) (g nx : Nat) (l : List En) : Prop where
  top : ∃ v, Row w g 50 [.int .i64 (nx : Nat), v] ∧ RRow w v l ∧ F g ∧ ∀ k, v.ownBlock = some k → F k
  own : ∀ x ∈ l, BOwn w 0 (svV x.a) x.bs ∧ (∀ k, svB x.a = some k → F k) ∧ (∀ c ∈ x.bs, c < 256) ∧ x.bs.length ≤ 512
  ord : l.Pairwise (fun x y => x.no < y.no)
  lt : ∀ x ∈ l, x.no < nx
  low : ∀ k, F k → k < w.heap.size
  eight : l.length ≤ 8
  all : total l ≤ 2048
theorem RfAt.keep {w w' : World} {F : Nat → Prop} {g nx : Nat} {l : List En} (h : RfAt w F g nx l) (hs : w.heap.size ≤ w'.heap.size) (hk : ∀ k, F k → w'.heap[k]? = w.heap[k]?) : RfAt w' F g nx l := by
  obtain ⟨v, h1, h2, h3, h4⟩ := h.top
  exact ⟨⟨v, by unfold Row at *; rw [hk g h3]; exact h1, ownK h2 fun k e => hk k (h4 k e), h3, h4⟩, fun x hx => ⟨ownK (h.own x hx).1 fun k e => hk k ((h.own x hx).2.1 k (by rw [← svV_block]; exact e)), (h.own x hx).2⟩, h.ord, h.lt, fun k e => Nat.lt_of_lt_of_le (h.low k e) hs, h.eight, h.all⟩
theorem RfAt.ch {w w' : World} {F S : Nat → Prop} {g nx : Nat} {l : List En} (h : RfAt w F g nx l) (hc : Ch S w w') (hd : ∀ k, S k → ¬ F k) : RfAt w' F g nx l :=
  h.keep hc.size fun k hk => hc.block k (h.low k hk) fun e => hd k e hk
theorem RfAt.later {w w' : World} {F : Nat → Prop} {g nx : Nat} {l : List En} (h : RfAt w F g nx l) (hb : Below w.heap.size w w') : RfAt w' F g nx l :=
  h.keep hb.size fun k hk => hb.block k (h.low k hk)
theorem RfAt.olds {w w' : World} {F : Nat → Prop} {g nx : Nat} {l : List En} {v : Value} (h : RfAt w F g nx l) (hr : Row w g 50 [.int .i64 (nx : Nat), v]) (ho : RRow w v l) (hc : Ch (fun k => k = g ∨ v.ownBlock = some k) w w') : ∀ x ∈ l, BOwn w' 0 (svV x.a) x.bs := fun x hx =>
  ownK (h.own x hx).1 fun k e => hc.block k ((h.own x hx).1.lt k e).2 fun h2 => h2.elim (fun e2 => (h.own x hx).1.neRowB hr (by decide) (e2 ▸ e)) fun e2 => ho.neB (h.own x hx).1 e e2
/-- what is new lies within these -/
def Nw (F : Nat → Prop) (w w' : World) : Nat → Prop := fun k => F k ∨ (w.heap.size ≤ k ∧ k < w'.heap.size)
theorem RfAt.step {w w' : World} {F : Nat → Prop} {g nx nx' : Nat} {l l' : List En} {v v' : Value} (h : RfAt w F g nx l) (hr : Row w g 50 [.int .i64 (nx : Nat), v]) (ho : RRow w v l) (hc : Ch (fun k => k = g ∨ v.ownBlock = some k) w w')
    (hr' : Row w' g 50 [.int .i64 (nx' : Nat), v']) (ho' : RRow w' v' l') (hv' : ∀ k, v'.ownBlock = some k → Nw F w w' k) (hn : ∀ x ∈ l', x ∈ l ∨ (BOwn w' 0 (svV x.a) x.bs ∧ (∀ k, svB x.a = some k → Nw F w w' k) ∧ (∀ c ∈ x.bs, c < 256) ∧ x.bs.length ≤ 512))
    (ord : l'.Pairwise (fun x y => x.no < y.no)) (lt : ∀ x ∈ l', x.no < nx') (h8 : l'.length ≤ 8) (hall : total l' ≤ 2048) : RfAt w' (Nw F w w') g nx' l' ∧ Tn F (Nw F w w') w w' := by
  obtain ⟨v0, h1, h2, hFg, h4⟩ := h.top
  have e0 : v0 = v := by
    unfold Row at h1 hr
    rw [h1] at hr
    simpa using hr
  subst e0
  have olds := h.olds hr ho hc
  refine ⟨⟨⟨v', hr', ho', Or.inl hFg, hv'⟩, fun x hx => ?_, ord, lt, fun k hk => ?_, h8, hall⟩, ⟨hc.mono fun i _ hi => hi.elim (fun e => by rw [e]; exact hFg) (h4 i), fun k hk => hk.imp id fun h => h.1⟩⟩
  · rcases hn x hx with hx | hx
    · exact ⟨olds x hx, fun k e => Or.inl ((h.own x hx).2.1 k e), (h.own x hx).2.2⟩
    · exact hx
  · rcases hk with hk | hk
    · exact Nat.lt_of_lt_of_le (h.low k hk) hc.size
    · exact hk.2
theorem run_rapp {w : World} (ty : TypeId) (v : Value) (l m : List En) (hown : RRow w v l) (vx : Value) (ad : Addr) (c : Nat) (hx : vx = .slice (some ad) m.length c) (hc : ∀ j u, (rcells m)[j]? = some u → w.cell? (ad.add j) = some u) (hsz : l.length + m.length ≤ 1000) :
    ∃ v' w', (Builtin.append_ #[48, 48] ty #[v, vx]).run Try.prog w = .ok v' w' ∧ RRow w' v' (l ++ m) ∧ w.grownBy w' v.ownBlock ∧ (v'.ownBlock = v.ownBlock ∨ v'.ownBlock = some w.heap.size) := by
  obtain ⟨i, hi, hz0, hz1, hz2⟩ := info_parts info52z
  subst hx
  obtain ⟨v', w', hr, ho', hg, _, hat⟩ := run_append_own_at (P := Try.prog) (w := w) 0 48 ty 52 i (.agg #[.int .i64 0, .slice none 0 0]) 2 32 und48 hi hz0 hz1 hz2 rfl (by decide) v l.length (rcells l) hown
      ad m.length c (rcells m) (rcells_length m) hc (rcells_one m) (by unfold maxLen; omega) (by omega) (Nat.zero_le _)
  refine ⟨v', w', hr, ?_, hg, hat⟩
  unfold RRow
  rw [rcells_append, List.length_append]
  exact ho'
theorem run_rapp0 {w : World} (ty : TypeId) (v : Value) (l : List En) (hown : RRow w v l) (c : Nat) : (Builtin.append_ #[48, 48] ty #[v, .slice none 0 c]).run Try.prog w = .ok v w := by
  obtain ⟨i, hi, hz0, hz1, hz2⟩ := info_parts info52z
  rcases hown.2 with ⟨rfl, h0⟩ | ⟨g, cap', cur, rfl, _, hg, hcap, hmax, hsz, htake⟩
  · simp [Builtin.append_, run_underlying und48, sizeOf, typeInfo, hi, Builtin.lenOf, Builtin.firstCells]
  · simp [Builtin.append_, run_underlying und48, sizeOf, typeInfo, hi, Builtin.lenOf, Builtin.firstCells, hcap, storeCells]
/-- a cut of the row, as a source -/
theorem cut_row {w : World} {v : Value} {l : List En} (h : RRow w v l) (a b : Nat) (hab : a ≤ b) (hb : b ≤ l.length) (cap m : Nat) (hm : b ≤ m) (hv : ∃ p, v = .slice p l.length cap) :
    ∃ p, v = .slice p l.length cap ∧ ((∃ ad, (sliced p a b m 2) = .slice (some ad) ((l.take b).drop a).length (m - a) ∧ ∀ W : World, (∀ k, v.ownBlock = some k → W.heap[k]? = w.heap[k]?) → ∀ j u, (rcells ((l.take b).drop a))[j]? = some u → W.cell? (ad.add j) = some u) ∨ (l = [] ∧ sliced p a b m 2 = .slice none 0 (m - a))) := by
  obtain ⟨p, rfl⟩ := hv
  refine ⟨p, rfl, ?_⟩
  have hlen : ((l.take b).drop a).length = b - a := by simp; omega
  rcases h.2 with ⟨e, h0⟩ | ⟨g, cap', cur, e, _, hg, hcap, hmax, hsz, htake⟩
  · injection e with e1 e2 e3
    subst e1
    have hl0 : l = [] := List.length_eq_zero_iff.1 h0
    refine Or.inr ⟨hl0, ?_⟩
    unfold sliced
    have ha : a = 0 := by omega
    have hbb : b = 0 := by omega
    subst ha
    subst hbb
    split <;> rfl
  · injection e with e1 e2 e3
    subst e1
    left
    have key : ∀ W : World, (∀ k, (Value.slice (some ⟨g, 0, none⟩) l.length cap).ownBlock = some k → W.heap[k]? = w.heap[k]?) → ∀ q, q < l.length * 2 → W.cell? ⟨g, q, none⟩ = (rcells l)[q]? := fun W hW q hq => by
      have h1 := hW g rfl
      have h2 := (ownK h hW).cellAt q hq
      exact h2
    unfold sliced
    by_cases hz : m = a
    · rw [if_pos hz, hlen]
      refine ⟨_, rfl, fun W hW j u hu => ?_⟩
      have : (l.take b).drop a = [] := List.length_eq_zero_iff.1 (by rw [hlen]; omega)
      rw [this] at hu
      simp [rcells] at hu
    · rw [if_neg hz, hlen]
      refine ⟨_, rfl, fun W hW j u hu => ?_⟩
      have hj := (List.getElem?_eq_some_iff.1 hu).1
      rw [rcells_length, hlen] at hj
      dsimp only
      rw [add_none, add_none, Nat.zero_add, key W hW (a * 2 + j) (by omega), ← hu, ← rcells_drop, ← rcells_take, List.getElem?_drop, List.getElem?_take, if_pos (by omega)]
theorem filter_cut {l : List En} (ho : l.Pairwise (fun x y => x.no < y.no)) (k : Nat) (hk : k < l.length) {p : Int} (hp : (l[k].no : Int) = p) : (l.filter fun y => decide ((y.no : Int) ≠ p)) = l.take k ++ l.drop (k + 1) := by
  induction l generalizing k with
  | nil => simp at hk
  | cons x l ih =>
    rw [List.pairwise_cons] at ho
    cases k with
    | zero =>
      rw [List.filter_cons_of_neg (by simpa using hp)]
      simp only [List.take_zero, List.nil_append, List.drop_succ_cons, List.drop_zero]
      rw [List.filter_eq_self]
      intro y hy
      have h1 := ho.1 y hy
      have h2 : (x.no : Int) = p := hp
      exact decide_eq_true (by omega)
    | succ k =>
      have hk' : k < l.length := by simpa using hk
      have hp' : (l[k].no : Int) = p := hp
      have := ho.1 _ (List.getElem_mem hk')
      rw [List.filter_cons_of_pos (by simp; omega), ih ho.2 k hk' hp']
      rfl
theorem upd_set {l : List En} (ho : l.Pairwise (fun x y => x.no < y.no)) (k : Nat) (hk : k < l.length) {p : Int} (hp : (l[k].no : Int) = p) (a : Sv) (b : List Nat) : l.map (upd p a b) = l.set k ⟨l[k].no, a, l[k].bs ++ b⟩ := by
  apply List.ext_getElem
  · simp
  · intro j h1 h2
    rw [List.getElem_map, List.getElem_set]
    have hj : j < l.length := by simpa using h1
    by_cases e : k = j
    · subst e
      rw [if_pos rfl]
      unfold upd
      rw [if_pos hp]
    · rw [if_neg e]
      unfold upd
      rw [if_neg]
      intro e2
      rcases Nat.lt_or_gt_of_ne e with h | h
      · have := List.pairwise_iff_getElem.1 ho k j hk hj h; omega
      · have := List.pairwise_iff_getElem.1 ho j k hj hk h; omega
theorem look_at {l : List En} (ho : l.Pairwise (fun x y => x.no < y.no)) (k : Nat) (hk : k < l.length) {p : Int} (hp : (l[k].no : Int) = p) : look l p = some l[k] := by
  induction l generalizing k with
  | nil => simp at hk
  | cons x l ih =>
    rw [List.pairwise_cons] at ho
    unfold look
    cases k with
    | zero => exact List.find?_cons_of_pos (by simpa using hp)
    | succ k =>
      have hk' : k < l.length := by simpa using hk
      have hp' : (l[k].no : Int) = p := hp
      have := ho.1 _ (List.getElem_mem hk')
      rw [List.find?_cons_of_neg (by simp; omega)]
      exact ih ho.2 k hk' hp'
theorem look_no {l : List En} {p : Int} (h : ∀ x ∈ l, (x.no : Int) ≠ p) : look l p = none := by
  unfold look
  rw [List.find?_eq_none]
  intro x hx
  simpa using h x hx

end Go.Proofs.Ytcjanjofjnedbaa

/- Layer 9: numbers that a law keeps, and what a pager keeps. The document's pager: what it has in memory. The document's pager: used, Root, Room. The document's pager: Read, Free. -/
import Derived.Test.YtkpnflgnhhfjoaaDoorZ35
import Derived.Maps.AppendAt
namespace Go.Proofs.YtkpnflgnhhfjoaaDoor
open Go.RowKit Go.Maps

section
variable {w : World} {a : Act} {o : Oper}
theorem run_leqZ (x y : Operand) (ho : o.op = .binOp .leq 3 x y 3) (z z' : Int) (hx : a.eval x = .int .i64 z) (hy : a.eval y = .int .i64 z') (b : Bool) (hb : decide (z ≤ z') = b) : (execOp a.eval o).run Tryd.prog w = .ok (.value (.bool b)) w := by
  subst hb
  simp only [execOp, ho, hx, hy]
  simp [go_sem]
theorem run_neB (x y : Operand) (ho : o.op = .binOp .neq 4 x y 4) (b : Bool) (hx : a.eval x = .bool b) (hy : a.eval y = .bool b) : (execOp a.eval o).run Tryd.prog w = .ok (.value (.bool false)) w := by
  refine run_binOp' x y ho _ _ _ hx hy rfl ?_
  cases b <;> simp [go_sem]
end
def icells (l : List Int) : List Value := l.map fun z => .int .i64 z
/-- numbers in a block that nothing else has -/
structure AtIn (w W : World) (c : Nat → Colour) (gp : Nat) (v : Value) (l : List Int) : Prop where
  own : W.ownsRow 0 3 1 v l.length (icells l)
  ap : ∀ b, v.ownBlock = some b → w.heap.size ≤ b ∧ b < W.heap.size ∧ (c b).1 ≠ 2 ∧ b ≠ gp
  sl : ∃ b cap, v = .slice (some ⟨b, 0, none⟩) l.length cap
section
variable {w W W' : World} {c : Nat → Colour} {gp g : Nat} {m : Pl} {ds ts : List Nat} {i n : Nat} {L : Hd} {U : List Nat} {X : Nat → List Nat} {K : Nat}
theorem PgW.chS {S : Nat → Prop} (h : PgW w W c gp g m ds ts i n L U X K) (hc : Ch S W W') (hS : ∀ b, b < W.heap.size → S b → w.heap.size ≤ b ∧ (c b).1 ≠ 2 ∧ b ≠ gp) : PgW w W' c gp g m ds ts i n L U X K := by
  have hgp := h.pg.row.lt
  refine ⟨⟨⟨h.pl.live.1.ch hc (fun b hb e => (hS b hb e).2.1) fun _ _ => rfl, h.pl.live.2.1, fun b hb => h.pl.live.2.2 b (Nat.le_trans hc.size hb)⟩, h.pl.tab, h.pl.cc, h.pl.below.trans (hc.below h.pl.below.size fun b hb e => ?_), h.pl.shape, h.pl.le⟩, ⟨hc.row (fun e => (hS gp hgp e).2.2 rfl) h.pg.row, h.pg.wf, h.pg.us⟩, h.gpn, h.ap, h.o, h.lt⟩
  have := (hS b (Nat.lt_of_lt_of_le hb h.pl.below.size) e).1
  omega
end
/-- ahead of a round: what was put, and where -/
structure KpS (w : World) (first : List (List Nat)) (gp g i n : Nat) (c : Nat → Colour) (m : Pl) (X : Nat → List Nat) (v : Value) (l : List Int) (W : World) : Prop where
  le : i ≤ first.length
  le20 : i ≤ 20
  nle : n ≤ i
  calm : m.fuse < 0
  len : l.length = i
  st : PgW w W c gp g m [402] [] 0 50 (noHd 1) (firstU n) X (6 + 8 * i)
  ats : AtIn w W c gp v l
  each : ∀ j, j < i → (500 < (first.getD j []).length ∧ l.getD j 0 = -1) ∨ ∃ k : Nat, k < n ∧ (first.getD j []).length ≤ 500 ∧ l.getD j 0 = (k : Int) ∧ X k = imOf (first.getD j [])
section
variable {w W : World} {first : List (List Nat)} {gp g i n : Nat} {c : Nat → Colour} {m : Pl} {X : Nat → List Nat} {v : Value} {l : List Int}
/-- behind the round's Put: the number that is kept is z -/
structure KpM (w : World) (first : List (List Nat)) (gp g i n : Nat) (c : Nat → Colour) (m : Pl) (X : Nat → List Nat) (v : Value) (l : List Int) (z : Int) (W : World) : Prop where
  nle : n ≤ i + 1
  calm : m.fuse < 0
  len : l.length = i
  st : PgW w W c gp g m [402] [] 0 50 (noHd 1) (firstU n) X (6 + 8 * i + 8)
  ats : AtIn w W c gp v l
  each : ∀ j, j < i + 1 → (500 < (first.getD j []).length ∧ (l ++ [z]).getD j 0 = -1) ∨ ∃ k : Nat, k < n ∧ (first.getD j []).length ≤ 500 ∧ (l ++ [z]).getD j 0 = (k : Int) ∧ X k = imOf (first.getD j [])
/-- behind the commit: what was committed is where it was -/
structure KtS (w : World) (gp g n : Nat) (r : Int) (X : Nat → List Nat) (v : Value) (l : List Int) (i : Nat) (c : Nat → Colour) (m : Pl) (U : List Nat) (Y : Nat → List Nat) (W : World) : Prop where
  calm : m.fuse < 0
  st : PgW w W c gp g m [402] [] 0 50 (nextHd (noHd 1) r (firstU n)) U Y (200 + 8 * i)
  ats : AtIn w W c gp v l
  same : ∀ k, k < n → Y k = X k
end
end Go.Proofs.YtkpnflgnhhfjoaaDoor

namespace Go.Proofs.YtkpnflgnhhfjoaaDoor
open Go.RowKit Go.Maps

/-- a row of one cell each that the call's own side has made, every block of it within S -/
def Own1 (S : Nat → Prop) (W : World) (e : TypeId) (v : Value) (xs : List Value) : Prop := W.ownsRow 0 e 1 v xs.length xs ∧ ∀ b, v.ownBlock = some b → S b
section
variable {S S' : Nat → Prop} {W W' : World} {e : TypeId} {v : Value} {xs : List Value}
theorem Own1.lt (h : Own1 S W e v xs) {b : Nat} (hb : v.ownBlock = some b) : b < W.heap.size := by
  rcases h.1.2 with ⟨rfl, _⟩ | ⟨g, cap, cur, rfl, _, hg, _⟩
  · cases hb
  · cases hb
    exact (Array.getElem?_eq_some_iff.1 hg).1
theorem Own1.keep (h : Own1 S W e v xs) (hk : ∀ b, b < W.heap.size → S b → W'.heap[b]? = W.heap[b]?) : Own1 S W' e v xs := ⟨ownK h.1 fun b hb => hk b (h.lt hb) (h.2 b hb), h.2⟩
theorem Own1.keepB (h : Own1 S W e v xs) (hk : ∀ b, v.ownBlock = some b → W'.heap[b]? = W.heap[b]?) : Own1 S W' e v xs := ⟨ownK h.1 hk, h.2⟩
theorem Own1.mono (h : Own1 S W e v xs) (hk : ∀ b, b < W.heap.size → S b → S' b) : Own1 S' W e v xs := ⟨h.1, fun b hb => hk b (h.lt hb) (h.2 b hb)⟩
theorem Own1.ne (h : Own1 S W e v xs) {q T : Nat} {cs : List Value} (hr : Row W q T cs) (hT : T ≠ e) : v.ownBlock ≠ some q := by
  intro e2
  rcases h.1.2 with ⟨rfl, _⟩ | ⟨g, cap, cur, rfl, _, hg, _⟩
  · cases e2
  · have e3 : g = q := Option.some.inj e2
    subst e3
    unfold Row at hr
    rw [hg] at hr
    injection hr with hr
    injection hr with _ h2
    exact hT h2.symm
theorem Own1.ne2 {e' : TypeId} {v' : Value} {ys : List Value} (h : Own1 S W e v xs) (h' : Own1 S' W e' v' ys) (hT : e' ≠ e) {b : Nat} (hb : v.ownBlock = some b) : v'.ownBlock ≠ some b := by
  rcases h.1.2 with ⟨rfl, _⟩ | ⟨g, cap, cur, rfl, _, hg, _⟩
  · cases hb
  · cases hb
    intro e2
    rcases h'.1.2 with ⟨rfl, _⟩ | ⟨g', cap', cur', rfl, _, hg', _⟩
    · cases e2
    · have e3 : g' = g := Option.some.inj e2
      subst e3
      rw [hg] at hg'
      injection hg' with hg'
      injection hg' with _ h2
      exact hT h2.symm
/-- one cell of it: its address, what it holds, and that it may be written -/
theorem Own1.ix (h : Own1 S W e v xs) (t : TypeId) (hu : Tryd.prog.underlying t = some (.slice e)) (hs : (Tryd.prog.info? e).map (·.size) = some 1) (k : Nat) (hk : k < xs.length) : ∃ g cur, v.ownBlock = some g ∧ S g ∧ (∀ w', (Instr.indexAt t v (.int .i64 (k : Nat))).run Tryd.prog w' = .ok (.pointer (some ⟨g, k, none⟩)) w') ∧ W.cell? ⟨g, k, none⟩ = xs[k]? ∧ Row W g e cur ∧ k < cur.length ∧ ∀ x, Own1 S (W.setCell ⟨g, k, none⟩ x) e v (xs.set k x) ∧ Ch (· = g) W (W.setCell ⟨g, k, none⟩ x) := by
  obtain ⟨i5, hi5, hsz⟩ := Option.map_eq_some_iff.1 hs
  rcases h.1.2 with ⟨rfl, h0⟩ | ⟨g, cap, cur, rfl, hb, hgg, hcap, hmax, hsz2, htake⟩
  · omega
  have hS : S g := h.2 g rfl
  have hcl : k < cur.toList.length := by simp [hsz2]; omega
  refine ⟨g, cur.toList, rfl, hS, fun w' => by simp [Instr.indexAt, asIntOf, run_underlying hu, hk, sizeOf, typeInfo, hi5, hsz, add_none], ?_, by unfold Row; simpa using hgg, hcl, fun x => ⟨⟨?_, fun b hb => h.2 b hb⟩, (Ch.refl (· = g) W).setCell (g := g) (Or.inl rfl) _ _⟩⟩
  · rw [← htake, List.getElem?_take, if_pos (by omega)]
    simp [World.cell?, hgg]
  · rw [setCell_eq_setRow W g k cur e (0, 0) _ hgg]
    refine ⟨by simp, Or.inr ⟨g, cap, _, by rw [List.length_set], Nat.zero_le _, setRow_heap W g _ _ e (0, 0) hgg, by rw [List.length_set]; exact hcap, hmax, by simp [hsz2], ?_⟩⟩
    rw [List.length_set, Array.toList_setIfInBounds, Nat.mul_one, List.take_set]
    rw [Nat.mul_one] at htake
    rw [htake]
end
/-- bytes of one's own -/
def ByIn (S : Nat → Prop) (W : World) (v : Value) (b : List Nat) : Prop := Own1 S W 5 v (bcells b) ∧ (∀ c ∈ b, c < 256) ∧ b.length ≤ 500
structure RefS where
  us : List Bool
  ws : List Bool
  lb : List (List Nat)
  lc : List (List Nat)
  rt : Int
/-- the document's pager in memory -/
def Ref (S : Nat → Prop) (W : World) (gy n : Nat) (r : RefS) : Prop :=
  ∃ vb vu vw vc bs cs, Row W gy 84 [.int .i64 (n : Nat), vb, vu, vw, .int .i64 r.rt, vc] ∧ S gy ∧ Own1 S W 38 vb bs ∧ Own1 S W 4 vu (r.us.map .bool) ∧ Own1 S W 4 vw (r.ws.map .bool) ∧ Own1 S W 38 vc cs ∧
    (∀ b, vu.ownBlock = some b → vw.ownBlock ≠ some b) ∧ (∀ b, vb.ownBlock = some b → vc.ownBlock ≠ some b) ∧ r.us.length = n ∧ r.ws.length = n ∧ bs.length = n ∧ cs.length = n ∧ r.lb.length = n ∧ r.lc.length = n ∧
    (∀ (i : Nat) v b, bs[i]? = some v → r.lb[i]? = some b → ByIn S W v b) ∧ (∀ (i : Nat) v b, cs[i]? = some v → r.lc[i]? = some b → ByIn S W v b)
theorem Ref.keep {S : Nat → Prop} {W W' : World} {gy n : Nat} {r : RefS} (h : Ref S W gy n r) (hk : ∀ b, b < W.heap.size → S b → W'.heap[b]? = W.heap[b]?) : Ref S W' gy n r := by
  obtain ⟨vb, vu, vw, vc, bs, cs, h1, h2, h3, h4, h5, h6, h7, h8, h9, h10, h11, h12, h13, h14, h15, h16⟩ := h
  exact ⟨vb, vu, vw, vc, bs, cs, (hk gy h1.lt h2).trans h1, h2, h3.keep hk, h4.keep hk, h5.keep hk, h6.keep hk, h7, h8, h9, h10, h11, h12, h13, h14, fun i v b e e' => ⟨(h15 i v b e e').1.keep hk, (h15 i v b e e').2⟩, fun i v b e e' => ⟨(h16 i v b e e').1.keep hk, (h16 i v b e e').2⟩⟩
theorem Ref.mono {S S' : Nat → Prop} {W : World} {gy n : Nat} {r : RefS} (h : Ref S W gy n r) (hk : ∀ b, b < W.heap.size → S b → S' b) : Ref S' W gy n r := by
  obtain ⟨vb, vu, vw, vc, bs, cs, h1, h2, h3, h4, h5, h6, h7, h8, h9, h10, h11, h12, h13, h14, h15, h16⟩ := h
  exact ⟨vb, vu, vw, vc, bs, cs, h1, hk gy h1.lt h2, h3.mono hk, h4.mono hk, h5.mono hk, h6.mono hk, h7, h8, h9, h10, h11, h12, h13, h14, fun i v b e e' => ⟨(h15 i v b e e').1.mono hk, (h15 i v b e e').2⟩, fun i v b e e' => ⟨(h16 i v b e e').1.mono hk, (h16 i v b e e').2⟩⟩
theorem Ref.later {S : Nat → Prop} {W W' : World} {gy n : Nat} {r : RefS} (h : Ref S W gy n r) (hb : Below W.heap.size W W') : Ref S W' gy n r := h.keep fun b hl _ => hb.block b hl
/-- a page in use -/
def RefS.used (r : RefS) (p : Int) : Bool := decide (0 ≤ p) && (decide (p < (r.us.length : Nat)) && r.us.getD p.toNat false)
def roomR (us ws : List Bool) : Nat → Nat
  | 0 => 0
  | k + 1 => roomR us ws k + (if !us.getD k false && !ws.getD k false then 1 else 0)
theorem roomR_le (us ws : List Bool) (k : Nat) : roomR us ws k ≤ k := by
  induction k with
  | zero => exact Nat.le_refl _
  | succ k ih => unfold roomR; split <;> omega
end Go.Proofs.YtkpnflgnhhfjoaaDoor

namespace Go.Proofs.YtkpnflgnhhfjoaaDoor
open Go.RowKit Go.Maps

theorem f84_0 : FieldAt 84 0 0 := fun w g off => by kernel_rfl
theorem f84_1 : FieldAt 84 1 1 := fun w g off => by kernel_rfl
theorem f84_2 : FieldAt 84 2 2 := fun w g off => by kernel_rfl
theorem f84_3 : FieldAt 84 3 3 := fun w g off => by kernel_rfl
theorem f84_4 : FieldAt 84 4 4 := fun w g off => by kernel_rfl
theorem f84_5 : FieldAt 84 5 5 := fun w g off => by kernel_rfl
theorem und82 : Tryd.prog.underlying 82 = some (.slice 4) := by kernel_rfl
theorem und50 : Tryd.prog.underlying 50 = some (.slice 38) := by kernel_rfl
theorem und4b : Tryd.prog.underlying 4 = some (.bool) := by kernel_rfl
theorem sz4 : (Tryd.prog.info? 4).map (·.size) = some 1 := by kernel_rfl
theorem sz38 : (Tryd.prog.info? 38).map (·.size) = some 1 := by kernel_rfl
theorem o82 : OneT 82 := fun w g o v h => by simp [loadVar, isAgg, run_underlying und82, h]
theorem o50 : OneT 50 := fun w g o v h => by simp [loadVar, isAgg, run_underlying und50, h]
theorem o4 : OneT 4 := fun w g o v h => by simp [loadVar, isAgg, run_underlying und4b, h]
theorem bools_at (us : List Bool) (k : Nat) (hk : k < us.length) : (us.map Value.bool)[k]? = some (.bool (us.getD k false)) := by simp [hk]
theorem rused_any (S : Nat → Prop) (w : World) (gy n : Nat) (r : RefS) (h : Ref S w gy n r) (hn : n ≤ 384) (p : Int) : Calls Tryd.prog 47 #[ptr gy, .int .i64 p] w fun e w' => e = .returned (.bool (r.used p)) ∧ w = w' := by
  obtain ⟨vb, vu, vw, vc, bs, cs, h1, h2, h3, h4, h5, h6, h7, h8, h9, h10, h11, h12, h13, h14, h15, h16⟩ := h
  have HR : Hid (Row w gy 84 [.int .i64 (n : Nat), vb, vu, vw, .int .i64 r.rt, vc]) := h1
  have HU : Hid (Own1 S w 4 vu (r.us.map .bool) ∧ Own1 S w 4 vw (r.ws.map .bool) ∧ r.us.length = n ∧ r.ws.length = n) := ⟨h4, h5, h9, h10⟩
  have HN : Hid (n ≤ 384) := hn
  clear h1 h2 h3 h4 h5 h6 h7 h8 h9 h10 h11 h12 h13 h14 h15 h16 hn
  obtain ⟨PQ, HPQ⟩ : ∃ PQ : Ending → World → Prop, Hid (PQ = fun e w' => e = .returned (.bool (r.used p)) ∧ w = w') := ⟨_, rfl⟩
  rw [← HPQ.out]
  obtain ⟨lo, hlo⟩ : ∃ x, decide (0 ≤ p) = x := ⟨_, rfl⟩
  obtain ⟨hi, hhi⟩ : ∃ x, decide (p < (n : Int)) = x := ⟨_, rfl⟩
  have HC : Hid (decide (0 ≤ p) = lo ∧ decide (p < (n : Int)) = hi) := ⟨hlo, hhi⟩
  clear hlo hhi
  go_enter Tryd.func47, Tryd.ntmps47
  by_cases hl0 : lo = false
  · have HT : Hid (lo = false) := hl0
    clear hl0
    go_upto_region 1 with fail
    refine wp_region_lit ?_
    refine wl rfl (.int .i64 p) _ (run_mvZ (.tmp 1) rfl (.int .i64 p) rfl) ?_
    simp only [Act.put, aS, aC, aZ]
    refine wl rfl (.bool lo) _ (run_geqZ (.tmp 5) (.const (.int .i64 0)) rfl p 0 rfl rfl lo HC.out.1) ?_
    simp only [Act.put, aS, aC, aZ]
    refine wl rfl (.bool lo) _ (run_mvZ (.tmp 6) rfl (.bool lo) rfl) ?_
    simp only [Act.put, aS, aC, aZ]
    refine wpList_skip (by rw [HT.out]; kernel_rfl) ?_
    simp only [Act.put, aS, aC, aZ]
    refine wpList_skip (by rw [HT.out]; kernel_rfl) ?_
    simp only [Act.put, aS, aC, aZ]
    refine wpList_skip (by rw [HT.out]; kernel_rfl) ?_
    simp only [Act.put, aS, aC, aZ]
    refine wpList_skip (by rw [HT.out]; kernel_rfl) ?_
    simp only [Act.put, aS, aC, aZ]
    refine wpList_skip (by rw [HT.out]; kernel_rfl) ?_
    simp only [Act.put, aS, aC, aZ]
    refine wpList_skip (by rw [HT.out]; kernel_rfl) ?_
    simp only [Act.put, aS, aC, aZ]
    refine wl rfl (.bool lo) _ (run_pickZ (.tmp 7) (.tmp 13) (.const (.bool false)) rfl lo (.bool lo) rfl (by rw [HT.out]; rfl)) ?_
    simp only [Act.put, aS, aC, aZ]
    refine wl rfl (.bool lo) _ (run_mvZ (.tmp 14) rfl (.bool lo) rfl) ?_
    simp only [Act.put, aS, aC, aZ]
    refine wpList_skip (by rw [HT.out]; kernel_rfl) ?_
    simp only [Act.put, aS, aC, aZ]
    refine wpList_skip (by rw [HT.out]; kernel_rfl) ?_
    simp only [Act.put, aS, aC, aZ]
    refine wpList_skip (by rw [HT.out]; kernel_rfl) ?_
    simp only [Act.put, aS, aC, aZ]
    refine wpList_skip (by rw [HT.out]; kernel_rfl) ?_
    simp only [Act.put, aS, aC, aZ]
    refine wpList_skip (by rw [HT.out]; kernel_rfl) ?_
    simp only [Act.put, aS, aC, aZ]
    refine wpList_skip (by rw [HT.out]; kernel_rfl) ?_
    simp only [Act.put, aS, aC, aZ]
    refine wpList_skip (by rw [HT.out]; kernel_rfl) ?_
    simp only [Act.put, aS, aC, aZ]
    refine wl rfl (.bool lo) _ (run_pickZ (.tmp 15) (.tmp 22) (.const (.bool false)) rfl lo (.bool lo) rfl (by rw [HT.out]; rfl)) ?_
    simp only [Act.put, aS, aC, aZ]
    refine wl rfl (.bool lo) _ (run_asZ (.tmp 23) rfl (.bool lo) rfl) ?_
    simp only [Act.put, aS, aC, aZ]
    refine wpList_nil ?_
    go_wp2_with fail
    rw [HPQ.out]
    exact ⟨by unfold RefS.used; rw [HC.out.1, HT.out]; rfl, rfl⟩
  obtain rfl : lo = true := (by cases lo with | true => rfl | false => exact absurd rfl hl0)
  clear hl0
  by_cases hh0 : hi = false
  · have HT : Hid (hi = false) := hh0
    clear hh0
    go_upto_region 1 with fail
    refine wp_region_lit ?_
    refine wl rfl (.int .i64 p) _ (run_mvZ (.tmp 1) rfl (.int .i64 p) rfl) ?_
    simp only [Act.put, aS, aC, aZ]
    refine wl rfl (.bool true) _ (run_geqZ (.tmp 5) (.const (.int .i64 0)) rfl p 0 rfl rfl true HC.out.1) ?_
    simp only [Act.put, aS, aC, aZ]
    refine wl rfl (.bool true) _ (run_mvZ (.tmp 6) rfl (.bool true) rfl) ?_
    simp only [Act.put, aS, aC, aZ]
    refine wl (by kernel_rfl) (.int .i64 p) _ (run_mvZ (.tmp 1) rfl (.int .i64 p) rfl) ?_
    simp only [Act.put, aS, aC, aZ]
    refine wl (by kernel_rfl) (ptr gy) _ (run_mvZ (.tmp 0) rfl (ptr gy) rfl) ?_
    simp only [Act.put, aS, aC, aZ]
    refine wl (by kernel_rfl) (ptr gy) _ (run_nil (.tmp 9) rfl ⟨gy, 0, none⟩ rfl) ?_
    simp only [Act.put, aS, aC, aZ]
    refine wl (by kernel_rfl) (.pointer (some ⟨gy, 0 + 0, none⟩)) _ (run_fieldOp' f84_0 (.tmp 10) rfl gy (0) rfl) ?_
    simp only [Act.put, aS, aC, aZ]
    refine wl (by kernel_rfl) (.int .i64 (n : Nat)) _ (run_load1 o3 (.tmp 11) rfl gy (0 + 0) rfl (.int .i64 (n : Nat)) (HR.out.at 0 _ rfl)) ?_
    simp only [Act.put, aS, aC, aZ]
    refine wl (by kernel_rfl) (.bool hi) _ (run_lssZ (.tmp 8) (.tmp 12) rfl p (n : Nat) rfl rfl hi HC.out.2) ?_
    simp only [Act.put, aS, aC, aZ]
    refine wl rfl (.bool hi) _ (run_pickZ (.tmp 7) (.tmp 13) (.const (.bool false)) rfl true (.bool hi) rfl rfl) ?_
    simp only [Act.put, aS, aC, aZ]
    refine wl rfl (.bool hi) _ (run_mvZ (.tmp 14) rfl (.bool hi) rfl) ?_
    simp only [Act.put, aS, aC, aZ]
    refine wpList_skip (by rw [HT.out]; kernel_rfl) ?_
    simp only [Act.put, aS, aC, aZ]
    refine wpList_skip (by rw [HT.out]; kernel_rfl) ?_
    simp only [Act.put, aS, aC, aZ]
    refine wpList_skip (by rw [HT.out]; kernel_rfl) ?_
    simp only [Act.put, aS, aC, aZ]
    refine wpList_skip (by rw [HT.out]; kernel_rfl) ?_
    simp only [Act.put, aS, aC, aZ]
    refine wpList_skip (by rw [HT.out]; kernel_rfl) ?_
    simp only [Act.put, aS, aC, aZ]
    refine wpList_skip (by rw [HT.out]; kernel_rfl) ?_
    simp only [Act.put, aS, aC, aZ]
    refine wpList_skip (by rw [HT.out]; kernel_rfl) ?_
    simp only [Act.put, aS, aC, aZ]
    refine wl rfl (.bool hi) _ (run_pickZ (.tmp 15) (.tmp 22) (.const (.bool false)) rfl hi (.bool hi) rfl (by rw [HT.out]; rfl)) ?_
    simp only [Act.put, aS, aC, aZ]
    refine wl rfl (.bool hi) _ (run_asZ (.tmp 23) rfl (.bool hi) rfl) ?_
    simp only [Act.put, aS, aC, aZ]
    refine wpList_nil ?_
    go_wp2_with fail
    rw [HPQ.out]
    exact ⟨by unfold RefS.used; rw [HC.out.1, HU.out.2.2.1, HC.out.2, HT.out]; rfl, rfl⟩
  obtain rfl : hi = true := (by cases hi with | true => rfl | false => exact absurd rfl hh0)
  clear hh0
  obtain ⟨k, rfl⟩ : ∃ k : Nat, p = (k : Nat) := ⟨p.toNat, by have := of_decide_eq_true HC.out.1; omega⟩
  have HK : Hid (k < n) := (by have := of_decide_eq_true HC.out.2; omega : k < n)
  obtain ⟨gu, cur, _, _, hx, hcell, _, _, _⟩ := HU.out.1.ix 82 und82 sz4 k (by rw [List.length_map, HU.out.2.2.1]; exact HK.out)
  rw [bools_at _ _ (by rw [HU.out.2.2.1]; exact HK.out)] at hcell
  obtain ⟨u, hu⟩ : ∃ u, u = r.us.getD k false := ⟨_, rfl⟩
  rw [← hu] at hcell
  have HX : Hid ((∀ w', (Instr.indexAt 82 vu (.int .i64 (k : Nat))).run Tryd.prog w' = .ok (.pointer (some ⟨gu, k, none⟩)) w') ∧ w.cell? ⟨gu, k, none⟩ = some (.bool u) ∧ u = r.us.getD k false) := ⟨hx, hcell, hu⟩
  clear hx hcell hu
  go_upto_region 1 with fail
  refine wp_region_lit ?_
  refine wl rfl (.int .i64 (k : Nat)) _ (run_mvZ (.tmp 1) rfl (.int .i64 (k : Nat)) rfl) ?_
  simp only [Act.put, aS, aC, aZ]
  refine wl rfl (.bool true) _ (run_geqZ (.tmp 5) (.const (.int .i64 0)) rfl (k : Nat) 0 rfl rfl true HC.out.1) ?_
  simp only [Act.put, aS, aC, aZ]
  refine wl rfl (.bool true) _ (run_mvZ (.tmp 6) rfl (.bool true) rfl) ?_
  simp only [Act.put, aS, aC, aZ]
  refine wl (by kernel_rfl) (.int .i64 (k : Nat)) _ (run_mvZ (.tmp 1) rfl (.int .i64 (k : Nat)) rfl) ?_
  simp only [Act.put, aS, aC, aZ]
  refine wl (by kernel_rfl) (ptr gy) _ (run_mvZ (.tmp 0) rfl (ptr gy) rfl) ?_
  simp only [Act.put, aS, aC, aZ]
  refine wl (by kernel_rfl) (ptr gy) _ (run_nil (.tmp 9) rfl ⟨gy, 0, none⟩ rfl) ?_
  simp only [Act.put, aS, aC, aZ]
  refine wl (by kernel_rfl) (.pointer (some ⟨gy, 0 + 0, none⟩)) _ (run_fieldOp' f84_0 (.tmp 10) rfl gy (0) rfl) ?_
  simp only [Act.put, aS, aC, aZ]
  refine wl (by kernel_rfl) (.int .i64 (n : Nat)) _ (run_load1 o3 (.tmp 11) rfl gy (0 + 0) rfl (.int .i64 (n : Nat)) (HR.out.at 0 _ rfl)) ?_
  simp only [Act.put, aS, aC, aZ]
  refine wl (by kernel_rfl) (.bool true) _ (run_lssZ (.tmp 8) (.tmp 12) rfl (k : Nat) (n : Nat) rfl rfl true HC.out.2) ?_
  simp only [Act.put, aS, aC, aZ]
  refine wl rfl (.bool true) _ (run_pickZ (.tmp 7) (.tmp 13) (.const (.bool false)) rfl true (.bool true) rfl rfl) ?_
  simp only [Act.put, aS, aC, aZ]
  refine wl rfl (.bool true) _ (run_mvZ (.tmp 14) rfl (.bool true) rfl) ?_
  simp only [Act.put, aS, aC, aZ]
  refine wl (by kernel_rfl) (ptr gy) _ (run_mvZ (.tmp 0) rfl (ptr gy) rfl) ?_
  simp only [Act.put, aS, aC, aZ]
  refine wl (by kernel_rfl) (ptr gy) _ (run_nil (.tmp 16) rfl ⟨gy, 0, none⟩ rfl) ?_
  simp only [Act.put, aS, aC, aZ]
  refine wl (by kernel_rfl) (.pointer (some ⟨gy, 0 + 2, none⟩)) _ (run_fieldOp' f84_2 (.tmp 17) rfl gy (0) rfl) ?_
  simp only [Act.put, aS, aC, aZ]
  refine wl (by kernel_rfl) vu _ (run_load1 o82 (.tmp 18) rfl gy (0 + 2) rfl vu (HR.out.at 2 _ rfl)) ?_
  simp only [Act.put, aS, aC, aZ]
  refine wl (by kernel_rfl) (.int .i64 (k : Nat)) _ (run_mvZ (.tmp 1) rfl (.int .i64 (k : Nat)) rfl) ?_
  simp only [Act.put, aS, aC, aZ]
  refine wl (by kernel_rfl) (.pointer (some ⟨gu, k, none⟩)) _ (run_idx (.tmp 19) (.tmp 20) rfl vu _ _ rfl rfl HX.out.1) ?_
  simp only [Act.put, aS, aC, aZ]
  refine wl (by kernel_rfl) (.bool u) _ (run_load1 o4 (.tmp 21) rfl gu (k) rfl (.bool u) HX.out.2.1) ?_
  simp only [Act.put, aS, aC, aZ]
  refine wl rfl (.bool u) _ (run_pickZ (.tmp 15) (.tmp 22) (.const (.bool false)) rfl true (.bool u) rfl rfl) ?_
  simp only [Act.put, aS, aC, aZ]
  refine wl rfl (.bool u) _ (run_asZ (.tmp 23) rfl (.bool u) rfl) ?_
  simp only [Act.put, aS, aC, aZ]
  refine wpList_nil ?_
  go_wp2_with fail
  rw [HPQ.out]
  exact ⟨by unfold RefS.used; rw [HC.out.1, HU.out.2.2.1, HC.out.2, HX.out.2.2]; rfl, rfl⟩
theorem rroot_any (S : Nat → Prop) (w : World) (gy n : Nat) (r : RefS) (h : Ref S w gy n r) : Calls Tryd.prog 48 #[ptr gy] w fun e w' => e = .returned (.int .i64 r.rt) ∧ w = w' := by
  obtain ⟨vb, vu, vw, vc, bs, cs, h1, h2, h3, h4, h5, h6, h7, h8, h9, h10, h11, h12, h13, h14, h15, h16⟩ := h
  have HR : Hid (Row w gy 84 [.int .i64 (n : Nat), vb, vu, vw, .int .i64 r.rt, vc]) := h1
  have HU : Hid (Own1 S w 4 vu (r.us.map .bool) ∧ Own1 S w 4 vw (r.ws.map .bool) ∧ r.us.length = n ∧ r.ws.length = n) := ⟨h4, h5, h9, h10⟩
  clear h1 h2 h3 h4 h5 h6 h7 h8 h9 h10 h11 h12 h13 h14 h15 h16 HU
  obtain ⟨PQ, HPQ⟩ : ∃ PQ : Ending → World → Prop, Hid (PQ = fun e w' => e = .returned (.int .i64 r.rt) ∧ w = w') := ⟨_, rfl⟩
  rw [← HPQ.out]
  go_enter Tryd.func48, Tryd.ntmps48
  go_upto_region 1 with fail
  refine wp_region_lit ?_
  refine wl rfl (ptr gy) _ (run_mvZ (.tmp 0) rfl (ptr gy) rfl) ?_
  simp only [Act.put, aS, aC, aZ]
  refine wl rfl (ptr gy) _ (run_nil (.tmp 3) rfl ⟨gy, 0, none⟩ rfl) ?_
  simp only [Act.put, aS, aC, aZ]
  refine wl rfl (.pointer (some ⟨gy, 0 + 4, none⟩)) _ (run_fieldOp' f84_4 (.tmp 4) rfl gy (0) rfl) ?_
  simp only [Act.put, aS, aC, aZ]
  refine wl rfl (.int .i64 r.rt) _ (run_load1 o3 (.tmp 5) rfl gy (0 + 4) rfl (.int .i64 r.rt) (HR.out.at 4 _ rfl)) ?_
  simp only [Act.put, aS, aC, aZ]
  refine wl rfl (.int .i64 r.rt) _ (run_asZ (.tmp 6) rfl (.int .i64 r.rt) rfl) ?_
  simp only [Act.put, aS, aC, aZ]
  refine wpList_nil ?_
  go_wp2_with fail
  rw [HPQ.out]
  exact ⟨rfl, rfl⟩
theorem rroom_any (S : Nat → Prop) (w : World) (gy n : Nat) (r : RefS) (h : Ref S w gy n r) (hn : n ≤ 384) : Calls Tryd.prog 49 #[ptr gy] w fun e w' => e = .returned (.int .i64 (roomR r.us r.ws n : Nat)) ∧ w = w' := by
  obtain ⟨vb, vu, vw, vc, bs, cs, h1, h2, h3, h4, h5, h6, h7, h8, h9, h10, h11, h12, h13, h14, h15, h16⟩ := h
  have HR : Hid (Row w gy 84 [.int .i64 (n : Nat), vb, vu, vw, .int .i64 r.rt, vc]) := h1
  have HU : Hid (Own1 S w 4 vu (r.us.map .bool) ∧ Own1 S w 4 vw (r.ws.map .bool) ∧ r.us.length = n ∧ r.ws.length = n) := ⟨h4, h5, h9, h10⟩
  have HN : Hid (n ≤ 384) := hn
  clear h1 h2 h3 h4 h5 h6 h7 h8 h9 h10 h11 h12 h13 h14 h15 h16 hn
  obtain ⟨PQ, HPQ⟩ : ∃ PQ : Ending → World → Prop, Hid (PQ = fun e w' => e = .returned (.int .i64 (roomR r.us r.ws n : Nat)) ∧ w = w') := ⟨_, rfl⟩
  rw [← HPQ.out]
  go_enter Tryd.func49, Tryd.ntmps49
  go_wp2_with fail
  go_loopw [3, 4] (fun vm vi W => ∃ i m : Nat, vi = .int .i64 (i : Nat) ∧ vm = .int .i64 (m : Nat) ∧ i ≤ n ∧ m = roomR r.us r.ws i ∧ w = W) (fun _ vi _ => n - (intOf vi).toNat)
  case atStart => exact ⟨0, 0, rfl, rfl, Nat.zero_le _, rfl, rfl⟩
  case round =>
    obtain ⟨i, m, rfl, rfl, hi, hm, rfl⟩ := hrel
    have HM : Hid (m = roomR r.us r.ws i ∧ m ≤ i) := ⟨hm, by rw [hm]; exact roomR_le _ _ _⟩
    clear hm
    have hn384 : n ≤ 384 := HN.out
    by_cases hlt : i < n
    · obtain ⟨gu, cu, _, _, hx, hcell, _, _, _⟩ := HU.out.1.ix 82 und82 sz4 i (by rw [List.length_map, HU.out.2.2.1]; exact hlt)
      obtain ⟨gv, cv, _, _, hy, hdell, _, _, _⟩ := HU.out.2.1.ix 82 und82 sz4 i (by rw [List.length_map, HU.out.2.2.2]; exact hlt)
      rw [bools_at _ _ (by rw [HU.out.2.2.1]; exact hlt)] at hcell
      rw [bools_at _ _ (by rw [HU.out.2.2.2]; exact hlt)] at hdell
      obtain ⟨u, hu⟩ : ∃ u, u = r.us.getD i false := ⟨_, rfl⟩
      obtain ⟨z, hz⟩ : ∃ u, u = r.ws.getD i false := ⟨_, rfl⟩
      rw [← hu] at hcell
      rw [← hz] at hdell
      have HX : Hid ((∀ w', (Instr.indexAt 82 vu (.int .i64 (i : Nat))).run Tryd.prog w' = .ok (.pointer (some ⟨gu, i, none⟩)) w') ∧ w.cell? ⟨gu, i, none⟩ = some (.bool u) ∧ (∀ w', (Instr.indexAt 82 vw (.int .i64 (i : Nat))).run Tryd.prog w' = .ok (.pointer (some ⟨gv, i, none⟩)) w') ∧ w.cell? ⟨gv, i, none⟩ = some (.bool z) ∧ u = r.us.getD i false ∧ z = r.ws.getD i false) := ⟨hx, hcell, hy, hdell, hu, hz⟩
      clear hx hcell hy hdell hu hz
      go_upto_region 3 with fail
      refine wp_region_lit ?_
      refine wl rfl (.int .i64 (i : Nat)) _ (run_mvZ (.tmp 4) rfl (.int .i64 (i : Nat)) rfl) ?_
      simp only [Act.put, aS, aC, aZ]
      refine wl rfl (ptr gy) _ (run_mvZ (.tmp 0) rfl (ptr gy) rfl) ?_
      simp only [Act.put, aS, aC, aZ]
      refine wl rfl (ptr gy) _ (run_nil (.tmp 6) rfl ⟨gy, 0, none⟩ rfl) ?_
      simp only [Act.put, aS, aC, aZ]
      refine wl rfl (.pointer (some ⟨gy, 0 + 0, none⟩)) _ (run_fieldOp' f84_0 (.tmp 7) rfl gy (0) rfl) ?_
      simp only [Act.put, aS, aC, aZ]
      refine wl rfl (.int .i64 (n : Nat)) _ (run_load1 o3 (.tmp 8) rfl gy (0 + 0) rfl (.int .i64 (n : Nat)) (HR.out.at 0 _ rfl)) ?_
      simp only [Act.put, aS, aC, aZ]
      refine wl rfl (.bool true) _ (run_lssZ (.tmp 5) (.tmp 9) rfl (i : Nat) (n : Nat) rfl rfl true (decide_eq_true (by omega))) ?_
      simp only [Act.put, aS, aC, aZ]
      refine wpList_nil ?_
      have hm_ := HM.out.2
      obtain ⟨nu, hnu⟩ : ∃ x, x = !u := ⟨_, rfl⟩
      obtain ⟨nz, hnz⟩ : ∃ x, x = !z := ⟨_, rfl⟩
      have HNU : Hid (nu = !u) := hnu
      have HNZ : Hid (nz = !z) := hnz
      clear hnu hnz
      by_cases hu0 : nu = false
      · have HT : Hid (nu = false) := hu0
        have hr_ : roomR r.us r.ws (i + 1) = m := (by unfold roomR; rw [← HX.out.2.2.2.2.1, ← HM.out.1, ← HNU.out, hu0]; rfl)
        clear hu0
        go_upto_region 5 with fail
        refine wp_region_lit ?_
        refine wl rfl (ptr gy) _ (run_mvZ (.tmp 0) rfl (ptr gy) rfl) ?_
        simp only [Act.put, aS, aC, aZ]
        refine wl rfl (ptr gy) _ (run_nil (.tmp 13) rfl ⟨gy, 0, none⟩ rfl) ?_
        simp only [Act.put, aS, aC, aZ]
        refine wl rfl (.pointer (some ⟨gy, 0 + 2, none⟩)) _ (run_fieldOp' f84_2 (.tmp 14) rfl gy (0) rfl) ?_
        simp only [Act.put, aS, aC, aZ]
        refine wl rfl vu _ (run_load1 o82 (.tmp 15) rfl gy (0 + 2) rfl vu (HR.out.at 2 _ rfl)) ?_
        simp only [Act.put, aS, aC, aZ]
        refine wl rfl (.int .i64 (i : Nat)) _ (run_mvZ (.tmp 4) rfl (.int .i64 (i : Nat)) rfl) ?_
        simp only [Act.put, aS, aC, aZ]
        refine wl rfl (.pointer (some ⟨gu, i, none⟩)) _ (run_idx (.tmp 16) (.tmp 17) rfl vu _ _ rfl rfl HX.out.1) ?_
        simp only [Act.put, aS, aC, aZ]
        refine wl rfl (.bool u) _ (run_load1 o4 (.tmp 18) rfl gu (i) rfl (.bool u) HX.out.2.1) ?_
        simp only [Act.put, aS, aC, aZ]
        refine wl rfl (.bool nu) _ ((by rw [HNU.out]; exact run_not (.tmp 19) 4 rfl u rfl)) ?_
        simp only [Act.put, aS, aC, aZ]
        refine wl rfl (.bool nu) _ (run_mvZ (.tmp 20) rfl (.bool nu) rfl) ?_
        simp only [Act.put, aS, aC, aZ]
        refine wpList_skip (by rw [HT.out]; kernel_rfl) ?_
        simp only [Act.put, aS, aC, aZ]
        refine wpList_skip (by rw [HT.out]; kernel_rfl) ?_
        simp only [Act.put, aS, aC, aZ]
        refine wpList_skip (by rw [HT.out]; kernel_rfl) ?_
        simp only [Act.put, aS, aC, aZ]
        refine wpList_skip (by rw [HT.out]; kernel_rfl) ?_
        simp only [Act.put, aS, aC, aZ]
        refine wpList_skip (by rw [HT.out]; kernel_rfl) ?_
        simp only [Act.put, aS, aC, aZ]
        refine wpList_skip (by rw [HT.out]; kernel_rfl) ?_
        simp only [Act.put, aS, aC, aZ]
        refine wpList_skip (by rw [HT.out]; kernel_rfl) ?_
        simp only [Act.put, aS, aC, aZ]
        refine wpList_skip (by rw [HT.out]; kernel_rfl) ?_
        simp only [Act.put, aS, aC, aZ]
        refine wl rfl (.bool nu) _ (run_pickZ (.tmp 21) (.tmp 29) (.const (.bool false)) rfl nu (.bool nu) rfl (by rw [HT.out]; rfl)) ?_
        simp only [Act.put, aS, aC, aZ]
        refine wpList_nil ?_
        obtain rfl : nu = false := HT.out
        clear HX
        go_wp2_with fail
        refine ⟨⟨i + 1, m, by go_num, rfl, by omega, hr_.symm, by first | rfl | trivial⟩, ?_⟩
        simp [intOf]; omega
      obtain rfl : u = false := (by have h := HNU.out; cases u with | false => rfl | true => exact absurd h hu0)
      clear hu0
      go_upto_region 5 with fail
      refine wp_region_lit ?_
      refine wl rfl (ptr gy) _ (run_mvZ (.tmp 0) rfl (ptr gy) rfl) ?_
      simp only [Act.put, aS, aC, aZ]
      refine wl rfl (ptr gy) _ (run_nil (.tmp 13) rfl ⟨gy, 0, none⟩ rfl) ?_
      simp only [Act.put, aS, aC, aZ]
      refine wl rfl (.pointer (some ⟨gy, 0 + 2, none⟩)) _ (run_fieldOp' f84_2 (.tmp 14) rfl gy (0) rfl) ?_
      simp only [Act.put, aS, aC, aZ]
      refine wl rfl vu _ (run_load1 o82 (.tmp 15) rfl gy (0 + 2) rfl vu (HR.out.at 2 _ rfl)) ?_
      simp only [Act.put, aS, aC, aZ]
      refine wl rfl (.int .i64 (i : Nat)) _ (run_mvZ (.tmp 4) rfl (.int .i64 (i : Nat)) rfl) ?_
      simp only [Act.put, aS, aC, aZ]
      refine wl rfl (.pointer (some ⟨gu, i, none⟩)) _ (run_idx (.tmp 16) (.tmp 17) rfl vu _ _ rfl rfl HX.out.1) ?_
      simp only [Act.put, aS, aC, aZ]
      refine wl rfl (.bool false) _ (run_load1 o4 (.tmp 18) rfl gu (i) rfl (.bool false) HX.out.2.1) ?_
      simp only [Act.put, aS, aC, aZ]
      refine wl rfl (.bool true) _ (run_not (.tmp 19) 4 rfl false rfl) ?_
      simp only [Act.put, aS, aC, aZ]
      refine wl rfl (.bool true) _ (run_mvZ (.tmp 20) rfl (.bool true) rfl) ?_
      simp only [Act.put, aS, aC, aZ]
      refine wl (by kernel_rfl) (ptr gy) _ (run_mvZ (.tmp 0) rfl (ptr gy) rfl) ?_
      simp only [Act.put, aS, aC, aZ]
      refine wl (by kernel_rfl) (ptr gy) _ (run_nil (.tmp 22) rfl ⟨gy, 0, none⟩ rfl) ?_
      simp only [Act.put, aS, aC, aZ]
      refine wl (by kernel_rfl) (.pointer (some ⟨gy, 0 + 3, none⟩)) _ (run_fieldOp' f84_3 (.tmp 23) rfl gy (0) rfl) ?_
      simp only [Act.put, aS, aC, aZ]
      refine wl (by kernel_rfl) vw _ (run_load1 o82 (.tmp 24) rfl gy (0 + 3) rfl vw (HR.out.at 3 _ rfl)) ?_
      simp only [Act.put, aS, aC, aZ]
      refine wl (by kernel_rfl) (.int .i64 (i : Nat)) _ (run_mvZ (.tmp 4) rfl (.int .i64 (i : Nat)) rfl) ?_
      simp only [Act.put, aS, aC, aZ]
      refine wl (by kernel_rfl) (.pointer (some ⟨gv, i, none⟩)) _ (run_idx (.tmp 25) (.tmp 26) rfl vw _ _ rfl rfl HX.out.2.2.1) ?_
      simp only [Act.put, aS, aC, aZ]
      refine wl (by kernel_rfl) (.bool z) _ (run_load1 o4 (.tmp 27) rfl gv (i) rfl (.bool z) HX.out.2.2.2.1) ?_
      simp only [Act.put, aS, aC, aZ]
      refine wl (by kernel_rfl) (.bool nz) _ ((by rw [HNZ.out]; exact run_not (.tmp 28) 4 rfl z rfl)) ?_
      simp only [Act.put, aS, aC, aZ]
      refine wl rfl (.bool nz) _ (run_pickZ (.tmp 21) (.tmp 29) (.const (.bool false)) rfl true (.bool nz) rfl rfl) ?_
      simp only [Act.put, aS, aC, aZ]
      refine wpList_nil ?_
      cases nz with
      | false =>
        have hr_ : roomR r.us r.ws (i + 1) = m := (by unfold roomR; rw [← HX.out.2.2.2.2.1, ← HX.out.2.2.2.2.2, ← HM.out.1, ← HNZ.out]; rfl)
        clear HX
        go_wp2_with fail
        refine ⟨⟨i + 1, m, by go_num, rfl, by omega, hr_.symm, by first | rfl | trivial⟩, ?_⟩
        simp [intOf]; omega
      | true =>
        have hr_ : roomR r.us r.ws (i + 1) = m + 1 := (by unfold roomR; rw [← HX.out.2.2.2.2.1, ← HX.out.2.2.2.2.2, ← HM.out.1, ← HNZ.out]; rfl)
        clear HX
        go_wp2_with fail
        refine ⟨⟨i + 1, m + 1, by go_num, by go_num, by omega, hr_.symm, by first | rfl | trivial⟩, ?_⟩
        simp [intOf]; omega
    · go_upto_region 3 with fail
      refine wp_region_lit ?_
      refine wl rfl (.int .i64 (i : Nat)) _ (run_mvZ (.tmp 4) rfl (.int .i64 (i : Nat)) rfl) ?_
      simp only [Act.put, aS, aC, aZ]
      refine wl rfl (ptr gy) _ (run_mvZ (.tmp 0) rfl (ptr gy) rfl) ?_
      simp only [Act.put, aS, aC, aZ]
      refine wl rfl (ptr gy) _ (run_nil (.tmp 6) rfl ⟨gy, 0, none⟩ rfl) ?_
      simp only [Act.put, aS, aC, aZ]
      refine wl rfl (.pointer (some ⟨gy, 0 + 0, none⟩)) _ (run_fieldOp' f84_0 (.tmp 7) rfl gy (0) rfl) ?_
      simp only [Act.put, aS, aC, aZ]
      refine wl rfl (.int .i64 (n : Nat)) _ (run_load1 o3 (.tmp 8) rfl gy (0 + 0) rfl (.int .i64 (n : Nat)) (HR.out.at 0 _ rfl)) ?_
      simp only [Act.put, aS, aC, aZ]
      refine wl rfl (.bool false) _ (run_lssZ (.tmp 5) (.tmp 9) rfl (i : Nat) (n : Nat) rfl rfl false (decide_eq_false (by omega))) ?_
      simp only [Act.put, aS, aC, aZ]
      refine wpList_nil ?_
      have ei : i = n := by omega
      subst ei
      go_wp2_with fail
      rw [HPQ.out]
      exact ⟨congrArg (fun x : Nat => Ending.returned (.int .i64 (x : Int))) HM.out.1, rfl⟩

end Go.Proofs.YtkpnflgnhhfjoaaDoor

namespace Go.Proofs.YtkpnflgnhhfjoaaDoor
open Go.RowKit Go.Maps

/-- the document's pager, its slices named -/
structure RefO (S : Nat → Prop) (W : World) (gy n : Nat) (r : RefS) (vb vu vw vc : Value) (bs cs : List Value) : Prop where
  row : Row W gy 84 [.int .i64 (n : Nat), vb, vu, vw, .int .i64 r.rt, vc]
  sgy : S gy
  b : Own1 S W 38 vb bs
  u : Own1 S W 4 vu (r.us.map .bool)
  w : Own1 S W 4 vw (r.ws.map .bool)
  c : Own1 S W 38 vc cs
  uw : ∀ b, vu.ownBlock = some b → vw.ownBlock ≠ some b
  bc : ∀ b, vb.ownBlock = some b → vc.ownBlock ≠ some b
  lu : r.us.length = n
  lw : r.ws.length = n
  lb : bs.length = n
  lc : cs.length = n
  mb : r.lb.length = n
  mc : r.lc.length = n
  byb : ∀ (i : Nat) v b, bs[i]? = some v → r.lb[i]? = some b → ByIn S W v b
  byc : ∀ (i : Nat) v b, cs[i]? = some v → r.lc[i]? = some b → ByIn S W v b
section
variable {S : Nat → Prop} {W W' : World} {gy n : Nat} {r : RefS} {vb vu vw vc : Value} {bs cs : List Value}
theorem Ref.opened (h : Ref S W gy n r) : ∃ vb vu vw vc bs cs, RefO S W gy n r vb vu vw vc bs cs := by
  obtain ⟨vb, vu, vw, vc, bs, cs, h1, h2, h3, h4, h5, h6, h7, h8, h9, h10, h11, h12, h13, h14, h15, h16⟩ := h
  exact ⟨vb, vu, vw, vc, bs, cs, h1, h2, h3, h4, h5, h6, h7, h8, h9, h10, h11, h12, h13, h14, h15, h16⟩
theorem RefO.ref (h : RefO S W gy n r vb vu vw vc bs cs) : Ref S W gy n r := ⟨vb, vu, vw, vc, bs, cs, h.row, h.sgy, h.b, h.u, h.w, h.c, h.uw, h.bc, h.lu, h.lw, h.lb, h.lc, h.mb, h.mc, h.byb, h.byc⟩
theorem RefO.keep (h : RefO S W gy n r vb vu vw vc bs cs) (hk : ∀ b, b < W.heap.size → S b → W'.heap[b]? = W.heap[b]?) : RefO S W' gy n r vb vu vw vc bs cs :=
  ⟨(hk gy h.row.lt h.sgy).trans h.row, h.sgy, h.b.keep hk, h.u.keep hk, h.w.keep hk, h.c.keep hk, h.uw, h.bc, h.lu, h.lw, h.lb, h.lc, h.mb, h.mc, fun i v b e e' => ⟨(h.byb i v b e e').1.keep hk, (h.byb i v b e e').2⟩, fun i v b e e' => ⟨(h.byc i v b e e').1.keep hk, (h.byc i v b e e').2⟩⟩
theorem RefO.later (h : RefO S W gy n r vb vu vw vc bs cs) (hb : Below W.heap.size W W') : RefO S W' gy n r vb vu vw vc bs cs := h.keep fun b hl _ => hb.block b hl
/-- a cell of Use is turned -/
theorem RefO.setU (h : RefO S W gy n r vb vu vw vc bs cs) {g : Nat} (hg : vu.ownBlock = some g) (hc : Ch (· = g) W W') {us : List Bool} (ho : Own1 S W' 4 vu (us.map .bool)) (hl : us.length = n) : RefO S W' gy n { r with us := us } vb vu vw vc bs cs := by
  have hk : ∀ {v : Value} {e : TypeId} {xs : List Value}, Own1 S W e v xs → v.ownBlock ≠ some g → Own1 S W' e v xs := fun h hne => h.keepB fun b hb => hc.one b (h.lt hb) fun e => hne (e ▸ hb)
  refine ⟨(hc.one gy h.row.lt fun e => h.u.ne h.row (by decide) (e ▸ hg)).trans h.row, h.sgy, hk h.b (h.u.ne2 h.b (by decide) hg), ho, hk h.w (h.uw g hg), hk h.c (h.u.ne2 h.c (by decide) hg), h.uw, h.bc, hl, h.lw, h.lb, h.lc, h.mb, h.mc, fun i v b e e' => ?_, fun i v b e e' => ?_⟩
  · have hb := h.byb i v b e e'
    exact ⟨hk hb.1 (h.u.ne2 hb.1 (by decide) hg), hb.2⟩
  · have hb := h.byc i v b e e'
    exact ⟨hk hb.1 (h.u.ne2 hb.1 (by decide) hg), hb.2⟩
end
theorem ByIn.slice {S : Nat → Prop} {W : World} {v : Value} {b : List Nat} (h : ByIn S W v b) : SliceIn W v b := by
  have h2 : BOwn W 0 v b := by
    have h1 := h.1.1
    rw [bcells_length] at h1
    exact h1
  exact h2.slice h.2.1 (by have := h.2.2; omega)
theorem run_blit0 {w : World} {a : Act} {o : Oper} (ho : o.op = .buildSlice 38 0 #[]) : (execOp a.eval o).run Tryd.prog w = .ok (.value (.slice (some ⟨w.heap.size, 0, none⟩) 0 0)) (w.alloc (.cells #[] 5)) := by
  have hr : (Instr.buildSlice 38 0 #[]).run Tryd.prog w = .ok (.slice (some ⟨w.heap.size, 0, none⟩) 0 0) (w.alloc (.cells #[] 5)) := by kernel_rfl
  simp only [execOp, ho, List.map_toArray, List.map_nil, hr, Sem.run_bind, Sem.run_pure, Result.andThen_ok]
theorem bown0 (w : World) : BOwn (w.alloc (.cells #[] 5)) w.heap.size (.slice (some ⟨w.heap.size, 0, none⟩) 0 0) [] := World.ownsRow_made w #[] 0 (Nat.le_refl _) (Nat.zero_le _) rfl
theorem used_lt {r : RefS} {p : Int} (h : r.used p = true) : ∃ k : Nat, p = (k : Nat) ∧ k < r.us.length := by
  unfold RefS.used at h
  simp only [Bool.and_eq_true, decide_eq_true_eq] at h
  exact ⟨p.toNat, by omega, by omega⟩
theorem rread_any (S : Nat → Prop) (w : World) (gy n : Nat) (r : RefS) (h : Ref S w gy n r) (hn : n ≤ 384) (p : Int) : Calls Tryd.prog 50 #[ptr gy, .int .i64 p] w fun e w' => (r.used p = false ∧ e = .returned (.tuple #[.slice none 0 0, .int .i64 90]) ∧ w = w') ∨ (r.used p = true ∧ ∃ v, e = .returned (.tuple #[v, .int .i64 0]) ∧ SliceIn w' v (r.lb.getD p.toNat []) ∧ Below w.heap.size w w') := by
  have HRef : Hid (Ref S w gy n r) := h
  have HN : Hid (n ≤ 384) := hn
  obtain ⟨vb, vu, vw, vc, bs, cs, ho⟩ := h.opened
  have HO : Hid (RefO S w gy n r vb vu vw vc bs cs) := ho
  clear h ho hn
  obtain ⟨PQ, HPQ⟩ : ∃ PQ : Ending → World → Prop, Hid (PQ = fun e w' => (r.used p = false ∧ e = .returned (.tuple #[.slice none 0 0, .int .i64 90]) ∧ w = w') ∨ (r.used p = true ∧ ∃ v, e = .returned (.tuple #[v, .int .i64 0]) ∧ SliceIn w' v (r.lb.getD p.toNat []) ∧ Below w.heap.size w w')) := ⟨_, rfl⟩
  rw [← HPQ.out]
  obtain ⟨nu, hnu⟩ : ∃ x, x = !r.used p := ⟨_, rfl⟩
  have HNU : Hid (nu = !r.used p) := hnu
  clear hnu
  go_enter Tryd.func50, Tryd.ntmps50
  go_upto_region 1 with fail
  refine wp_region_lit ?_
  refine wl rfl (ptr gy) _ (run_mvZ (.tmp 0) rfl (ptr gy) rfl) ?_
  simp only [Act.put, aS, aC, aZ]
  refine wl rfl (.int .i64 p) _ (run_mvZ (.tmp 1) rfl (.int .i64 p) rfl) ?_
  simp only [Act.put, aS, aC, aZ]
  refine wpList_callW eN47 [.tmp 6, .tmp 7] _ rfl rfl [(ptr gy), (.int .i64 p)] rfl ?_
  refine (rused_any S w gy n r HRef.out HN.out p).mono ?_
  rintro e wg ⟨rfl, rfl⟩
  refine ⟨_, rfl, ?_⟩
  simp only [Act.put, aS, aC, aZ]
  refine wl rfl (.bool nu) _ ((by rw [HNU.out]; exact run_not (.tmp 8) 4 rfl (r.used p) rfl)) ?_
  simp only [Act.put, aS, aC, aZ]
  refine wpList_nil ?_
  cases nu with
  | true =>
    go_wp2_with fail
    rw [HPQ.out]
    have hF : r.used p = false := (by have h := HNU.out; cases hu : r.used p with | false => rfl | true => rw [hu] at h; cases h)
    exact Or.inl ⟨hF, rfl, rfl⟩
  | false =>
    have HT : Hid (r.used p = true) := (by have h := HNU.out; cases hu : r.used p with | true => rfl | false => rw [hu] at h; cases h)
    obtain ⟨k, rfl, hk⟩ := used_lt HT.out
    have HK : Hid (k < n) := (by rw [← HO.out.lu]; exact hk)
    clear hk
    obtain ⟨gb, cur, _, _, hx, hcell, _, _, _⟩ := HO.out.b.ix 50 und50 sz38 k (by rw [HO.out.lb]; exact HK.out)
    obtain ⟨vk, hvk⟩ : ∃ x, bs[k]? = some x := ⟨_, List.getElem?_eq_getElem (by rw [HO.out.lb]; exact HK.out)⟩
    obtain ⟨bk, hbk⟩ : ∃ x, r.lb[k]? = some x := ⟨_, List.getElem?_eq_getElem (by rw [HO.out.mb]; exact HK.out)⟩
    rw [hvk] at hcell
    have HX : Hid ((∀ w', (Instr.indexAt 50 vb (.int .i64 (k : Nat))).run Tryd.prog w' = .ok (.pointer (some ⟨gb, k, none⟩)) w') ∧ w.cell? ⟨gb, k, none⟩ = some vk ∧ ByIn S w vk bk ∧ r.lb.getD ((k : Nat) : Int).toNat [] = bk) := ⟨hx, hcell, HO.out.byb k vk bk hvk hbk, by simp [List.getD_eq_getElem?_getD, hbk]⟩
    clear hx hcell hvk hbk
    go_upto_region 3 with fail
    refine wp_region_lit ?_
    refine wl rfl (.slice (some ⟨w.heap.size, 0, none⟩) 0 0) _ (run_blit0 rfl) ?_
    obtain ⟨q, hq⟩ : ∃ q, q = w.heap.size := ⟨_, rfl⟩
    obtain ⟨w2, hw⟩ : ∃ W, W = w.alloc (.cells #[] 5) := ⟨_, rfl⟩
    have O2 : Hid (BOwn w2 w.heap.size (.slice (some ⟨q, 0, none⟩) 0 0) [] ∧ Below w.heap.size w w2) := (by rw [hq, hw]; exact ⟨bown0 w, below_alloc w _⟩)
    have R2 : Hid (Row w2 gy 84 [.int .i64 (n : Nat), vb, vu, vw, .int .i64 r.rt, vc]) := HO.out.row.later O2.out.2 HO.out.row.lt
    rw [← hq, ← hw]
    clear hq hw
    simp only [Act.put, aS, aC, aZ]
    refine wl rfl (ptr gy) _ (run_mvZ (.tmp 0) rfl (ptr gy) rfl) ?_
    simp only [Act.put, aS, aC, aZ]
    refine wl rfl (ptr gy) _ (run_nil (.tmp 11) rfl ⟨gy, 0, none⟩ rfl) ?_
    simp only [Act.put, aS, aC, aZ]
    refine wl rfl (.pointer (some ⟨gy, 0 + 1, none⟩)) _ (run_fieldOp' f84_1 (.tmp 12) rfl gy (0) rfl) ?_
    simp only [Act.put, aS, aC, aZ]
    refine wl rfl vb _ (run_load1 o50 (.tmp 13) rfl gy (0 + 1) rfl vb (R2.out.at 1 _ rfl)) ?_
    simp only [Act.put, aS, aC, aZ]
    refine wl rfl (.int .i64 (k : Nat)) _ (run_mvZ (.tmp 1) rfl (.int .i64 (k : Nat)) rfl) ?_
    simp only [Act.put, aS, aC, aZ]
    refine wl rfl (.pointer (some ⟨gb, k, none⟩)) _ (run_idx (.tmp 14) (.tmp 15) rfl vb _ _ rfl rfl HX.out.1) ?_
    simp only [Act.put, aS, aC, aZ]
    refine wl rfl vk _ (run_load1 o38' (.tmp 16) rfl gb (k) rfl vk (cell_later O2.out.2 HX.out.2.1)) ?_
    simp only [Act.put, aS, aC, aZ]
    obtain ⟨v4, w3, hrun, ho3, hg3⟩ := run_bappend w.heap.size 38 (.slice (some ⟨q, 0, none⟩) 0 0) vk [] bk O2.out.1 (HX.out.2.2.1.slice.later O2.out.2) (by have := HX.out.2.2.1.2.2; simp; omega) O2.out.2.size
    refine wl rfl v4 w3 (run_append (.tmp 10) (.tmp 17) rfl _ vk v4 rfl rfl hrun) ?_
    have O3 : Hid (SliceIn w3 v4 bk ∧ Below w.heap.size w w3) := (by
      rw [List.nil_append] at ho3
      exact ⟨ho3.slice HX.out.2.2.1.2.1 (by have := HX.out.2.2.1.2.2; omega), O2.out.2.trans ((Below.refl _ w2).grown hg3 O2.out.2.size fun k hk => (O2.out.1.lt k hk).1)⟩)
    clear hrun ho3 hg3
    simp only [Act.put, aS, aC, aZ]
    refine wl rfl v4 _ (run_asZ (.tmp 18) rfl v4 rfl) ?_
    simp only [Act.put, aS, aC, aZ]
    refine wl rfl (.int .i64 0) _ (run_asZ (.const (.int .i64 0)) rfl (.int .i64 0) rfl) ?_
    simp only [Act.put, aS, aC, aZ]
    refine wpList_nil ?_
    go_wp2_with fail
    rw [HPQ.out]
    exact Or.inr ⟨HT.out, v4, rfl, by rw [HX.out.2.2.2]; exact O3.out.1, O3.out.2⟩
theorem rfree_any (S : Nat → Prop) (w : World) (gy n : Nat) (r : RefS) (h : Ref S w gy n r) (hn : n ≤ 384) (p : Int) : Calls Tryd.prog 18 #[ptr gy, .int .i64 p] w fun e w' => (r.used p = false ∧ e = .returned (.int .i64 90) ∧ w = w') ∨ (r.used p = true ∧ e = .returned (.int .i64 0) ∧ Ch S w w' ∧ Ref S w' gy n { r with us := r.us.set p.toNat false }) := by
  have HRef : Hid (Ref S w gy n r) := h
  have HN : Hid (n ≤ 384) := hn
  obtain ⟨vb, vu, vw, vc, bs, cs, ho⟩ := h.opened
  have HO : Hid (RefO S w gy n r vb vu vw vc bs cs) := ho
  clear h ho hn
  obtain ⟨PQ, HPQ⟩ : ∃ PQ : Ending → World → Prop, Hid (PQ = fun e w' => (r.used p = false ∧ e = .returned (.int .i64 90) ∧ w = w') ∨ (r.used p = true ∧ e = .returned (.int .i64 0) ∧ Ch S w w' ∧ Ref S w' gy n { r with us := r.us.set p.toNat false })) := ⟨_, rfl⟩
  rw [← HPQ.out]
  obtain ⟨nu, hnu⟩ : ∃ x, x = !r.used p := ⟨_, rfl⟩
  have HNU : Hid (nu = !r.used p) := hnu
  clear hnu
  go_enter Tryd.func18, Tryd.ntmps18
  go_upto_region 1 with fail
  refine wp_region_lit ?_
  refine wl rfl (ptr gy) _ (run_mvZ (.tmp 0) rfl (ptr gy) rfl) ?_
  simp only [Act.put, aS, aC, aZ]
  refine wl rfl (.int .i64 p) _ (run_mvZ (.tmp 1) rfl (.int .i64 p) rfl) ?_
  simp only [Act.put, aS, aC, aZ]
  refine wpList_callW eN47 [.tmp 5, .tmp 6] _ rfl rfl [(ptr gy), (.int .i64 p)] rfl ?_
  refine (rused_any S w gy n r HRef.out HN.out p).mono ?_
  rintro e wg ⟨rfl, rfl⟩
  refine ⟨_, rfl, ?_⟩
  simp only [Act.put, aS, aC, aZ]
  refine wl rfl (.bool nu) _ ((by rw [HNU.out]; exact run_not (.tmp 7) 4 rfl (r.used p) rfl)) ?_
  simp only [Act.put, aS, aC, aZ]
  refine wpList_nil ?_
  cases nu with
  | true =>
    go_wp2_with fail
    rw [HPQ.out]
    have hF : r.used p = false := (by have h := HNU.out; cases hu : r.used p with | false => rfl | true => rw [hu] at h; cases h)
    exact Or.inl ⟨hF, rfl, rfl⟩
  | false =>
    have HT : Hid (r.used p = true) := (by have h := HNU.out; cases hu : r.used p with | true => rfl | false => rw [hu] at h; cases h)
    obtain ⟨k, rfl, hk⟩ := used_lt HT.out
    have HK : Hid (k < n) := (by rw [← HO.out.lu]; exact hk)
    clear hk
    obtain ⟨gu, cur, hog, hsg, hx, _, hrow, hcl, hset⟩ := HO.out.u.ix 82 und82 sz4 k (by rw [List.length_map, HO.out.lu]; exact HK.out)
    have HX : Hid ((∀ w', (Instr.indexAt 82 vu (.int .i64 (k : Nat))).run Tryd.prog w' = .ok (.pointer (some ⟨gu, k, none⟩)) w') ∧ Row w gu 4 cur ∧ k < cur.length) := ⟨hx, hrow, hcl⟩
    have HY : Hid (Ch S w (w.setCell ⟨gu, k, none⟩ (.bool false)) ∧ Ref S (w.setCell ⟨gu, k, none⟩ (.bool false)) gy n { r with us := r.us.set k false }) := (by
      have h2 := hset (.bool false)
      rw [← List.map_set] at h2
      exact ⟨h2.2.mono fun b _ e => by rw [e]; exact hsg, (HO.out.setU hog h2.2 h2.1 (by rw [List.length_set]; exact HO.out.lu)).ref⟩)
    clear hog hsg hx hrow hcl hset
    go_upto_region 3 with fail
    refine wp_region_lit ?_
    refine wl rfl (ptr gy) _ (run_mvZ (.tmp 0) rfl (ptr gy) rfl) ?_
    simp only [Act.put, aS, aC, aZ]
    refine wl rfl (ptr gy) _ (run_nil (.tmp 9) rfl ⟨gy, 0, none⟩ rfl) ?_
    simp only [Act.put, aS, aC, aZ]
    refine wl rfl (.pointer (some ⟨gy, 0 + 2, none⟩)) _ (run_fieldOp' f84_2 (.tmp 10) rfl gy (0) rfl) ?_
    simp only [Act.put, aS, aC, aZ]
    refine wl rfl vu _ (run_load1 o82 (.tmp 11) rfl gy (0 + 2) rfl vu (HO.out.row.at 2 _ rfl)) ?_
    simp only [Act.put, aS, aC, aZ]
    refine wl rfl (.int .i64 (k : Nat)) _ (run_mvZ (.tmp 1) rfl (.int .i64 (k : Nat)) rfl) ?_
    simp only [Act.put, aS, aC, aZ]
    refine wl rfl (.pointer (some ⟨gu, k, none⟩)) _ (run_idx (.tmp 12) (.tmp 13) rfl vu _ _ rfl rfl HX.out.1) ?_
    simp only [Act.put, aS, aC, aZ]
    refine wl_put (t := 4) (by kernel_rfl) (.tmp 14) (.const (.bool false)) rfl rfl rfl gu k 4 cur rfl (.bool false) rfl ⟨rfl, rfl⟩ HX.out.2.1 HX.out.2.2 ?_
    obtain ⟨wz, hwz⟩ : ∃ W, W = w.setCell ⟨gu, k, none⟩ (.bool false) := ⟨_, rfl⟩
    rw [← hwz] at HY ⊢
    clear hwz
    refine wpList_nil ?_
    go_wp2_with fail
    rw [HPQ.out]
    exact Or.inr ⟨HT.out, rfl, HY.out.1, HY.out.2⟩

end Go.Proofs.YtkpnflgnhhfjoaaDoor

/- One after the other, the first of those that are left. -/
import Derived.Test.YtobolkllplmmcabT8
namespace Go.Proofs.Ytobolkllplmmcab
open Go.RowKit

/-- out has been told, L is left -/
def Sel (now : Int) (rs : List Rc) (out : List ByteArray) (L : List Rv) : Prop :=
  ∃ ks : List Key, Up ks ∧ out = ks.map (·.2) ∧ (ks ++ L.map fun x => keyOf x.r).Perm (keys now rs) ∧ ∀ a ∈ ks, ∀ x ∈ L, ¬ klt (keyOf x.r) a
theorem filter_r (now : Int) (l : List Rv) : (l.filter fun x => dueB now x.r).map (fun x => keyOf x.r) = keys now (l.map (·.r)) := by
  unfold keys
  induction l with
  | nil => rfl
  | cons x l ih =>
    rw [List.map_cons, List.filter_cons, List.filter_cons]
    by_cases h : dueB now x.r = true
    · rw [if_pos h, if_pos h, List.map_cons, List.map_cons, ih]
    · rw [if_neg h, if_neg h, ih]
theorem Sel.start (now : Int) (l : List Rv) : Sel now (l.map (·.r)) [] (l.filter fun x => dueB now x.r) :=
  ⟨[], List.Pairwise.nil, rfl, by rw [List.nil_append, filter_r], fun a ha => by cases ha⟩
theorem Sel.len {now : Int} {rs : List Rc} {out : List ByteArray} {L : List Rv} (h : Sel now rs out L) : out.length + L.length ≤ rs.length := by
  obtain ⟨ks, _, rfl, hp, _⟩ := h
  have := hp.length_eq
  have h2 : (keys now rs).length ≤ rs.length := by
    unfold keys
    rw [List.length_map]
    exact List.length_filter_le _ _
  rw [List.length_append, List.length_map] at this
  rw [List.length_map]
  omega
theorem Sel.done {now : Int} {rs : List Rc} {out : List ByteArray} (h : Sel now rs out []) : IsDue now rs out := by
  obtain ⟨ks, hu, ho, hp, _⟩ := h
  exact ⟨ks, by simpa using hp, hu, ho⟩
theorem cut_perm (L : List Rv) (f : Nat) (hf : f < L.length) : L.Perm (L[f] :: (L.take f ++ L.drop (f + 1))) := by
  have e : L = L.take f ++ L[f] :: L.drop (f + 1) := by rw [List.getElem_cons_drop, List.take_append_drop]
  have : (L.take f ++ L[f] :: L.drop (f + 1)).Perm (L[f] :: (L.take f ++ L.drop (f + 1))) := List.perm_middle
  rw [← e] at this
  exact this
theorem Sel.step {now : Int} {rs : List Rc} {out : List ByteArray} {L : List Rv} (h : Sel now rs out L) (f : Nat) (hf : f < L.length) (hm : ∀ (j : Nat) (hj : j < L.length), ¬ klt (keyOf L[j].r) (keyOf L[f].r)) : Sel now rs (out ++ [L[f].r.id]) (L.take f ++ L.drop (f + 1)) := by
  obtain ⟨ks, hu, rfl, hp, ha⟩ := h
  have hc := cut_perm L f hf
  refine ⟨ks ++ [keyOf L[f].r], ?_, ?_, ?_, ?_⟩
  · refine List.pairwise_append.2 ⟨hu, List.pairwise_singleton _ _, fun a h b hb => ?_⟩
    rw [List.mem_singleton.1 hb]
    exact ha a h _ (List.getElem_mem hf)
  · rw [List.map_append]
    rfl
  · refine List.Perm.trans ?_ hp
    rw [List.append_assoc]
    refine List.Perm.append_left _ ?_
    exact (hc.map fun x => keyOf x.r).symm
  · intro a h x hx
    have hxL : x ∈ L := hc.symm.subset (List.mem_cons_of_mem _ hx)
    rcases List.mem_append.1 h with h | h
    · exact ha a h x hxL
    · rw [List.mem_singleton.1 h]
      obtain ⟨j, hj, rfl⟩ := List.getElem_of_mem hxL
      exact hm j hj
/-- the first so far -/
def Fst (L : List Rv) (f i : Nat) : Prop := f < i ∧ i ≤ L.length ∧ ∀ (j : Nat), j < i → ∀ (x y : Rv), L[j]? = some x → L[f]? = some y → ¬ klt (keyOf x.r) (keyOf y.r)
theorem Fst.start (L : List Rv) (h : 0 < L.length) : Fst L 0 1 := by
  refine ⟨by decide, h, fun j hj x y hx hy => ?_⟩
  obtain rfl : j = 0 := by omega
  rw [hx] at hy
  obtain rfl := Option.some.inj hy
  exact klt_irrefl _
theorem Fst.keep {L : List Rv} {f i : Nat} (h : Fst L f i) (x y : Rv) (hx : L[i]? = some x) (hy : L[f]? = some y) (hn : ¬ klt (keyOf x.r) (keyOf y.r)) : Fst L f (i + 1) := by
  have hi := (List.getElem?_eq_some_iff.1 hx).1
  refine ⟨by have := h.1; omega, hi, fun j hj a b ha hb => ?_⟩
  by_cases e : j = i
  · subst e
    rw [hx] at ha
    rw [hy] at hb
    obtain rfl := Option.some.inj ha
    obtain rfl := Option.some.inj hb
    exact hn
  · exact h.2.2 j (by omega) a b ha hb
theorem Fst.move {L : List Rv} {f i : Nat} (h : Fst L f i) (x y : Rv) (hx : L[i]? = some x) (hy : L[f]? = some y) (hn : klt (keyOf x.r) (keyOf y.r)) : Fst L i (i + 1) := by
  have hi := (List.getElem?_eq_some_iff.1 hx).1
  refine ⟨by omega, hi, fun j hj a b ha hb => ?_⟩
  rw [hx] at hb
  obtain rfl := Option.some.inj hb
  by_cases e : j = i
  · subst e
    rw [hx] at ha
    obtain rfl := Option.some.inj ha
    exact klt_irrefl _
  · intro k
    exact h.2.2 j (by omega) a y ha hy (klt_trans k hn)
theorem Fst.all {L : List Rv} {f : Nat} (h : Fst L f L.length) (hf : f < L.length) : ∀ (j : Nat) (hj : j < L.length), ¬ klt (keyOf L[j].r) (keyOf L[f].r) := fun j hj => h.2.2 j hj _ _ (List.getElem?_eq_getElem hj) (List.getElem?_eq_getElem hf)
/-- whether it is due, part by part -/
theorem dueB_eq (now : Int) (r : Rc) : dueB now r = (!r.gone && (!r.hold && (decide (0 < r.expiry) && decide (r.expiry ≤ now)))) := by
  unfold dueB refS
  cases r.gone <;> cases r.hold <;> simp
theorem take_succ {α : Type} (l : List α) (k : Nat) (x : α) (h : l[k]? = some x) : l.take (k + 1) = l.take k ++ [x] := by
  rw [List.take_add_one, h, Option.toList_some]
theorem dueL_succ (now : Int) (l : List Rv) (k : Nat) (x : Rv) (h : l[k]? = some x) : (l.take (k + 1)).filter (fun x => dueB now x.r) = (l.take k).filter (fun x => dueB now x.r) ++ if dueB now x.r then [x] else [] := by
  rw [take_succ l k x h, List.filter_append]
  by_cases hb : dueB now x.r = true
  · rw [if_pos hb, List.filter_cons_of_pos (by exact hb)]
    rfl
  · rw [if_neg hb, List.filter_cons_of_neg (by exact hb)]
    rfl
theorem dueL_len (now : Int) (l : List Rv) (k : Nat) : ((l.take k).filter fun x => dueB now x.r).length ≤ k := Nat.le_trans (List.length_filter_le _ _) (List.length_take_le _ _)
/-- how long a slice is -/
def slLen : Value → Nat
  | .slice _ n _ => n
  | _ => 0
theorem own_slLen {w : World} {base e sz n : Nat} {v : Value} {xs : List Value} (h : w.ownsRow base e sz v n xs) : slLen v = n := by
  rcases h.2 with ⟨rfl, rfl⟩ | ⟨g, cap, cur, rfl, _⟩
  · rfl
  · rfl
theorem own_hold {w w' : World} {base e sz n : Nat} {v : Value} {xs : List Value} {row : Option Nat} (h : w.ownsRow base e sz v n xs) (hg : w.grownBy w' row) (hne : ∀ b, v.ownBlock = some b → row ≠ some b) : w'.ownsRow base e sz v n xs :=
  own_kept h fun b hb => hg.block b (h.lt b hb).2 fun e => hne b hb e.symm
theorem own_two {w : World} {base base' e e' sz sz' n n' : Nat} {v v' : Value} {xs xs' : List Value} (h : w.ownsRow base e sz v n xs) (h' : w.ownsRow base' e' sz' v' n' xs') (hT : e ≠ e') : ∀ b, v.ownBlock = some b → v'.ownBlock ≠ some b := by
  intro b hb hb'
  rcases h.2 with ⟨rfl, _⟩ | ⟨g, cap, cur, rfl, _, hg, _⟩
  · cases hb
  · rcases h'.2 with ⟨rfl, _⟩ | ⟨g', cap', cur', rfl, _, hg', _⟩
    · cases hb'
    · have e1 : g = b := Option.some.inj hb
      have e2 : g' = b := Option.some.inj hb'
      subst e1 e2
      rw [hg] at hg'
      simp at hg'
      exact hT hg'.2
theorem grown_alloc {w w' : World} {row : Option Nat} (o : Obj) (hg : (w.alloc o).grownBy w' row) : w.grownBy w' row := by
  have hs : (w.alloc o).heap.size = w.heap.size + 1 := by
    show (w.heap.push o).size = _
    simp
  refine ⟨hg.os, hg.tape, hg.output, by have := hg.size; omega, fun k hk hn => ?_⟩
  rw [hg.block k (by omega) hn]
  show (w.heap.push o)[k]? = _
  rw [Array.getElem?_push_lt hk, Array.getElem?_eq_getElem hk]
theorem IOwn.plit {W : World} {base : Nat} {v : Value} {is : List Nat} (h : IOwn W base v is) (ty k : Nat) (hmax : (is.length + 1) * 8 ≤ 140737488355328) (hbase : base ≤ W.heap.size) :
    ∃ v' W', (Builtin.append_ #[27, 27] ty #[v, .slice (some ⟨W.heap.size, 0, none⟩) 1 1]).run Try.prog (W.alloc (.cells [Value.int .i64 (k : Nat)].toArray 3)) = .ok v' W' ∧ IOwn W' base v' (is ++ [k]) ∧ W.grownBy W' v.ownBlock := by
  obtain ⟨v', W', hr, ho, hg⟩ := IOwn.push (w := W.alloc (.cells [Value.int .i64 (k : Nat)].toArray 3)) (own_later h (below_alloc W _)) ty W.heap.size k (Row.new W 3 _) hmax (Nat.le_trans hbase (below_alloc W _).size)
  exact ⟨v', W', hr, ho, grown_alloc _ hg⟩
theorem SOwn.plit {W : World} {base : Nat} {v : Value} {ss : List ByteArray} (h : SOwn W base v ss) (ty : Nat) (s : ByteArray) (hmax : (ss.length + 1) * 16 ≤ 140737488355328) (hbase : base ≤ W.heap.size) :
    ∃ v' W', (Builtin.append_ #[38, 38] ty #[v, .slice (some ⟨W.heap.size, 0, none⟩) 1 1]).run Try.prog (W.alloc (.cells [Value.string s].toArray 9)) = .ok v' W' ∧ SOwn W' base v' (ss ++ [s]) ∧ W.grownBy W' v.ownBlock := by
  obtain ⟨v', W', hr, ho, hg⟩ := SOwn.push (w := W.alloc (.cells [Value.string s].toArray 9)) (own_later h (below_alloc W _)) ty W.heap.size s (Row.new W 9 _) hmax (Nat.le_trans hbase (below_alloc W _).size)
  exact ⟨v', W', hr, ho, grown_alloc _ hg⟩
theorem ROwn.later {w w' : World} {base : Nat} {v : Value} {l : List Rv} (h : ROwn w base v l) (hb : Below w.heap.size w w') : ROwn w' base v l := ⟨own_later h.1 hb, h.2⟩
theorem ROwn.plit {W : World} {base : Nat} {v : Value} {l : List Rv} (h : ROwn W base v l) (ty : Nat) (x : Rv) (hx : Rok x.r x.v) (hmax : (l.length + 1) * 104 ≤ 140737488355328) (hbase : base ≤ W.heap.size) :
    ∃ v' W', (Builtin.append_ #[40, 40] ty #[v, .slice (some ⟨W.heap.size, 0, none⟩) 1 1]).run Try.prog (W.alloc (.cells (rcells x.r x.v).toArray 26)) = .ok v' W' ∧ ROwn W' base v' (l ++ [x]) ∧ W.grownBy W' v.ownBlock := by
  obtain ⟨v', W', hr, ho, hg⟩ := ROwn.push (w := W.alloc (.cells (rcells x.r x.v).toArray 26)) (h.later (below_alloc W _)) ty W.heap.size x hx (Row.new W 26 _) hmax (Nat.le_trans hbase (below_alloc W _).size)
  exact ⟨v', W', hr, ho, grown_alloc _ hg⟩
theorem own_weaken {w : World} {base base' e sz n : Nat} {v : Value} {xs : List Value} (h : w.ownsRow base e sz v n xs) (hb : base' ≤ base) : w.ownsRow base' e sz v n xs := by
  refine ⟨h.1, ?_⟩
  rcases h.2 with h | ⟨g, cap, cur, h1, h2, h3⟩
  · exact Or.inl h
  · exact Or.inr ⟨g, cap, cur, h1, Nat.le_trans hb h2, h3⟩
/-- all but one -/
theorem ROwn.without {W : World} {base : Nat} {v : Value} {L : List Rv} (h : ROwn W base v L) (ty ty' f : Nat) (hf : f < L.length) (hm : L.length * 104 ≤ 140737488355328) (hbase : base ≤ W.heap.size) :
    ∃ g cap ad c v1 W1 v2 W2, v = .slice (some ⟨g, 0, none⟩) L.length cap ∧ (∀ w', (Instr.slice 40 v none (some (.int .i64 (f : Nat))) none).run Try.prog w' = .ok (.slice (some ⟨g, 0, none⟩) f cap) w') ∧ (∀ w', (Instr.slice 40 v (some (.int .i64 ((f + 1 : Nat)))) none none).run Try.prog w' = .ok (.slice (some ad) (L.length - (f + 1)) c) w') ∧
    (Builtin.append_ #[40, 40] ty #[.slice (some ⟨W.heap.size, 0, none⟩) 0 0, .slice (some ⟨g, 0, none⟩) f cap]).run Try.prog (W.alloc (.cells #[] 26)) = .ok v1 W1 ∧
    (Builtin.append_ #[40, 40] ty' #[v1, .slice (some ad) (L.length - (f + 1)) c]).run Try.prog W1 = .ok v2 W2 ∧ ROwn W2 base v2 (L.take f ++ L.drop (f + 1)) ∧ Below W.heap.size W W2 := by
  obtain ⟨g, cap, ad, c, hv, h1, h2, c1, c2⟩ := h.cuts f hf
  have b0 := below_alloc W (.cells #[] 26)
  have hk1 : AllOk (L.take f) := fun x hx => h.2 x (List.mem_of_mem_take hx)
  have hk2 : AllOk (L.drop (f + 1)) := fun x hx => h.2 x (List.mem_of_mem_drop hx)
  have l1 : (rvs (L.take f)).length = f * 39 := by rw [rvs_length _ hk1, List.length_take, Nat.min_eq_left (by omega)]
  have l2 : (rvs (L.drop (f + 1))).length = (L.length - (f + 1)) * 39 := by rw [rvs_length _ hk2, List.length_drop]
  have o0 := ROwn.lit0 W W.heap.size (Nat.le_refl _)
  obtain ⟨v1, W1, r1, o1, g1⟩ := own_part 26 40 39 104 _ und37 info26 rfl (by decide) (by decide) o0.1 ty ⟨g, 0, none⟩ f cap _ (fun j u hu => by
    rw [add_none, Nat.zero_add]
    have := c1 j u hu
    rw [add_none, Nat.zero_add] at this
    rw [← this]
    exact World.cell?_of_block (w := W) (b0.block g (block_lt_of_cell this))) l1 (rvs_one _ hk1) (by simp only [List.length_nil]; omega) b0.size
  have b1 : Below W.heap.size W W1 := b0.grown g1 b0.size fun k hk => (o0.1.lt k hk).1
  obtain ⟨v2, W2, r2, o2, g2⟩ := own_part 26 40 39 104 _ und37 info26 rfl (by decide) (by decide) o1 ty' ad (L.length - (f + 1)) c _ (fun j u hu => by
    obtain ⟨h3, h4⟩ := c2 j u hu
    rw [← h3]
    refine World.cell?_of_block (w := W) ?_
    exact b1.block _ (block_lt_of_cell h3)) l2 (rvs_one _ hk2) (by simp only [List.length_nil]; omega) b1.size
  refine ⟨g, cap, ad, c, v1, W1, v2, W2, hv, h1, h2, r1, r2, ⟨?_, fun x hx => ?_⟩, b1.grown g2 b1.size fun k hk => (o1.lt k hk).1⟩
  · rw [rvs_append, List.length_append, List.length_take, Nat.min_eq_left (by omega), List.length_drop]
    have o3 := own_weaken o2 hbase
    simpa [rvs] using o3
  · rcases List.mem_append.1 hx with hx | hx
    · exact hk1 x hx
    · exact hk2 x hx
end Go.Proofs.Ytobolkllplmmcab

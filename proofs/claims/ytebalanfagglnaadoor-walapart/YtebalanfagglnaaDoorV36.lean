/- Layer 8: rows that the desk makes: copies of a transaction, the list with one more. Layer 8: the desk's own copies of a transaction, step by step. Layer 8: the desk appends a transaction. Layer 8: the desk behind an Append of its copy. Regions that draw their order and end in one operation that waits for all looks: what the looks read is held until that operation. Layer 8: operations in regions that draw their order. -/
import Derived.Test.YtebalanfagglnaaDoorV35
namespace Go.Proofs.YtebalanfagglnaaDoor
open Go.RowKit Go.Maps

theorem app_one' {w : World} {t e : TypeId} (hu : Tryd.prog.underlying t = some (.slice e)) (hinfo : (Tryd.prog.info? e).map (fun i => (i.zero, i.size, i.bytes)) = some (some (.slice none 0 0), 1, 24)) (ty : TypeId) (v : Value) (n : Nat) (xs : List Value) (hown : w.ownsRow 0 e 1 v n xs) (b : Nat) (u : Value) (hu1 : u.oneCell' = true) (hb : Row w b e [u]) (hn : n ≤ 100000000) :
    ∃ v' w', (Builtin.append_ #[t, t] ty #[v, .slice (some ⟨b, 0, none⟩) 1 1]).run Tryd.prog w = .ok v' w' ∧ w'.ownsRow 0 e 1 v' (n + 1) (xs ++ [u]) ∧ w.grownBy w' v.ownBlock ∧ (v'.ownBlock = v.ownBlock ∨ v'.ownBlock = some w.heap.size) := by
  obtain ⟨i, hi, hz0, hz1, hz2⟩ := info_parts hinfo
  obtain ⟨v', w', hr, h2, h3, _, h5⟩ := run_append_own_at (P := Tryd.prog) (w := w) 0 t ty e i (.slice none 0 0) 1 24 hu hi hz0 hz1 hz2 rfl (by decide) v n xs hown
    ⟨b, 0, none⟩ 1 1 [u] (by simp) (fun j y hy => by rw [add_none, Nat.zero_add]; exact hb.at j y hy) (by intro y hy; rw [List.mem_singleton.1 hy]; exact hu1) (by unfold maxLen; omega) (by omega) (Nat.zero_le _)
  exact ⟨v', w', hr, h2, h3, h5⟩
theorem own_zero {w : World} {base e sz n : Nat} {v : Value} {xs : List Value} (h : w.ownsRow base e sz v n xs) : w.ownsRow 0 e sz v n xs := by
  obtain ⟨h1, h2⟩ := h
  refine ⟨h1, ?_⟩
  rcases h2 with h2 | ⟨g, cap, cur, e, h0, hg⟩
  · exact Or.inl h2
  · exact Or.inr ⟨g, cap, cur, e, Nat.zero_le _, hg⟩
theorem info51z : (Tryd.prog.info? 50).map (fun i => (i.zero, i.size, i.bytes)) = some (some (.slice none 0 0), 1, 24) := by kernel_rfl
/-- rows that the call has made, each in a block of its own, all of Z -/
structure AccZ (W : World) (Z : Nat → Prop) (v : Value) (L : List (List Nat)) (us : List Value) : Prop where
  own : W.ownsRow 0 50 1 v L.length us
  row : ∀ i, i < L.length → BOwn W 0 (us.getD i undef) (L.getD i [])
  vz : ∀ b, v.ownBlock = some b → Z b
  uz : ∀ i, i < L.length → ∀ b, (us.getD i undef).ownBlock = some b → Z b ∧ v.ownBlock ≠ some b
  ap : ∀ i j, i < j → j < L.length → ∀ b, (us.getD i undef).ownBlock = some b → (us.getD j undef).ownBlock ≠ some b
  lt : ∀ b, Z b → b < W.heap.size
  byt : ∀ r ∈ L, ∀ c ∈ r, c < 256
  len : L.length ≤ 100000000 ∧ ∀ r ∈ L, r.length ≤ 100000000
theorem AccZ.ul {W : World} {Z : Nat → Prop} {v : Value} {L : List (List Nat)} {us : List Value} (h : AccZ W Z v L us) : us.length = L.length := by have := h.own.1; omega
theorem AccZ.kept {W W' : World} {Z : Nat → Prop} {v : Value} {L : List (List Nat)} {us : List Value} (h : AccZ W Z v L us) (hz : W.heap.size ≤ W'.heap.size) (hk : ∀ b, Z b → W'.heap[b]? = W.heap[b]?) : AccZ W' Z v L us :=
  ⟨ownK h.own fun b hb => hk b (h.vz b hb), fun i hi => ownK (h.row i hi) fun b hb => hk b (h.uz i hi b hb).1, h.vz, h.uz, h.ap, fun b hb => Nat.lt_of_lt_of_le (h.lt b hb) hz, h.byt, h.len⟩
theorem getD_mem {α : Type} {l : List α} {i : Nat} {d : α} (h : i < l.length) : l.getD i d ∈ l := by rw [List.getD_eq_getElem?_getD, List.getElem?_eq_getElem h]; exact List.getElem_mem _
theorem AccZ.slice {W : World} {Z : Nat → Prop} {v : Value} {L : List (List Nat)} {us : List Value} (h : AccZ W Z v L us) (i : Nat) (hi : i < L.length) : SliceIn W (us.getD i undef) (L.getD i []) :=
  BOwn.slice (h.row i hi) (h.byt _ (getD_mem hi)) (by have := h.len.2 _ (getD_mem (d := []) hi); omega)
theorem AccZ.rows {W : World} {Z : Nat → Prop} {v : Value} {L : List (List Nat)} {us : List Value} (h : AccZ W Z v L us) : RowsIn W v L := by
  have hul := h.ul
  have hln := h.len.1
  rcases h.own.2 with ⟨e, h0⟩ | ⟨g, cap, cur, e, _, hg, hcap, _, _, htake⟩
  · obtain rfl : L = [] := List.length_eq_zero_iff.1 h0
    exact ⟨none, 0, e, by decide, Or.inl rfl⟩
  · refine ⟨_, cap, e, by omega, Or.inr ⟨g, 0, rfl, fun i hi => ⟨us.getD i undef, ?_, h.slice i hi⟩⟩⟩
    have h2 := h.own.cells (g := g) (by rw [e]; rfl) i (us.getD i undef) (by rw [List.getD_eq_getElem?_getD, List.getElem?_eq_getElem (by omega)]; rfl)
    rw [add_none] at h2
    exact h2
theorem AccZ.nil (W : World) (g : Nat) (hg : Row W g 50 []) (Z : Nat → Prop) (hz : Z g) (hl : ∀ b, Z b → b < W.heap.size) : AccZ W Z (.slice (some ⟨g, 0, none⟩) 0 0) [] [] :=
  ⟨⟨rfl, Or.inr ⟨g, 0, #[], rfl, Nat.zero_le _, hg, Nat.le_refl _, by unfold maxLen; omega, rfl, rfl⟩⟩, fun _ h => absurd h (Nat.not_lt_zero _), fun b hb => by injection hb with hb; rw [← hb]; exact hz, fun _ h => absurd h (Nat.not_lt_zero _), fun _ _ _ h => absurd h (Nat.not_lt_zero _), hl, (fun _ h => (by cases h)), (by simp)⟩
theorem getD_left {α : Type} (l : List α) (x : α) (d : α) (i : Nat) (h : i < l.length) : (l ++ [x]).getD i d = l.getD i d := by simp [List.getD_eq_getElem?_getD, List.getElem?_append_left h]
theorem getD_last {α : Type} (l : List α) (x : α) (d : α) : (l ++ [x]).getD l.length d = x := by simp [List.getD_eq_getElem?_getD]
/-- one more row: its bytes copied, the copy laid behind -/
theorem AccZ.push {W : World} {Z : Nat → Prop} {v : Value} {L : List (List Nat)} {us : List Value} (h : AccZ W Z v L us) (hl : L.length < 100000000) (xv : Value) (r : List Nat) (hx : SliceIn W xv r) (hr : r.length ≤ 100000000) :
    ∃ v1 W1 v' W', (Builtin.append_ #[50, 50] 50 #[whole W.heap.size 0, xv]).run Tryd.prog (W.alloc (.cells #[] 5)) = .ok v1 W1 ∧ (Builtin.append_ #[28, 28] 28 #[v, .slice (some ⟨W1.heap.size, 0, none⟩) 1 1]).run Tryd.prog (W1.alloc (.cells #[v1] 50)) = .ok v' W' ∧ (∃ p n c, v1 = .slice p n c) ∧ AccZ W' (fun b => Z b ∨ (W.heap.size ≤ b ∧ b < W'.heap.size)) v' (L ++ [r]) (us ++ [v1]) ∧ Ch Z W W' := by
  have hul := h.ul
  have b0 : Below W.heap.size W (W.alloc (.cells #[] 5)) := below_alloc W _
  have z0 : (W.alloc (.cells #[] 5)).heap.size = W.heap.size + 1 := World.size_alloc _ _
  have r0 : Row (W.alloc (.cells #[] 5)) W.heap.size 5 [] := Row.new W 5 []
  have o0 : BOwn (W.alloc (.cells #[] 5)) W.heap.size (whole W.heap.size 0) [] := whole_own (cs := []) r0 (Nat.le_refl _) (by decide)
  obtain ⟨v1, W1, e1, o1, g1⟩ := run_bappend W.heap.size 51 _ xv [] r o0 (hx.later b0) (by simp; omega) (by omega)
  rw [List.nil_append] at o1
  have c1 : Below W.heap.size W W1 := b0.trans (o0.belowG g1 (by omega))
  have s1 := g1.size
  have hv1 := own_isSlice o1
  have b2 : Below W1.heap.size W1 (W1.alloc (.cells #[v1] 50)) := below_alloc W1 _
  have z2 : (W1.alloc (.cells #[v1] 50)).heap.size = W1.heap.size + 1 := World.size_alloc _ _
  have r2 : Row (W1.alloc (.cells #[v1] 50)) W1.heap.size 50 [v1] := Row.new W1 50 [v1]
  have c2 : Below W.heap.size W (W1.alloc (.cells #[v1] 50)) := c1.trans (b2.mono c1.size)
  have hown2 : (W1.alloc (.cells #[v1] 50)).ownsRow 0 50 1 v L.length us := ownK h.own fun b hb => c2.block b (h.lt b (h.vz b hb))
  obtain ⟨v', W', e2, o2, g2, hv'⟩ := app_one' Tryd.underlying28 info51z 30 v L.length us hown2 W1.heap.size v1 (by obtain ⟨p, n, c, e⟩ := hv1; rw [e]; rfl) r2 (by omega)
  have hch : Ch Z W W' := (Ch.of_below c2).grown g2 fun k hk => Or.inl (h.vz k hk)
  have s2 := g2.size
  have hvb : ∀ b, v'.ownBlock = some b → v.ownBlock = some b ∨ W1.heap.size + 1 ≤ b ∧ b < W'.heap.size := fun b hb => by
    have hlt := (World.ownsRow.lt o2 b hb).2
    rcases hv' with e | e
    · exact Or.inl (by rw [← e]; exact hb)
    · rw [hb] at e; injection e with e; exact Or.inr ⟨by omega, hlt⟩
  have hk2 : ∀ b, b < (W1.alloc (.cells #[v1] 50)).heap.size → v.ownBlock ≠ some b → W'.heap[b]? = (W1.alloc (.cells #[v1] 50)).heap[b]? := fun b hb hne => g2.block b hb (fun e => hne e.symm)
  have hold : ∀ b, Z b → v.ownBlock ≠ some b → W'.heap[b]? = W.heap[b]? := fun b hb hne => (hk2 b (by have := h.lt b hb; have := c1.size; omega) hne).trans (c2.block b (h.lt b hb))
  have hv1lt := fun b hb => World.ownsRow.lt o1 b hb
  have hlast : (L ++ [r]).length = L.length + 1 := by simp
  refine ⟨v1, W1, v', W', e1, e2, hv1, ⟨by rw [hlast]; exact o2, fun i hi => ?_, fun b hb => ?_, fun i hi b hb => ?_, fun i j hij hj b hb => ?_, fun b hb => ?_, fun x hx' => ?_, ?_⟩, hch⟩
  · rw [hlast] at hi
    by_cases e : i < L.length
    · rw [getD_left _ _ _ _ (by omega), getD_left _ _ _ _ e]
      exact ownK (h.row i e) fun b hb => hold b (h.uz i e b hb).1 (h.uz i e b hb).2
    · have e' : i = L.length := by omega
      subst e'
      rw [getD_last, ← hul, getD_last]
      refine ownK (own_zero o1) fun b hb => ?_
      have hb1 := hv1lt b hb
      rw [hk2 b (by omega) (fun e => by have := h.lt b (h.vz b e); omega), b2.block b hb1.2]
  · rcases hvb b hb with e | e
    · exact Or.inl (h.vz b e)
    · exact Or.inr ⟨by have := c1.size; omega, e.2⟩
  · rw [hlast] at hi
    by_cases e : i < L.length
    · rw [getD_left _ _ _ _ (by omega)] at hb
      refine ⟨Or.inl (h.uz i e b hb).1, fun e' => ?_⟩
      rcases hvb b e' with k | k
      · exact (h.uz i e b hb).2 k
      · have := h.lt b (h.uz i e b hb).1; have := c1.size; omega
    · have e' : i = us.length := by omega
      subst e'
      rw [getD_last] at hb
      have hb1 := hv1lt b hb
      refine ⟨Or.inr ⟨hb1.1, by omega⟩, fun e' => ?_⟩
      rcases hvb b e' with k | k
      · have := h.lt b (h.vz b k); omega
      · omega
  · rw [hlast] at hj
    rw [getD_left _ _ _ _ (by omega)] at hb
    by_cases e : j < L.length
    · rw [getD_left _ _ _ _ (by omega)]
      exact h.ap i j hij e b hb
    · have e' : j = us.length := by omega
      subst e'
      rw [getD_last]
      intro e'
      have hb1 := hv1lt b e'
      have := h.lt b (h.uz i (by omega) b hb).1
      omega
  · rcases hb with hb | hb
    · have := h.lt b hb; have := c1.size; omega
    · exact hb.2
  · rcases List.mem_append.1 hx' with h1 | h1
    · exact h.byt x h1
    · rw [List.mem_singleton.1 h1]; exact hx.lt256
  · refine ⟨by rw [hlast]; omega, fun x hx' => ?_⟩
    rcases List.mem_append.1 hx' with h1 | h1
    · exact h.len.2 x h1
    · rw [List.mem_singleton.1 h1]; exact hr
/-- a list of transactions, its headers copied -/
theorem app_many {W : World} {nv : Value} {D : List (List (List Nat))} {us : List Value} (h : TxsC W nv D us) :
    ∃ v' W', (Builtin.append_ #[36, 36] 36 #[.slice (some ⟨W.heap.size, 0, none⟩) 0 0, nv]).run Tryd.prog (W.alloc (.cells #[] 28)) = .ok v' W' ∧ W'.ownsRow W.heap.size 28 1 v' D.length us ∧ Below W.heap.size W W' := by
  obtain ⟨p, cap, rfl, hl, hul, hc, hr⟩ := h
  obtain ⟨i, hi, hz0, hz1, hz2⟩ := info_parts info30
  have b0 : Below W.heap.size W (W.alloc (.cells #[] 28)) := below_alloc W _
  have z0 : (W.alloc (.cells #[] 28)).heap.size = W.heap.size + 1 := World.size_alloc _ _
  have r0 : Row (W.alloc (.cells #[] 28)) W.heap.size 28 [] := Row.new W 28 []
  have o0 : (W.alloc (.cells #[] 28)).ownsRow W.heap.size 28 1 (.slice (some ⟨W.heap.size, 0, none⟩) 0 0) 0 [] := ⟨rfl, Or.inr ⟨W.heap.size, 0, #[], rfl, Nat.le_refl _, r0, Nat.le_refl _, by unfold maxLen; omega, rfl, rfl⟩⟩
  have hgo : ∀ ad : Addr, (∀ j u, us[j]? = some u → (W.alloc (.cells #[] 28)).cell? (ad.add j) = some u) → p = some ad → ∃ v' W', (Builtin.append_ #[36, 36] 36 #[.slice (some ⟨W.heap.size, 0, none⟩) 0 0, .slice p D.length cap]).run Tryd.prog (W.alloc (.cells #[] 28)) = .ok v' W' ∧ W'.ownsRow W.heap.size 28 1 v' D.length us ∧ Below W.heap.size W W' := by
    rintro ad hnews rfl
    have hone : ∀ u ∈ us, u.oneCell' = true := fun u hu => by
      obtain ⟨j, hj, rfl⟩ := List.getElem_of_mem hu
      obtain ⟨p', c', e, _⟩ := hr j (by omega)
      rw [List.getD_eq_getElem?_getD, List.getElem?_eq_getElem hj] at e
      have e' : us[j] = .slice p' (D.getD j []).length c' := e
      rw [e']
      rfl
    obtain ⟨v', w', hr', ho', hg, _⟩ := run_append_own (P := Tryd.prog) (w := W.alloc (.cells #[] 28)) W.heap.size 36 36 28 i (.slice none 0 0) 1 24 Tryd.underlying36 hi hz0 hz1 hz2 rfl (by decide) (.slice (some ⟨W.heap.size, 0, none⟩) 0 0) 0 [] o0
      ad D.length cap us (by omega) hnews hone (by unfold maxLen; omega) (by omega) (by omega)
    refine ⟨v', w', hr', by rw [List.nil_append, Nat.zero_add] at ho'; exact ho', b0.trans ((Below.refl _ _).grown hg (by omega) fun k hk => ?_)⟩
    have hk' : some W.heap.size = some k := hk
    injection hk' with hk'
    omega
  rcases hc with rfl | ⟨b, off, rfl, hc⟩
  · have hus : us = [] := List.length_eq_zero_iff.1 hul
    subst hus
    cases p with
    | none =>
      refine ⟨.slice (some ⟨W.heap.size, 0, none⟩) 0 0, W.alloc (.cells #[] 28), ?_, o0, b0⟩
      simp [Builtin.append_, run_underlying Tryd.underlying36, sizeOf, typeInfo, hi, Builtin.lenOf, Builtin.firstCells, storeCells]
    | some ad => exact hgo ad (by intro j u hu; simp at hu) rfl
  · refine hgo ⟨b, off, none⟩ (fun j u hu => ?_) rfl
    have hj : j < us.length := (List.getElem?_eq_some_iff.1 hu).1
    have h1 := hc j (by omega)
    rw [List.getD_eq_getElem?_getD, hu] at h1
    have h2 : W.cell? ⟨b, off + j, none⟩ = some u := h1
    rw [add_none, ← h2]
    exact World.cell?_of_block (w := W) (b0.block b (block_lt_of_cell h2))
end Go.Proofs.YtebalanfagglnaaDoor

namespace Go.Proofs.YtebalanfagglnaaDoor
open Go.RowKit Go.Maps
variable {T : Nat → Prop}

/-- while the copies are made: k1 of the one, k2 of the other -/
structure Ap1 (w : World) (gop : Nat) (oc : List Value) (v6 : Value) (nD : Nat) (us : List Value) (L : List (List Nat)) (k1 k2 : Nat) (v5 v7 : Value) (W : World) : Prop where
  below : Below w.heap.size w W
  op : Row W gop 31 oc
  own6 : W.ownsRow w.heap.size 28 1 v6 nD us
  gge : w.heap.size ≤ gop
  acc : ∃ Z1 Z2 us1 us2, AccZ W Z1 v5 (L.take k1) us1 ∧ AccZ W Z2 v7 (L.take k2) us2 ∧ (∀ b, Z1 b → w.heap.size ≤ b ∧ ¬ Z2 b ∧ b ≠ gop ∧ v6.ownBlock ≠ some b) ∧ ∀ b, Z2 b → w.heap.size ≤ b ∧ b ≠ gop ∧ v6.ownBlock ≠ some b
theorem take_one (L : List (List Nat)) (k : Nat) (hk : k < L.length) : L.take (k + 1) = L.take k ++ [L.getD k []] := by
  rw [List.take_succ_eq_append_getElem hk, List.getD_eq_getElem?_getD, List.getElem?_eq_getElem hk]
  rfl
section
variable {w : World} {gop : Nat} {oc : List Value} {v6 : Value} {nD : Nat} {us : List Value} {L : List (List Nat)} {k1 k2 : Nat} {v5 v7 : Value} {W : World}
theorem Ap1.isSl7 (h : Ap1 w gop oc v6 nD us L k1 k2 v5 v7 W) : ∃ p n c, v7 = .slice p n c := by obtain ⟨_, _, _, _, _, h1, _⟩ := h.acc; exact own_isSlice h1.own
theorem Ap1.lt6 (h : Ap1 w gop oc v6 nD us L k1 k2 v5 v7 W) (b : Nat) (hb : v6.ownBlock = some b) : w.heap.size ≤ b ∧ b < W.heap.size := World.ownsRow.lt h.own6 b hb
theorem Ap1.push5 (h : Ap1 w gop oc v6 nD us L k1 k2 v5 v7 W) (hk : k1 < L.length) (hL : L.length < 100000000) (xv : Value) (hx : SliceIn W xv (L.getD k1 [])) (hr : (L.getD k1 []).length ≤ 100000000) :
    ∃ v1 W1 v' W', (Builtin.append_ #[50, 50] 50 #[whole W.heap.size 0, xv]).run Tryd.prog (W.alloc (.cells #[] 5)) = .ok v1 W1 ∧ (Builtin.append_ #[28, 28] 28 #[v5, .slice (some ⟨W1.heap.size, 0, none⟩) 1 1]).run Tryd.prog (W1.alloc (.cells #[v1] 50)) = .ok v' W' ∧ (∃ p n c, v1 = .slice p n c) ∧ Ap1 w gop oc v6 nD us L (k1 + 1) k2 v' v7 W' := by
  obtain ⟨Z1, Z2, us1, us2, a1, a2, d1, d2⟩ := h.acc
  obtain ⟨v1, W1, v', W', e1, e2, hv1, a1', hch⟩ := a1.push (by rw [List.length_take]; omega) xv _ hx hr
  have hW := h.below.size
  refine ⟨v1, W1, v', W', e1, e2, hv1, ⟨h.below.trans (hch.below h.below.size fun b hb hz => by have := (d1 b hz).1; omega), hch.row (fun hz => (d1 gop hz).2.2.1 rfl) h.op, ownK h.own6 fun b hb => hch.block b (h.lt6 b hb).2 fun hz => (d1 b hz).2.2.2 hb, h.gge, _, Z2, _, us2, by rw [take_one L k1 hk]; exact a1', a2.kept hch.size fun b hb => hch.block b (a2.lt b hb) fun hz => (d1 b hz).2.1 hb, fun b hb => ?_, d2⟩⟩
  rcases hb with hb | hb
  · exact d1 b hb
  · exact ⟨by omega, fun hz => by have := a2.lt b hz; omega, fun e => by have := h.op.lt; omega, fun e => by have := (h.lt6 b e).2; omega⟩
theorem Ap1.push7 (h : Ap1 w gop oc v6 nD us L k1 k2 v5 v7 W) (hk : k2 < L.length) (hL : L.length < 100000000) (xv : Value) (hx : SliceIn W xv (L.getD k2 [])) (hr : (L.getD k2 []).length ≤ 100000000) :
    ∃ v1 W1 v' W', (Builtin.append_ #[50, 50] 50 #[whole W.heap.size 0, xv]).run Tryd.prog (W.alloc (.cells #[] 5)) = .ok v1 W1 ∧ (Builtin.append_ #[28, 28] 28 #[v7, .slice (some ⟨W1.heap.size, 0, none⟩) 1 1]).run Tryd.prog (W1.alloc (.cells #[v1] 50)) = .ok v' W' ∧ (∃ p n c, v1 = .slice p n c) ∧ Ap1 w gop oc v6 nD us L k1 (k2 + 1) v5 v' W' := by
  obtain ⟨Z1, Z2, us1, us2, a1, a2, d1, d2⟩ := h.acc
  obtain ⟨v1, W1, v', W', e1, e2, hv1, a2', hch⟩ := a2.push (by rw [List.length_take]; omega) xv _ hx hr
  have hW := h.below.size
  refine ⟨v1, W1, v', W', e1, e2, hv1, ⟨h.below.trans (hch.below h.below.size fun b hb hz => by have := (d2 b hz).1; omega), hch.row (fun hz => (d2 gop hz).2.1 rfl) h.op, ownK h.own6 fun b hb => hch.block b (h.lt6 b hb).2 fun hz => (d2 b hz).2.2 hb, h.gge, Z1, _, us1, _, a1.kept hch.size fun b hb => hch.block b (a1.lt b hb) fun hz => (d1 b hb).2.1 hz, by rw [take_one L k2 hk]; exact a2', fun b hb => ⟨(d1 b hb).1, fun hz => ?_, (d1 b hb).2.2⟩, fun b hb => ?_⟩⟩
  · rcases hz with hz | hz
    · exact (d1 b hb).2.1 hz
    · have := a1.lt b hb; omega
  · rcases hb with hb | hb
    · exact d2 b hb
    · exact ⟨by omega, fun e => by have := h.op.lt; omega, fun e => by have := (h.lt6 b e).2; omega⟩
end
/-- both copies, and the list with the one behind it -/
structure Ap2 (T : Nat → Prop) (w : World) (c : Nat → Colour) (t gd gw gop : Nat) (oc : List Value) (D : List (List (List Nat))) (L : List (List Nat)) (v5 v6 : Value) (us7 us1 : List Value) (Z1 : Nat → Prop) (W : World) : Prop where
  below : Below w.heap.size w W
  op : Row W gop 31 oc
  gge : w.heap.size ≤ gop
  own : AccZ W Z1 v5 L us1
  z : ∀ b, Z1 b → w.heap.size ≤ b ∧ b ≠ gop
  next : Rob (fun b => Fr3 T c t gd gw b ∧ ¬ Z1 b) (fun W => TxsC W v6 (D ++ [L]) us7) W
  sl6 : ∃ p n c, v6 = .slice p n c
theorem Ap1.next {w : World} {c : Nat → Colour} {t gd gw gop : Nat} {oc : List Value} {v6 : Value} {us : List Value} {D : List (List (List Nat))} {L : List (List Nat)} {v5 v7 : Value} {W : World} (h : Ap1 w gop oc v6 D.length us L L.length L.length v5 v7 W) {nv : Value} (hnow : Rob (Fr3 T c t gd gw) (fun W => TxsC W nv D us) w) (hc : ∀ b, w.heap.size ≤ b → (c b).1 ≠ t) (hgd : gd < w.heap.size) (hgw : gw < w.heap.size) (hT : ∀ b, T b → b < w.heap.size) (hD : D.length ≤ 10000) :
    ∃ v6' W' us7 us1 Z1, (Builtin.append_ #[36, 36] 36 #[v6, .slice (some ⟨W.heap.size, 0, none⟩) 1 1]).run Tryd.prog (W.alloc (.cells #[v7] 28)) = .ok v6' W' ∧ Ap2 T w c t gd gw gop oc D L v5 v6' us7 us1 Z1 W' := by
  obtain ⟨Z1, Z2, us1, us2, a1, a2, d1, d2⟩ := h.acc
  rw [List.take_length] at a1 a2
  have hW := h.below.size
  have hul : us.length = D.length := by have := h.own6.1; omega
  have b1 : Below W.heap.size W (W.alloc (.cells #[v7] 28)) := below_alloc W _
  have z1 : (W.alloc (.cells #[v7] 28)).heap.size = W.heap.size + 1 := World.size_alloc _ _
  have r1 : Row (W.alloc (.cells #[v7] 28)) W.heap.size 28 [v7] := Row.new W 28 [v7]
  have ho1 : (W.alloc (.cells #[v7] 28)).ownsRow 0 28 1 v6 D.length us := own_zero (ownK h.own6 fun b hb => b1.block b (h.lt6 b hb).2)
  have hv7 := own_isSlice a2.own
  obtain ⟨v6', W', e, o6, g6, hv6⟩ := app_one' Tryd.underlying36 info30 38 v6 D.length us ho1 W.heap.size v7 (by obtain ⟨p, n, c, e⟩ := hv7; rw [e]; rfl) r1 (by omega)
  have hch : Ch (fun b => v6.ownBlock = some b) W W' := (Ch.of_below b1).grown g6 fun k hk => Or.inl hk
  have s6 := g6.size
  have hvb : ∀ b, v6'.ownBlock = some b → w.heap.size ≤ b ∧ ¬ Z1 b := fun b hb => by
    rcases hv6 with e | e
    · have hb' : v6.ownBlock = some b := by rw [← e]; exact hb
      exact ⟨(h.lt6 b hb').1, fun hz => (d1 b hz).2.2.2 hb'⟩
    · rw [hb] at e; injection e with e
      exact ⟨by omega, fun hz => by have := a1.lt b hz; omega⟩
  have hbel : Below w.heap.size w W' := h.below.trans (hch.below h.below.size fun b hb he => by have := (h.lt6 b he).1; omega)
  have a1' : AccZ W' Z1 v5 L us1 := a1.kept hch.size fun b hb => hch.block b (a1.lt b hb) fun he => (d1 b hb).2.2.2 he
  have a2' : AccZ W' Z2 v7 L us2 := a2.kept hch.size fun b hb => hch.block b (a2.lt b hb) fun he => (d2 b hb).2.2 he
  have hne6 : ¬ v6.ownBlock = some gop := by
    intro he
    rcases h.own6.2 with ⟨e', _⟩ | ⟨g, cap, cur, e', h0, hg, _⟩
    · rw [e'] at he; cases he
    · rw [e'] at he
      have he' : some g = some gop := he
      injection he' with he'
      subst he'
      have h2 := h.op
      unfold Row at h2
      rw [hg] at h2
      injection h2 with h2
      injection h2 with _ h2
      exact absurd h2 (by decide)
  refine ⟨v6', W', us ++ [v7], us1, Z1, e, ⟨hbel, hch.row hne6 h.op, h.gge, a1', fun b hb => ⟨(d1 b hb).1, (d1 b hb).2.2.1⟩, fun W'' hz hk => ?_, own_isSlice o6⟩⟩
  have fresh : ∀ b, w.heap.size ≤ b → Fr3 T c t gd gw b := fun b hb => ⟨hc b hb, by omega, by omega, fun e => by have := hT b e; omega⟩
  have o6' : W''.ownsRow 0 28 1 v6' (D.length + 1) (us ++ [v7]) := ownK o6 fun b hb => hk b (World.ownsRow.lt o6 b hb).2 ⟨fresh b (hvb b hb).1, (hvb b hb).2⟩
  have hold : TxsC W'' nv D us := hnow W'' (Nat.le_trans hbel.size hz) fun b hb hp => (hk b (Nat.lt_of_lt_of_le hb hbel.size) ⟨hp, fun hz => by have := (d1 b hz).1; omega⟩).trans (hbel.block b hb)
  have hnew : RowsIn W'' v7 L := (a2'.kept hz fun b hb => hk b (a2'.lt b hb) ⟨fresh b (d2 b hb).1, fun hz => (d1 b hz).2.1 hb⟩).rows
  obtain ⟨_, _, _, _, _, _, hrows⟩ := hold
  have hlen : (D ++ [L]).length = D.length + 1 := by simp
  have hR : ∀ i, i < (D ++ [L]).length → RowsIn W'' ((us ++ [v7]).getD i undef) ((D ++ [L]).getD i []) := fun i hi => by
    rw [hlen] at hi
    by_cases e : i < D.length
    · rw [getD_left _ _ _ _ (by omega), getD_left _ _ _ _ e]
      exact hrows i e
    · have e' : i = D.length := by omega
      subst e'
      rw [getD_last, ← hul, getD_last]
      exact hnew
  rcases o6'.2 with ⟨e, h0⟩ | ⟨g, cap, cur, e, _, hg, hcap, _, _, htake⟩
  · exact absurd h0 (by omega)
  · refine ⟨_, cap, by rw [e, hlen], by rw [hlen]; omega, by simp [hul], Or.inr ⟨g, 0, rfl, fun i hi => ?_⟩, hR⟩
    rw [hlen] at hi
    have h2 := o6'.cells (g := g) (by rw [e]; rfl) i ((us ++ [v7]).getD i undef) (by rw [List.getD_eq_getElem?_getD, List.getElem?_eq_getElem (by simp; omega)]; rfl)
    rw [add_none] at h2
    exact h2
end Go.Proofs.YtebalanfagglnaaDoor

namespace Go.Proofs.YtebalanfagglnaaDoor
open Go.RowKit Go.Maps
variable {T : Nat → Prop}

section
variable {w : World} {ops : Array Oper} {rest : List Oper} {o : Oper} {a : Act} {Q : Exit → Act → World → Prop}
theorem lit51 (hgd : Region.wanted o (yielded ops a.tmps) = true) (ho : o.op = .buildSlice 50 0 #[]) (h : wpList Tryd.prog ops Q rest (a.put o.dst (.slice (some ⟨w.heap.size, 0, none⟩) 0 0)) (w.alloc (.cells #[] 5))) : wpList Tryd.prog ops Q (o :: rest) a w := by
  have hr : (Instr.buildSlice 50 0 #[]).run Tryd.prog w = .ok (.slice (some ⟨w.heap.size, 0, none⟩) 0 0) (w.alloc (.cells #[] 5)) := by kernel_rfl
  exact wl hgd _ _ (by simp only [execOp, ho, hr, List.map_toArray, List.map_nil, Sem.run_bind, Sem.run_pure, Result.andThen_ok]) h
theorem lit30 (hgd : Region.wanted o (yielded ops a.tmps) = true) (ho : o.op = .buildSlice 28 0 #[]) (h : wpList Tryd.prog ops Q rest (a.put o.dst (.slice (some ⟨w.heap.size, 0, none⟩) 0 0)) (w.alloc (.cells #[] 50))) : wpList Tryd.prog ops Q (o :: rest) a w := by
  have hr : (Instr.buildSlice 28 0 #[]).run Tryd.prog w = .ok (.slice (some ⟨w.heap.size, 0, none⟩) 0 0) (w.alloc (.cells #[] 50)) := by kernel_rfl
  exact wl hgd _ _ (by simp only [execOp, ho, hr, List.map_toArray, List.map_nil, Sem.run_bind, Sem.run_pure, Result.andThen_ok]) h
theorem run_lit38z {w : World} {a : Act} {o : Oper} (ho : o.op = .buildSlice 36 0 #[]) : (execOp a.eval o).run Tryd.prog w = .ok (.value (.slice (some ⟨w.heap.size, 0, none⟩) 0 0)) (w.alloc (.cells #[] 28)) := by
  have hr : (Instr.buildSlice 36 0 #[]).run Tryd.prog w = .ok (.slice (some ⟨w.heap.size, 0, none⟩) 0 0) (w.alloc (.cells #[] 28)) := by kernel_rfl
  simp only [execOp, ho, hr, List.map_toArray, List.map_nil, Sem.run_bind, Sem.run_pure, Result.andThen_ok]
theorem lit38 (hgd : Region.wanted o (yielded ops a.tmps) = true) (ho : o.op = .buildSlice 36 0 #[]) (h : wpList Tryd.prog ops Q rest (a.put o.dst (.slice (some ⟨w.heap.size, 0, none⟩) 0 0)) (w.alloc (.cells #[] 28))) : wpList Tryd.prog ops Q (o :: rest) a w := wl hgd _ _ (run_lit38z ho) h
end
/-- the desk, its journal open, and what it must tell -/
structure Desk (T : Nat → Prop) (w : World) (c : Nat → Colour) (t gd gw g : Nat) (m : Pl) (ds ts : List Nat) (i n S E : Nat) (D : List (List (List Nat))) (nv : Value) (dims : Nat) : Prop where
  dk : Dk T w c t gd g m ds ts i n (ptr gw) nv (costs D) dims
  wal : WalAt w c t gw g (i : Int) S E
  ne : gd ≠ gw
  jo : Jo m i n S E D
  now : ∃ us, Rob (Fr3 T c t gd gw) (fun W => TxsC W nv D us) w
/-- what holds behind a thing that is done -/
structure Done (T : Nat → Prop) (w : World) (c : Nat → Colour) (t gd gw g : Nat) (m : Pl) (ds ts : List Nat) (i n dims : Nat) (w' : World) (c' : Nat → Colour) (gw' : Nat) (m' : Pl) (S' E' : Nat) (D' : List (List (List Nat))) (nv' : Value) (dims' : Nat) : Prop where
  desk : Desk T w' c' t gd gw' g m' ds ts i n S' E' D' nv' dims'
  cc : ∀ b, b < w.heap.size → c' b = c b
  ch : Ch (fun b => (c b).1 = t ∨ b = gd ∨ b = gw) w w'
  new : gw' = gw ∨ w.heap.size ≤ gw'
  rel : Rel m m' i
  le : m'.steps ≤ m.steps + 20000
  dim : dims' ≤ dims + 10
theorem Opn.done {w w1 : World} {c c1 : Nat → Colour} {t gd gw0 g : Nat} {m m1 : Pl} {ds ts : List Nat} {i n : Nat} {D : List (List (List Nat))} {dims dims1 K Kd : Nat} {w' : World} {c' : Nat → Colour} {gw : Nat} {m' : Pl} {S E : Nat} {nv' : Value} {dims' : Nat} (h : Opn T w1 c1 t gd g m1 ds ts i n D dims1 K Kd w' c' gw m' S E nv' dims') (hcc : ∀ b, b < w.heap.size → c1 b = c b) (hch : Ch (fun b => (c b).1 = t ∨ b = gd ∨ b = gw0) w w1) (hr : Rel m m1 i) (hgd : gd < w.heap.size) (hs : m1.steps + K ≤ m.steps + 20000) (hd : dims1 + Kd ≤ dims + 10) : Done T w c t gd gw0 g m ds ts i n dims w' c' gw m' S E D nv' dims' :=
  ⟨⟨h.dk, h.wal, by have := h.new; have := hch.size; omega, h.jo, h.now⟩, fun b hb => by rw [h.cc b (Nat.lt_of_lt_of_le hb hch.size)]; exact hcc b hb, hch.trans' h.ch fun b hb e => by rw [← hcc b hb]; exact e.imp id Or.inl, Or.inr (Nat.le_trans hch.size h.new), hr.trans h.rel, by have := h.le; omega, by have := h.dim; omega⟩
/-- a call that comes in -/
def opCells (k N : Int) (txv kv : Value) : List Value := [.int .i64 k, .int .i64 N, txv, kv]
structure OpR (w : World) (P : Nat → Prop) (k N : Int) (txv kv : Value) (L : List (List Nat)) (ks : List Int) : Prop where
  k : -9223372036854775808 ≤ k ∧ k ≤ 9223372036854775807
  n : -9223372036854775808 ≤ N ∧ N ≤ 9223372036854775807
  tx : Rob P (fun W => RowsIn W txv L) w
  keep : KeepX w P kv ks
  size : txSize L ≤ 10000000
theorem opCells_one {k N : Int} {txv kv : Value} (h1 : ∃ p n c, txv = .slice p n c) (h2 : ∃ p n c, kv = .slice p n c) : ∀ v ∈ opCells k N txv kv, v.oneCell' = true := by
  obtain ⟨p, n, c, rfl⟩ := h1
  obtain ⟨p', n', c', rfl⟩ := h2
  intro v hv
  simp only [opCells, List.mem_cons, List.not_mem_nil, or_false] at hv
  rcases hv with rfl | rfl | rfl | rfl <;> rfl
theorem RowsIn.isSl {w : World} {v : Value} {L : List (List Nat)} (h : RowsIn w v L) : ∃ p n c, v = .slice p n c := by obtain ⟨p, cap, h, _⟩ := h; exact ⟨p, _, cap, h⟩
theorem row_len (L : List (List Nat)) (h : txSize L ≤ 10000000) : L.length < 100000000 ∧ ∀ r ∈ L, r.length ≤ 100000000 := by
  unfold txSize at h
  exact ⟨by omega, fun r hr => by have := bytesOf_mem L r hr; omega⟩
/-- what an Append answers, and what is there then -/
theorem app_cases {m : Pl} {i n S E : Nat} {D : List (List (List Nat))} (h : Jo m i n S E D) (hst : m.steps < 1099511627775) (L : List (List Nat)) (hb : ∀ r ∈ L, ∀ c ∈ r, c < 256) :
    (longTx L = true ∧ fitsB L n E = false ∧ m.app i S E n L = (5, m, E)) ∨
    (longTx L = false ∧ fitsB L n E = false ∧ m.app i S E n L = (3, m, E) ∧ n - 4 < costs D + costOf L) ∨
    (longTx L = false ∧ fitsB L n E = true ∧ ∃ M un, m.app i S E n L = (0, M, un) ∧ Jo M i n S un (D ++ [L]) ∧ Rel m M i ∧ M.steps ≤ m.steps + 100) ∨
    (longTx L = false ∧ fitsB L n E = true ∧ ∃ M, m.app i S E n L = (2, M, E) ∧ M.on = false ∧ Rel m M i ∧ M.steps ≤ m.steps + 100 ∧ ∀ ks, Jc (M.boot ks) i n D ∨ Jc (M.boot ks) i n (D ++ [L])) := by
  have hle := h.le
  obtain ⟨F, rows, hJ, hD, hE⟩ := h
  subst hE
  have hS := hJ.lt (by omega)
  cases hl : longTx L with
  | true =>
    left
    refine ⟨rfl, by unfold fitsB; rw [hl]; rfl, ?_⟩
    unfold Pl.app
    rw [hl, if_pos rfl]
  | false =>
    right
    have hsc := secs_cost L
    by_cases hf : logLen rows + secsOf (txSize L) ≤ n - 1
    · right
      have hfb : fitsB L n (logLen rows) = true := by unfold fitsB; rw [hl, decide_eq_true (by omega)]; rfl
      have hK : (rowSecs S (bodyOf L)).length ≤ 90 := by rw [rowSecs_length, bodyOf_length]; have := (notLong hl).2.2.1; unfold secsOf; omega
      have hun : (m.app i S (logLen rows) n L).1 ≠ 0 → (m.app i S (logLen rows) n L).2.2 = logLen rows := fun h => by
        unfold Pl.app at h ⊢
        rw [hl, hfb] at h ⊢
        rw [if_neg (by decide), if_pos rfl] at h ⊢
        exact if_neg h
      rcases hJ.appC hS L hl hb hf with ⟨k1, k2, k3, k4⟩ | ⟨k1, k2, k3⟩
      · left
        refine ⟨rfl, hfb, _, _, Prod.ext k1 rfl, ⟨F, _, k3, by rw [List.map_append, hD]; rfl, k4.symm⟩, k2.oth.rel, by have := k2.le; show (m.app i S (logLen rows) n L).2.1.steps ≤ _; omega⟩
      · right
        refine ⟨rfl, hfb, _, Prod.ext k1 (Prod.ext rfl (hun (by rw [k1]; decide))), k2.off, k2.oth.rel, by have := k2.le; show (m.app i S (logLen rows) n L).2.1.steps ≤ _; omega, fun ks => ?_⟩
        rcases k3 ks with k | k
        · exact Or.inl ⟨_, _, _, _, k, hD⟩
        · exact Or.inr ⟨_, _, _, _, k, by rw [List.map_append, hD]; rfl⟩
    · left
      have hfb : fitsB L n (logLen rows) = false := by unfold fitsB; rw [hl, decide_eq_false (by omega)]; rfl
      refine ⟨rfl, hfb, ?_, by omega⟩
      unfold Pl.app
      rw [hl, hfb, if_neg (by decide), if_neg (by decide)]
end Go.Proofs.YtebalanfagglnaaDoor

namespace Go.Proofs.YtebalanfagglnaaDoor
open Go.RowKit Go.Maps
variable {T : Nat → Prop}

theorem AccZ.at {W : World} {Z : Nat → Prop} {p : Option Addr} {n cap : Nat} {L : List (List Nat)} {us : List Value} (h : AccZ W Z (.slice p n cap) L us) (k : Nat) (hk : k < L.length) : ∃ b, p = some ⟨b, 0, none⟩ ∧ n = L.length ∧ W.cell? ⟨b, 0 + k, none⟩ = some (us.getD k undef) := by
  have hul := h.ul
  rcases h.own.2 with ⟨e, h0⟩ | ⟨g, cap', cur, e, _⟩
  · omega
  · injection e with e1 e2 e3
    refine ⟨g, e1, e2, ?_⟩
    have h2 := h.own.cells (g := g) (by rw [e1]; rfl) k (us.getD k undef) (by rw [List.getD_eq_getElem?_getD, List.getElem?_eq_getElem (by omega)]; rfl)
    rw [add_none] at h2
    exact h2
theorem BOwn.parts {W : World} {base : Nat} {v : Value} {cs : List Nat} (h : BOwn W base v cs) : ∃ p cap, v = .slice p cs.length cap ∧ (cs = [] ∨ ∃ g cur, p = some ⟨g, 0, none⟩ ∧ v.ownBlock = some g ∧ Row W g 5 cur ∧ cs.length ≤ cur.length) := by
  rcases h.2 with ⟨e, h0⟩ | ⟨g, cap, cur, e, _, hg, hcap, _, hsz, _⟩
  · have : cs = [] := List.length_eq_zero_iff.1 h0
    subst this
    exact ⟨none, 0, e, Or.inl rfl⟩
  · exact ⟨_, cap, e, Or.inr ⟨g, cur.toList, rfl, by rw [e]; rfl, hg, by simp; omega⟩⟩
/-- behind the Append, the copy still to be spoilt -/
structure ApF (T : Nat → Prop) (w : World) (c : Nat → Colour) (t gd gw g : Nat) (ds ts : List Nat) (i n S : Nat) (D : List (List (List Nat))) (nv : Value) (dims gop : Nat) (oc : List Value) (txv kv : Value) (L : List (List Nat)) (ks : List Int) (us : List Value) (M : Pl) (un : Nat) (v6 : Value) (us7 : List Value) (Z1 : Nat → Prop) (c7 : Nat → Colour) (W : World) : Prop where
  dk : Dk T W c7 t gd g M ds ts i n (ptr gw) nv (costs D) dims
  wal : WalAt W c7 t gw g (i : Int) S un
  op : Row W gop 31 oc
  gge : w.heap.size ≤ gop
  z : ∀ b, Z1 b → w.heap.size ≤ b ∧ b ≠ gop ∧ (c7 b).1 ≠ t
  lts : gd < w.heap.size ∧ gw < w.heap.size ∧ (c7 gop).1 ≠ t
  next : Rob (fun b => Fr3 T c7 t gd gw b ∧ ¬ Z1 b) (fun W => TxsC W v6 (D ++ [L]) us7) W
  now : Rob (fun b => Fr3 T c7 t gd gw b ∧ ¬ Z1 b) (fun W => TxsC W nv D us) W
  keep : KeepX W (fun b => Fr3 T c7 t gd gw b ∧ ¬ Z1 b) kv ks
  tx : Rob (fun b => Fr3 T c7 t gd gw b ∧ ¬ Z1 b) (fun W => RowsIn W txv L) W
  cc : ∀ b, b < w.heap.size → c7 b = c b
  ch : Ch (fun b => (c b).1 = t ∨ b = gw) w W
theorem ApF.spoilt {w : World} {c : Nat → Colour} {t gd gw g : Nat} {ds ts : List Nat} {i n S : Nat} {D : List (List (List Nat))} {nv : Value} {dims gop : Nat} {oc : List Value} {txv kv : Value} {L : List (List Nat)} {ks : List Int} {us : List Value} {M : Pl} {un : Nat} {v6 : Value} {us7 : List Value} {Z1 : Nat → Prop} {c7 : Nat → Colour} {W W' : World} (h : ApF T w c t gd gw g ds ts i n S D nv dims gop oc txv kv L ks us M un v6 us7 Z1 c7 W) (hch : Ch Z1 W W') : ApF T w c t gd gw g ds ts i n S D nv dims gop oc txv kv L ks us M un v6 us7 Z1 c7 W' := by
  have zd : ¬ Z1 gd := fun hz => by have := (h.z _ hz).1; have := h.lts.1; omega
  have zw : ¬ Z1 gw := fun hz => by have := (h.z _ hz).1; have := h.lts.2.1; omega
  have z0 : ¬ Z1 0 := fun hz => by have := (h.z _ hz).1; have := h.lts.1; omega
  have hl : Live W' c7 t g M := ⟨h.dk.live.1.kept hch.size fun b hb hbt => ⟨hch.block b hb (fun hz => (h.z b hz).2.2 hbt), rfl⟩, h.dk.live.2.1, fun b hb => h.dk.live.2.2 b (Nat.le_trans hch.size hb)⟩
  have htab : Fr.TabIn W' := TabIn.ch h.dk.tab hch z0
  have hk : ∀ b, b < W.heap.size → (Fr3 T c7 t gd gw b ∧ ¬ Z1 b) → W'.heap[b]? = W.heap[b]? := fun b hb hp => hch.block b hb hp.2
  exact ⟨⟨hl, hch.row zd h.dk.row, h.dk.ap, htab, h.dk.tap, h.dk.shape, h.dk.lt, h.dk.size, h.dk.dim, fun b hb => Nat.lt_of_lt_of_le (h.dk.str b hb) hch.size⟩, ⟨hch.row zw h.wal.row, h.wal.ap, htab, h.wal.tap⟩, hch.row (fun hz => (h.z _ hz).2.1 rfl) h.op, h.gge, h.z, h.lts, h.next.kept hch.size hk, h.now.kept hch.size hk, h.keep.next hch.size fun b hb hp => ⟨hk b hb hp, hp⟩, h.tx.kept hch.size hk, h.cc, h.ch.trans' hch fun b hb hz => by have := (h.z b hz).1; omega⟩
theorem Ap2.fin {w : World} {c : Nat → Colour} {t gd gw g : Nat} {m : Pl} {ds ts : List Nat} {i n S E : Nat} {D : List (List (List Nat))} {nv : Value} {dims : Nat} {us : List Value} (hd : Desk T w c t gd gw g m ds ts i n S E D nv dims) (hnow : Rob (Fr3 T c t gd gw) (fun W => TxsC W nv D us) w) {k N : Int} {txv kv : Value} {L : List (List Nat)} {ks : List Int} (ho : OpR w (Fr3 T c t gd gw) k N txv kv L ks)
    {gop : Nat} {oc : List Value} {v5 v6 : Value} {us7 us1 : List Value} {Z1 : Nat → Prop} {W W7 : World} (h : Ap2 T w c t gd gw gop oc D L v5 v6 us7 us1 Z1 W) {c7 : Nat → Colour} {M : Pl} {un : Nat} (hcc : ∀ b, b < W.heap.size → c7 b = c b) (hl : Live W7 c7 t g M) (hch : Ch (fun b => (c b).1 = t ∨ b = gw) W W7) (hw : WalAt W7 c7 t gw g (i : Int) S un) (hsh : M.sh = m.sh) :
    ApF T w c t gd gw g ds ts i n S D nv dims gop oc txv kv L ks us M un v6 us7 Z1 c7 W7 ∧ AccZ W7 Z1 v5 L us1 := by
  have hgd := hd.dk.row.lt
  have hgw := hd.wal.row.lt
  have hW := h.below.size
  have hz : ∀ b, Z1 b → w.heap.size ≤ b ∧ b ≠ gop ∧ (c7 b).1 ≠ t := fun b hb => ⟨(h.z b hb).1, (h.z b hb).2, by rw [hcc b (h.own.lt b hb)]; exact hd.dk.live.2.2 b (h.z b hb).1⟩
  have hgc : (c gop).1 ≠ t := hd.dk.live.2.2 gop h.gge
  have hkW : ∀ b, b < W.heap.size → (Fr3 T c t gd gw b ∧ ¬ Z1 b) → W7.heap[b]? = W.heap[b]? ∧ (Fr3 T c7 t gd gw b ∧ ¬ Z1 b) := fun b hb hp => ⟨hch.block b hb (fun e => e.elim hp.1.1 hp.1.2.2.1), ⟨by rw [hcc b hb]; exact hp.1.1, hp.1.2⟩, hp.2⟩
  have hkw : ∀ b, b < w.heap.size → Fr3 T c t gd gw b → W7.heap[b]? = w.heap[b]? ∧ (Fr3 T c7 t gd gw b ∧ ¬ Z1 b) := fun b hb hp => by
    have h1 := hkW b (Nat.lt_of_lt_of_le hb hW) ⟨hp, fun hz' => by have := (h.z b hz').1; omega⟩
    exact ⟨h1.1.trans (h.below.block b hb), h1.2⟩
  have hsz : w.heap.size ≤ W7.heap.size := Nat.le_trans hW hch.size
  refine ⟨⟨(hd.dk.below h.below).wx hcc hl hch hsh hd.ne hd.wal.ne0, hw, hch.row (fun e => e.elim hgc (fun e => by have := h.gge; omega)) h.op, h.gge, hz, ⟨hgd, hgw, by rw [hcc gop h.op.lt]; exact hgc⟩, h.next.next hch.size hkW, hnow.next hsz hkw, ho.keep.next hsz hkw, ho.tx.next hsz hkw, fun b hb => hcc b (Nat.lt_of_lt_of_le hb hW), (Ch.of_below h.below).trans hch⟩, h.own.kept hch.size fun b hb => hch.block b (h.own.lt b hb) fun e => ?_⟩
  rcases e with e | e
  · exact hd.dk.live.2.2 b (h.z b hb).1 e
  · have := (h.z b hb).1; omega
section
variable {w : World} {ops : Array Oper} {a : Act} {S : World → Prop} {o : Oper}
theorem run_addN' {w : World} {a : Act} {o : Oper} (x y : Operand) (ho : o.op = .binOp .add 3 x y 3) (m n : Nat) (hm : m ≤ 1000000000) (hn : n ≤ 1000000000) (hx : a.eval x = .int .i64 (m : Nat)) (hy : a.eval y = .int .i64 (n : Nat)) : (execOp a.eval o).run Tryd.prog w = .ok (.value (.int .i64 ((m + n : Nat) : Int))) w := by
  have e : (eqGuard .add 3 x y (.int .i64 (m : Nat)) (.int .i64 (n : Nat))).run Tryd.prog w = .ok () w := rfl
  have hwr : IntKind.i64.wrap ((m : Int) + (n : Int)) = ((m + n : Nat) : Int) := by
    simp [IntKind.wrap, IntKind.signed, IntKind.bits]
    omega
  have hr : (binOp .add 3 (.int .i64 (m : Nat)) (.int .i64 (n : Nat))).run Tryd.prog w = .ok (.int .i64 ((m + n : Nat) : Int)) w := by simp [binOp, Op.intArith, hwr]
  simp only [execOp, ho, hx, hy, e, hr, Sem.run_bind, Sem.run_pure, Result.andThen_ok]
theorem gAddN (hw : Region.wanted o (yielded ops a.tmps) = true) (x y : Operand) (ho : o.op = .binOp .add 3 x y 3) (m n : Nat) (hm : m ≤ 1000000000) (hn : n ≤ 1000000000) (hx : a.eval x = .int .i64 (m : Nat)) (hy : a.eval y = .int .i64 (n : Nat)) : YieldsIf Tryd.prog ops S o (.int .i64 ((m + n : Nat) : Int)) a := gRun hw _ fun _ _ => run_addN' x y ho m n hm hn hx hy
theorem gSubN (hw : Region.wanted o (yielded ops a.tmps) = true) (x : Operand) (ho : o.op = .binOp .sub 3 x (.const (.int .i64 4)) 3) (n : Nat) (hn : n ≤ 1000000000) (hx : a.eval x = .int .i64 (n : Nat)) : YieldsIf Tryd.prog ops S o (.int .i64 ((n : Int) - 4)) a := gRun hw _ fun w _ => by
  have e : (eqGuard .sub 3 x (.const (.int .i64 4)) (.int .i64 (n : Nat)) (.int .i64 4)).run Tryd.prog w = .ok () w := rfl
  have hwr : IntKind.i64.wrap ((n : Int) - 4) = (n : Int) - 4 := by
    simp [IntKind.wrap, IntKind.signed, IntKind.bits]
    omega
  have hr : (binOp .sub 3 (.int .i64 (n : Nat)) (.int .i64 4)).run Tryd.prog w = .ok (.int .i64 ((n : Int) - 4)) w := by simp [binOp, Op.intArith, hwr]
  have hy : a.eval (.const (.int .i64 4)) = .int .i64 4 := rfl
  simp only [execOp, ho, hx, hy, e, hr, Sem.run_bind, Sem.run_pure, Result.andThen_ok]
theorem gLeqI (hw : Region.wanted o (yielded ops a.tmps) = true) (x y : Operand) (ho : o.op = .binOp .leq 3 x y 3) (m n : Int) (hx : a.eval x = .int .i64 m) (hy : a.eval y = .int .i64 n) : YieldsIf Tryd.prog ops S o (.bool (decide (m ≤ n))) a := gRun hw _ fun w _ => by
  have e : (eqGuard .leq 3 x y (.int .i64 m) (.int .i64 n)).run Tryd.prog w = .ok () w := rfl
  have hr : (binOp .leq 3 (.int .i64 m) (.int .i64 n)).run Tryd.prog w = .ok (.bool (decide (m ≤ n))) w := by simp [binOp, Op.intCmp]
  simp only [execOp, ho, hx, hy, e, hr, Sem.run_bind, Sem.run_pure, Result.andThen_ok]
end
theorem s5 : (Tryd.prog.info? 5).map (·.size) = some 1 := by kernel_rfl
theorem idx51 (b off n cap k : Nat) (h : k < n) (w' : World) : (Instr.indexAt 50 (.slice (some ⟨b, off, none⟩) n cap) (.int .i64 (k : Nat))).run Tryd.prog w' = .ok (.pointer (some ⟨b, off + k, none⟩)) w' := by
  obtain ⟨i5, hi5, hsz⟩ := Option.map_eq_some_iff.1 s5
  simp [Instr.indexAt, asIntOf, run_underlying Tryd.underlying50, h, sizeOf, typeInfo, hi5, hsz, add_none]
/-- the list with one more is told, or the old one: a literal of two -/
theorem run_lit41_2 {w : World} {a : Act} {o : Oper} (x y : Operand) (ho : o.op = .buildSlice 39 2 #[(0, x), (1, y)]) (u v : Value) (hu : ∃ p n c, u = .slice p n c) (hv : ∃ p n c, v = .slice p n c) (hx : a.eval x = u) (hy : a.eval y = v) : (execOp a.eval o).run Tryd.prog w = .ok (.value (.slice (some ⟨w.heap.size, 0, none⟩) 2 2)) (w.alloc (.cells #[u, v] 36)) := by
  obtain ⟨p, n, c, rfl⟩ := hu
  obtain ⟨p', n', c', rfl⟩ := hv
  have hr : (Instr.buildSlice 39 2 #[(0, .slice p n c), (1, .slice p' n' c')]).run Tryd.prog w = .ok (.slice (some ⟨w.heap.size, 0, none⟩) 2 2) (w.alloc (.cells #[.slice p n c, .slice p' n' c'] 36)) := by kernel_rfl
  simp only [execOp, ho, List.map_toArray, List.map_cons, List.map_nil, hx, hy, hr, Sem.run_bind, Sem.run_pure, Result.andThen_ok]
theorem run_lit41_1 {w : World} {a : Act} {o : Oper} (x : Operand) (ho : o.op = .buildSlice 39 1 #[(0, x)]) (u : Value) (hu : ∃ p n c, u = .slice p n c) (hx : a.eval x = u) : (execOp a.eval o).run Tryd.prog w = .ok (.value (.slice (some ⟨w.heap.size, 0, none⟩) 1 1)) (w.alloc (.cells #[u] 36)) := by
  obtain ⟨p, n, c, rfl⟩ := hu
  have hr : (Instr.buildSlice 39 1 #[(0, .slice p n c)]).run Tryd.prog w = .ok (.slice (some ⟨w.heap.size, 0, none⟩) 1 1) (w.alloc (.cells #[.slice p n c] 36)) := by kernel_rfl
  simp only [execOp, ho, List.map_toArray, List.map_cons, List.map_nil, hx, hr, Sem.run_bind, Sem.run_pure, Result.andThen_ok]
/-- lists in a block that is new: what may be told -/
theorem may_new {w : World} {P : Nat → Prop} {l : List (Value × List (List (List Nat)) × List Value)} (h : ∀ x ∈ l, Rob P (fun W => TxsC W x.1 x.2.1 x.2.2) w) (hl : l.length ≤ 1000) (hP : P w.heap.size) : Rob P (fun W => MayIn W (.slice (some ⟨w.heap.size, 0, none⟩) l.length l.length) l) (w.alloc (.cells (l.map (·.1)).toArray 36)) := by
  intro W' hz hk
  have z1 : (w.alloc (.cells (l.map (·.1)).toArray 36)).heap.size = w.heap.size + 1 := World.size_alloc _ _
  have b1 : Below w.heap.size w (w.alloc (.cells (l.map (·.1)).toArray 36)) := below_alloc w _
  have r1 : Row (w.alloc (.cells (l.map (·.1)).toArray 36)) w.heap.size 36 (l.map (·.1)) := Row.new w 36 _
  have r2 : Row W' w.heap.size 36 (l.map (·.1)) := by unfold Row; rw [hk _ (by omega) hP]; exact r1
  refine ⟨w.heap.size, 0, l.length, rfl, hl, fun j x hx => ⟨?_, ?_⟩⟩
  · have := r2.at j x.1 (by rw [List.getElem?_map, hx]; rfl)
    rw [Nat.zero_add]
    exact this
  · exact h x (List.mem_of_getElem? hx) W' (by omega) fun b hb hp => (hk b (by omega) hp).trans (b1.block b hb)
end Go.Proofs.YtebalanfagglnaaDoor

namespace Go.Proofs.YtebalanfagglnaaDoor
open Go.RowKit
section
variable {P : Program} {ops : Array Oper} {Q : Exit → Act → World → Prop} {md : Region.Mode} {S : World → Prop} {z : Nat}

/-- whatever order is picked from here on; S holds behind every operation, as long as the last one has not come up -/
def wpAnyU (P : Program) (md : Region.Mode) (ops : Array Oper) (Q : Exit → Act → World → Prop) (S : World → Prop) (z : Nat) : Nat → Array Bool → Act → World → Prop
  | 0, listed, a, w => Region.ready md ops listed = [] ∧ Q .normal a w
  | fuel + 1, listed, a, w =>
    (Region.ready md ops listed = [] → Q .normal a w) ∧
    ∀ i ∈ Region.ready md ops listed, wpOp P ops Q i (fun a' w' => ((listed.setIfInBounds i true).getD z true = false → S w') ∧ wpAnyU P md ops Q S z fuel (listed.setIfInBounds i true) a' w') a w
theorem wpAny_of_until : ∀ (fuel : Nat) (listed : Array Bool) (a : Act) (w : World), wpAnyU P md ops Q S z fuel listed a w → wpAny P md ops Q fuel listed a w
  | 0, _, _, _, h => h
  | fuel + 1, _, _, _, h => ⟨h.1, fun i hi => wpOp_mono (fun a' w' h' => wpAny_of_until fuel _ a' w' h'.2) (h.2 i hi)⟩

theorem wp_region_until {id : Nat} {a : Act} {w : World} (z : Nat) (hm : P.follows .mixedOrders = true)
    (h : wpAnyU P .any ops Q S z ops.size (Array.replicate ops.size false) a { w with drawn := w.drawn + 1 }) : (Code.region id ops true).wp P Q a w :=
  wp_region_any hm (wpAny_of_until _ _ _ _ h)
theorem wpAnyU_done {listed : Array Bool} {a : Act} {w : World} (hr : Region.ready md ops listed = []) (h : Q .normal a w) :
    ∀ fuel, wpAnyU P md ops Q S z fuel listed a w
  | 0 => ⟨hr, h⟩
  | _ + 1 => ⟨fun _ => h, by rw [hr]; simp⟩
/-- the last waits for i -/
def waitsB (md : Region.Mode) (ops : Array Oper) (z i : Nat) : Bool := i != z && match ops[z]? with
  | some o => o.after.any fun e => Region.binds md e && e.on == i
  | none => false
end
/-- one waits for the next, none has come up -/
def chainB (md : Region.Mode) (ops : Array Oper) (listed : Array Bool) : List Nat → Bool
  | [] => true
  | [a] => !(listed.getD a true)
  | a :: b :: r => !(listed.getD a true) && (waitsB md ops b a && chainB md ops listed (b :: r))
section
variable {P : Program} {ops : Array Oper} {Q : Exit → Act → World → Prop} {md : Region.Mode} {S : World → Prop} {z : Nat}
theorem chain_head {listed : Array Bool} {a : Nat} {r : List Nat} (h : chainB md ops listed (a :: r) = true) : listed.getD a true = false := by
  cases r with
  | nil => simpa [chainB] using h
  | cons b r =>
    unfold chainB at h
    simp only [Bool.and_eq_true, Bool.not_eq_true'] at h
    exact h.1
theorem waits_not {listed : Array Bool} {a b : Nat} (hw : waitsB md ops b a = true) (ha : listed.getD a true = false) : b ∉ Region.ready md ops listed := by
  intro hb
  obtain ⟨_, ob, hob, hall⟩ := mem_ready.1 hb
  unfold waitsB at hw
  rw [Bool.and_eq_true, hob] at hw
  obtain ⟨_, h2⟩ := hw
  simp only [Array.any_eq_true] at h2
  obtain ⟨n, hn, hb'⟩ := h2
  simp only [Bool.and_eq_true, beq_iff_eq] at hb'
  have h1 := hall _ (Array.getElem_mem hn) hb'.1
  rw [hb'.2] at h1
  rcases Nat.lt_or_ge a listed.size with h' | h'
  · simp [h'] at ha h1; rw [ha] at h1; cases h1
  · simp [Array.getElem?_eq_none h'] at h1
theorem chain_not {listed : Array Bool} : ∀ (r : List Nat) (a j : Nat), chainB md ops listed (a :: r) = true → j ∈ Region.ready md ops listed → j ∉ r := by
  intro r
  induction r with
  | nil => intro a j _ _ h; cases h
  | cons b r ih =>
    intro a j h hj hm
    have ha := chain_head h
    unfold chainB at h
    simp only [Bool.and_eq_true] at h
    rcases List.mem_cons.1 hm with e | e
    · subst e; exact waits_not h.2.1 ha hj
    · exact ih b j h.2.2 hj e
theorem chain_set {listed : Array Bool} (j : Nat) : ∀ (l : List Nat), chainB md ops listed l = true → j ∉ l → chainB md ops (listed.setIfInBounds j true) l = true := by
  intro l
  induction l with
  | nil => intro _ _; rfl
  | cons a r ih =>
    intro h hj
    have hja : j ≠ a := fun e => hj (by rw [e]; simp)
    have ha := chain_head h
    have ha' : (listed.setIfInBounds j true).getD a true = false := by rw [getD_set_ne true hja]; exact ha
    cases r with
    | nil => simp only [chainB, ha', Bool.not_false]
    | cons b r =>
      unfold chainB at h ⊢
      simp only [Bool.and_eq_true] at h ⊢
      exact ⟨by rw [ha']; rfl, h.2.1, ih h.2.2 (fun e => hj (by simp [e]))⟩
theorem chain_mem {listed : Array Bool} : ∀ (l : List Nat) (j : Nat), chainB md ops listed l = true → j ∈ l → listed.getD j true = false := by
  intro l
  induction l with
  | nil => intro j _ h; cases h
  | cons a r ih =>
    intro j h hj
    rcases List.mem_cons.1 hj with e | e
    · rw [e]; exact chain_head h
    · cases r with
      | nil => cases e
      | cons b r =>
        unfold chainB at h
        simp only [Bool.and_eq_true] at h
        exact ih j h.2.2 e
theorem wpAnyU_chain {i : Nat} {oi : Oper} {v : Value} (l : List Nat) (hzm : z ∈ l) (hil : i ∉ l) (hi : ops[i]? = some oi) (hsel : ∀ (j : Nat) (o : Oper) cs b, ops[j]? = some o → o.op ≠ .select cs b)
    (hQ : ∀ c a w, Q (.panic c) (a.put oi.dst v) w → Q (.panic c) a w) :
    ∀ (fuel : Nat) (listed : Array Bool) (a : Act) (w : World),
      (∀ j oj, ops[j]? = some oj → j ≠ i → listed.getD j true = false → (∀ e ∈ oj.after, Region.binds md e = true → e.on ≠ i) → oi.apart ops oj = true) →
      i ∈ Region.ready md ops listed → chainB md ops listed (i :: l) = true → YieldsIf P ops S oi v a → S w →
      wpAnyU P md ops Q S z fuel (listed.setIfInBounds i true) (a.put oi.dst v) w → wpAnyU P md ops Q S z (fuel + 1) listed a w := by
  intro fuel
  induction fuel with
  | zero =>
    intro listed a w _ hr hzl hy hS H
    refine ⟨fun h => (by rw [h] at hr; cases hr), fun j hj => ?_⟩
    by_cases hji : j = i
    · subst hji; exact hy.wpOp hi hS ⟨fun _ => hS, H⟩
    · have := ready_mono hj hji
      rw [H.1] at this
      cases this
  | succ fuel ih =>
    intro listed a w hfree hr hcl hy hS H
    have hiz : i ≠ z := fun e => hil (by rw [e]; exact hzm)
    have hzl : listed.getD z true = false := chain_mem _ z hcl (by simp [hzm])
    refine ⟨fun h => (by rw [h] at hr; cases hr), fun j hj => ?_⟩
    by_cases hji : j = i
    · subst hji; exact hy.wpOp hi hS ⟨fun _ => hS, H⟩
    · have h1 := H.2 j (ready_mono hj hji)
      obtain ⟨hjun, oj, hoj, hall⟩ := mem_ready.1 hj
      have hnot : ∀ e ∈ oj.after, Region.binds md e = true → e.on ≠ i := fun e he hb heq => by
        have h1 := hall e he hb
        have h0 := (mem_ready.1 hr).1
        rw [heq] at h1
        rcases Nat.lt_or_ge i listed.size with h' | h'
        · simp [h'] at h0 h1; rw [h0] at h1; cases h1
        · simp [Array.getElem?_eq_none h'] at h1
      have hjl : j ∉ l := chain_not l i j hcl hj
      have hjz : j ≠ z := fun e => hjl (by rw [e]; exact hzm)
      have hlij : ((listed.setIfInBounds i true).setIfInBounds j true).getD z true = false := by rw [getD_set_ne true hjz, getD_set_ne true hiz]; exact hzl
      have h2 := wpOp_putIf hoj (hfree j oj hoj hji hjun hnot) (fun cs b => hsel i oi cs b hi) (fun cs b => hsel j oj cs b hoj) hQ hy h1
      have hfree' : ∀ k ok, ops[k]? = some ok → k ≠ i → (listed.setIfInBounds j true).getD k true = false →
          (∀ e ∈ ok.after, Region.binds md e = true → e.on ≠ i) → oi.apart ops ok = true := fun k ok hk hki hun hno => by
        refine hfree k ok hk hki ?_ hno
        by_cases hjk : j = k
        · subst hjk; exact hjun
        · rw [getD_set_ne true hjk] at hun; exact hun
      refine wpOp_mono (fun a' w' h3 => ?_) h2
      have hSw := h3.2.1 hlij
      refine ⟨fun _ => hSw, ih (listed.setIfInBounds j true) a' w' hfree' (ready_mono hr (Ne.symm hji)) (chain_set j _ hcl (fun e => by rcases List.mem_cons.1 e with e | e; exact hji e; exact hjl e)) h3.1 hSw ?_⟩
      rw [Array.setIfInBounds_comm _ _ hji]
      exact h3.2.2
end
section
variable {ops : Array Oper} {Q : Exit → Act → World → Prop} {a : Act} {w : World} {listed : Array Bool} {fuel : Nat} {S : World → Prop} {z : Nat}
theorem takeV {i : Nat} (l : List Nat) (d : Option Tmp) {oi : Oper} {v : Value} (hi : ops[i]? = some oi) (hd : oi.dst = d)
    (hs : Region.noSelect ops = true) (hf : Region.free .any ops listed i = true) (hr : (Region.ready .any ops listed).contains i = true) (hz : (chainB .any ops listed (i :: l) && (l.contains z && !l.contains i)) = true)
    (hQ : ∀ c a w, Q (.panic c) (a.put d v) w → Q (.panic c) a w) (hy : YieldsIf Tryd.prog ops S oi v a) (hS : S w)
    (h : wpAnyU Tryd.prog .any ops Q S z fuel (listed.setIfInBounds i true) (a.put d v) w) : wpAnyU Tryd.prog .any ops Q S z (fuel + 1) listed a w := by
  subst hd
  simp only [Bool.and_eq_true, Bool.not_eq_true'] at hz
  exact wpAnyU_chain l (by simpa using hz.2.1) (by simpa using hz.2.2) hi (Region.noSelect_spec hs) hQ fuel listed a w (Region.free_spec hi hf) (by simpa using hr) hz.1 hy hS h
end
section
variable {ops : Array Oper} {Q : Exit → Act → World → Prop} {a : Act} {w : World} {listed : Array Bool} {fuel : Nat} {S : World → Prop} {z : Nat}
theorem oneU {i : Nat} (hr : Region.ready .any ops listed = [i]) (h : wpOp Tryd.prog ops Q i (fun a' w' => ((listed.setIfInBounds i true).getD z true = false → S w') ∧ wpAnyU Tryd.prog .any ops Q S z fuel (listed.setIfInBounds i true) a' w') a w) : wpAnyU Tryd.prog .any ops Q S z (fuel + 1) listed a w :=
  ⟨fun h0 => (by rw [hr] at h0; cases h0), fun j hj => (by rw [hr] at hj; obtain rfl := List.mem_singleton.1 hj; exact h)⟩
end
end Go.Proofs.YtebalanfagglnaaDoor

namespace Go.Proofs.YtebalanfagglnaaDoor
open Go.RowKit Go.Maps
variable {T : Nat → Prop}

theorem ApF.done {w : World} {c : Nat → Colour} {t gd gw g : Nat} {m : Pl} {ds ts : List Nat} {i n S : Nat} {D : List (List (List Nat))} {nv : Value} {dims gop : Nat} {oc : List Value} {txv kv : Value} {L : List (List Nat)} {ks : List Int} {us : List Value} {M : Pl} {un : Nat} {v6 : Value} {us7 : List Value} {Z1 : Nat → Prop} {c7 : Nat → Colour} {W : World} (h : ApF T w c t gd gw g ds ts i n S D nv dims gop oc txv kv L ks us M un v6 us7 Z1 c7 W) (hne : gd ≠ gw) (hj : Jo M i n S un D) (hr : Rel m M i) (hs : M.steps ≤ m.steps + 20000) : Done T w c t gd gw g m ds ts i n dims W c7 gw M S un D nv dims :=
  ⟨⟨h.dk, h.wal, hne, hj, us, h.now.next (Nat.le_refl _) fun b hb hp => ⟨rfl, hp.1⟩⟩, h.cc, h.ch.mono fun b _ e => e.elim Or.inl (fun e => Or.inr (Or.inr e)), Or.inl rfl, hr, hs, by omega⟩
theorem opSkipZ {ops : Array Oper} {Q : Exit → Act → World → Prop} {a : Act} {w : World} {i : Nat} {o : Oper} {K : Act → World → Prop} (hi : ops[i]? = some o) (hd : o.dst = none) (hgd : o.guard = none) (w' : World) (hrun : (execOp a.eval o).run Tryd.prog w = .ok .skip w') (h : K a w') : wpOp Tryd.prog ops Q i K a w := by
  unfold wpOp
  have hw : Region.wanted o (yielded ops a.tmps) = true := by simp [Region.wanted, hgd]
  simp only [hi, hw, if_true, Oper.wp, hrun, Oper.upon, hd]
  exact .inl h
theorem opValueG {ops : Array Oper} {Q : Exit → Act → World → Prop} {a : Act} {w : World} {i : Nat} (d : Option Tmp) {o : Oper} {K : Act → World → Prop} (hi : ops[i]? = some o) (hd : o.dst = d) (hw : Region.wanted o (yielded ops a.tmps) = true) (v : Value) (w' : World) (hrun : (execOp a.eval o).run Tryd.prog w = .ok (.value v) w') (h : K (a.put d v) w') : wpOp Tryd.prog ops Q i K a w := by
  subst hd
  unfold wpOp
  simp only [hi, hw, if_true, Oper.wp, hrun, Oper.upon]
  exact .inl h
theorem run_mvZ {w : World} {a : Act} {o : Oper} (x : Operand) (ho : o.op = .move x) (v : Value) (hx : a.eval x = v) : (execOp a.eval o).run Tryd.prog w = .ok (.value v) w := by simp [execOp, ho, hx]
theorem run_asZ {w : World} {a : Act} {o : Oper} (x : Operand) (ho : o.op = .assign x) (v : Value) (hx : a.eval x = v) : (execOp a.eval o).run Tryd.prog w = .ok (.value v) w := by simp [execOp, ho, hx]
theorem run_pickZ {w : World} {a : Act} {o : Oper} (c x y : Operand) (ho : o.op = .pick c x y) (b : Bool) (v : Value) (hc : a.eval c = .bool b) (hv : (if b then a.eval x else a.eval y) = v) : (execOp a.eval o).run Tryd.prog w = .ok (.value v) w := by
  subst hv
  have hb : (asBool (.bool b)).run Tryd.prog w = .ok b w := rfl
  simp only [execOp, ho, hc, hb, Sem.run_bind, Sem.run_pure, Result.andThen_ok]
end Go.Proofs.YtebalanfagglnaaDoor

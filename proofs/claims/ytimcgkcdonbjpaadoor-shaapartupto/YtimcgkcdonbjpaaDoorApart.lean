/- The law ShaApart, walked out of its callees' contracts. -/
import Derived.Test.YtimcgkcdonbjpaaDoorPieces
namespace Go.Proofs.YtimcgkcdonbjpaaDoor
open Go.RowKit

theorem BOwn.weaken {W : World} {base base' : Nat} {sv : Value} {cs : List Nat} (h : BOwn W base sv cs) (hb : base' ≤ base) : BOwn W base' sv cs := by
  refine ⟨h.1, ?_⟩
  rcases h.2 with h | ⟨g, cap, cur, h1, h2, h3⟩
  · exact Or.inl h
  · exact Or.inr ⟨g, cap, cur, h1, Nat.le_trans hb h2, h3⟩
theorem StIn.grown {w w' : World} {g : Nat} {m : List Nat} {row : Option Nat} (h : StIn w g m) (hg : w.grownBy w' row) (hne : some g ≠ row) : StIn w' g m := by
  obtain ⟨buf, hr, h⟩ := h
  refine ⟨buf, ?_, h⟩
  unfold Row
  rw [hg.block g hr.lt hne]
  exact hr

section
variable {w : World} {ops : Array Oper} {rest : List Oper} {o : Oper} {a : Act} {Q : Exit → Act → World → Prop}
/-- append, and where its result lies: where it lay, or in a new block -/
theorem wpList_append_apart (sv x : Operand) (hgd : o.guard = none) (ho : o.op = .call { callee := .builtin .append, args := #[sv, x], argTypes := #[22, 22] })
    (base : Nat) (v vx : Value) (cs ys : List Nat) (hs : a.eval sv = v) (hown : BOwn w base v cs) (hsome : v.ownBlock ≠ none) (hx : a.eval x = vx) (hin : SliceIn w vx ys)
    (hsz : cs.length + ys.length ≤ 140737488355328) (hbase : base ≤ w.heap.size)
    (h : ∀ v' w', BOwn w' base v' (cs ++ ys) → w.grownBy w' v.ownBlock → (v'.ownBlock = v.ownBlock ∨ v'.ownBlock = some w.heap.size) → wpList Tryd.prog ops Q rest (a.put o.dst v') w') : wpList Tryd.prog ops Q (o :: rest) a w := by
  obtain ⟨i, hi, hz0, hz1, hz2⟩ := info_parts info5'
  obtain ⟨p, cap, rfl, hl, hin⟩ := hin
  rcases hown.2 with ⟨rfl, h0⟩ | ⟨g, cap', cur, rfl, hbg, hg, hcap, hmax, hcs, htake⟩
  · exact absurd rfl hsome
  have hgo : ∀ ad : Addr, (∀ j u, (bcells ys)[j]? = some u → w.cell? (ad.add j) = some u) → p = some ad → wpList Tryd.prog ops Q (o :: rest) a w := by
    rintro ad hnews rfl
    have hnl : (bcells ys).length = ys.length * i.size := by rw [bcells_length, hz1]; omega
    obtain ⟨v', w', hr, ho', hgr, _⟩ := run_append_own (P := Tryd.prog) (w := w) base 22 o.type 5 i (.int .u8 0) 1 1 Tryd.underlying22 hi hz0 hz1 hz2 rfl (by decide) _ cs.length (bcells cs) hown
      ad ys.length cap (bcells ys) (by simp [bcells_length]) hnews (bcells_one ys) (by unfold maxLen; omega) (by omega) hbase
    have hblk : v'.ownBlock = (Value.slice (some ⟨g, 0, none⟩) cs.length cap').ownBlock ∨ v'.ownBlock = some w.heap.size := by
      by_cases hroom : cs.length + ys.length ≤ cap'
      · have hr2 := run_append_room (P := Tryd.prog) w 22 o.type 5 i Tryd.underlying22 hi g cs.length cap' cur hg ad ys.length cap (bcells ys) hnl hnews (bcells_one ys) hroom (by rw [hnl, hz1, hcs]; omega)
        rw [hr] at hr2
        left
        injection hr2 with e1 e2
        rw [e1]
        rfl
      · have hr2 := run_append_grow (P := Tryd.prog) w 22 o.type 5 i (.int .u8 0) Tryd.underlying22 hi hz0 ⟨g, 0, none⟩ cs.length cap' (bcells cs) (by rw [bcells_length, hz1]; omega) (hown.cells (g := g) rfl) ad ys.length cap (bcells ys) hnl hnews (by omega) (by omega) (growslice_fits (by omega) (by rw [hz2]; omega))
        rw [hr] at hr2
        right
        injection hr2 with e1 e2
        rw [e1]
        rfl
    refine wpList_value hgd v' w' ?_ (h v' w' ?_ hgr hblk)
    · simp only [execOp, ho, resolve, invoke, builtin, Sem.run_bind, Sem.run_pure, Result.andThen_ok, List.map_toArray, List.map_cons, List.map_nil, hs, hx, hr]
    · unfold BOwn
      rw [bcells_append, List.length_append]
      exact ho'
  rcases hin with rfl | ⟨b, off, rfl, hc, _⟩
  · cases p with
    | none =>
      have hrun : (Builtin.append_ #[22, 22] o.type #[.slice (some ⟨g, 0, none⟩) cs.length cap', .slice none ([] : List Nat).length cap]).run Tryd.prog w = .ok (.slice (some ⟨g, 0, none⟩) cs.length cap') w := by
        simp [Builtin.append_, run_underlying Tryd.underlying22, sizeOf, typeInfo, hi, Builtin.lenOf, Builtin.firstCells, hcap, storeCells]
      refine wpList_value hgd _ w ?_ (h _ w ?_ ⟨rfl, rfl, rfl, Nat.le_refl _, fun _ _ _ => rfl⟩ (Or.inl rfl))
      · simp only [execOp, ho, resolve, invoke, builtin, Sem.run_bind, Sem.run_pure, Result.andThen_ok, List.map_toArray, List.map_cons, List.map_nil, hs, hx, hrun]
      · rw [List.append_nil]
        exact hown
    | some ad => exact hgo ad (by intro j u hu; simp [bcells] at hu) rfl
  · refine hgo ⟨b, off, none⟩ (fun j u hu => ?_) rfl
    have hj : j < ys.length := by
      have := (List.getElem?_eq_some_iff.1 hu).1
      rwa [bcells_length] at this
    rw [add_none, hc j hj, ← hu, bcells_at ys j hj]
end

/-- where the law stands: the two States and the two rows -/
structure AIn (w W : World) (gs gt base : Nat) (sx sy : Value) (m k : List Nat) : Prop where
  s : StIn W gs m
  t : StIn W gt k
  x : BOwn W base sx m
  y : BOwn W base sy k
  ne : sx.ownBlock ≠ sy.ownBlock
  xs : sx.ownBlock ≠ none
  ys : sy.ownBlock ≠ none
  bl : Below w.heap.size w W
  sz : base ≤ W.heap.size

theorem AIn.swap {w W : World} {gs gt base : Nat} {sx sy : Value} {m k : List Nat} (h : AIn w W gs gt base sx sy m k) : AIn w W gt gs base sy sx k m :=
  ⟨h.t, h.s, h.y, h.x, fun e => h.ne e.symm, h.ys, h.xs, h.bl, h.sz⟩
/-- behind a Write of the first State -/
theorem AIn.wrote {w W W' : World} {gs gt base : Nat} {sx sy : Value} {m k m' : List Nat} (h : AIn w W gs gt base sx sy m k) (hgs : gs < base) (hw : w.heap.size ≤ gs) (hne : gs ≠ gt) (ho : Only gs W W') (hs : StIn W' gs m') :
    StIn W' gs m' ∧ StIn W' gt k ∧ BOwn W' base sx m ∧ BOwn W' base sy k ∧ Below w.heap.size w W' ∧ base ≤ W'.heap.size :=
  ⟨hs, h.t.only ho (fun e => hne e.symm), h.x.only ho hgs, h.y.only ho hgs, h.bl.trans (ho.below hw h.bl.size), Nat.le_trans h.sz ho.size⟩
/-- behind an append to the first row -/
theorem AIn.next {w W W' : World} {gs gt base : Nat} {sx sy sx' : Value} {m k m' : List Nat} (h : StIn W gs m' ∧ StIn W gt k ∧ BOwn W base sx m ∧ BOwn W base sy k ∧ Below w.heap.size w W ∧ base ≤ W.heap.size) (hne : sx.ownBlock ≠ sy.ownBlock) (hxs : sx.ownBlock ≠ none) (hys : sy.ownBlock ≠ none)
    (hgs : gs < base) (hgt : gt < base) (hwb : w.heap.size ≤ base) (ho : BOwn W' base sx' m') (hg : W.grownBy W' sx.ownBlock) (hb : sx'.ownBlock = sx.ownBlock ∨ sx'.ownBlock = some W.heap.size) : AIn w W' gs gt base sx' sy m' k := by
  obtain ⟨h1, h2, h3, h4, h5, h6⟩ := h
  have hlow : ∀ q, sx.ownBlock = some q → base ≤ q := fun q hq => (h3.lt q hq).1
  refine ⟨h1.grown hg (fun e => by have := hlow gs e.symm; omega), h2.grown hg (fun e => by have := hlow gt e.symm; omega), ho, World.ownsRow.kept h4 hg (Or.inr (fun e => hne e.symm)), ?_, ?_, hys, ?_, Nat.le_trans h6 hg.size⟩
  · rcases hb with hb | hb
    · rw [hb]; exact hne
    · rw [hb]
      intro e
      have := (h4.lt W.heap.size e.symm).2
      omega
  · rcases hb with hb | hb
    · rw [hb]; exact hxs
    · rw [hb]; simp
  · exact h5.grown hg h5.size (fun q hq => Nat.le_trans hwb (hlow q hq))
theorem AIn.slices {w W : World} {gs gt base : Nat} {sx sy : Value} {m k : List Nat} (h : AIn w W gs gt base sx sy m k) (hm : ∀ j : Nat, m.getD j 0 < 256) (hk : ∀ j : Nat, k.getD j 0 < 256) : SliceIn W sx m ∧ SliceIn W sy k := ⟨h.x.slice hm, h.y.slice hk⟩
theorem take_past (L : List (List Nat)) (n : Nat) (h : ¬ n < L.length) : (L.take (n + 1)).flatten = (L.take n).flatten := by
  rw [List.take_of_length_le (by omega), List.take_of_length_le (by omega)]

set_option maxHeartbeats 1000000 in
set_option maxRecDepth 100000 in
theorem apart_any (va vb : Value) (A B : List (List Nat)) (w : World) (hva : ListIn w va A) (hvb : ListIn w vb B) (ht : TabIn w) (hst : StartIn w) (hla : A.flatten.length ≤ 1048576) (hlb : B.flatten.length ≤ 1048576) (hA : A.length ≤ 1048576) (hB : B.length ≤ 1048576) :
    Calls Tryd.prog 5 #[va, vb] w fun e w' => e = .returned (.bool true) ∧ Below w.heap.size w w' := by
  obtain ⟨pa, capa, rfl, hmaxa, hrowsa⟩ := hva
  obtain ⟨pb, capb, rfl, hmaxb, hrowsb⟩ := hvb
  have hbya : ∀ j : Nat, ∀ n, (A.take n).flatten.getD j 0 < 256 := by
    intro j n
    refine join_lt w A ?_ n j
    rcases hrowsa with rfl | ⟨b, off, rfl, hr⟩
    · intro i hi; simp at hi
    · intro i hi
      obtain ⟨vi, _, hs⟩ := hr i hi
      exact ⟨vi, hs⟩
  have hbyb : ∀ j : Nat, ∀ n, (B.take n).flatten.getD j 0 < 256 := by
    intro j n
    refine join_lt w B ?_ n j
    rcases hrowsb with rfl | ⟨b, off, rfl, hr⟩
    · intro i hi; simp at hi
    · intro i hi
      obtain ⟨vi, _, hs⟩ := hr i hi
      exact ⟨vi, hs⟩
  have h1lt := ht.lt
  go_enter Tryd.func5, Tryd.ntmps5
  go_wp2_with fail
  refine (shown_any _ ht hst).mono ?_
  rintro e w1 ⟨rfl, b1⟩
  have b1s := b1.size
  go_wp2_with fail
  refine (new_any w1 (hst.later b1)).mono ?_
  rintro e w2 ⟨rfl, st2, b2⟩
  obtain ⟨gs, hgs⟩ : ∃ gs, gs = w1.heap.size := ⟨_, rfl⟩
  rw [← hgs] at st2 ⊢
  have b02 : Below w.heap.size w w2 := b1.trans (b2.mono b1.size)
  have hgs2 := st2.lt
  have hwgs : w.heap.size ≤ gs := by omega
  have hg1 : 1 < gs := by omega
  clear hgs
  go_wp2_with fail
  refine (new_any w2 (hst.later b02)).mono ?_
  rintro e w3 ⟨rfl, st3, b3⟩
  obtain ⟨gt, hgt⟩ : ∃ gt, gt = w2.heap.size := ⟨_, rfl⟩
  rw [← hgt] at st3 ⊢
  have hst3 := st2.later b3 st2.lt
  have b03 : Below w.heap.size w w3 := b02.trans (b3.mono b02.size)
  have hgt3 := st3.lt
  have hsgt : gs < gt := by omega
  clear hgt hgs2 st2 b2 b02 b3 b1 b1s h1lt
  go_upto_region 8 with fail
  refine wp_region_lit ?_
  refine wpList_litb0 rfl rfl ?_
  intro w4 o4 s4 b4
  go_upto_region 9 with fail
  refine wp_region_lit ?_
  refine wpList_litb0 rfl rfl ?_
  intro w5 o5 s5 b5
  obtain ⟨base, hbs⟩ : ∃ base, base = w3.heap.size := ⟨_, rfl⟩
  have b45 : Below w3.heap.size w3 w5 := b4.trans (b5.mono b4.size)
  have ha0 : AIn w w5 gs gt base (.slice (some ⟨w3.heap.size, 0, none⟩) 0 0) (.slice (some ⟨w4.heap.size, 0, none⟩) 0 0) [] [] := by
    refine ⟨hst3.later b45 hst3.lt, st3.later b45 st3.lt, ?_, ?_, ?_, by simp [Value.ownBlock], by simp [Value.ownBlock], b03.trans (b45.mono b03.size), by rw [hbs]; exact b45.size⟩
    · rw [hbs]
      exact o4.later b5 (Nat.le_refl _)
    · exact o5.weaken (by rw [hbs]; exact b4.size)
    · simp [Value.ownBlock]
      omega
  have hgsb : gs < base := by omega
  have hgtb : gt < base := by omega
  have hwb : w.heap.size ≤ base := by have := b03.size; omega
  have HP : Hid (AIn w w5 gs gt base (.slice (some ⟨w3.heap.size, 0, none⟩) 0 0) (.slice (some ⟨w4.heap.size, 0, none⟩) 0 0) [] []) := ha0
  clear ha0 b45 hbs o5 s5 b5 o4 s4 b4 b03 hst3 st3 hgt3
  go_wp2
  go_loopw [8, 9, 10] (fun sx sy i W => ∃ n : Nat, n ≤ A.length + B.length ∧ (n ≤ A.length ∨ n ≤ B.length) ∧ i = .int .i64 n ∧ AIn w W gs gt base sx sy (A.take n).flatten (B.take n).flatten) (fun _ _ i _ => A.length + B.length - (intOf i).toNat)
  case atStart => exact ⟨0, Nat.zero_le _, Or.inl (Nat.zero_le _), rfl, HP.out⟩
  case round =>
    clear HP
    obtain ⟨n, hn, hnor, rfl, hp⟩ := hrel
    have HHP : Hid (AIn w wr gs gt base u8 u9 (A.take n).flatten (B.take n).flatten) := hp
    clear hp
    have hwga : w.heap.size ≤ gs := hwgs
    have hwgb : w.heap.size ≤ gt := by omega
    have hg1a : 1 < gs := hg1
    have hg1b : 1 < gt := by omega
    have hne : gs ≠ gt := by omega
    by_cases han : n < A.length
    · by_cases hbn : n < B.length
      · obtain ⟨ba, offa, rfl, hra⟩ : ∃ b off, pa = some ⟨b, off, none⟩ ∧ ∀ i, i < A.length → ∃ vi, w.cell? ⟨b, off + i, none⟩ = some vi ∧ SliceIn w vi (A.getD i []) := by
          rcases hrowsa with rfl | h
          · simp at han
          · exact h
        obtain ⟨vai, hcella, hvia⟩ := hra n han
        have hblta := block_lt_of_cell hcella
        have HCa : Hid (w.cell? ⟨ba, offa + n, none⟩ = some vai ∧ SliceIn w vai (A.getD n [])) := ⟨hcella, hvia⟩
        have HJa : Hid ((A.take (n + 1)).flatten = (A.take n).flatten ++ A.getD n []) := take_join A n han
        have hjla := join_le A (n + 1)
        rw [HJa.out, List.length_append] at hjla
        have hblta0 : ba < wr.heap.size := Nat.lt_of_lt_of_le hblta HHP.out.bl.size
        clear hra hcella hvia
        generalize hcsa : A.getD n [] = csa at *
        clear hcsa
        obtain ⟨bb, offb, rfl, hrb⟩ : ∃ b off, pb = some ⟨b, off, none⟩ ∧ ∀ i, i < B.length → ∃ vi, w.cell? ⟨b, off + i, none⟩ = some vi ∧ SliceIn w vi (B.getD i []) := by
          rcases hrowsb with rfl | h
          · simp at hbn
          · exact h
        obtain ⟨vbi, hcellb, hvib⟩ := hrb n hbn
        have hbltb := block_lt_of_cell hcellb
        have HCb : Hid (w.cell? ⟨bb, offb + n, none⟩ = some vbi ∧ SliceIn w vbi (B.getD n [])) := ⟨hcellb, hvib⟩
        have HJb : Hid ((B.take (n + 1)).flatten = (B.take n).flatten ++ B.getD n []) := take_join B n hbn
        have hjlb := join_le B (n + 1)
        rw [HJb.out, List.length_append] at hjlb
        have hbltb0 : bb < wr.heap.size := Nat.lt_of_lt_of_le hbltb HHP.out.bl.size
        clear hrb hcellb hvib
        generalize hcsb : B.getD n [] = csb at *
        clear hcsb
        clear hrowsa hrowsb hbya hbyb
        have HAa : Hid (AIn w wr gs gt base u8 u9 (A.take n).flatten _) := HHP.out
        have hca := cell_later HAa.out.bl HCa.out.1
        have hwa := write_any gs vai (A.take n).flatten (csa) wr HAa.out.s (HCa.out.2.off hwga HAa.out.bl) (ht.later HAa.out.bl) hg1a (by omega)
        have HWa : Hid (Calls Tryd.prog 11 #[.pointer (some ⟨gs, 0, none⟩), vai] wr fun e w' => e = .returned noResult ∧ StIn w' gs ((A.take n).flatten ++ csa) ∧ Only gs wr w') := hwa
        clear hwa
        go_wp2_with fail
        refine HWa.out.mono ?_
        rintro e w5 ⟨rfl, sta, oa⟩
        have HXa := HAa.out.wrote hgsb hwga (hne) oa sta
        have HYa : Hid (StIn w5 gs ((A.take n).flatten ++ csa) ∧ StIn w5 gt _ ∧ BOwn w5 base u8 (A.take n).flatten ∧ BOwn w5 base _ _ ∧ Below w.heap.size w w5 ∧ base ≤ w5.heap.size) := HXa
        have hda := cell_later HXa.2.2.2.2.1 HCa.out.1
        have hblta2 : ba < w5.heap.size := Nat.lt_of_lt_of_le hblta HXa.2.2.2.2.1.size
        clear HXa sta oa hca
        go_wp2_with (at_builtin; refine wpList_append_apart (.tmp 46) (.tmp 50) rfl rfl base u8 vai (A.take n).flatten (csa) rfl HYa.out.2.2.1 HAa.out.xs rfl (HCa.out.2.later HYa.out.2.2.2.2.1) (by omega) HYa.out.2.2.2.2.2 ?_)
        intro x6 w6 opa gpa bpa
        have hqa := AIn.next HYa.out HAa.out.ne HAa.out.xs HAa.out.ys hgsb hgtb hwb opa gpa bpa
        rw [← HJa.out] at hqa
        have HQ : Hid (AIn _ _ _ _ _ _ _ _ _) := hqa
        clear hqa opa gpa bpa hda
        have HAb : Hid (AIn w w6 gt gs base u9 x6 (B.take n).flatten _) := HQ.out.swap
        have hcb := cell_later HAb.out.bl HCb.out.1
        have hwb := write_any gt vbi (B.take n).flatten (csb) w6 HAb.out.s (HCb.out.2.off hwgb HAb.out.bl) (ht.later HAb.out.bl) hg1b (by omega)
        have HWb : Hid (Calls Tryd.prog 11 #[.pointer (some ⟨gt, 0, none⟩), vbi] w6 fun e w' => e = .returned noResult ∧ StIn w' gt ((B.take n).flatten ++ csb) ∧ Only gt w6 w') := hwb
        clear hwb
        go_wp2_with fail
        refine HWb.out.mono ?_
        rintro e w7 ⟨rfl, stb, ob⟩
        have HXb := HAb.out.wrote hgtb hwgb (hne.symm) ob stb
        have HYb : Hid (StIn w7 gt ((B.take n).flatten ++ csb) ∧ StIn w7 gs _ ∧ BOwn w7 base u9 (B.take n).flatten ∧ BOwn w7 base _ _ ∧ Below w.heap.size w w7 ∧ base ≤ w7.heap.size) := HXb
        have hdb := cell_later HXb.2.2.2.2.1 HCb.out.1
        have hbltb2 : bb < w7.heap.size := Nat.lt_of_lt_of_le hbltb HXb.2.2.2.2.1.size
        clear HXb stb ob hcb
        go_wp2_with (at_builtin; refine wpList_append_apart (.tmp 62) (.tmp 66) rfl rfl base u9 vbi (B.take n).flatten (csb) rfl HYb.out.2.2.1 HAb.out.xs rfl (HCb.out.2.later HYb.out.2.2.2.2.1) (by omega) HYb.out.2.2.2.2.2 ?_)
        intro y8 w8 opb gpb bpb
        have hqb := AIn.next HYb.out HAb.out.ne HAb.out.xs HAb.out.ys hgtb hgsb hwb opb gpb bpb
        rw [← HJb.out] at hqb
        have HQ2 : Hid (AIn _ _ _ _ _ _ _ _ _) := hqb
        clear hqb opb gpb bpb hdb
        go_wp2
        exact ⟨⟨n + 1, by omega, Or.inl (by omega), by go_num, HQ2.out.swap⟩, by simp [intOf]; omega⟩
      · obtain ⟨ba, offa, rfl, hra⟩ : ∃ b off, pa = some ⟨b, off, none⟩ ∧ ∀ i, i < A.length → ∃ vi, w.cell? ⟨b, off + i, none⟩ = some vi ∧ SliceIn w vi (A.getD i []) := by
          rcases hrowsa with rfl | h
          · simp at han
          · exact h
        obtain ⟨vai, hcella, hvia⟩ := hra n han
        have hblta := block_lt_of_cell hcella
        have HCa : Hid (w.cell? ⟨ba, offa + n, none⟩ = some vai ∧ SliceIn w vai (A.getD n [])) := ⟨hcella, hvia⟩
        have HJa : Hid ((A.take (n + 1)).flatten = (A.take n).flatten ++ A.getD n []) := take_join A n han
        have hjla := join_le A (n + 1)
        rw [HJa.out, List.length_append] at hjla
        have hblta0 : ba < wr.heap.size := Nat.lt_of_lt_of_le hblta HHP.out.bl.size
        clear hra hcella hvia
        generalize hcsa : A.getD n [] = csa at *
        clear hcsa
        have hdb : decide ((n : Int) < (B.length : Int)) = false := by simp; omega
        have HPB : Hid ((B.take (n + 1)).flatten = (B.take n).flatten) := take_past B n hbn
        clear hrowsa hrowsb hbya hbyb
        have HAa : Hid (AIn w wr gs gt base u8 u9 (A.take n).flatten _) := HHP.out
        have hca := cell_later HAa.out.bl HCa.out.1
        have hwa := write_any gs vai (A.take n).flatten (csa) wr HAa.out.s (HCa.out.2.off hwga HAa.out.bl) (ht.later HAa.out.bl) hg1a (by omega)
        have HWa : Hid (Calls Tryd.prog 11 #[.pointer (some ⟨gs, 0, none⟩), vai] wr fun e w' => e = .returned noResult ∧ StIn w' gs ((A.take n).flatten ++ csa) ∧ Only gs wr w') := hwa
        clear hwa
        go_wp2_with fail
        refine HWa.out.mono ?_
        rintro e w5 ⟨rfl, sta, oa⟩
        have HXa := HAa.out.wrote hgsb hwga (hne) oa sta
        have HYa : Hid (StIn w5 gs ((A.take n).flatten ++ csa) ∧ StIn w5 gt _ ∧ BOwn w5 base u8 (A.take n).flatten ∧ BOwn w5 base _ _ ∧ Below w.heap.size w w5 ∧ base ≤ w5.heap.size) := HXa
        have hda := cell_later HXa.2.2.2.2.1 HCa.out.1
        have hblta2 : ba < w5.heap.size := Nat.lt_of_lt_of_le hblta HXa.2.2.2.2.1.size
        clear HXa sta oa hca
        go_wp2_with (at_builtin; refine wpList_append_apart (.tmp 46) (.tmp 50) rfl rfl base u8 vai (A.take n).flatten (csa) rfl HYa.out.2.2.1 HAa.out.xs rfl (HCa.out.2.later HYa.out.2.2.2.2.1) (by omega) HYa.out.2.2.2.2.2 ?_)
        intro x6 w6 opa gpa bpa
        have hqa := AIn.next HYa.out HAa.out.ne HAa.out.xs HAa.out.ys hgsb hgtb hwb opa gpa bpa
        rw [← HJa.out] at hqa
        have HQ : Hid (AIn _ _ _ _ _ _ _ _ _) := hqa
        clear hqa opa gpa bpa hda
        go_wp2
        exact ⟨⟨n + 1, by omega, Or.inl (by omega), by go_num, by rw [HPB.out]; exact HQ.out⟩, by simp [intOf]; omega⟩
    · by_cases hbn : n < B.length
      · obtain ⟨bb, offb, rfl, hrb⟩ : ∃ b off, pb = some ⟨b, off, none⟩ ∧ ∀ i, i < B.length → ∃ vi, w.cell? ⟨b, off + i, none⟩ = some vi ∧ SliceIn w vi (B.getD i []) := by
          rcases hrowsb with rfl | h
          · simp at hbn
          · exact h
        obtain ⟨vbi, hcellb, hvib⟩ := hrb n hbn
        have hbltb := block_lt_of_cell hcellb
        have HCb : Hid (w.cell? ⟨bb, offb + n, none⟩ = some vbi ∧ SliceIn w vbi (B.getD n [])) := ⟨hcellb, hvib⟩
        have HJb : Hid ((B.take (n + 1)).flatten = (B.take n).flatten ++ B.getD n []) := take_join B n hbn
        have hjlb := join_le B (n + 1)
        rw [HJb.out, List.length_append] at hjlb
        have hbltb0 : bb < wr.heap.size := Nat.lt_of_lt_of_le hbltb HHP.out.bl.size
        clear hrb hcellb hvib
        generalize hcsb : B.getD n [] = csb at *
        clear hcsb
        have hda : decide ((n : Int) < (A.length : Int)) = false := by simp; omega
        have HPA : Hid ((A.take (n + 1)).flatten = (A.take n).flatten) := take_past A n han
        clear hrowsa hrowsb hbya hbyb
        have HAb : Hid (AIn w wr gt gs base u9 u8 (B.take n).flatten _) := HHP.out.swap
        have hcb := cell_later HAb.out.bl HCb.out.1
        have hwb := write_any gt vbi (B.take n).flatten (csb) wr HAb.out.s (HCb.out.2.off hwgb HAb.out.bl) (ht.later HAb.out.bl) hg1b (by omega)
        have HWb : Hid (Calls Tryd.prog 11 #[.pointer (some ⟨gt, 0, none⟩), vbi] wr fun e w' => e = .returned noResult ∧ StIn w' gt ((B.take n).flatten ++ csb) ∧ Only gt wr w') := hwb
        clear hwb
        go_wp2_with fail
        refine HWb.out.mono ?_
        rintro e w7 ⟨rfl, stb, ob⟩
        have HXb := HAb.out.wrote hgtb hwgb (hne.symm) ob stb
        have HYb : Hid (StIn w7 gt ((B.take n).flatten ++ csb) ∧ StIn w7 gs _ ∧ BOwn w7 base u9 (B.take n).flatten ∧ BOwn w7 base _ _ ∧ Below w.heap.size w w7 ∧ base ≤ w7.heap.size) := HXb
        have hdb := cell_later HXb.2.2.2.2.1 HCb.out.1
        have hbltb2 : bb < w7.heap.size := Nat.lt_of_lt_of_le hbltb HXb.2.2.2.2.1.size
        clear HXb stb ob hcb
        go_wp2_with (at_builtin; refine wpList_append_apart (.tmp 62) (.tmp 66) rfl rfl base u9 vbi (B.take n).flatten (csb) rfl HYb.out.2.2.1 HAb.out.xs rfl (HCb.out.2.later HYb.out.2.2.2.2.1) (by omega) HYb.out.2.2.2.2.2 ?_)
        intro y8 w8 opb gpb bpb
        have hqb := AIn.next HYb.out HAb.out.ne HAb.out.xs HAb.out.ys hgtb hgsb hwb opb gpb bpb
        rw [← HJb.out] at hqb
        have HQ2 : Hid (AIn _ _ _ _ _ _ _ _ _) := hqb
        clear hqb opb gpb bpb hdb
        go_wp2
        exact ⟨⟨n + 1, by omega, Or.inr (by omega), by go_num, by rw [HPA.out]; exact HQ2.out.swap⟩, by simp [intOf]; omega⟩
      · have heqa := eql25 (Sha.sha (A.take n).flatten) (sha_length _)
        have heqb := eql25 (Sha.sha (B.take n).flatten) (sha_length _)
        have hjla := join_le A n
        have hjlb := join_le B n
        have hda : decide ((n : Int) < (A.length : Int)) = false := by simp; omega
        have hdb : decide ((n : Int) < (B.length : Int)) = false := by simp; omega
        have HP : Hid (AIn w wr gs gt base u8 u9 (A.take n).flatten (B.take n).flatten ∧ SliceIn wr u8 (A.take n).flatten ∧ SliceIn wr u9 (B.take n).flatten) := ⟨HHP.out, HHP.out.slices (fun j => hbya j n) (fun j => hbyb j n)⟩
        clear hbya hbyb hrowsa hrowsb HHP
        generalize (A.take n).flatten = M at *
        generalize (B.take n).flatten = N at *
        go_wp2_with fail
        refine (stateSum_any gs M wr HP.out.1.s (ht.later HP.out.1.bl) hg1 (by omega)).mono ?_
        rintro e w10 ⟨rfl, b10⟩
        have b010 : Below w.heap.size w w10 := HP.out.1.bl.trans (b10.mono HP.out.1.bl.size)
        have H10 : Hid (SliceIn w10 u8 M ∧ SliceIn w10 u9 N ∧ StIn w10 gt N ∧ Below w.heap.size w w10) := ⟨HP.out.2.1.later b10, HP.out.2.2.later b10, HP.out.1.t.later b10 HP.out.1.t.lt, b010⟩
        clear b010 b10 HP
        go_wp2_with fail
        refine (sum_any u8 M w10 H10.out.1 (ht.later H10.out.2.2.2) (hst.later H10.out.2.2.2) (by omega)).mono ?_
        rintro e w11 ⟨rfl, b11⟩
        have H11 : Hid (SliceIn w11 u9 N ∧ StIn w11 gt N ∧ Below w.heap.size w w11) := ⟨H10.out.2.1.later b11, H10.out.2.2.1.later b11 H10.out.2.2.1.lt, H10.out.2.2.2.trans (b11.mono H10.out.2.2.2.size)⟩
        clear b11 H10
        go_wp2_with fail
        refine (stateSum_any gt N w11 H11.out.2.1 (ht.later H11.out.2.2) hg1b (by omega)).mono ?_
        rintro e w12 ⟨rfl, b12⟩
        have H12 : Hid (SliceIn w12 u9 N ∧ Below w.heap.size w w12) := ⟨H11.out.1.later b12, H11.out.2.2.trans (b12.mono H11.out.2.2.size)⟩
        clear b12 H11
        go_wp2_with fail
        refine (sum_any u9 N w12 H12.out.1 (ht.later H12.out.2) (hst.later H12.out.2) (by omega)).mono ?_
        rintro e w13 ⟨rfl, b13⟩
        have H13 : Hid (Below w.heap.size w w13) := H12.out.2.trans (b13.mono H12.out.2.size)
        clear b13 H12
        go_wp2_with fail
        go_ret
        exact ⟨rfl, H13.out⟩
end Go.Proofs.YtimcgkcdonbjpaaDoor

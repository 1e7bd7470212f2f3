/- The walk of Plant.allWaiting: all writes that wait, in their one order. -/
import Derived.Test.YtgkmegcejekbcaaSort
namespace Go.Proofs.Ytgkmegcejekbcaa
open Go.RowKit Go.Maps Go.Sort Go.Lib

/-- the writes of the first i devices -/
def Pl.upto (m : Pl) (i : Nat) : List Wr := (List.range i).flatMap m.wt
theorem Pl.upto_succ (m : Pl) (i : Nat) : m.upto (i + 1) = m.upto i ++ m.wt i := by simp [Pl.upto, List.range_succ]
theorem upto_perm (l : List Wr) : ∀ n, ((List.range n).flatMap fun i => l.filter fun x => x.dev == i).Perm (l.filter fun x => decide (x.dev < n))
  | 0 => by simp
  | n + 1 => by
    rw [List.range_succ, List.flatMap_append]
    simp only [List.flatMap_cons, List.flatMap_nil, List.append_nil]
    have h := List.filter_append_perm (fun x : Wr => decide (x.dev < n)) (l.filter fun x => decide (x.dev < n + 1))
    rw [List.filter_filter, List.filter_filter] at h
    have e1 : (l.filter fun x => decide (x.dev < n) && decide (x.dev < n + 1)) = l.filter fun x => decide (x.dev < n) := by
      apply List.filter_congr
      intro x _
      by_cases hx : x.dev < n
      · simp [hx, show x.dev < n + 1 by omega]
      · simp [hx]
    have e2 : (l.filter fun x => !decide (x.dev < n) && decide (x.dev < n + 1)) = l.filter fun x => x.dev == n := by
      apply List.filter_congr
      intro x _
      by_cases hx : x.dev = n
      · simp [hx]
      · by_cases h2 : x.dev < n
        · simp [hx, h2]
        · simp [hx, h2, show ¬ x.dev < n + 1 by omega]
    rw [e1, e2] at h
    exact (List.Perm.append_right _ (upto_perm l n)).trans h
theorem Pl.upto_all {m : Pl} (h : m.WF) : m.wts.Perm (m.upto m.n) := by
  have := upto_perm m.wts m.n
  rw [List.filter_eq_self.2 (fun x hx => by simp only [decide_eq_true_eq]; exact (h.wdev x hx).1)] at this
  exact this.symm
theorem Pl.upto_mem {m : Pl} {i : Nat} {x : Wr} (h : x ∈ m.upto i) : x ∈ m.wts := by
  unfold Pl.upto at h
  obtain ⟨j, _, hx⟩ := List.mem_flatMap.1 h
  exact (Pl.wt_mem hx).1
theorem Pl.upto_len {m : Pl} (h : m.WF) (i j : Nat) (hi : i < m.n) : (m.upto i ++ (m.wt i).take j).length ≤ m.wts.length := by
  have h1 : (m.upto (i + 1)).length ≤ m.wts.length := by
    have : ∀ k, k ≤ m.n → (m.upto k).length ≤ (m.upto m.n).length := by
      intro k hk
      obtain ⟨d, hd⟩ := Nat.exists_eq_add_of_le hk
      rw [hd]
      clear hd hk
      induction d with
      | zero => exact Nat.le_refl _
      | succ d ih =>
        have e : m.upto (k + (d + 1)) = m.upto (k + d) ++ m.wt (k + d) := m.upto_succ (k + d)
        rw [e, List.length_append]
        omega
    rw [(Pl.upto_all h).length_eq]
    exact this _ (by omega)
  rw [m.upto_succ, List.length_append] at h1
  simp
  omega

section
variable {w w' : World} {c : Nat → Colour} {t g db cap : Nat} {gs : Nat → Nat} {m : Pl}
theorem PlantAt.below (h : PlantAt w c t g db cap gs m) (hb : Below w.heap.size w w') : PlantAt w' c t g db cap gs m := by
  refine ⟨h.row.later hb h.row.lt, h.cg, h.cd, h.ne, Nat.lt_of_lt_of_le h.lt hb.size, h.cap, fun i hi => ?_, fun i hi => (h.dev i hi).kept fun b hlt hk => ⟨hb.block b hlt, hk⟩⟩
  rw [← h.cell i hi]
  exact World.cell?_of_block (hb.block db h.lt)
end
section
variable {w : World} {ops : Array Oper} {rest : List Oper} {o : Oper} {a : Act} {Q : Exit → Act → World → Prop}
theorem wpList_build93 (x y : Operand) (hgd : o.guard = none) (ho : o.op = .build 93 #[(0, x), (1, y)]) (d : Int) (cs : List Value) (hc : cs.length = 66) (hx : a.eval x = .int .i64 d) (hy : a.eval y = .agg cs.toArray)
    (h : wpList Try.prog ops Q rest (a.put o.dst (.agg (Value.int .i64 d :: cs).toArray)) w) : wpList Try.prog ops Q (o :: rest) a w :=
  wpList_value hgd _ w (by simp [execOp, ho, hx, hy, run_build93 w d cs hc]) h
end
theorem ownsRow_below {w w' : World} {B e n k : Nat} {v : Value} {xs : List Value} (h : w.ownsRow B e n v k xs) (hb : RowKit.Below w.heap.size w w') : w'.ownsRow B e n v k xs := by
  obtain ⟨hl, h⟩ := h
  refine ⟨hl, ?_⟩
  rcases h with ⟨rfl, h⟩ | ⟨g, cap, cur, rfl, h0, hg, h⟩
  · exact Or.inl ⟨rfl, h⟩
  · exact Or.inr ⟨g, cap, cur, rfl, h0, (hb.block g (Array.getElem?_eq_some_iff.1 hg).1).trans hg, h⟩
theorem en61 : EntersF 61 := Go.Proofs.enters_of Try.func61 (by kernel_rfl) rfl

/-- all writes, as a slice of the call's own -/
def AllIn (W : World) (B : Nat) (v : Value) (l : List Wr) : Prop :=
  ∃ p cap, v = .slice p l.length cap ∧ (l = [] ∨ ∃ b, p = some ⟨b, 0, none⟩ ∧ B ≤ b ∧ ∀ j u, (dcells l)[j]? = some u → W.cell? ⟨b, j, none⟩ = some u)

set_option maxHeartbeats 600000 in
set_option maxRecDepth 100000 in
theorem all_any {w : World} {c : Nat → Colour} {t g db cap : Nat} {gs : Nat → Nat} {m : Pl} (h : PlantAt w c t g db cap gs m) (hwf : m.WF) (hst : m.steps < 1099511627776) :
    Calls Try.prog 52 #[ptr g] w fun e w' => ∃ v, e = .returned v ∧ AllIn w' w.heap.size v m.wts ∧ Below w.heap.size w w' := by
  have c0 := h.c0
  have HP : Hid (PlantAt w c t g db cap gs m) := h
  obtain ⟨B, hB⟩ : ∃ B, B = w.heap.size := ⟨_, rfl⟩
  have HB : Hid (B = w.heap.size) := hB
  obtain ⟨n, hn⟩ : ∃ n, n = m.n := ⟨_, rfl⟩
  rw [← hn] at c0
  have HN : Hid (n = m.n) := hn
  have hn12 : n ≤ 12 := by rw [hn]; exact hwf.few
  rw [← hB]
  clear h hB hn
  go_enter Try.func52, Try.ntmps52
  go_wp2
  go_loopw [13, 3] (fun ix v W => ∃ i : Nat, i ≤ n ∧ ix = .int .i64 i ∧ W.ownsRow B 93 67 v (m.upto i).length (dcells (m.upto i)) ∧ Below B w W) (fun ix _ _ => n - (intOf ix).toNat)
  case atStart => exact ⟨0, Nat.zero_le _, rfl, ⟨rfl, Or.inl ⟨rfl, rfl⟩⟩, Below.refl _ _⟩
  case round =>
    obtain ⟨i, hi, rfl, ho, hbl⟩ := hrel
    clear c0
    by_cases hlt : i < n
    · have hi' : i < m.n := by rw [← HN.out]; exact hlt
      have HO : Hid (wr.ownsRow B 93 67 u3 (m.upto i).length (dcells (m.upto i))) := ho
      have HBL : Hid (Below B w wr) := hbl
      have hP : PlantAt wr c t g db cap gs m := HP.out.below (by rw [← HB.out]; exact hbl)
      have ci := hP.cell i hi'
      obtain ⟨bm, bl, v, hdev⟩ := HP.out.dev i hi'
      obtain ⟨pv, cv, hv⟩ := WtIn.shape hdev.2.2.2.2.2.2.1
      subst hv
      obtain ⟨L, hL⟩ : ∃ L, L = (m.wt i).length := ⟨_, rfl⟩
      rw [← hL] at hdev
      have HL : Hid (L = (m.wt i).length) := hL
      have c3 := (hdev.1.later (by rw [← HB.out]; exact hbl) hdev.1.lt).at 3 _ rfl
      have HD : Hid (WtIn w c (t, i + 1) (.slice pv L cv) (m.wt i)) := hdev.2.2.2.2.2.2.1
      have hL40 : L < 1099511627776 := by
        have := m.wt_len i
        have := hwf.count
        rw [hL]
        omega
      clear hP hdev hL ho hbl
      go_wp2
      go_loopw [23, 3] (fun jx v W => ∃ j : Nat, j ≤ L ∧ jx = .int .i64 j ∧ W.ownsRow B 93 67 v (m.upto i ++ (m.wt i).take j).length (dcells (m.upto i ++ (m.wt i).take j)) ∧ Below B w W) (fun jx _ _ => L - (intOf jx).toNat)
      case atStart =>
        refine ⟨0, Nat.zero_le _, rfl, ?_, HBL.out⟩
        rw [List.take_zero, List.append_nil]
        exact HO.out
      case round =>
        obtain ⟨j, hj, rfl, ho, hbl⟩ := hrel
        clear HO
        by_cases hjl : j < L
        · obtain ⟨x, hx⟩ : ∃ x, (m.wt i)[j]? = some x := ⟨_, List.getElem?_eq_getElem (by rw [← HL.out]; exact hjl)⟩
          have hmem := Pl.wt_mem (List.mem_of_getElem? hx)
          have hxs : Sec x.b := hwf.wsec x hmem.1
          have hxl : x.b.length = 64 := hxs.1
          obtain ⟨l, hl⟩ : ∃ l, l = m.upto i ++ (m.wt i).take j := ⟨_, rfl⟩
          have HT : Hid (m.upto i ++ (m.wt i).take (j + 1) = l ++ [x]) := by
            rw [take_next _ j x hx, ← List.append_assoc, ← hl]
            exact rfl
          rw [← hl] at ho
          have hll : l.length < 1099511627776 := by
            have := Pl.upto_len hwf i j hi'
            have := hwf.count
            rw [hl]
            omega
          obtain ⟨b, cv', hv, _, hcl⟩ := HD.out.cells (fun y hy => (hwf.wsec y (Pl.wt_mem hy).1).1) (by intro e; rw [e] at hx; simp at hx)
          injection hv with hv1 hv2 hv3
          subst hv1
          have hcx : ∀ k u, (wrCells x)[k]? = some u → wr.cell? ⟨b, 0 + j * 66 + k, none⟩ = some u := fun k u hu => by
            rw [Nat.zero_add]
            exact cell_later (by rw [← HB.out]; exact hbl) (hcl j x hx k u hu)
          have HO : Hid (wr.ownsRow B 93 67 u3 l.length (dcells l)) := ho
          have HBL2 : Hid (RowKit.Below B w wr) := hbl
          have hxd : x.dev = i := hmem.2
          have HXD : Hid (x.dev = i) := hxd
          clear ho hbl hcl hx hv2 hv3 hl hmem hxd c3 ci
          go_upto_region 7 with fail
          refine wp_region_lit ?_
          refine wpList_indexAddr und73 size87 (.tmp 21) (.tmp 23) rfl rfl b 0 L cv j rfl rfl hjl ?_
          simp only [Act.put, List.setIfInBounds_toArray, List.set_cons_succ, List.set_cons_zero]
          refine wpList_load agg87 (.tmp 25) rfl rfl b (0 + j * 66) rfl (wrCells x) (wrCells_length x hxl) hcx ?_
          simp only [Act.put, List.setIfInBounds_toArray, List.set_cons_succ, List.set_cons_zero]
          refine wpList_alloc_store agg87 _ zero87 rfl rfl rfl rfl rfl (.tmp 26) rfl (wrCells x) (wrCells_length x hxl) rfl (wrCells_one x) (fun _ => rfl) (fun _ => rfl) ?_
          intro w2 r2 s2 b2
          refine wpList_nil ?_
          simp only [Act.put, List.setIfInBounds_toArray, List.set_cons_succ, List.set_cons_zero]
          obtain ⟨q, hq⟩ : ∃ q, q = wr.heap.size := ⟨_, rfl⟩
          rw [← hq] at r2 ⊢
          have HBw : Hid (B ≤ wr.heap.size) := by
            have := HBL2.out.size
            rw [HB.out]
            exact this
          have HO2 : Hid (w2.ownsRow B 93 67 u3 l.length (dcells l)) := ownsRow_below HO.out b2
          have HB2 : Hid (RowKit.Below B w w2 ∧ B ≤ w2.heap.size) := ⟨HBL2.out.trans (b2.mono HBw.out), by have := HBw.out; omega⟩
          clear b2 s2 hcx HO HBL2
          go_upto_region 8 with fail
          refine wp_region_lit ?_
          refine wpList_move (.tmp 3) rfl rfl u3 rfl ?_
          refine wpList_move (.tmp 4) rfl rfl (.int .i64 (i : Int)) rfl ?_
          simp only [Act.put, List.setIfInBounds_toArray, List.set_cons_succ, List.set_cons_zero]
          refine wpList_load agg87 (.tmp 7) rfl rfl q 0 rfl (wrCells x) (wrCells_length x hxl) (fun k u hu => by rw [Nat.zero_add]; exact r2.at k u hu) ?_
          simp only [Act.put, List.setIfInBounds_toArray, List.set_cons_succ, List.set_cons_zero]
          refine wpList_build93 (.tmp 28) (.tmp 29) rfl rfl (i : Int) (wrCells x) (wrCells_length x hxl) rfl rfl ?_
          simp only [Act.put, List.setIfInBounds_toArray, List.set_cons_succ, List.set_cons_zero]
          have hdc : Value.int .i64 (i : Int) :: wrCells x = dCells x := by unfold dCells; rw [HXD.out]
          rw [hdc]
          refine wpList_one und90 info93 (by decide) (by decide) (.tmp 30) rfl rfl (dCells x) (dCells_length x hxl) rfl ?_
          intro w4 r4 s4 b4
          simp only [Act.put, List.setIfInBounds_toArray, List.set_cons_succ, List.set_cons_zero]
          obtain ⟨i0, hi0, hz0, hz1, hz2⟩ := info_parts info93
          refine wpList_append_own_at _ rfl (.tmp 27) (.tmp 31) 90 rfl B 93 i0 _ 67 88 und90 hi0 hz0 hz1 hz2 rfl (by decide) u3 l.length (dcells l) rfl (ownsRow_below HO2.out b4) ⟨w2.heap.size, 0, none⟩ 1 1 (dCells x) rfl (by rw [dCells_length x hxl]) ?cells (dCells_one x) (by unfold maxLen; omega) (by omega) (by have := HB2.out.2; omega) ?_
          case cells =>
            intro k u hu
            rw [add_none, Nat.zero_add]
            exact r4.at k u hu
          intro v5 w5 o5 g5 n5 l5
          refine wpList_assign (.tmp 32) rfl rfl v5 rfl ?_
          refine wpList_nil ?_
          simp only [Act.put, List.setIfInBounds_toArray, List.set_cons_succ, List.set_cons_zero]
          have HO5 : Hid (w5.ownsRow B 93 67 v5 (m.upto i ++ (m.wt i).take (j + 1)).length (dcells (m.upto i ++ (m.wt i).take (j + 1)))) := by
            rw [HT.out, dcells_snoc, List.length_append]
            exact o5
          have HB5 : Hid (RowKit.Below B w w5) := by
            refine (HB2.out.1.trans (b4.mono HB2.out.2)).trans ((RowKit.Below.refl B w4).grown g5 (by have := HB2.out.2; omega) fun k hk => ?_)
            exact (HO2.out.lt k hk).1
          clear o5 g5 n5 l5 b4 s4 r4 r2
          go_wp2
          exact ⟨⟨j + 1, by omega, by go_num, HO5.out, HB5.out⟩, by simp [intOf]; omega⟩
        · have e : j = L := by omega
          subst e
          have HO : Hid (wr.ownsRow B 93 67 u3 (m.upto (i + 1)).length (dcells (m.upto (i + 1)))) := by
            rw [m.upto_succ]
            have := ho
            rw [HL.out, List.take_length] at this
            exact this
          have HBL2 : Hid (RowKit.Below B w wr) := hbl
          clear ho hbl c3 ci
          go_wp2
          exact ⟨⟨i + 1, by omega, by go_num, HO.out, HBL2.out⟩, by simp [intOf]; omega⟩
    · have e : i = n := by omega
      subst e
      have hperm := Pl.upto_all hwf
      rw [← HN.out] at hperm
      obtain ⟨l, hl⟩ : ∃ l, l = m.upto i := ⟨_, rfl⟩
      rw [← hl] at ho hperm
      have hlw : l.length < 1099511627776 := by
        have := hwf.count
        rw [← hperm.length_eq]
        omega
      have hok : ∀ x ∈ l, WOk x := fun x hx => by
        have hm : x ∈ m.wts := by rw [hl] at hx; exact Pl.upto_mem hx
        have := (hwf.wdev x hm).2.2
        exact ⟨by omega, (hwf.wsec x hm).1⟩
      have HLE : Hid (l.length = m.wts.length) := hperm.length_eq.symm
      have HBw : Hid (B ≤ wr.heap.size) := by
        have := hbl.size
        rw [HB.out]
        exact this
      by_cases hnil : l = []
      · have hw0 : m.wts = [] := by
          have := HLE.out
          rw [hnil] at this
          exact List.length_eq_zero_iff.1 this.symm
        have hv : ∃ p cp, u3 = .slice p 0 cp := by
          obtain ⟨_, h⟩ := ho
          rcases h with ⟨rfl, _⟩ | ⟨g', cp, cur, rfl, _⟩
          · exact ⟨none, 0, rfl⟩
          · rw [hnil]
            exact ⟨_, cp, rfl⟩
        obtain ⟨p, cp, rfl⟩ := hv
        have HBL : Hid (RowKit.Below B w wr) := hbl
        have HS : Hid (Calls Try.prog 61 #[.slice p 0 cp, .func (.func 62) #[] #[]] wr fun e w' => e = .returned (.tuple #[]) ∧ w' = wr) := AnyF.slices_SortFunc_none Try.laySort p cp _ wr
        have HW0 : Hid (m.wts = []) := hw0
        clear ho hbl hw0 hperm hok hl hnil
        go_wp2_with (go_at_call 61; refine HS.out.mono ?_; rintro e w4 ⟨rfl, hw4⟩)
        subst hw4
        go_ret
        refine ⟨_, rfl, ⟨p, cp, ?_, Or.inl HW0.out⟩, HBL.out⟩
        rw [HW0.out]
        rfl
      · obtain ⟨b, cp, hv, hBb, hcell⟩ : ∃ b cp, u3 = .slice (some ⟨b, 0, none⟩) l.length cp ∧ B ≤ b ∧ ∀ j u, (dcells l)[j]? = some u → wr.cell? ⟨b, 0 + j, none⟩ = some u ∧ wr.frozen? ⟨b, 0 + j, none⟩ = false := by
          obtain ⟨_, h⟩ := ho
          rcases h with ⟨_, h0⟩ | ⟨g', cp, cur, rfl, hBg, hg, _, _, _, hcur⟩
          · exact absurd (List.length_eq_zero_iff.1 h0) hnil
          · refine ⟨g', cp, rfl, hBg, fun j u hu => ?_⟩
            rw [← hcur, List.getElem?_take] at hu
            split at hu
            · refine ⟨?_, by simp [World.frozen?, hg]⟩
              simp [World.cell?, hg]
              simpa using hu
            · cases hu
        subst hv
        have hblt : b < wr.heap.size := by
          cases l with
          | nil => exact absurd rfl hnil
          | cons x l => exact block_lt_of_cell (hcell 0 (.int .i64 (x.dev : Nat)) rfl).1
        have HBL : Hid (RowKit.Below B w wr) := hbl
        have HS : Hid (Calls Try.prog 61 #[.slice (some ⟨b, 0, none⟩) l.length cp, .func (.func 62) #[] #[]] wr fun e w' => e = .returned noResult ∧ (∀ j u, (dcells m.wts)[j]? = some u → w'.cell? ⟨b, j, none⟩ = some u) ∧ Ch (· = b) wr w') := sort_any l m.wts hok hperm hwf.order (by omega) wr b cp hblt hcell
        clear ho hbl hperm hok hl hnil hcell
        obtain ⟨L, hL⟩ : ∃ L, L = l.length := ⟨_, rfl⟩
        rw [← hL] at HS HLE ⊢
        clear hL
        go_wp2_with (go_at_call 61; refine HS.out.mono ?_; rintro e w4 ⟨rfl, hc4, ch4⟩)
        go_ret
        refine ⟨.slice (some ⟨b, 0, none⟩) L cp, rfl, ⟨some ⟨b, 0, none⟩, cp, by rw [HLE.out], Or.inr ⟨b, rfl, hBb, hc4⟩⟩, HBL.out.trans (ch4.below HBw.out fun k hk e => ?_)⟩
        omega
end Go.Proofs.Ytgkmegcejekbcaa

/- The walk of the law PlantTapes. -/
import Derived.Test.YteacjeihliajpaaTapeC
namespace Go.Proofs.Yteacjeihliajpaa
open Go.RowKit Go.Maps

section
variable {w : World} {ops : Array Oper} {rest : List Oper} {o : Oper} {a : Act} {Q : Exit → Act → World → Prop}
/-- the same, where its guard lets it run -/
theorem wpList_appZeros (hw : Region.wanted o (yielded ops a.tmps) = true) (sv x : Operand) (ho : o.op = .call { callee := .builtin .append, args := #[sv, x], argTypes := #[40, 3] }) (q : Nat) (s : List Nat) (hs : s.length = 64) (hr : Row w q 5 (bcells s)) (hsv : a.eval sv = .slice (some ⟨q, 0, none⟩) 32 64) (hx : a.eval x = .int .i64 32)
    (h : ∀ w', Row w' q 5 (bcells (torn s)) → w'.heap.size = w.heap.size → Ch (· = q) w w' → wpList Try.prog ops Q rest (a.put o.dst (.slice (some ⟨q, 0, none⟩) 64 64)) w') : wpList Try.prog ops Q (o :: rest) a w :=
  BigFrame.wpList_want hw fun K hK => by
    have hrun : (execOp a.eval o).run Try.prog w = .ok (.value (.slice (some ⟨q, 0, none⟩) 64 64)) (w.setRow q (bcells (torn s)).toArray) := by
      have := run_appZeros w q s hs hr o.type
      simp only [execOp, ho, resolve, invoke, builtin, Sem.run_bind, Sem.run_pure, Result.andThen_ok, List.map_toArray, List.map_cons, List.map_nil, hsv, hx, this]
    unfold Oper.wp
    rw [hrun]
    exact hK _ _ (h _ (hr.setRow _) (by simp [World.setRow]) ((Ch.refl (· = q) w).setRow (g := q) (Or.inl rfl) _))
end
theorem take_getD (bs : List Nat) (i : Nat) (h : i < bs.length) : bs.take (i + 1) = bs.take i ++ [bs.getD i 0] := by
  rw [List.take_succ_eq_append_getElem h]
  congr 1
  simp [h]
theorem zeros_st {w W W' : World} {B g q : Nat} {c : Nat → Colour} {m : Pl} (h : St w B W c g m) (hc : Ch (· = q) W W') (hq : (c q).1 ≠ 0) (hs : W'.heap.size = W.heap.size) (hqB : B ≤ q) : St w B W' c g m := by
  obtain ⟨⟨hP, hwf, hf⟩, h2, h3, h4⟩ := h
  refine ⟨⟨hP.ch hc (fun b _ e => by rw [e]; exact hq) (fun _ _ => rfl), hwf, fun b hb => hf b (by omega)⟩, h2, h3.trans (hc.below h4 fun b hb e => by omega), by omega⟩
/-- the loop's state: so many blocks were appended -/
def TapeTo (w : World) (B g : Nat) (W : World) (bs : List Nat) (F i : Nat) : Prop :=
  ∃ c m A Bl, St w B W c g m ∧ TapeIs m A Bl ∧ A ++ Bl = bs.take i ∧ A = (if F < i then bs.take F else []) ∧ m.steps ≤ 2 * i
theorem SliceIn.byte {w W : World} {v : Value} {cs : List Nat} (h : SliceIn w v cs) (hb : Below w.heap.size w W) (i : Nat) (hi : i < cs.length) : ∃ b off cap, v = .slice (some ⟨b, off, none⟩) cs.length cap ∧ W.cell? ⟨b, off + i, none⟩ = some (.int .u8 (cs.getD i 0 : Nat)) := by
  obtain ⟨p, cap, rfl, _, h⟩ := h
  rcases h with rfl | ⟨b, off, rfl, h1, _⟩
  · simp at hi
  · exact ⟨b, off, cap, rfl, cell_later hb (h1 i hi)⟩

set_option maxHeartbeats 1000000 in
set_option maxRecDepth 100000 in
theorem plantTapes_any (w : World) (v0 v2 : Value) (bs : List Nat) (fl : Int) (ks : List Int) (hs0 : SliceIn w v0 bs) (hk : IntsIn w v2 ks) (hf0 : -9223372036854775808 ≤ fl) (hf1 : fl ≤ 9223372036854775807) (hl62 : bs.length < 4611686018427387904) :
    Calls Try.prog 7 #[v0, .int .i64 fl, v2] w fun e w' => e = .returned (.bool true) ∧ Below w.heap.size w w' := by
  obtain ⟨B, hB⟩ : ∃ B, B = w.heap.size := ⟨_, rfl⟩
  rw [← hB]
  have HB : Hid (B = w.heap.size) := hB
  obtain ⟨L, hL⟩ : ∃ L, L = bs.length := ⟨_, rfl⟩
  have HL : Hid (L = bs.length) := hL
  obtain ⟨pv, cv, rfl, _⟩ := hs0.shape
  have HS : Hid (SliceIn w (.slice pv L cv) bs) := by rw [hL]; exact hs0
  have HK : Hid (IntsIn w v2 ks) := hk
  have HBS : Hid (∀ x ∈ bs, x < 256) := hs0.lt256
  have hL62 : L < 4611686018427387904 := by omega
  obtain ⟨n, hn⟩ : ∃ n, n = min L 40 := ⟨_, rfl⟩
  have hnL : n ≤ L := by omega
  have hn40 : n ≤ 40 := by omega
  have hmin3 : min (L : Int) 40 = (n : Int) := by rw [hn]; omega
  have hnLL : n ≤ bs.length := by omega
  clear hk hl62 hn
  by_cases hneg : fl < 0
  · obtain ⟨z, hz⟩ : ∃ z : Nat, fl = -(z : Int) - 1 := ⟨(-(fl + 1)).toNat, by omega⟩
    subst hz
    obtain ⟨F, hF⟩ : ∃ F, F = z % (n + 1) := ⟨_, rfl⟩
    have hFn : F ≤ n := by have := Nat.mod_lt z (show 0 < n + 1 by omega); omega
    have hmod : (z : Int) % ((n : Int) + 1) = (F : Int) := by rw [hF]; simp
    have tneg : decide (-(z : Int) - 1 < 0) = true := by simp; omega
    clear hF
    rw [← hL]
    clear hs0 hL hB
    go_enter Try.func7, Try.ntmps7
    go_upto_region 2 with (go_at_call 8; refine (shown_any w).mono ?_; rintro e w1 ⟨rfl, b1⟩)
    refine wp_region_lit ?_
    refine wpList_oneInt _ rfl rfl 1 rfl ?_
    intro w2 r2 s2 b2
    simp only [Act.put, List.setIfInBounds_toArray, List.set_cons_succ, List.set_cons_zero]
    refine wpList_oneInt _ rfl rfl 40 rfl ?_
    intro w3 r3 s3 b3
    simp only [Act.put, List.setIfInBounds_toArray, List.set_cons_succ, List.set_cons_zero]
    refine wpList_build24 (.tmp 24) (.tmp 25) rfl rfl (.slice (some ⟨w1.heap.size, 0, none⟩) 1 1) (.slice (some ⟨w2.heap.size, 0, none⟩) 1 1) rfl rfl rfl rfl ?_
    simp only [Act.put, List.setIfInBounds_toArray, List.set_cons_succ, List.set_cons_zero]
    have i1 : IntsIn w3 (.slice (some ⟨w1.heap.size, 0, none⟩) 1 1) [1] := intsIn_one w3 _ 3 1 (r2.later b3 (by omega))
    have i2 : IntsIn w3 (.slice (some ⟨w2.heap.size, 0, none⟩) 1 1) [40] := intsIn_one w3 _ 3 40 r3
    refine wpList_callF en9 [.tmp 26] _ rfl rfl [.agg #[.slice (some ⟨w1.heap.size, 0, none⟩) 1 1, .slice (some ⟨w2.heap.size, 0, none⟩) 1 1]] rfl ?_
    refine (Live.new w3 (fun _ => (1, 0)) 0 _ _ [1] [40] i1 i2 (by decide)).mono ?_
    rintro e w4 ⟨g, c4, rfl, hg, hc4, _, hl4, b4⟩
    refine ⟨_, rfl, ?_⟩
    simp only [Act.put, List.setIfInBounds_toArray, List.set_cons_succ, List.set_cons_zero]
    have HT0 : Hid (TapeTo w B g w4 bs F 0) := by
      have h13 : Below B w w3 := by
        rw [HB.out]
        have := b1.size
        exact b1.trans ((b2.mono (by omega)).trans (b3.mono (by omega)))
      have hs3 : B ≤ w3.heap.size := by rw [HB.out]; have := b1.size; omega
      refine ⟨c4, _, [], [], ⟨hl4, fun b hb => ?_, h13.trans (b4.mono hs3), Nat.le_trans hs3 b4.size⟩, tape_new, by simp, by simp, Nat.zero_le _⟩
      rw [hc4 b (by omega)]
      simp
    clear r2 s2 b2 r3 s3 b3 i1 i2 hl4 hc4 b4 hg b1
    go_upto_region 6 with fail
    go_upto_region 9 with fail
    rw [hmod]
    clear hmod hmin3 tneg
    go_wp2
    go_loopw [11] (fun ix W => ∃ i : Nat, i ≤ n ∧ ix = .int .i64 i ∧ TapeTo w B g W bs F i) (fun ix _ => n - (intOf ix).toNat)
    case atStart => exact ⟨0, Nat.zero_le _, rfl, HT0.out⟩
    case round =>
      obtain ⟨i, hi, rfl, htt⟩ := hrel
      clear HT0
      by_cases hlt : i < n
      · obtain ⟨c, m, A, Bl, hst, hti, hAB, hA, hsteps⟩ := htt
        have hiL : i < bs.length := by omega
        obtain ⟨bb, off, cv', hv, hcell⟩ := HS.out.byte (W := wr) (by rw [← HB.out]; exact hst.2.2.1) i hiL
        injection hv with hv1 hv2 hv3
        subst hv1
        obtain ⟨x, hx⟩ : ∃ x, x = bs.getD i 0 := ⟨_, rfl⟩
        rw [← hx] at hcell
        have hx256 : x < 256 := by
          rw [hx]
          simpa [hiL] using HBS.out _ (List.getElem_mem hiL)
        have HX : Hid (x = bs.getD i 0) := hx
        have HST : Hid (St w B wr c g m ∧ TapeIs m A Bl ∧ A ++ Bl = bs.take i ∧ A = (if F < i then bs.take F else []) ∧ m.steps ≤ 2 * i) := ⟨hst, hti, hAB, hA, hsteps⟩
        have HFU : Hid (∀ W, Calls Try.prog 32 #[.int .u8 (x : Int)] W fun e w' => e = .returned (.slice (some ⟨W.heap.size, 0, none⟩) 64 64) ∧ Row w' W.heap.size 5 (bcells (ones x)) ∧ Below W.heap.size W w') := fun W => full_any W x
        have hlen : A.length + Bl.length = i := by
          have := congrArg List.length hAB
          simp at this
          omega
        have hl1 : (A ++ Bl).length + ([] : List Nat).length = i := by simp; omega
        clear hst hti hAB hA hx hv2 hv3
        by_cases hiF : i = F
        · subst hiF
          have HA0 : Hid (A = []) := by
            have := HST.out.2.2.2.1
            rw [if_neg (by omega)] at this
            exact this
          go_upto_region 14 with (go_at_call 21; refine (tape_flush HST.out.1 HST.out.2.1 (by omega)).mono ?_; rintro e w5 ⟨rfl, c5, m5, hs5, ht5, hm5⟩)
          have HST5 : Hid (St w B w5 c5 g m5 ∧ TapeIs m5 (A ++ Bl) [] ∧ A ++ Bl = bs.take i ∧ m5.steps = m.steps + 1) := ⟨hs5, ht5, HST.out.2.2.1, hm5⟩
          have hcell5 : w5.cell? ⟨bb, off + i, none⟩ = some (.int .u8 (x : Nat)) := by
            obtain ⟨b', off', cv'', hv', hc'⟩ := HS.out.byte (W := w5) (by rw [← HB.out]; exact hs5.2.2.1) i hiL
            injection hv' with hv1' hv2' hv3'
            injection hv1' with hv4'
            injection hv4' with h5 h6
            subst h5 h6
            rw [HX.out]
            exact hc'
          clear hs5 ht5 hm5 hcell
          go_upto_region 15 with (first | (go_at_call 32; refine (HFU.out w5).mono ?_; rintro e w6 ⟨rfl, r6, b6⟩; have HO6 : Hid (Out w6 c5 w5.heap.size (ones x) ∧ St w B w6 c5 g m5) := ⟨HST5.out.1.out (Nat.le_refl _) r6, HST5.out.1.below b6⟩; clear r6 b6) | (go_at_call 18; refine (tape_append HO6.out.2 HST5.out.2.1 (by have := HST5.out.2.2.2; omega) w5.heap.size x hx256 HO6.out.1 (by omega) i hl1.symm).mono ?_; rintro e w7 ⟨rfl, c7, m7, hs7, ht7, hm7⟩))
          have HT7 : Hid (TapeTo w B g w7 bs i (i + 1)) := by
            refine ⟨c7, m7, _, _, hs7, ht7, ?_, ?_, by have := HST5.out.2.2.2; omega⟩
            · rw [HST5.out.2.2.1, HX.out, take_getD bs i hiL]
              rfl
            · rw [if_pos (by omega)]
              exact HST5.out.2.2.1
          clear hs7 ht7 hm7
          go_wp2
          exact ⟨⟨i + 1, by omega, by go_num, HT7.out⟩, by simp [intOf]; omega⟩
        · have tF : ((i : Int) == (F : Int)) = false := by simp; omega
          have tF2 : (i == F) = false := by simp; omega
          have tF3 : decide (i = F) = false := by simpa using hiF
          go_upto_region 15 with (first | (go_at_call 32; refine (HFU.out wr).mono ?_; rintro e w6 ⟨rfl, r6, b6⟩; have HO6 : Hid (Out w6 c wr.heap.size (ones x) ∧ St w B w6 c g m) := ⟨HST.out.1.out (Nat.le_refl _) r6, HST.out.1.below b6⟩; clear r6 b6) | (go_at_call 18; refine (tape_append HO6.out.2 HST.out.2.1 (by omega) wr.heap.size x hx256 HO6.out.1 (by omega) i hlen.symm).mono ?_; rintro e w7 ⟨rfl, c7, m7, hs7, ht7, hm7⟩))
          have HT7 : Hid (TapeTo w B g w7 bs F (i + 1)) := by
            refine ⟨c7, m7, _, _, hs7, ht7, ?_, ?_, by omega⟩
            · rw [← List.append_assoc, HST.out.2.2.1, HX.out, take_getD bs i hiL]
            · rw [HST.out.2.2.2.1]
              by_cases h : F < i
              · rw [if_pos h, if_pos (by omega)]
              · rw [if_neg h, if_neg (by omega)]
          clear hs7 ht7 hm7 hcell
          go_wp2
          exact ⟨⟨i + 1, by omega, by go_num, HT7.out⟩, by simp [intOf]; omega⟩
      · have e : i = n := by omega
        subst e
        obtain ⟨c, m, A, Bl, hst, hti, hAB, hA, hsteps⟩ := htt
        by_cases hFi : F = i
        · have HST : Hid (St w B wr c g m ∧ TapeIs m A Bl ∧ A ++ Bl = bs.take i ∧ m.steps ≤ 2 * i) := ⟨hst, hti, hAB, hsteps⟩
          clear hst hti hAB hA
          have tF : ((F : Int) == (i : Int)) = true := by simp; omega
          have tF3 : decide (F = i) = true := by simpa using hFi
          have HFI : Hid (F = i) := hFi
          clear hFi
          go_upto_region 19 with (go_at_call 21; refine (tape_flush HST.out.1 HST.out.2.1 (by omega)).mono ?_; rintro e w5 ⟨rfl, c5, m5, hs5, ht5, hm5⟩)
          have hdrop : ([] : List Nat) = (bs.take i).drop F := by rw [HFI.out]; simp
          have HR : Hid (St w B w5 c5 g m5 ∧ TapeIs m5 (A ++ Bl) [] ∧ A ++ Bl = bs.take F ∧ ([] : List Nat) = (bs.take i).drop F ∧ m5.steps < 100000) := ⟨hs5, ht5, by rw [HST.out.2.2.1, HFI.out], hdrop, by omega⟩
          clear hs5 ht5 hm5 tF tF3 hdrop
          go_upto_region 20 with (go_at_call 25; refine (tape_boot HR.out.1 HR.out.2.1 HR.out.2.2.2.2 v2 ks HK.out HB.out hnLL hFn HR.out.2.2.1 HR.out.2.2.2.1).mono ?_; rintro e w6 ⟨rfl, c6, m6, M, G, hs6, hb6⟩)
          have H6 : Hid (St w B w6 c6 g m6 ∧ Booted m6 bs F i M G) := ⟨hs6, hb6⟩
          have hlow := hb6.low
          have hhigh := hb6.high
          clear hs6 hb6
          go_upto_region 21 with (go_at_call 36; refine (tape_len H6.out.1 H6.out.2).mono ?_; rintro e w7 ⟨rfl, k7, rfl⟩)
          have H7 : Hid (St w B (w6.drewN k7) c6 g m6 ∧ Booted m6 bs F i M G) := ⟨H6.out.1.below (Below.drewN (Below.refl _ w6) k7), H6.out.2⟩
          clear H6
          have t1 : decide ((M : Int) < (F : Int)) = false := by simp; omega
          have t2 : decide ((i : Int) < (M : Int)) = false := by simp; omega
          have t1' : decide (M < F) = false := by simp; omega
          have t2' : decide (i < M) = false := by simp; omega
          go_wp2
          clear t1 t2 t1' t2'
          go_loopw [16] (fun jx W => ∃ j : Nat, j ≤ M ∧ jx = .int .i64 j ∧ St w B W c6 g m6) (fun jx _ => M - (intOf jx).toNat)
          case atStart => exact ⟨0, Nat.zero_le _, rfl, H7.out.1⟩
          case round =>
            obtain ⟨j, hj, rfl, hst⟩ := hrel
            have HBT : Hid (Booted m6 bs F i M G) := H7.out.2
            have HSJ : Hid (St w B wr c6 g m6) := hst
            clear hst H7
            by_cases hjM : j < M
            · have hjL : j < bs.length := by omega
              obtain ⟨bb, off, cv', hv, hcell⟩ := HS.out.byte (W := w) (Below.refl _ _) j hjL
              injection hv with hv1 hv2 hv3
              subst hv1
              obtain ⟨x, hx⟩ : ∃ x, x = bs.getD j 0 := ⟨_, rfl⟩
              rw [← hx] at hcell
              have hx256 : x < 256 := by
                rw [hx]
                simpa [hjL] using HBS.out _ (List.getElem_mem hjL)
              have HCE : Hid (∀ W, Below B w W → W.cell? ⟨bb, off + j, none⟩ = some (.int .u8 (x : Nat))) := fun W hb => cell_later (by rw [← HB.out]; exact hb) hcell
              obtain ⟨G1, hG1⟩ : ∃ G1, G1 = G.getD j [] := ⟨_, rfl⟩
              have HG : Hid (G1 = G.getD j []) := hG1
              have HSG : Hid (Sec G1) := by rw [hG1]; exact HBT.out.sec HBS.out j hjM
              have HFU : Hid (∀ W, Calls Try.prog 32 #[.int .u8 (x : Int)] W fun e w' => e = .returned (.slice (some ⟨W.heap.size, 0, none⟩) 64 64) ∧ Row w' W.heap.size 5 (bcells (ones x)) ∧ Below W.heap.size W w') := fun W => full_any W x
              have HW : Hid (G1 = ones x ∨ (j + 1 = M ∧ F ≤ j ∧ G1 = torn (ones x))) := by rw [hG1, hx]; exact HBT.out.what j hjM
              have HRD : Hid (Calls Try.prog 20 #[ptr g, .int .i64 1, .int .i64 (j : Int)] wr fun e w' => ∃ b, e = .returned (.tuple #[.slice (some ⟨b, 0, none⟩) 64 64, .int .i64 0]) ∧ wr.heap.size ≤ b ∧ Row w' b 5 (bcells G1) ∧ Below wr.heap.size wr w') := by rw [hG1]; exact tape_read HSJ.out HBT.out j hjM
              clear hcell hx hv2 hv3 hG1
              go_upto_region 27 with (go_at_call 20; refine HRD.out.mono ?_; rintro e w8 ⟨b8, rfl, hb8, r8, bl8⟩)
              have H8 : Hid (St w B w8 c6 g m6 ∧ Out w8 c6 b8 G1) := ⟨HSJ.out.below bl8, HSJ.out.out hb8 r8⟩
              have hcell := HCE.out w8 H8.out.1.2.2.1
              clear r8 bl8 hb8
              obtain ⟨y1, hy1⟩ : ∃ y1, y1 = decide (G1 = ones x) := ⟨_, rfl⟩
              have HY1 : Hid (y1 = decide (G1 = ones x)) := hy1
              have SM : Hid (∀ W b, Out W c6 b8 G1 → Out W c6 b (ones x) → Calls Try.prog 33 #[.slice (some ⟨b8, 0, none⟩) 64 64, .slice (some ⟨b, 0, none⟩) 64 64] W fun e w' => e = .returned (.bool y1) ∧ W = w') := fun W b ha hb =>
                (same_any W _ _ _ _ (ha.slice HSG.out) (hb.slice (ones_sec x hx256))).mono fun e w' h => ⟨by rw [h.1, HY1.out], h.2.symm⟩
              clear hy1
              go_upto_region 30 with (first | (go_at_call 32; refine (HFU.out w8).mono ?_; rintro e w9 ⟨rfl, r9, b9⟩; have H9 : Hid (St w B w9 c6 g m6 ∧ Out w9 c6 b8 G1 ∧ Out w9 c6 w8.heap.size (ones x)) := ⟨H8.out.1.below b9, H8.out.2.below b9, H8.out.1.out (Nat.le_refl _) r9⟩; clear r9 b9) | (go_at_call 33; refine (SM.out w9 _ H9.out.2.1 H9.out.2.2).mono ?_; rintro e wx ⟨rfl, rfl⟩))
              have hcell9 := HCE.out w9 H9.out.1.2.2.1
              by_cases hlast : j + 1 = M ∧ F ≤ j
              · obtain ⟨hl1, hl2⟩ := hlast
                have u1 : ((j : Int) == (M : Int) - 1) = true := by simp; omega
                have u2 : decide ((F : Int) ≤ (j : Int)) = true := by simp; omega
                have u3 : decide (F ≤ j) = true := by simpa using hl2
                obtain ⟨y2, hy2⟩ : ∃ y2, y2 = decide (G1 = torn (ones x)) := ⟨_, rfl⟩
                have HY2 : Hid (y2 = decide (G1 = torn (ones x))) := hy2
                have SM2 : Hid (∀ W b, Out W c6 b8 G1 → Out W c6 b (torn (ones x)) → Calls Try.prog 33 #[.slice (some ⟨b8, 0, none⟩) 64 64, .slice (some ⟨b, 0, none⟩) 64 64] W fun e w' => e = .returned (.bool y2) ∧ W = w') := fun W b ha hb =>
                  (same_any W _ _ _ _ (ha.slice HSG.out) (hb.slice (torn_sec (ones_sec x hx256)))).mono fun e w' h => ⟨by rw [h.1, HY2.out], h.2.symm⟩
                have HYY : Hid (y1 = true ∨ y2 = true) := by
                  rcases HW.out with h | ⟨_, _, h⟩
                  · left; rw [HY1.out, h]; simp
                  · right; rw [HY2.out, h]; simp
                clear hy2 hl1 hl2
                go_upto_region 31 with (first | (go_at_call 32; refine (HFU.out w9).mono ?_; rintro e w10 ⟨rfl, r10, b10⟩; have R10 : Hid (Row w10 w9.heap.size 5 (bcells (ones x))) := r10; have H10 : Hid (St w B w10 c6 g m6 ∧ Out w10 c6 b8 G1 ∧ (c6 w9.heap.size).1 ≠ 0 ∧ b8 ≠ w9.heap.size) := ⟨H9.out.1.below b10, H9.out.2.1.below b10, H9.out.1.1.2.2 _ (Nat.le_refl _), by have := H9.out.2.1.1.lt; omega⟩; clear r10 b10) | (at_builtin; refine wpList_appZeros rfl (.tmp 140) (.const (.int .i64 32)) rfl w9.heap.size (ones x) (by simp [ones]) R10.out rfl rfl ?_; intro w11 r11 s11 ch11; have H11 : Hid (St w B w11 c6 g m6 ∧ Out w11 c6 b8 G1 ∧ Out w11 c6 w9.heap.size (torn (ones x))) := ⟨zeros_st H10.out.1 ch11 H10.out.2.2.1 s11 H9.out.1.2.2.2, ⟨ch11.row H10.out.2.2.2 H10.out.2.1.1, H10.out.2.1.2⟩, ⟨r11, H10.out.2.2.1⟩⟩; clear r11 s11 ch11) | (go_at_call 33; refine (SM2.out w11 _ H11.out.2.1 H11.out.2.2).mono ?_; rintro e wx ⟨rfl, rfl⟩))
                cases y1 with
                | true =>
                  go_wp2
                  exact ⟨⟨j + 1, by omega, by go_num, H11.out.1⟩, by simp [intOf]; omega⟩
                | false =>
                  have hy : y2 = true := by
                    rcases HYY.out with h | h
                    · cases h
                    · exact h
                  subst hy
                  go_wp2
                  exact ⟨⟨j + 1, by omega, by go_num, H11.out.1⟩, by simp [intOf]; omega⟩
              · have hy : y1 = true := by
                  rcases HW.out with h | ⟨h1, h2, _⟩
                  · rw [HY1.out, h]; simp
                  · exact absurd ⟨h1, h2⟩ hlast
                subst hy
                by_cases hjm : j + 1 = M
                · have u1 : ((j : Int) == (M : Int) - 1) = true := by simp; omega
                  have u2 : decide ((F : Int) ≤ (j : Int)) = false := by simp; omega
                  have u3 : decide (F ≤ j) = false := by simp; omega
                  go_wp2
                  go_roundw
                  case rel => exact ⟨j + 1, by omega, by go_num, H9.out.1⟩
                  case measure => simp [intOf]; omega
                · have u1 : ((j : Int) == (M : Int) - 1) = false := by simp; omega
                  go_wp2
                  go_roundw
                  case rel => exact ⟨j + 1, by omega, by go_num, H9.out.1⟩
                  case measure => simp [intOf]; omega
            · have e : j = M := by omega
              subst e
              have F5 : Hid (∀ W, Calls Try.prog 32 #[.int .u8 5] W fun e w' => e = .returned (.slice (some ⟨W.heap.size, 0, none⟩) 64 64) ∧ Row w' W.heap.size 5 (bcells (ones 5)) ∧ Below W.heap.size W w') := fun W => full_any W 5
              by_cases h40 : 40 ≤ j
              · have e40 : j = 40 := by omega
                have CL : Hid (∀ W b, St w B W c6 g m6 → Out W c6 b (ones 5) → Calls Try.prog 18 #[ptr g, .int .i64 1, .slice (some ⟨b, 0, none⟩) 64 64] W fun e w' => e = .returned (.tuple #[.int .i64 0, .int .i64 3]) ∧ Below B w w') := fun W b hs ho => by
                  have := tape_last hs HBT.out b ho
                  rw [if_pos h40, if_pos h40] at this
                  exact this
                subst e40
                go_wp2_with (first | (go_at_call 32; refine (F5.out wr).mono ?_; rintro e w9 ⟨rfl, r9, b9⟩; have H9 : Hid (St w B w9 c6 g m6 ∧ Out w9 c6 wr.heap.size (ones 5)) := ⟨HSJ.out.below b9, HSJ.out.out (Nat.le_refl _) r9⟩; clear r9 b9) | (go_at_call 18; refine (CL.out w9 _ H9.out.1 H9.out.2).mono ?_; rintro e w10 ⟨rfl, b10⟩))
                go_ret
                exact ⟨rfl, b10⟩
              · have CL : Hid (∀ W b, St w B W c6 g m6 → Out W c6 b (ones 5) → Calls Try.prog 18 #[ptr g, .int .i64 1, .slice (some ⟨b, 0, none⟩) 64 64] W fun e w' => e = .returned (.tuple #[.int .i64 (j : Int), .int .i64 0]) ∧ Below B w w') := fun W b hs ho => by
                  have := tape_last hs HBT.out b ho
                  rw [if_neg h40, if_neg h40] at this
                  exact this
                have u1 : ((j : Int) == 40) = false := by simp; omega
                go_wp2_with (first | (go_at_call 32; refine (F5.out wr).mono ?_; rintro e w9 ⟨rfl, r9, b9⟩; have H9 : Hid (St w B w9 c6 g m6 ∧ Out w9 c6 wr.heap.size (ones 5)) := ⟨HSJ.out.below b9, HSJ.out.out (Nat.le_refl _) r9⟩; clear r9 b9) | (go_at_call 18; refine (CL.out w9 _ H9.out.1 H9.out.2).mono ?_; rintro e w10 ⟨rfl, b10⟩))
                go_ret
                exact ⟨rfl, b10⟩
        · have hFlt : F < i := by omega
          rw [if_pos hFlt] at hA
          have HR : Hid (St w B wr c g m ∧ TapeIs m A Bl ∧ A = bs.take F ∧ Bl = (bs.take i).drop F ∧ m.steps < 100000) := by
            refine ⟨hst, hti, hA, ?_, by omega⟩
            have h1 : (A ++ Bl).drop F = Bl := by
              have : A.length = F := by rw [hA]; simp; omega
              rw [← this]
              simp
            rw [← hAB, h1]
          clear hst hti hAB hA
          have tF : ((F : Int) == (i : Int)) = false := by simp; omega
          have tF3 : decide (F = i) = false := by simpa using hFi
          go_upto_region 20 with (go_at_call 25; refine (tape_boot HR.out.1 HR.out.2.1 HR.out.2.2.2.2 v2 ks HK.out HB.out hnLL hFn HR.out.2.2.1 HR.out.2.2.2.1).mono ?_; rintro e w6 ⟨rfl, c6, m6, M, G, hs6, hb6⟩)
          have H6 : Hid (St w B w6 c6 g m6 ∧ Booted m6 bs F i M G) := ⟨hs6, hb6⟩
          have hlow := hb6.low
          have hhigh := hb6.high
          clear hs6 hb6
          go_upto_region 21 with (go_at_call 36; refine (tape_len H6.out.1 H6.out.2).mono ?_; rintro e w7 ⟨rfl, k7, rfl⟩)
          have H7 : Hid (St w B (w6.drewN k7) c6 g m6 ∧ Booted m6 bs F i M G) := ⟨H6.out.1.below (Below.drewN (Below.refl _ w6) k7), H6.out.2⟩
          clear H6
          have t1 : decide ((M : Int) < (F : Int)) = false := by simp; omega
          have t2 : decide ((i : Int) < (M : Int)) = false := by simp; omega
          have t1' : decide (M < F) = false := by simp; omega
          have t2' : decide (i < M) = false := by simp; omega
          go_wp2
          clear t1 t2 t1' t2'
          go_loopw [16] (fun jx W => ∃ j : Nat, j ≤ M ∧ jx = .int .i64 j ∧ St w B W c6 g m6) (fun jx _ => M - (intOf jx).toNat)
          case atStart => exact ⟨0, Nat.zero_le _, rfl, H7.out.1⟩
          case round =>
            obtain ⟨j, hj, rfl, hst⟩ := hrel
            have HBT : Hid (Booted m6 bs F i M G) := H7.out.2
            have HSJ : Hid (St w B wr c6 g m6) := hst
            clear hst H7
            by_cases hjM : j < M
            · have hjL : j < bs.length := by omega
              obtain ⟨bb, off, cv', hv, hcell⟩ := HS.out.byte (W := w) (Below.refl _ _) j hjL
              injection hv with hv1 hv2 hv3
              subst hv1
              obtain ⟨x, hx⟩ : ∃ x, x = bs.getD j 0 := ⟨_, rfl⟩
              rw [← hx] at hcell
              have hx256 : x < 256 := by
                rw [hx]
                simpa [hjL] using HBS.out _ (List.getElem_mem hjL)
              have HCE : Hid (∀ W, Below B w W → W.cell? ⟨bb, off + j, none⟩ = some (.int .u8 (x : Nat))) := fun W hb => cell_later (by rw [← HB.out]; exact hb) hcell
              obtain ⟨G1, hG1⟩ : ∃ G1, G1 = G.getD j [] := ⟨_, rfl⟩
              have HG : Hid (G1 = G.getD j []) := hG1
              have HSG : Hid (Sec G1) := by rw [hG1]; exact HBT.out.sec HBS.out j hjM
              have HFU : Hid (∀ W, Calls Try.prog 32 #[.int .u8 (x : Int)] W fun e w' => e = .returned (.slice (some ⟨W.heap.size, 0, none⟩) 64 64) ∧ Row w' W.heap.size 5 (bcells (ones x)) ∧ Below W.heap.size W w') := fun W => full_any W x
              have HW : Hid (G1 = ones x ∨ (j + 1 = M ∧ F ≤ j ∧ G1 = torn (ones x))) := by rw [hG1, hx]; exact HBT.out.what j hjM
              have HRD : Hid (Calls Try.prog 20 #[ptr g, .int .i64 1, .int .i64 (j : Int)] wr fun e w' => ∃ b, e = .returned (.tuple #[.slice (some ⟨b, 0, none⟩) 64 64, .int .i64 0]) ∧ wr.heap.size ≤ b ∧ Row w' b 5 (bcells G1) ∧ Below wr.heap.size wr w') := by rw [hG1]; exact tape_read HSJ.out HBT.out j hjM
              clear hcell hx hv2 hv3 hG1
              go_upto_region 27 with (go_at_call 20; refine HRD.out.mono ?_; rintro e w8 ⟨b8, rfl, hb8, r8, bl8⟩)
              have H8 : Hid (St w B w8 c6 g m6 ∧ Out w8 c6 b8 G1) := ⟨HSJ.out.below bl8, HSJ.out.out hb8 r8⟩
              have hcell := HCE.out w8 H8.out.1.2.2.1
              clear r8 bl8 hb8
              obtain ⟨y1, hy1⟩ : ∃ y1, y1 = decide (G1 = ones x) := ⟨_, rfl⟩
              have HY1 : Hid (y1 = decide (G1 = ones x)) := hy1
              have SM : Hid (∀ W b, Out W c6 b8 G1 → Out W c6 b (ones x) → Calls Try.prog 33 #[.slice (some ⟨b8, 0, none⟩) 64 64, .slice (some ⟨b, 0, none⟩) 64 64] W fun e w' => e = .returned (.bool y1) ∧ W = w') := fun W b ha hb =>
                (same_any W _ _ _ _ (ha.slice HSG.out) (hb.slice (ones_sec x hx256))).mono fun e w' h => ⟨by rw [h.1, HY1.out], h.2.symm⟩
              clear hy1
              go_upto_region 30 with (first | (go_at_call 32; refine (HFU.out w8).mono ?_; rintro e w9 ⟨rfl, r9, b9⟩; have H9 : Hid (St w B w9 c6 g m6 ∧ Out w9 c6 b8 G1 ∧ Out w9 c6 w8.heap.size (ones x)) := ⟨H8.out.1.below b9, H8.out.2.below b9, H8.out.1.out (Nat.le_refl _) r9⟩; clear r9 b9) | (go_at_call 33; refine (SM.out w9 _ H9.out.2.1 H9.out.2.2).mono ?_; rintro e wx ⟨rfl, rfl⟩))
              have hcell9 := HCE.out w9 H9.out.1.2.2.1
              by_cases hlast : j + 1 = M ∧ F ≤ j
              · obtain ⟨hl1, hl2⟩ := hlast
                have u1 : ((j : Int) == (M : Int) - 1) = true := by simp; omega
                have u2 : decide ((F : Int) ≤ (j : Int)) = true := by simp; omega
                have u3 : decide (F ≤ j) = true := by simpa using hl2
                obtain ⟨y2, hy2⟩ : ∃ y2, y2 = decide (G1 = torn (ones x)) := ⟨_, rfl⟩
                have HY2 : Hid (y2 = decide (G1 = torn (ones x))) := hy2
                have SM2 : Hid (∀ W b, Out W c6 b8 G1 → Out W c6 b (torn (ones x)) → Calls Try.prog 33 #[.slice (some ⟨b8, 0, none⟩) 64 64, .slice (some ⟨b, 0, none⟩) 64 64] W fun e w' => e = .returned (.bool y2) ∧ W = w') := fun W b ha hb =>
                  (same_any W _ _ _ _ (ha.slice HSG.out) (hb.slice (torn_sec (ones_sec x hx256)))).mono fun e w' h => ⟨by rw [h.1, HY2.out], h.2.symm⟩
                have HYY : Hid (y1 = true ∨ y2 = true) := by
                  rcases HW.out with h | ⟨_, _, h⟩
                  · left; rw [HY1.out, h]; simp
                  · right; rw [HY2.out, h]; simp
                clear hy2 hl1 hl2
                go_upto_region 31 with (first | (go_at_call 32; refine (HFU.out w9).mono ?_; rintro e w10 ⟨rfl, r10, b10⟩; have R10 : Hid (Row w10 w9.heap.size 5 (bcells (ones x))) := r10; have H10 : Hid (St w B w10 c6 g m6 ∧ Out w10 c6 b8 G1 ∧ (c6 w9.heap.size).1 ≠ 0 ∧ b8 ≠ w9.heap.size) := ⟨H9.out.1.below b10, H9.out.2.1.below b10, H9.out.1.1.2.2 _ (Nat.le_refl _), by have := H9.out.2.1.1.lt; omega⟩; clear r10 b10) | (at_builtin; refine wpList_appZeros rfl (.tmp 140) (.const (.int .i64 32)) rfl w9.heap.size (ones x) (by simp [ones]) R10.out rfl rfl ?_; intro w11 r11 s11 ch11; have H11 : Hid (St w B w11 c6 g m6 ∧ Out w11 c6 b8 G1 ∧ Out w11 c6 w9.heap.size (torn (ones x))) := ⟨zeros_st H10.out.1 ch11 H10.out.2.2.1 s11 H9.out.1.2.2.2, ⟨ch11.row H10.out.2.2.2 H10.out.2.1.1, H10.out.2.1.2⟩, ⟨r11, H10.out.2.2.1⟩⟩; clear r11 s11 ch11) | (go_at_call 33; refine (SM2.out w11 _ H11.out.2.1 H11.out.2.2).mono ?_; rintro e wx ⟨rfl, rfl⟩))
                cases y1 with
                | true =>
                  go_wp2
                  exact ⟨⟨j + 1, by omega, by go_num, H11.out.1⟩, by simp [intOf]; omega⟩
                | false =>
                  have hy : y2 = true := by
                    rcases HYY.out with h | h
                    · cases h
                    · exact h
                  subst hy
                  go_wp2
                  exact ⟨⟨j + 1, by omega, by go_num, H11.out.1⟩, by simp [intOf]; omega⟩
              · have hy : y1 = true := by
                  rcases HW.out with h | ⟨h1, h2, _⟩
                  · rw [HY1.out, h]; simp
                  · exact absurd ⟨h1, h2⟩ hlast
                subst hy
                by_cases hjm : j + 1 = M
                · have u1 : ((j : Int) == (M : Int) - 1) = true := by simp; omega
                  have u2 : decide ((F : Int) ≤ (j : Int)) = false := by simp; omega
                  have u3 : decide (F ≤ j) = false := by simp; omega
                  go_wp2
                  go_roundw
                  case rel => exact ⟨j + 1, by omega, by go_num, H9.out.1⟩
                  case measure => simp [intOf]; omega
                · have u1 : ((j : Int) == (M : Int) - 1) = false := by simp; omega
                  go_wp2
                  go_roundw
                  case rel => exact ⟨j + 1, by omega, by go_num, H9.out.1⟩
                  case measure => simp [intOf]; omega
            · have e : j = M := by omega
              subst e
              have F5 : Hid (∀ W, Calls Try.prog 32 #[.int .u8 5] W fun e w' => e = .returned (.slice (some ⟨W.heap.size, 0, none⟩) 64 64) ∧ Row w' W.heap.size 5 (bcells (ones 5)) ∧ Below W.heap.size W w') := fun W => full_any W 5
              by_cases h40 : 40 ≤ j
              · have e40 : j = 40 := by omega
                have CL : Hid (∀ W b, St w B W c6 g m6 → Out W c6 b (ones 5) → Calls Try.prog 18 #[ptr g, .int .i64 1, .slice (some ⟨b, 0, none⟩) 64 64] W fun e w' => e = .returned (.tuple #[.int .i64 0, .int .i64 3]) ∧ Below B w w') := fun W b hs ho => by
                  have := tape_last hs HBT.out b ho
                  rw [if_pos h40, if_pos h40] at this
                  exact this
                subst e40
                go_wp2_with (first | (go_at_call 32; refine (F5.out wr).mono ?_; rintro e w9 ⟨rfl, r9, b9⟩; have H9 : Hid (St w B w9 c6 g m6 ∧ Out w9 c6 wr.heap.size (ones 5)) := ⟨HSJ.out.below b9, HSJ.out.out (Nat.le_refl _) r9⟩; clear r9 b9) | (go_at_call 18; refine (CL.out w9 _ H9.out.1 H9.out.2).mono ?_; rintro e w10 ⟨rfl, b10⟩))
                go_ret
                exact ⟨rfl, b10⟩
              · have CL : Hid (∀ W b, St w B W c6 g m6 → Out W c6 b (ones 5) → Calls Try.prog 18 #[ptr g, .int .i64 1, .slice (some ⟨b, 0, none⟩) 64 64] W fun e w' => e = .returned (.tuple #[.int .i64 (j : Int), .int .i64 0]) ∧ Below B w w') := fun W b hs ho => by
                  have := tape_last hs HBT.out b ho
                  rw [if_neg h40, if_neg h40] at this
                  exact this
                have u1 : ((j : Int) == 40) = false := by simp; omega
                go_wp2_with (first | (go_at_call 32; refine (F5.out wr).mono ?_; rintro e w9 ⟨rfl, r9, b9⟩; have H9 : Hid (St w B w9 c6 g m6 ∧ Out w9 c6 wr.heap.size (ones 5)) := ⟨HSJ.out.below b9, HSJ.out.out (Nat.le_refl _) r9⟩; clear r9 b9) | (go_at_call 18; refine (CL.out w9 _ H9.out.1 H9.out.2).mono ?_; rintro e w10 ⟨rfl, b10⟩))
                go_ret
                exact ⟨rfl, b10⟩
  · obtain ⟨z, hz⟩ : ∃ z : Nat, fl = (z : Int) := ⟨fl.toNat, by omega⟩
    subst hz
    obtain ⟨F, hF⟩ : ∃ F, F = z % (n + 1) := ⟨_, rfl⟩
    have hFn : F ≤ n := by have := Nat.mod_lt z (show 0 < n + 1 by omega); omega
    have hmod : (z : Int) % ((n : Int) + 1) = (F : Int) := by rw [hF]; simp
    have tneg : decide ((z : Int) < 0) = false := by simp
    clear hF
    rw [← hL]
    clear hs0 hL hB
    go_enter Try.func7, Try.ntmps7
    go_upto_region 2 with (go_at_call 8; refine (shown_any w).mono ?_; rintro e w1 ⟨rfl, b1⟩)
    refine wp_region_lit ?_
    refine wpList_oneInt _ rfl rfl 1 rfl ?_
    intro w2 r2 s2 b2
    simp only [Act.put, List.setIfInBounds_toArray, List.set_cons_succ, List.set_cons_zero]
    refine wpList_oneInt _ rfl rfl 40 rfl ?_
    intro w3 r3 s3 b3
    simp only [Act.put, List.setIfInBounds_toArray, List.set_cons_succ, List.set_cons_zero]
    refine wpList_build24 (.tmp 24) (.tmp 25) rfl rfl (.slice (some ⟨w1.heap.size, 0, none⟩) 1 1) (.slice (some ⟨w2.heap.size, 0, none⟩) 1 1) rfl rfl rfl rfl ?_
    simp only [Act.put, List.setIfInBounds_toArray, List.set_cons_succ, List.set_cons_zero]
    have i1 : IntsIn w3 (.slice (some ⟨w1.heap.size, 0, none⟩) 1 1) [1] := intsIn_one w3 _ 3 1 (r2.later b3 (by omega))
    have i2 : IntsIn w3 (.slice (some ⟨w2.heap.size, 0, none⟩) 1 1) [40] := intsIn_one w3 _ 3 40 r3
    refine wpList_callF en9 [.tmp 26] _ rfl rfl [.agg #[.slice (some ⟨w1.heap.size, 0, none⟩) 1 1, .slice (some ⟨w2.heap.size, 0, none⟩) 1 1]] rfl ?_
    refine (Live.new w3 (fun _ => (1, 0)) 0 _ _ [1] [40] i1 i2 (by decide)).mono ?_
    rintro e w4 ⟨g, c4, rfl, hg, hc4, _, hl4, b4⟩
    refine ⟨_, rfl, ?_⟩
    simp only [Act.put, List.setIfInBounds_toArray, List.set_cons_succ, List.set_cons_zero]
    have HT0 : Hid (TapeTo w B g w4 bs F 0) := by
      have h13 : Below B w w3 := by
        rw [HB.out]
        have := b1.size
        exact b1.trans ((b2.mono (by omega)).trans (b3.mono (by omega)))
      have hs3 : B ≤ w3.heap.size := by rw [HB.out]; have := b1.size; omega
      refine ⟨c4, _, [], [], ⟨hl4, fun b hb => ?_, h13.trans (b4.mono hs3), Nat.le_trans hs3 b4.size⟩, tape_new, by simp, by simp, Nat.zero_le _⟩
      rw [hc4 b (by omega)]
      simp
    clear r2 s2 b2 r3 s3 b3 i1 i2 hl4 hc4 b4 hg b1
    go_upto_region 6 with fail
    go_upto_region 9 with fail
    rw [hmod]
    clear hmod hmin3 tneg
    go_wp2
    go_loopw [11] (fun ix W => ∃ i : Nat, i ≤ n ∧ ix = .int .i64 i ∧ TapeTo w B g W bs F i) (fun ix _ => n - (intOf ix).toNat)
    case atStart => exact ⟨0, Nat.zero_le _, rfl, HT0.out⟩
    case round =>
      obtain ⟨i, hi, rfl, htt⟩ := hrel
      clear HT0
      by_cases hlt : i < n
      · obtain ⟨c, m, A, Bl, hst, hti, hAB, hA, hsteps⟩ := htt
        have hiL : i < bs.length := by omega
        obtain ⟨bb, off, cv', hv, hcell⟩ := HS.out.byte (W := wr) (by rw [← HB.out]; exact hst.2.2.1) i hiL
        injection hv with hv1 hv2 hv3
        subst hv1
        obtain ⟨x, hx⟩ : ∃ x, x = bs.getD i 0 := ⟨_, rfl⟩
        rw [← hx] at hcell
        have hx256 : x < 256 := by
          rw [hx]
          simpa [hiL] using HBS.out _ (List.getElem_mem hiL)
        have HX : Hid (x = bs.getD i 0) := hx
        have HST : Hid (St w B wr c g m ∧ TapeIs m A Bl ∧ A ++ Bl = bs.take i ∧ A = (if F < i then bs.take F else []) ∧ m.steps ≤ 2 * i) := ⟨hst, hti, hAB, hA, hsteps⟩
        have HFU : Hid (∀ W, Calls Try.prog 32 #[.int .u8 (x : Int)] W fun e w' => e = .returned (.slice (some ⟨W.heap.size, 0, none⟩) 64 64) ∧ Row w' W.heap.size 5 (bcells (ones x)) ∧ Below W.heap.size W w') := fun W => full_any W x
        have hlen : A.length + Bl.length = i := by
          have := congrArg List.length hAB
          simp at this
          omega
        have hl1 : (A ++ Bl).length + ([] : List Nat).length = i := by simp; omega
        clear hst hti hAB hA hx hv2 hv3
        by_cases hiF : i = F
        · subst hiF
          have HA0 : Hid (A = []) := by
            have := HST.out.2.2.2.1
            rw [if_neg (by omega)] at this
            exact this
          go_upto_region 14 with (go_at_call 21; refine (tape_flush HST.out.1 HST.out.2.1 (by omega)).mono ?_; rintro e w5 ⟨rfl, c5, m5, hs5, ht5, hm5⟩)
          have HST5 : Hid (St w B w5 c5 g m5 ∧ TapeIs m5 (A ++ Bl) [] ∧ A ++ Bl = bs.take i ∧ m5.steps = m.steps + 1) := ⟨hs5, ht5, HST.out.2.2.1, hm5⟩
          have hcell5 : w5.cell? ⟨bb, off + i, none⟩ = some (.int .u8 (x : Nat)) := by
            obtain ⟨b', off', cv'', hv', hc'⟩ := HS.out.byte (W := w5) (by rw [← HB.out]; exact hs5.2.2.1) i hiL
            injection hv' with hv1' hv2' hv3'
            injection hv1' with hv4'
            injection hv4' with h5 h6
            subst h5 h6
            rw [HX.out]
            exact hc'
          clear hs5 ht5 hm5 hcell
          go_upto_region 15 with (first | (go_at_call 32; refine (HFU.out w5).mono ?_; rintro e w6 ⟨rfl, r6, b6⟩; have HO6 : Hid (Out w6 c5 w5.heap.size (ones x) ∧ St w B w6 c5 g m5) := ⟨HST5.out.1.out (Nat.le_refl _) r6, HST5.out.1.below b6⟩; clear r6 b6) | (go_at_call 18; refine (tape_append HO6.out.2 HST5.out.2.1 (by have := HST5.out.2.2.2; omega) w5.heap.size x hx256 HO6.out.1 (by omega) i hl1.symm).mono ?_; rintro e w7 ⟨rfl, c7, m7, hs7, ht7, hm7⟩))
          have HT7 : Hid (TapeTo w B g w7 bs i (i + 1)) := by
            refine ⟨c7, m7, _, _, hs7, ht7, ?_, ?_, by have := HST5.out.2.2.2; omega⟩
            · rw [HST5.out.2.2.1, HX.out, take_getD bs i hiL]
              rfl
            · rw [if_pos (by omega)]
              exact HST5.out.2.2.1
          clear hs7 ht7 hm7
          go_wp2
          exact ⟨⟨i + 1, by omega, by go_num, HT7.out⟩, by simp [intOf]; omega⟩
        · have tF : ((i : Int) == (F : Int)) = false := by simp; omega
          have tF2 : (i == F) = false := by simp; omega
          have tF3 : decide (i = F) = false := by simpa using hiF
          go_upto_region 15 with (first | (go_at_call 32; refine (HFU.out wr).mono ?_; rintro e w6 ⟨rfl, r6, b6⟩; have HO6 : Hid (Out w6 c wr.heap.size (ones x) ∧ St w B w6 c g m) := ⟨HST.out.1.out (Nat.le_refl _) r6, HST.out.1.below b6⟩; clear r6 b6) | (go_at_call 18; refine (tape_append HO6.out.2 HST.out.2.1 (by omega) wr.heap.size x hx256 HO6.out.1 (by omega) i hlen.symm).mono ?_; rintro e w7 ⟨rfl, c7, m7, hs7, ht7, hm7⟩))
          have HT7 : Hid (TapeTo w B g w7 bs F (i + 1)) := by
            refine ⟨c7, m7, _, _, hs7, ht7, ?_, ?_, by omega⟩
            · rw [← List.append_assoc, HST.out.2.2.1, HX.out, take_getD bs i hiL]
            · rw [HST.out.2.2.2.1]
              by_cases h : F < i
              · rw [if_pos h, if_pos (by omega)]
              · rw [if_neg h, if_neg (by omega)]
          clear hs7 ht7 hm7 hcell
          go_wp2
          exact ⟨⟨i + 1, by omega, by go_num, HT7.out⟩, by simp [intOf]; omega⟩
      · have e : i = n := by omega
        subst e
        obtain ⟨c, m, A, Bl, hst, hti, hAB, hA, hsteps⟩ := htt
        by_cases hFi : F = i
        · have HST : Hid (St w B wr c g m ∧ TapeIs m A Bl ∧ A ++ Bl = bs.take i ∧ m.steps ≤ 2 * i) := ⟨hst, hti, hAB, hsteps⟩
          clear hst hti hAB hA
          have tF : ((F : Int) == (i : Int)) = true := by simp; omega
          have tF3 : decide (F = i) = true := by simpa using hFi
          have HFI : Hid (F = i) := hFi
          clear hFi
          go_upto_region 19 with (go_at_call 21; refine (tape_flush HST.out.1 HST.out.2.1 (by omega)).mono ?_; rintro e w5 ⟨rfl, c5, m5, hs5, ht5, hm5⟩)
          have hdrop : ([] : List Nat) = (bs.take i).drop F := by rw [HFI.out]; simp
          have HR : Hid (St w B w5 c5 g m5 ∧ TapeIs m5 (A ++ Bl) [] ∧ A ++ Bl = bs.take F ∧ ([] : List Nat) = (bs.take i).drop F ∧ m5.steps < 100000) := ⟨hs5, ht5, by rw [HST.out.2.2.1, HFI.out], hdrop, by omega⟩
          clear hs5 ht5 hm5 tF tF3 hdrop
          go_upto_region 20 with (go_at_call 25; refine (tape_boot HR.out.1 HR.out.2.1 HR.out.2.2.2.2 v2 ks HK.out HB.out hnLL hFn HR.out.2.2.1 HR.out.2.2.2.1).mono ?_; rintro e w6 ⟨rfl, c6, m6, M, G, hs6, hb6⟩)
          have H6 : Hid (St w B w6 c6 g m6 ∧ Booted m6 bs F i M G) := ⟨hs6, hb6⟩
          have hlow := hb6.low
          have hhigh := hb6.high
          clear hs6 hb6
          go_upto_region 21 with (go_at_call 36; refine (tape_len H6.out.1 H6.out.2).mono ?_; rintro e w7 ⟨rfl, k7, rfl⟩)
          have H7 : Hid (St w B (w6.drewN k7) c6 g m6 ∧ Booted m6 bs F i M G) := ⟨H6.out.1.below (Below.drewN (Below.refl _ w6) k7), H6.out.2⟩
          clear H6
          have t1 : decide ((M : Int) < (F : Int)) = false := by simp; omega
          have t2 : decide ((i : Int) < (M : Int)) = false := by simp; omega
          have t1' : decide (M < F) = false := by simp; omega
          have t2' : decide (i < M) = false := by simp; omega
          go_wp2
          clear t1 t2 t1' t2'
          go_loopw [16] (fun jx W => ∃ j : Nat, j ≤ M ∧ jx = .int .i64 j ∧ St w B W c6 g m6) (fun jx _ => M - (intOf jx).toNat)
          case atStart => exact ⟨0, Nat.zero_le _, rfl, H7.out.1⟩
          case round =>
            obtain ⟨j, hj, rfl, hst⟩ := hrel
            have HBT : Hid (Booted m6 bs F i M G) := H7.out.2
            have HSJ : Hid (St w B wr c6 g m6) := hst
            clear hst H7
            by_cases hjM : j < M
            · have hjL : j < bs.length := by omega
              obtain ⟨bb, off, cv', hv, hcell⟩ := HS.out.byte (W := w) (Below.refl _ _) j hjL
              injection hv with hv1 hv2 hv3
              subst hv1
              obtain ⟨x, hx⟩ : ∃ x, x = bs.getD j 0 := ⟨_, rfl⟩
              rw [← hx] at hcell
              have hx256 : x < 256 := by
                rw [hx]
                simpa [hjL] using HBS.out _ (List.getElem_mem hjL)
              have HCE : Hid (∀ W, Below B w W → W.cell? ⟨bb, off + j, none⟩ = some (.int .u8 (x : Nat))) := fun W hb => cell_later (by rw [← HB.out]; exact hb) hcell
              obtain ⟨G1, hG1⟩ : ∃ G1, G1 = G.getD j [] := ⟨_, rfl⟩
              have HG : Hid (G1 = G.getD j []) := hG1
              have HSG : Hid (Sec G1) := by rw [hG1]; exact HBT.out.sec HBS.out j hjM
              have HFU : Hid (∀ W, Calls Try.prog 32 #[.int .u8 (x : Int)] W fun e w' => e = .returned (.slice (some ⟨W.heap.size, 0, none⟩) 64 64) ∧ Row w' W.heap.size 5 (bcells (ones x)) ∧ Below W.heap.size W w') := fun W => full_any W x
              have HW : Hid (G1 = ones x ∨ (j + 1 = M ∧ F ≤ j ∧ G1 = torn (ones x))) := by rw [hG1, hx]; exact HBT.out.what j hjM
              have HRD : Hid (Calls Try.prog 20 #[ptr g, .int .i64 1, .int .i64 (j : Int)] wr fun e w' => ∃ b, e = .returned (.tuple #[.slice (some ⟨b, 0, none⟩) 64 64, .int .i64 0]) ∧ wr.heap.size ≤ b ∧ Row w' b 5 (bcells G1) ∧ Below wr.heap.size wr w') := by rw [hG1]; exact tape_read HSJ.out HBT.out j hjM
              clear hcell hx hv2 hv3 hG1
              go_upto_region 27 with (go_at_call 20; refine HRD.out.mono ?_; rintro e w8 ⟨b8, rfl, hb8, r8, bl8⟩)
              have H8 : Hid (St w B w8 c6 g m6 ∧ Out w8 c6 b8 G1) := ⟨HSJ.out.below bl8, HSJ.out.out hb8 r8⟩
              have hcell := HCE.out w8 H8.out.1.2.2.1
              clear r8 bl8 hb8
              obtain ⟨y1, hy1⟩ : ∃ y1, y1 = decide (G1 = ones x) := ⟨_, rfl⟩
              have HY1 : Hid (y1 = decide (G1 = ones x)) := hy1
              have SM : Hid (∀ W b, Out W c6 b8 G1 → Out W c6 b (ones x) → Calls Try.prog 33 #[.slice (some ⟨b8, 0, none⟩) 64 64, .slice (some ⟨b, 0, none⟩) 64 64] W fun e w' => e = .returned (.bool y1) ∧ W = w') := fun W b ha hb =>
                (same_any W _ _ _ _ (ha.slice HSG.out) (hb.slice (ones_sec x hx256))).mono fun e w' h => ⟨by rw [h.1, HY1.out], h.2.symm⟩
              clear hy1
              go_upto_region 30 with (first | (go_at_call 32; refine (HFU.out w8).mono ?_; rintro e w9 ⟨rfl, r9, b9⟩; have H9 : Hid (St w B w9 c6 g m6 ∧ Out w9 c6 b8 G1 ∧ Out w9 c6 w8.heap.size (ones x)) := ⟨H8.out.1.below b9, H8.out.2.below b9, H8.out.1.out (Nat.le_refl _) r9⟩; clear r9 b9) | (go_at_call 33; refine (SM.out w9 _ H9.out.2.1 H9.out.2.2).mono ?_; rintro e wx ⟨rfl, rfl⟩))
              have hcell9 := HCE.out w9 H9.out.1.2.2.1
              by_cases hlast : j + 1 = M ∧ F ≤ j
              · obtain ⟨hl1, hl2⟩ := hlast
                have u1 : ((j : Int) == (M : Int) - 1) = true := by simp; omega
                have u2 : decide ((F : Int) ≤ (j : Int)) = true := by simp; omega
                have u3 : decide (F ≤ j) = true := by simpa using hl2
                obtain ⟨y2, hy2⟩ : ∃ y2, y2 = decide (G1 = torn (ones x)) := ⟨_, rfl⟩
                have HY2 : Hid (y2 = decide (G1 = torn (ones x))) := hy2
                have SM2 : Hid (∀ W b, Out W c6 b8 G1 → Out W c6 b (torn (ones x)) → Calls Try.prog 33 #[.slice (some ⟨b8, 0, none⟩) 64 64, .slice (some ⟨b, 0, none⟩) 64 64] W fun e w' => e = .returned (.bool y2) ∧ W = w') := fun W b ha hb =>
                  (same_any W _ _ _ _ (ha.slice HSG.out) (hb.slice (torn_sec (ones_sec x hx256)))).mono fun e w' h => ⟨by rw [h.1, HY2.out], h.2.symm⟩
                have HYY : Hid (y1 = true ∨ y2 = true) := by
                  rcases HW.out with h | ⟨_, _, h⟩
                  · left; rw [HY1.out, h]; simp
                  · right; rw [HY2.out, h]; simp
                clear hy2 hl1 hl2
                go_upto_region 31 with (first | (go_at_call 32; refine (HFU.out w9).mono ?_; rintro e w10 ⟨rfl, r10, b10⟩; have R10 : Hid (Row w10 w9.heap.size 5 (bcells (ones x))) := r10; have H10 : Hid (St w B w10 c6 g m6 ∧ Out w10 c6 b8 G1 ∧ (c6 w9.heap.size).1 ≠ 0 ∧ b8 ≠ w9.heap.size) := ⟨H9.out.1.below b10, H9.out.2.1.below b10, H9.out.1.1.2.2 _ (Nat.le_refl _), by have := H9.out.2.1.1.lt; omega⟩; clear r10 b10) | (at_builtin; refine wpList_appZeros rfl (.tmp 140) (.const (.int .i64 32)) rfl w9.heap.size (ones x) (by simp [ones]) R10.out rfl rfl ?_; intro w11 r11 s11 ch11; have H11 : Hid (St w B w11 c6 g m6 ∧ Out w11 c6 b8 G1 ∧ Out w11 c6 w9.heap.size (torn (ones x))) := ⟨zeros_st H10.out.1 ch11 H10.out.2.2.1 s11 H9.out.1.2.2.2, ⟨ch11.row H10.out.2.2.2 H10.out.2.1.1, H10.out.2.1.2⟩, ⟨r11, H10.out.2.2.1⟩⟩; clear r11 s11 ch11) | (go_at_call 33; refine (SM2.out w11 _ H11.out.2.1 H11.out.2.2).mono ?_; rintro e wx ⟨rfl, rfl⟩))
                cases y1 with
                | true =>
                  go_wp2
                  exact ⟨⟨j + 1, by omega, by go_num, H11.out.1⟩, by simp [intOf]; omega⟩
                | false =>
                  have hy : y2 = true := by
                    rcases HYY.out with h | h
                    · cases h
                    · exact h
                  subst hy
                  go_wp2
                  exact ⟨⟨j + 1, by omega, by go_num, H11.out.1⟩, by simp [intOf]; omega⟩
              · have hy : y1 = true := by
                  rcases HW.out with h | ⟨h1, h2, _⟩
                  · rw [HY1.out, h]; simp
                  · exact absurd ⟨h1, h2⟩ hlast
                subst hy
                by_cases hjm : j + 1 = M
                · have u1 : ((j : Int) == (M : Int) - 1) = true := by simp; omega
                  have u2 : decide ((F : Int) ≤ (j : Int)) = false := by simp; omega
                  have u3 : decide (F ≤ j) = false := by simp; omega
                  go_wp2
                  go_roundw
                  case rel => exact ⟨j + 1, by omega, by go_num, H9.out.1⟩
                  case measure => simp [intOf]; omega
                · have u1 : ((j : Int) == (M : Int) - 1) = false := by simp; omega
                  go_wp2
                  go_roundw
                  case rel => exact ⟨j + 1, by omega, by go_num, H9.out.1⟩
                  case measure => simp [intOf]; omega
            · have e : j = M := by omega
              subst e
              have F5 : Hid (∀ W, Calls Try.prog 32 #[.int .u8 5] W fun e w' => e = .returned (.slice (some ⟨W.heap.size, 0, none⟩) 64 64) ∧ Row w' W.heap.size 5 (bcells (ones 5)) ∧ Below W.heap.size W w') := fun W => full_any W 5
              by_cases h40 : 40 ≤ j
              · have e40 : j = 40 := by omega
                have CL : Hid (∀ W b, St w B W c6 g m6 → Out W c6 b (ones 5) → Calls Try.prog 18 #[ptr g, .int .i64 1, .slice (some ⟨b, 0, none⟩) 64 64] W fun e w' => e = .returned (.tuple #[.int .i64 0, .int .i64 3]) ∧ Below B w w') := fun W b hs ho => by
                  have := tape_last hs HBT.out b ho
                  rw [if_pos h40, if_pos h40] at this
                  exact this
                subst e40
                go_wp2_with (first | (go_at_call 32; refine (F5.out wr).mono ?_; rintro e w9 ⟨rfl, r9, b9⟩; have H9 : Hid (St w B w9 c6 g m6 ∧ Out w9 c6 wr.heap.size (ones 5)) := ⟨HSJ.out.below b9, HSJ.out.out (Nat.le_refl _) r9⟩; clear r9 b9) | (go_at_call 18; refine (CL.out w9 _ H9.out.1 H9.out.2).mono ?_; rintro e w10 ⟨rfl, b10⟩))
                go_ret
                exact ⟨rfl, b10⟩
              · have CL : Hid (∀ W b, St w B W c6 g m6 → Out W c6 b (ones 5) → Calls Try.prog 18 #[ptr g, .int .i64 1, .slice (some ⟨b, 0, none⟩) 64 64] W fun e w' => e = .returned (.tuple #[.int .i64 (j : Int), .int .i64 0]) ∧ Below B w w') := fun W b hs ho => by
                  have := tape_last hs HBT.out b ho
                  rw [if_neg h40, if_neg h40] at this
                  exact this
                have u1 : ((j : Int) == 40) = false := by simp; omega
                go_wp2_with (first | (go_at_call 32; refine (F5.out wr).mono ?_; rintro e w9 ⟨rfl, r9, b9⟩; have H9 : Hid (St w B w9 c6 g m6 ∧ Out w9 c6 wr.heap.size (ones 5)) := ⟨HSJ.out.below b9, HSJ.out.out (Nat.le_refl _) r9⟩; clear r9 b9) | (go_at_call 18; refine (CL.out w9 _ H9.out.1 H9.out.2).mono ?_; rintro e w10 ⟨rfl, b10⟩))
                go_ret
                exact ⟨rfl, b10⟩
        · have hFlt : F < i := by omega
          rw [if_pos hFlt] at hA
          have HR : Hid (St w B wr c g m ∧ TapeIs m A Bl ∧ A = bs.take F ∧ Bl = (bs.take i).drop F ∧ m.steps < 100000) := by
            refine ⟨hst, hti, hA, ?_, by omega⟩
            have h1 : (A ++ Bl).drop F = Bl := by
              have : A.length = F := by rw [hA]; simp; omega
              rw [← this]
              simp
            rw [← hAB, h1]
          clear hst hti hAB hA
          have tF : ((F : Int) == (i : Int)) = false := by simp; omega
          have tF3 : decide (F = i) = false := by simpa using hFi
          go_upto_region 20 with (go_at_call 25; refine (tape_boot HR.out.1 HR.out.2.1 HR.out.2.2.2.2 v2 ks HK.out HB.out hnLL hFn HR.out.2.2.1 HR.out.2.2.2.1).mono ?_; rintro e w6 ⟨rfl, c6, m6, M, G, hs6, hb6⟩)
          have H6 : Hid (St w B w6 c6 g m6 ∧ Booted m6 bs F i M G) := ⟨hs6, hb6⟩
          have hlow := hb6.low
          have hhigh := hb6.high
          clear hs6 hb6
          go_upto_region 21 with (go_at_call 36; refine (tape_len H6.out.1 H6.out.2).mono ?_; rintro e w7 ⟨rfl, k7, rfl⟩)
          have H7 : Hid (St w B (w6.drewN k7) c6 g m6 ∧ Booted m6 bs F i M G) := ⟨H6.out.1.below (Below.drewN (Below.refl _ w6) k7), H6.out.2⟩
          clear H6
          have t1 : decide ((M : Int) < (F : Int)) = false := by simp; omega
          have t2 : decide ((i : Int) < (M : Int)) = false := by simp; omega
          have t1' : decide (M < F) = false := by simp; omega
          have t2' : decide (i < M) = false := by simp; omega
          go_wp2
          clear t1 t2 t1' t2'
          go_loopw [16] (fun jx W => ∃ j : Nat, j ≤ M ∧ jx = .int .i64 j ∧ St w B W c6 g m6) (fun jx _ => M - (intOf jx).toNat)
          case atStart => exact ⟨0, Nat.zero_le _, rfl, H7.out.1⟩
          case round =>
            obtain ⟨j, hj, rfl, hst⟩ := hrel
            have HBT : Hid (Booted m6 bs F i M G) := H7.out.2
            have HSJ : Hid (St w B wr c6 g m6) := hst
            clear hst H7
            by_cases hjM : j < M
            · have hjL : j < bs.length := by omega
              obtain ⟨bb, off, cv', hv, hcell⟩ := HS.out.byte (W := w) (Below.refl _ _) j hjL
              injection hv with hv1 hv2 hv3
              subst hv1
              obtain ⟨x, hx⟩ : ∃ x, x = bs.getD j 0 := ⟨_, rfl⟩
              rw [← hx] at hcell
              have hx256 : x < 256 := by
                rw [hx]
                simpa [hjL] using HBS.out _ (List.getElem_mem hjL)
              have HCE : Hid (∀ W, Below B w W → W.cell? ⟨bb, off + j, none⟩ = some (.int .u8 (x : Nat))) := fun W hb => cell_later (by rw [← HB.out]; exact hb) hcell
              obtain ⟨G1, hG1⟩ : ∃ G1, G1 = G.getD j [] := ⟨_, rfl⟩
              have HG : Hid (G1 = G.getD j []) := hG1
              have HSG : Hid (Sec G1) := by rw [hG1]; exact HBT.out.sec HBS.out j hjM
              have HFU : Hid (∀ W, Calls Try.prog 32 #[.int .u8 (x : Int)] W fun e w' => e = .returned (.slice (some ⟨W.heap.size, 0, none⟩) 64 64) ∧ Row w' W.heap.size 5 (bcells (ones x)) ∧ Below W.heap.size W w') := fun W => full_any W x
              have HW : Hid (G1 = ones x ∨ (j + 1 = M ∧ F ≤ j ∧ G1 = torn (ones x))) := by rw [hG1, hx]; exact HBT.out.what j hjM
              have HRD : Hid (Calls Try.prog 20 #[ptr g, .int .i64 1, .int .i64 (j : Int)] wr fun e w' => ∃ b, e = .returned (.tuple #[.slice (some ⟨b, 0, none⟩) 64 64, .int .i64 0]) ∧ wr.heap.size ≤ b ∧ Row w' b 5 (bcells G1) ∧ Below wr.heap.size wr w') := by rw [hG1]; exact tape_read HSJ.out HBT.out j hjM
              clear hcell hx hv2 hv3 hG1
              go_upto_region 27 with (go_at_call 20; refine HRD.out.mono ?_; rintro e w8 ⟨b8, rfl, hb8, r8, bl8⟩)
              have H8 : Hid (St w B w8 c6 g m6 ∧ Out w8 c6 b8 G1) := ⟨HSJ.out.below bl8, HSJ.out.out hb8 r8⟩
              have hcell := HCE.out w8 H8.out.1.2.2.1
              clear r8 bl8 hb8
              obtain ⟨y1, hy1⟩ : ∃ y1, y1 = decide (G1 = ones x) := ⟨_, rfl⟩
              have HY1 : Hid (y1 = decide (G1 = ones x)) := hy1
              have SM : Hid (∀ W b, Out W c6 b8 G1 → Out W c6 b (ones x) → Calls Try.prog 33 #[.slice (some ⟨b8, 0, none⟩) 64 64, .slice (some ⟨b, 0, none⟩) 64 64] W fun e w' => e = .returned (.bool y1) ∧ W = w') := fun W b ha hb =>
                (same_any W _ _ _ _ (ha.slice HSG.out) (hb.slice (ones_sec x hx256))).mono fun e w' h => ⟨by rw [h.1, HY1.out], h.2.symm⟩
              clear hy1
              go_upto_region 30 with (first | (go_at_call 32; refine (HFU.out w8).mono ?_; rintro e w9 ⟨rfl, r9, b9⟩; have H9 : Hid (St w B w9 c6 g m6 ∧ Out w9 c6 b8 G1 ∧ Out w9 c6 w8.heap.size (ones x)) := ⟨H8.out.1.below b9, H8.out.2.below b9, H8.out.1.out (Nat.le_refl _) r9⟩; clear r9 b9) | (go_at_call 33; refine (SM.out w9 _ H9.out.2.1 H9.out.2.2).mono ?_; rintro e wx ⟨rfl, rfl⟩))
              have hcell9 := HCE.out w9 H9.out.1.2.2.1
              by_cases hlast : j + 1 = M ∧ F ≤ j
              · obtain ⟨hl1, hl2⟩ := hlast
                have u1 : ((j : Int) == (M : Int) - 1) = true := by simp; omega
                have u2 : decide ((F : Int) ≤ (j : Int)) = true := by simp; omega
                have u3 : decide (F ≤ j) = true := by simpa using hl2
                obtain ⟨y2, hy2⟩ : ∃ y2, y2 = decide (G1 = torn (ones x)) := ⟨_, rfl⟩
                have HY2 : Hid (y2 = decide (G1 = torn (ones x))) := hy2
                have SM2 : Hid (∀ W b, Out W c6 b8 G1 → Out W c6 b (torn (ones x)) → Calls Try.prog 33 #[.slice (some ⟨b8, 0, none⟩) 64 64, .slice (some ⟨b, 0, none⟩) 64 64] W fun e w' => e = .returned (.bool y2) ∧ W = w') := fun W b ha hb =>
                  (same_any W _ _ _ _ (ha.slice HSG.out) (hb.slice (torn_sec (ones_sec x hx256)))).mono fun e w' h => ⟨by rw [h.1, HY2.out], h.2.symm⟩
                have HYY : Hid (y1 = true ∨ y2 = true) := by
                  rcases HW.out with h | ⟨_, _, h⟩
                  · left; rw [HY1.out, h]; simp
                  · right; rw [HY2.out, h]; simp
                clear hy2 hl1 hl2
                go_upto_region 31 with (first | (go_at_call 32; refine (HFU.out w9).mono ?_; rintro e w10 ⟨rfl, r10, b10⟩; have R10 : Hid (Row w10 w9.heap.size 5 (bcells (ones x))) := r10; have H10 : Hid (St w B w10 c6 g m6 ∧ Out w10 c6 b8 G1 ∧ (c6 w9.heap.size).1 ≠ 0 ∧ b8 ≠ w9.heap.size) := ⟨H9.out.1.below b10, H9.out.2.1.below b10, H9.out.1.1.2.2 _ (Nat.le_refl _), by have := H9.out.2.1.1.lt; omega⟩; clear r10 b10) | (at_builtin; refine wpList_appZeros rfl (.tmp 140) (.const (.int .i64 32)) rfl w9.heap.size (ones x) (by simp [ones]) R10.out rfl rfl ?_; intro w11 r11 s11 ch11; have H11 : Hid (St w B w11 c6 g m6 ∧ Out w11 c6 b8 G1 ∧ Out w11 c6 w9.heap.size (torn (ones x))) := ⟨zeros_st H10.out.1 ch11 H10.out.2.2.1 s11 H9.out.1.2.2.2, ⟨ch11.row H10.out.2.2.2 H10.out.2.1.1, H10.out.2.1.2⟩, ⟨r11, H10.out.2.2.1⟩⟩; clear r11 s11 ch11) | (go_at_call 33; refine (SM2.out w11 _ H11.out.2.1 H11.out.2.2).mono ?_; rintro e wx ⟨rfl, rfl⟩))
                cases y1 with
                | true =>
                  go_wp2
                  exact ⟨⟨j + 1, by omega, by go_num, H11.out.1⟩, by simp [intOf]; omega⟩
                | false =>
                  have hy : y2 = true := by
                    rcases HYY.out with h | h
                    · cases h
                    · exact h
                  subst hy
                  go_wp2
                  exact ⟨⟨j + 1, by omega, by go_num, H11.out.1⟩, by simp [intOf]; omega⟩
              · have hy : y1 = true := by
                  rcases HW.out with h | ⟨h1, h2, _⟩
                  · rw [HY1.out, h]; simp
                  · exact absurd ⟨h1, h2⟩ hlast
                subst hy
                by_cases hjm : j + 1 = M
                · have u1 : ((j : Int) == (M : Int) - 1) = true := by simp; omega
                  have u2 : decide ((F : Int) ≤ (j : Int)) = false := by simp; omega
                  have u3 : decide (F ≤ j) = false := by simp; omega
                  go_wp2
                  go_roundw
                  case rel => exact ⟨j + 1, by omega, by go_num, H9.out.1⟩
                  case measure => simp [intOf]; omega
                · have u1 : ((j : Int) == (M : Int) - 1) = false := by simp; omega
                  go_wp2
                  go_roundw
                  case rel => exact ⟨j + 1, by omega, by go_num, H9.out.1⟩
                  case measure => simp [intOf]; omega
            · have e : j = M := by omega
              subst e
              have F5 : Hid (∀ W, Calls Try.prog 32 #[.int .u8 5] W fun e w' => e = .returned (.slice (some ⟨W.heap.size, 0, none⟩) 64 64) ∧ Row w' W.heap.size 5 (bcells (ones 5)) ∧ Below W.heap.size W w') := fun W => full_any W 5
              by_cases h40 : 40 ≤ j
              · have e40 : j = 40 := by omega
                have CL : Hid (∀ W b, St w B W c6 g m6 → Out W c6 b (ones 5) → Calls Try.prog 18 #[ptr g, .int .i64 1, .slice (some ⟨b, 0, none⟩) 64 64] W fun e w' => e = .returned (.tuple #[.int .i64 0, .int .i64 3]) ∧ Below B w w') := fun W b hs ho => by
                  have := tape_last hs HBT.out b ho
                  rw [if_pos h40, if_pos h40] at this
                  exact this
                subst e40
                go_wp2_with (first | (go_at_call 32; refine (F5.out wr).mono ?_; rintro e w9 ⟨rfl, r9, b9⟩; have H9 : Hid (St w B w9 c6 g m6 ∧ Out w9 c6 wr.heap.size (ones 5)) := ⟨HSJ.out.below b9, HSJ.out.out (Nat.le_refl _) r9⟩; clear r9 b9) | (go_at_call 18; refine (CL.out w9 _ H9.out.1 H9.out.2).mono ?_; rintro e w10 ⟨rfl, b10⟩))
                go_ret
                exact ⟨rfl, b10⟩
              · have CL : Hid (∀ W b, St w B W c6 g m6 → Out W c6 b (ones 5) → Calls Try.prog 18 #[ptr g, .int .i64 1, .slice (some ⟨b, 0, none⟩) 64 64] W fun e w' => e = .returned (.tuple #[.int .i64 (j : Int), .int .i64 0]) ∧ Below B w w') := fun W b hs ho => by
                  have := tape_last hs HBT.out b ho
                  rw [if_neg h40, if_neg h40] at this
                  exact this
                have u1 : ((j : Int) == 40) = false := by simp; omega
                go_wp2_with (first | (go_at_call 32; refine (F5.out wr).mono ?_; rintro e w9 ⟨rfl, r9, b9⟩; have H9 : Hid (St w B w9 c6 g m6 ∧ Out w9 c6 wr.heap.size (ones 5)) := ⟨HSJ.out.below b9, HSJ.out.out (Nat.le_refl _) r9⟩; clear r9 b9) | (go_at_call 18; refine (CL.out w9 _ H9.out.1 H9.out.2).mono ?_; rintro e w10 ⟨rfl, b10⟩))
                go_ret
                exact ⟨rfl, b10⟩
end Go.Proofs.Yteacjeihliajpaa

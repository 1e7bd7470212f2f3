/- The walk of the law PlantOff. -/
import Derived.Test.YteacjeihliajpaaOffC
import Derived.Test.YteacjeihliajpaaTapeW
namespace Go.Proofs.Yteacjeihliajpaa
open Go.RowKit Go.Maps

def OffTo (w : World) (B g : Nat) (W : World) (F d : Nat) : Prop := ∃ c m, St w B W c g m ∧ OffIs m F d
theorem und40 : Try.prog.underlying 40 = some (.slice 5) := Try.underlying40

set_option maxHeartbeats 2000000 in
set_option maxRecDepth 100000 in
theorem plantOff_any (w : World) (v0 : Value) (bs : List Nat) (fl : Int) (hs0 : SliceIn w v0 bs) (hf0 : -9223372036854775808 ≤ fl) (hf1 : fl ≤ 9223372036854775807) (hl62 : bs.length < 4611686018427387904) :
    Calls Try.prog 6 #[v0, .int .i64 fl] w fun e w' => e = .returned (.bool true) ∧ Below w.heap.size w w' := by
  obtain ⟨B, hB⟩ : ∃ B, B = w.heap.size := ⟨_, rfl⟩
  rw [← hB]
  have HB : Hid (B = w.heap.size) := hB
  obtain ⟨L, hL⟩ : ∃ L, L = bs.length := ⟨_, rfl⟩
  have HL : Hid (L = bs.length) := hL
  obtain ⟨pv, cv, rfl, _⟩ := hs0.shape
  have HS : Hid (SliceIn w (.slice pv L cv) bs) := by rw [hL]; exact hs0
  have HBS : Hid (∀ x ∈ bs, x < 256) := hs0.lt256
  have hL62 : L < 4611686018427387904 := by omega
  have HF9 : Hid (∀ W, Calls Try.prog 32 #[.int .u8 9] W fun e w' => e = .returned (.slice (some ⟨W.heap.size, 0, none⟩) 64 64) ∧ Row w' W.heap.size 5 (bcells (ones 9)) ∧ Below W.heap.size W w') := fun W => full_any W 9
  clear hl62
  by_cases hneg : fl < 0
  · obtain ⟨z, hz⟩ : ∃ z : Nat, fl = -(z : Int) - 1 := ⟨(-(fl + 1)).toNat, by omega⟩
    subst hz
    have tneg : decide (-(z : Int) - 1 < 0) = true := by simp; omega
    obtain ⟨F, hF⟩ : ∃ F, F = z % 12 := ⟨_, rfl⟩
    have hFn : F < 12 := by omega
    have hmod : (z : Int) % 12 = (F : Int) := by rw [hF]; simp
    clear hF
    rw [← hL]
    clear hs0 hL hB
    go_enter Try.func6, Try.ntmps6
    go_upto_region 2 with (go_at_call 8; refine (shown_any w).mono ?_; rintro e w1 ⟨rfl, b1⟩)
    refine wp_region_lit ?_
    refine wpList_oneInt _ rfl rfl 8 rfl ?_
    intro w2 r2 s2 b2
    simp only [Act.put, List.setIfInBounds_toArray, List.set_cons_succ, List.set_cons_zero]
    refine wpList_oneInt _ rfl rfl 8 rfl ?_
    intro w3 r3 s3 b3
    simp only [Act.put, List.setIfInBounds_toArray, List.set_cons_succ, List.set_cons_zero]
    refine wpList_build24 (.tmp 31) (.tmp 32) rfl rfl (.slice (some ⟨w1.heap.size, 0, none⟩) 1 1) (.slice (some ⟨w2.heap.size, 0, none⟩) 1 1) rfl rfl rfl rfl ?_
    simp only [Act.put, List.setIfInBounds_toArray, List.set_cons_succ, List.set_cons_zero]
    have i1 : IntsIn w3 (.slice (some ⟨w1.heap.size, 0, none⟩) 1 1) [8] := intsIn_one w3 _ 3 8 (r2.later b3 (by omega))
    have i2 : IntsIn w3 (.slice (some ⟨w2.heap.size, 0, none⟩) 1 1) [8] := intsIn_one w3 _ 3 8 r3
    refine wpList_callF en9 [.tmp 33] _ rfl rfl [.agg #[.slice (some ⟨w1.heap.size, 0, none⟩) 1 1, .slice (some ⟨w2.heap.size, 0, none⟩) 1 1]] rfl ?_
    refine (Live.new w3 (fun _ => (1, 0)) 0 _ _ [8] [8] i1 i2 (by decide)).mono ?_
    rintro e w4 ⟨g, c4, rfl, hg, hc4, _, hl4, b4⟩
    refine ⟨_, rfl, ?_⟩
    simp only [Act.put, List.setIfInBounds_toArray, List.set_cons_succ, List.set_cons_zero]
    have HT0 : Hid (St w B w4 c4 g (newPl [8] [8])) := by
      have h13 : Below B w w3 := by
        rw [HB.out]
        have := b1.size
        exact b1.trans ((b2.mono (by omega)).trans (b3.mono (by omega)))
      have hs3 : B ≤ w3.heap.size := by rw [HB.out]; have := b1.size; omega
      refine ⟨hl4, fun b hb => ?_, h13.trans (b4.mono hs3), Nat.le_trans hs3 b4.size⟩
      rw [hc4 b (by omega)]
      simp
    clear r2 s2 b2 r3 s3 b3 i1 i2 hl4 hc4 b4 hg b1
    go_upto_region 7 with fail
    go_upto_region 8 with fail
    rw [hmod]
    clear hmod tneg
    go_upto_region 9 with (go_at_call 23; refine (st_fuse HT0.out (F : Int) (by omega) (by omega)).mono ?_; rintro e w5 ⟨rfl, c5, hs5⟩)
    have HT5 : Hid (OffTo w B g w5 F 0) := ⟨c5, _, hs5, off_new F hFn⟩
    clear hs5
    go_wp2
    go_loopw [8, 9] (fun dx ix W => ∃ i d : Nat, i ≤ L ∧ i ≤ 20 ∧ ix = .int .i64 i ∧ dx = .int .i64 d ∧ d ≤ F ∧ OffTo w B g W F d) (fun _ ix _ => L - (intOf ix).toNat)
    case atStart => exact ⟨0, 0, Nat.zero_le _, Nat.zero_le _, rfl, rfl, Nat.zero_le _, HT5.out⟩
    case round =>
      obtain ⟨i, d, hi, hi20, rfl, rfl, hdF, c, m, hst, hof⟩ := hrel
      clear HT5 HT0
      have HST : Hid (St w B wr c g m ∧ OffIs m F d) := ⟨hst, hof⟩
      by_cases hlt : i < L ∧ i < 20
      · obtain ⟨hiL, hi2⟩ := hlt
        have hiL' : i < bs.length := by rw [← HL.out]; exact hiL
        obtain ⟨bb, off, cv', hv, hcell0⟩ := HS.out.byte (W := w) (Below.refl _ _) i hiL'
        injection hv with hv1 hv2 hv3
        subst hv1
        obtain ⟨x, hx⟩ : ∃ x, x = bs.getD i 0 := ⟨_, rfl⟩
        rw [← hx] at hcell0
        have hx256 : x < 256 := by
          rw [hx]
          simpa [hiL'] using HBS.out _ (List.getElem_mem hiL')
        have HCE : Hid (∀ W, Below B w W → W.cell? ⟨bb, off + i, none⟩ = some (.int .u8 (x : Nat))) := fun W hb => cell_later (by rw [← HB.out]; exact hb) hcell0
        have HFU : Hid (∀ W, Calls Try.prog 32 #[.int .u8 (x : Int)] W fun e w' => e = .returned (.slice (some ⟨W.heap.size, 0, none⟩) 64 64) ∧ Row w' W.heap.size 5 (bcells (ones x)) ∧ Below W.heap.size W w') := fun W => full_any W x
        have hcell := HCE.out wr hst.2.2.1
        clear hx hv2 hv3 hcell0 hst hof
        by_cases hpar : x % 2 = 0
        · have tp1 : ((x : Int) % 2 == 0) = true := by simp; omega
          have tp2 : (x : Int) % 2 = 0 := by omega
          go_upto_region 15 with fail
          clear tp1 tp2
          have HSC : Hid ((wr.drewN 1).cell? ⟨bb, off + i * 1, none⟩ = some (.int .u8 (x : Nat))) := by rw [show off + i * 1 = off + i by omega]; exact hcell
          refine wp_region_any (by kernel_rfl) (wpAny_of_held (S := fun W => W.cell? ⟨bb, off + i * 1, none⟩ = some (.int .u8 (x : Nat))) _ _ _ _ ?_)
          show wpAnyH _ _ _ _ _ 15 (Array.replicate 15 false) _ (wr.drewN 1)
          refine takeH (i := 0) (some 73) rfl rfl (by kernel_rfl) (by kernel_rfl) (by kernel_rfl) (fun _ _ _ h => h) (yMove rfl (.tmp 6) rfl (ptr g) rfl).yieldsIf HSC.out ?_
          simp only [Act.put, List.setIfInBounds_toArray, List.set_cons_succ, List.set_cons_zero]
          refine takeH (i := 1) (some 74) rfl rfl (by kernel_rfl) (by kernel_rfl) (by kernel_rfl) (fun _ _ _ h => h) (yMove rfl (.tmp 0) rfl (.slice (some ⟨bb, off, none⟩) L cv) rfl).yieldsIf HSC.out ?_
          simp only [Act.put, List.setIfInBounds_toArray, List.set_cons_succ, List.set_cons_zero]
          refine takeH (i := 2) (some 75) rfl rfl (by kernel_rfl) (by kernel_rfl) (by kernel_rfl) (fun _ _ _ h => h) (yMove rfl (.tmp 9) rfl (.int .i64 (i : Int)) rfl).yieldsIf HSC.out ?_
          simp only [Act.put, List.setIfInBounds_toArray, List.set_cons_succ, List.set_cons_zero]
          refine takeH (i := 3) (some 76) rfl rfl (by kernel_rfl) (by kernel_rfl) (by kernel_rfl) (fun _ _ _ h => h) (yIndex und40 info5 rfl (.tmp 74) (.tmp 75) rfl bb off L cv i rfl rfl hiL).yieldsIf HSC.out ?_
          simp only [Act.put, List.setIfInBounds_toArray, List.set_cons_succ, List.set_cons_zero]
          refine takeH (i := 4) (some 77) rfl rfl (by kernel_rfl) (by kernel_rfl) (by kernel_rfl) (fun _ _ _ h => h) (yLoad1H one5 rfl (.tmp 76) rfl bb (off + i * 1) rfl _ (fun W hW => hW)) HSC.out ?_
          simp only [Act.put, List.setIfInBounds_toArray, List.set_cons_succ, List.set_cons_zero]
          refine takeH (i := 5) (some 78) rfl rfl (by kernel_rfl) (by kernel_rfl) (by kernel_rfl) (fun _ _ _ h => h) (yConv rfl (.tmp 77) rfl x hx256 rfl).yieldsIf HSC.out ?_
          simp only [Act.put, List.setIfInBounds_toArray, List.set_cons_succ, List.set_cons_zero]
          refine takeH (i := 6) (some 79) rfl rfl (by kernel_rfl) (by kernel_rfl) (by kernel_rfl) (fun _ _ _ h => h) (yQuo rfl (.tmp 78) rfl x hx256 rfl).yieldsIf HSC.out ?_
          simp only [Act.put, List.setIfInBounds_toArray, List.set_cons_succ, List.set_cons_zero]
          refine takeH (i := 7) (some 80) rfl rfl (by kernel_rfl) (by kernel_rfl) (by kernel_rfl) (fun _ _ _ h => h) (yRem rfl (.tmp 79) rfl (x / 2) rfl).yieldsIf HSC.out ?_
          simp only [Act.put, List.setIfInBounds_toArray, List.set_cons_succ, List.set_cons_zero]
          refine takeH (i := 8) (some 81) rfl rfl (by kernel_rfl) (by kernel_rfl) (by kernel_rfl) (fun _ _ _ h => h) (yMove rfl (.tmp 0) rfl (.slice (some ⟨bb, off, none⟩) L cv) rfl).yieldsIf HSC.out ?_
          simp only [Act.put, List.setIfInBounds_toArray, List.set_cons_succ, List.set_cons_zero]
          refine takeH (i := 9) (some 82) rfl rfl (by kernel_rfl) (by kernel_rfl) (by kernel_rfl) (fun _ _ _ h => h) (yMove rfl (.tmp 9) rfl (.int .i64 (i : Int)) rfl).yieldsIf HSC.out ?_
          simp only [Act.put, List.setIfInBounds_toArray, List.set_cons_succ, List.set_cons_zero]
          refine takeH (i := 10) (some 83) rfl rfl (by kernel_rfl) (by kernel_rfl) (by kernel_rfl) (fun _ _ _ h => h) (yIndex und40 info5 rfl (.tmp 81) (.tmp 82) rfl bb off L cv i rfl rfl hiL).yieldsIf HSC.out ?_
          simp only [Act.put, List.setIfInBounds_toArray, List.set_cons_succ, List.set_cons_zero]
          refine takeH (i := 11) (some 84) rfl rfl (by kernel_rfl) (by kernel_rfl) (by kernel_rfl) (fun _ _ _ h => h) (yLoad1H one5 rfl (.tmp 83) rfl bb (off + i * 1) rfl _ (fun W hW => hW)) HSC.out ?_
          simp only [Act.put, List.setIfInBounds_toArray, List.set_cons_succ, List.set_cons_zero]
          refine oneH (i := 12) (by kernel_rfl) ?_
          refine opCallA (some 85) rfl rfl rfl 32 _ (run_call en32 [.tmp 84] _ rfl [.int .u8 (x : Int)] rfl) ?_
          refine (HFU.out (wr.drewN 1)).mono ?_
          rintro e w6 ⟨rfl, r6, b6⟩
          have hs6 : St w B w6 c g m := (HST.out.1.below (Below.drewN (Below.refl _ wr) 1)).below b6
          have ho6 : Out w6 c wr.heap.size (ones x) := HST.out.1.out (Nat.le_refl _) r6
          refine ⟨_, rfl, by rw [show off + i * 1 = off + i by omega]; exact HCE.out w6 hs6.2.2.1, ?_⟩
          simp only [Act.put, List.setIfInBounds_toArray, List.set_cons_succ, List.set_cons_zero]
          refine oneH (i := 13) (by kernel_rfl) ?_
          refine opCallA (some 86) rfl rfl rfl 16 _ (run_call en16 [.tmp 73, .const (.int .i64 0), .tmp 80, .tmp 85] _ rfl [ptr g, .int .i64 0, .int .i64 ((x / 2 % 8 : Nat) : Int), .slice (some ⟨wr.heap.size, 0, none⟩) 64 64] rfl) ?_
          refine (off_write hs6 HST.out.2 hFn wr.heap.size x hx256 ho6 ((x / 2 % 8 : Nat) : Int) (by omega) (by omega)).mono ?_
          rintro e w7 ⟨r, d', c7, m7, rfl, htold, hs7, ho7⟩
          have hc7 : w7.cell? ⟨bb, off + i * 1, none⟩ = some (.int .u8 (x : Nat)) := by rw [show off + i * 1 = off + i by omega]; exact HCE.out w7 hs7.2.2.1
          refine ⟨_, rfl, hc7, ?_⟩
          simp only [Act.put, List.setIfInBounds_toArray, List.set_cons_succ, List.set_cons_zero]
          refine oneH (i := 14) (by kernel_rfl) ?_
          refine opValue (some 10) rfl rfl rfl (.int .i64 r) w7 (by simp [execOp, Act.eval]) ⟨hc7, ?_⟩
          simp only [Act.put, List.setIfInBounds_toArray, List.set_cons_succ, List.set_cons_zero]
          refine wpAnyH_done (by kernel_rfl) ?_ _
          clear hc7 hs6 ho6 r6 b6 hcell
          have H7 : Hid (St w B w7 c7 g m7 ∧ OffIs m7 F d') := ⟨hs7, ho7⟩
          clear hs7 ho7
          rcases htold with ⟨rfl, rfl⟩ | ⟨rfl, hdlt, rfl⟩ | ⟨rfl, hdeq, rfl⟩
          · go_wp2
            exact ⟨⟨i + 1, d', by omega, by omega, by go_num, rfl, hdF, c7, m7, H7.out⟩, by simp [intOf]; omega⟩
          · go_wp2
            exact ⟨⟨i + 1, d + 1, by omega, by omega, by go_num, by go_num, by omega, c7, m7, H7.out⟩, by simp [intOf]; omega⟩
          · have hnlt : ¬ d' < F := by omega
            clear hdeq
            go_wp2
            exact ⟨⟨i + 1, d', by omega, by omega, by go_num, rfl, hdF, c7, m7, H7.out⟩, by simp [intOf]; omega⟩
        · have tp1 : ((x : Int) % 2 == 0) = false := by simp; omega
          have tp2 : ¬ (x : Int) % 2 = 0 := by omega
          go_upto_region 17 with (first | (go_at_call 32; refine (HFU.out wr).mono ?_; rintro e w6 ⟨rfl, r6, b6⟩; have HO6 : Hid (Out w6 c wr.heap.size (ones x) ∧ St w B w6 c g m) := ⟨HST.out.1.out (Nat.le_refl _) r6, HST.out.1.below b6⟩; clear r6 b6) | (go_at_call 18; refine (off_append HO6.out.2 HST.out.2 hFn wr.heap.size x hx256 HO6.out.1).mono ?_; rintro e w7 ⟨k7, r, d', c7, m7, rfl, htold, hs7, ho7⟩))
          clear tp1 tp2 hcell
          have H7 : Hid (St w B w7 c7 g m7 ∧ OffIs m7 F d') := ⟨hs7, ho7⟩
          clear hs7 ho7
          rcases htold with ⟨rfl, rfl⟩ | ⟨rfl, hdlt, rfl⟩ | ⟨rfl, hdeq, rfl⟩
          · go_wp2
            exact ⟨⟨i + 1, d', by omega, by omega, by go_num, rfl, hdF, c7, m7, H7.out⟩, by simp [intOf]; omega⟩
          · go_wp2
            exact ⟨⟨i + 1, d + 1, by omega, by omega, by go_num, by go_num, by omega, c7, m7, H7.out⟩, by simp [intOf]; omega⟩
          · have hnlt : ¬ d' < F := by omega
            clear hdeq
            go_wp2
            exact ⟨⟨i + 1, d', by omega, by omega, by go_num, rfl, hdF, c7, m7, H7.out⟩, by simp [intOf]; omega⟩
      · clear hst hof
        have hexit : ¬ i < L ∨ (i < L ∧ ¬ i < 20) := by omega
        rcases hexit with h1 | ⟨h1, h2⟩
        · go_upto_region 22 with fail
          have hd12 : d < 12 := by omega
          go_upto_region 24 with (go_at_call 34; refine (st_steps HST.out.1 HST.out.2).mono ?_; rintro e wx ⟨rfl, rfl⟩)
          go_upto_region 25 with (go_at_call 23; refine (st_fuse HST.out.1 0 (by decide) (by decide)).mono ?_; rintro e w5 ⟨rfl, c5, hs5⟩)
          have H5 : Hid (St w B w5 c5 g (m.fuseTo 0)) := hs5
          clear hs5
          go_upto_region 26 with (go_at_call 21; refine (st_last H5.out HST.out.2 hFn).mono ?_; rintro e w6 ⟨rfl, c6, m6, hs6, hd6⟩)
          have HD : Hid (Dead m6 d) := hd6
          have H6 : Hid (St w B w6 c6 g m6) := hs6
          clear hs6 hd6
          have hst6 : m6.steps < 1099511627775 := by have := HD.out.steps; omega
          go_upto_region 27 with (go_at_call 12; refine (two_clone H6.out hst6).mono ?_; rintro e w7 ⟨q, c7, rfl, ht7⟩)
          have H7 : Hid (Two w B w7 c7 g q m6 m6) := ht7
          clear ht7 hst6
          go_upto_region 29 with (go_at_call 35; refine (dead_on H7.out HD.out).mono ?_; rintro e wx ⟨rfl, rfl⟩)
          go_upto_region 30 with (go_at_call 20; refine (dead_read H7.out HD.out hd12).mono ?_; rintro e w8 ⟨rfl, ht8⟩)
          have H8 : Hid (Two w B w8 c7 g q m6 m6) := ht8
          clear ht8
          go_upto_region 31 with (first | (go_at_call 32; refine (HF9.out w8).mono ?_; rintro e w9 ⟨rfl, r9, b9⟩; have H9 : Hid (Two w B w9 c7 g q m6 m6 ∧ Row w9 w8.heap.size 5 (bcells (ones 9))) := ⟨H8.out.below b9, r9⟩; clear r9 b9) | (go_at_call 16; refine (dead_write H9.out.1 HD.out hd12 _ H9.out.2).mono ?_; rintro e w10 ⟨rfl, c10, ht10⟩))
          have H10 : Hid (Two w B w10 c10 g q m6 m6) := ht10
          clear ht10
          go_upto_region 32 with (first | (go_at_call 32; refine (HF9.out w10).mono ?_; rintro e w11 ⟨rfl, r11, b11⟩; have H11 : Hid (Two w B w11 c10 g q m6 m6 ∧ Row w11 w10.heap.size 5 (bcells (ones 9))) := ⟨H10.out.below b11, r11⟩; clear r11 b11) | (go_at_call 18; refine (dead_append H11.out.1 HD.out hd12 _ H11.out.2).mono ?_; rintro e w12 ⟨rfl, c12, ht12⟩))
          have H12 : Hid (Two w B w12 c12 g q m6 m6) := ht12
          clear ht12
          go_upto_region 33 with (go_at_call 21; refine (dead_flush H12.out HD.out hd12).mono ?_; rintro e w13 ⟨rfl, c13, ht13⟩)
          have H13 : Hid (Two w B w13 c13 g q m6 m6) := ht13
          clear ht13
          go_upto_region 34 with (go_at_call 23; refine (dead_fuse H13.out HD.out).mono ?_; rintro e w14 ⟨rfl, c14, ht14⟩)
          have H14 : Hid (Two w B w14 c14 g q m6 m6) := ht14
          obtain ⟨N, hN⟩ : ∃ N, N = m6.len 1 := ⟨_, rfl⟩
          have HN : Hid (N = m6.len 1) := hN
          have hs12 : m6.steps < 12 := by rw [HD.out.steps]; exact hd12
          clear ht14 hN
          go_upto_region 35 with (go_at_call 36; refine (two_len H14.out HD.out.n hs12 N HN.out).mono ?_; rintro e w15 ⟨rfl, ht15⟩)
          have H15 : Hid (Two w B w15 c14 g q m6 m6) := ht15
          clear ht15
          go_upto_region 37 with (first | (go_at_call 35; refine (dead_on H15.out HD.out).mono ?_; rintro e wx ⟨rfl, rfl⟩) | (go_at_call 34; refine (dead_steps H15.out HD.out).mono ?_; rintro e wx ⟨rfl, rfl⟩))
          refine wp_region_lit ?_
          refine wpList_move (.tmp 6) rfl rfl (ptr g) rfl ?_
          simp only [Act.put, List.setIfInBounds_toArray, List.set_cons_succ, List.set_cons_zero]
          refine wpList_oneInt _ rfl rfl 1 rfl ?_
          intro w16 r16 s16 b16
          simp only [Act.put, List.setIfInBounds_toArray, List.set_cons_succ, List.set_cons_zero]
          refine wpList_callF en25 [.tmp 184, .tmp 185] _ rfl rfl [ptr g, .slice (some ⟨w15.heap.size, 0, none⟩) 1 1] rfl ?_
          refine (two_bootP H15.out hs12 b16 r16).mono ?_
          rintro e w17 ⟨rfl, c17, ht17⟩
          refine ⟨_, rfl, ?_⟩
          refine wpList_nil ?_
          simp only [Act.put, List.setIfInBounds_toArray, List.set_cons_succ, List.set_cons_zero]
          have H17 : Hid (Two w B w17 c17 g q (m6.boot [1]) m6) := ht17
          clear r16 s16 b16 ht17
          go_upto_region 38 with fail
          refine wp_region_lit ?_
          refine wpList_move (.tmp 12) rfl rfl (ptr q) rfl ?_
          simp only [Act.put, List.setIfInBounds_toArray, List.set_cons_succ, List.set_cons_zero]
          refine wpList_oneInt _ rfl rfl 1 rfl ?_
          intro w18 r18 s18 b18
          simp only [Act.put, List.setIfInBounds_toArray, List.set_cons_succ, List.set_cons_zero]
          refine wpList_callF en25 [.tmp 187, .tmp 188] _ rfl rfl [ptr q, .slice (some ⟨w17.heap.size, 0, none⟩) 1 1] rfl ?_
          refine (two_bootQ H17.out hs12 b18 r18).mono ?_
          rintro e w19 ⟨rfl, c19, ht19⟩
          refine ⟨_, rfl, ?_⟩
          refine wpList_nil ?_
          simp only [Act.put, List.setIfInBounds_toArray, List.set_cons_succ, List.set_cons_zero]
          obtain ⟨mb, hmb⟩ : ∃ mb, mb = m6.boot [1] := ⟨_, rfl⟩
          rw [← hmb] at ht19
          have H19 : Hid (Two w B w19 c19 g q mb mb) := ht19
          have HU : Hid (Up mb ∧ N = mb.len 1) := by
            obtain ⟨h1, h2⟩ := HD.out.up hd12
            rw [hmb]
            exact ⟨h1, HN.out.trans h2.symm⟩
          clear r18 s18 b18 ht19 hmb H17 H15 H14 H13 H12 H10 H8 H7 H6 H5
          go_upto_region 40 with (go_at_call 36; refine (two_len H19.out HU.out.1.2.2.1 HU.out.1.2.2.2.2 N HU.out.2).mono ?_; rintro e w20 ⟨rfl, ht20⟩)
          have H20 : Hid (Two w B w20 c19 g q mb mb) := ht20
          clear ht20
          go_wp2
          go_loopw [23] (fun jx W => ∃ j : Nat, j ≤ 8 ∧ jx = .int .i64 j ∧ Two w B W c19 g q mb mb) (fun jx _ => 8 - (intOf jx).toNat)
          case atStart => exact ⟨0, Nat.zero_le _, rfl, H20.out⟩
          case round =>
            obtain ⟨j, hj, rfl, htw⟩ := hrel
            have HJ : Hid (Two w B wr c19 g q mb mb) := htw
            clear htw H20
            by_cases hj8 : j < 8
            · go_upto_region 46 with (go_at_call 20; refine (two_readP HJ.out HU.out.1 j hj8).mono ?_; rintro e w21 ⟨b21, rfl, r21, t21⟩)
              have H21 : Hid (Row w21 b21 5 (bcells (mb.rd 0 j)) ∧ Two w B w21 c19 g q mb mb) := ⟨r21, t21⟩
              clear r21 t21
              go_upto_region 47 with (go_at_call 20; refine (two_readQ H21.out.2 HU.out.1 j hj8 b21 _ H21.out.1).mono ?_; rintro e w22 ⟨b22, rfl, r22, r22', t22⟩)
              have H22 : Hid (Row w22 b22 5 (bcells (mb.rd 0 j)) ∧ Row w22 b21 5 (bcells (mb.rd 0 j)) ∧ Two w B w22 c19 g q mb mb) := ⟨r22, r22', t22⟩
              clear r22 r22' t22
              go_upto_region 48 with (go_at_call 33; refine (two_same HU.out.1 j b22 b21 H22.out.2.1 H22.out.1).mono ?_; rintro e wx ⟨rfl, rfl⟩)
              go_wp2
              exact ⟨⟨j + 1, by omega, by go_num, H22.out.2.2⟩, by simp [intOf]; omega⟩
            · have e : j = 8 := by omega
              subst e
              go_wp2_with (go_at_call 35; refine (two_on HJ.out HU.out.1).mono ?_; rintro e wx ⟨rfl, rfl⟩)
              go_ret
              exact ⟨rfl, HJ.out.2.2.2.1⟩
        · go_upto_region 22 with fail
          have hd12 : d < 12 := by omega
          go_upto_region 24 with (go_at_call 34; refine (st_steps HST.out.1 HST.out.2).mono ?_; rintro e wx ⟨rfl, rfl⟩)
          go_upto_region 25 with (go_at_call 23; refine (st_fuse HST.out.1 0 (by decide) (by decide)).mono ?_; rintro e w5 ⟨rfl, c5, hs5⟩)
          have H5 : Hid (St w B w5 c5 g (m.fuseTo 0)) := hs5
          clear hs5
          go_upto_region 26 with (go_at_call 21; refine (st_last H5.out HST.out.2 hFn).mono ?_; rintro e w6 ⟨rfl, c6, m6, hs6, hd6⟩)
          have HD : Hid (Dead m6 d) := hd6
          have H6 : Hid (St w B w6 c6 g m6) := hs6
          clear hs6 hd6
          have hst6 : m6.steps < 1099511627775 := by have := HD.out.steps; omega
          go_upto_region 27 with (go_at_call 12; refine (two_clone H6.out hst6).mono ?_; rintro e w7 ⟨q, c7, rfl, ht7⟩)
          have H7 : Hid (Two w B w7 c7 g q m6 m6) := ht7
          clear ht7 hst6
          go_upto_region 29 with (go_at_call 35; refine (dead_on H7.out HD.out).mono ?_; rintro e wx ⟨rfl, rfl⟩)
          go_upto_region 30 with (go_at_call 20; refine (dead_read H7.out HD.out hd12).mono ?_; rintro e w8 ⟨rfl, ht8⟩)
          have H8 : Hid (Two w B w8 c7 g q m6 m6) := ht8
          clear ht8
          go_upto_region 31 with (first | (go_at_call 32; refine (HF9.out w8).mono ?_; rintro e w9 ⟨rfl, r9, b9⟩; have H9 : Hid (Two w B w9 c7 g q m6 m6 ∧ Row w9 w8.heap.size 5 (bcells (ones 9))) := ⟨H8.out.below b9, r9⟩; clear r9 b9) | (go_at_call 16; refine (dead_write H9.out.1 HD.out hd12 _ H9.out.2).mono ?_; rintro e w10 ⟨rfl, c10, ht10⟩))
          have H10 : Hid (Two w B w10 c10 g q m6 m6) := ht10
          clear ht10
          go_upto_region 32 with (first | (go_at_call 32; refine (HF9.out w10).mono ?_; rintro e w11 ⟨rfl, r11, b11⟩; have H11 : Hid (Two w B w11 c10 g q m6 m6 ∧ Row w11 w10.heap.size 5 (bcells (ones 9))) := ⟨H10.out.below b11, r11⟩; clear r11 b11) | (go_at_call 18; refine (dead_append H11.out.1 HD.out hd12 _ H11.out.2).mono ?_; rintro e w12 ⟨rfl, c12, ht12⟩))
          have H12 : Hid (Two w B w12 c12 g q m6 m6) := ht12
          clear ht12
          go_upto_region 33 with (go_at_call 21; refine (dead_flush H12.out HD.out hd12).mono ?_; rintro e w13 ⟨rfl, c13, ht13⟩)
          have H13 : Hid (Two w B w13 c13 g q m6 m6) := ht13
          clear ht13
          go_upto_region 34 with (go_at_call 23; refine (dead_fuse H13.out HD.out).mono ?_; rintro e w14 ⟨rfl, c14, ht14⟩)
          have H14 : Hid (Two w B w14 c14 g q m6 m6) := ht14
          obtain ⟨N, hN⟩ : ∃ N, N = m6.len 1 := ⟨_, rfl⟩
          have HN : Hid (N = m6.len 1) := hN
          have hs12 : m6.steps < 12 := by rw [HD.out.steps]; exact hd12
          clear ht14 hN
          go_upto_region 35 with (go_at_call 36; refine (two_len H14.out HD.out.n hs12 N HN.out).mono ?_; rintro e w15 ⟨rfl, ht15⟩)
          have H15 : Hid (Two w B w15 c14 g q m6 m6) := ht15
          clear ht15
          go_upto_region 37 with (first | (go_at_call 35; refine (dead_on H15.out HD.out).mono ?_; rintro e wx ⟨rfl, rfl⟩) | (go_at_call 34; refine (dead_steps H15.out HD.out).mono ?_; rintro e wx ⟨rfl, rfl⟩))
          refine wp_region_lit ?_
          refine wpList_move (.tmp 6) rfl rfl (ptr g) rfl ?_
          simp only [Act.put, List.setIfInBounds_toArray, List.set_cons_succ, List.set_cons_zero]
          refine wpList_oneInt _ rfl rfl 1 rfl ?_
          intro w16 r16 s16 b16
          simp only [Act.put, List.setIfInBounds_toArray, List.set_cons_succ, List.set_cons_zero]
          refine wpList_callF en25 [.tmp 184, .tmp 185] _ rfl rfl [ptr g, .slice (some ⟨w15.heap.size, 0, none⟩) 1 1] rfl ?_
          refine (two_bootP H15.out hs12 b16 r16).mono ?_
          rintro e w17 ⟨rfl, c17, ht17⟩
          refine ⟨_, rfl, ?_⟩
          refine wpList_nil ?_
          simp only [Act.put, List.setIfInBounds_toArray, List.set_cons_succ, List.set_cons_zero]
          have H17 : Hid (Two w B w17 c17 g q (m6.boot [1]) m6) := ht17
          clear r16 s16 b16 ht17
          go_upto_region 38 with fail
          refine wp_region_lit ?_
          refine wpList_move (.tmp 12) rfl rfl (ptr q) rfl ?_
          simp only [Act.put, List.setIfInBounds_toArray, List.set_cons_succ, List.set_cons_zero]
          refine wpList_oneInt _ rfl rfl 1 rfl ?_
          intro w18 r18 s18 b18
          simp only [Act.put, List.setIfInBounds_toArray, List.set_cons_succ, List.set_cons_zero]
          refine wpList_callF en25 [.tmp 187, .tmp 188] _ rfl rfl [ptr q, .slice (some ⟨w17.heap.size, 0, none⟩) 1 1] rfl ?_
          refine (two_bootQ H17.out hs12 b18 r18).mono ?_
          rintro e w19 ⟨rfl, c19, ht19⟩
          refine ⟨_, rfl, ?_⟩
          refine wpList_nil ?_
          simp only [Act.put, List.setIfInBounds_toArray, List.set_cons_succ, List.set_cons_zero]
          obtain ⟨mb, hmb⟩ : ∃ mb, mb = m6.boot [1] := ⟨_, rfl⟩
          rw [← hmb] at ht19
          have H19 : Hid (Two w B w19 c19 g q mb mb) := ht19
          have HU : Hid (Up mb ∧ N = mb.len 1) := by
            obtain ⟨h1, h2⟩ := HD.out.up hd12
            rw [hmb]
            exact ⟨h1, HN.out.trans h2.symm⟩
          clear r18 s18 b18 ht19 hmb H17 H15 H14 H13 H12 H10 H8 H7 H6 H5
          go_upto_region 40 with (go_at_call 36; refine (two_len H19.out HU.out.1.2.2.1 HU.out.1.2.2.2.2 N HU.out.2).mono ?_; rintro e w20 ⟨rfl, ht20⟩)
          have H20 : Hid (Two w B w20 c19 g q mb mb) := ht20
          clear ht20
          go_wp2
          go_loopw [23] (fun jx W => ∃ j : Nat, j ≤ 8 ∧ jx = .int .i64 j ∧ Two w B W c19 g q mb mb) (fun jx _ => 8 - (intOf jx).toNat)
          case atStart => exact ⟨0, Nat.zero_le _, rfl, H20.out⟩
          case round =>
            obtain ⟨j, hj, rfl, htw⟩ := hrel
            have HJ : Hid (Two w B wr c19 g q mb mb) := htw
            clear htw H20
            by_cases hj8 : j < 8
            · go_upto_region 46 with (go_at_call 20; refine (two_readP HJ.out HU.out.1 j hj8).mono ?_; rintro e w21 ⟨b21, rfl, r21, t21⟩)
              have H21 : Hid (Row w21 b21 5 (bcells (mb.rd 0 j)) ∧ Two w B w21 c19 g q mb mb) := ⟨r21, t21⟩
              clear r21 t21
              go_upto_region 47 with (go_at_call 20; refine (two_readQ H21.out.2 HU.out.1 j hj8 b21 _ H21.out.1).mono ?_; rintro e w22 ⟨b22, rfl, r22, r22', t22⟩)
              have H22 : Hid (Row w22 b22 5 (bcells (mb.rd 0 j)) ∧ Row w22 b21 5 (bcells (mb.rd 0 j)) ∧ Two w B w22 c19 g q mb mb) := ⟨r22, r22', t22⟩
              clear r22 r22' t22
              go_upto_region 48 with (go_at_call 33; refine (two_same HU.out.1 j b22 b21 H22.out.2.1 H22.out.1).mono ?_; rintro e wx ⟨rfl, rfl⟩)
              go_wp2
              exact ⟨⟨j + 1, by omega, by go_num, H22.out.2.2⟩, by simp [intOf]; omega⟩
            · have e : j = 8 := by omega
              subst e
              go_wp2_with (go_at_call 35; refine (two_on HJ.out HU.out.1).mono ?_; rintro e wx ⟨rfl, rfl⟩)
              go_ret
              exact ⟨rfl, HJ.out.2.2.2.1⟩
  · obtain ⟨z, hz⟩ : ∃ z : Nat, fl = (z : Int) := ⟨fl.toNat, by omega⟩
    subst hz
    have tneg : decide ((z : Int) < 0) = false := by simp
    obtain ⟨F, hF⟩ : ∃ F, F = z % 12 := ⟨_, rfl⟩
    have hFn : F < 12 := by omega
    have hmod : (z : Int) % 12 = (F : Int) := by rw [hF]; simp
    clear hF
    rw [← hL]
    clear hs0 hL hB
    go_enter Try.func6, Try.ntmps6
    go_upto_region 2 with (go_at_call 8; refine (shown_any w).mono ?_; rintro e w1 ⟨rfl, b1⟩)
    refine wp_region_lit ?_
    refine wpList_oneInt _ rfl rfl 8 rfl ?_
    intro w2 r2 s2 b2
    simp only [Act.put, List.setIfInBounds_toArray, List.set_cons_succ, List.set_cons_zero]
    refine wpList_oneInt _ rfl rfl 8 rfl ?_
    intro w3 r3 s3 b3
    simp only [Act.put, List.setIfInBounds_toArray, List.set_cons_succ, List.set_cons_zero]
    refine wpList_build24 (.tmp 31) (.tmp 32) rfl rfl (.slice (some ⟨w1.heap.size, 0, none⟩) 1 1) (.slice (some ⟨w2.heap.size, 0, none⟩) 1 1) rfl rfl rfl rfl ?_
    simp only [Act.put, List.setIfInBounds_toArray, List.set_cons_succ, List.set_cons_zero]
    have i1 : IntsIn w3 (.slice (some ⟨w1.heap.size, 0, none⟩) 1 1) [8] := intsIn_one w3 _ 3 8 (r2.later b3 (by omega))
    have i2 : IntsIn w3 (.slice (some ⟨w2.heap.size, 0, none⟩) 1 1) [8] := intsIn_one w3 _ 3 8 r3
    refine wpList_callF en9 [.tmp 33] _ rfl rfl [.agg #[.slice (some ⟨w1.heap.size, 0, none⟩) 1 1, .slice (some ⟨w2.heap.size, 0, none⟩) 1 1]] rfl ?_
    refine (Live.new w3 (fun _ => (1, 0)) 0 _ _ [8] [8] i1 i2 (by decide)).mono ?_
    rintro e w4 ⟨g, c4, rfl, hg, hc4, _, hl4, b4⟩
    refine ⟨_, rfl, ?_⟩
    simp only [Act.put, List.setIfInBounds_toArray, List.set_cons_succ, List.set_cons_zero]
    have HT0 : Hid (St w B w4 c4 g (newPl [8] [8])) := by
      have h13 : Below B w w3 := by
        rw [HB.out]
        have := b1.size
        exact b1.trans ((b2.mono (by omega)).trans (b3.mono (by omega)))
      have hs3 : B ≤ w3.heap.size := by rw [HB.out]; have := b1.size; omega
      refine ⟨hl4, fun b hb => ?_, h13.trans (b4.mono hs3), Nat.le_trans hs3 b4.size⟩
      rw [hc4 b (by omega)]
      simp
    clear r2 s2 b2 r3 s3 b3 i1 i2 hl4 hc4 b4 hg b1
    go_upto_region 7 with fail
    go_upto_region 8 with fail
    rw [hmod]
    clear hmod tneg
    go_upto_region 9 with (go_at_call 23; refine (st_fuse HT0.out (F : Int) (by omega) (by omega)).mono ?_; rintro e w5 ⟨rfl, c5, hs5⟩)
    have HT5 : Hid (OffTo w B g w5 F 0) := ⟨c5, _, hs5, off_new F hFn⟩
    clear hs5
    go_wp2
    go_loopw [8, 9] (fun dx ix W => ∃ i d : Nat, i ≤ L ∧ i ≤ 20 ∧ ix = .int .i64 i ∧ dx = .int .i64 d ∧ d ≤ F ∧ OffTo w B g W F d) (fun _ ix _ => L - (intOf ix).toNat)
    case atStart => exact ⟨0, 0, Nat.zero_le _, Nat.zero_le _, rfl, rfl, Nat.zero_le _, HT5.out⟩
    case round =>
      obtain ⟨i, d, hi, hi20, rfl, rfl, hdF, c, m, hst, hof⟩ := hrel
      clear HT5 HT0
      have HST : Hid (St w B wr c g m ∧ OffIs m F d) := ⟨hst, hof⟩
      by_cases hlt : i < L ∧ i < 20
      · obtain ⟨hiL, hi2⟩ := hlt
        have hiL' : i < bs.length := by rw [← HL.out]; exact hiL
        obtain ⟨bb, off, cv', hv, hcell0⟩ := HS.out.byte (W := w) (Below.refl _ _) i hiL'
        injection hv with hv1 hv2 hv3
        subst hv1
        obtain ⟨x, hx⟩ : ∃ x, x = bs.getD i 0 := ⟨_, rfl⟩
        rw [← hx] at hcell0
        have hx256 : x < 256 := by
          rw [hx]
          simpa [hiL'] using HBS.out _ (List.getElem_mem hiL')
        have HCE : Hid (∀ W, Below B w W → W.cell? ⟨bb, off + i, none⟩ = some (.int .u8 (x : Nat))) := fun W hb => cell_later (by rw [← HB.out]; exact hb) hcell0
        have HFU : Hid (∀ W, Calls Try.prog 32 #[.int .u8 (x : Int)] W fun e w' => e = .returned (.slice (some ⟨W.heap.size, 0, none⟩) 64 64) ∧ Row w' W.heap.size 5 (bcells (ones x)) ∧ Below W.heap.size W w') := fun W => full_any W x
        have hcell := HCE.out wr hst.2.2.1
        clear hx hv2 hv3 hcell0 hst hof
        by_cases hpar : x % 2 = 0
        · have tp1 : ((x : Int) % 2 == 0) = true := by simp; omega
          have tp2 : (x : Int) % 2 = 0 := by omega
          go_upto_region 15 with fail
          clear tp1 tp2
          have HSC : Hid ((wr.drewN 1).cell? ⟨bb, off + i * 1, none⟩ = some (.int .u8 (x : Nat))) := by rw [show off + i * 1 = off + i by omega]; exact hcell
          refine wp_region_any (by kernel_rfl) (wpAny_of_held (S := fun W => W.cell? ⟨bb, off + i * 1, none⟩ = some (.int .u8 (x : Nat))) _ _ _ _ ?_)
          show wpAnyH _ _ _ _ _ 15 (Array.replicate 15 false) _ (wr.drewN 1)
          refine takeH (i := 0) (some 73) rfl rfl (by kernel_rfl) (by kernel_rfl) (by kernel_rfl) (fun _ _ _ h => h) (yMove rfl (.tmp 6) rfl (ptr g) rfl).yieldsIf HSC.out ?_
          simp only [Act.put, List.setIfInBounds_toArray, List.set_cons_succ, List.set_cons_zero]
          refine takeH (i := 1) (some 74) rfl rfl (by kernel_rfl) (by kernel_rfl) (by kernel_rfl) (fun _ _ _ h => h) (yMove rfl (.tmp 0) rfl (.slice (some ⟨bb, off, none⟩) L cv) rfl).yieldsIf HSC.out ?_
          simp only [Act.put, List.setIfInBounds_toArray, List.set_cons_succ, List.set_cons_zero]
          refine takeH (i := 2) (some 75) rfl rfl (by kernel_rfl) (by kernel_rfl) (by kernel_rfl) (fun _ _ _ h => h) (yMove rfl (.tmp 9) rfl (.int .i64 (i : Int)) rfl).yieldsIf HSC.out ?_
          simp only [Act.put, List.setIfInBounds_toArray, List.set_cons_succ, List.set_cons_zero]
          refine takeH (i := 3) (some 76) rfl rfl (by kernel_rfl) (by kernel_rfl) (by kernel_rfl) (fun _ _ _ h => h) (yIndex und40 info5 rfl (.tmp 74) (.tmp 75) rfl bb off L cv i rfl rfl hiL).yieldsIf HSC.out ?_
          simp only [Act.put, List.setIfInBounds_toArray, List.set_cons_succ, List.set_cons_zero]
          refine takeH (i := 4) (some 77) rfl rfl (by kernel_rfl) (by kernel_rfl) (by kernel_rfl) (fun _ _ _ h => h) (yLoad1H one5 rfl (.tmp 76) rfl bb (off + i * 1) rfl _ (fun W hW => hW)) HSC.out ?_
          simp only [Act.put, List.setIfInBounds_toArray, List.set_cons_succ, List.set_cons_zero]
          refine takeH (i := 5) (some 78) rfl rfl (by kernel_rfl) (by kernel_rfl) (by kernel_rfl) (fun _ _ _ h => h) (yConv rfl (.tmp 77) rfl x hx256 rfl).yieldsIf HSC.out ?_
          simp only [Act.put, List.setIfInBounds_toArray, List.set_cons_succ, List.set_cons_zero]
          refine takeH (i := 6) (some 79) rfl rfl (by kernel_rfl) (by kernel_rfl) (by kernel_rfl) (fun _ _ _ h => h) (yQuo rfl (.tmp 78) rfl x hx256 rfl).yieldsIf HSC.out ?_
          simp only [Act.put, List.setIfInBounds_toArray, List.set_cons_succ, List.set_cons_zero]
          refine takeH (i := 7) (some 80) rfl rfl (by kernel_rfl) (by kernel_rfl) (by kernel_rfl) (fun _ _ _ h => h) (yRem rfl (.tmp 79) rfl (x / 2) rfl).yieldsIf HSC.out ?_
          simp only [Act.put, List.setIfInBounds_toArray, List.set_cons_succ, List.set_cons_zero]
          refine takeH (i := 8) (some 81) rfl rfl (by kernel_rfl) (by kernel_rfl) (by kernel_rfl) (fun _ _ _ h => h) (yMove rfl (.tmp 0) rfl (.slice (some ⟨bb, off, none⟩) L cv) rfl).yieldsIf HSC.out ?_
          simp only [Act.put, List.setIfInBounds_toArray, List.set_cons_succ, List.set_cons_zero]
          refine takeH (i := 9) (some 82) rfl rfl (by kernel_rfl) (by kernel_rfl) (by kernel_rfl) (fun _ _ _ h => h) (yMove rfl (.tmp 9) rfl (.int .i64 (i : Int)) rfl).yieldsIf HSC.out ?_
          simp only [Act.put, List.setIfInBounds_toArray, List.set_cons_succ, List.set_cons_zero]
          refine takeH (i := 10) (some 83) rfl rfl (by kernel_rfl) (by kernel_rfl) (by kernel_rfl) (fun _ _ _ h => h) (yIndex und40 info5 rfl (.tmp 81) (.tmp 82) rfl bb off L cv i rfl rfl hiL).yieldsIf HSC.out ?_
          simp only [Act.put, List.setIfInBounds_toArray, List.set_cons_succ, List.set_cons_zero]
          refine takeH (i := 11) (some 84) rfl rfl (by kernel_rfl) (by kernel_rfl) (by kernel_rfl) (fun _ _ _ h => h) (yLoad1H one5 rfl (.tmp 83) rfl bb (off + i * 1) rfl _ (fun W hW => hW)) HSC.out ?_
          simp only [Act.put, List.setIfInBounds_toArray, List.set_cons_succ, List.set_cons_zero]
          refine oneH (i := 12) (by kernel_rfl) ?_
          refine opCallA (some 85) rfl rfl rfl 32 _ (run_call en32 [.tmp 84] _ rfl [.int .u8 (x : Int)] rfl) ?_
          refine (HFU.out (wr.drewN 1)).mono ?_
          rintro e w6 ⟨rfl, r6, b6⟩
          have hs6 : St w B w6 c g m := (HST.out.1.below (Below.drewN (Below.refl _ wr) 1)).below b6
          have ho6 : Out w6 c wr.heap.size (ones x) := HST.out.1.out (Nat.le_refl _) r6
          refine ⟨_, rfl, by rw [show off + i * 1 = off + i by omega]; exact HCE.out w6 hs6.2.2.1, ?_⟩
          simp only [Act.put, List.setIfInBounds_toArray, List.set_cons_succ, List.set_cons_zero]
          refine oneH (i := 13) (by kernel_rfl) ?_
          refine opCallA (some 86) rfl rfl rfl 16 _ (run_call en16 [.tmp 73, .const (.int .i64 0), .tmp 80, .tmp 85] _ rfl [ptr g, .int .i64 0, .int .i64 ((x / 2 % 8 : Nat) : Int), .slice (some ⟨wr.heap.size, 0, none⟩) 64 64] rfl) ?_
          refine (off_write hs6 HST.out.2 hFn wr.heap.size x hx256 ho6 ((x / 2 % 8 : Nat) : Int) (by omega) (by omega)).mono ?_
          rintro e w7 ⟨r, d', c7, m7, rfl, htold, hs7, ho7⟩
          have hc7 : w7.cell? ⟨bb, off + i * 1, none⟩ = some (.int .u8 (x : Nat)) := by rw [show off + i * 1 = off + i by omega]; exact HCE.out w7 hs7.2.2.1
          refine ⟨_, rfl, hc7, ?_⟩
          simp only [Act.put, List.setIfInBounds_toArray, List.set_cons_succ, List.set_cons_zero]
          refine oneH (i := 14) (by kernel_rfl) ?_
          refine opValue (some 10) rfl rfl rfl (.int .i64 r) w7 (by simp [execOp, Act.eval]) ⟨hc7, ?_⟩
          simp only [Act.put, List.setIfInBounds_toArray, List.set_cons_succ, List.set_cons_zero]
          refine wpAnyH_done (by kernel_rfl) ?_ _
          clear hc7 hs6 ho6 r6 b6 hcell
          have H7 : Hid (St w B w7 c7 g m7 ∧ OffIs m7 F d') := ⟨hs7, ho7⟩
          clear hs7 ho7
          rcases htold with ⟨rfl, rfl⟩ | ⟨rfl, hdlt, rfl⟩ | ⟨rfl, hdeq, rfl⟩
          · go_wp2
            exact ⟨⟨i + 1, d', by omega, by omega, by go_num, rfl, hdF, c7, m7, H7.out⟩, by simp [intOf]; omega⟩
          · go_wp2
            exact ⟨⟨i + 1, d + 1, by omega, by omega, by go_num, by go_num, by omega, c7, m7, H7.out⟩, by simp [intOf]; omega⟩
          · have hnlt : ¬ d' < F := by omega
            clear hdeq
            go_wp2
            exact ⟨⟨i + 1, d', by omega, by omega, by go_num, rfl, hdF, c7, m7, H7.out⟩, by simp [intOf]; omega⟩
        · have tp1 : ((x : Int) % 2 == 0) = false := by simp; omega
          have tp2 : ¬ (x : Int) % 2 = 0 := by omega
          go_upto_region 17 with (first | (go_at_call 32; refine (HFU.out wr).mono ?_; rintro e w6 ⟨rfl, r6, b6⟩; have HO6 : Hid (Out w6 c wr.heap.size (ones x) ∧ St w B w6 c g m) := ⟨HST.out.1.out (Nat.le_refl _) r6, HST.out.1.below b6⟩; clear r6 b6) | (go_at_call 18; refine (off_append HO6.out.2 HST.out.2 hFn wr.heap.size x hx256 HO6.out.1).mono ?_; rintro e w7 ⟨k7, r, d', c7, m7, rfl, htold, hs7, ho7⟩))
          clear tp1 tp2 hcell
          have H7 : Hid (St w B w7 c7 g m7 ∧ OffIs m7 F d') := ⟨hs7, ho7⟩
          clear hs7 ho7
          rcases htold with ⟨rfl, rfl⟩ | ⟨rfl, hdlt, rfl⟩ | ⟨rfl, hdeq, rfl⟩
          · go_wp2
            exact ⟨⟨i + 1, d', by omega, by omega, by go_num, rfl, hdF, c7, m7, H7.out⟩, by simp [intOf]; omega⟩
          · go_wp2
            exact ⟨⟨i + 1, d + 1, by omega, by omega, by go_num, by go_num, by omega, c7, m7, H7.out⟩, by simp [intOf]; omega⟩
          · have hnlt : ¬ d' < F := by omega
            clear hdeq
            go_wp2
            exact ⟨⟨i + 1, d', by omega, by omega, by go_num, rfl, hdF, c7, m7, H7.out⟩, by simp [intOf]; omega⟩
      · clear hst hof
        have hexit : ¬ i < L ∨ (i < L ∧ ¬ i < 20) := by omega
        rcases hexit with h1 | ⟨h1, h2⟩
        · go_upto_region 22 with fail
          have hd12 : d < 12 := by omega
          go_upto_region 24 with (go_at_call 34; refine (st_steps HST.out.1 HST.out.2).mono ?_; rintro e wx ⟨rfl, rfl⟩)
          go_upto_region 25 with (go_at_call 23; refine (st_fuse HST.out.1 0 (by decide) (by decide)).mono ?_; rintro e w5 ⟨rfl, c5, hs5⟩)
          have H5 : Hid (St w B w5 c5 g (m.fuseTo 0)) := hs5
          clear hs5
          go_upto_region 26 with (go_at_call 21; refine (st_last H5.out HST.out.2 hFn).mono ?_; rintro e w6 ⟨rfl, c6, m6, hs6, hd6⟩)
          have HD : Hid (Dead m6 d) := hd6
          have H6 : Hid (St w B w6 c6 g m6) := hs6
          clear hs6 hd6
          have hst6 : m6.steps < 1099511627775 := by have := HD.out.steps; omega
          go_upto_region 27 with (go_at_call 12; refine (two_clone H6.out hst6).mono ?_; rintro e w7 ⟨q, c7, rfl, ht7⟩)
          have H7 : Hid (Two w B w7 c7 g q m6 m6) := ht7
          clear ht7 hst6
          go_upto_region 29 with (go_at_call 35; refine (dead_on H7.out HD.out).mono ?_; rintro e wx ⟨rfl, rfl⟩)
          go_upto_region 30 with (go_at_call 20; refine (dead_read H7.out HD.out hd12).mono ?_; rintro e w8 ⟨rfl, ht8⟩)
          have H8 : Hid (Two w B w8 c7 g q m6 m6) := ht8
          clear ht8
          go_upto_region 31 with (first | (go_at_call 32; refine (HF9.out w8).mono ?_; rintro e w9 ⟨rfl, r9, b9⟩; have H9 : Hid (Two w B w9 c7 g q m6 m6 ∧ Row w9 w8.heap.size 5 (bcells (ones 9))) := ⟨H8.out.below b9, r9⟩; clear r9 b9) | (go_at_call 16; refine (dead_write H9.out.1 HD.out hd12 _ H9.out.2).mono ?_; rintro e w10 ⟨rfl, c10, ht10⟩))
          have H10 : Hid (Two w B w10 c10 g q m6 m6) := ht10
          clear ht10
          go_upto_region 32 with (first | (go_at_call 32; refine (HF9.out w10).mono ?_; rintro e w11 ⟨rfl, r11, b11⟩; have H11 : Hid (Two w B w11 c10 g q m6 m6 ∧ Row w11 w10.heap.size 5 (bcells (ones 9))) := ⟨H10.out.below b11, r11⟩; clear r11 b11) | (go_at_call 18; refine (dead_append H11.out.1 HD.out hd12 _ H11.out.2).mono ?_; rintro e w12 ⟨rfl, c12, ht12⟩))
          have H12 : Hid (Two w B w12 c12 g q m6 m6) := ht12
          clear ht12
          go_upto_region 33 with (go_at_call 21; refine (dead_flush H12.out HD.out hd12).mono ?_; rintro e w13 ⟨rfl, c13, ht13⟩)
          have H13 : Hid (Two w B w13 c13 g q m6 m6) := ht13
          clear ht13
          go_upto_region 34 with (go_at_call 23; refine (dead_fuse H13.out HD.out).mono ?_; rintro e w14 ⟨rfl, c14, ht14⟩)
          have H14 : Hid (Two w B w14 c14 g q m6 m6) := ht14
          obtain ⟨N, hN⟩ : ∃ N, N = m6.len 1 := ⟨_, rfl⟩
          have HN : Hid (N = m6.len 1) := hN
          have hs12 : m6.steps < 12 := by rw [HD.out.steps]; exact hd12
          clear ht14 hN
          go_upto_region 35 with (go_at_call 36; refine (two_len H14.out HD.out.n hs12 N HN.out).mono ?_; rintro e w15 ⟨rfl, ht15⟩)
          have H15 : Hid (Two w B w15 c14 g q m6 m6) := ht15
          clear ht15
          go_upto_region 37 with (first | (go_at_call 35; refine (dead_on H15.out HD.out).mono ?_; rintro e wx ⟨rfl, rfl⟩) | (go_at_call 34; refine (dead_steps H15.out HD.out).mono ?_; rintro e wx ⟨rfl, rfl⟩))
          refine wp_region_lit ?_
          refine wpList_move (.tmp 6) rfl rfl (ptr g) rfl ?_
          simp only [Act.put, List.setIfInBounds_toArray, List.set_cons_succ, List.set_cons_zero]
          refine wpList_oneInt _ rfl rfl 1 rfl ?_
          intro w16 r16 s16 b16
          simp only [Act.put, List.setIfInBounds_toArray, List.set_cons_succ, List.set_cons_zero]
          refine wpList_callF en25 [.tmp 184, .tmp 185] _ rfl rfl [ptr g, .slice (some ⟨w15.heap.size, 0, none⟩) 1 1] rfl ?_
          refine (two_bootP H15.out hs12 b16 r16).mono ?_
          rintro e w17 ⟨rfl, c17, ht17⟩
          refine ⟨_, rfl, ?_⟩
          refine wpList_nil ?_
          simp only [Act.put, List.setIfInBounds_toArray, List.set_cons_succ, List.set_cons_zero]
          have H17 : Hid (Two w B w17 c17 g q (m6.boot [1]) m6) := ht17
          clear r16 s16 b16 ht17
          go_upto_region 38 with fail
          refine wp_region_lit ?_
          refine wpList_move (.tmp 12) rfl rfl (ptr q) rfl ?_
          simp only [Act.put, List.setIfInBounds_toArray, List.set_cons_succ, List.set_cons_zero]
          refine wpList_oneInt _ rfl rfl 1 rfl ?_
          intro w18 r18 s18 b18
          simp only [Act.put, List.setIfInBounds_toArray, List.set_cons_succ, List.set_cons_zero]
          refine wpList_callF en25 [.tmp 187, .tmp 188] _ rfl rfl [ptr q, .slice (some ⟨w17.heap.size, 0, none⟩) 1 1] rfl ?_
          refine (two_bootQ H17.out hs12 b18 r18).mono ?_
          rintro e w19 ⟨rfl, c19, ht19⟩
          refine ⟨_, rfl, ?_⟩
          refine wpList_nil ?_
          simp only [Act.put, List.setIfInBounds_toArray, List.set_cons_succ, List.set_cons_zero]
          obtain ⟨mb, hmb⟩ : ∃ mb, mb = m6.boot [1] := ⟨_, rfl⟩
          rw [← hmb] at ht19
          have H19 : Hid (Two w B w19 c19 g q mb mb) := ht19
          have HU : Hid (Up mb ∧ N = mb.len 1) := by
            obtain ⟨h1, h2⟩ := HD.out.up hd12
            rw [hmb]
            exact ⟨h1, HN.out.trans h2.symm⟩
          clear r18 s18 b18 ht19 hmb H17 H15 H14 H13 H12 H10 H8 H7 H6 H5
          go_upto_region 40 with (go_at_call 36; refine (two_len H19.out HU.out.1.2.2.1 HU.out.1.2.2.2.2 N HU.out.2).mono ?_; rintro e w20 ⟨rfl, ht20⟩)
          have H20 : Hid (Two w B w20 c19 g q mb mb) := ht20
          clear ht20
          go_wp2
          go_loopw [23] (fun jx W => ∃ j : Nat, j ≤ 8 ∧ jx = .int .i64 j ∧ Two w B W c19 g q mb mb) (fun jx _ => 8 - (intOf jx).toNat)
          case atStart => exact ⟨0, Nat.zero_le _, rfl, H20.out⟩
          case round =>
            obtain ⟨j, hj, rfl, htw⟩ := hrel
            have HJ : Hid (Two w B wr c19 g q mb mb) := htw
            clear htw H20
            by_cases hj8 : j < 8
            · go_upto_region 46 with (go_at_call 20; refine (two_readP HJ.out HU.out.1 j hj8).mono ?_; rintro e w21 ⟨b21, rfl, r21, t21⟩)
              have H21 : Hid (Row w21 b21 5 (bcells (mb.rd 0 j)) ∧ Two w B w21 c19 g q mb mb) := ⟨r21, t21⟩
              clear r21 t21
              go_upto_region 47 with (go_at_call 20; refine (two_readQ H21.out.2 HU.out.1 j hj8 b21 _ H21.out.1).mono ?_; rintro e w22 ⟨b22, rfl, r22, r22', t22⟩)
              have H22 : Hid (Row w22 b22 5 (bcells (mb.rd 0 j)) ∧ Row w22 b21 5 (bcells (mb.rd 0 j)) ∧ Two w B w22 c19 g q mb mb) := ⟨r22, r22', t22⟩
              clear r22 r22' t22
              go_upto_region 48 with (go_at_call 33; refine (two_same HU.out.1 j b22 b21 H22.out.2.1 H22.out.1).mono ?_; rintro e wx ⟨rfl, rfl⟩)
              go_wp2
              exact ⟨⟨j + 1, by omega, by go_num, H22.out.2.2⟩, by simp [intOf]; omega⟩
            · have e : j = 8 := by omega
              subst e
              go_wp2_with (go_at_call 35; refine (two_on HJ.out HU.out.1).mono ?_; rintro e wx ⟨rfl, rfl⟩)
              go_ret
              exact ⟨rfl, HJ.out.2.2.2.1⟩
        · go_upto_region 22 with fail
          have hd12 : d < 12 := by omega
          go_upto_region 24 with (go_at_call 34; refine (st_steps HST.out.1 HST.out.2).mono ?_; rintro e wx ⟨rfl, rfl⟩)
          go_upto_region 25 with (go_at_call 23; refine (st_fuse HST.out.1 0 (by decide) (by decide)).mono ?_; rintro e w5 ⟨rfl, c5, hs5⟩)
          have H5 : Hid (St w B w5 c5 g (m.fuseTo 0)) := hs5
          clear hs5
          go_upto_region 26 with (go_at_call 21; refine (st_last H5.out HST.out.2 hFn).mono ?_; rintro e w6 ⟨rfl, c6, m6, hs6, hd6⟩)
          have HD : Hid (Dead m6 d) := hd6
          have H6 : Hid (St w B w6 c6 g m6) := hs6
          clear hs6 hd6
          have hst6 : m6.steps < 1099511627775 := by have := HD.out.steps; omega
          go_upto_region 27 with (go_at_call 12; refine (two_clone H6.out hst6).mono ?_; rintro e w7 ⟨q, c7, rfl, ht7⟩)
          have H7 : Hid (Two w B w7 c7 g q m6 m6) := ht7
          clear ht7 hst6
          go_upto_region 29 with (go_at_call 35; refine (dead_on H7.out HD.out).mono ?_; rintro e wx ⟨rfl, rfl⟩)
          go_upto_region 30 with (go_at_call 20; refine (dead_read H7.out HD.out hd12).mono ?_; rintro e w8 ⟨rfl, ht8⟩)
          have H8 : Hid (Two w B w8 c7 g q m6 m6) := ht8
          clear ht8
          go_upto_region 31 with (first | (go_at_call 32; refine (HF9.out w8).mono ?_; rintro e w9 ⟨rfl, r9, b9⟩; have H9 : Hid (Two w B w9 c7 g q m6 m6 ∧ Row w9 w8.heap.size 5 (bcells (ones 9))) := ⟨H8.out.below b9, r9⟩; clear r9 b9) | (go_at_call 16; refine (dead_write H9.out.1 HD.out hd12 _ H9.out.2).mono ?_; rintro e w10 ⟨rfl, c10, ht10⟩))
          have H10 : Hid (Two w B w10 c10 g q m6 m6) := ht10
          clear ht10
          go_upto_region 32 with (first | (go_at_call 32; refine (HF9.out w10).mono ?_; rintro e w11 ⟨rfl, r11, b11⟩; have H11 : Hid (Two w B w11 c10 g q m6 m6 ∧ Row w11 w10.heap.size 5 (bcells (ones 9))) := ⟨H10.out.below b11, r11⟩; clear r11 b11) | (go_at_call 18; refine (dead_append H11.out.1 HD.out hd12 _ H11.out.2).mono ?_; rintro e w12 ⟨rfl, c12, ht12⟩))
          have H12 : Hid (Two w B w12 c12 g q m6 m6) := ht12
          clear ht12
          go_upto_region 33 with (go_at_call 21; refine (dead_flush H12.out HD.out hd12).mono ?_; rintro e w13 ⟨rfl, c13, ht13⟩)
          have H13 : Hid (Two w B w13 c13 g q m6 m6) := ht13
          clear ht13
          go_upto_region 34 with (go_at_call 23; refine (dead_fuse H13.out HD.out).mono ?_; rintro e w14 ⟨rfl, c14, ht14⟩)
          have H14 : Hid (Two w B w14 c14 g q m6 m6) := ht14
          obtain ⟨N, hN⟩ : ∃ N, N = m6.len 1 := ⟨_, rfl⟩
          have HN : Hid (N = m6.len 1) := hN
          have hs12 : m6.steps < 12 := by rw [HD.out.steps]; exact hd12
          clear ht14 hN
          go_upto_region 35 with (go_at_call 36; refine (two_len H14.out HD.out.n hs12 N HN.out).mono ?_; rintro e w15 ⟨rfl, ht15⟩)
          have H15 : Hid (Two w B w15 c14 g q m6 m6) := ht15
          clear ht15
          go_upto_region 37 with (first | (go_at_call 35; refine (dead_on H15.out HD.out).mono ?_; rintro e wx ⟨rfl, rfl⟩) | (go_at_call 34; refine (dead_steps H15.out HD.out).mono ?_; rintro e wx ⟨rfl, rfl⟩))
          refine wp_region_lit ?_
          refine wpList_move (.tmp 6) rfl rfl (ptr g) rfl ?_
          simp only [Act.put, List.setIfInBounds_toArray, List.set_cons_succ, List.set_cons_zero]
          refine wpList_oneInt _ rfl rfl 1 rfl ?_
          intro w16 r16 s16 b16
          simp only [Act.put, List.setIfInBounds_toArray, List.set_cons_succ, List.set_cons_zero]
          refine wpList_callF en25 [.tmp 184, .tmp 185] _ rfl rfl [ptr g, .slice (some ⟨w15.heap.size, 0, none⟩) 1 1] rfl ?_
          refine (two_bootP H15.out hs12 b16 r16).mono ?_
          rintro e w17 ⟨rfl, c17, ht17⟩
          refine ⟨_, rfl, ?_⟩
          refine wpList_nil ?_
          simp only [Act.put, List.setIfInBounds_toArray, List.set_cons_succ, List.set_cons_zero]
          have H17 : Hid (Two w B w17 c17 g q (m6.boot [1]) m6) := ht17
          clear r16 s16 b16 ht17
          go_upto_region 38 with fail
          refine wp_region_lit ?_
          refine wpList_move (.tmp 12) rfl rfl (ptr q) rfl ?_
          simp only [Act.put, List.setIfInBounds_toArray, List.set_cons_succ, List.set_cons_zero]
          refine wpList_oneInt _ rfl rfl 1 rfl ?_
          intro w18 r18 s18 b18
          simp only [Act.put, List.setIfInBounds_toArray, List.set_cons_succ, List.set_cons_zero]
          refine wpList_callF en25 [.tmp 187, .tmp 188] _ rfl rfl [ptr q, .slice (some ⟨w17.heap.size, 0, none⟩) 1 1] rfl ?_
          refine (two_bootQ H17.out hs12 b18 r18).mono ?_
          rintro e w19 ⟨rfl, c19, ht19⟩
          refine ⟨_, rfl, ?_⟩
          refine wpList_nil ?_
          simp only [Act.put, List.setIfInBounds_toArray, List.set_cons_succ, List.set_cons_zero]
          obtain ⟨mb, hmb⟩ : ∃ mb, mb = m6.boot [1] := ⟨_, rfl⟩
          rw [← hmb] at ht19
          have H19 : Hid (Two w B w19 c19 g q mb mb) := ht19
          have HU : Hid (Up mb ∧ N = mb.len 1) := by
            obtain ⟨h1, h2⟩ := HD.out.up hd12
            rw [hmb]
            exact ⟨h1, HN.out.trans h2.symm⟩
          clear r18 s18 b18 ht19 hmb H17 H15 H14 H13 H12 H10 H8 H7 H6 H5
          go_upto_region 40 with (go_at_call 36; refine (two_len H19.out HU.out.1.2.2.1 HU.out.1.2.2.2.2 N HU.out.2).mono ?_; rintro e w20 ⟨rfl, ht20⟩)
          have H20 : Hid (Two w B w20 c19 g q mb mb) := ht20
          clear ht20
          go_wp2
          go_loopw [23] (fun jx W => ∃ j : Nat, j ≤ 8 ∧ jx = .int .i64 j ∧ Two w B W c19 g q mb mb) (fun jx _ => 8 - (intOf jx).toNat)
          case atStart => exact ⟨0, Nat.zero_le _, rfl, H20.out⟩
          case round =>
            obtain ⟨j, hj, rfl, htw⟩ := hrel
            have HJ : Hid (Two w B wr c19 g q mb mb) := htw
            clear htw H20
            by_cases hj8 : j < 8
            · go_upto_region 46 with (go_at_call 20; refine (two_readP HJ.out HU.out.1 j hj8).mono ?_; rintro e w21 ⟨b21, rfl, r21, t21⟩)
              have H21 : Hid (Row w21 b21 5 (bcells (mb.rd 0 j)) ∧ Two w B w21 c19 g q mb mb) := ⟨r21, t21⟩
              clear r21 t21
              go_upto_region 47 with (go_at_call 20; refine (two_readQ H21.out.2 HU.out.1 j hj8 b21 _ H21.out.1).mono ?_; rintro e w22 ⟨b22, rfl, r22, r22', t22⟩)
              have H22 : Hid (Row w22 b22 5 (bcells (mb.rd 0 j)) ∧ Row w22 b21 5 (bcells (mb.rd 0 j)) ∧ Two w B w22 c19 g q mb mb) := ⟨r22, r22', t22⟩
              clear r22 r22' t22
              go_upto_region 48 with (go_at_call 33; refine (two_same HU.out.1 j b22 b21 H22.out.2.1 H22.out.1).mono ?_; rintro e wx ⟨rfl, rfl⟩)
              go_wp2
              exact ⟨⟨j + 1, by omega, by go_num, H22.out.2.2⟩, by simp [intOf]; omega⟩
            · have e : j = 8 := by omega
              subst e
              go_wp2_with (go_at_call 35; refine (two_on HJ.out HU.out.1).mono ?_; rintro e wx ⟨rfl, rfl⟩)
              go_ret
              exact ⟨rfl, HJ.out.2.2.2.1⟩
end Go.Proofs.Yteacjeihliajpaa

/- The walk of the law PlantKeeps. -/
import Derived.Test.YteacjeihliajpaaKeepsC
import Derived.Test.YteacjeihliajpaaTapeW
namespace Go.Proofs.Yteacjeihliajpaa
open Go.RowKit Go.Maps

theorem run_build24a (w : World) (b : Nat) : (Instr.build 24 #[(0, .slice (some ⟨b, 0, none⟩) 1 1)]).run Try.prog w = .ok (.agg #[.slice (some ⟨b, 0, none⟩) 1 1, .slice none 0 0]) w := by kernel_rfl
theorem run_make16 (w : World) : (Instr.makeSlice 40 (.int .i64 16) (.int .i64 16)).run Try.prog w = .ok (.slice (some ⟨w.heap.size, 0, none⟩) 16 16) (w.alloc (.cells (zerosU8 16).toArray 5)) := by kernel_rfl
theorem run_rem16 (w : World) (n : Nat) : (binOp .rem 3 (.int .i64 (n : Int)) (.int .i64 16)).run Try.prog w = .ok (.int .i64 ((n % 16 : Nat) : Int)) w := by
  simp [binOp, Op.intDiv]
  exact Int.tmod_eq_emod_of_nonneg (by omega)
section
variable {w : World} {ops : Array Oper} {rest : List Oper} {o : Oper} {a : Act} {Q : Exit → Act → World → Prop}
theorem wpList_rem16 (x : Operand) (hgd : o.guard = none) (ho : o.op = .binOp .rem 3 x (.const (.int .i64 16)) 3) (n : Nat) (hx : a.eval x = .int .i64 (n : Int)) (h : wpList Try.prog ops Q rest (a.put o.dst (.int .i64 ((n % 16 : Nat) : Int))) w) : wpList Try.prog ops Q (o :: rest) a w :=
  wpList_value hgd _ w (by
    have hy : a.eval (.const (.int .i64 16)) = .int .i64 16 := rfl
    simp only [execOp, ho, hx, hy, eqGuard_rem, Sem.run_bind, Sem.run_pure, Result.andThen_ok, run_rem16 w n]) h
end
theorem und40' : Try.prog.underlying 40 = some (.slice 5) := Try.underlying40
theorem olds_cells (l : List Nat) (n : Nat) : bcells (olds l (n + 1)) = (bcells (olds l n)).set (n % 16) (.int .u8 ((l.getD n 0 : Nat) : Int)) := by
  show bcells ((olds l n).set (n % 16) (l.getD n 0)) = _
  unfold bcells
  rw [List.map_set]

set_option maxHeartbeats 2000000 in
set_option maxRecDepth 100000 in
theorem plantKeeps_any (w : World) (v0 v1 v2 : Value) (f t : List Nat) (ks : List Int) (hs0 : SliceIn w v0 f) (hs1 : SliceIn w v1 t) (hk : IntsIn w v2 ks) (hf20 : f.length ≤ 1048576) (ht20 : t.length ≤ 1048576) :
    Calls Try.prog 5 #[v0, v1, v2] w fun e w' => e = .returned (.bool true) ∧ Below w.heap.size w w' := by
  obtain ⟨B, hB⟩ : ∃ B, B = w.heap.size := ⟨_, rfl⟩
  rw [← hB]
  have HB : Hid (B = w.heap.size) := hB
  obtain ⟨Lf, hLf⟩ : ∃ L, L = f.length := ⟨_, rfl⟩
  obtain ⟨Lt, hLt⟩ : ∃ L, L = t.length := ⟨_, rfl⟩
  have HLf : Hid (Lf = f.length) := hLf
  have HLt : Hid (Lt = t.length) := hLt
  obtain ⟨pf, cf, rfl, _⟩ := hs0.shape
  obtain ⟨pt, ct, rfl, _⟩ := hs1.shape
  have HSf : Hid (SliceIn w (.slice pf Lf cf) f) := by rw [hLf]; exact hs0
  have HSt : Hid (SliceIn w (.slice pt Lt ct) t) := by rw [hLt]; exact hs1
  have HK : Hid (IntsIn w v2 ks) := hk
  have HBf : Hid (∀ x ∈ f, x < 256) := hs0.lt256
  have HBt : Hid (∀ x ∈ t, x < 256) := hs1.lt256
  have hLf20 : Lf ≤ 1048576 := by omega
  have hLt20 : Lt ≤ 1048576 := by omega
  have HFU : Hid (∀ (x : Nat) W, Calls Try.prog 32 #[.int .u8 (x : Int)] W fun e w' => e = .returned (.slice (some ⟨W.heap.size, 0, none⟩) 64 64) ∧ Row w' W.heap.size 5 (bcells (ones x)) ∧ Below W.heap.size W w') := fun x W => full_any W x
  rw [← hLf, ← hLt]
  clear hk hf20 ht20 hs0 hs1 hLf hLt hB
  go_enter Try.func5, Try.ntmps5
  go_upto_region 2 with (go_at_call 8; refine (shown_any w).mono ?_; rintro e w1 ⟨rfl, b1⟩)
  refine wp_region_lit ?_
  refine wpList_oneInt _ rfl rfl 16 rfl ?_
  intro w2 r2 s2 b2
  simp only [Act.put, List.setIfInBounds_toArray, List.set_cons_succ, List.set_cons_zero]
  refine wpList_value rfl (.agg #[.slice (some ⟨w1.heap.size, 0, none⟩) 1 1, .slice none 0 0]) w2 (by simp [execOp, Act.eval, run_build24a]) ?_
  simp only [Act.put, List.setIfInBounds_toArray, List.set_cons_succ, List.set_cons_zero]
  have i1 : IntsIn w2 (.slice (some ⟨w1.heap.size, 0, none⟩) 1 1) [16] := intsIn_one w2 _ 3 16 r2
  have i2 : IntsIn w2 (.slice none 0 0) [] := ⟨none, 0, rfl, by simp, by simp, Or.inl rfl⟩
  refine wpList_callF en9 [.tmp 28] _ rfl rfl [.agg #[.slice (some ⟨w1.heap.size, 0, none⟩) 1 1, .slice none 0 0]] rfl ?_
  refine (Live.new w2 (fun _ => (1, 0)) 0 _ _ [16] [] i1 i2 (by decide)).mono ?_
  rintro e w4 ⟨g, c4, rfl, hg, hc4, _, hl4, b4⟩
  refine ⟨_, rfl, ?_⟩
  simp only [Act.put, List.setIfInBounds_toArray, List.set_cons_succ, List.set_cons_zero]
  have HT0 : Hid (FirstTo w B g f w4 0) := by
    have h13 : Below B w w2 := by
      rw [HB.out]
      have := b1.size
      exact b1.trans (b2.mono (by omega))
    have hs3 : B ≤ w2.heap.size := by rw [HB.out]; have := b1.size; omega
    refine first_of (c := c4) ⟨hl4, fun b hb => ?_, h13.trans (b4.mono hs3), Nat.le_trans hs3 b4.size⟩
    rw [hc4 b (by omega)]
    simp
  clear r2 s2 b2 i1 i2 hl4 hc4 b4 hg b1
  go_wp2
  go_loopw [10] (fun ix W => ∃ n : Nat, n ≤ Lf ∧ ix = .int .i64 n ∧ FirstTo w B g f W n) (fun ix _ => Lf - (intOf ix).toNat)
  case atStart => exact ⟨0, Nat.zero_le _, rfl, HT0.out⟩
  case round =>
    obtain ⟨n, hn, rfl, hft⟩ := hrel
    clear HT0
    have HT : Hid (FirstTo w B g f wr n) := hft
    by_cases hlt : n < Lf
    · have hnf : n < f.length := by rw [← HLf.out]; exact hlt
      obtain ⟨bb, off, cv', hv, hcell⟩ := HSf.out.byte (W := wr) (by rw [← HB.out]; exact hft.low) n hnf
      injection hv with hv1 hv2 hv3
      subst hv1
      obtain ⟨x, hx⟩ : ∃ x, x = f.getD n 0 := ⟨_, rfl⟩
      have HWR : Hid (∀ W1, Below wr.heap.size wr W1 → Row W1 wr.heap.size 5 (bcells (ones x)) → Calls Try.prog 16 #[ptr g, .int .i64 0, .int .i64 ((n : Int) % 16), .slice (some ⟨wr.heap.size, 0, none⟩) 64 64] W1 fun e w' => e = .returned (.int .i64 0) ∧ FirstTo w B g f w' (n + 1)) := by
        intro W1 hb1 hr1
        rw [hx] at hr1
        have := first_write HT.out (by omega) wr.heap.size (Nat.le_refl _) hb1 hr1 (getD_256 HBf.out n)
        rw [show ((n % 16 : Nat) : Int) = (n : Int) % 16 by omega] at this
        exact this
      rw [← hx] at hcell
      clear hx hv2 hv3 hft
      go_upto_region 7 with (first | (go_at_call 32; refine (HFU.out x wr).mono ?_; rintro e w6 ⟨rfl, r6, b6⟩; have HO6 : Hid (Below wr.heap.size wr w6 ∧ Row w6 wr.heap.size 5 (bcells (ones x))) := ⟨b6, r6⟩; clear r6 b6) | (go_at_call 16; refine (HWR.out w6 HO6.out.1 HO6.out.2).mono ?_; rintro e w7 ⟨rfl, hf7⟩))
      have H7 : Hid (FirstTo w B g f w7 (n + 1)) := hf7
      clear hf7 hcell
      go_wp2
      exact ⟨⟨n + 1, by omega, by go_num, H7.out⟩, by simp [intOf]; omega⟩
    · have e : n = Lf := by omega
      subst e
      clear hft
      go_upto_region 10 with (go_at_call 21; refine (first_flush HT.out (by omega) t).mono ?_; rintro e w5 ⟨rfl, c5, m5, hs5, ht5, hst5⟩)
      have H5 : Hid (St w B w5 c5 g m5 ∧ ThenIs m5 (olds f n) t 0 ∧ m5.steps = n + 1) := ⟨hs5, ht5, hst5⟩
      clear hs5 ht5 hst5
      go_upto_region 12 with fail
      refine wp_region_lit ?_
      refine wpList_value rfl (.slice (some ⟨w5.heap.size, 0, none⟩) 16 16) (w5.alloc (.cells (zerosU8 16).toArray 5)) (by simp [execOp, Act.eval, run_make16]) ?_
      simp only [Act.put, List.setIfInBounds_toArray, List.set_cons_succ, List.set_cons_zero]
      refine wpList_assign (.tmp 61) rfl rfl (.slice (some ⟨w5.heap.size, 0, none⟩) 16 16) rfl ?_
      refine wpList_nil ?_
      simp only [Act.put, List.setIfInBounds_toArray, List.set_cons_succ, List.set_cons_zero]
      obtain ⟨ob, hob⟩ : ∃ ob, ob = w5.heap.size := ⟨_, rfl⟩
      rw [← hob]
      obtain ⟨w6, hw6⟩ : ∃ w6, w6 = w5.alloc (.cells (zerosU8 16).toArray 5) := ⟨_, rfl⟩
      have H6 : Hid (Row w6 ob 5 (bcells (olds f 0)) ∧ Below ob w5 w6) := by
        rw [hw6, hob]
        exact ⟨Row.new w5 5 (zerosU8 16), (Below.refl _ w5).alloc (Nat.le_refl _) _⟩
      rw [← hw6]
      have HOB : Hid (ob = w5.heap.size) := hob
      clear hob hw6
      go_wp2
      go_loopw [13] (fun ix W => ∃ k : Nat, k ≤ n ∧ ix = .int .i64 k ∧ Row W ob 5 (bcells (olds f k)) ∧ Below ob w5 W) (fun ix _ => n - (intOf ix).toNat)
      case atStart => exact ⟨0, Nat.zero_le _, rfl, H6.out.1, H6.out.2⟩
      case round =>
        obtain ⟨k, hk, rfl, hrow, hbw⟩ := hrel
        have HRW : Hid (Row wr ob 5 (bcells (olds f k)) ∧ Below ob w5 wr) := ⟨hrow, hbw⟩
        clear hrow hbw H6
        have HLOW : Hid (Below B w wr) := by
          have h1 := H5.out.1
          exact h1.2.2.1.trans (HRW.out.2.mono (by rw [HOB.out]; exact h1.2.2.2))
        by_cases hkn : k < n
        · have hkf : k < f.length := by rw [← HLf.out]; omega
          obtain ⟨bb, off, cv', hv, hcell⟩ := HSf.out.byte (W := wr) (by rw [← HB.out]; exact HLOW.out) k hkf
          injection hv with hv1 hv2 hv3
          subst hv1
          go_upto_region 16 with fail
          refine wp_region_lit ?_
          refine wpList_move (.tmp 12) rfl rfl (.slice (some ⟨ob, 0, none⟩) 16 16) rfl ?_
          simp only [Act.put, List.setIfInBounds_toArray, List.set_cons_succ, List.set_cons_zero]
          refine wpList_move (.tmp 13) rfl rfl (.int .i64 (k : Int)) rfl ?_
          simp only [Act.put, List.setIfInBounds_toArray, List.set_cons_succ, List.set_cons_zero]
          refine wpList_rem16 (.tmp 69) rfl rfl k rfl ?_
          simp only [Act.put, List.setIfInBounds_toArray, List.set_cons_succ, List.set_cons_zero]
          refine wpList_move (.tmp 0) rfl rfl (.slice (some ⟨bb, off, none⟩) n cf) rfl ?_
          simp only [Act.put, List.setIfInBounds_toArray, List.set_cons_succ, List.set_cons_zero]
          refine wpList_move (.tmp 13) rfl rfl (.int .i64 (k : Int)) rfl ?_
          simp only [Act.put, List.setIfInBounds_toArray, List.set_cons_succ, List.set_cons_zero]
          refine wpList_indexAddr und40' info5 (.tmp 71) (.tmp 72) rfl rfl bb off n cf k rfl rfl hkn ?_
          simp only [Act.put, List.setIfInBounds_toArray, List.set_cons_succ, List.set_cons_zero]
          refine wpList_load1 one5 (.tmp 73) rfl rfl bb (off + k * 1) rfl (.int .u8 ((f.getD k 0 : Nat) : Int)) (by rw [show off + k * 1 = off + k by omega]; exact hcell) ?_
          simp only [Act.put, List.setIfInBounds_toArray, List.set_cons_succ, List.set_cons_zero]
          refine wpList_indexAddr und40' info5 (.tmp 68) (.tmp 70) rfl rfl ob 0 16 16 (k % 16) rfl rfl (by omega) ?_
          simp only [Act.put, List.setIfInBounds_toArray, List.set_cons_succ, List.set_cons_zero]
          refine wpList_store1 info5 (.tmp 75) (.tmp 74) rfl rfl rfl ob (0 + k % 16 * 1) 5 rfl (.int .u8 ((f.getD k 0 : Nat) : Int)) _ rfl rfl rfl HRW.out.1 (by rw [bcells_length, olds_length]; omega) ?_
          refine wpList_nil ?_
          obtain ⟨w8, hw8⟩ : ∃ w8, w8 = wr.setRow ob ((bcells (olds f k)).set (0 + k % 16 * 1) (.int .u8 ((f.getD k 0 : Nat) : Int))).toArray := ⟨_, rfl⟩
          rw [← hw8]
          have H8 : Hid (Row w8 ob 5 (bcells (olds f (k + 1))) ∧ Below ob w5 w8) := by
            rw [hw8, olds_cells, show 0 + k % 16 * 1 = k % 16 by omega]
            exact ⟨HRW.out.1.setRow _, HRW.out.2.trans ⟨rfl, rfl, rfl, by simp [World.setRow], fun b hb => Go.setRow_other wr ob b _ (by omega)⟩⟩
          clear hw8 hcell hv2 hv3
          go_wp2
          exact ⟨⟨k + 1, by omega, by go_num, H8.out.1, H8.out.2⟩, by simp [intOf]; omega⟩
        · have e : k = n := by omega
          subst e
          obtain ⟨o, ho⟩ : ∃ o, o = olds f k := ⟨_, rfl⟩
          have HO : Hid (o.length = 16 ∧ ∀ z ∈ o, z < 256) := by rw [ho]; exact ⟨olds_length _ _, olds_256 HBf.out _⟩
          obtain ⟨S, hS⟩ : ∃ S, S = k + 1 := ⟨_, rfl⟩
          have hS20 : S ≤ 1048577 := by omega
          have HT3 : Hid (ThenTo w B g ob o t S wr 0) := by
            rw [ho, hS]
            exact then_of H5.out.1 H5.out.2.1 H5.out.2.2 (by rw [← HOB.out]; exact HRW.out.2) (by rw [HOB.out]; exact Nat.le_refl _) HRW.out.1
          clear ho hS HRW H5 HT HLOW
          go_wp2
          go_loopw [14] (fun ix W => ∃ j : Nat, j ≤ Lt ∧ ix = .int .i64 j ∧ ThenTo w B g ob o t S W j) (fun ix _ => Lt - (intOf ix).toNat)
          case atStart => exact ⟨0, Nat.zero_le _, rfl, HT3.out⟩
          case round =>
            obtain ⟨j, hj, rfl, hft⟩ := hrel
            clear HT3
            have HT : Hid (ThenTo w B g ob o t S wr j) := hft
            by_cases hjt : j < Lt
            · have hjt' : j < t.length := by rw [← HLt.out]; exact hjt
              obtain ⟨bb, off, cv', hv, hcell⟩ := HSt.out.byte (W := wr) (by rw [← HB.out]; exact hft.low) j hjt'
              injection hv with hv1 hv2 hv3
              subst hv1
              obtain ⟨x, hx⟩ : ∃ x, x = t.getD j 0 := ⟨_, rfl⟩
              have HWR : Hid (∀ W1, Below wr.heap.size wr W1 → Row W1 wr.heap.size 5 (bcells (ones x)) → Calls Try.prog 16 #[ptr g, .int .i64 0, .int .i64 (3 * (j : Int) % 16), .slice (some ⟨wr.heap.size, 0, none⟩) 64 64] W1 fun e w' => e = .returned (.int .i64 0) ∧ ThenTo w B g ob o t S w' (j + 1)) := by
                intro W1 hb1 hr1
                rw [hx] at hr1
                have := then_write HT.out (by omega) wr.heap.size (Nat.le_refl _) hb1 hr1 (getD_256 HBt.out j)
                rw [show ((3 * j % 16 : Nat) : Int) = 3 * (j : Int) % 16 by omega] at this
                exact this
              rw [← hx] at hcell
              clear hx hv2 hv3 hft
              go_upto_region 19 with (first | (go_at_call 32; refine (HFU.out x wr).mono ?_; rintro e w6 ⟨rfl, r6, b6⟩; have HO6 : Hid (Below wr.heap.size wr w6 ∧ Row w6 wr.heap.size 5 (bcells (ones x))) := ⟨b6, r6⟩; clear r6 b6) | (go_at_call 16; refine (HWR.out w6 HO6.out.1 HO6.out.2).mono ?_; rintro e w7 ⟨rfl, hf7⟩))
              have H7 : Hid (ThenTo w B g ob o t S w7 (j + 1)) := hf7
              clear hf7 hcell
              go_wp2
              exact ⟨⟨j + 1, by omega, by go_num, H7.out⟩, by simp [intOf]; omega⟩
            · have e : j = Lt := by omega
              subst e
              clear hft
              go_upto_region 22 with (go_at_call 12; refine (then_clone HT.out (by omega)).mono ?_; rintro e w7 ⟨q, m7, rfl, hd7, hst7, hp7⟩)
              have H7 : Hid (ThenIs m7 o t j ∧ m7.steps = S + j ∧ PairTo w B g q ob o w7 m7 m7) := ⟨hd7, hst7, hp7⟩
              clear hd7 hst7 hp7
              have hs7 : m7.steps < 10000000 := by rw [H7.out.2.1]; omega
              go_upto_region 25 with (go_at_call 25; refine (pair_bootP H7.out.2.2 hs7 v2 ks HK.out HB.out).mono ?_; rintro e w8 ⟨rfl, hp8⟩)
              have H8 : Hid (PairTo w B g q ob o w8 (m7.boot ks) m7) := hp8
              clear hp8
              refine wp_region_lit ?_
              refine wpList_move (.tmp 15) rfl rfl (ptr q) rfl ?_
              simp only [Act.put, List.setIfInBounds_toArray, List.set_cons_succ, List.set_cons_zero]
              refine wpList_oneInt _ rfl rfl 0 rfl ?_
              intro w9 r9 s9 b9
              simp only [Act.put, List.setIfInBounds_toArray, List.set_cons_succ, List.set_cons_zero]
              refine wpList_callF en25 [.tmp 99, .tmp 100] _ rfl rfl [ptr q, .slice (some ⟨w8.heap.size, 0, none⟩) 1 1] rfl ?_
              refine (pair_bootQ H8.out hs7 b9 r9).mono ?_
              rintro e w10 ⟨rfl, c10, ht10, hr10⟩
              refine ⟨_, rfl, ?_⟩
              refine wpList_nil ?_
              simp only [Act.put, List.setIfInBounds_toArray, List.set_cons_succ, List.set_cons_zero]
              obtain ⟨gp, hp10, hgp⟩ := pair_of H7.out.1 H7.out.2.1 ks ht10 hr10
              have H10 : Hid (PairIn w B g q ob o (S + j) gp w10) := hp10
              have HGP : Hid (∀ s, s < 16 → gp s = o.getD s 0 ∨ ∃ i, i < j ∧ 3 * i % 16 = s ∧ gp s = t.getD i 0) := hgp
              have hSS : S + j < 10000000 := by omega
              clear r9 s9 b9 ht10 hr10 hp10 hgp H8 H7 hs7 HT
              go_wp2
              go_loopw [16] (fun sx W => ∃ s : Nat, s ≤ 16 ∧ sx = .int .i64 s ∧ PairIn w B g q ob o (S + j) gp W) (fun sx _ => 16 - (intOf sx).toNat)
              case atStart => exact ⟨0, Nat.zero_le _, rfl, H10.out⟩
              case round =>
                obtain ⟨s, hs, rfl, hpr⟩ := hrel
                have HPR : Hid (PairIn w B g q ob o (S + j) gp wr) := hpr
                clear hpr H10
                by_cases hs16 : s < 16
                · obtain ⟨v, hv⟩ : ∃ v, v = gp s := ⟨_, rfl⟩
                  obtain ⟨os, hos⟩ : ∃ os, os = o.getD s 0 := ⟨_, rfl⟩
                  have hos256 : os < 256 := by rw [hos]; exact getD_256 HO.out.2 s
                  have HV : Hid (v = os ∨ ∃ i, i < j ∧ 3 * i % 16 = s ∧ v = t.getD i 0) := by rw [hv, hos]; exact HGP.out s hs16
                  have hv256 : v < 256 := by
                    rcases HV.out with h | ⟨i, _, _, h⟩
                    · omega
                    · rw [h]; exact getD_256 HBt.out i
                  have HRP : Hid (Calls Try.prog 20 #[ptr g, .int .i64 0, .int .i64 (s : Int)] wr fun e w' => ∃ b, e = .returned (.tuple #[.slice (some ⟨b, 0, none⟩) 64 64, .int .i64 0]) ∧ Row w' b 5 (bcells (ones v)) ∧ PairIn w B g q ob o (S + j) gp w') := by rw [hv]; exact pair_readP HPR.out hSS s hs16
                  have HRQ : Hid (∀ W b0, PairIn w B g q ob o (S + j) gp W → Row W b0 5 (bcells (ones v)) → Calls Try.prog 20 #[ptr q, .int .i64 0, .int .i64 (s : Int)] W fun e w' => ∃ b, e = .returned (.tuple #[.slice (some ⟨b, 0, none⟩) 64 64, .int .i64 0]) ∧ Row w' b 5 (bcells (ones os)) ∧ Row w' b0 5 (bcells (ones v)) ∧ PairIn w B g q ob o (S + j) gp w') := by
                    rw [hos]
                    exact fun W b0 h1 h2 => pair_readQ h1 hSS s hs16 b0 _ h2
                  have HCO : Hid (∀ W, PairIn w B g q ob o (S + j) gp W → W.cell? ⟨ob, s, none⟩ = some (.int .u8 (os : Nat))) := by
                    intro W h
                    obtain ⟨_, _, _, _, _, _, hr⟩ := h
                    rw [hos]
                    exact hr.at s _ (bcells_at o s (by rw [HO.out.1]; exact hs16))
                  clear hv hos
                  go_upto_region 30 with (go_at_call 20; refine HRP.out.mono ?_; rintro e w11 ⟨b11, rfl, r11, p11⟩)
                  have H11 : Hid (Row w11 b11 5 (bcells (ones v)) ∧ PairIn w B g q ob o (S + j) gp w11) := ⟨r11, p11⟩
                  clear r11 p11
                  go_upto_region 31 with (go_at_call 20; refine (HRQ.out w11 b11 H11.out.2 H11.out.1).mono ?_; rintro e w12 ⟨b12, rfl, r12, r12', p12⟩)
                  have H12 : Hid (Row w12 b12 5 (bcells (ones os)) ∧ Row w12 b11 5 (bcells (ones v)) ∧ PairIn w B g q ob o (S + j) gp w12) := ⟨r12, r12', p12⟩
                  have hco := HCO.out w12 p12
                  clear r12 r12' p12
                  go_upto_region 32 with (first | (go_at_call 32; refine (HFU.out os w12).mono ?_; rintro e w13 ⟨rfl, r13, b13⟩; have H13 : Hid (Row w13 w12.heap.size 5 (bcells (ones os)) ∧ Row w13 b12 5 (bcells (ones os)) ∧ Row w13 b11 5 (bcells (ones v)) ∧ PairIn w B g q ob o (S + j) gp w13) := ⟨r13, H12.out.1.later b13 H12.out.1.lt, H12.out.2.1.later b13 H12.out.2.1.lt, H12.out.2.2.below b13⟩; clear r13 b13) | (go_at_call 33; refine (ones_same hos256 H13.out.2.1 H13.out.1).mono ?_; rintro e wx ⟨rfl, rfl⟩))
                  have H14 : Hid (Row w13 b11 5 (bcells (ones v)) ∧ PairIn w B g q ob o (S + j) gp w13) := ⟨H13.out.2.2.1, H13.out.2.2.2⟩
                  clear hco H13 H12 H11
                  go_upto_region 34 with fail
                  have hco := HCO.out w13 H14.out.2
                  have hcb : w13.cell? ⟨b11, 0, none⟩ = some (.int .u8 (v : Nat)) := H14.out.1.at 0 _ (bcells_at (ones v) 0 (by simp [ones]))
                  obtain ⟨y0, hy0⟩ : ∃ y0, y0 = decide (v = os) := ⟨_, rfl⟩
                  have HY0 : Hid (y0 = decide (v = os)) := hy0
                  have ty1 : ((v : Int) == (os : Int)) = y0 := by rw [hy0]; by_cases h : v = os <;> simp [h]; omega
                  have ty2 : decide ((v : Int) = (os : Int)) = y0 := by rw [hy0]; by_cases h : v = os <;> simp [h]; omega
                  clear hy0
                  go_quiet (fail)
                  go_wp2
                  go_loopw [22, 23] (fun mx ix W => ∃ (i : Nat) (y : Bool), i ≤ j ∧ ix = .int .i64 i ∧ mx = .bool y ∧ (y = true ↔ (v = os ∨ ∃ k, k < i ∧ 3 * k % 16 = s ∧ v = t.getD k 0)) ∧ Row W b11 5 (bcells (ones v)) ∧ PairIn w B g q ob o (S + j) gp W) (fun _ ix _ => j - (intOf ix).toNat)
                  case atStart => exact ⟨0, y0, Nat.zero_le _, rfl, rfl, by rw [HY0.out]; simp, H14.out.1, H14.out.2.drewN nq⟩
                  case round =>
                    obtain ⟨i, y, hi, rfl, rfl, hyy, hr15, hp15⟩ := hrel
                    have H15 : Hid ((y = true ↔ (v = os ∨ ∃ k, k < i ∧ 3 * k % 16 = s ∧ v = t.getD k 0)) ∧ Row wr b11 5 (bcells (ones v)) ∧ PairIn w B g q ob o (S + j) gp wr) := ⟨hyy, hr15, hp15⟩
                    clear hyy hr15 hp15 ty1 ty2 hco hcb
                    have hcb : wr.cell? ⟨b11, 0, none⟩ = some (.int .u8 (v : Nat)) := H15.out.2.1.at 0 _ (bcells_at (ones v) 0 (by simp [ones]))
                    by_cases hij : i < j
                    · have hit : i < t.length := by rw [← HLt.out]; exact hij
                      obtain ⟨bb, off, cv', hv, hct⟩ := HSt.out.byte (W := wr) (by rw [← HB.out]; exact H15.out.2.2.low) i hit
                      injection hv with hv1 hv2 hv3
                      subst hv1
                      obtain ⟨x, hx⟩ : ∃ x, x = t.getD i 0 := ⟨_, rfl⟩
                      have HX : Hid (x = t.getD i 0) := hx
                      rw [← hx] at hct
                      clear hx hv2 hv3
                      cases y with
                      | true =>
                        go_upto_region 38 with fail
                        go_quiet (fail)
                        go_wp2
                        refine ⟨⟨i + 1, true, by omega, by go_num, rfl, ⟨fun _ => ?_, fun _ => rfl⟩, H15.out.2.1, H15.out.2.2.drewN _⟩, by simp [intOf]; omega⟩
                        rcases H15.out.1.1 rfl with h | ⟨k, h1, h2⟩
                        · exact Or.inl h
                        · exact Or.inr ⟨k, by omega, h2⟩
                      | false =>
                        have HNO : Hid (¬ (v = os ∨ ∃ k, k < i ∧ 3 * k % 16 = s ∧ v = t.getD k 0)) := fun h => by
                          have := H15.out.1.2 h
                          cases this
                        by_cases hp : 3 * i % 16 = s
                        · obtain ⟨y1, hy1⟩ : ∃ y1, y1 = decide (v = x) := ⟨_, rfl⟩
                          have HY1 : Hid (y1 = decide (v = x)) := hy1
                          have ty1 : ((v : Int) == (x : Int)) = y1 := by rw [hy1]; by_cases h : v = x <;> simp [h]; omega
                          have ty2 : decide ((v : Int) = (x : Int)) = y1 := by rw [hy1]; by_cases h : v = x <;> simp [h]; omega
                          have tp1 : (3 * (i : Int) % 16 == (s : Int)) = true := by simp; omega
                          have tp2 : decide (3 * (i : Int) % 16 = (s : Int)) = true := by simp; omega
                          have HP : Hid (3 * i % 16 = s) := hp
                          clear hy1 hp
                          go_upto_region 38 with fail
                          go_quiet (fail)
                          go_wp2
                          refine ⟨⟨i + 1, y1, by omega, by go_num, rfl, ⟨fun h => ?_, fun h => ?_⟩, H15.out.2.1, H15.out.2.2.drewN _⟩, by simp [intOf]; omega⟩
                          · rw [HY1.out] at h
                            exact Or.inr ⟨i, by omega, HP.out, by rw [← HX.out]; simpa using h⟩
                          · rcases h with h | ⟨k, h1, h2, h3⟩
                            · exact absurd (Or.inl h) HNO.out
                            · by_cases e : k < i
                              · exact absurd (Or.inr ⟨k, e, h2, h3⟩) HNO.out
                              · have e2 : k = i := by omega
                                subst e2
                                rw [HY1.out, HX.out, ← h3]
                                simp
                        · have tp1 : (3 * (i : Int) % 16 == (s : Int)) = false := by simp; omega
                          have tp2 : decide (3 * (i : Int) % 16 = (s : Int)) = false := by simp; omega
                          have HP : Hid (¬ 3 * i % 16 = s) := hp
                          clear hp
                          go_upto_region 38 with fail
                          go_quiet (fail)
                          go_wp2
                          refine ⟨⟨i + 1, false, by omega, by go_num, rfl, ⟨fun h => (by cases h), fun h => ?_⟩, H15.out.2.1, H15.out.2.2.drewN _⟩, by simp [intOf]; omega⟩
                          rcases h with h | ⟨k, h1, h2, h3⟩
                          · exact absurd (Or.inl h) HNO.out
                          · by_cases e : k < i
                            · exact absurd (Or.inr ⟨k, e, h2, h3⟩) HNO.out
                            · have e2 : k = i := by omega
                              subst e2
                              exact absurd h2 HP.out
                    · have e : i = j := by omega
                      subst e
                      have hyt : y = true := H15.out.1.2 HV.out
                      subst hyt
                      go_upto_region 40 with (first | (go_at_call 32; refine (HFU.out v wr).mono ?_; rintro e w16 ⟨rfl, r16, b16⟩; have H16 : Hid (Row w16 wr.heap.size 5 (bcells (ones v)) ∧ Row w16 b11 5 (bcells (ones v)) ∧ PairIn w B g q ob o (S + i) gp w16) := ⟨r16, H15.out.2.1.later b16 H15.out.2.1.lt, H15.out.2.2.below b16⟩; clear r16 b16) | (go_at_call 33; refine (ones_same hv256 H16.out.2.1 H16.out.1).mono ?_; rintro e wx ⟨rfl, rfl⟩))
                      go_wp2
                      exact ⟨⟨s + 1, by omega, by go_num, H16.out.2.2⟩, by simp [intOf]; omega⟩
                · have e : s = 16 := by omega
                  subst e
                  go_wp2
                  go_ret
                  exact ⟨rfl, HPR.out.low⟩
end Go.Proofs.Yteacjeihliajpaa

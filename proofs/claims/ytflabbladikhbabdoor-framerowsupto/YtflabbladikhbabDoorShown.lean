/- What the statements hold ahead of all: the document's examples. -/
import Derived.Test.YtflabbladikhbabDoorUnpack
namespace Go.Proofs.YtflabbladikhbabDoor
open Go.RowKit

theorem eval_const (a : Act) (v : Value) : a.eval (.const v) = v := rfl
section
variable {w : World} {ops : Array Oper} {rest : List Oper} {o : Oper} {a : Act} {Q : Exit → Act → World → Prop}
theorem run_lit97_98 : (Instr.buildSlice 22 2 #[(0, .int .u8 97), (1, .int .u8 98)]).run Tryd.prog w = .ok (.slice (some ⟨w.heap.size, 0, none⟩) 2 2) (w.alloc (.cells (bcells [97, 98]).toArray 5)) := by kernel_rfl
theorem wpList_lit97_98 (hgd : Region.wanted o (yielded ops a.tmps) = true) (ho : o.op = .buildSlice 22 2 #[(0, .const (.int .u8 97)), (1, .const (.int .u8 98))])
    (h : ∀ v' w', SliceIn w' v' [97, 98] → Below w.heap.size w w' → wpList Tryd.prog ops Q rest (a.put o.dst v') w') : wpList Tryd.prog ops Q (o :: rest) a w :=
  wpList_value hgd _ _ (by simp only [execOp, ho, List.map_toArray, List.map_cons, List.map_nil, eval_const, run_lit97_98, Sem.run_bind, Sem.run_pure, Result.andThen_ok]; rfl) (h _ (w.alloc (.cells (bcells [97, 98]).toArray 5)) (lit_in w [97, 98] (by decide) (by decide)) ((Below.refl _ _).alloc (Nat.le_refl _) _))
theorem run_litten : (Instr.buildSlice 22 10 #[(0, .int .u8 255), (1, .int .u8 255), (2, .int .u8 255), (3, .int .u8 255), (4, .int .u8 0), (5, .int .u8 1), (6, .int .u8 2), (7, .int .u8 3), (8, .int .u8 4), (9, .int .u8 5)]).run Tryd.prog w = .ok (.slice (some ⟨w.heap.size, 0, none⟩) 10 10) (w.alloc (.cells (bcells [255, 255, 255, 255, 0, 1, 2, 3, 4, 5]).toArray 5)) := by kernel_rfl
theorem wpList_litten (hgd : Region.wanted o (yielded ops a.tmps) = true) (ho : o.op = .buildSlice 22 10 #[(0, .const (.int .u8 255)), (1, .const (.int .u8 255)), (2, .const (.int .u8 255)), (3, .const (.int .u8 255)), (4, .const (.int .u8 0)), (5, .const (.int .u8 1)), (6, .const (.int .u8 2)), (7, .const (.int .u8 3)), (8, .const (.int .u8 4)), (9, .const (.int .u8 5))])
    (h : ∀ v' w', SliceIn w' v' [255, 255, 255, 255, 0, 1, 2, 3, 4, 5] → Below w.heap.size w w' → wpList Tryd.prog ops Q rest (a.put o.dst v') w') : wpList Tryd.prog ops Q (o :: rest) a w :=
  wpList_value hgd _ _ (by simp only [execOp, ho, List.map_toArray, List.map_cons, List.map_nil, eval_const, run_litten, Sem.run_bind, Sem.run_pure, Result.andThen_ok]; rfl) (h _ (w.alloc (.cells (bcells [255, 255, 255, 255, 0, 1, 2, 3, 4, 5]).toArray 5)) (lit_in w [255, 255, 255, 255, 0, 1, 2, 3, 4, 5] (by decide) (by decide)) ((Below.refl _ _).alloc (Nat.le_refl _) _))
theorem run_lit1_2_3 : (Instr.buildSlice 22 3 #[(0, .int .u8 1), (1, .int .u8 2), (2, .int .u8 3)]).run Tryd.prog w = .ok (.slice (some ⟨w.heap.size, 0, none⟩) 3 3) (w.alloc (.cells (bcells [1, 2, 3]).toArray 5)) := by kernel_rfl
theorem wpList_lit1_2_3 (hgd : Region.wanted o (yielded ops a.tmps) = true) (ho : o.op = .buildSlice 22 3 #[(0, .const (.int .u8 1)), (1, .const (.int .u8 2)), (2, .const (.int .u8 3))])
    (h : ∀ v' w', SliceIn w' v' [1, 2, 3] → Below w.heap.size w w' → wpList Tryd.prog ops Q rest (a.put o.dst v') w') : wpList Tryd.prog ops Q (o :: rest) a w :=
  wpList_value hgd _ _ (by simp only [execOp, ho, List.map_toArray, List.map_cons, List.map_nil, eval_const, run_lit1_2_3, Sem.run_bind, Sem.run_pure, Result.andThen_ok]; rfl) (h _ (w.alloc (.cells (bcells [1, 2, 3]).toArray 5)) (lit_in w [1, 2, 3] (by decide) (by decide)) ((Below.refl _ _).alloc (Nat.le_refl _) _))
theorem run_lit97_1_2 : (Instr.buildSlice 22 3 #[(0, .int .u8 97), (1, .int .u8 1), (2, .int .u8 2)]).run Tryd.prog w = .ok (.slice (some ⟨w.heap.size, 0, none⟩) 3 3) (w.alloc (.cells (bcells [97, 1, 2]).toArray 5)) := by kernel_rfl
theorem wpList_lit97_1_2 (hgd : Region.wanted o (yielded ops a.tmps) = true) (ho : o.op = .buildSlice 22 3 #[(0, .const (.int .u8 97)), (1, .const (.int .u8 1)), (2, .const (.int .u8 2))])
    (h : ∀ v' w', SliceIn w' v' [97, 1, 2] → Below w.heap.size w w' → wpList Tryd.prog ops Q rest (a.put o.dst v') w') : wpList Tryd.prog ops Q (o :: rest) a w :=
  wpList_value hgd _ _ (by simp only [execOp, ho, List.map_toArray, List.map_cons, List.map_nil, eval_const, run_lit97_1_2, Sem.run_bind, Sem.run_pure, Result.andThen_ok]; rfl) (h _ (w.alloc (.cells (bcells [97, 1, 2]).toArray 5)) (lit_in w [97, 1, 2] (by decide) (by decide)) ((Below.refl _ _).alloc (Nat.le_refl _) _))
end

theorem pack7 : Frame.pack 7 [97, 98] = [0, 0, 0, 2, 7, 97, 98, 237, 112, 91, 226] := by decide +kernel
theorem ten_err : Frame.errOf [255, 255, 255, 255, 0, 1, 2, 3, 4, 5] = 40 := by decide +kernel
theorem un7 : Frame.kindOf [0, 0, 0, 2, 7, 97, 98, 237, 112, 91, 226, 99] = 7 ∧ Frame.payOf [0, 0, 0, 2, 7, 97, 98, 237, 112, 91, 226, 99] = [97, 98] ∧ Frame.restOf [0, 0, 0, 2, 7, 97, 98, 237, 112, 91, 226, 99] = [99] ∧ Frame.errOf [0, 0, 0, 2, 7, 97, 98, 237, 112, 91, 226, 99] = 0 := by decide +kernel
/-- Pack of the example -/
theorem packEx (v : Value) (w : World) (h : SliceIn w v [97, 98]) (ht : TabIn w) :
    Calls Tryd.prog 6 #[.int .u8 7, v] w fun e w' => ∃ v', e = .returned v' ∧ SliceIn w' v' [0, 0, 0, 2, 7, 97, 98, 237, 112, 91, 226] ∧ Below w.heap.size w w' := by
  have := pack_any 7 (by decide) v [97, 98] w h ht (by decide)
  rw [pack7] at this
  exact this.mono fun e w' ⟨v', h1, h2, h3⟩ => ⟨v', h1, h2.slice (by decide), h3⟩
theorem unpackEx (v : Value) (w : World) (h : SliceIn w v [0, 0, 0, 2, 7, 97, 98, 237, 112, 91, 226, 99]) (ht : TabIn w) :
    Calls Tryd.prog 10 #[v] w fun e w' => ∃ vp vr, e = .returned (.tuple #[.int .u8 7, vp, vr, .int .i64 0]) ∧ SliceIn w' vp [97, 98] ∧ SliceIn w' vr [99] ∧ Below w.heap.size w w' := by
  have := unpack_any v _ w h ht (by decide)
  obtain ⟨e1, e2, e3, e4⟩ := un7
  rw [e1, e2, e3, e4] at this
  exact this.mono fun e w' ⟨vp, vr, h1, h2, h3, _, h4⟩ => ⟨vp, vr, h1, h2.slice (by decide), h3.slice (by decide), h4⟩
theorem unpackTen (v : Value) (w : World) (h : SliceIn w v [255, 255, 255, 255, 0, 1, 2, 3, 4, 5]) (ht : TabIn w) :
    Calls Tryd.prog 10 #[v] w fun e w' => ∃ k vp vr, e = .returned (.tuple #[k, vp, vr, .int .i64 40]) ∧ Below w.heap.size w w' := by
  have := unpack_any v _ w h ht (by decide)
  rw [ten_err] at this
  exact this.mono fun e w' ⟨vp, vr, h1, _, _, _, h4⟩ => ⟨_, vp, vr, h1, h4⟩
theorem takeEx (v : Value) (w : World) (h : SliceIn w v [1, 2, 3]) :
    Calls Tryd.prog 7 #[v, .int .i64 2] w fun e w' => ∃ v', e = .returned (.tuple #[.int .u64 258, v', .int .i64 0]) ∧ SliceIn w' v' [3] ∧ Below w.heap.size w w' :=
  (take_yes v [1, 2, 3] 2 w h (by decide) (by decide) (by decide) (by decide)).mono fun e w' ⟨v', h1, h2, h3⟩ => ⟨v', h1, h2.slice (by decide), h3⟩
theorem numberEx (v : Value) (w : World) (h : SliceIn w v [97]) :
    Calls Tryd.prog 11 #[v, .int .u64 258, .int .i64 2] w fun e w' => ∃ v', e = .returned v' ∧ SliceIn w' v' [97, 1, 2] ∧ Below w.heap.size w w' :=
  (number_yes v [97] 258 2 w h (by decide) (by decide) (by decide)).mono fun e w' ⟨v', h1, h2, h3⟩ => ⟨v', h1, h2.slice (by decide), h3⟩
theorem numberEx9 (v : Value) (w : World) (h : SliceIn w v [97]) :
    Calls Tryd.prog 11 #[v, .int .u64 258, .int .i64 9] w fun e w' => ∃ v', e = .returned v' ∧ SliceIn w' v' [97] ∧ Below w.heap.size w w' :=
  (number_no v [97] 258 9 w h (by decide) (by decide)).mono fun e w' ⟨v', h1, h2, h3⟩ => ⟨v', h1, h2.slice (by decide), h3⟩
theorem sameEx (va vb : Value) (cs : List Nat) (w : World) (ha : SliceIn w va cs) (hb : SliceIn w vb cs) : Calls Tryd.prog 9 #[va, vb] w fun e w' => e = .returned (.bool true) ∧ w = w' := by
  have := same_any va vb cs cs w ha hb
  rwa [sameB_self] at this

set_option maxHeartbeats 2000000 in
theorem shown_any (w : World) (ht : TabIn w) : Calls Tryd.prog 5 #[] w fun e w' => e = .returned (.bool true) ∧ Below w.heap.size w w' := by
  go_enter Tryd.func5, Tryd.ntmps5
  go_wp2_with (refine wpList_lit97_98 rfl rfl ?_; intro v1 w1 s1 b1)
  refine (packEx v1 w1 s1 (ht.later b1)).mono ?_
  rintro e w2 ⟨v2, rfl, s2, b2⟩
  have B2 : Hid (Below w.heap.size w w2) := below_append b1 b2
  clear s1 b1 b2
  go_wp2_with (first
    | (refine wpList_lit0 rfl rfl w2.heap.size (Nat.le_refl _) ?_; intro v3 w3 o3 b3; have O3 : Hid (BOwn w3 w2.heap.size v3 []) := o3; have B3 : Hid (Below w2.heap.size w2 w3) := b3; clear o3 b3)
    | (refine wpList_append (.tmp 22) (.tmp 23) rfl rfl w2.heap.size v3 v2 [] _ rfl O3.out rfl (s2.later B3.out) (by decide) B3.out.size ?_; intro v4 w4 o4 b4; have O4 : Hid (BOwn w4 w2.heap.size v4 [0, 0, 0, 2, 7, 97, 98, 237, 112, 91, 226]) := o4; have B4 : Hid (Below w2.heap.size w2 w4) := B3.out.trans b4; clear o4 b4 O3 B3)
    | (refine wpList_lit1 (.const (.int .u8 99)) rfl rfl 99 (by decide) _ rfl rfl ?_; intro v5 w5 s5 b5; have S5 : Hid (SliceIn w5 v5 [99]) := s5; have B5 : Hid (Below w4.heap.size w4 w5) := b5; clear s5 b5)
    | (refine wpList_append (.tmp 24) (.tmp 25) rfl rfl w2.heap.size v4 v5 _ [99] rfl (O4.out.later B5.out (Nat.le_refl _)) rfl S5.out (by decide) (Nat.le_trans B4.out.size B5.out.size) ?_; intro v6 w6 o6 b6; have O6 : Hid (BOwn w6 w2.heap.size v6 [0, 0, 0, 2, 7, 97, 98, 237, 112, 91, 226, 99]) := o6; have B6 : Hid (Below w2.heap.size w2 w6) := (B4.out.trans (B5.out.mono B4.out.size)).trans b6; clear o6 b6 O4 B4 S5 B5))
  refine (unpackEx v6 w6 (O6.out.slice (by decide)) (ht.later (below_append B2.out B6.out))).mono ?_
  rintro e w7 ⟨vp, vr, rfl, sp, sr, b7⟩
  have B7 : Hid (Below w.heap.size w w7) := below_append (below_append B2.out B6.out) b7
  have SP : Hid (SliceIn w7 vp [97, 98]) := sp
  have SR : Hid (SliceIn w7 vr [99]) := sr
  clear O6 B6 b7 sp sr B2
  go_wp2_with (refine wpList_litten rfl rfl ?_; intro v8 w8 s8 b8; have S8 : Hid (SliceIn w8 v8 [255, 255, 255, 255, 0, 1, 2, 3, 4, 5]) := s8; have B8 : Hid (Below w7.heap.size w7 w8) := b8; clear s8 b8)
  refine (unpackTen v8 w8 S8.out (ht.later (below_append B7.out B8.out))).mono ?_
  rintro e w9 ⟨k9, p9, r9, rfl, b9⟩
  have B9 : Hid (Below w7.heap.size w7 w9) := below_append B8.out b9
  clear b9 B8 S8
  go_wp2_with (refine wpList_lit1_2_3 rfl rfl ?_; intro v10 w10 s10 b10; have S10 : Hid (SliceIn w10 v10 [1, 2, 3]) := s10; have B10 : Hid (Below w7.heap.size w7 w10) := below_append B9.out b10; clear s10 b10)
  refine (takeEx v10 w10 S10.out).mono ?_
  rintro e w11 ⟨v11, rfl, s11, b11⟩
  have S11 : Hid (SliceIn w11 v11 [3]) := s11
  have B11 : Hid (Below w7.heap.size w7 w11) := below_append B10.out b11
  clear s11 b11 S10 B10 B9
  go_wp2_with (refine wpList_lit1 (.const (.int .u8 1)) rfl rfl 1 (by decide) _ rfl rfl ?_; intro v12 w12 s12 b12; have S12 : Hid (SliceIn w12 v12 [1]) := s12; have B12 : Hid (Below w11.heap.size w11 w12) := b12; clear s12 b12)
  refine (take_short v12 [1] 2 w12 S12.out (by decide) (by decide) (by decide)).mono ?_
  rintro e w' ⟨rfl, rfl⟩
  clear S12
  go_wp2_with (refine wpList_lit1 (.const (.int .u8 1)) rfl rfl 1 (by decide) _ rfl rfl ?_; intro v13 w13 s13 b13; have B13 : Hid (Below w11.heap.size w11 w13) := below_append B12.out b13; clear s13 b13)
  refine (take_arg v13 0 w13 (by decide)).mono ?_
  rintro e w' ⟨rfl, rfl⟩
  have SP13 : Hid (SliceIn w13 vp [97, 98]) := SP.out.later (below_append B11.out B13.out)
  have SR13 : Hid (SliceIn w13 vr [99]) := SR.out.later (below_append B11.out B13.out)
  have ST13 : Hid (SliceIn w13 v11 [3]) := S11.out.later B13.out
  have BW13 : Hid (Below w.heap.size w w13) := below_append B7.out (below_append B11.out B13.out)
  clear SP SR S11 B12 B13 B11 B7
  go_wp2_with (first
    | (refine wpList_len (.tmp 57) rfl rfl v2 _ rfl s2 ?_)
    | (refine wpList_lit97_98 rfl rfl ?_; intro v14 w14 s14 b14; have S14 : Hid (SliceIn w14 v14 [97, 98]) := s14; have B14 : Hid (Below w13.heap.size w13 w14) := b14; clear s14 b14)
    | (go_at_call_of 9 vp; refine (sameEx vp v14 [97, 98] w14 (SP13.out.later B14.out) S14.out).mono ?_; rintro e w' ⟨rfl, rfl⟩)
    | (refine wpList_lit1 (.const (.int .u8 99)) rfl rfl 99 (by decide) _ rfl rfl ?_; intro v15 w15 s15 b15; have S15 : Hid (SliceIn w15 v15 [99]) := s15; have B15 : Hid (Below w13.heap.size w13 w15) := below_append B14.out b15; clear s15 b15)
    | (go_at_call_of 9 vr; refine (sameEx vr v15 [99] w15 (SR13.out.later B15.out) S15.out).mono ?_; rintro e w' ⟨rfl, rfl⟩)
    | (refine wpList_lit1 (.const (.int .u8 3)) rfl rfl 3 (by decide) _ rfl rfl ?_; intro v16 w16 s16 b16; have S16 : Hid (SliceIn w16 v16 [3]) := s16; have B16 : Hid (Below w13.heap.size w13 w16) := below_append B15.out b16; clear s16 b16)
    | (go_at_call_of 9 v11; refine (sameEx v11 v16 [3] w16 (ST13.out.later B16.out) S16.out).mono ?_; rintro e w' ⟨rfl, rfl⟩; clear ST13)
    | (refine wpList_lit1 (.const (.int .u8 97)) rfl rfl 97 (by decide) _ rfl rfl ?_; intro v17 w17 s17 b17; have S17 : Hid (SliceIn w17 v17 [97]) := s17; have B17 : Hid (Below w13.heap.size w13 w17) := below_append B16.out b17; clear s17 b17))
  refine (numberEx v17 w17 S17.out).mono ?_
  rintro e w18 ⟨v18, rfl, s18, b18⟩
  have S18 : Hid (SliceIn w18 v18 [97, 1, 2]) := s18
  have B18 : Hid (Below w13.heap.size w13 w18) := below_append B17.out b18
  clear s18 b18 S17 B17 S16 B16 S15 B15 S14 B14 SP13 SR13
  go_wp2_with (first
    | (refine wpList_lit97_1_2 rfl rfl ?_; intro v19 w19 s19 b19; have S19 : Hid (SliceIn w19 v19 [97, 1, 2]) := s19; have B19 : Hid (Below w18.heap.size w18 w19) := b19; clear s19 b19)
    | (go_at_call_of 9 v18; refine (sameEx v18 v19 [97, 1, 2] w19 (S18.out.later B19.out) S19.out).mono ?_; rintro e w' ⟨rfl, rfl⟩)
    | (refine wpList_lit1 (.const (.int .u8 97)) rfl rfl 97 (by decide) _ rfl rfl ?_; intro v20 w20 s20 b20; have S20 : Hid (SliceIn w20 v20 [97]) := s20; have B20 : Hid (Below w13.heap.size w13 w20) := below_append (below_append B18.out B19.out) b20; clear s20 b20))
  refine (numberEx9 v20 w20 S20.out).mono ?_
  rintro e w21 ⟨v21, rfl, s21, b21⟩
  have S21 : Hid (SliceIn w21 v21 [97]) := s21
  have B21 : Hid (Below w13.heap.size w13 w21) := below_append B20.out b21
  clear s21 b21 S20 B20 B19 S19 B18 S18
  go_wp2_with (first
    | (refine wpList_lit1 (.const (.int .u8 97)) rfl rfl 97 (by decide) _ rfl rfl ?_; intro v22 w22 s22 b22; have S22 : Hid (SliceIn w22 v22 [97]) := s22; have B22 : Hid (Below w21.heap.size w21 w22) := b22; clear s22 b22)
    | (go_at_call_of 9 v21; refine (sameEx v21 v22 [97] w22 (S21.out.later B22.out) S22.out).mono ?_; rintro e w' ⟨rfl, rfl⟩))
  go_ret
  exact ⟨rfl, below_append BW13.out (below_append B21.out B22.out)⟩
end Go.Proofs.YtflabbladikhbabDoor

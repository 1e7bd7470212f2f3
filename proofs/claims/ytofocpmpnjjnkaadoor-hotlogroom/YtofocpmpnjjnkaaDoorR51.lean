/- Layer 14: there is room for what is promised. -/
import Derived.Test.YtofocpmpnjjnkaaDoorR50
namespace Go.Proofs.YtofocpmpnjjnkaaDoor
open Go.RowKit Go.Maps


/-- an operation's cells -/
def opc (kd N : Int) (v : Value) : List Value := [.int .i64 kd, .int .i64 N, v, .int .i64 0, .int .i64 0, .int .i64 0, .bool false, .slice none 0 0]
theorem run_build33y {w : World} {a : Act} {o : Oper} (x : Operand) (ho : o.op = .build 33 #[(2, x)]) (g k : Nat) (hx : a.eval x = whole g k) : (execOp a.eval o).run Tryd.prog w = .ok (.value (.agg (opc 0 0 (whole g k)).toArray)) w := by
  have hr : (Instr.build 33 #[(2, whole g k)]).run Tryd.prog w = .ok (.agg (opc 0 0 (whole g k)).toArray) w := by kernel_rfl
  simp only [execOp, ho, List.map_toArray, List.map_cons, List.map_nil, hx, hr, Sem.run_bind, Sem.run_pure, Result.andThen_ok]
theorem run_build33k {w : World} {a : Act} {o : Oper} (x : Operand) (ho : o.op = .build 33 #[(0, .const (.int .i64 4)), (1, x)]) (z : Int) (hx : a.eval x = .int .i64 z) : (execOp a.eval o).run Tryd.prog w = .ok (.value (.agg (opc 4 z (.slice none 0 0)).toArray)) w := by
  have hr : (Instr.build 33 #[(0, .int .i64 4), (1, .int .i64 z)]).run Tryd.prog w = .ok (.agg (opc 4 z (.slice none 0 0)).toArray) w := by kernel_rfl
  have e1 : a.eval (.const (.int .i64 4)) = .int .i64 4 := rfl
  simp only [execOp, ho, List.map_toArray, List.map_cons, List.map_nil, hx, e1, hr, Sem.run_bind, Sem.run_pure, Result.andThen_ok]
theorem run_geZ {w : World} {a : Act} {o : Oper} (x y : Operand) (ho : o.op = .binOp .geq 3 x y 3) (z z' : Int) (hx : a.eval x = .int .i64 z) (hy : a.eval y = .int .i64 z') (b : Bool) (hb : decide (z' ≤ z) = b) : (execOp a.eval o).run Tryd.prog w = .ok (.value (.bool b)) w := by
  refine run_binOp' x y ho _ _ _ hx hy rfl ?_
  rw [← hb]
  simp [go_sem]
/-- what the law of the room holds -/
structure Rm (w W : World) (c : Nat → Colour) (gp gh gf gm gs gr : Nat) (m : Pl) (n : Nat) (us : List (Nat × List Nat)) (K : Nat) (vu vb : Value) (bl : List Value) (ever : Nat) : Prop where
  fu : m.fuse < 0
  h : HtW w W c gp gh gf gm m n us K
  d : Sd w W c gp gh gf gm gs gr n us vu vb bl ever 0
  inv : RoomInv (n / 16) (us.map plc) ever
  k : K ≤ 20 * ever
  e : ever ≤ 8 * (n / 16)
theorem Rm.bel {w W W' : World} {c : Nat → Colour} {gp gh gf gm gs gr : Nat} {m : Pl} {n : Nat} {us : List (Nat × List Nat)} {K : Nat} {vu vb : Value} {bl : List Value} {ever : Nat} (r : Rm w W c gp gh gf gm gs gr m n us K vu vb bl ever) (hb : Below W.heap.size W W') : Rm w W' c gp gh gf gm gs gr m n us K vu vb bl ever := ⟨r.fu, r.h.bel hb, r.d.bel hb, r.inv, r.k, r.e⟩
theorem Sd.new {w W : World} {c : Nat → Colour} {gp gh gf gm gs gr n : Nat} (hs : Row W gs 38 (scells gp gh gr 0 0)) (hr : Row W gr 60 (rcells0 1 (n : Nat))) (o1 : Out w W c gh gf gm gs) (o2 : Out w W c gh gf gm gr) : Sd w W c gp gh gf gm gs gr n [] (.slice none 0 0) (.slice none 0 0) [] 0 0 :=
  ⟨hs, o1, hr, o2, World.ownsRow_nil _ _ _ _, fun b e => (by cases e), World.ownsRow_nil _ _ _ _, fun b e => (by cases e), fun i hi => absurd hi (Nat.not_lt_zero _)⟩
/-- bytes just made lie apart -/
theorem Far.made {w W : World} {c : Nat → Colour} {gp gh gf gm gs gr n q k ever dims : Nat} {us : List (Nat × List Nat)} {vu vb : Value} {bl cs : List Value} (d : Sd w W c gp gh gf gm gs gr n us vu vb bl ever dims) (hr : Row W q 5 cs) (ho : Out w W c gh gf gm q) : Far w W c gh gf gm gs gr vu vb (whole q k) := fun b e => by
  have e : b = q := (Option.some.inj e).symm
  subst e
  refine Or.inr ⟨ho, row_ne hr d.row (by decide), fun hf => ?_⟩
  rcases hf with h | h | h
  · exact row_ne hr d.r.row (by decide) h
  · exact d.r.u.ne h hr (by decide)
  · exact own_ne d.r.b h hr (by decide)
theorem ints_mem (l : List Int) (i : Nat) (h : i < l.length) : l.getD i 0 ∈ l := by
  rw [List.getD_eq_getElem?_getD, List.getElem?_eq_getElem h, Option.getD_some]
  exact List.getElem_mem h
set_option maxHeartbeats 4000000 in
set_option maxRecDepth 100000 in
theorem hotlogRoom_any (w : World) (ht : Fr.TabIn w) (hz : TzIn w) (z : Int) (hz0 : -9223372036854775808 ≤ z ∧ z ≤ 9223372036854775807) (vs : Value) (L : List Int) (hs : IntsIn w vs L) (hsL : ∀ x ∈ L, -9223372036854775808 ≤ x ∧ x ≤ 9223372036854775807) (vf : Value) (F : List Int) (hf : IntsIn w vf F) (hfF : ∀ x ∈ F, -9223372036854775808 ≤ x ∧ x ≤ 9223372036854775807) : Calls Tryd.prog 6 #[.int .i64 z, vs, vf] w fun e w' => e = .returned (.bool true) ∧ Below w.heap.size w w' := by
  have HM : Hid (Fr.TabIn w ∧ TzIn w ∧ IntsIn w vs L ∧ IntsIn w vf F ∧ (∀ x ∈ L, -9223372036854775808 ≤ x ∧ x ≤ 9223372036854775807) ∧ (∀ x ∈ F, -9223372036854775808 ≤ x ∧ x ≤ 9223372036854775807)) := ⟨ht, hz, hs, hf, hsL, hfF⟩
  have hLb : L.length < 4611686018427387904 := (by obtain ⟨_, _, _, _, h, _⟩ := hs; exact h)
  have hFb : F.length < 4611686018427387904 := (by obtain ⟨_, _, _, _, h, _⟩ := hf; exact h)
  obtain ⟨wz, hwz⟩ : ∃ x, x = whichOf z 120 := ⟨_, rfl⟩
  have hwl := whichOf_lt z 120 (by decide)
  obtain ⟨n, hn⟩ : ∃ n, n = 16 + wz := ⟨_, rfl⟩
  have hn1 : 16 ≤ n := (by omega)
  have hn135 : n ≤ 135 := (by omega)
  have HN : Hid (n = 16 + wz ∧ wz = whichOf z 120) := ⟨hn, hwz⟩
  have HZ : Hid (-9223372036854775808 ≤ z ∧ z ≤ 9223372036854775807) := hz0
  clear ht hz hs hf hsL hfF hn hwl hwz hz0
  obtain ⟨PQ, hPQ⟩ : ∃ PQ : Ending → World → Prop, PQ = fun (e : Ending) (w' : World) => e = .returned (.bool true) ∧ Below w.heap.size w w' := ⟨_, rfl⟩
  have HPQ : Hid (PQ = fun (e : Ending) (w' : World) => e = .returned (.bool true) ∧ Below w.heap.size w w') := hPQ
  rw [← hPQ]
  clear hPQ
  go_enter Tryd.func6, Tryd.ntmps6
  go_upto_region 0 with fail
  refine wp_region_lit ?_
  refine wl rfl (.bool false) _ (run_asZ (.const (.bool false)) rfl (.bool false) rfl) ?_
  simp only [Act.put, aS, aC, aZ]
  refine wpList_nil ?_
  go_upto_region 1 with fail
  refine wp_region_lit ?_
  refine wpList_callW eN9 [] _ rfl rfl [] rfl ?_
  refine (shown_any w HM.out.1 HM.out.2.1).mono ?_
  rintro e W1 ⟨rfl, hb_⟩
  refine ⟨_, rfl, ?_⟩
  have H1 : Hid (Below w.heap.size w W1) := hb_
  clear hb_
  simp only [Act.put, aS, aC, aZ]
  refine wl rfl (.bool true) _ (run_asZ (.tmp 13) rfl (.bool true) rfl) ?_
  simp only [Act.put, aS, aC, aZ]
  refine wpList_nil ?_
  go_upto_region 2 with fail
  refine wp_region_lit ?_
  refine wl rfl (.bool true) _ (run_mvZ (.tmp 7) rfl (.bool true) rfl) ?_
  simp only [Act.put, aS, aC, aZ]
  refine wl rfl (.bool false) _ (run_not (.tmp 14) 4 rfl true rfl) ?_
  simp only [Act.put, aS, aC, aZ]
  refine wpList_nil ?_
  go_upto_region 4 with fail
  refine wp_region_lit ?_
  refine wl rfl (.int .i64 z) _ (run_mvZ (.tmp 0) rfl (.int .i64 z) rfl) ?_
  simp only [Act.put, aS, aC, aZ]
  refine wpList_callW eN11 [.tmp 16, .const (.int .i64 120)] _ rfl rfl [(.int .i64 z), .int .i64 120] rfl ?_
  refine (which_any W1 z 120 (by decide) HZ.out.1 HZ.out.2).mono ?_
  rintro e W_ ⟨he_, rfl⟩
  rw [← HN.out.2] at he_
  subst he_
  refine ⟨_, rfl, ?_⟩
  simp only [Act.put, aS, aC, aZ]
  refine wl rfl (.int .i64 (n : Nat)) _ (run_addZ (.const (.int .i64 16)) (.tmp 17) rfl 16 (wz : Nat) _ rfl rfl (by have := HN.out.1; omega) (by omega) (by omega)) ?_
  simp only [Act.put, aS, aC, aZ]
  refine wl rfl (.int .i64 (n : Nat)) _ (run_asZ (.tmp 18) rfl (.int .i64 (n : Nat)) rfl) ?_
  simp only [Act.put, aS, aC, aZ]
  refine wpList_nil ?_
  go_upto_region 5 with fail
  refine wp_region_lit ?_
  refine wl rfl (.int .i64 (n : Nat)) _ (run_mvZ (.tmp 8) rfl (.int .i64 (n : Nat)) rfl) ?_
  simp only [Act.put, aS, aC, aZ]
  refine wpList_callW eN10 [.tmp 19] _ rfl rfl [(.int .i64 (n : Nat))] rfl ?_
  refine (begun_any H1.out HM.out.1 HM.out.2.1 n ⟨by omega, by omega⟩).mono ?_
  rintro e W2 ⟨gs, gp, gh, gf, gm, gr, c0, rfl, hb_, hh_, hs_, hr_, ho1, ho2⟩
  refine ⟨_, rfl, ?_⟩
  have H2 : Hid (Rm w W2 c0 gp gh gf gm gs gr (newPl [1, (n : Int)] [9]) n [] 0 (.slice none 0 0) (.slice none 0 0) [] 0) := ⟨(show (-1 : Int) < 0 by decide), hh_, Sd.new hs_ hr_ ho1 ho2, RoomInv.none _, Nat.le_refl _, Nat.zero_le _⟩
  clear hb_ hh_ hs_ hr_ ho1 ho2
  simp only [Act.put, aS, aC, aZ]
  refine wl rfl (ptr gs) _ (run_asZ (.tmp 20) rfl (ptr gs) rfl) ?_
  simp only [Act.put, aS, aC, aZ]
  refine wpList_nil ?_
  go_upto_region 6 with fail
  refine wp_region_lit ?_
  refine wl rfl (ptr gs) _ (run_mvZ (.tmp 9) rfl (ptr gs) rfl) ?_
  simp only [Act.put, aS, aC, aZ]
  refine wl rfl (.bool false) _ (run_binOp' (.tmp 21) (.const (.pointer none)) rfl _ _ _ rfl rfl rfl (by kernel_rfl)) ?_
  simp only [Act.put, aS, aC, aZ]
  refine wpList_nil ?_
  go_upto_region 8 with fail
  refine wp_region_lit ?_
  refine wl rfl (.int .i64 0) _ (run_asZ (.const (.int .i64 0)) rfl (.int .i64 0) rfl) ?_
  simp only [Act.put, aS, aC, aZ]
  refine wpList_nil ?_
  go_wp2_with fail
  go_loopw [10] (fun vi W => ∃ i : Nat, vi = .int .i64 (i : Nat) ∧ i ≤ L.length ∧ Hid (∃ c m us K vu vb bl ever, Rm w W c gp gh gf gm gs gr m n us K vu vb bl ever)) (fun vi _ => L.length - (intOf vi).toNat)
  case atStart => exact ⟨0, rfl, Nat.zero_le _, ⟨_, _, _, _, _, _, _, _, H2.out⟩⟩
  case round =>
    obtain ⟨i, rfl, hi, HI0⟩ := hrel
    obtain ⟨c, m, us, K, vu, vb, bl, ever, hI⟩ := HI0.out
    have HR : Hid (Rm w wr c gp gh gf gm gs gr m n us K vu vb bl ever) := hI
    have hev := hI.e
    have hKe := hI.k
    clear hI HI0
    by_cases hlt : i < L.length
    · go_upto_region 9 with fail
      refine wp_region_lit ?_
      refine wl rfl (.int .i64 (i : Nat)) _ (run_mvZ (.tmp 10) rfl (.int .i64 (i : Nat)) rfl) ?_
      simp only [Act.put, aS, aC, aZ]
      refine wl rfl vs _ (run_mvZ (.tmp 1) rfl vs rfl) ?_
      simp only [Act.put, aS, aC, aZ]
      refine wl rfl (.int .i64 (L.length : Nat)) _ (run_lenI31 HM.out.2.2.1 (.tmp 24) rfl rfl) ?_
      simp only [Act.put, aS, aC, aZ]
      refine wl rfl (.bool true) _ (run_lssZ (.tmp 23) (.tmp 25) rfl (i : Nat) (L.length : Nat) rfl rfl true (decide_eq_true (by omega))) ?_
      simp only [Act.put, aS, aC, aZ]
      refine wpList_nil ?_
      obtain ⟨bi, ji, hx_, hc_⟩ := HM.out.2.2.1.ix i hlt
      obtain ⟨zi, hzi⟩ : ∃ z, z = L.getD i 0 := ⟨_, rfl⟩
      have hzb := HM.out.2.2.2.2.1 (L.getD i 0) (ints_mem L i hlt)
      rw [← hzi] at hc_ hzb
      obtain ⟨ln, hln⟩ : ∃ x, x = whichOf zi 513 := ⟨_, rfl⟩
      have hln5 : ln < 513 := (by rw [hln]; exact whichOf_lt zi 513 (by decide))
      have HX : Hid ((∀ w', (Instr.indexAt 31 vs (.int .i64 (i : Nat))).run Tryd.prog w' = .ok (.pointer (some ⟨bi, ji, none⟩)) w') ∧ (∀ W, Below w.heap.size w W → W.cell? ⟨bi, ji, none⟩ = some (.int .i64 zi)) ∧ whichOf zi 513 = ln ∧ (-9223372036854775808 ≤ zi ∧ zi ≤ 9223372036854775807)) := ⟨hx_, hc_, hln.symm, hzb⟩
      clear hzi hzb hln hx_ hc_
      go_upto_region 11 with fail
      refine wp_region_lit ?_
      refine wl rfl vs _ (run_mvZ (.tmp 1) rfl vs rfl) ?_
      simp only [Act.put, aS, aC, aZ]
      refine wl rfl (.int .i64 (i : Nat)) _ (run_mvZ (.tmp 10) rfl (.int .i64 (i : Nat)) rfl) ?_
      simp only [Act.put, aS, aC, aZ]
      refine wl rfl (.pointer (some ⟨bi, ji, none⟩)) _ (run_idx (.tmp 29) (.tmp 30) rfl _ _ _ rfl rfl HX.out.1) ?_
      simp only [Act.put, aS, aC, aZ]
      refine wl rfl (.int .i64 zi) _ (run_load1 o3 (.tmp 31) rfl bi (ji) rfl (.int .i64 zi) (HX.out.2.1 _ HR.out.h.pl.below)) ?_
      simp only [Act.put, aS, aC, aZ]
      refine wpList_callW eN11 [.tmp 32, .const (.int .i64 513)] _ rfl rfl [(.int .i64 zi), (.int .i64 513)] rfl ?_
      refine (which_any wr zi 513 (by decide) HX.out.2.2.2.1 HX.out.2.2.2.2).mono ?_
      rintro e X_ ⟨he_, rfl⟩
      rw [HX.out.2.2.1] at he_
      subst he_
      refine ⟨_, rfl, ?_⟩
      simp only [Act.put, aS, aC, aZ]
      refine wl_make (.tmp 33) (.tmp 33) 28 5 (.int .u8 0) 1 1 rfl rfl und28 info5z ln rfl rfl (by omega) (by omega) ?_
      intro V1 r_ z_ b_
      rw [made5] at r_
      obtain ⟨qb, hqb⟩ : ∃ g, g = wr.heap.size := ⟨_, rfl⟩
      rw [← hqb] at r_ z_ ⊢
      have HB : Hid (Row V1 qb 5 (bcells (zr ln)) ∧ wr.heap.size ≤ qb) := ⟨r_, by omega⟩
      replace HR : Hid ((Rm w V1 c gp gh gf gm gs gr m n us K vu vb bl ever) ∧ Out w V1 c gh gf gm qb) := ⟨HR.out.bel b_, Out.new HR.out.h (by omega) r_.lt⟩
      clear r_ z_ b_ hqb
      simp only [Act.put, aS, aC, aZ]
      refine wl rfl (whole qb ln) _ (run_asZ (.tmp 34) rfl (whole qb ln) rfl) ?_
      simp only [Act.put, aS, aC, aZ]
      refine wpList_nil ?_
      have hc1 := costN_le (n := ln) (by omega)
      by_cases hbr : 8 * (n / 16) < ever + costN ln
      · go_upto_region 12 with fail
        refine wp_region_held (S := fun X => Row X gs 38 (scells gp gh gr (ever : Nat) (0 : Nat))) (by kernel_rfl) ?_
        show wpAnyH _ _ _ _ _ 12 (Array.replicate 12 false) _ _
        obtain ⟨X, hX⟩ : ∃ X : World, X = { V1 with drawn := V1.drawn + 1 } := ⟨_, rfl⟩
        rw [← hX]
        have HBX : Hid (Below V1.heap.size V1 X) := (by rw [hX]; exact ⟨rfl, rfl, rfl, Nat.le_refl _, fun _ _ => rfl⟩)
        replace HR : Hid ((Rm w X c gp gh gf gm gs gr m n us K vu vb bl ever) ∧ Out w X c gh gf gm qb) := ⟨HR.out.1.bel HBX.out, HR.out.2.bel HBX.out.size⟩
        replace HB : Hid (Row X qb 5 (bcells (zr ln)) ∧ wr.heap.size ≤ qb) := ⟨HB.out.1.later HBX.out HB.out.1.lt, HB.out.2⟩
        clear HBX
        have HS_ : Row X gs 38 (scells gp gh gr (ever : Nat) (0 : Nat)) := HR.out.1.d.row
        clear hX
        refine takeH (i := 0) (some 35) rfl rfl (by kernel_rfl) (by kernel_rfl) (by kernel_rfl) (fun _ _ _ h => h) (gRun rfl (ptr gs) fun _ h => run_mvZ (.tmp 9) rfl (ptr gs) rfl) HS_ ?_
        simp only [Act.put, aS, aC, aZ]
        refine takeH (i := 1) (some 36) rfl rfl (by kernel_rfl) (by kernel_rfl) (by kernel_rfl) (fun _ _ _ h => h) (gRun rfl (ptr gs) fun _ h => run_nil (.tmp 35) rfl ⟨gs, 0, none⟩ rfl) HS_ ?_
        simp only [Act.put, aS, aC, aZ]
        refine takeH (i := 2) (some 37) rfl rfl (by kernel_rfl) (by kernel_rfl) (by kernel_rfl) (fun _ _ _ h => h) (gRun rfl (.pointer (some ⟨gs, 0 + 3, none⟩)) fun _ h => run_fieldOp' f38_3 (.tmp 36) rfl gs (0) rfl) HS_ ?_
        simp only [Act.put, aS, aC, aZ]
        refine takeH (i := 3) (some 38) rfl rfl (by kernel_rfl) (by kernel_rfl) (by kernel_rfl) (fun _ _ _ h => h) (gRun rfl (.int .i64 (ever : Nat)) fun _ h => run_load1 o3 (.tmp 37) rfl gs (0 + 3) rfl (.int .i64 (ever : Nat)) (h.at 3 _ rfl)) HS_ ?_
        simp only [Act.put, aS, aC, aZ]
        refine takeH (i := 4) (some 39) rfl rfl (by kernel_rfl) (by kernel_rfl) (by kernel_rfl) (fun _ _ _ h => h) (gRun rfl (whole qb ln) fun _ h => run_mvZ (.tmp 11) rfl (whole qb ln) rfl) HS_ ?_
        simp only [Act.put, aS, aC, aZ]
        refine takeH (i := 5) (some 40) rfl rfl (by kernel_rfl) (by kernel_rfl) (by kernel_rfl) (fun _ _ _ h => h) (gRun rfl (.int .i64 (ln : Nat)) fun _ h => run_lenZ sl28 (.tmp 39) rfl _ _ _ rfl) HS_ ?_
        simp only [Act.put, aS, aC, aZ]
        refine takeH (i := 8) (some 43) rfl rfl (by kernel_rfl) (by kernel_rfl) (by kernel_rfl) (fun _ _ _ h => h) (gRun rfl (.int .i64 (n : Nat)) fun _ h => run_mvZ (.tmp 8) rfl (.int .i64 (n : Nat)) rfl) HS_ ?_
        simp only [Act.put, aS, aC, aZ]
        refine takeH (i := 9) (some 44) rfl rfl (by kernel_rfl) (by kernel_rfl) (by kernel_rfl) (fun _ _ _ h => h) (gRun rfl (.int .i64 ((n / 16 : Nat) : Int)) fun _ h => run_quo16 (.tmp 43) rfl n (by omega) rfl) HS_ ?_
        simp only [Act.put, aS, aC, aZ]
        refine takeH (i := 10) (some 45) rfl rfl (by kernel_rfl) (by kernel_rfl) (by kernel_rfl) (fun _ _ _ h => h) (gRun rfl (.int .i64 ((8 * (n / 16) : Nat) : Int)) fun _ h => run_mulZ (.const (.int .i64 8)) (.tmp 44) rfl 8 ((n / 16 : Nat) : Int) _ rfl rfl (by omega) (by omega) (by omega)) HS_ ?_
        simp only [Act.put, aS, aC, aZ]
        refine oneH (i := 6) (by kernel_rfl) ?_
        refine opCallG (some 41) rfl rfl rfl 22 _ (run_call eN22 [.tmp 40] _ rfl [(.int .i64 (ln : Nat))] rfl) ?_
        refine (rcost_any X ln (by omega)).mono ?_
        rintro e X_ ⟨rfl, rfl⟩
        refine ⟨_, rfl, ?_⟩
        refine ⟨HS_, ?_⟩
        simp only [Act.put, aS, aC, aZ]
        refine takeH (i := 7) (some 42) rfl rfl (by kernel_rfl) (by kernel_rfl) (by kernel_rfl) (fun _ _ _ h => h) (gRun rfl (.int .i64 ((ever + costN ln : Nat) : Int)) fun _ h => run_addZ (.tmp 38) (.tmp 41) rfl (ever : Nat) (costN ln : Nat) _ rfl rfl (by omega) (by omega) (by omega)) HS_ ?_
        simp only [Act.put, aS, aC, aZ]
        refine takeH (i := 11) (some 46) rfl rfl (by kernel_rfl) (by kernel_rfl) (by kernel_rfl) (fun _ _ _ h => h) (gRun rfl (.bool true) fun _ h => run_gtrZ (.tmp 42) (.tmp 45) rfl ((ever + costN ln : Nat) : Int) ((8 * (n / 16) : Nat) : Int) rfl rfl true (decide_eq_true (by omega))) HS_ ?_
        simp only [Act.put, aS, aC, aZ]
        refine wpAnyH_done (by kernel_rfl) ?_ _
        replace HR : Hid (Rm w X c gp gh gf gm gs gr m n us K vu vb bl ever) := HR.out.1
        go_upto_region 20 with fail
        refine wp_region_lit ?_
        refine wl rfl (.bool true) _ (run_mvZ (.tmp 7) rfl (.bool true) rfl) ?_
        simp only [Act.put, aS, aC, aZ]
        refine wl rfl (.bool true) _ (run_mvZ (.tmp 73) rfl (.bool true) rfl) ?_
        simp only [Act.put, aS, aC, aZ]
        refine wl (by kernel_rfl) (ptr gs) _ (run_mvZ (.tmp 9) rfl (ptr gs) rfl) ?_
        simp only [Act.put, aS, aC, aZ]
        refine wpList_callW eN14 [.tmp 75] _ (by kernel_rfl) rfl [(ptr gs)] rfl ?_
        refine (sall_any HR.out.h HR.out.d (by omega)).mono ?_
        rintro e W9 ⟨rfl, hb_⟩
        refine ⟨_, rfl, ?_⟩
        have H9 : Hid (Below w.heap.size w W9) := (HR.out.h.bel hb_).pl.below
        clear hb_
        simp only [Act.put, aS, aC, aZ]
        refine wl rfl (.bool true) _ (run_pickZ (.tmp 74) (.tmp 76) (.const (.bool false)) rfl true (.bool true) rfl rfl) ?_
        simp only [Act.put, aS, aC, aZ]
        refine wl rfl (.bool true) _ (run_asZ (.tmp 77) rfl (.bool true) rfl) ?_
        simp only [Act.put, aS, aC, aZ]
        refine wpList_nil ?_
        go_wp2_with fail
        rw [HPQ.out]
        exact ⟨rfl, H9.out⟩
      · go_upto_region 12 with fail
        refine wp_region_held (S := fun X => Row X gs 38 (scells gp gh gr (ever : Nat) (0 : Nat))) (by kernel_rfl) ?_
        show wpAnyH _ _ _ _ _ 12 (Array.replicate 12 false) _ _
        obtain ⟨X, hX⟩ : ∃ X : World, X = { V1 with drawn := V1.drawn + 1 } := ⟨_, rfl⟩
        rw [← hX]
        have HBX : Hid (Below V1.heap.size V1 X) := (by rw [hX]; exact ⟨rfl, rfl, rfl, Nat.le_refl _, fun _ _ => rfl⟩)
        replace HR : Hid ((Rm w X c gp gh gf gm gs gr m n us K vu vb bl ever) ∧ Out w X c gh gf gm qb) := ⟨HR.out.1.bel HBX.out, HR.out.2.bel HBX.out.size⟩
        replace HB : Hid (Row X qb 5 (bcells (zr ln)) ∧ wr.heap.size ≤ qb) := ⟨HB.out.1.later HBX.out HB.out.1.lt, HB.out.2⟩
        clear HBX
        have HS_ : Row X gs 38 (scells gp gh gr (ever : Nat) (0 : Nat)) := HR.out.1.d.row
        clear hX
        refine takeH (i := 0) (some 35) rfl rfl (by kernel_rfl) (by kernel_rfl) (by kernel_rfl) (fun _ _ _ h => h) (gRun rfl (ptr gs) fun _ h => run_mvZ (.tmp 9) rfl (ptr gs) rfl) HS_ ?_
        simp only [Act.put, aS, aC, aZ]
        refine takeH (i := 1) (some 36) rfl rfl (by kernel_rfl) (by kernel_rfl) (by kernel_rfl) (fun _ _ _ h => h) (gRun rfl (ptr gs) fun _ h => run_nil (.tmp 35) rfl ⟨gs, 0, none⟩ rfl) HS_ ?_
        simp only [Act.put, aS, aC, aZ]
        refine takeH (i := 2) (some 37) rfl rfl (by kernel_rfl) (by kernel_rfl) (by kernel_rfl) (fun _ _ _ h => h) (gRun rfl (.pointer (some ⟨gs, 0 + 3, none⟩)) fun _ h => run_fieldOp' f38_3 (.tmp 36) rfl gs (0) rfl) HS_ ?_
        simp only [Act.put, aS, aC, aZ]
        refine takeH (i := 3) (some 38) rfl rfl (by kernel_rfl) (by kernel_rfl) (by kernel_rfl) (fun _ _ _ h => h) (gRun rfl (.int .i64 (ever : Nat)) fun _ h => run_load1 o3 (.tmp 37) rfl gs (0 + 3) rfl (.int .i64 (ever : Nat)) (h.at 3 _ rfl)) HS_ ?_
        simp only [Act.put, aS, aC, aZ]
        refine takeH (i := 4) (some 39) rfl rfl (by kernel_rfl) (by kernel_rfl) (by kernel_rfl) (fun _ _ _ h => h) (gRun rfl (whole qb ln) fun _ h => run_mvZ (.tmp 11) rfl (whole qb ln) rfl) HS_ ?_
        simp only [Act.put, aS, aC, aZ]
        refine takeH (i := 5) (some 40) rfl rfl (by kernel_rfl) (by kernel_rfl) (by kernel_rfl) (fun _ _ _ h => h) (gRun rfl (.int .i64 (ln : Nat)) fun _ h => run_lenZ sl28 (.tmp 39) rfl _ _ _ rfl) HS_ ?_
        simp only [Act.put, aS, aC, aZ]
        refine takeH (i := 8) (some 43) rfl rfl (by kernel_rfl) (by kernel_rfl) (by kernel_rfl) (fun _ _ _ h => h) (gRun rfl (.int .i64 (n : Nat)) fun _ h => run_mvZ (.tmp 8) rfl (.int .i64 (n : Nat)) rfl) HS_ ?_
        simp only [Act.put, aS, aC, aZ]
        refine takeH (i := 9) (some 44) rfl rfl (by kernel_rfl) (by kernel_rfl) (by kernel_rfl) (fun _ _ _ h => h) (gRun rfl (.int .i64 ((n / 16 : Nat) : Int)) fun _ h => run_quo16 (.tmp 43) rfl n (by omega) rfl) HS_ ?_
        simp only [Act.put, aS, aC, aZ]
        refine takeH (i := 10) (some 45) rfl rfl (by kernel_rfl) (by kernel_rfl) (by kernel_rfl) (fun _ _ _ h => h) (gRun rfl (.int .i64 ((8 * (n / 16) : Nat) : Int)) fun _ h => run_mulZ (.const (.int .i64 8)) (.tmp 44) rfl 8 ((n / 16 : Nat) : Int) _ rfl rfl (by omega) (by omega) (by omega)) HS_ ?_
        simp only [Act.put, aS, aC, aZ]
        refine oneH (i := 6) (by kernel_rfl) ?_
        refine opCallG (some 41) rfl rfl rfl 22 _ (run_call eN22 [.tmp 40] _ rfl [(.int .i64 (ln : Nat))] rfl) ?_
        refine (rcost_any X ln (by omega)).mono ?_
        rintro e X_ ⟨rfl, rfl⟩
        refine ⟨_, rfl, ?_⟩
        refine ⟨HS_, ?_⟩
        simp only [Act.put, aS, aC, aZ]
        refine takeH (i := 7) (some 42) rfl rfl (by kernel_rfl) (by kernel_rfl) (by kernel_rfl) (fun _ _ _ h => h) (gRun rfl (.int .i64 ((ever + costN ln : Nat) : Int)) fun _ h => run_addZ (.tmp 38) (.tmp 41) rfl (ever : Nat) (costN ln : Nat) _ rfl rfl (by omega) (by omega) (by omega)) HS_ ?_
        simp only [Act.put, aS, aC, aZ]
        refine takeH (i := 11) (some 46) rfl rfl (by kernel_rfl) (by kernel_rfl) (by kernel_rfl) (fun _ _ _ h => h) (gRun rfl (.bool false) fun _ h => run_gtrZ (.tmp 42) (.tmp 45) rfl ((ever + costN ln : Nat) : Int) ((8 * (n / 16) : Nat) : Int) rfl rfl false (decide_eq_false (by omega))) HS_ ?_
        simp only [Act.put, aS, aC, aZ]
        refine wpAnyH_done (by kernel_rfl) ?_ _
        go_upto_region 13 with fail
        refine wp_region_lit ?_
        refine wl rfl (ptr gs) _ (run_mvZ (.tmp 9) rfl (ptr gs) rfl) ?_
        simp only [Act.put, aS, aC, aZ]
        refine wl rfl (whole qb ln) _ (run_mvZ (.tmp 11) rfl (whole qb ln) rfl) ?_
        simp only [Act.put, aS, aC, aZ]
        refine wl rfl (.agg (opc 0 0 (whole qb ln)).toArray) _ (run_build33y (.tmp 48) rfl qb ln rfl) ?_
        simp only [Act.put, aS, aC, aZ]
        refine wpList_callW eN23 [.tmp 47, .tmp 49] _ rfl rfl [(ptr gs), (.agg (opc 0 0 (whole qb ln)).toArray)] rfl ?_
        refine (sappend_any HR.out.1.h HR.out.1.d HR.out.1.fu (by omega) (by omega) HR.out.1.inv (whole qb ln) (zr ln) (zr_slice HB.out.1 (by omega)) (Far.made HR.out.1.d HB.out.1 HR.out.2) (by rw [zr_length]; omega) (opc 0 0 (whole qb ln)) rfl).mono ?_
        rintro e V2 ⟨rfl, c2, m2, us2, vu2, vb2, bl2, ever2, hf_, hh_, hd_, hi_, _, _, hev_⟩
        refine ⟨_, rfl, ?_⟩
        have hev2 : ever2 = ever + costN ln := (by have h1 := hev_ (by rw [zr_length]; omega); rwa [zr_length] at h1)
        have HR2 : Hid (Rm w V2 c2 gp gh gf gm gs gr m2 n us2 (K + 20) vu2 vb2 bl2 ever2) := ⟨hf_, hh_, hd_, hi_, by omega, by omega⟩
        clear hf_ hh_ hd_ hi_ hev_ HR HB
        simp only [Act.put, aS, aC, aZ]
        refine wl rfl (.bool true) _ (run_asZ (.tmp 50) rfl (.bool true) rfl) ?_
        simp only [Act.put, aS, aC, aZ]
        refine wpList_nil ?_
        go_upto_region 14 with fail
        refine wp_region_lit ?_
        refine wl rfl (.bool true) _ (run_mvZ (.tmp 12) rfl (.bool true) rfl) ?_
        simp only [Act.put, aS, aC, aZ]
        refine wl rfl (.bool false) _ (run_not (.tmp 51) 4 rfl true rfl) ?_
        simp only [Act.put, aS, aC, aZ]
        refine wpList_nil ?_
        by_cases hA : i < F.length ∧ 0 ≤ F.getD i 0
        · obtain ⟨hif, h0f⟩ := hA
          obtain ⟨bj, jj, hx_, hc_⟩ := HM.out.2.2.2.1.ix i hif
          obtain ⟨zf, hzf⟩ : ∃ z, z = F.getD i 0 := ⟨_, rfl⟩
          have hzb := HM.out.2.2.2.2.2 (F.getD i 0) (ints_mem F i hif)
          rw [← hzf] at hc_ hzb h0f
          have HY : Hid ((∀ w', (Instr.indexAt 31 vf (.int .i64 (i : Nat))).run Tryd.prog w' = .ok (.pointer (some ⟨bj, jj, none⟩)) w') ∧ (∀ W, Below w.heap.size w W → W.cell? ⟨bj, jj, none⟩ = some (.int .i64 zf)) ∧ (-9223372036854775808 ≤ zf ∧ zf ≤ 9223372036854775807)) := ⟨hx_, hc_, hzb⟩
          clear hzf hzb hx_ hc_
          go_upto_region 16 with fail
          refine wp_region_lit ?_
          refine wl rfl (.int .i64 (i : Nat)) _ (run_mvZ (.tmp 10) rfl (.int .i64 (i : Nat)) rfl) ?_
          simp only [Act.put, aS, aC, aZ]
          refine wl rfl vf _ (run_mvZ (.tmp 2) rfl vf rfl) ?_
          simp only [Act.put, aS, aC, aZ]
          refine wl rfl (.int .i64 (F.length : Nat)) _ (run_lenI31 HM.out.2.2.2.1 (.tmp 54) rfl rfl) ?_
          simp only [Act.put, aS, aC, aZ]
          refine wl rfl (.bool true) _ (run_lssZ (.tmp 53) (.tmp 55) rfl (i : Nat) (F.length : Nat) rfl rfl true (decide_eq_true (by omega))) ?_
          simp only [Act.put, aS, aC, aZ]
          refine wl rfl (.bool true) _ (run_mvZ (.tmp 56) rfl (.bool true) rfl) ?_
          simp only [Act.put, aS, aC, aZ]
          refine wl (by kernel_rfl) vf _ (run_mvZ (.tmp 2) rfl vf rfl) ?_
          simp only [Act.put, aS, aC, aZ]
          refine wl (by kernel_rfl) (.int .i64 (i : Nat)) _ (run_mvZ (.tmp 10) rfl (.int .i64 (i : Nat)) rfl) ?_
          simp only [Act.put, aS, aC, aZ]
          refine wl (by kernel_rfl) (.pointer (some ⟨bj, jj, none⟩)) _ (run_idx (.tmp 58) (.tmp 59) rfl _ _ _ rfl rfl HY.out.1) ?_
          simp only [Act.put, aS, aC, aZ]
          refine wl (by kernel_rfl) (.int .i64 zf) _ (run_load1 o3 (.tmp 60) rfl bj (jj) rfl (.int .i64 zf) (HY.out.2.1 _ HR2.out.h.pl.below)) ?_
          simp only [Act.put, aS, aC, aZ]
          refine wl (by kernel_rfl) (.bool true) _ (run_geZ (.tmp 61) (.const (.int .i64 0)) rfl zf 0 rfl rfl true (decide_eq_true (by omega))) ?_
          simp only [Act.put, aS, aC, aZ]
          refine wl rfl (.bool true) _ (run_pickZ (.tmp 57) (.tmp 62) (.const (.bool false)) rfl true (.bool true) rfl rfl) ?_
          simp only [Act.put, aS, aC, aZ]
          refine wpList_nil ?_
          go_upto_region 17 with fail
          refine wp_region_lit ?_
          refine wl rfl (ptr gs) _ (run_mvZ (.tmp 9) rfl (ptr gs) rfl) ?_
          simp only [Act.put, aS, aC, aZ]
          refine wl rfl vf _ (run_mvZ (.tmp 2) rfl vf rfl) ?_
          simp only [Act.put, aS, aC, aZ]
          refine wl rfl (.int .i64 (i : Nat)) _ (run_mvZ (.tmp 10) rfl (.int .i64 (i : Nat)) rfl) ?_
          simp only [Act.put, aS, aC, aZ]
          refine wl rfl (.pointer (some ⟨bj, jj, none⟩)) _ (run_idx (.tmp 65) (.tmp 66) rfl _ _ _ rfl rfl HY.out.1) ?_
          simp only [Act.put, aS, aC, aZ]
          refine wl rfl (.int .i64 zf) _ (run_load1 o3 (.tmp 67) rfl bj (jj) rfl (.int .i64 zf) (HY.out.2.1 _ HR2.out.h.pl.below)) ?_
          simp only [Act.put, aS, aC, aZ]
          refine wl rfl (.agg (opc 4 zf (.slice none 0 0)).toArray) _ (run_build33k (.tmp 68) rfl zf rfl) ?_
          simp only [Act.put, aS, aC, aZ]
          refine wpList_callW eN12 [.tmp 64, .tmp 69] _ rfl rfl [(ptr gs), (.agg (opc 4 zf (.slice none 0 0)).toArray)] rfl ?_
          refine (sdo4_any HR2.out.h HR2.out.d 4 zf ⟨by decide, by decide⟩ HY.out.2.2 (by decide) (opc 4 zf (.slice none 0 0)) rfl rfl).mono ?_
          rintro e V3 ⟨rfl, us3, vu3, vb3, bl3, hh_, hd_, hsub_⟩
          refine ⟨_, rfl, ?_⟩
          replace HR2 : Hid (Rm w V3 c2 gp gh gf gm gs gr m2 n us3 (K + 20) vu3 vb3 bl3 ever2) := ⟨HR2.out.fu, hh_, hd_, HR2.out.inv.sub (fun p hp => by obtain ⟨u, hu, rfl⟩ := List.mem_map.1 hp; exact List.mem_map.2 ⟨u, hsub_ u hu, rfl⟩), HR2.out.k, HR2.out.e⟩
          clear hh_ hd_ hsub_
          simp only [Act.put, aS, aC, aZ]
          refine wl rfl (.bool true) _ (run_asZ (.tmp 70) rfl (.bool true) rfl) ?_
          simp only [Act.put, aS, aC, aZ]
          refine wpList_nil ?_
          go_upto_region 18 with fail
          refine wp_region_lit ?_
          refine wl rfl (.bool true) _ (run_mvZ (.tmp 12) rfl (.bool true) rfl) ?_
          simp only [Act.put, aS, aC, aZ]
          refine wl rfl (.bool false) _ (run_not (.tmp 71) 4 rfl true rfl) ?_
          simp only [Act.put, aS, aC, aZ]
          refine wpList_nil ?_
          go_wp2_with fail
          refine ⟨⟨i + 1, by go_num, by omega, ⟨_, _, _, _, _, _, _, _, HR2.out⟩⟩, ?_⟩
          simp [intOf]; omega
        · by_cases hif : i < F.length
          · have h0f : ¬ 0 ≤ F.getD i 0 := (fun h => hA ⟨hif, h⟩)
            obtain ⟨bj, jj, hx_, hc_⟩ := HM.out.2.2.2.1.ix i hif
            obtain ⟨zf, hzf⟩ : ∃ z, z = F.getD i 0 := ⟨_, rfl⟩
            have hzb := HM.out.2.2.2.2.2 (F.getD i 0) (ints_mem F i hif)
            rw [← hzf] at hc_ hzb h0f
            have HY : Hid ((∀ w', (Instr.indexAt 31 vf (.int .i64 (i : Nat))).run Tryd.prog w' = .ok (.pointer (some ⟨bj, jj, none⟩)) w') ∧ (∀ W, Below w.heap.size w W → W.cell? ⟨bj, jj, none⟩ = some (.int .i64 zf)) ∧ (-9223372036854775808 ≤ zf ∧ zf ≤ 9223372036854775807)) := ⟨hx_, hc_, hzb⟩
            clear hzf hzb hx_ hc_
            go_upto_region 16 with fail
            refine wp_region_lit ?_
            refine wl rfl (.int .i64 (i : Nat)) _ (run_mvZ (.tmp 10) rfl (.int .i64 (i : Nat)) rfl) ?_
            simp only [Act.put, aS, aC, aZ]
            refine wl rfl vf _ (run_mvZ (.tmp 2) rfl vf rfl) ?_
            simp only [Act.put, aS, aC, aZ]
            refine wl rfl (.int .i64 (F.length : Nat)) _ (run_lenI31 HM.out.2.2.2.1 (.tmp 54) rfl rfl) ?_
            simp only [Act.put, aS, aC, aZ]
            refine wl rfl (.bool true) _ (run_lssZ (.tmp 53) (.tmp 55) rfl (i : Nat) (F.length : Nat) rfl rfl true (decide_eq_true (by omega))) ?_
            simp only [Act.put, aS, aC, aZ]
            refine wl rfl (.bool true) _ (run_mvZ (.tmp 56) rfl (.bool true) rfl) ?_
            simp only [Act.put, aS, aC, aZ]
            refine wl (by kernel_rfl) vf _ (run_mvZ (.tmp 2) rfl vf rfl) ?_
            simp only [Act.put, aS, aC, aZ]
            refine wl (by kernel_rfl) (.int .i64 (i : Nat)) _ (run_mvZ (.tmp 10) rfl (.int .i64 (i : Nat)) rfl) ?_
            simp only [Act.put, aS, aC, aZ]
            refine wl (by kernel_rfl) (.pointer (some ⟨bj, jj, none⟩)) _ (run_idx (.tmp 58) (.tmp 59) rfl _ _ _ rfl rfl HY.out.1) ?_
            simp only [Act.put, aS, aC, aZ]
            refine wl (by kernel_rfl) (.int .i64 zf) _ (run_load1 o3 (.tmp 60) rfl bj (jj) rfl (.int .i64 zf) (HY.out.2.1 _ HR2.out.h.pl.below)) ?_
            simp only [Act.put, aS, aC, aZ]
            refine wl (by kernel_rfl) (.bool false) _ (run_geZ (.tmp 61) (.const (.int .i64 0)) rfl zf 0 rfl rfl false (decide_eq_false (by omega))) ?_
            simp only [Act.put, aS, aC, aZ]
            refine wl rfl (.bool false) _ (run_pickZ (.tmp 57) (.tmp 62) (.const (.bool false)) rfl true (.bool false) rfl rfl) ?_
            simp only [Act.put, aS, aC, aZ]
            refine wpList_nil ?_
            go_wp2_with fail
            refine ⟨⟨i + 1, by go_num, by omega, ⟨_, _, _, _, _, _, _, _, HR2.out⟩⟩, ?_⟩
            simp [intOf]; omega
          · go_upto_region 16 with fail
            refine wp_region_lit ?_
            refine wl rfl (.int .i64 (i : Nat)) _ (run_mvZ (.tmp 10) rfl (.int .i64 (i : Nat)) rfl) ?_
            simp only [Act.put, aS, aC, aZ]
            refine wl rfl vf _ (run_mvZ (.tmp 2) rfl vf rfl) ?_
            simp only [Act.put, aS, aC, aZ]
            refine wl rfl (.int .i64 (F.length : Nat)) _ (run_lenI31 HM.out.2.2.2.1 (.tmp 54) rfl rfl) ?_
            simp only [Act.put, aS, aC, aZ]
            refine wl rfl (.bool false) _ (run_lssZ (.tmp 53) (.tmp 55) rfl (i : Nat) (F.length : Nat) rfl rfl false (decide_eq_false (by omega))) ?_
            simp only [Act.put, aS, aC, aZ]
            refine wl rfl (.bool false) _ (run_mvZ (.tmp 56) rfl (.bool false) rfl) ?_
            simp only [Act.put, aS, aC, aZ]
            refine wpList_skip (by kernel_rfl) ?_
            simp only [Act.put, aS, aC, aZ]
            refine wpList_skip (by kernel_rfl) ?_
            simp only [Act.put, aS, aC, aZ]
            refine wpList_skip (by kernel_rfl) ?_
            simp only [Act.put, aS, aC, aZ]
            refine wpList_skip (by kernel_rfl) ?_
            simp only [Act.put, aS, aC, aZ]
            refine wpList_skip (by kernel_rfl) ?_
            simp only [Act.put, aS, aC, aZ]
            refine wl rfl (.bool false) _ (run_pickZ (.tmp 57) (.tmp 62) (.const (.bool false)) rfl false (.bool false) rfl rfl) ?_
            simp only [Act.put, aS, aC, aZ]
            refine wpList_nil ?_
            go_wp2_with fail
            refine ⟨⟨i + 1, by go_num, by omega, ⟨_, _, _, _, _, _, _, _, HR2.out⟩⟩, ?_⟩
            simp [intOf]; omega
    · go_upto_region 9 with fail
      refine wp_region_lit ?_
      refine wl rfl (.int .i64 (i : Nat)) _ (run_mvZ (.tmp 10) rfl (.int .i64 (i : Nat)) rfl) ?_
      simp only [Act.put, aS, aC, aZ]
      refine wl rfl vs _ (run_mvZ (.tmp 1) rfl vs rfl) ?_
      simp only [Act.put, aS, aC, aZ]
      refine wl rfl (.int .i64 (L.length : Nat)) _ (run_lenI31 HM.out.2.2.1 (.tmp 24) rfl rfl) ?_
      simp only [Act.put, aS, aC, aZ]
      refine wl rfl (.bool false) _ (run_lssZ (.tmp 23) (.tmp 25) rfl (i : Nat) (L.length : Nat) rfl rfl false (decide_eq_false (by omega))) ?_
      simp only [Act.put, aS, aC, aZ]
      refine wpList_nil ?_
      go_upto_region 20 with fail
      refine wp_region_lit ?_
      refine wl rfl (.bool true) _ (run_mvZ (.tmp 7) rfl (.bool true) rfl) ?_
      simp only [Act.put, aS, aC, aZ]
      refine wl rfl (.bool true) _ (run_mvZ (.tmp 73) rfl (.bool true) rfl) ?_
      simp only [Act.put, aS, aC, aZ]
      refine wl (by kernel_rfl) (ptr gs) _ (run_mvZ (.tmp 9) rfl (ptr gs) rfl) ?_
      simp only [Act.put, aS, aC, aZ]
      refine wpList_callW eN14 [.tmp 75] _ (by kernel_rfl) rfl [(ptr gs)] rfl ?_
      refine (sall_any HR.out.h HR.out.d (by omega)).mono ?_
      rintro e W9 ⟨rfl, hb_⟩
      refine ⟨_, rfl, ?_⟩
      have H9 : Hid (Below w.heap.size w W9) := (HR.out.h.bel hb_).pl.below
      clear hb_
      simp only [Act.put, aS, aC, aZ]
      refine wl rfl (.bool true) _ (run_pickZ (.tmp 74) (.tmp 76) (.const (.bool false)) rfl true (.bool true) rfl rfl) ?_
      simp only [Act.put, aS, aC, aZ]
      refine wl rfl (.bool true) _ (run_asZ (.tmp 77) rfl (.bool true) rfl) ?_
      simp only [Act.put, aS, aC, aZ]
      refine wpList_nil ?_
      go_wp2_with fail
      rw [HPQ.out]
      exact ⟨rfl, H9.out⟩

end Go.Proofs.YtofocpmpnjjnkaaDoor

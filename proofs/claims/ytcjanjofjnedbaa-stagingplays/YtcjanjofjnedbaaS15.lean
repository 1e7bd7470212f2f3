/- Layer 13: the law on any calls. -/
import Derived.Test.YtcjanjofjnedbaaS14
namespace Go.Proofs.Ytcjanjofjnedbaa
open Go.RowKit Go.Maps Go.MapKept

theorem sz5 : (Try.prog.info? 5).map (·.size) = some 1 := by kernel_rfl
set_option maxHeartbeats 64000000 in
set_option maxRecDepth 100000 in
theorem plays_any (w : World) (vl : Value) (os : List OpD) (hos : OpsIn w vl os) : Calls Try.prog 3 #[vl] w fun e w' => e = .returned (.bool true) ∧ Below w.heap.size w w' := by
  have HOS : Hid (OpsIn w vl os) := hos
  have hol : os.length ≤ 140737488355328 := by obtain ⟨_, _, _, _, h5, _⟩ := hos; exact h5
  have HLE : Hid (∀ {a : Act} {o : Oper} {W : World} (x : Operand), o.op = .call { callee := .builtin .len, args := #[x], argTypes := #[22] } → a.eval x = vl → (execOp a.eval o).run Try.prog W = .ok (.value (.int .i64 (os.length : Nat))) W) := fun x ho hx => by
    obtain ⟨p, cap, e, _⟩ := HOS.out
    exact run_lenZ sl22 x ho p os.length cap (by rw [hx]; exact e)
  obtain ⟨PQ, hPQ⟩ : ∃ PQ : Ending → World → Prop, PQ = fun (e : Ending) (w' : World) => e = .returned (.bool true) ∧ Below w.heap.size w w' := ⟨_, rfl⟩
  have HPQ : Hid (PQ = fun (e : Ending) (w' : World) => e = .returned (.bool true) ∧ Below w.heap.size w w') := hPQ
  rw [← hPQ]
  clear hPQ hos
  go_enter Try.func3, Try.ntmps3
  go_upto_region 0 with fail
  refine wp_region_lit ?_
  refine wl rfl (.bool false) _ (run_asZ (.const (.bool false)) rfl (.bool false) rfl) ?_
  simp only [Act.put, List.setIfInBounds_toArray, List.set_cons_succ, List.set_cons_zero]
  refine wpList_nil ?_
  go_upto_region 1 with fail
  refine wp_region_lit ?_
  refine wpList_callW eN6 [] _ rfl rfl [] rfl ?_
  refine (shown_any w).mono ?_
  rintro e w1 ⟨rfl, b1⟩
  refine ⟨_, rfl, ?_⟩
  have B1 : Hid (Below w.heap.size w w1) := b1
  clear b1
  simp only [Act.put, List.setIfInBounds_toArray, List.set_cons_succ, List.set_cons_zero]
  refine wl rfl (.bool true) _ (run_asZ (.tmp 23) rfl (.bool true) rfl) ?_
  simp only [Act.put, List.setIfInBounds_toArray, List.set_cons_succ, List.set_cons_zero]
  refine wpList_nil ?_
  go_upto_region 2 with fail
  refine wp_region_lit ?_
  refine wpList_callW eN7 [] _ rfl rfl [] rfl ?_
  refine (SW.new w w1 B1.out).mono ?_
  rintro e w2 ⟨gx, F2, rfl, s2, _, _⟩
  refine ⟨_, rfl, ?_⟩
  have S2 : Hid (SW w w2 F2 gx 0 []) := s2
  clear s2 B1
  simp only [Act.put, List.setIfInBounds_toArray, List.set_cons_succ, List.set_cons_zero]
  refine wl rfl (ptr gx) _ (run_asZ (.tmp 24) rfl (ptr gx) rfl) ?_
  simp only [Act.put, List.setIfInBounds_toArray, List.set_cons_succ, List.set_cons_zero]
  refine wpList_nil ?_
  go_upto_region 3 with fail
  refine wp_region_lit ?_
  refine wpList_callW eN8 [] _ rfl rfl [] rfl ?_
  refine (RW.new w w2 S2.out.bel).mono ?_
  rintro e w3 ⟨gy, F3, rfl, s3, b3, f3⟩
  refine ⟨_, rfl, ?_⟩
  have HP0 : Hid (PI w w3 gx gy F2 F3 0 [] 0 []) := ⟨S2.out.later b3, s3, fun k hk h2 => by have h5 := S2.out.low k hk; have h6 := f3 k h2; omega⟩
  clear s3 b3 f3 S2
  simp only [Act.put, List.setIfInBounds_toArray, List.set_cons_succ, List.set_cons_zero]
  refine wl rfl (ptr gy) _ (run_asZ (.tmp 25) rfl (ptr gy) rfl) ?_
  simp only [Act.put, List.setIfInBounds_toArray, List.set_cons_succ, List.set_cons_zero]
  refine wpList_nil ?_
  go_upto_region 4 with fail
  refine wp_region_lit ?_
  refine wl rfl (.bool true) _ (run_mvZ (.tmp 3) rfl (.bool true) rfl) ?_
  simp only [Act.put, List.setIfInBounds_toArray, List.set_cons_succ, List.set_cons_zero]
  refine wl rfl (.bool false) _ (run_not (.tmp 26) 4 rfl true rfl) ?_
  simp only [Act.put, List.setIfInBounds_toArray, List.set_cons_succ, List.set_cons_zero]
  refine wl rfl (.bool false) _ (run_mvZ (.tmp 27) rfl (.bool false) rfl) ?_
  simp only [Act.put, List.setIfInBounds_toArray, List.set_cons_succ, List.set_cons_zero]
  refine wl (by kernel_rfl) (ptr gx) _ (run_mvZ (.tmp 4) rfl (ptr gx) rfl) ?_
  simp only [Act.put, List.setIfInBounds_toArray, List.set_cons_succ, List.set_cons_zero]
  refine wl (by kernel_rfl) (.bool false) _ (run_binOp' (.tmp 29) (.const (.pointer none)) rfl _ _ _ rfl rfl rfl (by kernel_rfl)) ?_
  simp only [Act.put, List.setIfInBounds_toArray, List.set_cons_succ, List.set_cons_zero]
  refine wl rfl (.bool false) _ (run_pickZ (.tmp 28) (.const (.bool true)) (.tmp 30) rfl false (.bool false) rfl rfl) ?_
  simp only [Act.put, List.setIfInBounds_toArray, List.set_cons_succ, List.set_cons_zero]
  refine wpList_nil ?_
  go_upto_region 6 with fail
  go_wp2_with fail
  go_loopw [6] (fun vi W => ∃ (i : Nat), vi = .int .i64 (i : Nat) ∧ i ≤ os.length ∧ ∃ nx ss Fx Fy, Hid (nx ≤ i) ∧ PI w W gx gy Fx Fy nx ss nx ss) (fun vi _ => os.length - (intOf vi).toNat)
  case atStart => exact ⟨0, rfl, Nat.zero_le _, 0, [], F2, F3, Nat.le_refl _, HP0.out⟩
  case round =>
    obtain ⟨i, rfl, hil, nx, ss, Fx, Fy, HNX, hP⟩ := hrel
    have HP : Hid (PI w wr gx gy Fx Fy nx ss nx ss) := hP
    clear hP HP0
    by_cases hlt : i < os.length
    · obtain ⟨ob, oj, o, hx1, ho, hx2⟩ := ix_op HOS.out i hlt
      have HX : Hid ((∀ w', (Instr.indexAt 22 vl (.int .i64 (i : Nat))).run Try.prog w' = .ok (.pointer (some ⟨ob, oj, none⟩)) w') ∧ OpIn w o ∧ ∀ (j : Nat) u, o.cells[j]? = some u → wr.cell? ⟨ob, oj + j, none⟩ = some u) := ⟨hx1, ho, hx2 wr HP.out.sx.bel⟩
      clear hx1 ho hx2
      go_upto_region 7 with fail
      refine wp_region_lit ?_
      refine wl rfl (.int .i64 (i : Nat)) _ (run_mvZ (.tmp 6) rfl (.int .i64 (i : Nat)) rfl) ?_
      simp only [Act.put, List.setIfInBounds_toArray, List.set_cons_succ, List.set_cons_zero]
      refine wl rfl vl _ (run_mvZ (.tmp 0) rfl vl rfl) ?_
      simp only [Act.put, List.setIfInBounds_toArray, List.set_cons_succ, List.set_cons_zero]
      refine wl rfl (.int .i64 (os.length : Nat)) _ (HLE.out (.tmp 33) rfl rfl) ?_
      simp only [Act.put, List.setIfInBounds_toArray, List.set_cons_succ, List.set_cons_zero]
      refine wl rfl (.bool true) _ (run_lssZ (.tmp 32) (.tmp 34) rfl (i : Nat) (os.length : Nat) rfl rfl true (decide_eq_true (by omega))) ?_
      simp only [Act.put, List.setIfInBounds_toArray, List.set_cons_succ, List.set_cons_zero]
      refine wpList_nil ?_
      go_upto_region 9 with fail
      refine wp_region_lit ?_
      refine wl rfl vl _ (run_mvZ (.tmp 0) rfl vl rfl) ?_
      simp only [Act.put, List.setIfInBounds_toArray, List.set_cons_succ, List.set_cons_zero]
      refine wl rfl (.int .i64 (i : Nat)) _ (run_mvZ (.tmp 6) rfl (.int .i64 (i : Nat)) rfl) ?_
      simp only [Act.put, List.setIfInBounds_toArray, List.set_cons_succ, List.set_cons_zero]
      refine wl rfl (.pointer (some ⟨ob, oj, none⟩)) _ (run_idx (.tmp 38) (.tmp 39) rfl vl _ _ rfl rfl HX.out.1) ?_
      simp only [Act.put, List.setIfInBounds_toArray, List.set_cons_succ, List.set_cons_zero]
      refine wl rfl (.agg (o.cells).toArray) _ (run_loadA ag30 (.tmp 40) rfl ob (oj) rfl (o.cells) rfl HX.out.2.2) ?_
      simp only [Act.put, List.setIfInBounds_toArray, List.set_cons_succ, List.set_cons_zero]
      refine wl rfl (ptr wr.heap.size) _ (run_allocA z30 zero30 rfl) ?_
      simp only [Act.put, List.setIfInBounds_toArray, List.set_cons_succ, List.set_cons_zero]
      refine wlS rfl rfl _ (run_storeA ag30 (.tmp 7) (.tmp 41) rfl wr.heap.size 30 rfl o.cells z30 rfl rfl (Row.new wr 30 z30) rfl (op_one HX.out.2.1)) ?_
      have HQ0 : Hid (Row ((wr.alloc (.cells z30.toArray 30)).setRow wr.heap.size o.cells.toArray) wr.heap.size 30 o.cells ∧ Below wr.heap.size wr ((wr.alloc (.cells z30.toArray 30)).setRow wr.heap.size o.cells.toArray) ∧ wr.heap.size < ((wr.alloc (.cells z30.toArray 30)).setRow wr.heap.size o.cells.toArray).heap.size) := ⟨(Row.new wr 30 z30).setRow _, ((Ch.of_below (S := fun k => k = wr.heap.size) (below_alloc wr _)).setRow (Or.inl rfl) _).below (Nat.le_refl _) (fun i hi e => by omega), ((Row.new wr 30 z30).setRow _).lt⟩
      obtain ⟨w4, hW_⟩ : ∃ W, W = (wr.alloc (.cells z30.toArray 30)).setRow wr.heap.size o.cells.toArray := ⟨_, rfl⟩
      rw [← hW_] at HQ0
      rw [← hW_]
      clear hW_
      have HQQ : Hid (PI w w4 gx gy Fx Fy nx ss nx ss ∧ OpAt w w4 Fx Fy wr.heap.size o) := ⟨HP.out.later HQ0.out.2.1, HQ0.out.1, HP.out.out (Nat.le_refl _) HQ0.out.2.2⟩
      obtain ⟨q, hq_⟩ : ∃ q, q = wr.heap.size := ⟨_, rfl⟩
      rw [← hq_] at HQQ
      rw [← hq_]
      clear hq_ HQ0
      refine wpList_nil ?_
      have HOI : Hid (OpIn w o) := HX.out.2.1
      obtain ⟨N, hN⟩ : ∃ N, N = o.N := ⟨_, rfl⟩
      obtain ⟨bv, hbv⟩ : ∃ v, v = o.bv := ⟨_, rfl⟩
      obtain ⟨cs, hcs⟩ : ∃ c, c = o.b := ⟨_, rfl⟩
      have HNW : Hid (Wf N) := by show Wf N; rw [hN]; exact Wf.of HOI.out.n
      have HBI : Hid (SliceIn w bv cs ∧ cs.length ≤ 140737488355328) := by rw [hbv, hcs]; exact ⟨HOI.out.b, HOI.out.len⟩
      have HCL : Hid (o.cells = [.int .i64 o.k, .int .i64 N, bv]) := by show _ = _; rw [hN, hbv]; rfl
      clear hN hbv hcs HX
      go_upto_region 10 with fail
      refine wp_region_lit ?_
      refine wl rfl (.pointer (some ⟨q, 0 + 0, none⟩)) _ (run_fieldOp' f30_0 (.tmp 7) rfl q (0) rfl) ?_
      simp only [Act.put, List.setIfInBounds_toArray, List.set_cons_succ, List.set_cons_zero]
      refine wl rfl (.int .i64 o.k) _ (run_load1 o3 (.tmp 42) rfl q (0 + 0) rfl (.int .i64 o.k) (HQQ.out.2.1.at 0 _ (by rw [HCL.out]; rfl))) ?_
      simp only [Act.put, List.setIfInBounds_toArray, List.set_cons_succ, List.set_cons_zero]
      refine wpList_callW eN9 [.tmp 43] _ rfl rfl [(.int .i64 o.k)] rfl ?_
      refine (kind_any w4 o.k HOI.out.k).mono ?_
      rintro e w5 ⟨⟨kk, hkk, rfl⟩, e5⟩
      refine ⟨_, rfl, ?_⟩
      subst e5
      simp only [Act.put, List.setIfInBounds_toArray, List.set_cons_succ, List.set_cons_zero]
      refine wpList_nil ?_
      have HKK : kk = 0 ∨ kk = 1 ∨ kk = 2 ∨ kk = 3 ∨ kk = 4 ∨ kk = 5 ∨ kk = 6 ∨ kk = 7 := by omega
      clear hkk
      rcases HKK with rfl | rfl | rfl | rfl | rfl | rfl | rfl | rfl
      · as_aux_lemma =>
          go_upto_region 11 with fail
          refine wp_region_lit ?_
          refine wl rfl (.bool true) _ (run_eqZ (.tmp 44) (.const (.int .i64 0)) rfl ((0 : Nat) : Int) 0 rfl rfl true rfl) ?_
          simp only [Act.put, List.setIfInBounds_toArray, List.set_cons_succ, List.set_cons_zero]
          refine wl rfl (.bool true) _ (run_asZ (.tmp 46) rfl (.bool true) rfl) ?_
          simp only [Act.put, List.setIfInBounds_toArray, List.set_cons_succ, List.set_cons_zero]
          refine wpList_nil ?_
          obtain ⟨n1, hn1⟩ : ∃ n, n = (beginP nx ss).1 := ⟨_, rfl⟩
          obtain ⟨e1, he1⟩ : ∃ n, n = (beginP nx ss).2.1 := ⟨_, rfl⟩
          obtain ⟨nx2, hnx2⟩ : ∃ n, n = (beginP nx ss).2.2.1 := ⟨_, rfl⟩
          obtain ⟨ss2, hss2⟩ : ∃ n, n = (beginP nx ss).2.2.2 := ⟨_, rfl⟩
          have HN2 : Hid (nx2 ≤ i + 1) := by
            have := HNX.out
            show _ ≤ _
            rw [hnx2]
            unfold beginP
            split <;> simp <;> omega
          have HBG : Hid ((∀ W F, SW w W F gx nx ss → Calls Try.prog 10 #[ptr gx] W fun e W' => ∃ F', e = .returned (.tuple #[.int .i64 n1, .int .i64 e1]) ∧ SW w W' F' gx nx2 ss2 ∧ Tn F F' W W') ∧ (∀ W F, RW w W F gy nx ss → Calls Try.prog 11 #[ptr gy] W fun e W' => ∃ F', e = .returned (.tuple #[.int .i64 n1, .int .i64 e1]) ∧ RW w W' F' gy nx2 ss2 ∧ Tn F F' W W')) := by
            rw [hn1, he1, hnx2, hss2]
            exact ⟨fun W F h => h.begin (by have := HNX.out; omega), fun W F h => h.begin (by have := HNX.out; omega)⟩
          clear hn1 he1 hnx2 hss2
          go_upto_region 13 with fail
          refine wp_region_lit ?_
          refine wl rfl (ptr gx) _ (run_mvZ (.tmp 4) rfl (ptr gx) rfl) ?_
          simp only [Act.put, List.setIfInBounds_toArray, List.set_cons_succ, List.set_cons_zero]
          refine wpList_callW eN10 [.tmp 49] _ rfl rfl [(ptr gx)] rfl ?_
          refine (HBG.out.1 _ _ HQQ.out.1.sx).mono ?_
          rintro e w6 ⟨F6, rfl, s6, t6⟩
          refine ⟨_, rfl, ?_⟩
          have H6 : Hid (PI w w6 gx gy F6 Fy nx2 ss2 nx ss) := HQQ.out.1.x t6 s6
          clear s6 t6 HQQ
          simp only [Act.put, List.setIfInBounds_toArray, List.set_cons_succ, List.set_cons_zero]
          refine wl rfl (.tuple #[(.int .i64 n1), (.int .i64 e1)]) _ (run_mvZ (.tmp 50) rfl (.tuple #[(.int .i64 n1), (.int .i64 e1)]) rfl) ?_
          simp only [Act.put, List.setIfInBounds_toArray, List.set_cons_succ, List.set_cons_zero]
          refine wl rfl (.int .i64 n1) _ (run_extZ (.tmp 48) 0 rfl #[(.int .i64 n1), (.int .i64 e1)] rfl (.int .i64 n1) rfl) ?_
          simp only [Act.put, List.setIfInBounds_toArray, List.set_cons_succ, List.set_cons_zero]
          refine wl rfl (.int .i64 e1) _ (run_extZ (.tmp 48) 1 rfl #[(.int .i64 n1), (.int .i64 e1)] rfl (.int .i64 e1) rfl) ?_
          simp only [Act.put, List.setIfInBounds_toArray, List.set_cons_succ, List.set_cons_zero]
          refine wl rfl (.int .i64 n1) _ (run_asZ (.tmp 51) rfl (.int .i64 n1) rfl) ?_
          simp only [Act.put, List.setIfInBounds_toArray, List.set_cons_succ, List.set_cons_zero]
          refine wl rfl (.int .i64 e1) _ (run_asZ (.tmp 52) rfl (.int .i64 e1) rfl) ?_
          simp only [Act.put, List.setIfInBounds_toArray, List.set_cons_succ, List.set_cons_zero]
          refine wpList_nil ?_
          go_upto_region 14 with fail
          refine wp_region_lit ?_
          refine wl rfl (ptr gy) _ (run_mvZ (.tmp 5) rfl (ptr gy) rfl) ?_
          simp only [Act.put, List.setIfInBounds_toArray, List.set_cons_succ, List.set_cons_zero]
          refine wpList_callW eN11 [.tmp 54] _ rfl rfl [(ptr gy)] rfl ?_
          refine (HBG.out.2 _ _ H6.out.sy).mono ?_
          rintro e w7 ⟨F7, rfl, s7, t7⟩
          refine ⟨_, rfl, ?_⟩
          have H7 : Hid (PI w w7 gx gy F6 F7 nx2 ss2 nx2 ss2 ∧ True) := ⟨H6.out.y t7 s7, trivial⟩
          clear s7 t7 H6
          simp only [Act.put, List.setIfInBounds_toArray, List.set_cons_succ, List.set_cons_zero]
          refine wl rfl (.tuple #[(.int .i64 n1), (.int .i64 e1)]) _ (run_mvZ (.tmp 55) rfl (.tuple #[(.int .i64 n1), (.int .i64 e1)]) rfl) ?_
          simp only [Act.put, List.setIfInBounds_toArray, List.set_cons_succ, List.set_cons_zero]
          refine wl rfl (.int .i64 n1) _ (run_extZ (.tmp 53) 0 rfl #[(.int .i64 n1), (.int .i64 e1)] rfl (.int .i64 n1) rfl) ?_
          simp only [Act.put, List.setIfInBounds_toArray, List.set_cons_succ, List.set_cons_zero]
          refine wl rfl (.int .i64 e1) _ (run_extZ (.tmp 53) 1 rfl #[(.int .i64 n1), (.int .i64 e1)] rfl (.int .i64 e1) rfl) ?_
          simp only [Act.put, List.setIfInBounds_toArray, List.set_cons_succ, List.set_cons_zero]
          refine wl rfl (.int .i64 n1) _ (run_asZ (.tmp 56) rfl (.int .i64 n1) rfl) ?_
          simp only [Act.put, List.setIfInBounds_toArray, List.set_cons_succ, List.set_cons_zero]
          refine wl rfl (.int .i64 e1) _ (run_asZ (.tmp 57) rfl (.int .i64 e1) rfl) ?_
          simp only [Act.put, List.setIfInBounds_toArray, List.set_cons_succ, List.set_cons_zero]
          refine wpList_nil ?_
          go_upto_region 15 with fail
          refine wp_region_lit ?_
          refine wl rfl (.int .i64 n1) _ (run_mvZ (.tmp 8) rfl (.int .i64 n1) rfl) ?_
          simp only [Act.put, List.setIfInBounds_toArray, List.set_cons_succ, List.set_cons_zero]
          refine wl rfl (.int .i64 n1) _ (run_mvZ (.tmp 10) rfl (.int .i64 n1) rfl) ?_
          simp only [Act.put, List.setIfInBounds_toArray, List.set_cons_succ, List.set_cons_zero]
          refine wl rfl (.bool false) _ (run_neZ (.tmp 58) (.tmp 59) rfl n1 n1 rfl rfl false (by simp)) ?_
          simp only [Act.put, List.setIfInBounds_toArray, List.set_cons_succ, List.set_cons_zero]
          refine wl rfl (.bool false) _ (run_mvZ (.tmp 60) rfl (.bool false) rfl) ?_
          simp only [Act.put, List.setIfInBounds_toArray, List.set_cons_succ, List.set_cons_zero]
          refine wl (by kernel_rfl) (.int .i64 e1) _ (run_mvZ (.tmp 9) rfl (.int .i64 e1) rfl) ?_
          simp only [Act.put, List.setIfInBounds_toArray, List.set_cons_succ, List.set_cons_zero]
          refine wl (by kernel_rfl) (.int .i64 e1) _ (run_mvZ (.tmp 11) rfl (.int .i64 e1) rfl) ?_
          simp only [Act.put, List.setIfInBounds_toArray, List.set_cons_succ, List.set_cons_zero]
          refine wl (by kernel_rfl) (.bool false) _ (run_neZ (.tmp 62) (.tmp 63) rfl e1 e1 rfl rfl false (by simp)) ?_
          simp only [Act.put, List.setIfInBounds_toArray, List.set_cons_succ, List.set_cons_zero]
          refine wl rfl (.bool false) _ (run_pickZ (.tmp 61) (.const (.bool true)) (.tmp 64) rfl false (.bool false) rfl rfl) ?_
          simp only [Act.put, List.setIfInBounds_toArray, List.set_cons_succ, List.set_cons_zero]
          refine wpList_nil ?_
          go_upto_region 44 with fail
          refine wp_region_lit ?_
          refine wl rfl (ptr gx) _ (run_mvZ (.tmp 4) rfl (ptr gx) rfl) ?_
          simp only [Act.put, List.setIfInBounds_toArray, List.set_cons_succ, List.set_cons_zero]
          refine wpList_callW eN18 [.tmp 146] _ rfl rfl [(ptr gx)] rfl ?_
          refine (SW.count H7.out.1.sx).mono ?_
          rintro e wa ⟨rfl, ea⟩
          refine ⟨_, rfl, ?_⟩
          subst ea
          simp only [Act.put, List.setIfInBounds_toArray, List.set_cons_succ, List.set_cons_zero]
          refine wl rfl (ptr gy) _ (run_mvZ (.tmp 5) rfl (ptr gy) rfl) ?_
          simp only [Act.put, List.setIfInBounds_toArray, List.set_cons_succ, List.set_cons_zero]
          refine wpList_callW eN19 [.tmp 148] _ rfl rfl [(ptr gy)] rfl ?_
          refine (RW.count H7.out.1.sy).mono ?_
          rintro e wb ⟨rfl, eb⟩
          refine ⟨_, rfl, ?_⟩
          subst eb
          simp only [Act.put, List.setIfInBounds_toArray, List.set_cons_succ, List.set_cons_zero]
          refine wl rfl (.bool false) _ (run_neZ (.tmp 147) (.tmp 149) rfl ((ss2).length : Nat) ((ss2).length : Nat) rfl rfl false (by simp)) ?_
          simp only [Act.put, List.setIfInBounds_toArray, List.set_cons_succ, List.set_cons_zero]
          refine wpList_nil ?_
          go_wp2_with fail
          refine ⟨⟨i + 1, by go_num, by omega, nx2, ss2, _, _, HN2, H7.out.1⟩, ?_⟩
          simp [intOf]; omega
      · as_aux_lemma =>
          go_upto_region 11 with fail
          refine wp_region_lit ?_
          refine wl rfl (.bool false) _ (run_eqZ (.tmp 44) (.const (.int .i64 0)) rfl ((1 : Nat) : Int) 0 rfl rfl false rfl) ?_
          simp only [Act.put, List.setIfInBounds_toArray, List.set_cons_succ, List.set_cons_zero]
          refine wl rfl (.bool false) _ (run_asZ (.tmp 46) rfl (.bool false) rfl) ?_
          simp only [Act.put, List.setIfInBounds_toArray, List.set_cons_succ, List.set_cons_zero]
          refine wpList_nil ?_
          go_upto_region 12 with fail
          refine wp_region_lit ?_
          refine wl rfl (.bool true) _ (run_eqZ (.tmp 44) (.const (.int .i64 1)) rfl ((1 : Nat) : Int) 1 rfl rfl true rfl) ?_
          simp only [Act.put, List.setIfInBounds_toArray, List.set_cons_succ, List.set_cons_zero]
          refine wl rfl (.bool true) _ (run_asZ (.tmp 47) rfl (.bool true) rfl) ?_
          simp only [Act.put, List.setIfInBounds_toArray, List.set_cons_succ, List.set_cons_zero]
          refine wpList_nil ?_
          obtain ⟨n1, hn1⟩ : ∃ n, n = (beginP nx ss).1 := ⟨_, rfl⟩
          obtain ⟨e1, he1⟩ : ∃ n, n = (beginP nx ss).2.1 := ⟨_, rfl⟩
          obtain ⟨nx2, hnx2⟩ : ∃ n, n = (beginP nx ss).2.2.1 := ⟨_, rfl⟩
          obtain ⟨ss2, hss2⟩ : ∃ n, n = (beginP nx ss).2.2.2 := ⟨_, rfl⟩
          have HN2 : Hid (nx2 ≤ i + 1) := by
            have := HNX.out
            show _ ≤ _
            rw [hnx2]
            unfold beginP
            split <;> simp <;> omega
          have HBG : Hid ((∀ W F, SW w W F gx nx ss → Calls Try.prog 10 #[ptr gx] W fun e W' => ∃ F', e = .returned (.tuple #[.int .i64 n1, .int .i64 e1]) ∧ SW w W' F' gx nx2 ss2 ∧ Tn F F' W W') ∧ (∀ W F, RW w W F gy nx ss → Calls Try.prog 11 #[ptr gy] W fun e W' => ∃ F', e = .returned (.tuple #[.int .i64 n1, .int .i64 e1]) ∧ RW w W' F' gy nx2 ss2 ∧ Tn F F' W W')) := by
            rw [hn1, he1, hnx2, hss2]
            exact ⟨fun W F h => h.begin (by have := HNX.out; omega), fun W F h => h.begin (by have := HNX.out; omega)⟩
          clear hn1 he1 hnx2 hss2
          go_upto_region 13 with fail
          refine wp_region_lit ?_
          refine wl rfl (ptr gx) _ (run_mvZ (.tmp 4) rfl (ptr gx) rfl) ?_
          simp only [Act.put, List.setIfInBounds_toArray, List.set_cons_succ, List.set_cons_zero]
          refine wpList_callW eN10 [.tmp 49] _ rfl rfl [(ptr gx)] rfl ?_
          refine (HBG.out.1 _ _ HQQ.out.1.sx).mono ?_
          rintro e w6 ⟨F6, rfl, s6, t6⟩
          refine ⟨_, rfl, ?_⟩
          have H6 : Hid (PI w w6 gx gy F6 Fy nx2 ss2 nx ss) := HQQ.out.1.x t6 s6
          clear s6 t6 HQQ
          simp only [Act.put, List.setIfInBounds_toArray, List.set_cons_succ, List.set_cons_zero]
          refine wl rfl (.tuple #[(.int .i64 n1), (.int .i64 e1)]) _ (run_mvZ (.tmp 50) rfl (.tuple #[(.int .i64 n1), (.int .i64 e1)]) rfl) ?_
          simp only [Act.put, List.setIfInBounds_toArray, List.set_cons_succ, List.set_cons_zero]
          refine wl rfl (.int .i64 n1) _ (run_extZ (.tmp 48) 0 rfl #[(.int .i64 n1), (.int .i64 e1)] rfl (.int .i64 n1) rfl) ?_
          simp only [Act.put, List.setIfInBounds_toArray, List.set_cons_succ, List.set_cons_zero]
          refine wl rfl (.int .i64 e1) _ (run_extZ (.tmp 48) 1 rfl #[(.int .i64 n1), (.int .i64 e1)] rfl (.int .i64 e1) rfl) ?_
          simp only [Act.put, List.setIfInBounds_toArray, List.set_cons_succ, List.set_cons_zero]
          refine wl rfl (.int .i64 n1) _ (run_asZ (.tmp 51) rfl (.int .i64 n1) rfl) ?_
          simp only [Act.put, List.setIfInBounds_toArray, List.set_cons_succ, List.set_cons_zero]
          refine wl rfl (.int .i64 e1) _ (run_asZ (.tmp 52) rfl (.int .i64 e1) rfl) ?_
          simp only [Act.put, List.setIfInBounds_toArray, List.set_cons_succ, List.set_cons_zero]
          refine wpList_nil ?_
          go_upto_region 14 with fail
          refine wp_region_lit ?_
          refine wl rfl (ptr gy) _ (run_mvZ (.tmp 5) rfl (ptr gy) rfl) ?_
          simp only [Act.put, List.setIfInBounds_toArray, List.set_cons_succ, List.set_cons_zero]
          refine wpList_callW eN11 [.tmp 54] _ rfl rfl [(ptr gy)] rfl ?_
          refine (HBG.out.2 _ _ H6.out.sy).mono ?_
          rintro e w7 ⟨F7, rfl, s7, t7⟩
          refine ⟨_, rfl, ?_⟩
          have H7 : Hid (PI w w7 gx gy F6 F7 nx2 ss2 nx2 ss2 ∧ True) := ⟨H6.out.y t7 s7, trivial⟩
          clear s7 t7 H6
          simp only [Act.put, List.setIfInBounds_toArray, List.set_cons_succ, List.set_cons_zero]
          refine wl rfl (.tuple #[(.int .i64 n1), (.int .i64 e1)]) _ (run_mvZ (.tmp 55) rfl (.tuple #[(.int .i64 n1), (.int .i64 e1)]) rfl) ?_
          simp only [Act.put, List.setIfInBounds_toArray, List.set_cons_succ, List.set_cons_zero]
          refine wl rfl (.int .i64 n1) _ (run_extZ (.tmp 53) 0 rfl #[(.int .i64 n1), (.int .i64 e1)] rfl (.int .i64 n1) rfl) ?_
          simp only [Act.put, List.setIfInBounds_toArray, List.set_cons_succ, List.set_cons_zero]
          refine wl rfl (.int .i64 e1) _ (run_extZ (.tmp 53) 1 rfl #[(.int .i64 n1), (.int .i64 e1)] rfl (.int .i64 e1) rfl) ?_
          simp only [Act.put, List.setIfInBounds_toArray, List.set_cons_succ, List.set_cons_zero]
          refine wl rfl (.int .i64 n1) _ (run_asZ (.tmp 56) rfl (.int .i64 n1) rfl) ?_
          simp only [Act.put, List.setIfInBounds_toArray, List.set_cons_succ, List.set_cons_zero]
          refine wl rfl (.int .i64 e1) _ (run_asZ (.tmp 57) rfl (.int .i64 e1) rfl) ?_
          simp only [Act.put, List.setIfInBounds_toArray, List.set_cons_succ, List.set_cons_zero]
          refine wpList_nil ?_
          go_upto_region 15 with fail
          refine wp_region_lit ?_
          refine wl rfl (.int .i64 n1) _ (run_mvZ (.tmp 8) rfl (.int .i64 n1) rfl) ?_
          simp only [Act.put, List.setIfInBounds_toArray, List.set_cons_succ, List.set_cons_zero]
          refine wl rfl (.int .i64 n1) _ (run_mvZ (.tmp 10) rfl (.int .i64 n1) rfl) ?_
          simp only [Act.put, List.setIfInBounds_toArray, List.set_cons_succ, List.set_cons_zero]
          refine wl rfl (.bool false) _ (run_neZ (.tmp 58) (.tmp 59) rfl n1 n1 rfl rfl false (by simp)) ?_
          simp only [Act.put, List.setIfInBounds_toArray, List.set_cons_succ, List.set_cons_zero]
          refine wl rfl (.bool false) _ (run_mvZ (.tmp 60) rfl (.bool false) rfl) ?_
          simp only [Act.put, List.setIfInBounds_toArray, List.set_cons_succ, List.set_cons_zero]
          refine wl (by kernel_rfl) (.int .i64 e1) _ (run_mvZ (.tmp 9) rfl (.int .i64 e1) rfl) ?_
          simp only [Act.put, List.setIfInBounds_toArray, List.set_cons_succ, List.set_cons_zero]
          refine wl (by kernel_rfl) (.int .i64 e1) _ (run_mvZ (.tmp 11) rfl (.int .i64 e1) rfl) ?_
          simp only [Act.put, List.setIfInBounds_toArray, List.set_cons_succ, List.set_cons_zero]
          refine wl (by kernel_rfl) (.bool false) _ (run_neZ (.tmp 62) (.tmp 63) rfl e1 e1 rfl rfl false (by simp)) ?_
          simp only [Act.put, List.setIfInBounds_toArray, List.set_cons_succ, List.set_cons_zero]
          refine wl rfl (.bool false) _ (run_pickZ (.tmp 61) (.const (.bool true)) (.tmp 64) rfl false (.bool false) rfl rfl) ?_
          simp only [Act.put, List.setIfInBounds_toArray, List.set_cons_succ, List.set_cons_zero]
          refine wpList_nil ?_
          go_upto_region 44 with fail
          refine wp_region_lit ?_
          refine wl rfl (ptr gx) _ (run_mvZ (.tmp 4) rfl (ptr gx) rfl) ?_
          simp only [Act.put, List.setIfInBounds_toArray, List.set_cons_succ, List.set_cons_zero]
          refine wpList_callW eN18 [.tmp 146] _ rfl rfl [(ptr gx)] rfl ?_
          refine (SW.count H7.out.1.sx).mono ?_
          rintro e wa ⟨rfl, ea⟩
          refine ⟨_, rfl, ?_⟩
          subst ea
          simp only [Act.put, List.setIfInBounds_toArray, List.set_cons_succ, List.set_cons_zero]
          refine wl rfl (ptr gy) _ (run_mvZ (.tmp 5) rfl (ptr gy) rfl) ?_
          simp only [Act.put, List.setIfInBounds_toArray, List.set_cons_succ, List.set_cons_zero]
          refine wpList_callW eN19 [.tmp 148] _ rfl rfl [(ptr gy)] rfl ?_
          refine (RW.count H7.out.1.sy).mono ?_
          rintro e wb ⟨rfl, eb⟩
          refine ⟨_, rfl, ?_⟩
          subst eb
          simp only [Act.put, List.setIfInBounds_toArray, List.set_cons_succ, List.set_cons_zero]
          refine wl rfl (.bool false) _ (run_neZ (.tmp 147) (.tmp 149) rfl ((ss2).length : Nat) ((ss2).length : Nat) rfl rfl false (by simp)) ?_
          simp only [Act.put, List.setIfInBounds_toArray, List.set_cons_succ, List.set_cons_zero]
          refine wpList_nil ?_
          go_wp2_with fail
          refine ⟨⟨i + 1, by go_num, by omega, nx2, ss2, _, _, HN2, H7.out.1⟩, ?_⟩
          simp [intOf]; omega
      · as_aux_lemma =>
          go_upto_region 11 with fail
          refine wp_region_lit ?_
          refine wl rfl (.bool false) _ (run_eqZ (.tmp 44) (.const (.int .i64 0)) rfl ((2 : Nat) : Int) 0 rfl rfl false rfl) ?_
          simp only [Act.put, List.setIfInBounds_toArray, List.set_cons_succ, List.set_cons_zero]
          refine wl rfl (.bool false) _ (run_asZ (.tmp 46) rfl (.bool false) rfl) ?_
          simp only [Act.put, List.setIfInBounds_toArray, List.set_cons_succ, List.set_cons_zero]
          refine wpList_nil ?_
          go_upto_region 12 with fail
          refine wp_region_lit ?_
          refine wl rfl (.bool false) _ (run_eqZ (.tmp 44) (.const (.int .i64 1)) rfl ((2 : Nat) : Int) 1 rfl rfl false rfl) ?_
          simp only [Act.put, List.setIfInBounds_toArray, List.set_cons_succ, List.set_cons_zero]
          refine wl rfl (.bool false) _ (run_asZ (.tmp 47) rfl (.bool false) rfl) ?_
          simp only [Act.put, List.setIfInBounds_toArray, List.set_cons_succ, List.set_cons_zero]
          refine wpList_nil ?_
          go_upto_region 17 with fail
          refine wp_region_lit ?_
          refine wl rfl (.bool true) _ (run_eqZ (.tmp 44) (.const (.int .i64 2)) rfl ((2 : Nat) : Int) 2 rfl rfl true rfl) ?_
          simp only [Act.put, List.setIfInBounds_toArray, List.set_cons_succ, List.set_cons_zero]
          refine wl rfl (.bool true) _ (run_asZ (.tmp 67) rfl (.bool true) rfl) ?_
          simp only [Act.put, List.setIfInBounds_toArray, List.set_cons_succ, List.set_cons_zero]
          refine wpList_nil ?_
          go_upto_region 21 with fail
          refine wp_region_lit ?_
          refine wl_blit0 rfl rfl ?_
          intro w6 r6 z6 b6
          have HE0 : Hid (BOwn w6 0 (whole w4.heap.size 0) [] ∧ Below w4.heap.size w4 w6 ∧ ∀ k, (whole w4.heap.size 0).ownBlock = some k → w4.heap.size ≤ k) := ⟨whole_own (cs := []) r6 (Nat.zero_le _) (by decide), b6, fun k e => by injection e with e; rw [← e]; exact Nat.le_refl _⟩
          obtain ⟨v5, hq_⟩ : ∃ v, v = whole w4.heap.size 0 := ⟨_, rfl⟩
          rw [← hq_] at HE0
          rw [← hq_]
          clear hq_ r6 z6 b6
          have HR6 : Hid (Row w6 q 30 o.cells) := HQQ.out.2.1.later HE0.out.2.1 HQQ.out.2.1.lt
          simp only [Act.put, List.setIfInBounds_toArray, List.set_cons_succ, List.set_cons_zero]
          refine wl rfl (.pointer (some ⟨q, 0 + 2, none⟩)) _ (run_fieldOp' f30_2 (.tmp 7) rfl q (0) rfl) ?_
          simp only [Act.put, List.setIfInBounds_toArray, List.set_cons_succ, List.set_cons_zero]
          refine wl rfl bv _ (run_load1 o28 (.tmp 72) rfl q (0 + 2) rfl bv (HR6.out.at 2 _ (by rw [HCL.out]; rfl))) ?_
          simp only [Act.put, List.setIfInBounds_toArray, List.set_cons_succ, List.set_cons_zero]
          obtain ⟨v6, w7, hr7, ho7, hg7, hat7⟩ := run_bappAt (Oper.type _) v5 bv [] cs HE0.out.1 (SliceIn.later (HQQ.out.1.sx.bel.trans (HE0.out.2.1.mono HQQ.out.1.sx.bel.size)) HBI.out.1) (by have := HBI.out.2; simpa using this)
          refine wl rfl v6 w7 (run_append (.tmp 71) (.tmp 73) rfl v5 bv v6 rfl rfl hr7) ?_
          have HB7 : Hid (Below w4.heap.size w4 w7) := HE0.out.2.1.grown hg7 HE0.out.2.1.size HE0.out.2.2
          have H7 : Hid (PI w w7 gx gy Fx Fy nx ss nx ss ∧ OpAt w w7 Fx Fy q o ∧ OwnAt w w7 Fx Fy v6 cs) := ⟨HQQ.out.1.later HB7.out, ⟨HQQ.out.2.1.later HB7.out HQQ.out.2.1.lt, HQQ.out.2.2.1, HQQ.out.2.2.2.1, HQQ.out.2.2.2.2.1, Nat.lt_of_lt_of_le HQQ.out.2.2.2.2.2 HB7.out.size⟩, ho7, fun k e => HQQ.out.1.out (by
            rcases hat7 with h | h
            · exact HE0.out.2.2 k (by rw [← h]; exact e)
            · rw [h] at e; injection e with e; rw [← e]; exact HE0.out.2.1.size) (ho7.lt k e).2⟩
          clear hr7 ho7 hg7 hat7 HE0 HR6 HB7 HQQ
          simp only [Act.put, List.setIfInBounds_toArray, List.set_cons_succ, List.set_cons_zero]
          refine wl rfl v6 _ (run_asZ (.tmp 74) rfl v6 rfl) ?_
          simp only [Act.put, List.setIfInBounds_toArray, List.set_cons_succ, List.set_cons_zero]
          refine wpList_nil ?_
          obtain ⟨e1, he1⟩ : ∃ n, n = (addP ss N cs).1 := ⟨_, rfl⟩
          obtain ⟨ss2, hss2⟩ : ∃ n, n = (addP ss N cs).2 := ⟨_, rfl⟩
          have HBG : Hid ((∀ W F v, SW w W F gx nx ss → SliceIn W v cs → Calls Try.prog 12 #[ptr gx, .int .i64 N, v] W fun e W' => ∃ F', e = .returned (.int .i64 e1) ∧ SW w W' F' gx nx ss2 ∧ Tn F F' W W') ∧ (∀ W F v, RW w W F gy nx ss → SliceIn W v cs → Calls Try.prog 13 #[ptr gy, .int .i64 N, v] W fun e W' => ∃ F', e = .returned (.int .i64 e1) ∧ RW w W' F' gy nx ss2 ∧ Tn F F' W W')) := by
            rw [he1, hss2]
            exact ⟨fun W F v h hi => h.add N HNW.out v cs hi, fun W F v h hi => h.add N v cs hi HBI.out.2⟩
          have HTL : Hid (cs.length ≤ 9223372036854775807) := by have := HBI.out.2; show _ ≤ _; omega
          have HCB : Hid (∀ c ∈ cs, c < 256) := HBI.out.1.lt256
          clear he1 hss2
          go_upto_region 22 with fail
          refine wp_region_lit ?_
          refine wl rfl (ptr gx) _ (run_mvZ (.tmp 4) rfl (ptr gx) rfl) ?_
          simp only [Act.put, List.setIfInBounds_toArray, List.set_cons_succ, List.set_cons_zero]
          refine wl rfl (.pointer (some ⟨q, 0 + 1, none⟩)) _ (run_fieldOp' f30_1 (.tmp 7) rfl q (0) rfl) ?_
          simp only [Act.put, List.setIfInBounds_toArray, List.set_cons_succ, List.set_cons_zero]
          refine wl rfl (.int .i64 N) _ (run_load1 o3 (.tmp 76) rfl q (0 + 1) rfl (.int .i64 N) (H7.out.2.1.1.at 1 _ (by rw [HCL.out]; rfl))) ?_
          simp only [Act.put, List.setIfInBounds_toArray, List.set_cons_succ, List.set_cons_zero]
          refine wl rfl v6 _ (run_mvZ (.tmp 12) rfl v6 rfl) ?_
          simp only [Act.put, List.setIfInBounds_toArray, List.set_cons_succ, List.set_cons_zero]
          refine wpList_callW eN12 [.tmp 75, .tmp 77, .tmp 78] _ rfl rfl [(ptr gx), (.int .i64 N), v6] rfl ?_
          refine (HBG.out.1 _ _ v6 H7.out.1.sx (H7.out.2.2.1.slice HCB.out HTL.out)).mono ?_
          rintro e w8 ⟨F8, rfl, s8, t8⟩
          refine ⟨_, rfl, ?_⟩
          have H8 : Hid (PI w w8 gx gy F8 Fy nx ss2 nx ss ∧ OpAt w w8 F8 Fy q o ∧ OwnAt w w8 F8 Fy v6 cs) := ⟨H7.out.1.x t8 s8, H7.out.2.1.x t8, H7.out.2.2.x t8⟩
          clear s8 t8 H7
          simp only [Act.put, List.setIfInBounds_toArray, List.set_cons_succ, List.set_cons_zero]
          refine wl rfl (.int .i64 e1) _ (run_asZ (.tmp 79) rfl (.int .i64 e1) rfl) ?_
          simp only [Act.put, List.setIfInBounds_toArray, List.set_cons_succ, List.set_cons_zero]
          refine wpList_nil ?_
          go_upto_region 23 with fail
          refine wp_region_lit ?_
          refine wl rfl (ptr gy) _ (run_mvZ (.tmp 5) rfl (ptr gy) rfl) ?_
          simp only [Act.put, List.setIfInBounds_toArray, List.set_cons_succ, List.set_cons_zero]
          refine wl rfl (.pointer (some ⟨q, 0 + 1, none⟩)) _ (run_fieldOp' f30_1 (.tmp 7) rfl q (0) rfl) ?_
          simp only [Act.put, List.setIfInBounds_toArray, List.set_cons_succ, List.set_cons_zero]
          refine wl rfl (.int .i64 N) _ (run_load1 o3 (.tmp 81) rfl q (0 + 1) rfl (.int .i64 N) (H8.out.2.1.1.at 1 _ (by rw [HCL.out]; rfl))) ?_
          simp only [Act.put, List.setIfInBounds_toArray, List.set_cons_succ, List.set_cons_zero]
          refine wl rfl (.pointer (some ⟨q, 0 + 2, none⟩)) _ (run_fieldOp' f30_2 (.tmp 7) rfl q (0) rfl) ?_
          simp only [Act.put, List.setIfInBounds_toArray, List.set_cons_succ, List.set_cons_zero]
          refine wl rfl bv _ (run_load1 o28 (.tmp 83) rfl q (0 + 2) rfl bv (H8.out.2.1.1.at 2 _ (by rw [HCL.out]; rfl))) ?_
          simp only [Act.put, List.setIfInBounds_toArray, List.set_cons_succ, List.set_cons_zero]
          refine wpList_callW eN13 [.tmp 80, .tmp 82, .tmp 84] _ rfl rfl [(ptr gy), (.int .i64 N), bv] rfl ?_
          refine (HBG.out.2 _ _ bv H8.out.1.sy (SliceIn.later H8.out.1.sx.bel HBI.out.1)).mono ?_
          rintro e w9 ⟨F9, rfl, s9, t9⟩
          refine ⟨_, rfl, ?_⟩
          have H9 : Hid (PI w w9 gx gy F8 F9 nx ss2 nx ss2 ∧ OwnAt w w9 F8 F9 v6 cs) := ⟨H8.out.1.y t9 s9, H8.out.2.2.y t9⟩
          clear s9 t9 H8
          simp only [Act.put, List.setIfInBounds_toArray, List.set_cons_succ, List.set_cons_zero]
          refine wl rfl (.int .i64 e1) _ (run_asZ (.tmp 85) rfl (.int .i64 e1) rfl) ?_
          simp only [Act.put, List.setIfInBounds_toArray, List.set_cons_succ, List.set_cons_zero]
          refine wpList_nil ?_
          have HLS : Hid (PI w w9 gx gy F8 F9 nx ss2 nx ss2 ∧ OwnAt w w9 F8 F9 v6 cs) := ⟨H9.out.1, H9.out.2⟩
          clear H9
          go_upto_region 24 with fail
          go_wp2_with fail
          go_loopw [15] (fun vk W => ∃ (k : Nat), vk = .int .i64 (k : Nat) ∧ k ≤ cs.length ∧ ∃ ys, Hid (ys.length = cs.length) ∧ PI w W gx gy F8 F9 nx ss2 nx ss2 ∧ OwnAt w W F8 F9 v6 ys) (fun vk _ => cs.length - (intOf vk).toNat)
          case atStart => exact ⟨0, rfl, Nat.zero_le _, cs, rfl, HLS.out.1, HLS.out.2⟩
          case round =>
            obtain ⟨k, rfl, hkl, ys, HYL, hP, hO⟩ := hrel
            have HLI : Hid (PI w wr gx gy F8 F9 nx ss2 nx ss2 ∧ OwnAt w wr F8 F9 v6 ys) := ⟨hP, hO⟩
            clear hP hO HLS
            have HLN : Hid (∀ {a : Act} {o : Oper} {W : World} (x : Operand), o.op = .call { callee := .builtin .len, args := #[x], argTypes := #[28] } → a.eval x = v6 → (execOp a.eval o).run Try.prog W = .ok (.value (.int .i64 (cs.length : Nat))) W) := fun {_ o' W} x ho hx => by
              have h5 := own_len (w := W) HLI.out.2.1 sl28 o'.type
              rw [HYL.out] at h5
              simp only [execOp, ho, resolve, invoke, builtin, Sem.run_bind, Sem.run_pure, Result.andThen_ok, List.map_toArray, List.map_cons, List.map_nil, hx, h5]
              rfl
            have hkb : cs.length ≤ 9223372036854775807 := HTL.out
            by_cases hk : k < cs.length
            · obtain ⟨sb, cur, hsb, hix, hrow, hcl, hset⟩ := spoil HLI.out.2.1 k (by rw [HYL.out]; exact hk)
              have HSP : Hid ((∀ w', (Instr.indexAt 28 v6 (.int .i64 (k : Nat))).run Try.prog w' = .ok (.pointer (some ⟨sb, k, none⟩)) w') ∧ Row wr sb 5 cur ∧ v6.ownBlock = some sb ∧ BOwn (wr.setCell ⟨sb, k, none⟩ (.int .u8 ((99 : Nat) : Int))) 0 v6 (ys.set k 99)) := ⟨hix, hrow, hsb, hset 99⟩
              clear hsb hix hrow hset
              go_upto_region 25 with fail
              refine wp_region_lit ?_
              refine wl rfl (.int .i64 (k : Nat)) _ (run_mvZ (.tmp 15) rfl (.int .i64 (k : Nat)) rfl) ?_
              simp only [Act.put, List.setIfInBounds_toArray, List.set_cons_succ, List.set_cons_zero]
              refine wl rfl v6 _ (run_mvZ (.tmp 12) rfl v6 rfl) ?_
              simp only [Act.put, List.setIfInBounds_toArray, List.set_cons_succ, List.set_cons_zero]
              refine wl rfl (.int .i64 (cs.length : Nat)) _ (HLN.out (.tmp 87) rfl rfl) ?_
              simp only [Act.put, List.setIfInBounds_toArray, List.set_cons_succ, List.set_cons_zero]
              refine wl rfl (.bool true) _ (run_lssZ (.tmp 86) (.tmp 88) rfl (k : Nat) (cs.length : Nat) rfl rfl true (decide_eq_true (by omega))) ?_
              simp only [Act.put, List.setIfInBounds_toArray, List.set_cons_succ, List.set_cons_zero]
              refine wpList_nil ?_
              go_upto_region 27 with fail
              refine wp_region_lit ?_
              refine wl rfl v6 _ (run_mvZ (.tmp 12) rfl v6 rfl) ?_
              simp only [Act.put, List.setIfInBounds_toArray, List.set_cons_succ, List.set_cons_zero]
              refine wl rfl (.int .i64 (k : Nat)) _ (run_mvZ (.tmp 15) rfl (.int .i64 (k : Nat)) rfl) ?_
              simp only [Act.put, List.setIfInBounds_toArray, List.set_cons_succ, List.set_cons_zero]
              refine wl rfl (.pointer (some ⟨sb, k, none⟩)) _ (run_idx (.tmp 92) (.tmp 93) rfl v6 _ _ rfl rfl HSP.out.1) ?_
              simp only [Act.put, List.setIfInBounds_toArray, List.set_cons_succ, List.set_cons_zero]
              refine wlS rfl rfl _ (run_putRow sz5 (.tmp 94) (.const (.int .u8 99)) rfl sb k 5 cur rfl (.int .u8 99) rfl ⟨rfl, rfl⟩ HSP.out.2.1 hcl) ?_
              have HSN : Hid (PI w (wr.setCell ⟨sb, k, none⟩ (.int .u8 99)) gx gy F8 F9 nx ss2 nx ss2 ∧ OwnAt w (wr.setCell ⟨sb, k, none⟩ (.int .u8 99)) F8 F9 v6 (ys.set k 99)) := by
                have hout := HLI.out.2.2 sb HSP.out.2.2.1
                refine ⟨HLI.out.1.ch (S := fun k => k = sb) ((Ch.refl (fun k => k = sb) wr).setCell (Or.inl rfl) _ _) (fun k e => by rw [e]; exact hout), HSP.out.2.2.2, fun q e => ?_⟩
                have h5 := HLI.out.2.2 q e
                exact ⟨h5.1, h5.2.1, h5.2.2.1, by have := h5.2.2.2; simpa using this⟩
              obtain ⟨wz, hW_⟩ : ∃ W, W = wr.setCell ⟨sb, k, none⟩ (.int .u8 99) := ⟨_, rfl⟩
              rw [← hW_] at HSN
              rw [← hW_]
              clear hW_
              refine wpList_nil ?_
              clear HSP
              go_wp2_with fail
              refine ⟨⟨k + 1, by go_num, by omega, ys.set k 99, by show _ = _; rw [List.length_set]; exact HYL.out, HSN.out.1, HSN.out.2⟩, ?_⟩
              simp [intOf]; omega
            · go_upto_region 25 with fail
              refine wp_region_lit ?_
              refine wl rfl (.int .i64 (k : Nat)) _ (run_mvZ (.tmp 15) rfl (.int .i64 (k : Nat)) rfl) ?_
              simp only [Act.put, List.setIfInBounds_toArray, List.set_cons_succ, List.set_cons_zero]
              refine wl rfl v6 _ (run_mvZ (.tmp 12) rfl v6 rfl) ?_
              simp only [Act.put, List.setIfInBounds_toArray, List.set_cons_succ, List.set_cons_zero]
              refine wl rfl (.int .i64 (cs.length : Nat)) _ (HLN.out (.tmp 87) rfl rfl) ?_
              simp only [Act.put, List.setIfInBounds_toArray, List.set_cons_succ, List.set_cons_zero]
              refine wl rfl (.bool false) _ (run_lssZ (.tmp 86) (.tmp 88) rfl (k : Nat) (cs.length : Nat) rfl rfl false (decide_eq_false (by omega))) ?_
              simp only [Act.put, List.setIfInBounds_toArray, List.set_cons_succ, List.set_cons_zero]
              refine wpList_nil ?_
              go_upto_region 28 with fail
              refine wp_region_lit ?_
              refine wl rfl (.int .i64 e1) _ (run_mvZ (.tmp 13) rfl (.int .i64 e1) rfl) ?_
              simp only [Act.put, List.setIfInBounds_toArray, List.set_cons_succ, List.set_cons_zero]
              refine wl rfl (.int .i64 e1) _ (run_mvZ (.tmp 14) rfl (.int .i64 e1) rfl) ?_
              simp only [Act.put, List.setIfInBounds_toArray, List.set_cons_succ, List.set_cons_zero]
              refine wl rfl (.bool false) _ (run_neZ (.tmp 95) (.tmp 96) rfl e1 e1 rfl rfl false (by simp)) ?_
              simp only [Act.put, List.setIfInBounds_toArray, List.set_cons_succ, List.set_cons_zero]
              refine wpList_nil ?_
              go_upto_region 44 with fail
              refine wp_region_lit ?_
              refine wl rfl (ptr gx) _ (run_mvZ (.tmp 4) rfl (ptr gx) rfl) ?_
              simp only [Act.put, List.setIfInBounds_toArray, List.set_cons_succ, List.set_cons_zero]
              refine wpList_callW eN18 [.tmp 146] _ rfl rfl [(ptr gx)] rfl ?_
              refine (SW.count HLI.out.1.sx).mono ?_
              rintro e wa ⟨rfl, ea⟩
              refine ⟨_, rfl, ?_⟩
              subst ea
              simp only [Act.put, List.setIfInBounds_toArray, List.set_cons_succ, List.set_cons_zero]
              refine wl rfl (ptr gy) _ (run_mvZ (.tmp 5) rfl (ptr gy) rfl) ?_
              simp only [Act.put, List.setIfInBounds_toArray, List.set_cons_succ, List.set_cons_zero]
              refine wpList_callW eN19 [.tmp 148] _ rfl rfl [(ptr gy)] rfl ?_
              refine (RW.count HLI.out.1.sy).mono ?_
              rintro e wb ⟨rfl, eb⟩
              refine ⟨_, rfl, ?_⟩
              subst eb
              simp only [Act.put, List.setIfInBounds_toArray, List.set_cons_succ, List.set_cons_zero]
              refine wl rfl (.bool false) _ (run_neZ (.tmp 147) (.tmp 149) rfl ((ss2).length : Nat) ((ss2).length : Nat) rfl rfl false (by simp)) ?_
              simp only [Act.put, List.setIfInBounds_toArray, List.set_cons_succ, List.set_cons_zero]
              refine wpList_nil ?_
              go_wp2_with fail
              refine ⟨⟨i + 1, by go_num, by omega, nx, ss2, _, _, (Nat.le_succ_of_le HNX.out : Hid _), HLI.out.1⟩, ?_⟩
              simp [intOf]; omega
      · as_aux_lemma =>
          go_upto_region 11 with fail
          refine wp_region_lit ?_
          refine wl rfl (.bool false) _ (run_eqZ (.tmp 44) (.const (.int .i64 0)) rfl ((3 : Nat) : Int) 0 rfl rfl false rfl) ?_
          simp only [Act.put, List.setIfInBounds_toArray, List.set_cons_succ, List.set_cons_zero]
          refine wl rfl (.bool false) _ (run_asZ (.tmp 46) rfl (.bool false) rfl) ?_
          simp only [Act.put, List.setIfInBounds_toArray, List.set_cons_succ, List.set_cons_zero]
          refine wpList_nil ?_
          go_upto_region 12 with fail
          refine wp_region_lit ?_
          refine wl rfl (.bool false) _ (run_eqZ (.tmp 44) (.const (.int .i64 1)) rfl ((3 : Nat) : Int) 1 rfl rfl false rfl) ?_
          simp only [Act.put, List.setIfInBounds_toArray, List.set_cons_succ, List.set_cons_zero]
          refine wl rfl (.bool false) _ (run_asZ (.tmp 47) rfl (.bool false) rfl) ?_
          simp only [Act.put, List.setIfInBounds_toArray, List.set_cons_succ, List.set_cons_zero]
          refine wpList_nil ?_
          go_upto_region 17 with fail
          refine wp_region_lit ?_
          refine wl rfl (.bool false) _ (run_eqZ (.tmp 44) (.const (.int .i64 2)) rfl ((3 : Nat) : Int) 2 rfl rfl false rfl) ?_
          simp only [Act.put, List.setIfInBounds_toArray, List.set_cons_succ, List.set_cons_zero]
          refine wl rfl (.bool false) _ (run_asZ (.tmp 67) rfl (.bool false) rfl) ?_
          simp only [Act.put, List.setIfInBounds_toArray, List.set_cons_succ, List.set_cons_zero]
          refine wpList_nil ?_
          go_upto_region 18 with fail
          refine wp_region_lit ?_
          refine wl rfl (.bool true) _ (run_eqZ (.tmp 44) (.const (.int .i64 3)) rfl ((3 : Nat) : Int) 3 rfl rfl true rfl) ?_
          simp only [Act.put, List.setIfInBounds_toArray, List.set_cons_succ, List.set_cons_zero]
          refine wl rfl (.bool true) _ (run_asZ (.tmp 68) rfl (.bool true) rfl) ?_
          simp only [Act.put, List.setIfInBounds_toArray, List.set_cons_succ, List.set_cons_zero]
          refine wpList_nil ?_
          go_upto_region 21 with fail
          refine wp_region_lit ?_
          refine wl_blit0 rfl rfl ?_
          intro w6 r6 z6 b6
          have HE0 : Hid (BOwn w6 0 (whole w4.heap.size 0) [] ∧ Below w4.heap.size w4 w6 ∧ ∀ k, (whole w4.heap.size 0).ownBlock = some k → w4.heap.size ≤ k) := ⟨whole_own (cs := []) r6 (Nat.zero_le _) (by decide), b6, fun k e => by injection e with e; rw [← e]; exact Nat.le_refl _⟩
          obtain ⟨v5, hq_⟩ : ∃ v, v = whole w4.heap.size 0 := ⟨_, rfl⟩
          rw [← hq_] at HE0
          rw [← hq_]
          clear hq_ r6 z6 b6
          have HR6 : Hid (Row w6 q 30 o.cells) := HQQ.out.2.1.later HE0.out.2.1 HQQ.out.2.1.lt
          simp only [Act.put, List.setIfInBounds_toArray, List.set_cons_succ, List.set_cons_zero]
          refine wl rfl (.pointer (some ⟨q, 0 + 2, none⟩)) _ (run_fieldOp' f30_2 (.tmp 7) rfl q (0) rfl) ?_
          simp only [Act.put, List.setIfInBounds_toArray, List.set_cons_succ, List.set_cons_zero]
          refine wl rfl bv _ (run_load1 o28 (.tmp 72) rfl q (0 + 2) rfl bv (HR6.out.at 2 _ (by rw [HCL.out]; rfl))) ?_
          simp only [Act.put, List.setIfInBounds_toArray, List.set_cons_succ, List.set_cons_zero]
          obtain ⟨v6, w7, hr7, ho7, hg7, hat7⟩ := run_bappAt (Oper.type _) v5 bv [] cs HE0.out.1 (SliceIn.later (HQQ.out.1.sx.bel.trans (HE0.out.2.1.mono HQQ.out.1.sx.bel.size)) HBI.out.1) (by have := HBI.out.2; simpa using this)
          refine wl rfl v6 w7 (run_append (.tmp 71) (.tmp 73) rfl v5 bv v6 rfl rfl hr7) ?_
          have HB7 : Hid (Below w4.heap.size w4 w7) := HE0.out.2.1.grown hg7 HE0.out.2.1.size HE0.out.2.2
          have H7 : Hid (PI w w7 gx gy Fx Fy nx ss nx ss ∧ OpAt w w7 Fx Fy q o ∧ OwnAt w w7 Fx Fy v6 cs) := ⟨HQQ.out.1.later HB7.out, ⟨HQQ.out.2.1.later HB7.out HQQ.out.2.1.lt, HQQ.out.2.2.1, HQQ.out.2.2.2.1, HQQ.out.2.2.2.2.1, Nat.lt_of_lt_of_le HQQ.out.2.2.2.2.2 HB7.out.size⟩, ho7, fun k e => HQQ.out.1.out (by
            rcases hat7 with h | h
            · exact HE0.out.2.2 k (by rw [← h]; exact e)
            · rw [h] at e; injection e with e; rw [← e]; exact HE0.out.2.1.size) (ho7.lt k e).2⟩
          clear hr7 ho7 hg7 hat7 HE0 HR6 HB7 HQQ
          simp only [Act.put, List.setIfInBounds_toArray, List.set_cons_succ, List.set_cons_zero]
          refine wl rfl v6 _ (run_asZ (.tmp 74) rfl v6 rfl) ?_
          simp only [Act.put, List.setIfInBounds_toArray, List.set_cons_succ, List.set_cons_zero]
          refine wpList_nil ?_
          obtain ⟨e1, he1⟩ : ∃ n, n = (addP ss N cs).1 := ⟨_, rfl⟩
          obtain ⟨ss2, hss2⟩ : ∃ n, n = (addP ss N cs).2 := ⟨_, rfl⟩
          have HBG : Hid ((∀ W F v, SW w W F gx nx ss → SliceIn W v cs → Calls Try.prog 12 #[ptr gx, .int .i64 N, v] W fun e W' => ∃ F', e = .returned (.int .i64 e1) ∧ SW w W' F' gx nx ss2 ∧ Tn F F' W W') ∧ (∀ W F v, RW w W F gy nx ss → SliceIn W v cs → Calls Try.prog 13 #[ptr gy, .int .i64 N, v] W fun e W' => ∃ F', e = .returned (.int .i64 e1) ∧ RW w W' F' gy nx ss2 ∧ Tn F F' W W')) := by
            rw [he1, hss2]
            exact ⟨fun W F v h hi => h.add N HNW.out v cs hi, fun W F v h hi => h.add N v cs hi HBI.out.2⟩
          have HTL : Hid (cs.length ≤ 9223372036854775807) := by have := HBI.out.2; show _ ≤ _; omega
          have HCB : Hid (∀ c ∈ cs, c < 256) := HBI.out.1.lt256
          clear he1 hss2
          go_upto_region 22 with fail
          refine wp_region_lit ?_
          refine wl rfl (ptr gx) _ (run_mvZ (.tmp 4) rfl (ptr gx) rfl) ?_
          simp only [Act.put, List.setIfInBounds_toArray, List.set_cons_succ, List.set_cons_zero]
          refine wl rfl (.pointer (some ⟨q, 0 + 1, none⟩)) _ (run_fieldOp' f30_1 (.tmp 7) rfl q (0) rfl) ?_
          simp only [Act.put, List.setIfInBounds_toArray, List.set_cons_succ, List.set_cons_zero]
          refine wl rfl (.int .i64 N) _ (run_load1 o3 (.tmp 76) rfl q (0 + 1) rfl (.int .i64 N) (H7.out.2.1.1.at 1 _ (by rw [HCL.out]; rfl))) ?_
          simp only [Act.put, List.setIfInBounds_toArray, List.set_cons_succ, List.set_cons_zero]
          refine wl rfl v6 _ (run_mvZ (.tmp 12) rfl v6 rfl) ?_
          simp only [Act.put, List.setIfInBounds_toArray, List.set_cons_succ, List.set_cons_zero]
          refine wpList_callW eN12 [.tmp 75, .tmp 77, .tmp 78] _ rfl rfl [(ptr gx), (.int .i64 N), v6] rfl ?_
          refine (HBG.out.1 _ _ v6 H7.out.1.sx (H7.out.2.2.1.slice HCB.out HTL.out)).mono ?_
          rintro e w8 ⟨F8, rfl, s8, t8⟩
          refine ⟨_, rfl, ?_⟩
          have H8 : Hid (PI w w8 gx gy F8 Fy nx ss2 nx ss ∧ OpAt w w8 F8 Fy q o ∧ OwnAt w w8 F8 Fy v6 cs) := ⟨H7.out.1.x t8 s8, H7.out.2.1.x t8, H7.out.2.2.x t8⟩
          clear s8 t8 H7
          simp only [Act.put, List.setIfInBounds_toArray, List.set_cons_succ, List.set_cons_zero]
          refine wl rfl (.int .i64 e1) _ (run_asZ (.tmp 79) rfl (.int .i64 e1) rfl) ?_
          simp only [Act.put, List.setIfInBounds_toArray, List.set_cons_succ, List.set_cons_zero]
          refine wpList_nil ?_
          go_upto_region 23 with fail
          refine wp_region_lit ?_
          refine wl rfl (ptr gy) _ (run_mvZ (.tmp 5) rfl (ptr gy) rfl) ?_
          simp only [Act.put, List.setIfInBounds_toArray, List.set_cons_succ, List.set_cons_zero]
          refine wl rfl (.pointer (some ⟨q, 0 + 1, none⟩)) _ (run_fieldOp' f30_1 (.tmp 7) rfl q (0) rfl) ?_
          simp only [Act.put, List.setIfInBounds_toArray, List.set_cons_succ, List.set_cons_zero]
          refine wl rfl (.int .i64 N) _ (run_load1 o3 (.tmp 81) rfl q (0 + 1) rfl (.int .i64 N) (H8.out.2.1.1.at 1 _ (by rw [HCL.out]; rfl))) ?_
          simp only [Act.put, List.setIfInBounds_toArray, List.set_cons_succ, List.set_cons_zero]
          refine wl rfl (.pointer (some ⟨q, 0 + 2, none⟩)) _ (run_fieldOp' f30_2 (.tmp 7) rfl q (0) rfl) ?_
          simp only [Act.put, List.setIfInBounds_toArray, List.set_cons_succ, List.set_cons_zero]
          refine wl rfl bv _ (run_load1 o28 (.tmp 83) rfl q (0 + 2) rfl bv (H8.out.2.1.1.at 2 _ (by rw [HCL.out]; rfl))) ?_
          simp only [Act.put, List.setIfInBounds_toArray, List.set_cons_succ, List.set_cons_zero]
          refine wpList_callW eN13 [.tmp 80, .tmp 82, .tmp 84] _ rfl rfl [(ptr gy), (.int .i64 N), bv] rfl ?_
          refine (HBG.out.2 _ _ bv H8.out.1.sy (SliceIn.later H8.out.1.sx.bel HBI.out.1)).mono ?_
          rintro e w9 ⟨F9, rfl, s9, t9⟩
          refine ⟨_, rfl, ?_⟩
          have H9 : Hid (PI w w9 gx gy F8 F9 nx ss2 nx ss2 ∧ OwnAt w w9 F8 F9 v6 cs) := ⟨H8.out.1.y t9 s9, H8.out.2.2.y t9⟩
          clear s9 t9 H8
          simp only [Act.put, List.setIfInBounds_toArray, List.set_cons_succ, List.set_cons_zero]
          refine wl rfl (.int .i64 e1) _ (run_asZ (.tmp 85) rfl (.int .i64 e1) rfl) ?_
          simp only [Act.put, List.setIfInBounds_toArray, List.set_cons_succ, List.set_cons_zero]
          refine wpList_nil ?_
          have HLS : Hid (PI w w9 gx gy F8 F9 nx ss2 nx ss2 ∧ OwnAt w w9 F8 F9 v6 cs) := ⟨H9.out.1, H9.out.2⟩
          clear H9
          go_upto_region 24 with fail
          go_wp2_with fail
          go_loopw [15] (fun vk W => ∃ (k : Nat), vk = .int .i64 (k : Nat) ∧ k ≤ cs.length ∧ ∃ ys, Hid (ys.length = cs.length) ∧ PI w W gx gy F8 F9 nx ss2 nx ss2 ∧ OwnAt w W F8 F9 v6 ys) (fun vk _ => cs.length - (intOf vk).toNat)
          case atStart => exact ⟨0, rfl, Nat.zero_le _, cs, rfl, HLS.out.1, HLS.out.2⟩
          case round =>
            obtain ⟨k, rfl, hkl, ys, HYL, hP, hO⟩ := hrel
            have HLI : Hid (PI w wr gx gy F8 F9 nx ss2 nx ss2 ∧ OwnAt w wr F8 F9 v6 ys) := ⟨hP, hO⟩
            clear hP hO HLS
            have HLN : Hid (∀ {a : Act} {o : Oper} {W : World} (x : Operand), o.op = .call { callee := .builtin .len, args := #[x], argTypes := #[28] } → a.eval x = v6 → (execOp a.eval o).run Try.prog W = .ok (.value (.int .i64 (cs.length : Nat))) W) := fun {_ o' W} x ho hx => by
              have h5 := own_len (w := W) HLI.out.2.1 sl28 o'.type
              rw [HYL.out] at h5
              simp only [execOp, ho, resolve, invoke, builtin, Sem.run_bind, Sem.run_pure, Result.andThen_ok, List.map_toArray, List.map_cons, List.map_nil, hx, h5]
              rfl
            have hkb : cs.length ≤ 9223372036854775807 := HTL.out
            by_cases hk : k < cs.length
            · obtain ⟨sb, cur, hsb, hix, hrow, hcl, hset⟩ := spoil HLI.out.2.1 k (by rw [HYL.out]; exact hk)
              have HSP : Hid ((∀ w', (Instr.indexAt 28 v6 (.int .i64 (k : Nat))).run Try.prog w' = .ok (.pointer (some ⟨sb, k, none⟩)) w') ∧ Row wr sb 5 cur ∧ v6.ownBlock = some sb ∧ BOwn (wr.setCell ⟨sb, k, none⟩ (.int .u8 ((99 : Nat) : Int))) 0 v6 (ys.set k 99)) := ⟨hix, hrow, hsb, hset 99⟩
              clear hsb hix hrow hset
              go_upto_region 25 with fail
              refine wp_region_lit ?_
              refine wl rfl (.int .i64 (k : Nat)) _ (run_mvZ (.tmp 15) rfl (.int .i64 (k : Nat)) rfl) ?_
              simp only [Act.put, List.setIfInBounds_toArray, List.set_cons_succ, List.set_cons_zero]
              refine wl rfl v6 _ (run_mvZ (.tmp 12) rfl v6 rfl) ?_
              simp only [Act.put, List.setIfInBounds_toArray, List.set_cons_succ, List.set_cons_zero]
              refine wl rfl (.int .i64 (cs.length : Nat)) _ (HLN.out (.tmp 87) rfl rfl) ?_
              simp only [Act.put, List.setIfInBounds_toArray, List.set_cons_succ, List.set_cons_zero]
              refine wl rfl (.bool true) _ (run_lssZ (.tmp 86) (.tmp 88) rfl (k : Nat) (cs.length : Nat) rfl rfl true (decide_eq_true (by omega))) ?_
              simp only [Act.put, List.setIfInBounds_toArray, List.set_cons_succ, List.set_cons_zero]
              refine wpList_nil ?_
              go_upto_region 27 with fail
              refine wp_region_lit ?_
              refine wl rfl v6 _ (run_mvZ (.tmp 12) rfl v6 rfl) ?_
              simp only [Act.put, List.setIfInBounds_toArray, List.set_cons_succ, List.set_cons_zero]
              refine wl rfl (.int .i64 (k : Nat)) _ (run_mvZ (.tmp 15) rfl (.int .i64 (k : Nat)) rfl) ?_
              simp only [Act.put, List.setIfInBounds_toArray, List.set_cons_succ, List.set_cons_zero]
              refine wl rfl (.pointer (some ⟨sb, k, none⟩)) _ (run_idx (.tmp 92) (.tmp 93) rfl v6 _ _ rfl rfl HSP.out.1) ?_
              simp only [Act.put, List.setIfInBounds_toArray, List.set_cons_succ, List.set_cons_zero]
              refine wlS rfl rfl _ (run_putRow sz5 (.tmp 94) (.const (.int .u8 99)) rfl sb k 5 cur rfl (.int .u8 99) rfl ⟨rfl, rfl⟩ HSP.out.2.1 hcl) ?_
              have HSN : Hid (PI w (wr.setCell ⟨sb, k, none⟩ (.int .u8 99)) gx gy F8 F9 nx ss2 nx ss2 ∧ OwnAt w (wr.setCell ⟨sb, k, none⟩ (.int .u8 99)) F8 F9 v6 (ys.set k 99)) := by
                have hout := HLI.out.2.2 sb HSP.out.2.2.1
                refine ⟨HLI.out.1.ch (S := fun k => k = sb) ((Ch.refl (fun k => k = sb) wr).setCell (Or.inl rfl) _ _) (fun k e => by rw [e]; exact hout), HSP.out.2.2.2, fun q e => ?_⟩
                have h5 := HLI.out.2.2 q e
                exact ⟨h5.1, h5.2.1, h5.2.2.1, by have := h5.2.2.2; simpa using this⟩
              obtain ⟨wz, hW_⟩ : ∃ W, W = wr.setCell ⟨sb, k, none⟩ (.int .u8 99) := ⟨_, rfl⟩
              rw [← hW_] at HSN
              rw [← hW_]
              clear hW_
              refine wpList_nil ?_
              clear HSP
              go_wp2_with fail
              refine ⟨⟨k + 1, by go_num, by omega, ys.set k 99, by show _ = _; rw [List.length_set]; exact HYL.out, HSN.out.1, HSN.out.2⟩, ?_⟩
              simp [intOf]; omega
            · go_upto_region 25 with fail
              refine wp_region_lit ?_
              refine wl rfl (.int .i64 (k : Nat)) _ (run_mvZ (.tmp 15) rfl (.int .i64 (k : Nat)) rfl) ?_
              simp only [Act.put, List.setIfInBounds_toArray, List.set_cons_succ, List.set_cons_zero]
              refine wl rfl v6 _ (run_mvZ (.tmp 12) rfl v6 rfl) ?_
              simp only [Act.put, List.setIfInBounds_toArray, List.set_cons_succ, List.set_cons_zero]
              refine wl rfl (.int .i64 (cs.length : Nat)) _ (HLN.out (.tmp 87) rfl rfl) ?_
              simp only [Act.put, List.setIfInBounds_toArray, List.set_cons_succ, List.set_cons_zero]
              refine wl rfl (.bool false) _ (run_lssZ (.tmp 86) (.tmp 88) rfl (k : Nat) (cs.length : Nat) rfl rfl false (decide_eq_false (by omega))) ?_
              simp only [Act.put, List.setIfInBounds_toArray, List.set_cons_succ, List.set_cons_zero]
              refine wpList_nil ?_
              go_upto_region 28 with fail
              refine wp_region_lit ?_
              refine wl rfl (.int .i64 e1) _ (run_mvZ (.tmp 13) rfl (.int .i64 e1) rfl) ?_
              simp only [Act.put, List.setIfInBounds_toArray, List.set_cons_succ, List.set_cons_zero]
              refine wl rfl (.int .i64 e1) _ (run_mvZ (.tmp 14) rfl (.int .i64 e1) rfl) ?_
              simp only [Act.put, List.setIfInBounds_toArray, List.set_cons_succ, List.set_cons_zero]
              refine wl rfl (.bool false) _ (run_neZ (.tmp 95) (.tmp 96) rfl e1 e1 rfl rfl false (by simp)) ?_
              simp only [Act.put, List.setIfInBounds_toArray, List.set_cons_succ, List.set_cons_zero]
              refine wpList_nil ?_
              go_upto_region 44 with fail
              refine wp_region_lit ?_
              refine wl rfl (ptr gx) _ (run_mvZ (.tmp 4) rfl (ptr gx) rfl) ?_
              simp only [Act.put, List.setIfInBounds_toArray, List.set_cons_succ, List.set_cons_zero]
              refine wpList_callW eN18 [.tmp 146] _ rfl rfl [(ptr gx)] rfl ?_
              refine (SW.count HLI.out.1.sx).mono ?_
              rintro e wa ⟨rfl, ea⟩
              refine ⟨_, rfl, ?_⟩
              subst ea
              simp only [Act.put, List.setIfInBounds_toArray, List.set_cons_succ, List.set_cons_zero]
              refine wl rfl (ptr gy) _ (run_mvZ (.tmp 5) rfl (ptr gy) rfl) ?_
              simp only [Act.put, List.setIfInBounds_toArray, List.set_cons_succ, List.set_cons_zero]
              refine wpList_callW eN19 [.tmp 148] _ rfl rfl [(ptr gy)] rfl ?_
              refine (RW.count HLI.out.1.sy).mono ?_
              rintro e wb ⟨rfl, eb⟩
              refine ⟨_, rfl, ?_⟩
              subst eb
              simp only [Act.put, List.setIfInBounds_toArray, List.set_cons_succ, List.set_cons_zero]
              refine wl rfl (.bool false) _ (run_neZ (.tmp 147) (.tmp 149) rfl ((ss2).length : Nat) ((ss2).length : Nat) rfl rfl false (by simp)) ?_
              simp only [Act.put, List.setIfInBounds_toArray, List.set_cons_succ, List.set_cons_zero]
              refine wpList_nil ?_
              go_wp2_with fail
              refine ⟨⟨i + 1, by go_num, by omega, nx, ss2, _, _, (Nat.le_succ_of_le HNX.out : Hid _), HLI.out.1⟩, ?_⟩
              simp [intOf]; omega
      · as_aux_lemma =>
          go_upto_region 11 with fail
          refine wp_region_lit ?_
          refine wl rfl (.bool false) _ (run_eqZ (.tmp 44) (.const (.int .i64 0)) rfl ((4 : Nat) : Int) 0 rfl rfl false rfl) ?_
          simp only [Act.put, List.setIfInBounds_toArray, List.set_cons_succ, List.set_cons_zero]
          refine wl rfl (.bool false) _ (run_asZ (.tmp 46) rfl (.bool false) rfl) ?_
          simp only [Act.put, List.setIfInBounds_toArray, List.set_cons_succ, List.set_cons_zero]
          refine wpList_nil ?_
          go_upto_region 12 with fail
          refine wp_region_lit ?_
          refine wl rfl (.bool false) _ (run_eqZ (.tmp 44) (.const (.int .i64 1)) rfl ((4 : Nat) : Int) 1 rfl rfl false rfl) ?_
          simp only [Act.put, List.setIfInBounds_toArray, List.set_cons_succ, List.set_cons_zero]
          refine wl rfl (.bool false) _ (run_asZ (.tmp 47) rfl (.bool false) rfl) ?_
          simp only [Act.put, List.setIfInBounds_toArray, List.set_cons_succ, List.set_cons_zero]
          refine wpList_nil ?_
          go_upto_region 17 with fail
          refine wp_region_lit ?_
          refine wl rfl (.bool false) _ (run_eqZ (.tmp 44) (.const (.int .i64 2)) rfl ((4 : Nat) : Int) 2 rfl rfl false rfl) ?_
          simp only [Act.put, List.setIfInBounds_toArray, List.set_cons_succ, List.set_cons_zero]
          refine wl rfl (.bool false) _ (run_asZ (.tmp 67) rfl (.bool false) rfl) ?_
          simp only [Act.put, List.setIfInBounds_toArray, List.set_cons_succ, List.set_cons_zero]
          refine wpList_nil ?_
          go_upto_region 18 with fail
          refine wp_region_lit ?_
          refine wl rfl (.bool false) _ (run_eqZ (.tmp 44) (.const (.int .i64 3)) rfl ((4 : Nat) : Int) 3 rfl rfl false rfl) ?_
          simp only [Act.put, List.setIfInBounds_toArray, List.set_cons_succ, List.set_cons_zero]
          refine wl rfl (.bool false) _ (run_asZ (.tmp 68) rfl (.bool false) rfl) ?_
          simp only [Act.put, List.setIfInBounds_toArray, List.set_cons_succ, List.set_cons_zero]
          refine wpList_nil ?_
          go_upto_region 19 with fail
          refine wp_region_lit ?_
          refine wl rfl (.bool true) _ (run_eqZ (.tmp 44) (.const (.int .i64 4)) rfl ((4 : Nat) : Int) 4 rfl rfl true rfl) ?_
          simp only [Act.put, List.setIfInBounds_toArray, List.set_cons_succ, List.set_cons_zero]
          refine wl rfl (.bool true) _ (run_asZ (.tmp 69) rfl (.bool true) rfl) ?_
          simp only [Act.put, List.setIfInBounds_toArray, List.set_cons_succ, List.set_cons_zero]
          refine wpList_nil ?_
          go_upto_region 21 with fail
          refine wp_region_lit ?_
          refine wl_blit0 rfl rfl ?_
          intro w6 r6 z6 b6
          have HE0 : Hid (BOwn w6 0 (whole w4.heap.size 0) [] ∧ Below w4.heap.size w4 w6 ∧ ∀ k, (whole w4.heap.size 0).ownBlock = some k → w4.heap.size ≤ k) := ⟨whole_own (cs := []) r6 (Nat.zero_le _) (by decide), b6, fun k e => by injection e with e; rw [← e]; exact Nat.le_refl _⟩
          obtain ⟨v5, hq_⟩ : ∃ v, v = whole w4.heap.size 0 := ⟨_, rfl⟩
          rw [← hq_] at HE0
          rw [← hq_]
          clear hq_ r6 z6 b6
          have HR6 : Hid (Row w6 q 30 o.cells) := HQQ.out.2.1.later HE0.out.2.1 HQQ.out.2.1.lt
          simp only [Act.put, List.setIfInBounds_toArray, List.set_cons_succ, List.set_cons_zero]
          refine wl rfl (.pointer (some ⟨q, 0 + 2, none⟩)) _ (run_fieldOp' f30_2 (.tmp 7) rfl q (0) rfl) ?_
          simp only [Act.put, List.setIfInBounds_toArray, List.set_cons_succ, List.set_cons_zero]
          refine wl rfl bv _ (run_load1 o28 (.tmp 72) rfl q (0 + 2) rfl bv (HR6.out.at 2 _ (by rw [HCL.out]; rfl))) ?_
          simp only [Act.put, List.setIfInBounds_toArray, List.set_cons_succ, List.set_cons_zero]
          obtain ⟨v6, w7, hr7, ho7, hg7, hat7⟩ := run_bappAt (Oper.type _) v5 bv [] cs HE0.out.1 (SliceIn.later (HQQ.out.1.sx.bel.trans (HE0.out.2.1.mono HQQ.out.1.sx.bel.size)) HBI.out.1) (by have := HBI.out.2; simpa using this)
          refine wl rfl v6 w7 (run_append (.tmp 71) (.tmp 73) rfl v5 bv v6 rfl rfl hr7) ?_
          have HB7 : Hid (Below w4.heap.size w4 w7) := HE0.out.2.1.grown hg7 HE0.out.2.1.size HE0.out.2.2
          have H7 : Hid (PI w w7 gx gy Fx Fy nx ss nx ss ∧ OpAt w w7 Fx Fy q o ∧ OwnAt w w7 Fx Fy v6 cs) := ⟨HQQ.out.1.later HB7.out, ⟨HQQ.out.2.1.later HB7.out HQQ.out.2.1.lt, HQQ.out.2.2.1, HQQ.out.2.2.2.1, HQQ.out.2.2.2.2.1, Nat.lt_of_lt_of_le HQQ.out.2.2.2.2.2 HB7.out.size⟩, ho7, fun k e => HQQ.out.1.out (by
            rcases hat7 with h | h
            · exact HE0.out.2.2 k (by rw [← h]; exact e)
            · rw [h] at e; injection e with e; rw [← e]; exact HE0.out.2.1.size) (ho7.lt k e).2⟩
          clear hr7 ho7 hg7 hat7 HE0 HR6 HB7 HQQ
          simp only [Act.put, List.setIfInBounds_toArray, List.set_cons_succ, List.set_cons_zero]
          refine wl rfl v6 _ (run_asZ (.tmp 74) rfl v6 rfl) ?_
          simp only [Act.put, List.setIfInBounds_toArray, List.set_cons_succ, List.set_cons_zero]
          refine wpList_nil ?_
          obtain ⟨e1, he1⟩ : ∃ n, n = (addP ss N cs).1 := ⟨_, rfl⟩
          obtain ⟨ss2, hss2⟩ : ∃ n, n = (addP ss N cs).2 := ⟨_, rfl⟩
          have HBG : Hid ((∀ W F v, SW w W F gx nx ss → SliceIn W v cs → Calls Try.prog 12 #[ptr gx, .int .i64 N, v] W fun e W' => ∃ F', e = .returned (.int .i64 e1) ∧ SW w W' F' gx nx ss2 ∧ Tn F F' W W') ∧ (∀ W F v, RW w W F gy nx ss → SliceIn W v cs → Calls Try.prog 13 #[ptr gy, .int .i64 N, v] W fun e W' => ∃ F', e = .returned (.int .i64 e1) ∧ RW w W' F' gy nx ss2 ∧ Tn F F' W W')) := by
            rw [he1, hss2]
            exact ⟨fun W F v h hi => h.add N HNW.out v cs hi, fun W F v h hi => h.add N v cs hi HBI.out.2⟩
          have HTL : Hid (cs.length ≤ 9223372036854775807) := by have := HBI.out.2; show _ ≤ _; omega
          have HCB : Hid (∀ c ∈ cs, c < 256) := HBI.out.1.lt256
          clear he1 hss2
          go_upto_region 22 with fail
          refine wp_region_lit ?_
          refine wl rfl (ptr gx) _ (run_mvZ (.tmp 4) rfl (ptr gx) rfl) ?_
          simp only [Act.put, List.setIfInBounds_toArray, List.set_cons_succ, List.set_cons_zero]
          refine wl rfl (.pointer (some ⟨q, 0 + 1, none⟩)) _ (run_fieldOp' f30_1 (.tmp 7) rfl q (0) rfl) ?_
          simp only [Act.put, List.setIfInBounds_toArray, List.set_cons_succ, List.set_cons_zero]
          refine wl rfl (.int .i64 N) _ (run_load1 o3 (.tmp 76) rfl q (0 + 1) rfl (.int .i64 N) (H7.out.2.1.1.at 1 _ (by rw [HCL.out]; rfl))) ?_
          simp only [Act.put, List.setIfInBounds_toArray, List.set_cons_succ, List.set_cons_zero]
          refine wl rfl v6 _ (run_mvZ (.tmp 12) rfl v6 rfl) ?_
          simp only [Act.put, List.setIfInBounds_toArray, List.set_cons_succ, List.set_cons_zero]
          refine wpList_callW eN12 [.tmp 75, .tmp 77, .tmp 78] _ rfl rfl [(ptr gx), (.int .i64 N), v6] rfl ?_
          refine (HBG.out.1 _ _ v6 H7.out.1.sx (H7.out.2.2.1.slice HCB.out HTL.out)).mono ?_
          rintro e w8 ⟨F8, rfl, s8, t8⟩
          refine ⟨_, rfl, ?_⟩
          have H8 : Hid (PI w w8 gx gy F8 Fy nx ss2 nx ss ∧ OpAt w w8 F8 Fy q o ∧ OwnAt w w8 F8 Fy v6 cs) := ⟨H7.out.1.x t8 s8, H7.out.2.1.x t8, H7.out.2.2.x t8⟩
          clear s8 t8 H7
          simp only [Act.put, List.setIfInBounds_toArray, List.set_cons_succ, List.set_cons_zero]
          refine wl rfl (.int .i64 e1) _ (run_asZ (.tmp 79) rfl (.int .i64 e1) rfl) ?_
          simp only [Act.put, List.setIfInBounds_toArray, List.set_cons_succ, List.set_cons_zero]
          refine wpList_nil ?_
          go_upto_region 23 with fail
          refine wp_region_lit ?_
          refine wl rfl (ptr gy) _ (run_mvZ (.tmp 5) rfl (ptr gy) rfl) ?_
          simp only [Act.put, List.setIfInBounds_toArray, List.set_cons_succ, List.set_cons_zero]
          refine wl rfl (.pointer (some ⟨q, 0 + 1, none⟩)) _ (run_fieldOp' f30_1 (.tmp 7) rfl q (0) rfl) ?_
          simp only [Act.put, List.setIfInBounds_toArray, List.set_cons_succ, List.set_cons_zero]
          refine wl rfl (.int .i64 N) _ (run_load1 o3 (.tmp 81) rfl q (0 + 1) rfl (.int .i64 N) (H8.out.2.1.1.at 1 _ (by rw [HCL.out]; rfl))) ?_
          simp only [Act.put, List.setIfInBounds_toArray, List.set_cons_succ, List.set_cons_zero]
          refine wl rfl (.pointer (some ⟨q, 0 + 2, none⟩)) _ (run_fieldOp' f30_2 (.tmp 7) rfl q (0) rfl) ?_
          simp only [Act.put, List.setIfInBounds_toArray, List.set_cons_succ, List.set_cons_zero]
          refine wl rfl bv _ (run_load1 o28 (.tmp 83) rfl q (0 + 2) rfl bv (H8.out.2.1.1.at 2 _ (by rw [HCL.out]; rfl))) ?_
          simp only [Act.put, List.setIfInBounds_toArray, List.set_cons_succ, List.set_cons_zero]
          refine wpList_callW eN13 [.tmp 80, .tmp 82, .tmp 84] _ rfl rfl [(ptr gy), (.int .i64 N), bv] rfl ?_
          refine (HBG.out.2 _ _ bv H8.out.1.sy (SliceIn.later H8.out.1.sx.bel HBI.out.1)).mono ?_
          rintro e w9 ⟨F9, rfl, s9, t9⟩
          refine ⟨_, rfl, ?_⟩
          have H9 : Hid (PI w w9 gx gy F8 F9 nx ss2 nx ss2 ∧ OwnAt w w9 F8 F9 v6 cs) := ⟨H8.out.1.y t9 s9, H8.out.2.2.y t9⟩
          clear s9 t9 H8
          simp only [Act.put, List.setIfInBounds_toArray, List.set_cons_succ, List.set_cons_zero]
          refine wl rfl (.int .i64 e1) _ (run_asZ (.tmp 85) rfl (.int .i64 e1) rfl) ?_
          simp only [Act.put, List.setIfInBounds_toArray, List.set_cons_succ, List.set_cons_zero]
          refine wpList_nil ?_
          have HLS : Hid (PI w w9 gx gy F8 F9 nx ss2 nx ss2 ∧ OwnAt w w9 F8 F9 v6 cs) := ⟨H9.out.1, H9.out.2⟩
          clear H9
          go_upto_region 24 with fail
          go_wp2_with fail
          go_loopw [15] (fun vk W => ∃ (k : Nat), vk = .int .i64 (k : Nat) ∧ k ≤ cs.length ∧ ∃ ys, Hid (ys.length = cs.length) ∧ PI w W gx gy F8 F9 nx ss2 nx ss2 ∧ OwnAt w W F8 F9 v6 ys) (fun vk _ => cs.length - (intOf vk).toNat)
          case atStart => exact ⟨0, rfl, Nat.zero_le _, cs, rfl, HLS.out.1, HLS.out.2⟩
          case round =>
            obtain ⟨k, rfl, hkl, ys, HYL, hP, hO⟩ := hrel
            have HLI : Hid (PI w wr gx gy F8 F9 nx ss2 nx ss2 ∧ OwnAt w wr F8 F9 v6 ys) := ⟨hP, hO⟩
            clear hP hO HLS
            have HLN : Hid (∀ {a : Act} {o : Oper} {W : World} (x : Operand), o.op = .call { callee := .builtin .len, args := #[x], argTypes := #[28] } → a.eval x = v6 → (execOp a.eval o).run Try.prog W = .ok (.value (.int .i64 (cs.length : Nat))) W) := fun {_ o' W} x ho hx => by
              have h5 := own_len (w := W) HLI.out.2.1 sl28 o'.type
              rw [HYL.out] at h5
              simp only [execOp, ho, resolve, invoke, builtin, Sem.run_bind, Sem.run_pure, Result.andThen_ok, List.map_toArray, List.map_cons, List.map_nil, hx, h5]
              rfl
            have hkb : cs.length ≤ 9223372036854775807 := HTL.out
            by_cases hk : k < cs.length
            · obtain ⟨sb, cur, hsb, hix, hrow, hcl, hset⟩ := spoil HLI.out.2.1 k (by rw [HYL.out]; exact hk)
              have HSP : Hid ((∀ w', (Instr.indexAt 28 v6 (.int .i64 (k : Nat))).run Try.prog w' = .ok (.pointer (some ⟨sb, k, none⟩)) w') ∧ Row wr sb 5 cur ∧ v6.ownBlock = some sb ∧ BOwn (wr.setCell ⟨sb, k, none⟩ (.int .u8 ((99 : Nat) : Int))) 0 v6 (ys.set k 99)) := ⟨hix, hrow, hsb, hset 99⟩
              clear hsb hix hrow hset
              go_upto_region 25 with fail
              refine wp_region_lit ?_
              refine wl rfl (.int .i64 (k : Nat)) _ (run_mvZ (.tmp 15) rfl (.int .i64 (k : Nat)) rfl) ?_
              simp only [Act.put, List.setIfInBounds_toArray, List.set_cons_succ, List.set_cons_zero]
              refine wl rfl v6 _ (run_mvZ (.tmp 12) rfl v6 rfl) ?_
              simp only [Act.put, List.setIfInBounds_toArray, List.set_cons_succ, List.set_cons_zero]
              refine wl rfl (.int .i64 (cs.length : Nat)) _ (HLN.out (.tmp 87) rfl rfl) ?_
              simp only [Act.put, List.setIfInBounds_toArray, List.set_cons_succ, List.set_cons_zero]
              refine wl rfl (.bool true) _ (run_lssZ (.tmp 86) (.tmp 88) rfl (k : Nat) (cs.length : Nat) rfl rfl true (decide_eq_true (by omega))) ?_
              simp only [Act.put, List.setIfInBounds_toArray, List.set_cons_succ, List.set_cons_zero]
              refine wpList_nil ?_
              go_upto_region 27 with fail
              refine wp_region_lit ?_
              refine wl rfl v6 _ (run_mvZ (.tmp 12) rfl v6 rfl) ?_
              simp only [Act.put, List.setIfInBounds_toArray, List.set_cons_succ, List.set_cons_zero]
              refine wl rfl (.int .i64 (k : Nat)) _ (run_mvZ (.tmp 15) rfl (.int .i64 (k : Nat)) rfl) ?_
              simp only [Act.put, List.setIfInBounds_toArray, List.set_cons_succ, List.set_cons_zero]
              refine wl rfl (.pointer (some ⟨sb, k, none⟩)) _ (run_idx (.tmp 92) (.tmp 93) rfl v6 _ _ rfl rfl HSP.out.1) ?_
              simp only [Act.put, List.setIfInBounds_toArray, List.set_cons_succ, List.set_cons_zero]
              refine wlS rfl rfl _ (run_putRow sz5 (.tmp 94) (.const (.int .u8 99)) rfl sb k 5 cur rfl (.int .u8 99) rfl ⟨rfl, rfl⟩ HSP.out.2.1 hcl) ?_
              have HSN : Hid (PI w (wr.setCell ⟨sb, k, none⟩ (.int .u8 99)) gx gy F8 F9 nx ss2 nx ss2 ∧ OwnAt w (wr.setCell ⟨sb, k, none⟩ (.int .u8 99)) F8 F9 v6 (ys.set k 99)) := by
                have hout := HLI.out.2.2 sb HSP.out.2.2.1
                refine ⟨HLI.out.1.ch (S := fun k => k = sb) ((Ch.refl (fun k => k = sb) wr).setCell (Or.inl rfl) _ _) (fun k e => by rw [e]; exact hout), HSP.out.2.2.2, fun q e => ?_⟩
                have h5 := HLI.out.2.2 q e
                exact ⟨h5.1, h5.2.1, h5.2.2.1, by have := h5.2.2.2; simpa using this⟩
              obtain ⟨wz, hW_⟩ : ∃ W, W = wr.setCell ⟨sb, k, none⟩ (.int .u8 99) := ⟨_, rfl⟩
              rw [← hW_] at HSN
              rw [← hW_]
              clear hW_
              refine wpList_nil ?_
              clear HSP
              go_wp2_with fail
              refine ⟨⟨k + 1, by go_num, by omega, ys.set k 99, by show _ = _; rw [List.length_set]; exact HYL.out, HSN.out.1, HSN.out.2⟩, ?_⟩
              simp [intOf]; omega
            · go_upto_region 25 with fail
              refine wp_region_lit ?_
              refine wl rfl (.int .i64 (k : Nat)) _ (run_mvZ (.tmp 15) rfl (.int .i64 (k : Nat)) rfl) ?_
              simp only [Act.put, List.setIfInBounds_toArray, List.set_cons_succ, List.set_cons_zero]
              refine wl rfl v6 _ (run_mvZ (.tmp 12) rfl v6 rfl) ?_
              simp only [Act.put, List.setIfInBounds_toArray, List.set_cons_succ, List.set_cons_zero]
              refine wl rfl (.int .i64 (cs.length : Nat)) _ (HLN.out (.tmp 87) rfl rfl) ?_
              simp only [Act.put, List.setIfInBounds_toArray, List.set_cons_succ, List.set_cons_zero]
              refine wl rfl (.bool false) _ (run_lssZ (.tmp 86) (.tmp 88) rfl (k : Nat) (cs.length : Nat) rfl rfl false (decide_eq_false (by omega))) ?_
              simp only [Act.put, List.setIfInBounds_toArray, List.set_cons_succ, List.set_cons_zero]
              refine wpList_nil ?_
              go_upto_region 28 with fail
              refine wp_region_lit ?_
              refine wl rfl (.int .i64 e1) _ (run_mvZ (.tmp 13) rfl (.int .i64 e1) rfl) ?_
              simp only [Act.put, List.setIfInBounds_toArray, List.set_cons_succ, List.set_cons_zero]
              refine wl rfl (.int .i64 e1) _ (run_mvZ (.tmp 14) rfl (.int .i64 e1) rfl) ?_
              simp only [Act.put, List.setIfInBounds_toArray, List.set_cons_succ, List.set_cons_zero]
              refine wl rfl (.bool false) _ (run_neZ (.tmp 95) (.tmp 96) rfl e1 e1 rfl rfl false (by simp)) ?_
              simp only [Act.put, List.setIfInBounds_toArray, List.set_cons_succ, List.set_cons_zero]
              refine wpList_nil ?_
              go_upto_region 44 with fail
              refine wp_region_lit ?_
              refine wl rfl (ptr gx) _ (run_mvZ (.tmp 4) rfl (ptr gx) rfl) ?_
              simp only [Act.put, List.setIfInBounds_toArray, List.set_cons_succ, List.set_cons_zero]
              refine wpList_callW eN18 [.tmp 146] _ rfl rfl [(ptr gx)] rfl ?_
              refine (SW.count HLI.out.1.sx).mono ?_
              rintro e wa ⟨rfl, ea⟩
              refine ⟨_, rfl, ?_⟩
              subst ea
              simp only [Act.put, List.setIfInBounds_toArray, List.set_cons_succ, List.set_cons_zero]
              refine wl rfl (ptr gy) _ (run_mvZ (.tmp 5) rfl (ptr gy) rfl) ?_
              simp only [Act.put, List.setIfInBounds_toArray, List.set_cons_succ, List.set_cons_zero]
              refine wpList_callW eN19 [.tmp 148] _ rfl rfl [(ptr gy)] rfl ?_
              refine (RW.count HLI.out.1.sy).mono ?_
              rintro e wb ⟨rfl, eb⟩
              refine ⟨_, rfl, ?_⟩
              subst eb
              simp only [Act.put, List.setIfInBounds_toArray, List.set_cons_succ, List.set_cons_zero]
              refine wl rfl (.bool false) _ (run_neZ (.tmp 147) (.tmp 149) rfl ((ss2).length : Nat) ((ss2).length : Nat) rfl rfl false (by simp)) ?_
              simp only [Act.put, List.setIfInBounds_toArray, List.set_cons_succ, List.set_cons_zero]
              refine wpList_nil ?_
              go_wp2_with fail
              refine ⟨⟨i + 1, by go_num, by omega, nx, ss2, _, _, (Nat.le_succ_of_le HNX.out : Hid _), HLI.out.1⟩, ?_⟩
              simp [intOf]; omega
      · as_aux_lemma =>
          go_upto_region 11 with fail
          refine wp_region_lit ?_
          refine wl rfl (.bool false) _ (run_eqZ (.tmp 44) (.const (.int .i64 0)) rfl ((5 : Nat) : Int) 0 rfl rfl false rfl) ?_
          simp only [Act.put, List.setIfInBounds_toArray, List.set_cons_succ, List.set_cons_zero]
          refine wl rfl (.bool false) _ (run_asZ (.tmp 46) rfl (.bool false) rfl) ?_
          simp only [Act.put, List.setIfInBounds_toArray, List.set_cons_succ, List.set_cons_zero]
          refine wpList_nil ?_
          go_upto_region 12 with fail
          refine wp_region_lit ?_
          refine wl rfl (.bool false) _ (run_eqZ (.tmp 44) (.const (.int .i64 1)) rfl ((5 : Nat) : Int) 1 rfl rfl false rfl) ?_
          simp only [Act.put, List.setIfInBounds_toArray, List.set_cons_succ, List.set_cons_zero]
          refine wl rfl (.bool false) _ (run_asZ (.tmp 47) rfl (.bool false) rfl) ?_
          simp only [Act.put, List.setIfInBounds_toArray, List.set_cons_succ, List.set_cons_zero]
          refine wpList_nil ?_
          go_upto_region 17 with fail
          refine wp_region_lit ?_
          refine wl rfl (.bool false) _ (run_eqZ (.tmp 44) (.const (.int .i64 2)) rfl ((5 : Nat) : Int) 2 rfl rfl false rfl) ?_
          simp only [Act.put, List.setIfInBounds_toArray, List.set_cons_succ, List.set_cons_zero]
          refine wl rfl (.bool false) _ (run_asZ (.tmp 67) rfl (.bool false) rfl) ?_
          simp only [Act.put, List.setIfInBounds_toArray, List.set_cons_succ, List.set_cons_zero]
          refine wpList_nil ?_
          go_upto_region 18 with fail
          refine wp_region_lit ?_
          refine wl rfl (.bool false) _ (run_eqZ (.tmp 44) (.const (.int .i64 3)) rfl ((5 : Nat) : Int) 3 rfl rfl false rfl) ?_
          simp only [Act.put, List.setIfInBounds_toArray, List.set_cons_succ, List.set_cons_zero]
          refine wl rfl (.bool false) _ (run_asZ (.tmp 68) rfl (.bool false) rfl) ?_
          simp only [Act.put, List.setIfInBounds_toArray, List.set_cons_succ, List.set_cons_zero]
          refine wpList_nil ?_
          go_upto_region 19 with fail
          refine wp_region_lit ?_
          refine wl rfl (.bool false) _ (run_eqZ (.tmp 44) (.const (.int .i64 4)) rfl ((5 : Nat) : Int) 4 rfl rfl false rfl) ?_
          simp only [Act.put, List.setIfInBounds_toArray, List.set_cons_succ, List.set_cons_zero]
          refine wl rfl (.bool false) _ (run_asZ (.tmp 69) rfl (.bool false) rfl) ?_
          simp only [Act.put, List.setIfInBounds_toArray, List.set_cons_succ, List.set_cons_zero]
          refine wpList_nil ?_
          go_upto_region 20 with fail
          refine wp_region_lit ?_
          refine wl rfl (.bool true) _ (run_eqZ (.tmp 44) (.const (.int .i64 5)) rfl ((5 : Nat) : Int) 5 rfl rfl true rfl) ?_
          simp only [Act.put, List.setIfInBounds_toArray, List.set_cons_succ, List.set_cons_zero]
          refine wl rfl (.bool true) _ (run_asZ (.tmp 70) rfl (.bool true) rfl) ?_
          simp only [Act.put, List.setIfInBounds_toArray, List.set_cons_succ, List.set_cons_zero]
          refine wpList_nil ?_
          go_upto_region 21 with fail
          refine wp_region_lit ?_
          refine wl_blit0 rfl rfl ?_
          intro w6 r6 z6 b6
          have HE0 : Hid (BOwn w6 0 (whole w4.heap.size 0) [] ∧ Below w4.heap.size w4 w6 ∧ ∀ k, (whole w4.heap.size 0).ownBlock = some k → w4.heap.size ≤ k) := ⟨whole_own (cs := []) r6 (Nat.zero_le _) (by decide), b6, fun k e => by injection e with e; rw [← e]; exact Nat.le_refl _⟩
          obtain ⟨v5, hq_⟩ : ∃ v, v = whole w4.heap.size 0 := ⟨_, rfl⟩
          rw [← hq_] at HE0
          rw [← hq_]
          clear hq_ r6 z6 b6
          have HR6 : Hid (Row w6 q 30 o.cells) := HQQ.out.2.1.later HE0.out.2.1 HQQ.out.2.1.lt
          simp only [Act.put, List.setIfInBounds_toArray, List.set_cons_succ, List.set_cons_zero]
          refine wl rfl (.pointer (some ⟨q, 0 + 2, none⟩)) _ (run_fieldOp' f30_2 (.tmp 7) rfl q (0) rfl) ?_
          simp only [Act.put, List.setIfInBounds_toArray, List.set_cons_succ, List.set_cons_zero]
          refine wl rfl bv _ (run_load1 o28 (.tmp 72) rfl q (0 + 2) rfl bv (HR6.out.at 2 _ (by rw [HCL.out]; rfl))) ?_
          simp only [Act.put, List.setIfInBounds_toArray, List.set_cons_succ, List.set_cons_zero]
          obtain ⟨v6, w7, hr7, ho7, hg7, hat7⟩ := run_bappAt (Oper.type _) v5 bv [] cs HE0.out.1 (SliceIn.later (HQQ.out.1.sx.bel.trans (HE0.out.2.1.mono HQQ.out.1.sx.bel.size)) HBI.out.1) (by have := HBI.out.2; simpa using this)
          refine wl rfl v6 w7 (run_append (.tmp 71) (.tmp 73) rfl v5 bv v6 rfl rfl hr7) ?_
          have HB7 : Hid (Below w4.heap.size w4 w7) := HE0.out.2.1.grown hg7 HE0.out.2.1.size HE0.out.2.2
          have H7 : Hid (PI w w7 gx gy Fx Fy nx ss nx ss ∧ OpAt w w7 Fx Fy q o ∧ OwnAt w w7 Fx Fy v6 cs) := ⟨HQQ.out.1.later HB7.out, ⟨HQQ.out.2.1.later HB7.out HQQ.out.2.1.lt, HQQ.out.2.2.1, HQQ.out.2.2.2.1, HQQ.out.2.2.2.2.1, Nat.lt_of_lt_of_le HQQ.out.2.2.2.2.2 HB7.out.size⟩, ho7, fun k e => HQQ.out.1.out (by
            rcases hat7 with h | h
            · exact HE0.out.2.2 k (by rw [← h]; exact e)
            · rw [h] at e; injection e with e; rw [← e]; exact HE0.out.2.1.size) (ho7.lt k e).2⟩
          clear hr7 ho7 hg7 hat7 HE0 HR6 HB7 HQQ
          simp only [Act.put, List.setIfInBounds_toArray, List.set_cons_succ, List.set_cons_zero]
          refine wl rfl v6 _ (run_asZ (.tmp 74) rfl v6 rfl) ?_
          simp only [Act.put, List.setIfInBounds_toArray, List.set_cons_succ, List.set_cons_zero]
          refine wpList_nil ?_
          obtain ⟨e1, he1⟩ : ∃ n, n = (addP ss N cs).1 := ⟨_, rfl⟩
          obtain ⟨ss2, hss2⟩ : ∃ n, n = (addP ss N cs).2 := ⟨_, rfl⟩
          have HBG : Hid ((∀ W F v, SW w W F gx nx ss → SliceIn W v cs → Calls Try.prog 12 #[ptr gx, .int .i64 N, v] W fun e W' => ∃ F', e = .returned (.int .i64 e1) ∧ SW w W' F' gx nx ss2 ∧ Tn F F' W W') ∧ (∀ W F v, RW w W F gy nx ss → SliceIn W v cs → Calls Try.prog 13 #[ptr gy, .int .i64 N, v] W fun e W' => ∃ F', e = .returned (.int .i64 e1) ∧ RW w W' F' gy nx ss2 ∧ Tn F F' W W')) := by
            rw [he1, hss2]
            exact ⟨fun W F v h hi => h.add N HNW.out v cs hi, fun W F v h hi => h.add N v cs hi HBI.out.2⟩
          have HTL : Hid (cs.length ≤ 9223372036854775807) := by have := HBI.out.2; show _ ≤ _; omega
          have HCB : Hid (∀ c ∈ cs, c < 256) := HBI.out.1.lt256
          clear he1 hss2
          go_upto_region 22 with fail
          refine wp_region_lit ?_
          refine wl rfl (ptr gx) _ (run_mvZ (.tmp 4) rfl (ptr gx) rfl) ?_
          simp only [Act.put, List.setIfInBounds_toArray, List.set_cons_succ, List.set_cons_zero]
          refine wl rfl (.pointer (some ⟨q, 0 + 1, none⟩)) _ (run_fieldOp' f30_1 (.tmp 7) rfl q (0) rfl) ?_
          simp only [Act.put, List.setIfInBounds_toArray, List.set_cons_succ, List.set_cons_zero]
          refine wl rfl (.int .i64 N) _ (run_load1 o3 (.tmp 76) rfl q (0 + 1) rfl (.int .i64 N) (H7.out.2.1.1.at 1 _ (by rw [HCL.out]; rfl))) ?_
          simp only [Act.put, List.setIfInBounds_toArray, List.set_cons_succ, List.set_cons_zero]
          refine wl rfl v6 _ (run_mvZ (.tmp 12) rfl v6 rfl) ?_
          simp only [Act.put, List.setIfInBounds_toArray, List.set_cons_succ, List.set_cons_zero]
          refine wpList_callW eN12 [.tmp 75, .tmp 77, .tmp 78] _ rfl rfl [(ptr gx), (.int .i64 N), v6] rfl ?_
          refine (HBG.out.1 _ _ v6 H7.out.1.sx (H7.out.2.2.1.slice HCB.out HTL.out)).mono ?_
          rintro e w8 ⟨F8, rfl, s8, t8⟩
          refine ⟨_, rfl, ?_⟩
          have H8 : Hid (PI w w8 gx gy F8 Fy nx ss2 nx ss ∧ OpAt w w8 F8 Fy q o ∧ OwnAt w w8 F8 Fy v6 cs) := ⟨H7.out.1.x t8 s8, H7.out.2.1.x t8, H7.out.2.2.x t8⟩
          clear s8 t8 H7
          simp only [Act.put, List.setIfInBounds_toArray, List.set_cons_succ, List.set_cons_zero]
          refine wl rfl (.int .i64 e1) _ (run_asZ (.tmp 79) rfl (.int .i64 e1) rfl) ?_
          simp only [Act.put, List.setIfInBounds_toArray, List.set_cons_succ, List.set_cons_zero]
          refine wpList_nil ?_
          go_upto_region 23 with fail
          refine wp_region_lit ?_
          refine wl rfl (ptr gy) _ (run_mvZ (.tmp 5) rfl (ptr gy) rfl) ?_
          simp only [Act.put, List.setIfInBounds_toArray, List.set_cons_succ, List.set_cons_zero]
          refine wl rfl (.pointer (some ⟨q, 0 + 1, none⟩)) _ (run_fieldOp' f30_1 (.tmp 7) rfl q (0) rfl) ?_
          simp only [Act.put, List.setIfInBounds_toArray, List.set_cons_succ, List.set_cons_zero]
          refine wl rfl (.int .i64 N) _ (run_load1 o3 (.tmp 81) rfl q (0 + 1) rfl (.int .i64 N) (H8.out.2.1.1.at 1 _ (by rw [HCL.out]; rfl))) ?_
          simp only [Act.put, List.setIfInBounds_toArray, List.set_cons_succ, List.set_cons_zero]
          refine wl rfl (.pointer (some ⟨q, 0 + 2, none⟩)) _ (run_fieldOp' f30_2 (.tmp 7) rfl q (0) rfl) ?_
          simp only [Act.put, List.setIfInBounds_toArray, List.set_cons_succ, List.set_cons_zero]
          refine wl rfl bv _ (run_load1 o28 (.tmp 83) rfl q (0 + 2) rfl bv (H8.out.2.1.1.at 2 _ (by rw [HCL.out]; rfl))) ?_
          simp only [Act.put, List.setIfInBounds_toArray, List.set_cons_succ, List.set_cons_zero]
          refine wpList_callW eN13 [.tmp 80, .tmp 82, .tmp 84] _ rfl rfl [(ptr gy), (.int .i64 N), bv] rfl ?_
          refine (HBG.out.2 _ _ bv H8.out.1.sy (SliceIn.later H8.out.1.sx.bel HBI.out.1)).mono ?_
          rintro e w9 ⟨F9, rfl, s9, t9⟩
          refine ⟨_, rfl, ?_⟩
          have H9 : Hid (PI w w9 gx gy F8 F9 nx ss2 nx ss2 ∧ OwnAt w w9 F8 F9 v6 cs) := ⟨H8.out.1.y t9 s9, H8.out.2.2.y t9⟩
          clear s9 t9 H8
          simp only [Act.put, List.setIfInBounds_toArray, List.set_cons_succ, List.set_cons_zero]
          refine wl rfl (.int .i64 e1) _ (run_asZ (.tmp 85) rfl (.int .i64 e1) rfl) ?_
          simp only [Act.put, List.setIfInBounds_toArray, List.set_cons_succ, List.set_cons_zero]
          refine wpList_nil ?_
          have HLS : Hid (PI w w9 gx gy F8 F9 nx ss2 nx ss2 ∧ OwnAt w w9 F8 F9 v6 cs) := ⟨H9.out.1, H9.out.2⟩
          clear H9
          go_upto_region 24 with fail
          go_wp2_with fail
          go_loopw [15] (fun vk W => ∃ (k : Nat), vk = .int .i64 (k : Nat) ∧ k ≤ cs.length ∧ ∃ ys, Hid (ys.length = cs.length) ∧ PI w W gx gy F8 F9 nx ss2 nx ss2 ∧ OwnAt w W F8 F9 v6 ys) (fun vk _ => cs.length - (intOf vk).toNat)
          case atStart => exact ⟨0, rfl, Nat.zero_le _, cs, rfl, HLS.out.1, HLS.out.2⟩
          case round =>
            obtain ⟨k, rfl, hkl, ys, HYL, hP, hO⟩ := hrel
            have HLI : Hid (PI w wr gx gy F8 F9 nx ss2 nx ss2 ∧ OwnAt w wr F8 F9 v6 ys) := ⟨hP, hO⟩
            clear hP hO HLS
            have HLN : Hid (∀ {a : Act} {o : Oper} {W : World} (x : Operand), o.op = .call { callee := .builtin .len, args := #[x], argTypes := #[28] } → a.eval x = v6 → (execOp a.eval o).run Try.prog W = .ok (.value (.int .i64 (cs.length : Nat))) W) := fun {_ o' W} x ho hx => by
              have h5 := own_len (w := W) HLI.out.2.1 sl28 o'.type
              rw [HYL.out] at h5
              simp only [execOp, ho, resolve, invoke, builtin, Sem.run_bind, Sem.run_pure, Result.andThen_ok, List.map_toArray, List.map_cons, List.map_nil, hx, h5]
              rfl
            have hkb : cs.length ≤ 9223372036854775807 := HTL.out
            by_cases hk : k < cs.length
            · obtain ⟨sb, cur, hsb, hix, hrow, hcl, hset⟩ := spoil HLI.out.2.1 k (by rw [HYL.out]; exact hk)
              have HSP : Hid ((∀ w', (Instr.indexAt 28 v6 (.int .i64 (k : Nat))).run Try.prog w' = .ok (.pointer (some ⟨sb, k, none⟩)) w') ∧ Row wr sb 5 cur ∧ v6.ownBlock = some sb ∧ BOwn (wr.setCell ⟨sb, k, none⟩ (.int .u8 ((99 : Nat) : Int))) 0 v6 (ys.set k 99)) := ⟨hix, hrow, hsb, hset 99⟩
              clear hsb hix hrow hset
              go_upto_region 25 with fail
              refine wp_region_lit ?_
              refine wl rfl (.int .i64 (k : Nat)) _ (run_mvZ (.tmp 15) rfl (.int .i64 (k : Nat)) rfl) ?_
              simp only [Act.put, List.setIfInBounds_toArray, List.set_cons_succ, List.set_cons_zero]
              refine wl rfl v6 _ (run_mvZ (.tmp 12) rfl v6 rfl) ?_
              simp only [Act.put, List.setIfInBounds_toArray, List.set_cons_succ, List.set_cons_zero]
              refine wl rfl (.int .i64 (cs.length : Nat)) _ (HLN.out (.tmp 87) rfl rfl) ?_
              simp only [Act.put, List.setIfInBounds_toArray, List.set_cons_succ, List.set_cons_zero]
              refine wl rfl (.bool true) _ (run_lssZ (.tmp 86) (.tmp 88) rfl (k : Nat) (cs.length : Nat) rfl rfl true (decide_eq_true (by omega))) ?_
              simp only [Act.put, List.setIfInBounds_toArray, List.set_cons_succ, List.set_cons_zero]
              refine wpList_nil ?_
              go_upto_region 27 with fail
              refine wp_region_lit ?_
              refine wl rfl v6 _ (run_mvZ (.tmp 12) rfl v6 rfl) ?_
              simp only [Act.put, List.setIfInBounds_toArray, List.set_cons_succ, List.set_cons_zero]
              refine wl rfl (.int .i64 (k : Nat)) _ (run_mvZ (.tmp 15) rfl (.int .i64 (k : Nat)) rfl) ?_
              simp only [Act.put, List.setIfInBounds_toArray, List.set_cons_succ, List.set_cons_zero]
              refine wl rfl (.pointer (some ⟨sb, k, none⟩)) _ (run_idx (.tmp 92) (.tmp 93) rfl v6 _ _ rfl rfl HSP.out.1) ?_
              simp only [Act.put, List.setIfInBounds_toArray, List.set_cons_succ, List.set_cons_zero]
              refine wlS rfl rfl _ (run_putRow sz5 (.tmp 94) (.const (.int .u8 99)) rfl sb k 5 cur rfl (.int .u8 99) rfl ⟨rfl, rfl⟩ HSP.out.2.1 hcl) ?_
              have HSN : Hid (PI w (wr.setCell ⟨sb, k, none⟩ (.int .u8 99)) gx gy F8 F9 nx ss2 nx ss2 ∧ OwnAt w (wr.setCell ⟨sb, k, none⟩ (.int .u8 99)) F8 F9 v6 (ys.set k 99)) := by
                have hout := HLI.out.2.2 sb HSP.out.2.2.1
                refine ⟨HLI.out.1.ch (S := fun k => k = sb) ((Ch.refl (fun k => k = sb) wr).setCell (Or.inl rfl) _ _) (fun k e => by rw [e]; exact hout), HSP.out.2.2.2, fun q e => ?_⟩
                have h5 := HLI.out.2.2 q e
                exact ⟨h5.1, h5.2.1, h5.2.2.1, by have := h5.2.2.2; simpa using this⟩
              obtain ⟨wz, hW_⟩ : ∃ W, W = wr.setCell ⟨sb, k, none⟩ (.int .u8 99) := ⟨_, rfl⟩
              rw [← hW_] at HSN
              rw [← hW_]
              clear hW_
              refine wpList_nil ?_
              clear HSP
              go_wp2_with fail
              refine ⟨⟨k + 1, by go_num, by omega, ys.set k 99, by show _ = _; rw [List.length_set]; exact HYL.out, HSN.out.1, HSN.out.2⟩, ?_⟩
              simp [intOf]; omega
            · go_upto_region 25 with fail
              refine wp_region_lit ?_
              refine wl rfl (.int .i64 (k : Nat)) _ (run_mvZ (.tmp 15) rfl (.int .i64 (k : Nat)) rfl) ?_
              simp only [Act.put, List.setIfInBounds_toArray, List.set_cons_succ, List.set_cons_zero]
              refine wl rfl v6 _ (run_mvZ (.tmp 12) rfl v6 rfl) ?_
              simp only [Act.put, List.setIfInBounds_toArray, List.set_cons_succ, List.set_cons_zero]
              refine wl rfl (.int .i64 (cs.length : Nat)) _ (HLN.out (.tmp 87) rfl rfl) ?_
              simp only [Act.put, List.setIfInBounds_toArray, List.set_cons_succ, List.set_cons_zero]
              refine wl rfl (.bool false) _ (run_lssZ (.tmp 86) (.tmp 88) rfl (k : Nat) (cs.length : Nat) rfl rfl false (decide_eq_false (by omega))) ?_
              simp only [Act.put, List.setIfInBounds_toArray, List.set_cons_succ, List.set_cons_zero]
              refine wpList_nil ?_
              go_upto_region 28 with fail
              refine wp_region_lit ?_
              refine wl rfl (.int .i64 e1) _ (run_mvZ (.tmp 13) rfl (.int .i64 e1) rfl) ?_
              simp only [Act.put, List.setIfInBounds_toArray, List.set_cons_succ, List.set_cons_zero]
              refine wl rfl (.int .i64 e1) _ (run_mvZ (.tmp 14) rfl (.int .i64 e1) rfl) ?_
              simp only [Act.put, List.setIfInBounds_toArray, List.set_cons_succ, List.set_cons_zero]
              refine wl rfl (.bool false) _ (run_neZ (.tmp 95) (.tmp 96) rfl e1 e1 rfl rfl false (by simp)) ?_
              simp only [Act.put, List.setIfInBounds_toArray, List.set_cons_succ, List.set_cons_zero]
              refine wpList_nil ?_
              go_upto_region 44 with fail
              refine wp_region_lit ?_
              refine wl rfl (ptr gx) _ (run_mvZ (.tmp 4) rfl (ptr gx) rfl) ?_
              simp only [Act.put, List.setIfInBounds_toArray, List.set_cons_succ, List.set_cons_zero]
              refine wpList_callW eN18 [.tmp 146] _ rfl rfl [(ptr gx)] rfl ?_
              refine (SW.count HLI.out.1.sx).mono ?_
              rintro e wa ⟨rfl, ea⟩
              refine ⟨_, rfl, ?_⟩
              subst ea
              simp only [Act.put, List.setIfInBounds_toArray, List.set_cons_succ, List.set_cons_zero]
              refine wl rfl (ptr gy) _ (run_mvZ (.tmp 5) rfl (ptr gy) rfl) ?_
              simp only [Act.put, List.setIfInBounds_toArray, List.set_cons_succ, List.set_cons_zero]
              refine wpList_callW eN19 [.tmp 148] _ rfl rfl [(ptr gy)] rfl ?_
              refine (RW.count HLI.out.1.sy).mono ?_
              rintro e wb ⟨rfl, eb⟩
              refine ⟨_, rfl, ?_⟩
              subst eb
              simp only [Act.put, List.setIfInBounds_toArray, List.set_cons_succ, List.set_cons_zero]
              refine wl rfl (.bool false) _ (run_neZ (.tmp 147) (.tmp 149) rfl ((ss2).length : Nat) ((ss2).length : Nat) rfl rfl false (by simp)) ?_
              simp only [Act.put, List.setIfInBounds_toArray, List.set_cons_succ, List.set_cons_zero]
              refine wpList_nil ?_
              go_wp2_with fail
              refine ⟨⟨i + 1, by go_num, by omega, nx, ss2, _, _, (Nat.le_succ_of_le HNX.out : Hid _), HLI.out.1⟩, ?_⟩
              simp [intOf]; omega
      · as_aux_lemma =>
          go_upto_region 11 with fail
          refine wp_region_lit ?_
          refine wl rfl (.bool false) _ (run_eqZ (.tmp 44) (.const (.int .i64 0)) rfl ((6 : Nat) : Int) 0 rfl rfl false rfl) ?_
          simp only [Act.put, List.setIfInBounds_toArray, List.set_cons_succ, List.set_cons_zero]
          refine wl rfl (.bool false) _ (run_asZ (.tmp 46) rfl (.bool false) rfl) ?_
          simp only [Act.put, List.setIfInBounds_toArray, List.set_cons_succ, List.set_cons_zero]
          refine wpList_nil ?_
          go_upto_region 12 with fail
          refine wp_region_lit ?_
          refine wl rfl (.bool false) _ (run_eqZ (.tmp 44) (.const (.int .i64 1)) rfl ((6 : Nat) : Int) 1 rfl rfl false rfl) ?_
          simp only [Act.put, List.setIfInBounds_toArray, List.set_cons_succ, List.set_cons_zero]
          refine wl rfl (.bool false) _ (run_asZ (.tmp 47) rfl (.bool false) rfl) ?_
          simp only [Act.put, List.setIfInBounds_toArray, List.set_cons_succ, List.set_cons_zero]
          refine wpList_nil ?_
          go_upto_region 17 with fail
          refine wp_region_lit ?_
          refine wl rfl (.bool false) _ (run_eqZ (.tmp 44) (.const (.int .i64 2)) rfl ((6 : Nat) : Int) 2 rfl rfl false rfl) ?_
          simp only [Act.put, List.setIfInBounds_toArray, List.set_cons_succ, List.set_cons_zero]
          refine wl rfl (.bool false) _ (run_asZ (.tmp 67) rfl (.bool false) rfl) ?_
          simp only [Act.put, List.setIfInBounds_toArray, List.set_cons_succ, List.set_cons_zero]
          refine wpList_nil ?_
          go_upto_region 18 with fail
          refine wp_region_lit ?_
          refine wl rfl (.bool false) _ (run_eqZ (.tmp 44) (.const (.int .i64 3)) rfl ((6 : Nat) : Int) 3 rfl rfl false rfl) ?_
          simp only [Act.put, List.setIfInBounds_toArray, List.set_cons_succ, List.set_cons_zero]
          refine wl rfl (.bool false) _ (run_asZ (.tmp 68) rfl (.bool false) rfl) ?_
          simp only [Act.put, List.setIfInBounds_toArray, List.set_cons_succ, List.set_cons_zero]
          refine wpList_nil ?_
          go_upto_region 19 with fail
          refine wp_region_lit ?_
          refine wl rfl (.bool false) _ (run_eqZ (.tmp 44) (.const (.int .i64 4)) rfl ((6 : Nat) : Int) 4 rfl rfl false rfl) ?_
          simp only [Act.put, List.setIfInBounds_toArray, List.set_cons_succ, List.set_cons_zero]
          refine wl rfl (.bool false) _ (run_asZ (.tmp 69) rfl (.bool false) rfl) ?_
          simp only [Act.put, List.setIfInBounds_toArray, List.set_cons_succ, List.set_cons_zero]
          refine wpList_nil ?_
          go_upto_region 20 with fail
          refine wp_region_lit ?_
          refine wl rfl (.bool false) _ (run_eqZ (.tmp 44) (.const (.int .i64 5)) rfl ((6 : Nat) : Int) 5 rfl rfl false rfl) ?_
          simp only [Act.put, List.setIfInBounds_toArray, List.set_cons_succ, List.set_cons_zero]
          refine wl rfl (.bool false) _ (run_asZ (.tmp 70) rfl (.bool false) rfl) ?_
          simp only [Act.put, List.setIfInBounds_toArray, List.set_cons_succ, List.set_cons_zero]
          refine wpList_nil ?_
          go_upto_region 30 with fail
          refine wp_region_lit ?_
          refine wl rfl (.bool true) _ (run_eqZ (.tmp 44) (.const (.int .i64 6)) rfl ((6 : Nat) : Int) 6 rfl rfl true rfl) ?_
          simp only [Act.put, List.setIfInBounds_toArray, List.set_cons_succ, List.set_cons_zero]
          refine wl rfl (.bool true) _ (run_asZ (.tmp 99) rfl (.bool true) rfl) ?_
          simp only [Act.put, List.setIfInBounds_toArray, List.set_cons_succ, List.set_cons_zero]
          refine wpList_nil ?_
          obtain ⟨e1, he1⟩ : ∃ n, n = (takeP ss N).1 := ⟨_, rfl⟩
          obtain ⟨tb, htb⟩ : ∃ n, n = (takeP ss N).2.1 := ⟨_, rfl⟩
          obtain ⟨ss2, hss2⟩ : ∃ n, n = (takeP ss N).2.2 := ⟨_, rfl⟩
          have HBG : Hid ((∀ W F, SW w W F gx nx ss → Calls Try.prog 14 #[ptr gx, .int .i64 N] W fun e W' => ∃ F' v, e = .returned (.tuple #[v, .int .i64 e1]) ∧ SW w W' F' gx nx ss2 ∧ Tn F F' W W' ∧ BOwn W' 0 v tb ∧ SliceIn W' v tb ∧ ∀ k, v.ownBlock = some k → F k ∧ ¬ F' k) ∧ (∀ W F, RW w W F gy nx ss → Calls Try.prog 15 #[ptr gy, .int .i64 N] W fun e W' => ∃ F' v, e = .returned (.tuple #[v, .int .i64 e1]) ∧ RW w W' F' gy nx ss2 ∧ Tn F F' W W' ∧ SliceIn W' v tb)) := by
            rw [he1, hss2, htb]
            exact ⟨fun W F h => h.take N HNW.out, fun W F h => h.take N⟩
          clear he1 hss2 htb
          go_upto_region 31 with fail
          refine wp_region_lit ?_
          refine wl rfl (ptr gx) _ (run_mvZ (.tmp 4) rfl (ptr gx) rfl) ?_
          simp only [Act.put, List.setIfInBounds_toArray, List.set_cons_succ, List.set_cons_zero]
          refine wl rfl (.pointer (some ⟨q, 0 + 1, none⟩)) _ (run_fieldOp' f30_1 (.tmp 7) rfl q (0) rfl) ?_
          simp only [Act.put, List.setIfInBounds_toArray, List.set_cons_succ, List.set_cons_zero]
          refine wl rfl (.int .i64 N) _ (run_load1 o3 (.tmp 102) rfl q (0 + 1) rfl (.int .i64 N) (HQQ.out.2.1.at 1 _ (by rw [HCL.out]; rfl))) ?_
          simp only [Act.put, List.setIfInBounds_toArray, List.set_cons_succ, List.set_cons_zero]
          refine wpList_callW eN14 [.tmp 101, .tmp 103] _ rfl rfl [(ptr gx), (.int .i64 N)] rfl ?_
          refine (HBG.out.1 _ _ HQQ.out.1.sx).mono ?_
          rintro e w6 ⟨F6, v6, rfl, s6, t6, o6, i6, d6⟩
          refine ⟨_, rfl, ?_⟩
          have H6 : Hid (PI w w6 gx gy F6 Fy nx ss2 nx ss ∧ OpAt w w6 F6 Fy q o ∧ OwnAt w w6 F6 Fy v6 tb ∧ (∀ c ∈ tb, c < 256)) := ⟨HQQ.out.1.x t6 s6, HQQ.out.2.x t6, ⟨o6, fun k e => ⟨(d6 k e).2, HQQ.out.1.dj k (d6 k e).1, HQQ.out.1.sx.ge k (d6 k e).1, (o6.lt k e).2⟩⟩, i6.lt256⟩
          have HTL : Hid (tb.length ≤ 9223372036854775807) := i6.len_max
          clear s6 t6 o6 i6 d6 HQQ
          simp only [Act.put, List.setIfInBounds_toArray, List.set_cons_succ, List.set_cons_zero]
          refine wl rfl (.tuple #[v6, (.int .i64 e1)]) _ (run_mvZ (.tmp 104) rfl (.tuple #[v6, (.int .i64 e1)]) rfl) ?_
          simp only [Act.put, List.setIfInBounds_toArray, List.set_cons_succ, List.set_cons_zero]
          refine wl rfl v6 _ (run_extZ (.tmp 100) 0 rfl #[v6, (.int .i64 e1)] rfl v6 rfl) ?_
          simp only [Act.put, List.setIfInBounds_toArray, List.set_cons_succ, List.set_cons_zero]
          refine wl rfl (.int .i64 e1) _ (run_extZ (.tmp 100) 1 rfl #[v6, (.int .i64 e1)] rfl (.int .i64 e1) rfl) ?_
          simp only [Act.put, List.setIfInBounds_toArray, List.set_cons_succ, List.set_cons_zero]
          refine wl rfl v6 _ (run_asZ (.tmp 105) rfl v6 rfl) ?_
          simp only [Act.put, List.setIfInBounds_toArray, List.set_cons_succ, List.set_cons_zero]
          refine wl rfl (.int .i64 e1) _ (run_asZ (.tmp 106) rfl (.int .i64 e1) rfl) ?_
          simp only [Act.put, List.setIfInBounds_toArray, List.set_cons_succ, List.set_cons_zero]
          refine wpList_nil ?_
          go_upto_region 32 with fail
          refine wp_region_lit ?_
          refine wl rfl (ptr gy) _ (run_mvZ (.tmp 5) rfl (ptr gy) rfl) ?_
          simp only [Act.put, List.setIfInBounds_toArray, List.set_cons_succ, List.set_cons_zero]
          refine wl rfl (.pointer (some ⟨q, 0 + 1, none⟩)) _ (run_fieldOp' f30_1 (.tmp 7) rfl q (0) rfl) ?_
          simp only [Act.put, List.setIfInBounds_toArray, List.set_cons_succ, List.set_cons_zero]
          refine wl rfl (.int .i64 N) _ (run_load1 o3 (.tmp 109) rfl q (0 + 1) rfl (.int .i64 N) (H6.out.2.1.1.at 1 _ (by rw [HCL.out]; rfl))) ?_
          simp only [Act.put, List.setIfInBounds_toArray, List.set_cons_succ, List.set_cons_zero]
          refine wpList_callW eN15 [.tmp 108, .tmp 110] _ rfl rfl [(ptr gy), (.int .i64 N)] rfl ?_
          refine (HBG.out.2 _ _ H6.out.1.sy).mono ?_
          rintro e w7 ⟨F7, v7, rfl, s7, t7, i7⟩
          refine ⟨_, rfl, ?_⟩
          have H7 : Hid (PI w w7 gx gy F6 F7 nx ss2 nx ss2 ∧ OwnAt w w7 F6 F7 v6 tb ∧ SliceIn w7 v6 tb ∧ SliceIn w7 v7 tb) := ⟨H6.out.1.y t7 s7, H6.out.2.2.1.y t7, (H6.out.2.2.1.y t7).1.slice H6.out.2.2.2 HTL.out, i7⟩
          clear s7 t7 i7 H6
          simp only [Act.put, List.setIfInBounds_toArray, List.set_cons_succ, List.set_cons_zero]
          refine wl rfl (.tuple #[v7, (.int .i64 e1)]) _ (run_mvZ (.tmp 111) rfl (.tuple #[v7, (.int .i64 e1)]) rfl) ?_
          simp only [Act.put, List.setIfInBounds_toArray, List.set_cons_succ, List.set_cons_zero]
          refine wl rfl v7 _ (run_extZ (.tmp 107) 0 rfl #[v7, (.int .i64 e1)] rfl v7 rfl) ?_
          simp only [Act.put, List.setIfInBounds_toArray, List.set_cons_succ, List.set_cons_zero]
          refine wl rfl (.int .i64 e1) _ (run_extZ (.tmp 107) 1 rfl #[v7, (.int .i64 e1)] rfl (.int .i64 e1) rfl) ?_
          simp only [Act.put, List.setIfInBounds_toArray, List.set_cons_succ, List.set_cons_zero]
          refine wl rfl v7 _ (run_asZ (.tmp 112) rfl v7 rfl) ?_
          simp only [Act.put, List.setIfInBounds_toArray, List.set_cons_succ, List.set_cons_zero]
          refine wl rfl (.int .i64 e1) _ (run_asZ (.tmp 113) rfl (.int .i64 e1) rfl) ?_
          simp only [Act.put, List.setIfInBounds_toArray, List.set_cons_succ, List.set_cons_zero]
          refine wpList_nil ?_
          go_upto_region 33 with fail
          refine wp_region_lit ?_
          refine wl rfl v6 _ (run_mvZ (.tmp 16) rfl v6 rfl) ?_
          simp only [Act.put, List.setIfInBounds_toArray, List.set_cons_succ, List.set_cons_zero]
          refine wl rfl (.string (strOfNums (tb.map Int.ofNat))) _ (run_str (.tmp 114) rfl v6 tb rfl H7.out.2.2.1) ?_
          simp only [Act.put, List.setIfInBounds_toArray, List.set_cons_succ, List.set_cons_zero]
          refine wl rfl v7 _ (run_mvZ (.tmp 18) rfl v7 rfl) ?_
          simp only [Act.put, List.setIfInBounds_toArray, List.set_cons_succ, List.set_cons_zero]
          refine wl rfl (.string (strOfNums (tb.map Int.ofNat))) _ (run_str (.tmp 116) rfl v7 tb rfl H7.out.2.2.2) ?_
          simp only [Act.put, List.setIfInBounds_toArray, List.set_cons_succ, List.set_cons_zero]
          refine wl rfl (.bool false) _ (run_neS (.tmp 115) (.tmp 117) rfl (strOfNums (tb.map Int.ofNat)) (strOfNums (tb.map Int.ofNat)) rfl rfl rfl) ?_
          simp only [Act.put, List.setIfInBounds_toArray, List.set_cons_succ, List.set_cons_zero]
          refine wl rfl (.bool false) _ (run_mvZ (.tmp 118) rfl (.bool false) rfl) ?_
          simp only [Act.put, List.setIfInBounds_toArray, List.set_cons_succ, List.set_cons_zero]
          refine wl (by kernel_rfl) (.int .i64 e1) _ (run_mvZ (.tmp 17) rfl (.int .i64 e1) rfl) ?_
          simp only [Act.put, List.setIfInBounds_toArray, List.set_cons_succ, List.set_cons_zero]
          refine wl (by kernel_rfl) (.int .i64 e1) _ (run_mvZ (.tmp 19) rfl (.int .i64 e1) rfl) ?_
          simp only [Act.put, List.setIfInBounds_toArray, List.set_cons_succ, List.set_cons_zero]
          refine wl (by kernel_rfl) (.bool false) _ (run_neZ (.tmp 120) (.tmp 121) rfl e1 e1 rfl rfl false (by simp)) ?_
          simp only [Act.put, List.setIfInBounds_toArray, List.set_cons_succ, List.set_cons_zero]
          refine wl rfl (.bool false) _ (run_pickZ (.tmp 119) (.const (.bool true)) (.tmp 122) rfl false (.bool false) rfl rfl) ?_
          simp only [Act.put, List.setIfInBounds_toArray, List.set_cons_succ, List.set_cons_zero]
          refine wpList_nil ?_
          have HLS : Hid (PI w w7 gx gy F6 F7 nx ss2 nx ss2 ∧ OwnAt w w7 F6 F7 v6 tb) := ⟨H7.out.1, H7.out.2.1⟩
          clear H7
          go_upto_region 35 with fail
          go_wp2_with fail
          go_loopw [20] (fun vk W => ∃ (k : Nat), vk = .int .i64 (k : Nat) ∧ k ≤ tb.length ∧ ∃ ys, Hid (ys.length = tb.length) ∧ PI w W gx gy F6 F7 nx ss2 nx ss2 ∧ OwnAt w W F6 F7 v6 ys) (fun vk _ => tb.length - (intOf vk).toNat)
          case atStart => exact ⟨0, rfl, Nat.zero_le _, tb, rfl, HLS.out.1, HLS.out.2⟩
          case round =>
            obtain ⟨k, rfl, hkl, ys, HYL, hP, hO⟩ := hrel
            have HLI : Hid (PI w wr gx gy F6 F7 nx ss2 nx ss2 ∧ OwnAt w wr F6 F7 v6 ys) := ⟨hP, hO⟩
            clear hP hO HLS
            have HLN : Hid (∀ {a : Act} {o : Oper} {W : World} (x : Operand), o.op = .call { callee := .builtin .len, args := #[x], argTypes := #[28] } → a.eval x = v6 → (execOp a.eval o).run Try.prog W = .ok (.value (.int .i64 (tb.length : Nat))) W) := fun {_ o' W} x ho hx => by
              have h5 := own_len (w := W) HLI.out.2.1 sl28 o'.type
              rw [HYL.out] at h5
              simp only [execOp, ho, resolve, invoke, builtin, Sem.run_bind, Sem.run_pure, Result.andThen_ok, List.map_toArray, List.map_cons, List.map_nil, hx, h5]
              rfl
            have hkb : tb.length ≤ 9223372036854775807 := HTL.out
            by_cases hk : k < tb.length
            · obtain ⟨sb, cur, hsb, hix, hrow, hcl, hset⟩ := spoil HLI.out.2.1 k (by rw [HYL.out]; exact hk)
              have HSP : Hid ((∀ w', (Instr.indexAt 28 v6 (.int .i64 (k : Nat))).run Try.prog w' = .ok (.pointer (some ⟨sb, k, none⟩)) w') ∧ Row wr sb 5 cur ∧ v6.ownBlock = some sb ∧ BOwn (wr.setCell ⟨sb, k, none⟩ (.int .u8 ((98 : Nat) : Int))) 0 v6 (ys.set k 98)) := ⟨hix, hrow, hsb, hset 98⟩
              clear hsb hix hrow hset
              go_upto_region 36 with fail
              refine wp_region_lit ?_
              refine wl rfl (.int .i64 (k : Nat)) _ (run_mvZ (.tmp 20) rfl (.int .i64 (k : Nat)) rfl) ?_
              simp only [Act.put, List.setIfInBounds_toArray, List.set_cons_succ, List.set_cons_zero]
              refine wl rfl v6 _ (run_mvZ (.tmp 16) rfl v6 rfl) ?_
              simp only [Act.put, List.setIfInBounds_toArray, List.set_cons_succ, List.set_cons_zero]
              refine wl rfl (.int .i64 (tb.length : Nat)) _ (HLN.out (.tmp 125) rfl rfl) ?_
              simp only [Act.put, List.setIfInBounds_toArray, List.set_cons_succ, List.set_cons_zero]
              refine wl rfl (.bool true) _ (run_lssZ (.tmp 124) (.tmp 126) rfl (k : Nat) (tb.length : Nat) rfl rfl true (decide_eq_true (by omega))) ?_
              simp only [Act.put, List.setIfInBounds_toArray, List.set_cons_succ, List.set_cons_zero]
              refine wpList_nil ?_
              go_upto_region 38 with fail
              refine wp_region_lit ?_
              refine wl rfl v6 _ (run_mvZ (.tmp 16) rfl v6 rfl) ?_
              simp only [Act.put, List.setIfInBounds_toArray, List.set_cons_succ, List.set_cons_zero]
              refine wl rfl (.int .i64 (k : Nat)) _ (run_mvZ (.tmp 20) rfl (.int .i64 (k : Nat)) rfl) ?_
              simp only [Act.put, List.setIfInBounds_toArray, List.set_cons_succ, List.set_cons_zero]
              refine wl rfl (.pointer (some ⟨sb, k, none⟩)) _ (run_idx (.tmp 130) (.tmp 131) rfl v6 _ _ rfl rfl HSP.out.1) ?_
              simp only [Act.put, List.setIfInBounds_toArray, List.set_cons_succ, List.set_cons_zero]
              refine wlS rfl rfl _ (run_putRow sz5 (.tmp 132) (.const (.int .u8 98)) rfl sb k 5 cur rfl (.int .u8 98) rfl ⟨rfl, rfl⟩ HSP.out.2.1 hcl) ?_
              have HSN : Hid (PI w (wr.setCell ⟨sb, k, none⟩ (.int .u8 98)) gx gy F6 F7 nx ss2 nx ss2 ∧ OwnAt w (wr.setCell ⟨sb, k, none⟩ (.int .u8 98)) F6 F7 v6 (ys.set k 98)) := by
                have hout := HLI.out.2.2 sb HSP.out.2.2.1
                refine ⟨HLI.out.1.ch (S := fun k => k = sb) ((Ch.refl (fun k => k = sb) wr).setCell (Or.inl rfl) _ _) (fun k e => by rw [e]; exact hout), HSP.out.2.2.2, fun q e => ?_⟩
                have h5 := HLI.out.2.2 q e
                exact ⟨h5.1, h5.2.1, h5.2.2.1, by have := h5.2.2.2; simpa using this⟩
              obtain ⟨wz, hW_⟩ : ∃ W, W = wr.setCell ⟨sb, k, none⟩ (.int .u8 98) := ⟨_, rfl⟩
              rw [← hW_] at HSN
              rw [← hW_]
              clear hW_
              refine wpList_nil ?_
              clear HSP
              go_wp2_with fail
              refine ⟨⟨k + 1, by go_num, by omega, ys.set k 98, by show _ = _; rw [List.length_set]; exact HYL.out, HSN.out.1, HSN.out.2⟩, ?_⟩
              simp [intOf]; omega
            · go_upto_region 36 with fail
              refine wp_region_lit ?_
              refine wl rfl (.int .i64 (k : Nat)) _ (run_mvZ (.tmp 20) rfl (.int .i64 (k : Nat)) rfl) ?_
              simp only [Act.put, List.setIfInBounds_toArray, List.set_cons_succ, List.set_cons_zero]
              refine wl rfl v6 _ (run_mvZ (.tmp 16) rfl v6 rfl) ?_
              simp only [Act.put, List.setIfInBounds_toArray, List.set_cons_succ, List.set_cons_zero]
              refine wl rfl (.int .i64 (tb.length : Nat)) _ (HLN.out (.tmp 125) rfl rfl) ?_
              simp only [Act.put, List.setIfInBounds_toArray, List.set_cons_succ, List.set_cons_zero]
              refine wl rfl (.bool false) _ (run_lssZ (.tmp 124) (.tmp 126) rfl (k : Nat) (tb.length : Nat) rfl rfl false (decide_eq_false (by omega))) ?_
              simp only [Act.put, List.setIfInBounds_toArray, List.set_cons_succ, List.set_cons_zero]
              refine wpList_nil ?_
              go_upto_region 44 with fail
              refine wp_region_lit ?_
              refine wl rfl (ptr gx) _ (run_mvZ (.tmp 4) rfl (ptr gx) rfl) ?_
              simp only [Act.put, List.setIfInBounds_toArray, List.set_cons_succ, List.set_cons_zero]
              refine wpList_callW eN18 [.tmp 146] _ rfl rfl [(ptr gx)] rfl ?_
              refine (SW.count HLI.out.1.sx).mono ?_
              rintro e wa ⟨rfl, ea⟩
              refine ⟨_, rfl, ?_⟩
              subst ea
              simp only [Act.put, List.setIfInBounds_toArray, List.set_cons_succ, List.set_cons_zero]
              refine wl rfl (ptr gy) _ (run_mvZ (.tmp 5) rfl (ptr gy) rfl) ?_
              simp only [Act.put, List.setIfInBounds_toArray, List.set_cons_succ, List.set_cons_zero]
              refine wpList_callW eN19 [.tmp 148] _ rfl rfl [(ptr gy)] rfl ?_
              refine (RW.count HLI.out.1.sy).mono ?_
              rintro e wb ⟨rfl, eb⟩
              refine ⟨_, rfl, ?_⟩
              subst eb
              simp only [Act.put, List.setIfInBounds_toArray, List.set_cons_succ, List.set_cons_zero]
              refine wl rfl (.bool false) _ (run_neZ (.tmp 147) (.tmp 149) rfl ((ss2).length : Nat) ((ss2).length : Nat) rfl rfl false (by simp)) ?_
              simp only [Act.put, List.setIfInBounds_toArray, List.set_cons_succ, List.set_cons_zero]
              refine wpList_nil ?_
              go_wp2_with fail
              refine ⟨⟨i + 1, by go_num, by omega, nx, ss2, _, _, (Nat.le_succ_of_le HNX.out : Hid _), HLI.out.1⟩, ?_⟩
              simp [intOf]; omega
      · as_aux_lemma =>
          go_upto_region 11 with fail
          refine wp_region_lit ?_
          refine wl rfl (.bool false) _ (run_eqZ (.tmp 44) (.const (.int .i64 0)) rfl ((7 : Nat) : Int) 0 rfl rfl false rfl) ?_
          simp only [Act.put, List.setIfInBounds_toArray, List.set_cons_succ, List.set_cons_zero]
          refine wl rfl (.bool false) _ (run_asZ (.tmp 46) rfl (.bool false) rfl) ?_
          simp only [Act.put, List.setIfInBounds_toArray, List.set_cons_succ, List.set_cons_zero]
          refine wpList_nil ?_
          go_upto_region 12 with fail
          refine wp_region_lit ?_
          refine wl rfl (.bool false) _ (run_eqZ (.tmp 44) (.const (.int .i64 1)) rfl ((7 : Nat) : Int) 1 rfl rfl false rfl) ?_
          simp only [Act.put, List.setIfInBounds_toArray, List.set_cons_succ, List.set_cons_zero]
          refine wl rfl (.bool false) _ (run_asZ (.tmp 47) rfl (.bool false) rfl) ?_
          simp only [Act.put, List.setIfInBounds_toArray, List.set_cons_succ, List.set_cons_zero]
          refine wpList_nil ?_
          go_upto_region 17 with fail
          refine wp_region_lit ?_
          refine wl rfl (.bool false) _ (run_eqZ (.tmp 44) (.const (.int .i64 2)) rfl ((7 : Nat) : Int) 2 rfl rfl false rfl) ?_
          simp only [Act.put, List.setIfInBounds_toArray, List.set_cons_succ, List.set_cons_zero]
          refine wl rfl (.bool false) _ (run_asZ (.tmp 67) rfl (.bool false) rfl) ?_
          simp only [Act.put, List.setIfInBounds_toArray, List.set_cons_succ, List.set_cons_zero]
          refine wpList_nil ?_
          go_upto_region 18 with fail
          refine wp_region_lit ?_
          refine wl rfl (.bool false) _ (run_eqZ (.tmp 44) (.const (.int .i64 3)) rfl ((7 : Nat) : Int) 3 rfl rfl false rfl) ?_
          simp only [Act.put, List.setIfInBounds_toArray, List.set_cons_succ, List.set_cons_zero]
          refine wl rfl (.bool false) _ (run_asZ (.tmp 68) rfl (.bool false) rfl) ?_
          simp only [Act.put, List.setIfInBounds_toArray, List.set_cons_succ, List.set_cons_zero]
          refine wpList_nil ?_
          go_upto_region 19 with fail
          refine wp_region_lit ?_
          refine wl rfl (.bool false) _ (run_eqZ (.tmp 44) (.const (.int .i64 4)) rfl ((7 : Nat) : Int) 4 rfl rfl false rfl) ?_
          simp only [Act.put, List.setIfInBounds_toArray, List.set_cons_succ, List.set_cons_zero]
          refine wl rfl (.bool false) _ (run_asZ (.tmp 69) rfl (.bool false) rfl) ?_
          simp only [Act.put, List.setIfInBounds_toArray, List.set_cons_succ, List.set_cons_zero]
          refine wpList_nil ?_
          go_upto_region 20 with fail
          refine wp_region_lit ?_
          refine wl rfl (.bool false) _ (run_eqZ (.tmp 44) (.const (.int .i64 5)) rfl ((7 : Nat) : Int) 5 rfl rfl false rfl) ?_
          simp only [Act.put, List.setIfInBounds_toArray, List.set_cons_succ, List.set_cons_zero]
          refine wl rfl (.bool false) _ (run_asZ (.tmp 70) rfl (.bool false) rfl) ?_
          simp only [Act.put, List.setIfInBounds_toArray, List.set_cons_succ, List.set_cons_zero]
          refine wpList_nil ?_
          go_upto_region 30 with fail
          refine wp_region_lit ?_
          refine wl rfl (.bool false) _ (run_eqZ (.tmp 44) (.const (.int .i64 6)) rfl ((7 : Nat) : Int) 6 rfl rfl false rfl) ?_
          simp only [Act.put, List.setIfInBounds_toArray, List.set_cons_succ, List.set_cons_zero]
          refine wl rfl (.bool false) _ (run_asZ (.tmp 99) rfl (.bool false) rfl) ?_
          simp only [Act.put, List.setIfInBounds_toArray, List.set_cons_succ, List.set_cons_zero]
          refine wpList_nil ?_
          go_upto_region 39 with fail
          refine wp_region_lit ?_
          refine wl rfl (.bool true) _ (run_eqZ (.tmp 44) (.const (.int .i64 7)) rfl ((7 : Nat) : Int) 7 rfl rfl true rfl) ?_
          simp only [Act.put, List.setIfInBounds_toArray, List.set_cons_succ, List.set_cons_zero]
          refine wl rfl (.bool true) _ (run_asZ (.tmp 134) rfl (.bool true) rfl) ?_
          simp only [Act.put, List.setIfInBounds_toArray, List.set_cons_succ, List.set_cons_zero]
          refine wpList_nil ?_
          obtain ⟨e1, he1⟩ : ∃ n, n = (takeP ss N).1 := ⟨_, rfl⟩
          obtain ⟨ss2, hss2⟩ : ∃ n, n = (takeP ss N).2.2 := ⟨_, rfl⟩
          have HBG : Hid ((∀ W F, SW w W F gx nx ss → Calls Try.prog 16 #[ptr gx, .int .i64 N] W fun e W' => ∃ F', e = .returned (.int .i64 e1) ∧ SW w W' F' gx nx ss2 ∧ Tn F F' W W') ∧ (∀ W F, RW w W F gy nx ss → Calls Try.prog 17 #[ptr gy, .int .i64 N] W fun e W' => ∃ F', e = .returned (.int .i64 e1) ∧ RW w W' F' gy nx ss2 ∧ Tn F F' W W')) := by
            rw [he1, hss2]
            exact ⟨fun W F h => h.abort N HNW.out, fun W F h => h.abort N⟩
          clear he1 hss2
          go_upto_region 40 with fail
          refine wp_region_lit ?_
          refine wl rfl (ptr gx) _ (run_mvZ (.tmp 4) rfl (ptr gx) rfl) ?_
          simp only [Act.put, List.setIfInBounds_toArray, List.set_cons_succ, List.set_cons_zero]
          refine wl rfl (.pointer (some ⟨q, 0 + 1, none⟩)) _ (run_fieldOp' f30_1 (.tmp 7) rfl q (0) rfl) ?_
          simp only [Act.put, List.setIfInBounds_toArray, List.set_cons_succ, List.set_cons_zero]
          refine wl rfl (.int .i64 N) _ (run_load1 o3 (.tmp 136) rfl q (0 + 1) rfl (.int .i64 N) (HQQ.out.2.1.at 1 _ (by rw [HCL.out]; rfl))) ?_
          simp only [Act.put, List.setIfInBounds_toArray, List.set_cons_succ, List.set_cons_zero]
          refine wpList_callW eN16 [.tmp 135, .tmp 137] _ rfl rfl [(ptr gx), (.int .i64 N)] rfl ?_
          refine (HBG.out.1 _ _ HQQ.out.1.sx).mono ?_
          rintro e w6 ⟨F6, rfl, s6, t6⟩
          refine ⟨_, rfl, ?_⟩
          have H6 : Hid (PI w w6 gx gy F6 Fy nx ss2 nx ss ∧ OpAt w w6 F6 Fy q o) := ⟨HQQ.out.1.x t6 s6, HQQ.out.2.x t6⟩
          clear s6 t6 HQQ
          simp only [Act.put, List.setIfInBounds_toArray, List.set_cons_succ, List.set_cons_zero]
          refine wl rfl (.int .i64 e1) _ (run_asZ (.tmp 138) rfl (.int .i64 e1) rfl) ?_
          simp only [Act.put, List.setIfInBounds_toArray, List.set_cons_succ, List.set_cons_zero]
          refine wpList_nil ?_
          go_upto_region 41 with fail
          refine wp_region_lit ?_
          refine wl rfl (ptr gy) _ (run_mvZ (.tmp 5) rfl (ptr gy) rfl) ?_
          simp only [Act.put, List.setIfInBounds_toArray, List.set_cons_succ, List.set_cons_zero]
          refine wl rfl (.pointer (some ⟨q, 0 + 1, none⟩)) _ (run_fieldOp' f30_1 (.tmp 7) rfl q (0) rfl) ?_
          simp only [Act.put, List.setIfInBounds_toArray, List.set_cons_succ, List.set_cons_zero]
          refine wl rfl (.int .i64 N) _ (run_load1 o3 (.tmp 140) rfl q (0 + 1) rfl (.int .i64 N) (H6.out.2.1.at 1 _ (by rw [HCL.out]; rfl))) ?_
          simp only [Act.put, List.setIfInBounds_toArray, List.set_cons_succ, List.set_cons_zero]
          refine wpList_callW eN17 [.tmp 139, .tmp 141] _ rfl rfl [(ptr gy), (.int .i64 N)] rfl ?_
          refine (HBG.out.2 _ _ H6.out.1.sy).mono ?_
          rintro e w7 ⟨F7, rfl, s7, t7⟩
          refine ⟨_, rfl, ?_⟩
          have H7 : Hid (PI w w7 gx gy F6 F7 nx ss2 nx ss2 ∧ True) := ⟨H6.out.1.y t7 s7, trivial⟩
          clear s7 t7 H6
          simp only [Act.put, List.setIfInBounds_toArray, List.set_cons_succ, List.set_cons_zero]
          refine wl rfl (.int .i64 e1) _ (run_asZ (.tmp 142) rfl (.int .i64 e1) rfl) ?_
          simp only [Act.put, List.setIfInBounds_toArray, List.set_cons_succ, List.set_cons_zero]
          refine wpList_nil ?_
          go_upto_region 42 with fail
          refine wp_region_lit ?_
          refine wl rfl (.int .i64 e1) _ (run_mvZ (.tmp 21) rfl (.int .i64 e1) rfl) ?_
          simp only [Act.put, List.setIfInBounds_toArray, List.set_cons_succ, List.set_cons_zero]
          refine wl rfl (.int .i64 e1) _ (run_mvZ (.tmp 22) rfl (.int .i64 e1) rfl) ?_
          simp only [Act.put, List.setIfInBounds_toArray, List.set_cons_succ, List.set_cons_zero]
          refine wl rfl (.bool false) _ (run_neZ (.tmp 143) (.tmp 144) rfl e1 e1 rfl rfl false (by simp)) ?_
          simp only [Act.put, List.setIfInBounds_toArray, List.set_cons_succ, List.set_cons_zero]
          refine wpList_nil ?_
          go_upto_region 44 with fail
          refine wp_region_lit ?_
          refine wl rfl (ptr gx) _ (run_mvZ (.tmp 4) rfl (ptr gx) rfl) ?_
          simp only [Act.put, List.setIfInBounds_toArray, List.set_cons_succ, List.set_cons_zero]
          refine wpList_callW eN18 [.tmp 146] _ rfl rfl [(ptr gx)] rfl ?_
          refine (SW.count H7.out.1.sx).mono ?_
          rintro e wa ⟨rfl, ea⟩
          refine ⟨_, rfl, ?_⟩
          subst ea
          simp only [Act.put, List.setIfInBounds_toArray, List.set_cons_succ, List.set_cons_zero]
          refine wl rfl (ptr gy) _ (run_mvZ (.tmp 5) rfl (ptr gy) rfl) ?_
          simp only [Act.put, List.setIfInBounds_toArray, List.set_cons_succ, List.set_cons_zero]
          refine wpList_callW eN19 [.tmp 148] _ rfl rfl [(ptr gy)] rfl ?_
          refine (RW.count H7.out.1.sy).mono ?_
          rintro e wb ⟨rfl, eb⟩
          refine ⟨_, rfl, ?_⟩
          subst eb
          simp only [Act.put, List.setIfInBounds_toArray, List.set_cons_succ, List.set_cons_zero]
          refine wl rfl (.bool false) _ (run_neZ (.tmp 147) (.tmp 149) rfl ((ss2).length : Nat) ((ss2).length : Nat) rfl rfl false (by simp)) ?_
          simp only [Act.put, List.setIfInBounds_toArray, List.set_cons_succ, List.set_cons_zero]
          refine wpList_nil ?_
          go_wp2_with fail
          refine ⟨⟨i + 1, by go_num, by omega, nx, ss2, _, _, (Nat.le_succ_of_le HNX.out : Hid _), H7.out.1⟩, ?_⟩
          simp [intOf]; omega
    · go_upto_region 7 with fail
      refine wp_region_lit ?_
      refine wl rfl (.int .i64 (i : Nat)) _ (run_mvZ (.tmp 6) rfl (.int .i64 (i : Nat)) rfl) ?_
      simp only [Act.put, List.setIfInBounds_toArray, List.set_cons_succ, List.set_cons_zero]
      refine wl rfl vl _ (run_mvZ (.tmp 0) rfl vl rfl) ?_
      simp only [Act.put, List.setIfInBounds_toArray, List.set_cons_succ, List.set_cons_zero]
      refine wl rfl (.int .i64 (os.length : Nat)) _ (HLE.out (.tmp 33) rfl rfl) ?_
      simp only [Act.put, List.setIfInBounds_toArray, List.set_cons_succ, List.set_cons_zero]
      refine wl rfl (.bool false) _ (run_lssZ (.tmp 32) (.tmp 34) rfl (i : Nat) (os.length : Nat) rfl rfl false (decide_eq_false (by omega))) ?_
      simp only [Act.put, List.setIfInBounds_toArray, List.set_cons_succ, List.set_cons_zero]
      refine wpList_nil ?_
      go_wp2_with fail
      rw [HPQ.out]
      exact ⟨rfl, HP.out.sx.bel⟩

end Go.Proofs.Ytcjanjofjnedbaa

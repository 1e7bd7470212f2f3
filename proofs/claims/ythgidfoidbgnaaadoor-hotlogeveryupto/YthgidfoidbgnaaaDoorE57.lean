/- Layer 14: the power may go off at every step. -/
import Derived.Test.YthgidfoidbgnaaaDoorE56
namespace Go.Proofs.YthgidfoidbgnaaaDoor
open Go.RowKit Go.Maps

theorem run_sub22 {w : World} {a : Act} {o : Oper} (x : Operand) (lo hi : Option Operand) (ho : o.op = .slice 22 x lo hi none) (v v' : Value) (hv : ∃ p n c, v = .slice p n c) (hx : a.eval x = v) (l h : Option Value) (hl : lo.map a.eval = l) (hh : hi.map a.eval = h) (hr : ∀ w', (Instr.slice 22 v l h none).run Tryd.prog w' = .ok v' w') : (execOp a.eval o).run Tryd.prog w = .ok (.value v') w := by
 subst hl hh
 obtain ⟨p, n, c, rfl⟩ := hv
 simp [execOp, ho, hx, run_sliceAt_slice _ _ _ _ _ _ sl22, hr]
theorem zero33o : (Tryd.prog.info? 33).map (·.zero) = some (some (.agg (opC 0 0 (.slice none 0 0) default (.slice none 0 0)).toArray)) := by kernel_rfl
theorem ag33o : AggT 33 8 := ⟨Or.inl ⟨_, Tryd.underlying33⟩, by kernel_rfl⟩
theorem sz31o : (Tryd.prog.info? 31).map (·.size) = some 1 := by kernel_rfl
theorem opC_one {w : World} {kd N : Int} {vy : Value} {bs : List Nat} {px : Pq} {vk : Value} {ks : List Int} (o : OpI w kd N vy bs px vk ks) : ∀ v ∈ opC kd N vy px vk, v.oneCell' = true := fun v hv => by
 obtain ⟨p1, c1, e1, _⟩ := o.b w (Below.refl _ _)
 obtain ⟨p2, c2, e2, _⟩ := o.ks
 subst e1 e2
 simp [opC] at hv
 rcases hv with rfl | rfl | rfl | rfl | rfl | rfl | rfl | rfl <;> rfl
set_option maxHeartbeats 4000000 in
set_option maxRecDepth 100000 in
theorem hotlogEvery_any (w : World) (ht : Fr.TabIn w) (hz : TzIn w) (vs : Value) (L : List OpD) (hs : OpsIn w vs L) (vk : Value) (ks : List Int) (hk : IntsIn w vk ks) : Calls Tryd.prog 4 #[vs, vk] w fun e w' => e = .returned (.bool true) ∧ Below w.heap.size w w' := by
 have HM : Hid (Fr.TabIn w ∧ TzIn w ∧ OpsIn w vs L ∧ IntsIn w vk ks) := ⟨ht, hz, hs, hk⟩
 have hLb : L.length ≤ 1048576 := (by obtain ⟨_, _, _, _, h, _⟩ := hs; exact h)
 clear ht hz hs hk
 obtain ⟨PQ, HPQ⟩ := exPQ fun (e : Ending) (w' : World) => e = .returned (.bool true) ∧ Below w.heap.size w w'
 rw [← HPQ.out]
 go_enter Tryd.func4, Tryd.ntmps4
 go_upto_region 0 with fail
 refine wp_region_lit ?_
 refine wl rfl (.bool false) _ (run_asZ (.const (.bool false)) rfl (.bool false) rfl) ?_
 simp only [Act.put, aS, aC, aZ]
 refine wpList_nil ?_
 go_upto_region 1 with fail
 refine wp_region_lit ?_
 refine wpList_callW eN9 [] _ rfl rfl [] rfl ?_
 refine (shown_any w HM.out.1 HM.out.2.1).mono ?_
 rintro e W1 ⟨rfl, hb_⟩
 refine ⟨_, rfl, ?_⟩
 have H1 : Hid (Below w.heap.size w W1) := hb_
 clear hb_
 simp only [Act.put, aS, aC, aZ]
 refine wl rfl (.bool true) _ (run_asZ (.tmp 13) rfl (.bool true) rfl) ?_
 simp only [Act.put, aS, aC, aZ]
 refine wpList_nil ?_
 go_upto_region 2 with fail
 refine wp_region_lit ?_
 refine wl rfl (.bool true) _ (run_mvZ (.tmp 5) rfl (.bool true) rfl) ?_
 refine wl rfl (.bool false) _ (run_not (.tmp 14) 4 rfl true rfl) ?_
 simp only [Act.put, aS, aC, aZ]
 refine wpList_nil ?_
 by_cases hl12 : 12 < L.length
 ·go_upto_region 4 with fail
  refine wp_region_lit ?_
  refine wl rfl vs _ (run_mvZ (.tmp 0) rfl vs rfl) ?_
  refine wl rfl (.int .i64 (L.length : Nat)) _ (run_lenOp HM.out.2.2.1 (.tmp 16) rfl rfl) ?_
  refine wl rfl (.bool true) _ (run_gtrZ (.tmp 17) (.const (.int .i64 12)) rfl (L.length : Nat) 12 rfl rfl true (decide_eq_true (by omega))) ?_
  simp only [Act.put, aS, aC, aZ]
  refine wpList_nil ?_
  obtain ⟨vs2, hr_, ho_⟩ := cut_ops HM.out.2.2.1 hl12
  obtain ⟨L2, hL2⟩ : ∃ l, l = L.take 12 := ⟨_, rfl⟩
  rw [← hL2] at ho_
  have HS : Hid (OpsIn w vs2 L2) := ho_
  have HSR : Hid (∀ w', (Instr.slice 22 vs none (some (.int .i64 12)) none).run Tryd.prog w' = .ok vs2 w') := hr_
  have hL12 : L2.length ≤ 12 := (by rw [hL2, List.length_take]; omega)
  clear hr_ ho_ hL2
  go_upto_region 5 with fail
  refine wp_region_lit ?_
  refine wl rfl vs _ (run_mvZ (.tmp 0) rfl vs rfl) ?_
  refine wl rfl vs2 _ (run_sub22 (.tmp 19) none (some (.const (.int .i64 12))) rfl vs vs2 (by obtain ⟨p_, c_, e_, _⟩ := HM.out.2.2.1; exact ⟨p_, _, c_, e_⟩) rfl none _ rfl rfl HSR.out) ?_
  refine wl rfl vs2 _ (run_asZ (.tmp 20) rfl vs2 rfl) ?_
  simp only [Act.put, aS, aC, aZ]
  refine wpList_nil ?_
  go_upto_region 6 with fail
  refine wp_region_lit ?_
  refine wl rfl (.int .i64 0) _ (run_asZ (.const (.int .i64 0)) rfl (.int .i64 0) rfl) ?_
  simp only [Act.put, aS, aC, aZ]
  refine wpList_nil ?_
  go_wp2_with fail
  go_loopw [6] (fun vf W => ∃ f : Nat, vf = .int .i64 (f : Nat) ∧ f ≤ 300 ∧ Hid (Below w.heap.size w W)) (fun vf _ => 300 - (intOf vf).toNat)
  case atStart => exact ⟨0, rfl, Nat.zero_le _, H1⟩
  case round =>
   obtain ⟨f, rfl, hf, HB⟩ := hrel
   by_cases hlf : f < 300
   ·go_upto_region 7 with fail
    refine wp_region_lit ?_
    refine wl rfl (.int .i64 (f : Nat)) _ (run_mvZ (.tmp 6) rfl (.int .i64 (f : Nat)) rfl) ?_
    refine wl rfl (.bool true) _ (run_lssZ (.tmp 21) (.const (.int .i64 300)) rfl (f : Nat) 300 rfl rfl true (decide_eq_true (by omega))) ?_
    simp only [Act.put, aS, aC, aZ]
    refine wpList_nil ?_
    go_upto_region 9 with fail
    refine wp_region_lit ?_
    refine wpList_callW eN10 [.const (.int .i64 48)] _ rfl rfl [.int .i64 48] rfl ?_
    refine (begun_any HB.out HM.out.1 HM.out.2.1 48 ⟨by decide, by decide⟩).mono ?_
    rintro e W2 ⟨gs, gp, gh, gf, gm, gr, c0, rfl, hb_, hh_, hs_, hr_, ho1, ho2⟩
    refine ⟨_, rfl, ?_⟩
    have H2 : Hid (HtW w W2 c0 gp gh gf gm (newPl [1, ((48 : Nat) : Int)] [9]) 48 [] 0 ∧ Row W2 gs 38 (scells gp gh gr 0 0) ∧ Row W2 gr 60 (rcells0 1 ((48 : Nat) : Int)) ∧ Out w W2 c0 gh gf gm gs ∧ Out w W2 c0 gh gf gm gr) := ⟨hh_, hs_, hr_, ho1, ho2⟩
    clear hb_ hh_ hs_ hr_ ho1 ho2
    simp only [Act.put, aS, aC, aZ]
    refine wl rfl (ptr gs) _ (run_asZ (.tmp 25) rfl (ptr gs) rfl) ?_
    simp only [Act.put, aS, aC, aZ]
    refine wpList_nil ?_
    go_upto_region 10 with fail
    refine wp_region_lit ?_
    refine wl rfl (ptr gs) _ (run_mvZ (.tmp 7) rfl (ptr gs) rfl) ?_
    refine wl rfl (.bool false) _ (run_binOp' (.tmp 26) (.const (.pointer none)) rfl _ _ _ rfl rfl rfl (by kernel_rfl)) ?_
    simp only [Act.put, aS, aC, aZ]
    refine wpList_nil ?_
    go_upto_region 12 with fail
    refine wp_region_lit ?_
    refine wl rfl (ptr gs) _ (run_mvZ (.tmp 7) rfl (ptr gs) rfl) ?_
    refine wl rfl (ptr gs) _ (run_nil (.tmp 28) rfl ⟨gs, 0, none⟩ rfl) ?_
    refine wl rfl (.pointer (some ⟨gs, 0 + 0, none⟩)) _ (run_fieldOp' f38_0 (.tmp 29) rfl gs (0) rfl) ?_
    refine wl rfl (ptr gp) _ (run_load1 o34 (.tmp 30) rfl gs (0 + 0) rfl (ptr gp) (H2.out.2.1.at 0 _ rfl)) ?_
    simp only [Act.put, aS, aC, aZ]
    refine wl rfl (.int .i64 (f : Nat)) _ (run_mvZ (.tmp 6) rfl (.int .i64 (f : Nat)) rfl) ?_
    simp only [Act.put, aS, aC, aZ]
    refine wpList_callW eN13 [.tmp 31, .tmp 32] _ rfl rfl [(ptr gp), (.int .i64 (f : Nat))] rfl ?_
    refine (H2.out.1.fuse (f : Nat) ⟨by omega, by omega⟩).mono ?_
    rintro e W3 ⟨c2, m2, rfl, hs_, hh_⟩
    refine ⟨_, rfl, ?_⟩
    have H3 : Hid (Std w W3 gp gs gr 48 4096 0) := Std.new hh_ (H2.out.2.2.2.1.row hs_ H2.out.2.1) (H2.out.2.2.2.2.row hs_ H2.out.2.2.1) (H2.out.2.2.2.1.step hs_).1 (H2.out.2.2.2.2.step hs_).1
    clear hs_ hh_ H2
    simp only [Act.put, aS, aC, aZ]
    refine wpList_nil ?_
    go_upto_region 13 with fail
    refine wp_region_lit ?_
    refine wl rfl (.int .i64 0) _ (run_asZ (.const (.int .i64 0)) rfl (.int .i64 0) rfl) ?_
    simp only [Act.put, aS, aC, aZ]
    refine wpList_nil ?_
    go_wp2_with fail
    go_loopw [8] (fun vi W => ∃ i : Nat, vi = .int .i64 (i : Nat) ∧ i ≤ L2.length ∧ Hid (Std w W gp gs gr 48 (4096 + 20 * i) (10 * i))) (fun vi _ => L2.length - (intOf vi).toNat)
    case atStart => exact ⟨0, rfl, Nat.zero_le _, H3⟩
    case round =>
     obtain ⟨i, rfl, hi, HI⟩ := hrel
     by_cases hlt : i < L2.length
     ·go_upto_region 14 with fail
      refine wp_region_lit ?_
      refine wl rfl (.int .i64 (i : Nat)) _ (run_mvZ (.tmp 8) rfl (.int .i64 (i : Nat)) rfl) ?_
      refine wl rfl vs2 _ (run_mvZ (.tmp 0) rfl vs2 rfl) ?_
      refine wl rfl (.int .i64 (L2.length : Nat)) _ (run_lenOp HS.out (.tmp 35) rfl rfl) ?_
      refine wl rfl (.bool true) _ (run_lssZ (.tmp 34) (.tmp 36) rfl (i : Nat) (L2.length : Nat) rfl rfl true (decide_eq_true (by omega))) ?_
      simp only [Act.put, aS, aC, aZ]
      refine wpList_nil ?_
      obtain ⟨bi, ji, hx_, ho_, hc_⟩ := ix_op HS.out i hlt
      obtain ⟨o, hoo⟩ : ∃ o, o = L2.getD i default := ⟨_, rfl⟩
      rw [← hoo] at hc_ ho_
      have HX : Hid ((∀ w', (Instr.indexAt 22 vs2 (.int .i64 (i : Nat))).run Tryd.prog w' = .ok (.pointer (some ⟨bi, ji, none⟩)) w') ∧ (∀ W, Below w.heap.size w W → ∀ (j : Nat) u, (opC o.k o.n o.vy o.px o.vk)[j]? = some u → W.cell? ⟨bi, ji + j, none⟩ = some u) ∧ OpI w o.k o.n o.vy o.bs o.px o.vk o.ks) := ⟨hx_, hc_, ho_⟩
      clear hx_ hc_ ho_ hoo
      go_upto_region 16 with fail
      refine wp_region_lit ?_
      refine wl rfl vs2 _ (run_mvZ (.tmp 0) rfl vs2 rfl) ?_
      refine wl rfl (.int .i64 (i : Nat)) _ (run_mvZ (.tmp 8) rfl (.int .i64 (i : Nat)) rfl) ?_
      refine wl rfl (.pointer (some ⟨bi, ji, none⟩)) _ (run_idx (.tmp 40) (.tmp 41) rfl _ _ _ rfl rfl HX.out.1) ?_
      refine wl rfl (.agg ((opC o.k o.n o.vy o.px o.vk)).toArray) _ (run_loadA ag33 (.tmp 42) rfl bi (ji) rfl ((opC o.k o.n o.vy o.px o.vk)) rfl (HX.out.2.1 _ HI.out.below)) ?_
      simp only [Act.put, aS, aC, aZ]
      refine wl rfl (ptr wr.heap.size) _ (run_allocA (opC 0 0 (.slice none 0 0) default (.slice none 0 0)) zero33o rfl) ?_
      have hb_ := below_alloc wr (.cells (opC 0 0 (.slice none 0 0) default (.slice none 0 0)).toArray 33)
      have r_ := Row.new wr 33 (opC 0 0 (.slice none 0 0) default (.slice none 0 0))
      obtain ⟨V1, hW_⟩ : ∃ U_ : World, U_ = wr.alloc (.cells (opC 0 0 (.slice none 0 0) default (.slice none 0 0)).toArray 33) := ⟨_, rfl⟩
      obtain ⟨q, hq_⟩ : ∃ q, q = wr.heap.size := ⟨_, rfl⟩
      rw [← hW_] at hb_
      rw [← hW_, ← hq_] at r_
      rw [← hW_, ← hq_]
      have HQ : Hid (Row V1 q 33 (opC 0 0 (.slice none 0 0) default (.slice none 0 0)) ∧ Below wr.heap.size wr V1 ∧ wr.heap.size ≤ q) := ⟨r_, hb_, by omega⟩
      clear r_ hb_ hW_ hq_
      simp only [Act.put, aS, aC, aZ]
      refine wlS rfl rfl _ (run_storeA ag33o (.tmp 9) (.tmp 43) rfl q 33 rfl (opC o.k o.n o.vy o.px o.vk) _ rfl rfl HQ.out.1 rfl (opC_one HX.out.2.2)) ?_
      have hb_ := (Ch.setRow (S := (· = q)) (Ch.refl _ V1) (Or.inl rfl) (opC o.k o.n o.vy o.px o.vk).toArray)
      have r_ := HQ.out.1.setRow (opC o.k o.n o.vy o.px o.vk)
      obtain ⟨V2, hW_⟩ : ∃ U_ : World, U_ = V1.setRow q (opC o.k o.n o.vy o.px o.vk).toArray := ⟨_, rfl⟩
      rw [← hW_] at hb_ r_ ⊢
      replace HQ : Hid (Row V2 q 33 (opC o.k o.n o.vy o.px o.vk) ∧ Below wr.heap.size wr V2 ∧ wr.heap.size ≤ q) := ⟨r_, HQ.out.2.1.trans (hb_.below HQ.out.2.1.size fun k hk e => by have := HQ.out.2.2; omega), HQ.out.2.2⟩
      clear r_ hb_ hW_
      refine wpList_nil ?_
      go_upto_region 17 with fail
      refine wp_region_lit ?_
      refine wl rfl vk _ (run_mvZ (.tmp 1) rfl vk rfl) ?_
      refine wl rfl (.pointer (some ⟨q, 0 + 7, none⟩)) _ (run_fieldOp' f33_4 (.tmp 9) rfl q (0) rfl) ?_
      simp only [Act.put, aS, aC, aZ]
      refine wlS rfl rfl _ (run_putRow (t := 31) sz31o (.tmp 45) (.tmp 44) rfl q (0 + 7) 33 _ rfl vk rfl (by obtain ⟨_, _, e_, _⟩ := HM.out.2.2.2; subst e_; exact ⟨rfl, rfl⟩) HQ.out.1 (by decide : 0 + 7 < 8)) ?_
      have hb_ := (Ch.refl (· = q) V2).setCell (Or.inl rfl) (0 + 7) vk
      have r_ := HQ.out.1.setCell (0 + 7) vk
      obtain ⟨V3, hW_⟩ : ∃ U_ : World, U_ = V2.setCell ⟨q, 0 + 7, none⟩ vk := ⟨_, rfl⟩
      rw [← hW_] at hb_ r_ ⊢
      replace HQ : Hid (Row V3 q 33 (opC o.k o.n o.vy o.px vk) ∧ Below wr.heap.size wr V3 ∧ wr.heap.size ≤ q) := ⟨r_, HQ.out.2.1.trans (hb_.below HQ.out.2.1.size fun k hk e => by have := HQ.out.2.2; omega), HQ.out.2.2⟩
      have HJ : Hid (Std w V3 gp gs gr 48 (4096 + 20 * i) (10 * i)) := HI.out.bel HQ.out.2.1
      have HO : Hid (OpI w o.k o.n o.vy o.bs o.px vk ks) := ⟨HX.out.2.2.hk, HX.out.2.2.hn, HX.out.2.2.ok, HX.out.2.2.b, HX.out.2.2.l, HM.out.2.2.2⟩
      clear r_ hb_ hW_ HI
      refine wpList_nil ?_
      obtain ⟨kk, hkk⟩ : ∃ kk, whichOf o.k 10 = kk := ⟨_, rfl⟩
      have HKK : Hid (whichOf o.k 10 = kk) := hkk
      have hk10 : kk < 10 := (by rw [← hkk]; exact whichOf_lt o.k 10 (by decide))
      clear hkk
      by_cases hk7 : kk = 7
      ·go_upto_region 18 with fail
       refine wp_region_lit ?_
       refine wl rfl (.pointer (some ⟨q, 0 + 0, none⟩)) _ (run_fieldOp' f33_0 (.tmp 9) rfl q (0) rfl) ?_
       refine wl rfl (.int .i64 o.k) _ (run_load1 o3 (.tmp 46) rfl q (0 + 0) rfl (.int .i64 o.k) (HQ.out.1.at 0 _ rfl)) ?_
       simp only [Act.put, aS, aC, aZ]
       refine wpList_callW eN11 [.tmp 47, .const (.int .i64 10)] _ rfl rfl [(.int .i64 o.k), (.int .i64 10)] rfl ?_
       refine (which_any V3 o.k 10 (by decide) HX.out.2.2.hk.1 HX.out.2.2.hk.2).mono ?_
       rintro e X_ ⟨he_, rfl⟩
       rw [HKK.out] at he_
       subst he_
       refine ⟨_, rfl, ?_⟩
       simp only [Act.put, aS, aC, aZ]
       refine wl rfl (.bool true) _ (run_eqZ (.tmp 48) (.const (.int .i64 7)) rfl (kk : Nat) 7 rfl rfl true (decide_eq_true (by omega))) ?_
       refine wl rfl (.bool true) _ (run_mvZ (.tmp 49) rfl (.bool true) rfl) ?_
       simp only [Act.put, aS, aC, aZ]
       refine wpList_skip (by kernel_rfl) ?_
       simp only [Act.put, aS, aC, aZ]
       refine wpList_skip (by kernel_rfl) ?_
       simp only [Act.put, aS, aC, aZ]
       refine wpList_skip (by kernel_rfl) ?_
       simp only [Act.put, aS, aC, aZ]
       refine wpList_skip (by kernel_rfl) ?_
       simp only [Act.put, aS, aC, aZ]
       refine wl rfl (.bool true) _ (run_pickZ (.tmp 50) (.const (.bool true)) (.tmp 54) rfl true (.bool true) rfl rfl) ?_
       simp only [Act.put, aS, aC, aZ]
       refine wpList_nil ?_
       go_wp2_with fail
       refine ⟨⟨i + 1, by go_num, by omega, HJ.out.mono (by omega) (by omega)⟩, ?_⟩
       simp [intOf]; omega
      by_cases hk8 : kk = 8
      ·go_upto_region 18 with fail
       refine wp_region_lit ?_
       refine wl rfl (.pointer (some ⟨q, 0 + 0, none⟩)) _ (run_fieldOp' f33_0 (.tmp 9) rfl q (0) rfl) ?_
       refine wl rfl (.int .i64 o.k) _ (run_load1 o3 (.tmp 46) rfl q (0 + 0) rfl (.int .i64 o.k) (HQ.out.1.at 0 _ rfl)) ?_
       simp only [Act.put, aS, aC, aZ]
       refine wpList_callW eN11 [.tmp 47, .const (.int .i64 10)] _ rfl rfl [(.int .i64 o.k), (.int .i64 10)] rfl ?_
       refine (which_any V3 o.k 10 (by decide) HX.out.2.2.hk.1 HX.out.2.2.hk.2).mono ?_
       rintro e X_ ⟨he_, rfl⟩
       rw [HKK.out] at he_
       subst he_
       refine ⟨_, rfl, ?_⟩
       simp only [Act.put, aS, aC, aZ]
       refine wl rfl (.bool false) _ (run_eqZ (.tmp 48) (.const (.int .i64 7)) rfl (kk : Nat) 7 rfl rfl false (decide_eq_false (by omega))) ?_
       refine wl rfl (.bool false) _ (run_mvZ (.tmp 49) rfl (.bool false) rfl) ?_
       refine wl (by kernel_rfl) (.pointer (some ⟨q, 0 + 0, none⟩)) _ (run_fieldOp' f33_0 (.tmp 9) rfl q (0) rfl) ?_
       refine wl (by kernel_rfl) (.int .i64 o.k) _ (run_load1 o3 (.tmp 51) rfl q (0 + 0) rfl (.int .i64 o.k) (HQ.out.1.at 0 _ rfl)) ?_
       simp only [Act.put, aS, aC, aZ]
       refine wpList_callW eN11 [.tmp 52, .const (.int .i64 10)] _ (by kernel_rfl) rfl [(.int .i64 o.k), (.int .i64 10)] rfl ?_
       refine (which_any V3 o.k 10 (by decide) HX.out.2.2.hk.1 HX.out.2.2.hk.2).mono ?_
       rintro e X_ ⟨he_, rfl⟩
       rw [HKK.out] at he_
       subst he_
       refine ⟨_, rfl, ?_⟩
       simp only [Act.put, aS, aC, aZ]
       refine wl (by kernel_rfl) (.bool true) _ (run_eqZ (.tmp 53) (.const (.int .i64 8)) rfl (kk : Nat) 8 rfl rfl true (decide_eq_true (by omega))) ?_
       refine wl rfl (.bool true) _ (run_pickZ (.tmp 50) (.const (.bool true)) (.tmp 54) rfl false (.bool true) rfl rfl) ?_
       simp only [Act.put, aS, aC, aZ]
       refine wpList_nil ?_
       go_wp2_with fail
       refine ⟨⟨i + 1, by go_num, by omega, HJ.out.mono (by omega) (by omega)⟩, ?_⟩
       simp [intOf]; omega
      go_upto_region 18 with fail
      refine wp_region_lit ?_
      refine wl rfl (.pointer (some ⟨q, 0 + 0, none⟩)) _ (run_fieldOp' f33_0 (.tmp 9) rfl q (0) rfl) ?_
      refine wl rfl (.int .i64 o.k) _ (run_load1 o3 (.tmp 46) rfl q (0 + 0) rfl (.int .i64 o.k) (HQ.out.1.at 0 _ rfl)) ?_
      simp only [Act.put, aS, aC, aZ]
      refine wpList_callW eN11 [.tmp 47, .const (.int .i64 10)] _ rfl rfl [(.int .i64 o.k), (.int .i64 10)] rfl ?_
      refine (which_any V3 o.k 10 (by decide) HX.out.2.2.hk.1 HX.out.2.2.hk.2).mono ?_
      rintro e X_ ⟨he_, rfl⟩
      rw [HKK.out] at he_
      subst he_
      refine ⟨_, rfl, ?_⟩
      simp only [Act.put, aS, aC, aZ]
      refine wl rfl (.bool false) _ (run_eqZ (.tmp 48) (.const (.int .i64 7)) rfl (kk : Nat) 7 rfl rfl false (decide_eq_false (by omega))) ?_
      refine wl rfl (.bool false) _ (run_mvZ (.tmp 49) rfl (.bool false) rfl) ?_
      refine wl (by kernel_rfl) (.pointer (some ⟨q, 0 + 0, none⟩)) _ (run_fieldOp' f33_0 (.tmp 9) rfl q (0) rfl) ?_
      refine wl (by kernel_rfl) (.int .i64 o.k) _ (run_load1 o3 (.tmp 51) rfl q (0 + 0) rfl (.int .i64 o.k) (HQ.out.1.at 0 _ rfl)) ?_
      simp only [Act.put, aS, aC, aZ]
      refine wpList_callW eN11 [.tmp 52, .const (.int .i64 10)] _ (by kernel_rfl) rfl [(.int .i64 o.k), (.int .i64 10)] rfl ?_
      refine (which_any V3 o.k 10 (by decide) HX.out.2.2.hk.1 HX.out.2.2.hk.2).mono ?_
      rintro e X_ ⟨he_, rfl⟩
      rw [HKK.out] at he_
      subst he_
      refine ⟨_, rfl, ?_⟩
      simp only [Act.put, aS, aC, aZ]
      refine wl (by kernel_rfl) (.bool false) _ (run_eqZ (.tmp 53) (.const (.int .i64 8)) rfl (kk : Nat) 8 rfl rfl false (decide_eq_false (by omega))) ?_
      refine wl rfl (.bool false) _ (run_pickZ (.tmp 50) (.const (.bool true)) (.tmp 54) rfl false (.bool false) rfl rfl) ?_
      simp only [Act.put, aS, aC, aZ]
      refine wpList_nil ?_
      go_upto_region 19 with fail
      refine wp_region_lit ?_
      refine wl rfl (ptr gs) _ (run_mvZ (.tmp 7) rfl (ptr gs) rfl) ?_
      refine wl rfl (.agg ((opC o.k o.n o.vy o.px vk)).toArray) _ (run_loadA ag33 (.tmp 9) rfl q (0) rfl ((opC o.k o.n o.vy o.px vk)) rfl (rows_one HQ.out.1)) ?_
      simp only [Act.put, aS, aC, aZ]
      refine wpList_callW eN12 [.tmp 56, .tmp 57] _ rfl rfl [(ptr gs), (.agg ((opC o.k o.n o.vy o.px vk)).toArray)] rfl ?_
      refine (sdo_any HJ.out (by omega) (by omega) o.k o.n o.vy o.bs o.px vk ks HO.out).mono ?_
      rintro e V4 ⟨rfl, hs_⟩
      refine ⟨_, rfl, ?_⟩
      have HK : Hid (Std w V4 gp gs gr 48 (4096 + 20 * (i + 1)) (10 * (i + 1))) := hs_.mono (by omega) (by omega)
      clear hs_
      simp only [Act.put, aS, aC, aZ]
      refine wl rfl (.bool true) _ (run_asZ (.tmp 58) rfl (.bool true) rfl) ?_
      simp only [Act.put, aS, aC, aZ]
      refine wpList_nil ?_
      go_upto_region 20 with fail
      refine wp_region_lit ?_
      refine wl rfl (.bool true) _ (run_mvZ (.tmp 10) rfl (.bool true) rfl) ?_
      refine wl rfl (.bool false) _ (run_not (.tmp 59) 4 rfl true rfl) ?_
      simp only [Act.put, aS, aC, aZ]
      refine wpList_nil ?_
      go_wp2_with fail
      refine ⟨⟨i + 1, by go_num, by omega, HK⟩, ?_⟩
      simp [intOf]; omega
     ·go_upto_region 14 with fail
      refine wp_region_lit ?_
      refine wl rfl (.int .i64 (i : Nat)) _ (run_mvZ (.tmp 8) rfl (.int .i64 (i : Nat)) rfl) ?_
      refine wl rfl vs2 _ (run_mvZ (.tmp 0) rfl vs2 rfl) ?_
      refine wl rfl (.int .i64 (L2.length : Nat)) _ (run_lenOp HS.out (.tmp 35) rfl rfl) ?_
      refine wl rfl (.bool false) _ (run_lssZ (.tmp 34) (.tmp 36) rfl (i : Nat) (L2.length : Nat) rfl rfl false (decide_eq_false (by omega))) ?_
      simp only [Act.put, aS, aC, aZ]
      refine wpList_nil ?_
      obtain ⟨c, gh, gf, gm, m, us, vu, vb, bl, ever, dims, h1_, h2_, _, _, hdm, _⟩ := HI.out
      have HE : Hid (HtW w wr c gp gh gf gm m 48 us (4096 + 20 * i) ∧ Sd w wr c gp gh gf gm gs gr 48 us vu vb bl ever dims) := ⟨h1_, h2_⟩
      clear h1_ h2_ HI
      go_upto_region 22 with fail
      refine wp_region_lit ?_
      refine wl rfl (ptr gs) _ (run_mvZ (.tmp 7) rfl (ptr gs) rfl) ?_
      refine wl rfl (ptr gs) _ (run_nil (.tmp 61) rfl ⟨gs, 0, none⟩ rfl) ?_
      refine wl rfl (.pointer (some ⟨gs, 0 + 4, none⟩)) _ (run_fieldOp' f38_4 (.tmp 62) rfl gs (0) rfl) ?_
      refine wl rfl (.int .i64 (dims : Nat)) _ (run_load1 o3 (.tmp 63) rfl gs (0 + 4) rfl (.int .i64 (dims : Nat)) (HE.out.2.row.at 4 _ rfl)) ?_
      simp only [Act.put, aS, aC, aZ]
      refine wl rfl (.int .i64 (dims : Nat)) _ (run_asZ (.tmp 64) rfl (.int .i64 (dims : Nat)) rfl) ?_
      simp only [Act.put, aS, aC, aZ]
      refine wpList_nil ?_
      go_upto_region 23 with fail
      refine wp_region_lit ?_
      refine wl rfl (ptr gs) _ (run_mvZ (.tmp 7) rfl (ptr gs) rfl) ?_
      refine wl rfl (ptr gs) _ (run_nil (.tmp 65) rfl ⟨gs, 0, none⟩ rfl) ?_
      refine wl rfl (.pointer (some ⟨gs, 0 + 0, none⟩)) _ (run_fieldOp' f38_0 (.tmp 66) rfl gs (0) rfl) ?_
      refine wl rfl (ptr gp) _ (run_load1 o34 (.tmp 67) rfl gs (0 + 0) rfl (ptr gp) (HE.out.2.row.at 0 _ rfl)) ?_
      simp only [Act.put, aS, aC, aZ]
      refine wl rfl vk _ (run_mvZ (.tmp 1) rfl vk rfl) ?_
      simp only [Act.put, aS, aC, aZ]
      refine wpList_callW eN15 [.tmp 68, .tmp 69] _ rfl rfl [(ptr gp), vk] rfl ?_
      refine (HE.out.1.pl.boot (by omega) vk ks (keepIn HE.out.1.pl HM.out.2.2.2)).mono ?_
      rintro e W5 ⟨rfl, c2, hs_, hp_⟩
      refine ⟨_, rfl, ?_⟩
      have HF : Hid (Cl w W5 c2 gp (m.boot ks) 48 us (4096 + 20 * i) ∧ Sd w W5 c2 gp gh gf gm gs gr 48 us vu vb bl ever dims) := ⟨HE.out.1.clB ks hp_, HE.out.2.sq (hs_.sq gf gm)⟩
      clear hs_ hp_ HE
      simp only [Act.put, aS, aC, aZ]
      refine wpList_nil ?_
      go_upto_region 24 with fail
      refine wp_region_lit ?_
      refine wl rfl (ptr gs) _ (run_mvZ (.tmp 7) rfl (ptr gs) rfl) ?_
      simp only [Act.put, aS, aC, aZ]
      refine wpList_callW eN16 [.tmp 71] _ rfl rfl [(ptr gs)] rfl ?_
      refine (opened_any HF.out.1 HF.out.2 (by omega) (by omega)).mono ?_
      rintro e W6 ⟨rfl, gh2, gf2, gm2, hh_, hd_⟩
      refine ⟨_, rfl, ?_⟩
      have HG : Hid (Below w.heap.size w W6) := hh_.pl.below
      clear hh_ hd_
      simp only [Act.put, aS, aC, aZ]
      refine wl rfl (.bool true) _ (run_asZ (.tmp 72) rfl (.bool true) rfl) ?_
      simp only [Act.put, aS, aC, aZ]
      refine wpList_nil ?_
      go_upto_region 25 with fail
      refine wp_region_lit ?_
      refine wl rfl (.bool true) _ (run_mvZ (.tmp 12) rfl (.bool true) rfl) ?_
      refine wl rfl (.bool false) _ (run_not (.tmp 73) 4 rfl true rfl) ?_
      simp only [Act.put, aS, aC, aZ]
      refine wpList_nil ?_
      by_cases hd0 : dims = 0
      ·go_upto_region 27 with fail
       refine wp_region_lit ?_
       refine wl rfl (.int .i64 (dims : Nat)) _ (run_mvZ (.tmp 11) rfl (.int .i64 (dims : Nat)) rfl) ?_
       refine wl rfl (.bool true) _ (run_eqZ (.tmp 75) (.const (.int .i64 0)) rfl (dims : Nat) 0 rfl rfl true (decide_eq_true (by omega))) ?_
       simp only [Act.put, aS, aC, aZ]
       refine wpList_nil ?_
       go_upto_region 28 with fail
       refine wp_region_lit ?_
       refine wl rfl (.bool true) _ (run_mvZ (.tmp 5) rfl (.bool true) rfl) ?_
       refine wl rfl (.bool true) _ (run_asZ (.tmp 77) rfl (.bool true) rfl) ?_
       simp only [Act.put, aS, aC, aZ]
       refine wpList_nil ?_
       go_wp2_with fail
       rw [HPQ.out]
       exact ⟨rfl, HG.out⟩
      ·go_upto_region 27 with fail
       refine wp_region_lit ?_
       refine wl rfl (.int .i64 (dims : Nat)) _ (run_mvZ (.tmp 11) rfl (.int .i64 (dims : Nat)) rfl) ?_
       refine wl rfl (.bool false) _ (run_eqZ (.tmp 75) (.const (.int .i64 0)) rfl (dims : Nat) 0 rfl rfl false (decide_eq_false (by omega))) ?_
       simp only [Act.put, aS, aC, aZ]
       refine wpList_nil ?_
       go_wp2_with fail
       refine ⟨⟨f + 1, by go_num, by omega, HG⟩, ?_⟩
       simp [intOf]; omega
   ·go_upto_region 7 with fail
    refine wp_region_lit ?_
    refine wl rfl (.int .i64 (f : Nat)) _ (run_mvZ (.tmp 6) rfl (.int .i64 (f : Nat)) rfl) ?_
    refine wl rfl (.bool false) _ (run_lssZ (.tmp 21) (.const (.int .i64 300)) rfl (f : Nat) 300 rfl rfl false (decide_eq_false (by omega))) ?_
    simp only [Act.put, aS, aC, aZ]
    refine wpList_nil ?_
    go_upto_region 29 with fail
    refine wp_region_lit ?_
    refine wl rfl (.bool true) _ (run_mvZ (.tmp 5) rfl (.bool true) rfl) ?_
    refine wl rfl (.bool true) _ (run_asZ (.tmp 78) rfl (.bool true) rfl) ?_
    simp only [Act.put, aS, aC, aZ]
    refine wpList_nil ?_
    go_wp2_with fail
    rw [HPQ.out]
    exact ⟨rfl, HB.out⟩
 ·go_upto_region 4 with fail
  refine wp_region_lit ?_
  refine wl rfl vs _ (run_mvZ (.tmp 0) rfl vs rfl) ?_
  refine wl rfl (.int .i64 (L.length : Nat)) _ (run_lenOp HM.out.2.2.1 (.tmp 16) rfl rfl) ?_
  refine wl rfl (.bool false) _ (run_gtrZ (.tmp 17) (.const (.int .i64 12)) rfl (L.length : Nat) 12 rfl rfl false (decide_eq_false (by omega))) ?_
  simp only [Act.put, aS, aC, aZ]
  refine wpList_nil ?_
  obtain ⟨vs2, hvs⟩ : ∃ v, v = vs := ⟨_, rfl⟩
  obtain ⟨L2, hL2⟩ : ∃ l, l = L := ⟨_, rfl⟩
  have HS : Hid (OpsIn w vs2 L2) := (by rw [hvs, hL2]; exact HM.out.2.2.1)
  have hL12 : L2.length ≤ 12 := (by rw [hL2]; omega)
  rw [← hvs]
  clear hvs hL2
  go_upto_region 6 with fail
  refine wp_region_lit ?_
  refine wl rfl (.int .i64 0) _ (run_asZ (.const (.int .i64 0)) rfl (.int .i64 0) rfl) ?_
  simp only [Act.put, aS, aC, aZ]
  refine wpList_nil ?_
  go_wp2_with fail
  go_loopw [6] (fun vf W => ∃ f : Nat, vf = .int .i64 (f : Nat) ∧ f ≤ 300 ∧ Hid (Below w.heap.size w W)) (fun vf _ => 300 - (intOf vf).toNat)
  case atStart => exact ⟨0, rfl, Nat.zero_le _, H1⟩
  case round =>
   obtain ⟨f, rfl, hf, HB⟩ := hrel
   by_cases hlf : f < 300
   ·go_upto_region 7 with fail
    refine wp_region_lit ?_
    refine wl rfl (.int .i64 (f : Nat)) _ (run_mvZ (.tmp 6) rfl (.int .i64 (f : Nat)) rfl) ?_
    refine wl rfl (.bool true) _ (run_lssZ (.tmp 21) (.const (.int .i64 300)) rfl (f : Nat) 300 rfl rfl true (decide_eq_true (by omega))) ?_
    simp only [Act.put, aS, aC, aZ]
    refine wpList_nil ?_
    go_upto_region 9 with fail
    refine wp_region_lit ?_
    refine wpList_callW eN10 [.const (.int .i64 48)] _ rfl rfl [.int .i64 48] rfl ?_
    refine (begun_any HB.out HM.out.1 HM.out.2.1 48 ⟨by decide, by decide⟩).mono ?_
    rintro e W2 ⟨gs, gp, gh, gf, gm, gr, c0, rfl, hb_, hh_, hs_, hr_, ho1, ho2⟩
    refine ⟨_, rfl, ?_⟩
    have H2 : Hid (HtW w W2 c0 gp gh gf gm (newPl [1, ((48 : Nat) : Int)] [9]) 48 [] 0 ∧ Row W2 gs 38 (scells gp gh gr 0 0) ∧ Row W2 gr 60 (rcells0 1 ((48 : Nat) : Int)) ∧ Out w W2 c0 gh gf gm gs ∧ Out w W2 c0 gh gf gm gr) := ⟨hh_, hs_, hr_, ho1, ho2⟩
    clear hb_ hh_ hs_ hr_ ho1 ho2
    simp only [Act.put, aS, aC, aZ]
    refine wl rfl (ptr gs) _ (run_asZ (.tmp 25) rfl (ptr gs) rfl) ?_
    simp only [Act.put, aS, aC, aZ]
    refine wpList_nil ?_
    go_upto_region 10 with fail
    refine wp_region_lit ?_
    refine wl rfl (ptr gs) _ (run_mvZ (.tmp 7) rfl (ptr gs) rfl) ?_
    refine wl rfl (.bool false) _ (run_binOp' (.tmp 26) (.const (.pointer none)) rfl _ _ _ rfl rfl rfl (by kernel_rfl)) ?_
    simp only [Act.put, aS, aC, aZ]
    refine wpList_nil ?_
    go_upto_region 12 with fail
    refine wp_region_lit ?_
    refine wl rfl (ptr gs) _ (run_mvZ (.tmp 7) rfl (ptr gs) rfl) ?_
    refine wl rfl (ptr gs) _ (run_nil (.tmp 28) rfl ⟨gs, 0, none⟩ rfl) ?_
    refine wl rfl (.pointer (some ⟨gs, 0 + 0, none⟩)) _ (run_fieldOp' f38_0 (.tmp 29) rfl gs (0) rfl) ?_
    refine wl rfl (ptr gp) _ (run_load1 o34 (.tmp 30) rfl gs (0 + 0) rfl (ptr gp) (H2.out.2.1.at 0 _ rfl)) ?_
    simp only [Act.put, aS, aC, aZ]
    refine wl rfl (.int .i64 (f : Nat)) _ (run_mvZ (.tmp 6) rfl (.int .i64 (f : Nat)) rfl) ?_
    simp only [Act.put, aS, aC, aZ]
    refine wpList_callW eN13 [.tmp 31, .tmp 32] _ rfl rfl [(ptr gp), (.int .i64 (f : Nat))] rfl ?_
    refine (H2.out.1.fuse (f : Nat) ⟨by omega, by omega⟩).mono ?_
    rintro e W3 ⟨c2, m2, rfl, hs_, hh_⟩
    refine ⟨_, rfl, ?_⟩
    have H3 : Hid (Std w W3 gp gs gr 48 4096 0) := Std.new hh_ (H2.out.2.2.2.1.row hs_ H2.out.2.1) (H2.out.2.2.2.2.row hs_ H2.out.2.2.1) (H2.out.2.2.2.1.step hs_).1 (H2.out.2.2.2.2.step hs_).1
    clear hs_ hh_ H2
    simp only [Act.put, aS, aC, aZ]
    refine wpList_nil ?_
    go_upto_region 13 with fail
    refine wp_region_lit ?_
    refine wl rfl (.int .i64 0) _ (run_asZ (.const (.int .i64 0)) rfl (.int .i64 0) rfl) ?_
    simp only [Act.put, aS, aC, aZ]
    refine wpList_nil ?_
    go_wp2_with fail
    go_loopw [8] (fun vi W => ∃ i : Nat, vi = .int .i64 (i : Nat) ∧ i ≤ L2.length ∧ Hid (Std w W gp gs gr 48 (4096 + 20 * i) (10 * i))) (fun vi _ => L2.length - (intOf vi).toNat)
    case atStart => exact ⟨0, rfl, Nat.zero_le _, H3⟩
    case round =>
     obtain ⟨i, rfl, hi, HI⟩ := hrel
     by_cases hlt : i < L2.length
     ·go_upto_region 14 with fail
      refine wp_region_lit ?_
      refine wl rfl (.int .i64 (i : Nat)) _ (run_mvZ (.tmp 8) rfl (.int .i64 (i : Nat)) rfl) ?_
      refine wl rfl vs2 _ (run_mvZ (.tmp 0) rfl vs2 rfl) ?_
      refine wl rfl (.int .i64 (L2.length : Nat)) _ (run_lenOp HS.out (.tmp 35) rfl rfl) ?_
      refine wl rfl (.bool true) _ (run_lssZ (.tmp 34) (.tmp 36) rfl (i : Nat) (L2.length : Nat) rfl rfl true (decide_eq_true (by omega))) ?_
      simp only [Act.put, aS, aC, aZ]
      refine wpList_nil ?_
      obtain ⟨bi, ji, hx_, ho_, hc_⟩ := ix_op HS.out i hlt
      obtain ⟨o, hoo⟩ : ∃ o, o = L2.getD i default := ⟨_, rfl⟩
      rw [← hoo] at hc_ ho_
      have HX : Hid ((∀ w', (Instr.indexAt 22 vs2 (.int .i64 (i : Nat))).run Tryd.prog w' = .ok (.pointer (some ⟨bi, ji, none⟩)) w') ∧ (∀ W, Below w.heap.size w W → ∀ (j : Nat) u, (opC o.k o.n o.vy o.px o.vk)[j]? = some u → W.cell? ⟨bi, ji + j, none⟩ = some u) ∧ OpI w o.k o.n o.vy o.bs o.px o.vk o.ks) := ⟨hx_, hc_, ho_⟩
      clear hx_ hc_ ho_ hoo
      go_upto_region 16 with fail
      refine wp_region_lit ?_
      refine wl rfl vs2 _ (run_mvZ (.tmp 0) rfl vs2 rfl) ?_
      refine wl rfl (.int .i64 (i : Nat)) _ (run_mvZ (.tmp 8) rfl (.int .i64 (i : Nat)) rfl) ?_
      refine wl rfl (.pointer (some ⟨bi, ji, none⟩)) _ (run_idx (.tmp 40) (.tmp 41) rfl _ _ _ rfl rfl HX.out.1) ?_
      refine wl rfl (.agg ((opC o.k o.n o.vy o.px o.vk)).toArray) _ (run_loadA ag33 (.tmp 42) rfl bi (ji) rfl ((opC o.k o.n o.vy o.px o.vk)) rfl (HX.out.2.1 _ HI.out.below)) ?_
      simp only [Act.put, aS, aC, aZ]
      refine wl rfl (ptr wr.heap.size) _ (run_allocA (opC 0 0 (.slice none 0 0) default (.slice none 0 0)) zero33o rfl) ?_
      have hb_ := below_alloc wr (.cells (opC 0 0 (.slice none 0 0) default (.slice none 0 0)).toArray 33)
      have r_ := Row.new wr 33 (opC 0 0 (.slice none 0 0) default (.slice none 0 0))
      obtain ⟨V1, hW_⟩ : ∃ U_ : World, U_ = wr.alloc (.cells (opC 0 0 (.slice none 0 0) default (.slice none 0 0)).toArray 33) := ⟨_, rfl⟩
      obtain ⟨q, hq_⟩ : ∃ q, q = wr.heap.size := ⟨_, rfl⟩
      rw [← hW_] at hb_
      rw [← hW_, ← hq_] at r_
      rw [← hW_, ← hq_]
      have HQ : Hid (Row V1 q 33 (opC 0 0 (.slice none 0 0) default (.slice none 0 0)) ∧ Below wr.heap.size wr V1 ∧ wr.heap.size ≤ q) := ⟨r_, hb_, by omega⟩
      clear r_ hb_ hW_ hq_
      simp only [Act.put, aS, aC, aZ]
      refine wlS rfl rfl _ (run_storeA ag33o (.tmp 9) (.tmp 43) rfl q 33 rfl (opC o.k o.n o.vy o.px o.vk) _ rfl rfl HQ.out.1 rfl (opC_one HX.out.2.2)) ?_
      have hb_ := (Ch.setRow (S := (· = q)) (Ch.refl _ V1) (Or.inl rfl) (opC o.k o.n o.vy o.px o.vk).toArray)
      have r_ := HQ.out.1.setRow (opC o.k o.n o.vy o.px o.vk)
      obtain ⟨V2, hW_⟩ : ∃ U_ : World, U_ = V1.setRow q (opC o.k o.n o.vy o.px o.vk).toArray := ⟨_, rfl⟩
      rw [← hW_] at hb_ r_ ⊢
      replace HQ : Hid (Row V2 q 33 (opC o.k o.n o.vy o.px o.vk) ∧ Below wr.heap.size wr V2 ∧ wr.heap.size ≤ q) := ⟨r_, HQ.out.2.1.trans (hb_.below HQ.out.2.1.size fun k hk e => by have := HQ.out.2.2; omega), HQ.out.2.2⟩
      clear r_ hb_ hW_
      refine wpList_nil ?_
      go_upto_region 17 with fail
      refine wp_region_lit ?_
      refine wl rfl vk _ (run_mvZ (.tmp 1) rfl vk rfl) ?_
      refine wl rfl (.pointer (some ⟨q, 0 + 7, none⟩)) _ (run_fieldOp' f33_4 (.tmp 9) rfl q (0) rfl) ?_
      simp only [Act.put, aS, aC, aZ]
      refine wlS rfl rfl _ (run_putRow (t := 31) sz31o (.tmp 45) (.tmp 44) rfl q (0 + 7) 33 _ rfl vk rfl (by obtain ⟨_, _, e_, _⟩ := HM.out.2.2.2; subst e_; exact ⟨rfl, rfl⟩) HQ.out.1 (by decide : 0 + 7 < 8)) ?_
      have hb_ := (Ch.refl (· = q) V2).setCell (Or.inl rfl) (0 + 7) vk
      have r_ := HQ.out.1.setCell (0 + 7) vk
      obtain ⟨V3, hW_⟩ : ∃ U_ : World, U_ = V2.setCell ⟨q, 0 + 7, none⟩ vk := ⟨_, rfl⟩
      rw [← hW_] at hb_ r_ ⊢
      replace HQ : Hid (Row V3 q 33 (opC o.k o.n o.vy o.px vk) ∧ Below wr.heap.size wr V3 ∧ wr.heap.size ≤ q) := ⟨r_, HQ.out.2.1.trans (hb_.below HQ.out.2.1.size fun k hk e => by have := HQ.out.2.2; omega), HQ.out.2.2⟩
      have HJ : Hid (Std w V3 gp gs gr 48 (4096 + 20 * i) (10 * i)) := HI.out.bel HQ.out.2.1
      have HO : Hid (OpI w o.k o.n o.vy o.bs o.px vk ks) := ⟨HX.out.2.2.hk, HX.out.2.2.hn, HX.out.2.2.ok, HX.out.2.2.b, HX.out.2.2.l, HM.out.2.2.2⟩
      clear r_ hb_ hW_ HI
      refine wpList_nil ?_
      obtain ⟨kk, hkk⟩ : ∃ kk, whichOf o.k 10 = kk := ⟨_, rfl⟩
      have HKK : Hid (whichOf o.k 10 = kk) := hkk
      have hk10 : kk < 10 := (by rw [← hkk]; exact whichOf_lt o.k 10 (by decide))
      clear hkk
      by_cases hk7 : kk = 7
      ·go_upto_region 18 with fail
       refine wp_region_lit ?_
       refine wl rfl (.pointer (some ⟨q, 0 + 0, none⟩)) _ (run_fieldOp' f33_0 (.tmp 9) rfl q (0) rfl) ?_
       refine wl rfl (.int .i64 o.k) _ (run_load1 o3 (.tmp 46) rfl q (0 + 0) rfl (.int .i64 o.k) (HQ.out.1.at 0 _ rfl)) ?_
       simp only [Act.put, aS, aC, aZ]
       refine wpList_callW eN11 [.tmp 47, .const (.int .i64 10)] _ rfl rfl [(.int .i64 o.k), (.int .i64 10)] rfl ?_
       refine (which_any V3 o.k 10 (by decide) HX.out.2.2.hk.1 HX.out.2.2.hk.2).mono ?_
       rintro e X_ ⟨he_, rfl⟩
       rw [HKK.out] at he_
       subst he_
       refine ⟨_, rfl, ?_⟩
       simp only [Act.put, aS, aC, aZ]
       refine wl rfl (.bool true) _ (run_eqZ (.tmp 48) (.const (.int .i64 7)) rfl (kk : Nat) 7 rfl rfl true (decide_eq_true (by omega))) ?_
       refine wl rfl (.bool true) _ (run_mvZ (.tmp 49) rfl (.bool true) rfl) ?_
       simp only [Act.put, aS, aC, aZ]
       refine wpList_skip (by kernel_rfl) ?_
       simp only [Act.put, aS, aC, aZ]
       refine wpList_skip (by kernel_rfl) ?_
       simp only [Act.put, aS, aC, aZ]
       refine wpList_skip (by kernel_rfl) ?_
       simp only [Act.put, aS, aC, aZ]
       refine wpList_skip (by kernel_rfl) ?_
       simp only [Act.put, aS, aC, aZ]
       refine wl rfl (.bool true) _ (run_pickZ (.tmp 50) (.const (.bool true)) (.tmp 54) rfl true (.bool true) rfl rfl) ?_
       simp only [Act.put, aS, aC, aZ]
       refine wpList_nil ?_
       go_wp2_with fail
       refine ⟨⟨i + 1, by go_num, by omega, HJ.out.mono (by omega) (by omega)⟩, ?_⟩
       simp [intOf]; omega
      by_cases hk8 : kk = 8
      ·go_upto_region 18 with fail
       refine wp_region_lit ?_
       refine wl rfl (.pointer (some ⟨q, 0 + 0, none⟩)) _ (run_fieldOp' f33_0 (.tmp 9) rfl q (0) rfl) ?_
       refine wl rfl (.int .i64 o.k) _ (run_load1 o3 (.tmp 46) rfl q (0 + 0) rfl (.int .i64 o.k) (HQ.out.1.at 0 _ rfl)) ?_
       simp only [Act.put, aS, aC, aZ]
       refine wpList_callW eN11 [.tmp 47, .const (.int .i64 10)] _ rfl rfl [(.int .i64 o.k), (.int .i64 10)] rfl ?_
       refine (which_any V3 o.k 10 (by decide) HX.out.2.2.hk.1 HX.out.2.2.hk.2).mono ?_
       rintro e X_ ⟨he_, rfl⟩
       rw [HKK.out] at he_
       subst he_
       refine ⟨_, rfl, ?_⟩
       simp only [Act.put, aS, aC, aZ]
       refine wl rfl (.bool false) _ (run_eqZ (.tmp 48) (.const (.int .i64 7)) rfl (kk : Nat) 7 rfl rfl false (decide_eq_false (by omega))) ?_
       refine wl rfl (.bool false) _ (run_mvZ (.tmp 49) rfl (.bool false) rfl) ?_
       refine wl (by kernel_rfl) (.pointer (some ⟨q, 0 + 0, none⟩)) _ (run_fieldOp' f33_0 (.tmp 9) rfl q (0) rfl) ?_
       refine wl (by kernel_rfl) (.int .i64 o.k) _ (run_load1 o3 (.tmp 51) rfl q (0 + 0) rfl (.int .i64 o.k) (HQ.out.1.at 0 _ rfl)) ?_
       simp only [Act.put, aS, aC, aZ]
       refine wpList_callW eN11 [.tmp 52, .const (.int .i64 10)] _ (by kernel_rfl) rfl [(.int .i64 o.k), (.int .i64 10)] rfl ?_
       refine (which_any V3 o.k 10 (by decide) HX.out.2.2.hk.1 HX.out.2.2.hk.2).mono ?_
       rintro e X_ ⟨he_, rfl⟩
       rw [HKK.out] at he_
       subst he_
       refine ⟨_, rfl, ?_⟩
       simp only [Act.put, aS, aC, aZ]
       refine wl (by kernel_rfl) (.bool true) _ (run_eqZ (.tmp 53) (.const (.int .i64 8)) rfl (kk : Nat) 8 rfl rfl true (decide_eq_true (by omega))) ?_
       refine wl rfl (.bool true) _ (run_pickZ (.tmp 50) (.const (.bool true)) (.tmp 54) rfl false (.bool true) rfl rfl) ?_
       simp only [Act.put, aS, aC, aZ]
       refine wpList_nil ?_
       go_wp2_with fail
       refine ⟨⟨i + 1, by go_num, by omega, HJ.out.mono (by omega) (by omega)⟩, ?_⟩
       simp [intOf]; omega
      go_upto_region 18 with fail
      refine wp_region_lit ?_
      refine wl rfl (.pointer (some ⟨q, 0 + 0, none⟩)) _ (run_fieldOp' f33_0 (.tmp 9) rfl q (0) rfl) ?_
      refine wl rfl (.int .i64 o.k) _ (run_load1 o3 (.tmp 46) rfl q (0 + 0) rfl (.int .i64 o.k) (HQ.out.1.at 0 _ rfl)) ?_
      simp only [Act.put, aS, aC, aZ]
      refine wpList_callW eN11 [.tmp 47, .const (.int .i64 10)] _ rfl rfl [(.int .i64 o.k), (.int .i64 10)] rfl ?_
      refine (which_any V3 o.k 10 (by decide) HX.out.2.2.hk.1 HX.out.2.2.hk.2).mono ?_
      rintro e X_ ⟨he_, rfl⟩
      rw [HKK.out] at he_
      subst he_
      refine ⟨_, rfl, ?_⟩
      simp only [Act.put, aS, aC, aZ]
      refine wl rfl (.bool false) _ (run_eqZ (.tmp 48) (.const (.int .i64 7)) rfl (kk : Nat) 7 rfl rfl false (decide_eq_false (by omega))) ?_
      refine wl rfl (.bool false) _ (run_mvZ (.tmp 49) rfl (.bool false) rfl) ?_
      refine wl (by kernel_rfl) (.pointer (some ⟨q, 0 + 0, none⟩)) _ (run_fieldOp' f33_0 (.tmp 9) rfl q (0) rfl) ?_
      refine wl (by kernel_rfl) (.int .i64 o.k) _ (run_load1 o3 (.tmp 51) rfl q (0 + 0) rfl (.int .i64 o.k) (HQ.out.1.at 0 _ rfl)) ?_
      simp only [Act.put, aS, aC, aZ]
      refine wpList_callW eN11 [.tmp 52, .const (.int .i64 10)] _ (by kernel_rfl) rfl [(.int .i64 o.k), (.int .i64 10)] rfl ?_
      refine (which_any V3 o.k 10 (by decide) HX.out.2.2.hk.1 HX.out.2.2.hk.2).mono ?_
      rintro e X_ ⟨he_, rfl⟩
      rw [HKK.out] at he_
      subst he_
      refine ⟨_, rfl, ?_⟩
      simp only [Act.put, aS, aC, aZ]
      refine wl (by kernel_rfl) (.bool false) _ (run_eqZ (.tmp 53) (.const (.int .i64 8)) rfl (kk : Nat) 8 rfl rfl false (decide_eq_false (by omega))) ?_
      refine wl rfl (.bool false) _ (run_pickZ (.tmp 50) (.const (.bool true)) (.tmp 54) rfl false (.bool false) rfl rfl) ?_
      simp only [Act.put, aS, aC, aZ]
      refine wpList_nil ?_
      go_upto_region 19 with fail
      refine wp_region_lit ?_
      refine wl rfl (ptr gs) _ (run_mvZ (.tmp 7) rfl (ptr gs) rfl) ?_
      refine wl rfl (.agg ((opC o.k o.n o.vy o.px vk)).toArray) _ (run_loadA ag33 (.tmp 9) rfl q (0) rfl ((opC o.k o.n o.vy o.px vk)) rfl (rows_one HQ.out.1)) ?_
      simp only [Act.put, aS, aC, aZ]
      refine wpList_callW eN12 [.tmp 56, .tmp 57] _ rfl rfl [(ptr gs), (.agg ((opC o.k o.n o.vy o.px vk)).toArray)] rfl ?_
      refine (sdo_any HJ.out (by omega) (by omega) o.k o.n o.vy o.bs o.px vk ks HO.out).mono ?_
      rintro e V4 ⟨rfl, hs_⟩
      refine ⟨_, rfl, ?_⟩
      have HK : Hid (Std w V4 gp gs gr 48 (4096 + 20 * (i + 1)) (10 * (i + 1))) := hs_.mono (by omega) (by omega)
      clear hs_
      simp only [Act.put, aS, aC, aZ]
      refine wl rfl (.bool true) _ (run_asZ (.tmp 58) rfl (.bool true) rfl) ?_
      simp only [Act.put, aS, aC, aZ]
      refine wpList_nil ?_
      go_upto_region 20 with fail
      refine wp_region_lit ?_
      refine wl rfl (.bool true) _ (run_mvZ (.tmp 10) rfl (.bool true) rfl) ?_
      refine wl rfl (.bool false) _ (run_not (.tmp 59) 4 rfl true rfl) ?_
      simp only [Act.put, aS, aC, aZ]
      refine wpList_nil ?_
      go_wp2_with fail
      refine ⟨⟨i + 1, by go_num, by omega, HK⟩, ?_⟩
      simp [intOf]; omega
     ·go_upto_region 14 with fail
      refine wp_region_lit ?_
      refine wl rfl (.int .i64 (i : Nat)) _ (run_mvZ (.tmp 8) rfl (.int .i64 (i : Nat)) rfl) ?_
      refine wl rfl vs2 _ (run_mvZ (.tmp 0) rfl vs2 rfl) ?_
      refine wl rfl (.int .i64 (L2.length : Nat)) _ (run_lenOp HS.out (.tmp 35) rfl rfl) ?_
      refine wl rfl (.bool false) _ (run_lssZ (.tmp 34) (.tmp 36) rfl (i : Nat) (L2.length : Nat) rfl rfl false (decide_eq_false (by omega))) ?_
      simp only [Act.put, aS, aC, aZ]
      refine wpList_nil ?_
      obtain ⟨c, gh, gf, gm, m, us, vu, vb, bl, ever, dims, h1_, h2_, _, _, hdm, _⟩ := HI.out
      have HE : Hid (HtW w wr c gp gh gf gm m 48 us (4096 + 20 * i) ∧ Sd w wr c gp gh gf gm gs gr 48 us vu vb bl ever dims) := ⟨h1_, h2_⟩
      clear h1_ h2_ HI
      go_upto_region 22 with fail
      refine wp_region_lit ?_
      refine wl rfl (ptr gs) _ (run_mvZ (.tmp 7) rfl (ptr gs) rfl) ?_
      refine wl rfl (ptr gs) _ (run_nil (.tmp 61) rfl ⟨gs, 0, none⟩ rfl) ?_
      refine wl rfl (.pointer (some ⟨gs, 0 + 4, none⟩)) _ (run_fieldOp' f38_4 (.tmp 62) rfl gs (0) rfl) ?_
      refine wl rfl (.int .i64 (dims : Nat)) _ (run_load1 o3 (.tmp 63) rfl gs (0 + 4) rfl (.int .i64 (dims : Nat)) (HE.out.2.row.at 4 _ rfl)) ?_
      simp only [Act.put, aS, aC, aZ]
      refine wl rfl (.int .i64 (dims : Nat)) _ (run_asZ (.tmp 64) rfl (.int .i64 (dims : Nat)) rfl) ?_
      simp only [Act.put, aS, aC, aZ]
      refine wpList_nil ?_
      go_upto_region 23 with fail
      refine wp_region_lit ?_
      refine wl rfl (ptr gs) _ (run_mvZ (.tmp 7) rfl (ptr gs) rfl) ?_
      refine wl rfl (ptr gs) _ (run_nil (.tmp 65) rfl ⟨gs, 0, none⟩ rfl) ?_
      refine wl rfl (.pointer (some ⟨gs, 0 + 0, none⟩)) _ (run_fieldOp' f38_0 (.tmp 66) rfl gs (0) rfl) ?_
      refine wl rfl (ptr gp) _ (run_load1 o34 (.tmp 67) rfl gs (0 + 0) rfl (ptr gp) (HE.out.2.row.at 0 _ rfl)) ?_
      simp only [Act.put, aS, aC, aZ]
      refine wl rfl vk _ (run_mvZ (.tmp 1) rfl vk rfl) ?_
      simp only [Act.put, aS, aC, aZ]
      refine wpList_callW eN15 [.tmp 68, .tmp 69] _ rfl rfl [(ptr gp), vk] rfl ?_
      refine (HE.out.1.pl.boot (by omega) vk ks (keepIn HE.out.1.pl HM.out.2.2.2)).mono ?_
      rintro e W5 ⟨rfl, c2, hs_, hp_⟩
      refine ⟨_, rfl, ?_⟩
      have HF : Hid (Cl w W5 c2 gp (m.boot ks) 48 us (4096 + 20 * i) ∧ Sd w W5 c2 gp gh gf gm gs gr 48 us vu vb bl ever dims) := ⟨HE.out.1.clB ks hp_, HE.out.2.sq (hs_.sq gf gm)⟩
      clear hs_ hp_ HE
      simp only [Act.put, aS, aC, aZ]
      refine wpList_nil ?_
      go_upto_region 24 with fail
      refine wp_region_lit ?_
      refine wl rfl (ptr gs) _ (run_mvZ (.tmp 7) rfl (ptr gs) rfl) ?_
      simp only [Act.put, aS, aC, aZ]
      refine wpList_callW eN16 [.tmp 71] _ rfl rfl [(ptr gs)] rfl ?_
      refine (opened_any HF.out.1 HF.out.2 (by omega) (by omega)).mono ?_
      rintro e W6 ⟨rfl, gh2, gf2, gm2, hh_, hd_⟩
      refine ⟨_, rfl, ?_⟩
      have HG : Hid (Below w.heap.size w W6) := hh_.pl.below
      clear hh_ hd_
      simp only [Act.put, aS, aC, aZ]
      refine wl rfl (.bool true) _ (run_asZ (.tmp 72) rfl (.bool true) rfl) ?_
      simp only [Act.put, aS, aC, aZ]
      refine wpList_nil ?_
      go_upto_region 25 with fail
      refine wp_region_lit ?_
      refine wl rfl (.bool true) _ (run_mvZ (.tmp 12) rfl (.bool true) rfl) ?_
      refine wl rfl (.bool false) _ (run_not (.tmp 73) 4 rfl true rfl) ?_
      simp only [Act.put, aS, aC, aZ]
      refine wpList_nil ?_
      by_cases hd0 : dims = 0
      ·go_upto_region 27 with fail
       refine wp_region_lit ?_
       refine wl rfl (.int .i64 (dims : Nat)) _ (run_mvZ (.tmp 11) rfl (.int .i64 (dims : Nat)) rfl) ?_
       refine wl rfl (.bool true) _ (run_eqZ (.tmp 75) (.const (.int .i64 0)) rfl (dims : Nat) 0 rfl rfl true (decide_eq_true (by omega))) ?_
       simp only [Act.put, aS, aC, aZ]
       refine wpList_nil ?_
       go_upto_region 28 with fail
       refine wp_region_lit ?_
       refine wl rfl (.bool true) _ (run_mvZ (.tmp 5) rfl (.bool true) rfl) ?_
       refine wl rfl (.bool true) _ (run_asZ (.tmp 77) rfl (.bool true) rfl) ?_
       simp only [Act.put, aS, aC, aZ]
       refine wpList_nil ?_
       go_wp2_with fail
       rw [HPQ.out]
       exact ⟨rfl, HG.out⟩
      ·go_upto_region 27 with fail
       refine wp_region_lit ?_
       refine wl rfl (.int .i64 (dims : Nat)) _ (run_mvZ (.tmp 11) rfl (.int .i64 (dims : Nat)) rfl) ?_
       refine wl rfl (.bool false) _ (run_eqZ (.tmp 75) (.const (.int .i64 0)) rfl (dims : Nat) 0 rfl rfl false (decide_eq_false (by omega))) ?_
       simp only [Act.put, aS, aC, aZ]
       refine wpList_nil ?_
       go_wp2_with fail
       refine ⟨⟨f + 1, by go_num, by omega, HG⟩, ?_⟩
       simp [intOf]; omega
   ·go_upto_region 7 with fail
    refine wp_region_lit ?_
    refine wl rfl (.int .i64 (f : Nat)) _ (run_mvZ (.tmp 6) rfl (.int .i64 (f : Nat)) rfl) ?_
    refine wl rfl (.bool false) _ (run_lssZ (.tmp 21) (.const (.int .i64 300)) rfl (f : Nat) 300 rfl rfl false (decide_eq_false (by omega))) ?_
    simp only [Act.put, aS, aC, aZ]
    refine wpList_nil ?_
    go_upto_region 29 with fail
    refine wp_region_lit ?_
    refine wl rfl (.bool true) _ (run_mvZ (.tmp 5) rfl (.bool true) rfl) ?_
    refine wl rfl (.bool true) _ (run_asZ (.tmp 78) rfl (.bool true) rfl) ?_
    simp only [Act.put, aS, aC, aZ]
    refine wpList_nil ?_
    go_wp2_with fail
    rw [HPQ.out]
    exact ⟨rfl, HB.out⟩

end Go.Proofs.YthgidfoidbgnaaaDoor

/- RetainDue, RetainTakes. -/
import Derived.Test.YtobolkllplmmcaaT14
namespace Go.Proofs.Ytobolkllplmmcaa
open Go.RowKit

theorem ROwn.app_in {W : World} {base : Nat} {v vx : Value} {xs l : List Rv} (h : ROwn W base v xs) (hin : RsIn W vx l) (ty : Nat) (hz : (xs.length + l.length) * 104 ≤ 140737488355328) (hbase : base ≤ W.heap.size) :
    ∃ v' W', (Builtin.append_ #[37, 37] ty #[v, vx]).run Try.prog W = .ok v' W' ∧ ROwn W' base v' (xs ++ l) ∧ W.grownBy W' v.ownBlock := by
  obtain ⟨i, hi, hz0, hz1, hz2⟩ := info_parts info26
  obtain ⟨p, cap, rfl, hl, hk, hin⟩ := hin
  have hgo : ∀ ad : Addr, (∀ j u, (rvs l)[j]? = some u → W.cell? (ad.add j) = some u) → p = some ad → ∃ v' W', (Builtin.append_ #[37, 37] ty #[v, .slice p l.length cap]).run Try.prog W = .ok v' W' ∧ ROwn W' base v' (xs ++ l) ∧ W.grownBy W' v.ownBlock := by
    rintro ad hnews rfl
    obtain ⟨v', W', hr, ho, hg⟩ := own_part 26 37 39 104 _ und37 info26 rfl (by decide) (by decide) h.1 ty ad l.length cap (rvs l) hnews (rvs_length l hk) (rvs_one l hk) hz hbase
    refine ⟨v', W', hr, ⟨?_, fun x hx => ?_⟩, hg⟩
    · rw [List.length_append, rvs_append]
      exact ho
    · rcases List.mem_append.1 hx with hx | hx
      · exact h.2 x hx
      · exact hk x hx
  rcases hin with rfl | ⟨b, off, rfl, hc⟩
  · cases p with
    | none =>
      refine ⟨v, W, ?_, ?_, World.grownBy.refl W _⟩
      · rcases h.1.2 with ⟨rfl, h0⟩ | ⟨g, cap', cur, rfl, _, hg, hcap, hmax, hsz, htake⟩
        · simp [Builtin.append_, run_underlying und37, sizeOf, typeInfo, hi, Builtin.lenOf, Builtin.firstCells]
        · simp [Builtin.append_, run_underlying und37, sizeOf, typeInfo, hi, Builtin.lenOf, Builtin.firstCells, hcap, storeCells]
      · rw [List.append_nil]
        exact h
    | some ad => exact hgo ad (by intro j u hu; simp [rvs] at hu) rfl
  · refine hgo ⟨b, off, none⟩ (fun j u hu => ?_) rfl
    have hj : j < (rvs l).length := (List.getElem?_eq_some_iff.1 hu).1
    rw [rvs_length l hk] at hj
    rw [add_none, hc j hj, hu]
theorem del_err (r : Rc) (n : Int) : (delS r n).2 = refS r n := by
  unfold delS
  split
  · rename_i h
    exact h.symm
  · rfl
theorem due_yes {now : Int} {r : Rc} {out : List ByteArray} (h : IsDue now [r] out) (hd : dueB now r = true) : out = [r.id] := by
  refine h.unique ⟨[keyOf r], ?_, List.pairwise_singleton _ _, rfl⟩
  unfold keys
  rw [List.filter_cons_of_pos hd]
  exact List.Perm.refl _
theorem due_no {now : Int} {r : Rc} {out : List ByteArray} (h : IsDue now [r] out) (hd : dueB now r = false) : out = [] := by
  refine h.unique ⟨[], ?_, List.Pairwise.nil, rfl⟩
  unfold keys
  rw [List.filter_cons_of_neg (by rw [hd]; exact Bool.false_ne_true)]
  exact List.Perm.refl _
theorem SOwn.later {w w' : World} {base : Nat} {v : Value} {ss : List ByteArray} (h : SOwn w base v ss) (hb : Below w.heap.size w w') : SOwn w' base v ss := own_later h hb
set_option maxHeartbeats 4000000 in
set_option maxRecDepth 100000 in
theorem takes_any (r : Rc) (vc : Value) (now : Int) (w : World) (hf : Fits w r vc) (hz : (r.cp.length + 1) * 32 ≤ 140737488355328) : Calls Try.prog 8 #[.agg (rcells r vc).toArray, .int .i64 now] w fun e w' => e = .returned (.bool true) ∧ Below w.heap.size w w' := by
  obtain ⟨R1, hR1⟩ : ∃ z, z = (delS r now).1 := ⟨_, rfl⟩
  obtain ⟨er, her⟩ : ∃ z, z = refS r now := ⟨_, rfl⟩
  have hz0 : r.cp.length * 32 ≤ 140737488355328 := by omega
  have HC1 : Hid (∀ (U : World) (vx : Value), Fits U r vx → Calls Try.prog 17 #[.agg (rcells r vx).toArray, .int .i64 now] U fun e w' => ∃ v', e = .returned (.tuple #[.agg (rcells R1 v').toArray, .int .i64 er]) ∧ Below U.heap.size U w' ∧ POwn w' U.heap.size v' R1.cp) := fun U vx h => by
    have := delete_any r vx now U h hz0
    rw [del_err] at this
    exact hR1 ▸ her ▸ this
  have HR1 : Hid (R1.root.length = 32 ∧ ∀ c ∈ R1.root, c < 256) := hR1 ▸ del_root ⟨hf.root, hf.bytes⟩ now
  have HF : Hid (Fits w r vc ∧ (r.cp.length + 1) * 32 ≤ 140737488355328) := ⟨hf, hz⟩
  obtain ⟨ex, hex⟩ : ∃ z, z = r.expiry := ⟨_, rfl⟩
  obtain ⟨p1, hp1⟩ : ∃ z, decide (er = 0) = z := ⟨_, rfl⟩
  obtain ⟨p2, hp2⟩ : ∃ z, decide (0 < ex) = z := ⟨_, rfl⟩
  have HP : Hid (decide (er = 0) = p1 ∧ decide (0 < ex) = p2 ∧ dueB now r = (p2 && p1) ∧ ex = r.expiry) := ⟨hp1, hp2, by rw [← hp1, ← hp2, her, hex]; exact rfl, hex⟩
  clear hf hz hz0 hR1 her hex hp1 hp2
  obtain ⟨PQ, hPQ⟩ : ∃ PQ : Ending → World → Prop, PQ = fun (e : Ending) (w' : World) => e = .returned (.bool true) ∧ Below w.heap.size w w' := ⟨_, rfl⟩
  have HPQ : Hid (PQ = fun (e : Ending) (w' : World) => e = .returned (.bool true) ∧ Below w.heap.size w w') := hPQ
  rw [← hPQ]
  clear hPQ
  have R0 : Hid (Loc w w []) := Loc.nil (Below.refl _ w)
  go_enter Try.func8, Try.ntmps8
  go_upto_region 0 with fail
  refine wp_region_lit ?_
  refine wl rfl (ptr w.heap.size) _ (run_boxA (.tmp 0) rfl (rcells r vc) rfl) ?_
  have k_ := R0.out.box 26 (rcells r vc)
  obtain ⟨w1, hW_⟩ : ∃ W, W = w.alloc (.cells (rcells r vc).toArray 26) := ⟨_, rfl⟩
  obtain ⟨q1, hq_⟩ : ∃ q, q = w.heap.size := ⟨_, rfl⟩
  rw [← hW_, ← hq_] at k_
  rw [← hW_, ← hq_]
  clear hq_
  have Rw1 : Hid (Loc w w1 [(q1, 26, rcells r vc)]) := k_
  clear k_ hW_ R0
  simp only [Act.put, List.setIfInBounds_toArray, List.set_cons_succ, List.set_cons_zero]
  refine wl rfl (.bool false) _ (run_asZ (.const (.bool false)) rfl (.bool false) rfl) ?_
  simp only [Act.put, List.setIfInBounds_toArray, List.set_cons_succ, List.set_cons_zero]
  refine wpList_nil ?_
  go_upto_region 1 with fail
  refine wp_region_lit ?_
  refine wpList_callW eN9 [] _ rfl rfl [] rfl ?_
  refine (shown_any w1).mono ?_
  rintro e w2 ⟨rfl, b_⟩
  refine ⟨_, rfl, ?_⟩
  have Rw2 : Hid (Loc w w2 [(q1, 26, rcells r vc)]) := Rw1.out.later b_
  clear Rw1 b_
  simp only [Act.put, List.setIfInBounds_toArray, List.set_cons_succ, List.set_cons_zero]
  refine wl rfl (.bool true) _ (run_asZ (.tmp 10) rfl (.bool true) rfl) ?_
  simp only [Act.put, List.setIfInBounds_toArray, List.set_cons_succ, List.set_cons_zero]
  refine wpList_nil ?_
  go_upto_region 2 with fail
  refine wp_region_lit ?_
  refine wl rfl (.bool true) _ (run_mvZ (.tmp 5) rfl (.bool true) rfl) ?_
  simp only [Act.put, List.setIfInBounds_toArray, List.set_cons_succ, List.set_cons_zero]
  refine wl rfl (.bool false) _ (run_not (.tmp 11) 4 rfl true rfl) ?_
  simp only [Act.put, List.setIfInBounds_toArray, List.set_cons_succ, List.set_cons_zero]
  refine wpList_nil ?_
  go_upto_region 4 with fail
  refine wp_region_lit ?_
  refine wl rfl (.agg (rcells r vc).toArray) _ (run_loadA ag26 (.tmp 2) rfl q1 (0) rfl (rcells r vc) (HF.out.1.rok).len (Rw2.out.rows 0 rfl)) ?_
  simp only [Act.put, List.setIfInBounds_toArray, List.set_cons_succ, List.set_cons_zero]
  refine wl rfl (.slice (some ⟨w2.heap.size, 0, none⟩) 1 1) _ (run_lit1R (.tmp 13) rfl r vc HF.out.1.rok rfl) ?_
  have b_ := below_alloc w2 (.cells (rcells r vc).toArray 26)
  have l_ := ROwn.lit (w := w2) 0 [⟨r, vc⟩] (by intro x hx; rw [List.mem_singleton.1 hx]; exact HF.out.1.rok) (Nat.zero_le _) (by simp)
  rw [show rvs [(⟨r, vc⟩ : Rv)] = rcells r vc from List.append_nil _] at l_
  obtain ⟨w3, hW_⟩ : ∃ W, W = w2.alloc (.cells (rcells r vc).toArray 26) := ⟨_, rfl⟩
  obtain ⟨vl, hv_⟩ : ∃ v : Value, v = .slice (some ⟨w2.heap.size, 0, none⟩) 1 1 := ⟨_, rfl⟩
  rw [← hW_, show Value.slice (some ⟨w2.heap.size, 0, none⟩) [(⟨r, vc⟩ : Rv)].length [(⟨r, vc⟩ : Rv)].length = vl from hv_.symm] at l_
  rw [← hW_] at b_
  rw [← hW_, ← hv_]
  have HL : Hid (RsIn w3 vl [⟨r, vc⟩]) := l_.isIn (by simp)
  clear l_ hW_ hv_
  have Rw3 : Hid (Loc w w3 [(q1, 26, rcells r vc)]) := Rw2.out.later b_
  clear Rw2 b_
  simp only [Act.put, List.setIfInBounds_toArray, List.set_cons_succ, List.set_cons_zero]
  refine wl rfl (.int .i64 now) _ (run_mvZ (.tmp 1) rfl (.int .i64 now) rfl) ?_
  simp only [Act.put, List.setIfInBounds_toArray, List.set_cons_succ, List.set_cons_zero]
  refine wpList_callW eN19 [.tmp 14, .tmp 15] _ rfl rfl [vl, .int .i64 now] rfl ?_
  refine (due_any [⟨r, vc⟩] vl now w3 HL.out (by simp)).mono ?_
  rintro e w4 ⟨vs, out, rfl, o_, d_, b_⟩
  refine ⟨_, rfl, ?_⟩
  have HS : Hid (SOwn w4 0 vs out ∧ IsDue now [r] out) := ⟨own_weaken o_ (Nat.zero_le _), d_⟩
  clear o_ d_ HL
  have Rw4 : Hid (Loc w w4 [(q1, 26, rcells r vc)]) := Rw3.out.later b_
  clear Rw3 b_
  simp only [Act.put, List.setIfInBounds_toArray, List.set_cons_succ, List.set_cons_zero]
  refine wl rfl vs _ (run_asZ (.tmp 16) rfl vs rfl) ?_
  simp only [Act.put, List.setIfInBounds_toArray, List.set_cons_succ, List.set_cons_zero]
  refine wpList_nil ?_
  go_upto_region 5 with fail
  refine wp_region_lit ?_
  refine wl rfl (.agg (rcells r vc).toArray) _ (run_loadA ag26 (.tmp 2) rfl q1 (0) rfl (rcells r vc) (HF.out.1.rok).len (Rw4.out.rows 0 rfl)) ?_
  simp only [Act.put, List.setIfInBounds_toArray, List.set_cons_succ, List.set_cons_zero]
  refine wl rfl (.int .i64 now) _ (run_mvZ (.tmp 1) rfl (.int .i64 now) rfl) ?_
  simp only [Act.put, List.setIfInBounds_toArray, List.set_cons_succ, List.set_cons_zero]
  refine wpList_callW eN17 [.tmp 18, .tmp 19] _ rfl rfl [(.agg (rcells r vc).toArray), (.int .i64 now)] rfl ?_
  refine (HC1.out w4 vc (HF.out.1.later Rw4.out.below)).mono ?_
  rintro e w5 ⟨v2, rfl, b_, o_⟩
  refine ⟨_, rfl, ?_⟩
  have S2 : Hid (∃ p n c, v2 = .slice p n c) := o_.isSl
  clear o_
  have HSx : Hid (SOwn w5 0 vs out ∧ IsDue now [r] out) := ⟨HS.out.1.later b_, HS.out.2⟩
  clear HS
  have HS := HSx
  clear HSx
  have Rw5 : Hid (Loc w w5 [(q1, 26, rcells r vc)]) := Rw4.out.later b_
  clear Rw4 b_
  simp only [Act.put, List.setIfInBounds_toArray, List.set_cons_succ, List.set_cons_zero]
  refine wl rfl (.tuple #[(.agg (rcells R1 v2).toArray), (.int .i64 er)]) _ (run_mvZ (.tmp 20) rfl (.tuple #[(.agg (rcells R1 v2).toArray), (.int .i64 er)]) rfl) ?_
  simp only [Act.put, List.setIfInBounds_toArray, List.set_cons_succ, List.set_cons_zero]
  refine wl rfl (.agg (rcells R1 v2).toArray) _ (run_extZ (.tmp 17) 0 rfl #[(.agg (rcells R1 v2).toArray), (.int .i64 er)] rfl (.agg (rcells R1 v2).toArray) rfl) ?_
  simp only [Act.put, List.setIfInBounds_toArray, List.set_cons_succ, List.set_cons_zero]
  refine wl rfl (.int .i64 er) _ (run_extZ (.tmp 17) 1 rfl #[(.agg (rcells R1 v2).toArray), (.int .i64 er)] rfl (.int .i64 er) rfl) ?_
  simp only [Act.put, List.setIfInBounds_toArray, List.set_cons_succ, List.set_cons_zero]
  refine wl rfl (ptr w5.heap.size) _ (run_allocA (rcells rz (.slice none 0 0)) zero26 rfl) ?_
  have k_ := Rw5.out.box 26 (rcells rz (.slice none 0 0))
  have hB_ := below_alloc w5 (.cells (rcells rz (.slice none 0 0)).toArray 26)
  obtain ⟨w6, hW_⟩ : ∃ U_ : World, U_ = w5.alloc (.cells (rcells rz (.slice none 0 0)).toArray 26) := ⟨_, rfl⟩
  obtain ⟨q2, hq_⟩ : ∃ q, q = w5.heap.size := ⟨_, rfl⟩
  rw [← hW_, ← hq_] at k_
  rw [← hW_] at hB_
  rw [← hW_, ← hq_]
  clear hq_
  have HSx : Hid (SOwn w6 0 vs out ∧ IsDue now [r] out) := ⟨HS.out.1.later hB_, HS.out.2⟩
  clear HS
  have HS := HSx
  clear HSx
  have Rw6 : Hid (Loc w w6 [(q1, 26, rcells r vc), (q2, 26, rcells rz (.slice none 0 0))]) := k_
  clear k_ hW_ Rw5
  clear hB_
  simp only [Act.put, List.setIfInBounds_toArray, List.set_cons_succ, List.set_cons_zero]
  obtain ⟨hst_, k_, hC_⟩ := Rw6.out.st26 1 rfl (Rok.nil).len (rcells R1 v2) ((show Rok R1 v2 from ⟨HR1.out.1, HR1.out.2, S2.out⟩)).len ((show Rok R1 v2 from ⟨HR1.out.1, HR1.out.2, S2.out⟩)).one
  have hR_ := Rw6.out.at 1 rfl
  refine wlS rfl rfl _ (run_stV (.tmp 7) (.tmp 21) rfl q2 0 rfl _ rfl hst_) ?_
  obtain ⟨w7, hW_⟩ : ∃ U_ : World, U_ = w6.setRow q2 (rcells R1 v2).toArray := ⟨_, rfl⟩
  rw [← hW_] at k_ hC_ ⊢
  clear hst_
  have HSx : Hid (SOwn w7 0 vs out ∧ IsDue now [r] out) := ⟨own_kept HS.out.1 fun b_ hb_ => hC_.one b_ (HS.out.1.lt b_ hb_).2 fun e_ => own_ne HS.out.1 hR_ (by decide) (e_ ▸ hb_), HS.out.2⟩
  clear HS
  have HS := HSx
  clear HSx
  have Rw7 : Hid (Loc w w7 [(q1, 26, rcells r vc), (q2, 26, rcells R1 v2)]) := k_
  clear k_ hW_ Rw6
  clear hC_ hR_
  refine wl rfl (.int .i64 er) _ (run_asZ (.tmp 22) rfl (.int .i64 er) rfl) ?_
  simp only [Act.put, List.setIfInBounds_toArray, List.set_cons_succ, List.set_cons_zero]
  refine wpList_nil ?_
  by_cases h_ : p1 = false
  · subst h_
    go_upto_region 6 with fail
    refine wp_region_lit ?_
    refine wl rfl (.int .i64 er) _ (run_mvZ (.tmp 8) rfl (.int .i64 er) rfl) ?_
    simp only [Act.put, List.setIfInBounds_toArray, List.set_cons_succ, List.set_cons_zero]
    refine wl rfl (.bool false) _ (run_eqZ (.tmp 23) (.const (.int .i64 0)) rfl er 0 rfl rfl false HP.out.1) ?_
    simp only [Act.put, List.setIfInBounds_toArray, List.set_cons_succ, List.set_cons_zero]
    refine wl rfl (.bool false) _ (run_mvZ (.tmp 24) rfl (.bool false) rfl) ?_
    simp only [Act.put, List.setIfInBounds_toArray, List.set_cons_succ, List.set_cons_zero]
    with_reducible refine wpList_skip (by kernel_rfl) ?_
    simp only [Act.put, List.setIfInBounds_toArray, List.set_cons_succ, List.set_cons_zero]
    with_reducible refine wpList_skip (by kernel_rfl) ?_
    simp only [Act.put, List.setIfInBounds_toArray, List.set_cons_succ, List.set_cons_zero]
    with_reducible refine wpList_skip (by kernel_rfl) ?_
    simp only [Act.put, List.setIfInBounds_toArray, List.set_cons_succ, List.set_cons_zero]
    refine wl rfl (.bool false) _ (run_pickZ (.tmp 25) (.tmp 28) (.const (.bool false)) rfl false (.bool false) rfl rfl) ?_
    simp only [Act.put, List.setIfInBounds_toArray, List.set_cons_succ, List.set_cons_zero]
    refine wl rfl (.bool false) _ (run_asZ (.tmp 29) rfl (.bool false) rfl) ?_
    simp only [Act.put, List.setIfInBounds_toArray, List.set_cons_succ, List.set_cons_zero]
    refine wpList_nil ?_
    obtain rfl := due_no HS.out.2 (by rw [HP.out.2.2.1]; first | rfl | exact Bool.and_false _)
    go_upto_region 7 with fail
    refine wp_region_held (S := fun X => True) (by kernel_rfl) ?_
    show wpAnyH _ _ _ _ _ 26 (Array.replicate 26 false) _ _
    obtain ⟨X, hX⟩ : ∃ X : World, X = { w7 with drawn := w7.drawn + 1 } := ⟨_, rfl⟩
    rw [← hX]
    have HBX : Hid (Below w.heap.size w X) := by rw [hX]; exact Below.drewN Rw7.out.below 1
    clear hX
    refine takeH (i := 0) (some 30) rfl rfl (by kernel_rfl) (by kernel_rfl) (by kernel_rfl) (fun _ _ _ h => h) (gRun rfl (.bool true) fun _ h => run_mvZ (.tmp 5) rfl (.bool true) rfl) trivial ?_
    simp only [Act.put, List.setIfInBounds_toArray, List.set_cons_succ, List.set_cons_zero]
    refine takeH (i := 1) (some 31) rfl rfl (by kernel_rfl) (by kernel_rfl) (by kernel_rfl) (fun _ _ _ h => h) (gRun rfl (.bool true) fun _ h => run_mvZ (.tmp 30) rfl (.bool true) rfl) trivial ?_
    simp only [Act.put, List.setIfInBounds_toArray, List.set_cons_succ, List.set_cons_zero]
    refine takeH (i := 2) (some 32) rfl rfl (by kernel_rfl) (by kernel_rfl) (by kernel_rfl) (fun _ _ _ h => h) (gRun (by kernel_rfl) vs fun _ h => run_mvZ (.tmp 6) rfl vs rfl) trivial ?_
    simp only [Act.put, List.setIfInBounds_toArray, List.set_cons_succ, List.set_cons_zero]
    refine takeH (i := 3) (some 33) rfl rfl (by kernel_rfl) (by kernel_rfl) (by kernel_rfl) (fun _ _ _ h => h) (gRun (by kernel_rfl) (.int .i64 0) fun _ h => run_lenO HS.out.1 sl38 (.tmp 32) rfl rfl) trivial ?_
    simp only [Act.put, List.setIfInBounds_toArray, List.set_cons_succ, List.set_cons_zero]
    refine takeH (i := 4) (some 34) rfl rfl (by kernel_rfl) (by kernel_rfl) (by kernel_rfl) (fun _ _ _ h => h) (gRun (by kernel_rfl) (.bool false) fun _ h => run_eqZ (.tmp 33) (.const (.int .i64 1)) rfl (0) (1) rfl rfl false rfl) trivial ?_
    simp only [Act.put, List.setIfInBounds_toArray, List.set_cons_succ, List.set_cons_zero]
    refine takeH (i := 5) (some 35) rfl rfl (by kernel_rfl) (by kernel_rfl) (by kernel_rfl) (fun _ _ _ h => h) (gRun (by kernel_rfl) (.bool false) fun _ h => run_mvZ (.tmp 9) rfl (.bool false) rfl) trivial ?_
    simp only [Act.put, List.setIfInBounds_toArray, List.set_cons_succ, List.set_cons_zero]
    refine takeH (i := 6) (some 36) rfl rfl (by kernel_rfl) (by kernel_rfl) (by kernel_rfl) (fun _ _ _ h => h) (gRun (by kernel_rfl) (.bool true) fun _ h => rx_eqBool (.tmp 34) (.tmp 35) rfl false false rfl rfl true rfl) trivial ?_
    simp only [Act.put, List.setIfInBounds_toArray, List.set_cons_succ, List.set_cons_zero]
    refine takeH (i := 7) (some 37) rfl rfl (by kernel_rfl) (by kernel_rfl) (by kernel_rfl) (fun _ _ _ h => h) (gRun rfl (.bool true) fun _ h => run_pickZ (.tmp 31) (.tmp 36) (.const (.bool false)) rfl true (.bool true) rfl rfl) trivial ?_
    simp only [Act.put, List.setIfInBounds_toArray, List.set_cons_succ, List.set_cons_zero]
    refine takeH (i := 8) (some 38) rfl rfl (by kernel_rfl) (by kernel_rfl) (by kernel_rfl) (fun _ _ _ h => h) (gRun rfl (.bool true) fun _ h => run_mvZ (.tmp 37) rfl (.bool true) rfl) trivial ?_
    simp only [Act.put, List.setIfInBounds_toArray, List.set_cons_succ, List.set_cons_zero]
    refine takeH (i := 9) (some 39) rfl rfl (by kernel_rfl) (by kernel_rfl) (by kernel_rfl) (fun _ _ _ h => h) (gRun (by kernel_rfl) (.bool false) fun _ h => run_mvZ (.tmp 9) rfl (.bool false) rfl) trivial ?_
    simp only [Act.put, List.setIfInBounds_toArray, List.set_cons_succ, List.set_cons_zero]
    refine takeH (i := 10) (some 40) rfl rfl (by kernel_rfl) (by kernel_rfl) (by kernel_rfl) (fun _ _ _ h => h) (gRun (by kernel_rfl) (.bool true) fun _ h => run_not (.tmp 39) 4 rfl false rfl) trivial ?_
    simp only [Act.put, List.setIfInBounds_toArray, List.set_cons_succ, List.set_cons_zero]
    refine takeH (i := 11) (some 41) rfl rfl (by kernel_rfl) (by kernel_rfl) (by kernel_rfl) (fun _ _ _ h => h) (gRun (by kernel_rfl) (.bool true) fun _ h => run_mvZ (.tmp 40) rfl (.bool true) rfl) trivial ?_
    simp only [Act.put, List.setIfInBounds_toArray, List.set_cons_succ, List.set_cons_zero]
    refine takeH (i := 12) (some 42) rfl rfl (by kernel_rfl) (by kernel_rfl) (by kernel_rfl) (fun _ _ _ h => h) (Or.inr ⟨by kernel_rfl, rfl⟩) trivial ?_
    simp only [Act.put, List.setIfInBounds_toArray, List.set_cons_succ, List.set_cons_zero]
    refine takeH (i := 13) (some 43) rfl rfl (by kernel_rfl) (by kernel_rfl) (by kernel_rfl) (fun _ _ _ h => h) (Or.inr ⟨by kernel_rfl, rfl⟩) trivial ?_
    simp only [Act.put, List.setIfInBounds_toArray, List.set_cons_succ, List.set_cons_zero]
    refine takeH (i := 14) (some 44) rfl rfl (by kernel_rfl) (by kernel_rfl) (by kernel_rfl) (fun _ _ _ h => h) (Or.inr ⟨by kernel_rfl, rfl⟩) trivial ?_
    simp only [Act.put, List.setIfInBounds_toArray, List.set_cons_succ, List.set_cons_zero]
    refine takeH (i := 15) (some 45) rfl rfl (by kernel_rfl) (by kernel_rfl) (by kernel_rfl) (fun _ _ _ h => h) (Or.inr ⟨by kernel_rfl, rfl⟩) trivial ?_
    simp only [Act.put, List.setIfInBounds_toArray, List.set_cons_succ, List.set_cons_zero]
    refine takeH (i := 16) (some 46) rfl rfl (by kernel_rfl) (by kernel_rfl) (by kernel_rfl) (fun _ _ _ h => h) (Or.inr ⟨by kernel_rfl, rfl⟩) trivial ?_
    simp only [Act.put, List.setIfInBounds_toArray, List.set_cons_succ, List.set_cons_zero]
    refine takeH (i := 17) (some 47) rfl rfl (by kernel_rfl) (by kernel_rfl) (by kernel_rfl) (fun _ _ _ h => h) (Or.inr ⟨by kernel_rfl, rfl⟩) trivial ?_
    simp only [Act.put, List.setIfInBounds_toArray, List.set_cons_succ, List.set_cons_zero]
    refine takeH (i := 18) (some 48) rfl rfl (by kernel_rfl) (by kernel_rfl) (by kernel_rfl) (fun _ _ _ h => h) (gRun (by kernel_rfl) (.bool true) fun _ h => run_pickZ (.tmp 41) (.const (.bool true)) (.tmp 47) rfl true (.bool true) rfl rfl) trivial ?_
    simp only [Act.put, List.setIfInBounds_toArray, List.set_cons_succ, List.set_cons_zero]
    refine takeH (i := 19) (some 49) rfl rfl (by kernel_rfl) (by kernel_rfl) (by kernel_rfl) (fun _ _ _ h => h) (gRun rfl (.bool true) fun _ h => run_pickZ (.tmp 38) (.tmp 48) (.const (.bool false)) rfl true (.bool true) rfl rfl) trivial ?_
    simp only [Act.put, List.setIfInBounds_toArray, List.set_cons_succ, List.set_cons_zero]
    refine takeH (i := 20) (some 50) rfl rfl (by kernel_rfl) (by kernel_rfl) (by kernel_rfl) (fun _ _ _ h => h) (gRun rfl (.bool true) fun _ h => run_mvZ (.tmp 49) rfl (.bool true) rfl) trivial ?_
    simp only [Act.put, List.setIfInBounds_toArray, List.set_cons_succ, List.set_cons_zero]
    refine takeH (i := 21) (some 51) rfl rfl (by kernel_rfl) (by kernel_rfl) (by kernel_rfl) (fun _ _ _ h => h) (gRun (by kernel_rfl) vs fun _ h => run_mvZ (.tmp 6) rfl vs rfl) trivial ?_
    simp only [Act.put, List.setIfInBounds_toArray, List.set_cons_succ, List.set_cons_zero]
    refine takeH (i := 22) (some 52) rfl rfl (by kernel_rfl) (by kernel_rfl) (by kernel_rfl) (fun _ _ _ h => h) (gRun (by kernel_rfl) (.int .i64 0) fun _ h => run_lenO HS.out.1 sl38 (.tmp 51) rfl rfl) trivial ?_
    simp only [Act.put, List.setIfInBounds_toArray, List.set_cons_succ, List.set_cons_zero]
    refine takeH (i := 23) (some 53) rfl rfl (by kernel_rfl) (by kernel_rfl) (by kernel_rfl) (fun _ _ _ h => h) (gRun (by kernel_rfl) (.bool true) fun _ h => run_leqZ (.tmp 52) (.const (.int .i64 1)) rfl 0 1 rfl rfl true rfl) trivial ?_
    simp only [Act.put, List.setIfInBounds_toArray, List.set_cons_succ, List.set_cons_zero]
    refine takeH (i := 24) (some 54) rfl rfl (by kernel_rfl) (by kernel_rfl) (by kernel_rfl) (fun _ _ _ h => h) (gRun rfl (.bool true) fun _ h => run_pickZ (.tmp 50) (.tmp 53) (.const (.bool false)) rfl true (.bool true) rfl rfl) trivial ?_
    simp only [Act.put, List.setIfInBounds_toArray, List.set_cons_succ, List.set_cons_zero]
    refine takeH (i := 25) (some 4) rfl rfl (by kernel_rfl) (by kernel_rfl) (by kernel_rfl) (fun _ _ _ h => h) (gRun rfl (.bool true) fun _ h => run_asZ (.tmp 54) rfl (.bool true) rfl) trivial ?_
    simp only [Act.put, List.setIfInBounds_toArray, List.set_cons_succ, List.set_cons_zero]
    refine wpAnyH_done (by kernel_rfl) ?_ _
    go_wp2_with fail
    first | (rw [HPQ.out]; exact ⟨rfl, HBX.out⟩) | (go_ret; rw [HPQ.out]; exact ⟨rfl, HBX.out⟩)
  have e_ : p1 = true := by cases p1 <;> first | rfl | exact absurd rfl h_
  subst e_
  clear h_
  by_cases h_ : p2 = false
  · subst h_
    go_upto_region 6 with fail
    refine wp_region_lit ?_
    refine wl rfl (.int .i64 er) _ (run_mvZ (.tmp 8) rfl (.int .i64 er) rfl) ?_
    simp only [Act.put, List.setIfInBounds_toArray, List.set_cons_succ, List.set_cons_zero]
    refine wl rfl (.bool true) _ (run_eqZ (.tmp 23) (.const (.int .i64 0)) rfl er 0 rfl rfl true HP.out.1) ?_
    simp only [Act.put, List.setIfInBounds_toArray, List.set_cons_succ, List.set_cons_zero]
    refine wl rfl (.bool true) _ (run_mvZ (.tmp 24) rfl (.bool true) rfl) ?_
    simp only [Act.put, List.setIfInBounds_toArray, List.set_cons_succ, List.set_cons_zero]
    refine wl (by kernel_rfl) (.pointer (some ⟨q1, 0 + 35, none⟩)) _ (run_fieldOp' f26_4 (.tmp 2) rfl q1 (0) rfl) ?_
    simp only [Act.put, List.setIfInBounds_toArray, List.set_cons_succ, List.set_cons_zero]
    refine wl (by kernel_rfl) (.int .i64 ex) _ (run_load1 o3 (.tmp 26) rfl q1 (0 + 35) rfl (.int .i64 ex) (Rw7.out.fld 0 rfl (HF.out.1.rok).root 1 _ (by rw [HP.out.2.2.2]; rfl))) ?_
    simp only [Act.put, List.setIfInBounds_toArray, List.set_cons_succ, List.set_cons_zero]
    refine wl (by kernel_rfl) (.bool false) _ (run_gtrZ (.tmp 27) (.const (.int .i64 0)) rfl ex 0 rfl rfl false HP.out.2.1) ?_
    simp only [Act.put, List.setIfInBounds_toArray, List.set_cons_succ, List.set_cons_zero]
    refine wl rfl (.bool false) _ (run_pickZ (.tmp 25) (.tmp 28) (.const (.bool false)) rfl true (.bool false) rfl rfl) ?_
    simp only [Act.put, List.setIfInBounds_toArray, List.set_cons_succ, List.set_cons_zero]
    refine wl rfl (.bool false) _ (run_asZ (.tmp 29) rfl (.bool false) rfl) ?_
    simp only [Act.put, List.setIfInBounds_toArray, List.set_cons_succ, List.set_cons_zero]
    refine wpList_nil ?_
    obtain rfl := due_no HS.out.2 (by rw [HP.out.2.2.1]; first | rfl | exact Bool.and_false _)
    go_upto_region 7 with fail
    refine wp_region_held (S := fun X => True) (by kernel_rfl) ?_
    show wpAnyH _ _ _ _ _ 26 (Array.replicate 26 false) _ _
    obtain ⟨X, hX⟩ : ∃ X : World, X = { w7 with drawn := w7.drawn + 1 } := ⟨_, rfl⟩
    rw [← hX]
    have HBX : Hid (Below w.heap.size w X) := by rw [hX]; exact Below.drewN Rw7.out.below 1
    clear hX
    refine takeH (i := 0) (some 30) rfl rfl (by kernel_rfl) (by kernel_rfl) (by kernel_rfl) (fun _ _ _ h => h) (gRun rfl (.bool true) fun _ h => run_mvZ (.tmp 5) rfl (.bool true) rfl) trivial ?_
    simp only [Act.put, List.setIfInBounds_toArray, List.set_cons_succ, List.set_cons_zero]
    refine takeH (i := 1) (some 31) rfl rfl (by kernel_rfl) (by kernel_rfl) (by kernel_rfl) (fun _ _ _ h => h) (gRun rfl (.bool true) fun _ h => run_mvZ (.tmp 30) rfl (.bool true) rfl) trivial ?_
    simp only [Act.put, List.setIfInBounds_toArray, List.set_cons_succ, List.set_cons_zero]
    refine takeH (i := 2) (some 32) rfl rfl (by kernel_rfl) (by kernel_rfl) (by kernel_rfl) (fun _ _ _ h => h) (gRun (by kernel_rfl) vs fun _ h => run_mvZ (.tmp 6) rfl vs rfl) trivial ?_
    simp only [Act.put, List.setIfInBounds_toArray, List.set_cons_succ, List.set_cons_zero]
    refine takeH (i := 3) (some 33) rfl rfl (by kernel_rfl) (by kernel_rfl) (by kernel_rfl) (fun _ _ _ h => h) (gRun (by kernel_rfl) (.int .i64 0) fun _ h => run_lenO HS.out.1 sl38 (.tmp 32) rfl rfl) trivial ?_
    simp only [Act.put, List.setIfInBounds_toArray, List.set_cons_succ, List.set_cons_zero]
    refine takeH (i := 4) (some 34) rfl rfl (by kernel_rfl) (by kernel_rfl) (by kernel_rfl) (fun _ _ _ h => h) (gRun (by kernel_rfl) (.bool false) fun _ h => run_eqZ (.tmp 33) (.const (.int .i64 1)) rfl (0) (1) rfl rfl false rfl) trivial ?_
    simp only [Act.put, List.setIfInBounds_toArray, List.set_cons_succ, List.set_cons_zero]
    refine takeH (i := 5) (some 35) rfl rfl (by kernel_rfl) (by kernel_rfl) (by kernel_rfl) (fun _ _ _ h => h) (gRun (by kernel_rfl) (.bool false) fun _ h => run_mvZ (.tmp 9) rfl (.bool false) rfl) trivial ?_
    simp only [Act.put, List.setIfInBounds_toArray, List.set_cons_succ, List.set_cons_zero]
    refine takeH (i := 6) (some 36) rfl rfl (by kernel_rfl) (by kernel_rfl) (by kernel_rfl) (fun _ _ _ h => h) (gRun (by kernel_rfl) (.bool true) fun _ h => rx_eqBool (.tmp 34) (.tmp 35) rfl false false rfl rfl true rfl) trivial ?_
    simp only [Act.put, List.setIfInBounds_toArray, List.set_cons_succ, List.set_cons_zero]
    refine takeH (i := 7) (some 37) rfl rfl (by kernel_rfl) (by kernel_rfl) (by kernel_rfl) (fun _ _ _ h => h) (gRun rfl (.bool true) fun _ h => run_pickZ (.tmp 31) (.tmp 36) (.const (.bool false)) rfl true (.bool true) rfl rfl) trivial ?_
    simp only [Act.put, List.setIfInBounds_toArray, List.set_cons_succ, List.set_cons_zero]
    refine takeH (i := 8) (some 38) rfl rfl (by kernel_rfl) (by kernel_rfl) (by kernel_rfl) (fun _ _ _ h => h) (gRun rfl (.bool true) fun _ h => run_mvZ (.tmp 37) rfl (.bool true) rfl) trivial ?_
    simp only [Act.put, List.setIfInBounds_toArray, List.set_cons_succ, List.set_cons_zero]
    refine takeH (i := 9) (some 39) rfl rfl (by kernel_rfl) (by kernel_rfl) (by kernel_rfl) (fun _ _ _ h => h) (gRun (by kernel_rfl) (.bool false) fun _ h => run_mvZ (.tmp 9) rfl (.bool false) rfl) trivial ?_
    simp only [Act.put, List.setIfInBounds_toArray, List.set_cons_succ, List.set_cons_zero]
    refine takeH (i := 10) (some 40) rfl rfl (by kernel_rfl) (by kernel_rfl) (by kernel_rfl) (fun _ _ _ h => h) (gRun (by kernel_rfl) (.bool true) fun _ h => run_not (.tmp 39) 4 rfl false rfl) trivial ?_
    simp only [Act.put, List.setIfInBounds_toArray, List.set_cons_succ, List.set_cons_zero]
    refine takeH (i := 11) (some 41) rfl rfl (by kernel_rfl) (by kernel_rfl) (by kernel_rfl) (fun _ _ _ h => h) (gRun (by kernel_rfl) (.bool true) fun _ h => run_mvZ (.tmp 40) rfl (.bool true) rfl) trivial ?_
    simp only [Act.put, List.setIfInBounds_toArray, List.set_cons_succ, List.set_cons_zero]
    refine takeH (i := 12) (some 42) rfl rfl (by kernel_rfl) (by kernel_rfl) (by kernel_rfl) (fun _ _ _ h => h) (Or.inr ⟨by kernel_rfl, rfl⟩) trivial ?_
    simp only [Act.put, List.setIfInBounds_toArray, List.set_cons_succ, List.set_cons_zero]
    refine takeH (i := 13) (some 43) rfl rfl (by kernel_rfl) (by kernel_rfl) (by kernel_rfl) (fun _ _ _ h => h) (Or.inr ⟨by kernel_rfl, rfl⟩) trivial ?_
    simp only [Act.put, List.setIfInBounds_toArray, List.set_cons_succ, List.set_cons_zero]
    refine takeH (i := 14) (some 44) rfl rfl (by kernel_rfl) (by kernel_rfl) (by kernel_rfl) (fun _ _ _ h => h) (Or.inr ⟨by kernel_rfl, rfl⟩) trivial ?_
    simp only [Act.put, List.setIfInBounds_toArray, List.set_cons_succ, List.set_cons_zero]
    refine takeH (i := 15) (some 45) rfl rfl (by kernel_rfl) (by kernel_rfl) (by kernel_rfl) (fun _ _ _ h => h) (Or.inr ⟨by kernel_rfl, rfl⟩) trivial ?_
    simp only [Act.put, List.setIfInBounds_toArray, List.set_cons_succ, List.set_cons_zero]
    refine takeH (i := 16) (some 46) rfl rfl (by kernel_rfl) (by kernel_rfl) (by kernel_rfl) (fun _ _ _ h => h) (Or.inr ⟨by kernel_rfl, rfl⟩) trivial ?_
    simp only [Act.put, List.setIfInBounds_toArray, List.set_cons_succ, List.set_cons_zero]
    refine takeH (i := 17) (some 47) rfl rfl (by kernel_rfl) (by kernel_rfl) (by kernel_rfl) (fun _ _ _ h => h) (Or.inr ⟨by kernel_rfl, rfl⟩) trivial ?_
    simp only [Act.put, List.setIfInBounds_toArray, List.set_cons_succ, List.set_cons_zero]
    refine takeH (i := 18) (some 48) rfl rfl (by kernel_rfl) (by kernel_rfl) (by kernel_rfl) (fun _ _ _ h => h) (gRun (by kernel_rfl) (.bool true) fun _ h => run_pickZ (.tmp 41) (.const (.bool true)) (.tmp 47) rfl true (.bool true) rfl rfl) trivial ?_
    simp only [Act.put, List.setIfInBounds_toArray, List.set_cons_succ, List.set_cons_zero]
    refine takeH (i := 19) (some 49) rfl rfl (by kernel_rfl) (by kernel_rfl) (by kernel_rfl) (fun _ _ _ h => h) (gRun rfl (.bool true) fun _ h => run_pickZ (.tmp 38) (.tmp 48) (.const (.bool false)) rfl true (.bool true) rfl rfl) trivial ?_
    simp only [Act.put, List.setIfInBounds_toArray, List.set_cons_succ, List.set_cons_zero]
    refine takeH (i := 20) (some 50) rfl rfl (by kernel_rfl) (by kernel_rfl) (by kernel_rfl) (fun _ _ _ h => h) (gRun rfl (.bool true) fun _ h => run_mvZ (.tmp 49) rfl (.bool true) rfl) trivial ?_
    simp only [Act.put, List.setIfInBounds_toArray, List.set_cons_succ, List.set_cons_zero]
    refine takeH (i := 21) (some 51) rfl rfl (by kernel_rfl) (by kernel_rfl) (by kernel_rfl) (fun _ _ _ h => h) (gRun (by kernel_rfl) vs fun _ h => run_mvZ (.tmp 6) rfl vs rfl) trivial ?_
    simp only [Act.put, List.setIfInBounds_toArray, List.set_cons_succ, List.set_cons_zero]
    refine takeH (i := 22) (some 52) rfl rfl (by kernel_rfl) (by kernel_rfl) (by kernel_rfl) (fun _ _ _ h => h) (gRun (by kernel_rfl) (.int .i64 0) fun _ h => run_lenO HS.out.1 sl38 (.tmp 51) rfl rfl) trivial ?_
    simp only [Act.put, List.setIfInBounds_toArray, List.set_cons_succ, List.set_cons_zero]
    refine takeH (i := 23) (some 53) rfl rfl (by kernel_rfl) (by kernel_rfl) (by kernel_rfl) (fun _ _ _ h => h) (gRun (by kernel_rfl) (.bool true) fun _ h => run_leqZ (.tmp 52) (.const (.int .i64 1)) rfl 0 1 rfl rfl true rfl) trivial ?_
    simp only [Act.put, List.setIfInBounds_toArray, List.set_cons_succ, List.set_cons_zero]
    refine takeH (i := 24) (some 54) rfl rfl (by kernel_rfl) (by kernel_rfl) (by kernel_rfl) (fun _ _ _ h => h) (gRun rfl (.bool true) fun _ h => run_pickZ (.tmp 50) (.tmp 53) (.const (.bool false)) rfl true (.bool true) rfl rfl) trivial ?_
    simp only [Act.put, List.setIfInBounds_toArray, List.set_cons_succ, List.set_cons_zero]
    refine takeH (i := 25) (some 4) rfl rfl (by kernel_rfl) (by kernel_rfl) (by kernel_rfl) (fun _ _ _ h => h) (gRun rfl (.bool true) fun _ h => run_asZ (.tmp 54) rfl (.bool true) rfl) trivial ?_
    simp only [Act.put, List.setIfInBounds_toArray, List.set_cons_succ, List.set_cons_zero]
    refine wpAnyH_done (by kernel_rfl) ?_ _
    go_wp2_with fail
    first | (rw [HPQ.out]; exact ⟨rfl, HBX.out⟩) | (go_ret; rw [HPQ.out]; exact ⟨rfl, HBX.out⟩)
  have e_ : p2 = true := by cases p2 <;> first | rfl | exact absurd rfl h_
  subst e_
  clear h_
  go_upto_region 6 with fail
  refine wp_region_lit ?_
  refine wl rfl (.int .i64 er) _ (run_mvZ (.tmp 8) rfl (.int .i64 er) rfl) ?_
  simp only [Act.put, List.setIfInBounds_toArray, List.set_cons_succ, List.set_cons_zero]
  refine wl rfl (.bool true) _ (run_eqZ (.tmp 23) (.const (.int .i64 0)) rfl er 0 rfl rfl true HP.out.1) ?_
  simp only [Act.put, List.setIfInBounds_toArray, List.set_cons_succ, List.set_cons_zero]
  refine wl rfl (.bool true) _ (run_mvZ (.tmp 24) rfl (.bool true) rfl) ?_
  simp only [Act.put, List.setIfInBounds_toArray, List.set_cons_succ, List.set_cons_zero]
  refine wl (by kernel_rfl) (.pointer (some ⟨q1, 0 + 35, none⟩)) _ (run_fieldOp' f26_4 (.tmp 2) rfl q1 (0) rfl) ?_
  simp only [Act.put, List.setIfInBounds_toArray, List.set_cons_succ, List.set_cons_zero]
  refine wl (by kernel_rfl) (.int .i64 ex) _ (run_load1 o3 (.tmp 26) rfl q1 (0 + 35) rfl (.int .i64 ex) (Rw7.out.fld 0 rfl (HF.out.1.rok).root 1 _ (by rw [HP.out.2.2.2]; rfl))) ?_
  simp only [Act.put, List.setIfInBounds_toArray, List.set_cons_succ, List.set_cons_zero]
  refine wl (by kernel_rfl) (.bool true) _ (run_gtrZ (.tmp 27) (.const (.int .i64 0)) rfl ex 0 rfl rfl true HP.out.2.1) ?_
  simp only [Act.put, List.setIfInBounds_toArray, List.set_cons_succ, List.set_cons_zero]
  refine wl rfl (.bool true) _ (run_pickZ (.tmp 25) (.tmp 28) (.const (.bool false)) rfl true (.bool true) rfl rfl) ?_
  simp only [Act.put, List.setIfInBounds_toArray, List.set_cons_succ, List.set_cons_zero]
  refine wl rfl (.bool true) _ (run_asZ (.tmp 29) rfl (.bool true) rfl) ?_
  simp only [Act.put, List.setIfInBounds_toArray, List.set_cons_succ, List.set_cons_zero]
  refine wpList_nil ?_
  obtain rfl := due_yes HS.out.2 HP.out.2.2.1
  obtain ⟨b1, i1_, c1_⟩ := HS.out.1.ix 0 (by simp)
  have HX : Hid (∀ w', (Instr.indexAt 38 vs (.int .i64 0)).run Try.prog w' = .ok (.pointer (some ⟨b1, 0, none⟩)) w') := i1_
  have HZ : Hid (w7.cell? ⟨q1, 0 + 0, none⟩ = some (.string r.id) ∧ w7.cell? ⟨b1, 0, none⟩ = some (.string r.id)) := ⟨Rw7.out.fid 0 rfl, c1_⟩
  clear i1_ c1_
  go_upto_region 7 with fail
  refine wp_region_held (S := fun X => X.cell? ⟨q1, 0 + 0, none⟩ = some (.string r.id) ∧ X.cell? ⟨b1, 0, none⟩ = some (.string r.id)) (by kernel_rfl) ?_
  show wpAnyH _ _ _ _ _ 26 (Array.replicate 26 false) _ _
  obtain ⟨X, hX⟩ : ∃ X : World, X = { w7 with drawn := w7.drawn + 1 } := ⟨_, rfl⟩
  rw [← hX]
  have HZX : Hid (X.cell? ⟨q1, 0 + 0, none⟩ = some (.string r.id) ∧ X.cell? ⟨b1, 0, none⟩ = some (.string r.id)) := by rw [hX]; exact HZ.out
  have HBX : Hid (Below w.heap.size w X) := by rw [hX]; exact Below.drewN Rw7.out.below 1
  clear hX
  refine takeH (i := 0) (some 30) rfl rfl (by kernel_rfl) (by kernel_rfl) (by kernel_rfl) (fun _ _ _ h => h) (gRun rfl (.bool true) fun _ h => run_mvZ (.tmp 5) rfl (.bool true) rfl) HZX.out ?_
  simp only [Act.put, List.setIfInBounds_toArray, List.set_cons_succ, List.set_cons_zero]
  refine takeH (i := 1) (some 31) rfl rfl (by kernel_rfl) (by kernel_rfl) (by kernel_rfl) (fun _ _ _ h => h) (gRun rfl (.bool true) fun _ h => run_mvZ (.tmp 30) rfl (.bool true) rfl) HZX.out ?_
  simp only [Act.put, List.setIfInBounds_toArray, List.set_cons_succ, List.set_cons_zero]
  refine takeH (i := 2) (some 32) rfl rfl (by kernel_rfl) (by kernel_rfl) (by kernel_rfl) (fun _ _ _ h => h) (gRun (by kernel_rfl) vs fun _ h => run_mvZ (.tmp 6) rfl vs rfl) HZX.out ?_
  simp only [Act.put, List.setIfInBounds_toArray, List.set_cons_succ, List.set_cons_zero]
  refine takeH (i := 3) (some 33) rfl rfl (by kernel_rfl) (by kernel_rfl) (by kernel_rfl) (fun _ _ _ h => h) (gRun (by kernel_rfl) (.int .i64 1) fun _ h => run_lenO HS.out.1 sl38 (.tmp 32) rfl rfl) HZX.out ?_
  simp only [Act.put, List.setIfInBounds_toArray, List.set_cons_succ, List.set_cons_zero]
  refine takeH (i := 4) (some 34) rfl rfl (by kernel_rfl) (by kernel_rfl) (by kernel_rfl) (fun _ _ _ h => h) (gRun (by kernel_rfl) (.bool true) fun _ h => run_eqZ (.tmp 33) (.const (.int .i64 1)) rfl (1) (1) rfl rfl true rfl) HZX.out ?_
  simp only [Act.put, List.setIfInBounds_toArray, List.set_cons_succ, List.set_cons_zero]
  refine takeH (i := 5) (some 35) rfl rfl (by kernel_rfl) (by kernel_rfl) (by kernel_rfl) (fun _ _ _ h => h) (gRun (by kernel_rfl) (.bool true) fun _ h => run_mvZ (.tmp 9) rfl (.bool true) rfl) HZX.out ?_
  simp only [Act.put, List.setIfInBounds_toArray, List.set_cons_succ, List.set_cons_zero]
  refine takeH (i := 6) (some 36) rfl rfl (by kernel_rfl) (by kernel_rfl) (by kernel_rfl) (fun _ _ _ h => h) (gRun (by kernel_rfl) (.bool true) fun _ h => rx_eqBool (.tmp 34) (.tmp 35) rfl true true rfl rfl true rfl) HZX.out ?_
  simp only [Act.put, List.setIfInBounds_toArray, List.set_cons_succ, List.set_cons_zero]
  refine takeH (i := 7) (some 37) rfl rfl (by kernel_rfl) (by kernel_rfl) (by kernel_rfl) (fun _ _ _ h => h) (gRun rfl (.bool true) fun _ h => run_pickZ (.tmp 31) (.tmp 36) (.const (.bool false)) rfl true (.bool true) rfl rfl) HZX.out ?_
  simp only [Act.put, List.setIfInBounds_toArray, List.set_cons_succ, List.set_cons_zero]
  refine takeH (i := 8) (some 38) rfl rfl (by kernel_rfl) (by kernel_rfl) (by kernel_rfl) (fun _ _ _ h => h) (gRun rfl (.bool true) fun _ h => run_mvZ (.tmp 37) rfl (.bool true) rfl) HZX.out ?_
  simp only [Act.put, List.setIfInBounds_toArray, List.set_cons_succ, List.set_cons_zero]
  refine takeH (i := 9) (some 39) rfl rfl (by kernel_rfl) (by kernel_rfl) (by kernel_rfl) (fun _ _ _ h => h) (gRun (by kernel_rfl) (.bool true) fun _ h => run_mvZ (.tmp 9) rfl (.bool true) rfl) HZX.out ?_
  simp only [Act.put, List.setIfInBounds_toArray, List.set_cons_succ, List.set_cons_zero]
  refine takeH (i := 10) (some 40) rfl rfl (by kernel_rfl) (by kernel_rfl) (by kernel_rfl) (fun _ _ _ h => h) (gRun (by kernel_rfl) (.bool false) fun _ h => run_not (.tmp 39) 4 rfl true rfl) HZX.out ?_
  simp only [Act.put, List.setIfInBounds_toArray, List.set_cons_succ, List.set_cons_zero]
  refine takeH (i := 11) (some 41) rfl rfl (by kernel_rfl) (by kernel_rfl) (by kernel_rfl) (fun _ _ _ h => h) (gRun (by kernel_rfl) (.bool false) fun _ h => run_mvZ (.tmp 40) rfl (.bool false) rfl) HZX.out ?_
  simp only [Act.put, List.setIfInBounds_toArray, List.set_cons_succ, List.set_cons_zero]
  refine takeH (i := 12) (some 42) rfl rfl (by kernel_rfl) (by kernel_rfl) (by kernel_rfl) (fun _ _ _ h => h) (gRun (by kernel_rfl) vs fun _ h => run_mvZ (.tmp 6) rfl vs rfl) HZX.out ?_
  simp only [Act.put, List.setIfInBounds_toArray, List.set_cons_succ, List.set_cons_zero]
  refine takeH (i := 13) (some 43) rfl rfl (by kernel_rfl) (by kernel_rfl) (by kernel_rfl) (fun _ _ _ h => h) (gRun (by kernel_rfl) (.pointer (some ⟨b1, 0, none⟩)) fun _ h => run_idx (.tmp 42) (.const (.int .i64 0)) rfl vs _ _ rfl rfl HX.out) HZX.out ?_
  simp only [Act.put, List.setIfInBounds_toArray, List.set_cons_succ, List.set_cons_zero]
  refine takeH (i := 14) (some 44) rfl rfl (by kernel_rfl) (by kernel_rfl) (by kernel_rfl) (fun _ _ _ h => h) (gRun (by kernel_rfl) (.string r.id) fun _ h => run_load1 o9 (.tmp 43) rfl b1 (0) rfl (.string r.id) h.2) HZX.out ?_
  simp only [Act.put, List.setIfInBounds_toArray, List.set_cons_succ, List.set_cons_zero]
  refine takeH (i := 15) (some 45) rfl rfl (by kernel_rfl) (by kernel_rfl) (by kernel_rfl) (fun _ _ _ h => h) (gRun (by kernel_rfl) (.pointer (some ⟨q1, 0 + 0, none⟩)) fun _ h => run_fieldOp' f26_0 (.tmp 2) rfl q1 (0) rfl) HZX.out ?_
  simp only [Act.put, List.setIfInBounds_toArray, List.set_cons_succ, List.set_cons_zero]
  refine takeH (i := 16) (some 46) rfl rfl (by kernel_rfl) (by kernel_rfl) (by kernel_rfl) (fun _ _ _ h => h) (gRun (by kernel_rfl) (.string r.id) fun _ h => run_load1 o9 (.tmp 45) rfl q1 (0 + 0) rfl (.string r.id) h.1) HZX.out ?_
  simp only [Act.put, List.setIfInBounds_toArray, List.set_cons_succ, List.set_cons_zero]
  refine takeH (i := 17) (some 47) rfl rfl (by kernel_rfl) (by kernel_rfl) (by kernel_rfl) (fun _ _ _ h => h) (gRun (by kernel_rfl) (.bool true) fun _ h => run_eqSS (.tmp 44) (.tmp 46) rfl r.id rfl rfl) HZX.out ?_
  simp only [Act.put, List.setIfInBounds_toArray, List.set_cons_succ, List.set_cons_zero]
  refine takeH (i := 18) (some 48) rfl rfl (by kernel_rfl) (by kernel_rfl) (by kernel_rfl) (fun _ _ _ h => h) (gRun (by kernel_rfl) (.bool true) fun _ h => run_pickZ (.tmp 41) (.const (.bool true)) (.tmp 47) rfl false (.bool true) rfl rfl) HZX.out ?_
  simp only [Act.put, List.setIfInBounds_toArray, List.set_cons_succ, List.set_cons_zero]
  refine takeH (i := 19) (some 49) rfl rfl (by kernel_rfl) (by kernel_rfl) (by kernel_rfl) (fun _ _ _ h => h) (gRun rfl (.bool true) fun _ h => run_pickZ (.tmp 38) (.tmp 48) (.const (.bool false)) rfl true (.bool true) rfl rfl) HZX.out ?_
  simp only [Act.put, List.setIfInBounds_toArray, List.set_cons_succ, List.set_cons_zero]
  refine takeH (i := 20) (some 50) rfl rfl (by kernel_rfl) (by kernel_rfl) (by kernel_rfl) (fun _ _ _ h => h) (gRun rfl (.bool true) fun _ h => run_mvZ (.tmp 49) rfl (.bool true) rfl) HZX.out ?_
  simp only [Act.put, List.setIfInBounds_toArray, List.set_cons_succ, List.set_cons_zero]
  refine takeH (i := 21) (some 51) rfl rfl (by kernel_rfl) (by kernel_rfl) (by kernel_rfl) (fun _ _ _ h => h) (gRun (by kernel_rfl) vs fun _ h => run_mvZ (.tmp 6) rfl vs rfl) HZX.out ?_
  simp only [Act.put, List.setIfInBounds_toArray, List.set_cons_succ, List.set_cons_zero]
  refine takeH (i := 22) (some 52) rfl rfl (by kernel_rfl) (by kernel_rfl) (by kernel_rfl) (fun _ _ _ h => h) (gRun (by kernel_rfl) (.int .i64 1) fun _ h => run_lenO HS.out.1 sl38 (.tmp 51) rfl rfl) HZX.out ?_
  simp only [Act.put, List.setIfInBounds_toArray, List.set_cons_succ, List.set_cons_zero]
  refine takeH (i := 23) (some 53) rfl rfl (by kernel_rfl) (by kernel_rfl) (by kernel_rfl) (fun _ _ _ h => h) (gRun (by kernel_rfl) (.bool true) fun _ h => run_leqZ (.tmp 52) (.const (.int .i64 1)) rfl 1 1 rfl rfl true rfl) HZX.out ?_
  simp only [Act.put, List.setIfInBounds_toArray, List.set_cons_succ, List.set_cons_zero]
  refine takeH (i := 24) (some 54) rfl rfl (by kernel_rfl) (by kernel_rfl) (by kernel_rfl) (fun _ _ _ h => h) (gRun rfl (.bool true) fun _ h => run_pickZ (.tmp 50) (.tmp 53) (.const (.bool false)) rfl true (.bool true) rfl rfl) HZX.out ?_
  simp only [Act.put, List.setIfInBounds_toArray, List.set_cons_succ, List.set_cons_zero]
  refine takeH (i := 25) (some 4) rfl rfl (by kernel_rfl) (by kernel_rfl) (by kernel_rfl) (fun _ _ _ h => h) (gRun rfl (.bool true) fun _ h => run_asZ (.tmp 54) rfl (.bool true) rfl) HZX.out ?_
  simp only [Act.put, List.setIfInBounds_toArray, List.set_cons_succ, List.set_cons_zero]
  refine wpAnyH_done (by kernel_rfl) ?_ _
  go_wp2_with fail
  first | (rw [HPQ.out]; exact ⟨rfl, HBX.out⟩) | (go_ret; rw [HPQ.out]; exact ⟨rfl, HBX.out⟩)
set_option maxHeartbeats 4000000 in
set_option maxRecDepth 100000 in
theorem dues_any (l : List Rv) (vl : Value) (now : Int) (w : World) (hin : RsIn w vl l) (hfit : ∀ x ∈ l, Fits w x.r x.v) (hz : (l.length + 1) * 104 ≤ 140737488355328) : Calls Try.prog 6 #[vl, .int .i64 now] w fun e w' => e = .returned (.bool true) ∧ Below w.heap.size w w' := by
  obtain ⟨n, hn⟩ : ∃ n, n = l.length := ⟨_, rfl⟩
  have HF : Hid (RsIn w vl l ∧ n = l.length ∧ (n + 1) * 104 ≤ 140737488355328 ∧ n ≤ 9223372036854775807 ∧ ∀ x ∈ l, Fits w x.r x.v) := ⟨hin, hn, by rw [hn]; exact hz, by omega, hfit⟩
  clear hin hz hn hfit
  obtain ⟨PQ, hPQ⟩ : ∃ PQ : Ending → World → Prop, PQ = fun (e : Ending) (w' : World) => e = .returned (.bool true) ∧ Below w.heap.size w w' := ⟨_, rfl⟩
  have HPQ : Hid (PQ = fun (e : Ending) (w' : World) => e = .returned (.bool true) ∧ Below w.heap.size w w') := hPQ
  rw [← hPQ]
  clear hPQ
  have R0 : Hid (Loc w w []) := Loc.nil (Below.refl _ w)
  go_enter Try.func6, Try.ntmps6
  go_upto_region 0 with fail
  refine wp_region_lit ?_
  refine wl rfl (.bool false) _ (run_asZ (.const (.bool false)) rfl (.bool false) rfl) ?_
  simp only [Act.put, List.setIfInBounds_toArray, List.set_cons_succ, List.set_cons_zero]
  refine wpList_nil ?_
  go_upto_region 1 with fail
  refine wp_region_lit ?_
  refine wpList_callW eN9 [] _ rfl rfl [] rfl ?_
  refine (shown_any w).mono ?_
  rintro e w1 ⟨rfl, b_⟩
  refine ⟨_, rfl, ?_⟩
  have Rw1 : Hid (Loc w w1 []) := R0.out.later b_
  clear R0 b_
  simp only [Act.put, List.setIfInBounds_toArray, List.set_cons_succ, List.set_cons_zero]
  refine wl rfl (.bool true) _ (run_asZ (.tmp 11) rfl (.bool true) rfl) ?_
  simp only [Act.put, List.setIfInBounds_toArray, List.set_cons_succ, List.set_cons_zero]
  refine wpList_nil ?_
  go_upto_region 2 with fail
  refine wp_region_lit ?_
  refine wl rfl (.bool true) _ (run_mvZ (.tmp 5) rfl (.bool true) rfl) ?_
  simp only [Act.put, List.setIfInBounds_toArray, List.set_cons_succ, List.set_cons_zero]
  refine wl rfl (.bool false) _ (run_not (.tmp 12) 4 rfl true rfl) ?_
  simp only [Act.put, List.setIfInBounds_toArray, List.set_cons_succ, List.set_cons_zero]
  refine wpList_nil ?_
  go_upto_region 4 with fail
  refine wp_region_lit ?_
  refine wl rfl (.slice (some ⟨w1.heap.size, 0, none⟩) 0 0) _ (run_lit0R rfl) ?_
  have o_ := ROwn.lit0 w1 w.heap.size Rw1.out.below.size
  have b_ := below_alloc w1 (.cells #[] 26)
  obtain ⟨w2, hW_⟩ : ∃ U_ : World, U_ = w1.alloc (.cells #[] 26) := ⟨_, rfl⟩
  obtain ⟨va, hv_⟩ : ∃ v : Value, v = .slice (some ⟨w1.heap.size, 0, none⟩) 0 0 := ⟨_, rfl⟩
  rw [← hW_, ← hv_] at o_
  rw [← hW_] at b_
  rw [← hW_, ← hv_]
  have HO : Hid (ROwn w2 w.heap.size va []) := o_
  clear o_ hW_ hv_
  have Rw2 : Hid (Loc w w2 []) := Rw1.out.later b_
  clear Rw1 b_
  simp only [Act.put, List.setIfInBounds_toArray, List.set_cons_succ, List.set_cons_zero]
  refine wl rfl vl _ (run_mvZ (.tmp 0) rfl vl rfl) ?_
  simp only [Act.put, List.setIfInBounds_toArray, List.set_cons_succ, List.set_cons_zero]
  obtain ⟨v6, w3, hr_, o_, g_⟩ := HO.out.app_in (HF.out.1.later Rw2.out.below) 37 (by have := HF.out.2.1; have := HF.out.2.2.1; simp only [List.length_nil]; omega) Rw2.out.below.size
  refine wl rfl v6 _ (run_append (.tmp 14) (.tmp 15) rfl va vl v6 rfl rfl hr_) ?_
  have HL : Hid (ROwn w3 w.heap.size v6 l) := o_
  have Rw3 : Hid (Loc w w3 []) := Loc.nil (Rw2.out.below.grown g_ Rw2.out.below.size fun k hk => (HO.out.1.lt k hk).1)
  clear Rw2 hr_ o_ g_ HO
  simp only [Act.put, List.setIfInBounds_toArray, List.set_cons_succ, List.set_cons_zero]
  refine wl rfl v6 _ (run_asZ (.tmp 16) rfl v6 rfl) ?_
  simp only [Act.put, List.setIfInBounds_toArray, List.set_cons_succ, List.set_cons_zero]
  refine wpList_nil ?_
  go_upto_region 5 with fail
  refine wp_region_lit ?_
  refine wl rfl v6 _ (run_mvZ (.tmp 6) rfl v6 rfl) ?_
  simp only [Act.put, List.setIfInBounds_toArray, List.set_cons_succ, List.set_cons_zero]
  refine wl rfl (.int .i64 now) _ (run_mvZ (.tmp 1) rfl (.int .i64 now) rfl) ?_
  simp only [Act.put, List.setIfInBounds_toArray, List.set_cons_succ, List.set_cons_zero]
  refine wpList_callW eN19 [.tmp 17, .tmp 18] _ rfl rfl [v6, .int .i64 now] rfl ?_
  refine (due_any l v6 now w3 (HL.out.isIn (by rw [← HF.out.2.1]; exact HF.out.2.2.2.1)) (by rw [← HF.out.2.1]; exact HF.out.2.2.1)).mono ?_
  rintro e w4 ⟨va1, out1, rfl, o_, d_, b_⟩
  refine ⟨_, rfl, ?_⟩
  have HLx : Hid (ROwn w4 w.heap.size v6 l) := HL.out.later b_
  clear HL
  have HL := HLx
  clear HLx
  have HA : Hid (SOwn w4 0 va1 out1 ∧ IsDue now (l.map (·.r)) out1) := ⟨own_weaken o_ (Nat.zero_le _), d_⟩
  clear o_ d_
  have Rw4 : Hid (Loc w w4 []) := Rw3.out.later b_
  clear Rw3 b_
  simp only [Act.put, List.setIfInBounds_toArray, List.set_cons_succ, List.set_cons_zero]
  refine wl rfl va1 _ (run_asZ (.tmp 19) rfl va1 rfl) ?_
  simp only [Act.put, List.setIfInBounds_toArray, List.set_cons_succ, List.set_cons_zero]
  refine wpList_nil ?_
  go_upto_region 6 with fail
  refine wp_region_lit ?_
  refine wl rfl vl _ (run_mvZ (.tmp 0) rfl vl rfl) ?_
  simp only [Act.put, List.setIfInBounds_toArray, List.set_cons_succ, List.set_cons_zero]
  refine wl rfl (.int .i64 now) _ (run_mvZ (.tmp 1) rfl (.int .i64 now) rfl) ?_
  simp only [Act.put, List.setIfInBounds_toArray, List.set_cons_succ, List.set_cons_zero]
  refine wpList_callW eN20 [.tmp 20, .tmp 21] _ rfl rfl [vl, .int .i64 now] rfl ?_
  refine (rdue_any l vl now w4 (HF.out.1.later Rw4.out.below) (by rw [← HF.out.2.1]; exact HF.out.2.2.1)).mono ?_
  rintro e w5 ⟨vb1, out2, rfl, o_, d_, b_⟩
  refine ⟨_, rfl, ?_⟩
  obtain rfl := HA.out.2.unique d_
  have HLx : Hid (ROwn w5 w.heap.size v6 l) := HL.out.later b_
  clear HL
  have HL := HLx
  clear HLx
  have HAx : Hid (SOwn w5 0 va1 out1 ∧ IsDue now (l.map (·.r)) out1) := ⟨HA.out.1.later b_, HA.out.2⟩
  clear HA
  have HA := HAx
  clear HAx
  have HB : Hid (SOwn w5 0 vb1 out1 ∧ IsDue now (l.map (·.r)) out1) := ⟨own_weaken o_ (Nat.zero_le _), d_⟩
  clear o_ d_
  have Rw5 : Hid (Loc w w5 []) := Rw4.out.later b_
  clear Rw4 b_
  simp only [Act.put, List.setIfInBounds_toArray, List.set_cons_succ, List.set_cons_zero]
  refine wl rfl vb1 _ (run_asZ (.tmp 22) rfl vb1 rfl) ?_
  simp only [Act.put, List.setIfInBounds_toArray, List.set_cons_succ, List.set_cons_zero]
  refine wpList_nil ?_
  obtain ⟨m, hm⟩ : ∃ m, m = out1.length := ⟨_, rfl⟩
  have HM : Hid (m = out1.length ∧ m ≤ 9223372036854775807) := ⟨hm, by have h1 := HA.out.1.1; rcases HA.out.1.2 with ⟨_, h⟩ | ⟨_, cap, _, _, _, _, h, h2, _⟩ <;> unfold maxLen at * <;> omega⟩
  clear hm
  go_upto_region 7 with fail
  refine wp_region_lit ?_
  refine wl rfl va1 _ (run_mvZ (.tmp 7) rfl va1 rfl) ?_
  simp only [Act.put, List.setIfInBounds_toArray, List.set_cons_succ, List.set_cons_zero]
  refine wl rfl (.int .i64 (m : Nat)) _ ((by rw [HM.out.1]; exact run_lenO HA.out.1 sl38 (.tmp 23) rfl rfl)) ?_
  simp only [Act.put, List.setIfInBounds_toArray, List.set_cons_succ, List.set_cons_zero]
  refine wl rfl vb1 _ (run_mvZ (.tmp 8) rfl vb1 rfl) ?_
  simp only [Act.put, List.setIfInBounds_toArray, List.set_cons_succ, List.set_cons_zero]
  refine wl rfl (.int .i64 (m : Nat)) _ ((by rw [HM.out.1]; exact run_lenO HB.out.1 sl38 (.tmp 25) rfl rfl)) ?_
  simp only [Act.put, List.setIfInBounds_toArray, List.set_cons_succ, List.set_cons_zero]
  refine wl rfl (.bool false) _ (run_neII (.tmp 24) (.tmp 26) rfl (m : Nat) rfl rfl) ?_
  simp only [Act.put, List.setIfInBounds_toArray, List.set_cons_succ, List.set_cons_zero]
  refine wpList_nil ?_
  go_upto_region 9 with fail
  refine wp_region_lit ?_
  refine wl rfl (.int .i64 0) _ (run_asZ (.const (.int .i64 0)) rfl (.int .i64 0) rfl) ?_
  simp only [Act.put, List.setIfInBounds_toArray, List.set_cons_succ, List.set_cons_zero]
  refine wpList_nil ?_
  go_wp2_with fail
  go_loopw [9] (fun v9 W => ∃ k : Nat, v9 = .int .i64 (k : Nat) ∧ k ≤ m ∧ Hid (Below w5.heap.size w5 W)) (fun v9 _ => m - (intOf v9).toNat)
  case atStart => exact ⟨0, rfl, Nat.zero_le _, Below.refl _ _⟩
  case round =>
    obtain ⟨k, rfl, hk, HQ⟩ := hrel
    by_cases hlt : k < m
    · have HD : Hid (decide (k < m) = true) := decide_eq_true hlt
      go_upto_region 10 with fail
      refine wp_region_lit ?_
      refine wl rfl (.int .i64 (k : Nat)) _ (run_mvZ (.tmp 9) rfl (.int .i64 (k : Nat)) rfl) ?_
      simp only [Act.put, List.setIfInBounds_toArray, List.set_cons_succ, List.set_cons_zero]
      refine wl rfl va1 _ (run_mvZ (.tmp 7) rfl va1 rfl) ?_
      simp only [Act.put, List.setIfInBounds_toArray, List.set_cons_succ, List.set_cons_zero]
      refine wl rfl (.int .i64 (m : Nat)) _ ((by rw [HM.out.1]; exact run_lenO HA.out.1 sl38 (.tmp 29) rfl rfl)) ?_
      simp only [Act.put, List.setIfInBounds_toArray, List.set_cons_succ, List.set_cons_zero]
      refine wl rfl (.bool true) _ (run_lssN (.tmp 28) (.tmp 30) rfl k m rfl rfl true HD.out) ?_
      simp only [Act.put, List.setIfInBounds_toArray, List.set_cons_succ, List.set_cons_zero]
      refine wpList_nil ?_
      obtain ⟨b1, i1_, c1_⟩ := HA.out.1.ix k (by rw [← HM.out.1]; exact hlt)
      obtain ⟨b2, i2_, c2_⟩ := HB.out.1.ix k (by rw [← HM.out.1]; exact hlt)
      obtain ⟨s, hs_⟩ : ∃ s, s = out1[k]'(by rw [← HM.out.1]; exact hlt) := ⟨_, rfl⟩
      rw [← hs_] at c1_ c2_
      have HX : Hid ((∀ w', (Instr.indexAt 38 va1 (.int .i64 (k : Nat))).run Try.prog w' = .ok (.pointer (some ⟨b1, k, none⟩)) w') ∧ ∀ w', (Instr.indexAt 38 vb1 (.int .i64 (k : Nat))).run Try.prog w' = .ok (.pointer (some ⟨b2, k, none⟩)) w') := ⟨i1_, i2_⟩
      have HZ : Hid (wr.cell? ⟨b1, k, none⟩ = some (.string s) ∧ wr.cell? ⟨b2, k, none⟩ = some (.string s)) := ⟨cell_later c1_ HQ.out, cell_later c2_ HQ.out⟩
      clear i1_ i2_ c1_ c2_ hs_
      go_upto_region 12 with fail
      refine wp_region_held (S := fun X => X.cell? ⟨b1, k, none⟩ = some (.string s) ∧ X.cell? ⟨b2, k, none⟩ = some (.string s)) (by kernel_rfl) ?_
      show wpAnyH _ _ _ _ _ 9 (Array.replicate 9 false) _ _
      obtain ⟨X, hX⟩ : ∃ X : World, X = { wr with drawn := wr.drawn + 1 } := ⟨_, rfl⟩
      rw [← hX]
      have HZX : Hid (X.cell? ⟨b1, k, none⟩ = some (.string s) ∧ X.cell? ⟨b2, k, none⟩ = some (.string s)) := by rw [hX]; exact HZ.out
      have HT : Hid (Below w5.heap.size w5 X) := by rw [hX]; exact Below.drewN HQ.out 1
      clear hX
      refine takeH (i := 0) (some 34) rfl rfl (by kernel_rfl) (by kernel_rfl) (by kernel_rfl) (fun _ _ _ h => h) (gRun rfl va1 fun _ h => run_mvZ (.tmp 7) rfl va1 rfl) HZX.out ?_
      simp only [Act.put, List.setIfInBounds_toArray, List.set_cons_succ, List.set_cons_zero]
      refine takeH (i := 1) (some 35) rfl rfl (by kernel_rfl) (by kernel_rfl) (by kernel_rfl) (fun _ _ _ h => h) (gRun rfl (.int .i64 (k : Nat)) fun _ h => run_mvZ (.tmp 9) rfl (.int .i64 (k : Nat)) rfl) HZX.out ?_
      simp only [Act.put, List.setIfInBounds_toArray, List.set_cons_succ, List.set_cons_zero]
      refine takeH (i := 2) (some 36) rfl rfl (by kernel_rfl) (by kernel_rfl) (by kernel_rfl) (fun _ _ _ h => h) (gRun rfl (.pointer (some ⟨b1, k, none⟩)) fun _ h => run_idx (.tmp 34) (.tmp 35) rfl va1 _ _ rfl rfl HX.out.1) HZX.out ?_
      simp only [Act.put, List.setIfInBounds_toArray, List.set_cons_succ, List.set_cons_zero]
      refine takeH (i := 3) (some 37) rfl rfl (by kernel_rfl) (by kernel_rfl) (by kernel_rfl) (fun _ _ _ h => h) (gRun rfl (.string s) fun _ h => run_load1 o9 (.tmp 36) rfl b1 (k) rfl (.string s) h.1) HZX.out ?_
      simp only [Act.put, List.setIfInBounds_toArray, List.set_cons_succ, List.set_cons_zero]
      refine takeH (i := 4) (some 38) rfl rfl (by kernel_rfl) (by kernel_rfl) (by kernel_rfl) (fun _ _ _ h => h) (gRun rfl vb1 fun _ h => run_mvZ (.tmp 8) rfl vb1 rfl) HZX.out ?_
      simp only [Act.put, List.setIfInBounds_toArray, List.set_cons_succ, List.set_cons_zero]
      refine takeH (i := 5) (some 39) rfl rfl (by kernel_rfl) (by kernel_rfl) (by kernel_rfl) (fun _ _ _ h => h) (gRun rfl (.int .i64 (k : Nat)) fun _ h => run_mvZ (.tmp 9) rfl (.int .i64 (k : Nat)) rfl) HZX.out ?_
      simp only [Act.put, List.setIfInBounds_toArray, List.set_cons_succ, List.set_cons_zero]
      refine takeH (i := 6) (some 40) rfl rfl (by kernel_rfl) (by kernel_rfl) (by kernel_rfl) (fun _ _ _ h => h) (gRun rfl (.pointer (some ⟨b2, k, none⟩)) fun _ h => run_idx (.tmp 38) (.tmp 39) rfl vb1 _ _ rfl rfl HX.out.2) HZX.out ?_
      simp only [Act.put, List.setIfInBounds_toArray, List.set_cons_succ, List.set_cons_zero]
      refine takeH (i := 7) (some 41) rfl rfl (by kernel_rfl) (by kernel_rfl) (by kernel_rfl) (fun _ _ _ h => h) (gRun rfl (.string s) fun _ h => run_load1 o9 (.tmp 40) rfl b2 (k) rfl (.string s) h.2) HZX.out ?_
      simp only [Act.put, List.setIfInBounds_toArray, List.set_cons_succ, List.set_cons_zero]
      refine takeH (i := 8) (some 42) rfl rfl (by kernel_rfl) (by kernel_rfl) (by kernel_rfl) (fun _ _ _ h => h) (gRun rfl (.bool false) fun _ h => run_neS (.tmp 37) (.tmp 41) rfl s rfl rfl) HZX.out ?_
      simp only [Act.put, List.setIfInBounds_toArray, List.set_cons_succ, List.set_cons_zero]
      refine wpAnyH_done (by kernel_rfl) ?_ _
      go_upto_region 11 with fail
      refine wp_region_lit ?_
      refine wl rfl (.int .i64 (k : Nat)) _ (run_mvZ (.tmp 9) rfl (.int .i64 (k : Nat)) rfl) ?_
      simp only [Act.put, List.setIfInBounds_toArray, List.set_cons_succ, List.set_cons_zero]
      refine wl rfl (.int .i64 ((k + 1 : Nat))) _ (run_addI (.tmp 32) rfl k m hlt HM.out.2 rfl) ?_
      simp only [Act.put, List.setIfInBounds_toArray, List.set_cons_succ, List.set_cons_zero]
      refine wl rfl (.int .i64 ((k + 1 : Nat))) _ (run_asZ (.tmp 33) rfl (.int .i64 ((k + 1 : Nat))) rfl) ?_
      simp only [Act.put, List.setIfInBounds_toArray, List.set_cons_succ, List.set_cons_zero]
      refine wpList_nil ?_
      go_wp2_with fail
      exact ⟨⟨k + 1, rfl, by omega, HT⟩, by simp [intOf]; omega⟩
    · have HD : Hid (decide (k < m) = false) := decide_eq_false hlt
      go_upto_region 10 with fail
      refine wp_region_lit ?_
      refine wl rfl (.int .i64 (k : Nat)) _ (run_mvZ (.tmp 9) rfl (.int .i64 (k : Nat)) rfl) ?_
      simp only [Act.put, List.setIfInBounds_toArray, List.set_cons_succ, List.set_cons_zero]
      refine wl rfl va1 _ (run_mvZ (.tmp 7) rfl va1 rfl) ?_
      simp only [Act.put, List.setIfInBounds_toArray, List.set_cons_succ, List.set_cons_zero]
      refine wl rfl (.int .i64 (m : Nat)) _ ((by rw [HM.out.1]; exact run_lenO HA.out.1 sl38 (.tmp 29) rfl rfl)) ?_
      simp only [Act.put, List.setIfInBounds_toArray, List.set_cons_succ, List.set_cons_zero]
      refine wl rfl (.bool false) _ (run_lssN (.tmp 28) (.tmp 30) rfl k m rfl rfl false HD.out) ?_
      simp only [Act.put, List.setIfInBounds_toArray, List.set_cons_succ, List.set_cons_zero]
      refine wpList_nil ?_
      go_upto_region 14 with fail
      refine wp_region_lit ?_
      refine wl rfl (.int .i64 0) _ (run_asZ (.const (.int .i64 0)) rfl (.int .i64 0) rfl) ?_
      simp only [Act.put, List.setIfInBounds_toArray, List.set_cons_succ, List.set_cons_zero]
      refine wpList_nil ?_
      have HL2 : Hid (ROwn wr w.heap.size v6 l ∧ Below w.heap.size w wr) := ⟨HL.out.later HQ.out, Rw5.out.below.trans (HQ.out.mono Rw5.out.below.size)⟩
      clear HD hlt hk
      go_wp2_with fail
      go_loopw [10] (fun v10 W => ∃ j : Nat, v10 = .int .i64 (j : Nat) ∧ j ≤ n ∧ Hid (ROwn W w.heap.size v6 l ∧ Below w.heap.size w W)) (fun v10 _ => n - (intOf v10).toNat)
      case atStart => exact ⟨0, rfl, Nat.zero_le _, HL2.out⟩
      case round =>
        rename World => ws
        obtain ⟨j, rfl, hj, HQ2⟩ := hrel
        by_cases hlt : j < n
        · have HD : Hid (decide (j < n) = true) := decide_eq_true hlt
          go_upto_region 15 with fail
          refine wp_region_lit ?_
          refine wl rfl (.int .i64 (j : Nat)) _ (run_mvZ (.tmp 10) rfl (.int .i64 (j : Nat)) rfl) ?_
          simp only [Act.put, List.setIfInBounds_toArray, List.set_cons_succ, List.set_cons_zero]
          refine wl rfl vl _ (run_mvZ (.tmp 0) rfl vl rfl) ?_
          simp only [Act.put, List.setIfInBounds_toArray, List.set_cons_succ, List.set_cons_zero]
          refine wl rfl (.int .i64 (n : Nat)) _ ((by rw [HF.out.2.1]; exact run_lenR HF.out.1 (.tmp 44) rfl rfl)) ?_
          simp only [Act.put, List.setIfInBounds_toArray, List.set_cons_succ, List.set_cons_zero]
          refine wl rfl (.bool true) _ (run_lssN (.tmp 43) (.tmp 45) rfl j n rfl rfl true HD.out) ?_
          simp only [Act.put, List.setIfInBounds_toArray, List.set_cons_succ, List.set_cons_zero]
          refine wpList_nil ?_
          obtain ⟨x, hx⟩ : ∃ x, l[j]? = some x := ⟨_, List.getElem?_eq_getElem (by rw [← HF.out.2.1]; exact hlt)⟩
          obtain ⟨b1, o1, i1_, c1_, _⟩ := ix_rec (HQ2.out.1.isIn (by rw [← HF.out.2.1]; exact HF.out.2.2.2.1)) j x hx
          obtain ⟨b2, o2, i2_, c2_, _⟩ := ix_rec (HF.out.1.later HQ2.out.2) j x hx
          have HFT : Hid (Fits w x.r x.v) := HF.out.2.2.2.2 x (List.mem_of_getElem? hx)
          have HX : Hid ((∀ w', (Instr.indexAt 37 v6 (.int .i64 (j : Nat))).run Try.prog w' = .ok (.pointer (some ⟨b1, o1, none⟩)) w') ∧ ∀ w', (Instr.indexAt 37 vl (.int .i64 (j : Nat))).run Try.prog w' = .ok (.pointer (some ⟨b2, o2, none⟩)) w') := ⟨i1_, i2_⟩
          have HZ : Hid ((∀ i u, (rcells x.r x.v)[i]? = some u → ws.cell? ⟨b1, o1 + i, none⟩ = some u) ∧ ∀ i u, (rcells x.r x.v)[i]? = some u → ws.cell? ⟨b2, o2 + i, none⟩ = some u) := ⟨c1_, c2_⟩
          clear i1_ i2_ c1_ c2_ hx
          go_upto_region 17 with fail
          refine wp_region_held (S := fun X => (∀ i u, (rcells x.r x.v)[i]? = some u → X.cell? ⟨b1, o1 + i, none⟩ = some u) ∧ ∀ i u, (rcells x.r x.v)[i]? = some u → X.cell? ⟨b2, o2 + i, none⟩ = some u) (by kernel_rfl) ?_
          show wpAnyH _ _ _ _ _ 10 (Array.replicate 10 false) _ _
          obtain ⟨X, hX⟩ : ∃ X : World, X = { ws with drawn := ws.drawn + 1 } := ⟨_, rfl⟩
          rw [← hX]
          have HZX : Hid ((∀ i u, (rcells x.r x.v)[i]? = some u → X.cell? ⟨b1, o1 + i, none⟩ = some u) ∧ ∀ i u, (rcells x.r x.v)[i]? = some u → X.cell? ⟨b2, o2 + i, none⟩ = some u) := by rw [hX]; exact HZ.out
          have HT : Hid (ROwn X w.heap.size v6 l ∧ Below w.heap.size w X) := by rw [hX]; exact ⟨HQ2.out.1.later (Below.drewN (Below.refl _ _) 1), Below.drewN HQ2.out.2 1⟩
          clear hX
          refine takeH (i := 0) (some 49) rfl rfl (by kernel_rfl) (by kernel_rfl) (by kernel_rfl) (fun _ _ _ h => h) (gRun rfl v6 fun _ h => run_mvZ (.tmp 6) rfl v6 rfl) HZX.out ?_
          simp only [Act.put, List.setIfInBounds_toArray, List.set_cons_succ, List.set_cons_zero]
          refine takeH (i := 1) (some 50) rfl rfl (by kernel_rfl) (by kernel_rfl) (by kernel_rfl) (fun _ _ _ h => h) (gRun rfl (.int .i64 (j : Nat)) fun _ h => run_mvZ (.tmp 10) rfl (.int .i64 (j : Nat)) rfl) HZX.out ?_
          simp only [Act.put, List.setIfInBounds_toArray, List.set_cons_succ, List.set_cons_zero]
          refine takeH (i := 2) (some 51) rfl rfl (by kernel_rfl) (by kernel_rfl) (by kernel_rfl) (fun _ _ _ h => h) (gRun rfl (.pointer (some ⟨b1, o1, none⟩)) fun _ h => run_idx (.tmp 49) (.tmp 50) rfl v6 _ _ rfl rfl HX.out.1) HZX.out ?_
          simp only [Act.put, List.setIfInBounds_toArray, List.set_cons_succ, List.set_cons_zero]
          refine takeH (i := 3) (some 52) rfl rfl (by kernel_rfl) (by kernel_rfl) (by kernel_rfl) (fun _ _ _ h => h) (gRun rfl (.agg (rcells x.r x.v).toArray) fun _ h => run_loadA ag26 (.tmp 51) rfl b1 (o1) rfl (rcells x.r x.v) HFT.out.rok.len h.1) HZX.out ?_
          simp only [Act.put, List.setIfInBounds_toArray, List.set_cons_succ, List.set_cons_zero]
          refine takeH (i := 4) (some 53) rfl rfl (by kernel_rfl) (by kernel_rfl) (by kernel_rfl) (fun _ _ _ h => h) (gRun rfl vl fun _ h => run_mvZ (.tmp 0) rfl vl rfl) HZX.out ?_
          simp only [Act.put, List.setIfInBounds_toArray, List.set_cons_succ, List.set_cons_zero]
          refine takeH (i := 5) (some 54) rfl rfl (by kernel_rfl) (by kernel_rfl) (by kernel_rfl) (fun _ _ _ h => h) (gRun rfl (.int .i64 (j : Nat)) fun _ h => run_mvZ (.tmp 10) rfl (.int .i64 (j : Nat)) rfl) HZX.out ?_
          simp only [Act.put, List.setIfInBounds_toArray, List.set_cons_succ, List.set_cons_zero]
          refine takeH (i := 6) (some 55) rfl rfl (by kernel_rfl) (by kernel_rfl) (by kernel_rfl) (fun _ _ _ h => h) (gRun rfl (.pointer (some ⟨b2, o2, none⟩)) fun _ h => run_idx (.tmp 53) (.tmp 54) rfl vl _ _ rfl rfl HX.out.2) HZX.out ?_
          simp only [Act.put, List.setIfInBounds_toArray, List.set_cons_succ, List.set_cons_zero]
          refine takeH (i := 7) (some 56) rfl rfl (by kernel_rfl) (by kernel_rfl) (by kernel_rfl) (fun _ _ _ h => h) (gRun rfl (.agg (rcells x.r x.v).toArray) fun _ h => run_loadA ag26 (.tmp 55) rfl b2 (o2) rfl (rcells x.r x.v) HFT.out.rok.len h.2) HZX.out ?_
          simp only [Act.put, List.setIfInBounds_toArray, List.set_cons_succ, List.set_cons_zero]
          refine oneH (i := 8) (by kernel_rfl) ?_
          refine opCallG (some 57) rfl rfl rfl 13 _ (run_call eN13 [.tmp 52, .tmp 56] _ rfl [(.agg (rcells x.r x.v).toArray), (.agg (rcells x.r x.v).toArray)] rfl) ?_
          refine (same_yes x.r x.v x.v X (HFT.out.later HT.out.2) (HFT.out.later HT.out.2)).mono ?_
          rintro e wz ⟨rfl, b_⟩
          refine ⟨_, rfl, ?_⟩
          have HZ2 : Hid ((∀ i u, (rcells x.r x.v)[i]? = some u → wz.cell? ⟨b1, o1 + i, none⟩ = some u) ∧ ∀ i u, (rcells x.r x.v)[i]? = some u → wz.cell? ⟨b2, o2 + i, none⟩ = some u) := ⟨fun i u h => cell_later (HZX.out.1 i u h) b_, fun i u h => cell_later (HZX.out.2 i u h) b_⟩
          have HT2 : Hid (ROwn wz w.heap.size v6 l ∧ Below w.heap.size w wz) := ⟨HT.out.1.later b_, HT.out.2.trans (b_.mono HT.out.2.size)⟩
          clear HZX b_
          have HZX := HZ2
          clear HZ2
          refine ⟨HZX.out, ?_⟩
          simp only [Act.put, List.setIfInBounds_toArray, List.set_cons_succ, List.set_cons_zero]
          refine takeH (i := 9) (some 58) rfl rfl (by kernel_rfl) (by kernel_rfl) (by kernel_rfl) (fun _ _ _ h => h) (gRun rfl (.bool false) fun _ h => run_not (.tmp 57) 4 rfl true rfl) HZX.out ?_
          simp only [Act.put, List.setIfInBounds_toArray, List.set_cons_succ, List.set_cons_zero]
          refine wpAnyH_done (by kernel_rfl) ?_ _
          go_upto_region 16 with fail
          refine wp_region_lit ?_
          refine wl rfl (.int .i64 (j : Nat)) _ (run_mvZ (.tmp 10) rfl (.int .i64 (j : Nat)) rfl) ?_
          simp only [Act.put, List.setIfInBounds_toArray, List.set_cons_succ, List.set_cons_zero]
          refine wl rfl (.int .i64 ((j + 1 : Nat))) _ (run_addI (.tmp 47) rfl j n hlt HF.out.2.2.2.1 rfl) ?_
          simp only [Act.put, List.setIfInBounds_toArray, List.set_cons_succ, List.set_cons_zero]
          refine wl rfl (.int .i64 ((j + 1 : Nat))) _ (run_asZ (.tmp 48) rfl (.int .i64 ((j + 1 : Nat))) rfl) ?_
          simp only [Act.put, List.setIfInBounds_toArray, List.set_cons_succ, List.set_cons_zero]
          refine wpList_nil ?_
          go_wp2_with fail
          exact ⟨⟨j + 1, rfl, by omega, HT2⟩, by simp [intOf]; omega⟩
        · have HD : Hid (decide (j < n) = false) := decide_eq_false hlt
          go_upto_region 15 with fail
          refine wp_region_lit ?_
          refine wl rfl (.int .i64 (j : Nat)) _ (run_mvZ (.tmp 10) rfl (.int .i64 (j : Nat)) rfl) ?_
          simp only [Act.put, List.setIfInBounds_toArray, List.set_cons_succ, List.set_cons_zero]
          refine wl rfl vl _ (run_mvZ (.tmp 0) rfl vl rfl) ?_
          simp only [Act.put, List.setIfInBounds_toArray, List.set_cons_succ, List.set_cons_zero]
          refine wl rfl (.int .i64 (n : Nat)) _ ((by rw [HF.out.2.1]; exact run_lenR HF.out.1 (.tmp 44) rfl rfl)) ?_
          simp only [Act.put, List.setIfInBounds_toArray, List.set_cons_succ, List.set_cons_zero]
          refine wl rfl (.bool false) _ (run_lssN (.tmp 43) (.tmp 45) rfl j n rfl rfl false HD.out) ?_
          simp only [Act.put, List.setIfInBounds_toArray, List.set_cons_succ, List.set_cons_zero]
          refine wpList_nil ?_
          go_upto_region 19 with fail
          refine wp_region_lit ?_
          refine wl rfl (.bool true) _ (run_mvZ (.tmp 5) rfl (.bool true) rfl) ?_
          simp only [Act.put, List.setIfInBounds_toArray, List.set_cons_succ, List.set_cons_zero]
          refine wl rfl (.bool true) _ (run_asZ (.tmp 59) rfl (.bool true) rfl) ?_
          simp only [Act.put, List.setIfInBounds_toArray, List.set_cons_succ, List.set_cons_zero]
          refine wpList_nil ?_
          go_wp2_with fail
          first | (rw [HPQ.out]; exact ⟨rfl, HQ2.out.2⟩) | (go_ret; rw [HPQ.out]; exact ⟨rfl, HQ2.out.2⟩)

end Go.Proofs.Ytobolkllplmmcaa

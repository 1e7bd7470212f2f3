/- Layer 15: the law of rot. -/
import Derived.Test.YtpkkkkomdblpoaaDoorQ35
namespace Go.Proofs.YtpkkkkomdblpoaaDoor
open Go.RowKit Go.Maps

open Cold
theorem x0_ok : ∀ y ∈ [(⟨0, 0, 3, false⟩ : Pq)], y.ok := fun y hy => by
 rw [List.mem_singleton.1 hy]
 exact ⟨by unfold I64; decide, by unfold I64; decide, by unfold I64; decide⟩
set_option maxHeartbeats 4000000 in
set_option maxRecDepth 2000000 in
theorem coldvolRots_any (w : World) (he : Env w) (h3 : 3 ≤ w.heap.size) (va vl vt : Value) (A : List (List Nat)) (us : List Pq) (ts : List Tr) (ha : RowsIn w va A) (hl : PlsIn w vl us) (ht : TrsIn w vt ts) (hus : us.length * 32 + 4096 ≤ 140737488355328) : Calls Tryd.prog 5 #[va, vl, vt] w fun e w' => e = .returned (.bool true) ∧ Below w.heap.size w w' := by
 have HM : Hid (Env w ∧ 3 ≤ w.heap.size ∧ RowsIn w va A ∧ PlsIn w vl us ∧ TrsIn w vt ts) := ⟨he, h3, ha, hl, ht⟩
 have hAl : A.length ≤ 9223372036854775807 := ha.few
 have htl : ts.length ≤ 140737488355328 := (by obtain ⟨_, _, _, _, h, _⟩ := ht; exact h)
 clear he h3 ha hl ht
 obtain ⟨bf, hbf⟩ : ∃ b, b = false := ⟨_, rfl⟩
 have HBF : Hid (bf = false) := hbf
 clear hbf
 obtain ⟨PQ, HPQ⟩ := exPQ fun (e : Ending) (w' : World) => e = .returned (.bool true) ∧ Below w.heap.size w w'
 rw [← HPQ.out]
 go_enter Tryd.func5, Tryd.ntmps5
 go_upto_region 0 with fail
 refine wp_region_lit ?_
 refine wl rfl (.bool false) _ (run_asZ (.const (.bool false)) rfl (.bool false) rfl) ?_
 simp only [Act.put, aS, aC, aZ]
 refine wpList_nil ?_
 go_upto_region 1 with fail
 refine wp_region_lit ?_
 refine wpList_callW eN8 [] _ rfl rfl [] rfl ?_
 refine (shown_any w HM.out.1 HM.out.2.1).mono ?_
 rintro e W1 ⟨rfl, hb_⟩
 refine ⟨_, rfl, ?_⟩
 have H1 : Hid (Below w.heap.size w W1) := hb_
 clear hb_
 simp only [Act.put, aS, aC, aZ]
 refine wl rfl (.bool true) _ (run_asZ (.tmp 23) rfl (.bool true) rfl) ?_
 simp only [Act.put, aS, aC, aZ]
 refine wpList_nil ?_
 go_upto_region 2 with fail
 refine wp_region_lit ?_
 refine wl rfl (whole W1.heap.size 1) _ (run_ints1 (.const (.int .i64 60)) rfl 60 rfl) ?_
 have hb_ := below_alloc W1 (.cells ([(60 : Int)].map (Value.int .i64)).toArray 3)
 have r_ := Row.new W1 3 ([(60 : Int)].map (Value.int .i64))
 obtain ⟨W2, hW_⟩ : ∃ U_ : World, U_ = W1.alloc (.cells ([(60 : Int)].map (Value.int .i64)).toArray 3) := ⟨_, rfl⟩
 obtain ⟨ql, hq_⟩ : ∃ q, q = W1.heap.size := ⟨_, rfl⟩
 rw [← hW_] at hb_
 rw [← hW_, ← hq_] at r_
 rw [← hW_, ← hq_]
 have H2 : Hid (IntsIn W2 (whole ql 1) [60] ∧ Below w.heap.size w W2) := ⟨ints_row (l := [60]) r_ (by decide), H1.out.trans (hb_.mono H1.out.size)⟩
 clear r_ hb_ hW_ hq_ H1
 simp only [Act.put, aS, aC, aZ]
 refine wl rfl (.agg #[.slice none 0 0, whole ql 1]) _ (run_build30t (.tmp 25) rfl ql 1 rfl) ?_
 simp only [Act.put, aS, aC, aZ]
 refine wpList_callW eN9 [.tmp 26] _ rfl rfl [(.agg #[.slice none 0 0, whole ql 1])] rfl ?_
 refine (Live.new W2 (fun _ => (0, 0)) 2 _ _ [] [60] (ints_nil W2) H2.out.1 (by decide)).mono ?_
 rintro e W3 ⟨gp, c1, rfl, _, hcc_, _, hl_, hb_⟩
 refine ⟨_, rfl, ?_⟩
 have H3 : Hid (Live W3 c1 2 gp (newPl [] [60]) ∧ Below w.heap.size w W3 ∧ ∀ b, b < w.heap.size → (c1 b).1 ≠ 2) := ⟨hl_, H2.out.2.trans (hb_.mono H2.out.2.size), fun b hb => by rw [hcc_ b (Nat.lt_of_lt_of_le hb H2.out.2.size)]; decide⟩
 clear hl_ hb_ hcc_ H2
 simp only [Act.put, aS, aC, aZ]
 refine wl rfl (.tuple #[(ptr gp), (.int .i64 0)]) _ (run_mvZ (.tmp 27) rfl (.tuple #[(ptr gp), (.int .i64 0)]) rfl) ?_
 refine wl rfl (ptr gp) _ (run_extZ (.tmp 24) 0 rfl #[(ptr gp), (.int .i64 0)] rfl (ptr gp) rfl) ?_
 refine wl rfl (.int .i64 0) _ (run_extZ (.tmp 24) 1 rfl #[(ptr gp), (.int .i64 0)] rfl (.int .i64 0) rfl) ?_
 simp only [Act.put, aS, aC, aZ]
 refine wl rfl (ptr gp) _ (run_asZ (.tmp 28) rfl (ptr gp) rfl) ?_
 refine wl rfl (.int .i64 0) _ (run_asZ (.tmp 29) rfl (.int .i64 0) rfl) ?_
 simp only [Act.put, aS, aC, aZ]
 refine wpList_nil ?_
 go_upto_region 3 with fail
 refine wp_region_lit ?_
 refine wl rfl (.bool true) _ (run_mvZ (.tmp 7) rfl (.bool true) rfl) ?_
 refine wl rfl (.bool bf) _ ((by rw [HBF.out]; exact run_not (.tmp 30) 4 rfl true rfl)) ?_
 refine wl rfl (.bool bf) _ (run_mvZ (.tmp 31) rfl (.bool bf) rfl) ?_
 simp only [Act.put, aS, aC, aZ]
 refine wl (by rw [HBF.out]; kernel_rfl) (ptr gp) _ (run_mvZ (.tmp 8) rfl (ptr gp) rfl) ?_
 refine wl (by rw [HBF.out]; kernel_rfl) (.bool bf) _ ((by rw [HBF.out]; exact run_binOp' (.tmp 33) (.const (.pointer none)) rfl _ _ _ rfl rfl rfl (by kernel_rfl))) ?_
 refine wl rfl (.bool bf) _ (run_pickZ (.tmp 32) (.const (.bool true)) (.tmp 34) rfl bf (.bool bf) rfl (by rw [HBF.out]; rfl)) ?_
 simp only [Act.put, aS, aC, aZ]
 refine wl rfl (.bool bf) _ (run_mvZ (.tmp 35) rfl (.bool bf) rfl) ?_
 refine wl (by rw [HBF.out]; kernel_rfl) (.int .i64 0) _ (run_mvZ (.tmp 9) rfl (.int .i64 0) rfl) ?_
 refine wl (by rw [HBF.out]; kernel_rfl) (.bool bf) _ ((by rw [HBF.out]; exact run_neZ (.tmp 37) (.const (.int .i64 0)) rfl 0 0 rfl rfl false (by decide))) ?_
 simp only [Act.put, aS, aC, aZ]
 refine wl rfl (.bool bf) _ (run_pickZ (.tmp 36) (.const (.bool true)) (.tmp 38) rfl bf (.bool bf) rfl (by rw [HBF.out]; rfl)) ?_
 simp only [Act.put, aS, aC, aZ]
 refine wpList_nil ?_
 obtain rfl : bf = false := HBF.out
 go_upto_region 5 with fail
 refine wp_region_lit ?_
 refine wl rfl (ptr gp) _ (run_mvZ (.tmp 8) rfl (ptr gp) rfl) ?_
 simp only [Act.put, aS, aC, aZ]
 have HF0 : Far0 W3 c1 2 := ⟨Nat.le_trans HM.out.2.1 H3.out.2.1.size, H3.out.2.2 0 (by have := HM.out.2.1; omega), H3.out.2.2 1 (by have := HM.out.2.1; omega), H3.out.2.2 2 (by have := HM.out.2.1; omega)⟩
 refine wpList_callW eN10 [.tmp 41, .const (.int .i64 0)] _ rfl rfl [(ptr gp), (.int .i64 0)] rfl ?_
 refine (vopen_s H3.out.1 (ds := []) (ts := [60]) rfl (HM.out.1.later H3.out.2.1) HF0 (by decide) 0 (by decide) (new_onT [] [60] (by decide) 0 (by decide))).mono ?_
 rintro e W4 ⟨gv, rfl, hg_, hb_, hv_⟩
 refine ⟨_, rfl, ?_⟩
 have H4 : Hid (VOn W4 c1 2 gp gv 0 60 (newPl [] [60]) [] false ∧ Fr0 w W4 c1 2 gv) := ⟨hv_, ⟨H3.out.2.1.trans (hb_.mono H3.out.2.1.size), Nat.le_trans H3.out.2.1.size hg_, H3.out.2.2⟩⟩
 clear hv_ hb_ hg_ HF0 H3
 simp only [Act.put, aS, aC, aZ]
 refine wl rfl (.tuple #[(ptr gv), (.int .i64 0)]) _ (run_mvZ (.tmp 42) rfl (.tuple #[(ptr gv), (.int .i64 0)]) rfl) ?_
 refine wl rfl (ptr gv) _ (run_extZ (.tmp 40) 0 rfl #[(ptr gv), (.int .i64 0)] rfl (ptr gv) rfl) ?_
 refine wl rfl (.int .i64 0) _ (run_extZ (.tmp 40) 1 rfl #[(ptr gv), (.int .i64 0)] rfl (.int .i64 0) rfl) ?_
 simp only [Act.put, aS, aC, aZ]
 refine wl rfl (ptr gv) _ (run_asZ (.tmp 43) rfl (ptr gv) rfl) ?_
 refine wl rfl (.int .i64 0) _ (run_asZ (.tmp 44) rfl (.int .i64 0) rfl) ?_
 simp only [Act.put, aS, aC, aZ]
 refine wpList_nil ?_
 obtain ⟨bf, hbf⟩ : ∃ b, b = false := ⟨_, rfl⟩
 have HBF : Hid (bf = false) := hbf
 clear hbf
 go_upto_region 6 with fail
 refine wp_region_lit ?_
 refine wl rfl (ptr gv) _ (run_mvZ (.tmp 10) rfl (ptr gv) rfl) ?_
 refine wl rfl (.bool bf) _ ((by rw [HBF.out]; exact run_binOp' (.tmp 45) (.const (.pointer none)) rfl _ _ _ rfl rfl rfl (by kernel_rfl))) ?_
 refine wl rfl (.bool bf) _ (run_mvZ (.tmp 46) rfl (.bool bf) rfl) ?_
 simp only [Act.put, aS, aC, aZ]
 refine wl (by rw [HBF.out]; kernel_rfl) (.int .i64 0) _ (run_mvZ (.tmp 11) rfl (.int .i64 0) rfl) ?_
 refine wl (by rw [HBF.out]; kernel_rfl) (.bool bf) _ ((by rw [HBF.out]; exact run_neZ (.tmp 48) (.const (.int .i64 0)) rfl 0 0 rfl rfl false (by decide))) ?_
 refine wl rfl (.bool bf) _ (run_pickZ (.tmp 47) (.const (.bool true)) (.tmp 49) rfl bf (.bool bf) rfl (by rw [HBF.out]; rfl)) ?_
 simp only [Act.put, aS, aC, aZ]
 refine wpList_nil ?_
 obtain rfl : bf = false := HBF.out
 go_upto_region 8 with fail
 refine wp_region_lit ?_
 refine wl rfl (ptr gv) _ (run_mvZ (.tmp 10) rfl (ptr gv) rfl) ?_
 refine wl rfl (whole W4.heap.size 10) _ (run_lit10 rfl) ?_
 refine wl rfl (whole W4.heap.size 10) _ (run_same38 (.tmp 53) rfl rfl) ?_
 obtain ⟨hsb_, hb_⟩ := sb_in W4
 obtain ⟨W5, hW_⟩ : ∃ U_ : World, U_ = W4.alloc (.cells (bcells SBx).toArray 5 (10, 11)) := ⟨_, rfl⟩
 rw [← hW_] at hsb_ hb_ ⊢
 obtain ⟨qs, hqs_⟩ : ∃ q, q = W4.heap.size := ⟨_, rfl⟩
 rw [← hqs_] at hsb_ ⊢
 have H5 : Hid (VOn W5 c1 2 gp gv 0 60 (newPl [] [60]) [] false ∧ Fr0 w W5 c1 2 gv ∧ SliceIn W5 (whole qs 10) SBx ∧ qs ≠ gv) := ⟨H4.out.1.below hb_, H4.out.2.sq (Sq.bel c1 hb_), hsb_, fun e => by have := H4.out.1.len.2.2.2.2.2.2.2; omega⟩
 clear hsb_ hb_ hW_ hqs_ H4
 simp only [Act.put, aS, aC, aZ]
 refine wpList_callW eN12 [.tmp 52, .const (.string { data := #[97] }), .tmp 54] _ rfl rfl [(ptr gv), (str [97]), (whole qs 10)] rfl ?_
 refine (vapp_s H5.out.1 (by decide) [97] SBx (whole qs 10) (by decide) (by decide) H5.out.2.2.1 (Or.inr fun b e => by have e2 : qs = b := Option.some.inj e; rw [← e2]; exact H5.out.2.2.2)).mono ?_
 rintro e X1 ⟨c2, m2, er, her_, he_, s_, v_, o_, _⟩
 obtain rfl : er = 0 := her_.trans (by decide)
 have he2_ : e = .returned (.tuple #[.agg (plC ((0 : Nat) : Int) ((0 : Nat) : Int) ((3 : Nat) : Int) false).toArray, .int .i64 0]) := he_
 clear he_
 subst he2_
 refine ⟨_, rfl, ?_⟩
 obtain ⟨⟨rt0, sl0, hv0_, _⟩, ht0_⟩ := v_
 have HK1 : Hid (Rk w X1 c2 gp gv 60 m2 rt0 sl0 (16)) := ⟨hv0_, ht0_.tv, ht0_.fuse, H5.out.2.1.sq s_, (by have h0 : ((newPl [] [60])).steps = 0 := rfl; rcases o_ with rfl | o_; omega; have := o_.few; omega), (by rcases o_ with rfl | o_; exact rfl; exact o_.oth.sh)⟩
 have HL1 : Hid (Loc X1 X1 []) := Loc.nil (Below.refl _ _)
 clear her_ s_ o_ hv0_ ht0_ H5
 simp only [Act.put, aS, aC, aZ]
 refine wl rfl (.tuple #[(.agg (plC ((0 : Nat) : Int) ((0 : Nat) : Int) ((3 : Nat) : Int) false).toArray), (.int .i64 0)]) _ (run_mvZ (.tmp 55) rfl (.tuple #[(.agg (plC ((0 : Nat) : Int) ((0 : Nat) : Int) ((3 : Nat) : Int) false).toArray), (.int .i64 0)]) rfl) ?_
 refine wl rfl (.agg (plC ((0 : Nat) : Int) ((0 : Nat) : Int) ((3 : Nat) : Int) false).toArray) _ (run_extZ (.tmp 51) 0 rfl #[(.agg (plC ((0 : Nat) : Int) ((0 : Nat) : Int) ((3 : Nat) : Int) false).toArray), (.int .i64 0)] rfl (.agg (plC ((0 : Nat) : Int) ((0 : Nat) : Int) ((3 : Nat) : Int) false).toArray) rfl) ?_
 refine wl rfl (.int .i64 0) _ (run_extZ (.tmp 51) 1 rfl #[(.agg (plC ((0 : Nat) : Int) ((0 : Nat) : Int) ((3 : Nat) : Int) false).toArray), (.int .i64 0)] rfl (.int .i64 0) rfl) ?_
 simp only [Act.put, aS, aC, aZ]
 refine wl rfl (ptr X1.heap.size) _ (run_allocA ((plC 0 0 0 false)) zero40 rfl) ?_
 have k_ := HL1.out.box 40 ((plC 0 0 0 false))
 obtain ⟨X2, hW_⟩ : ∃ W, W = X1.alloc (.cells ((plC 0 0 0 false)).toArray 40) := ⟨_, rfl⟩
 obtain ⟨q12, hq_⟩ : ∃ q, q = X1.heap.size := ⟨_, rfl⟩
 rw [← hW_, ← hq_] at k_
 rw [← hW_, ← hq_]
 clear hq_
 have RX2 : Hid (Loc X1 X2 [(q12, 40, (plC 0 0 0 false))]) := k_
 clear k_ hW_ HL1
 simp only [Act.put, aS, aC, aZ]
 refine wlS rfl rfl _ (run_storeL ag40 (.tmp 12) (.tmp 56) rfl RX2.out 0 rfl (0) rfl ((plC ((0 : Nat) : Int) ((0 : Nat) : Int) ((3 : Nat) : Int) false)) rfl rfl (Nat.le_refl 4) (plC_one _ _ _ _)).1 ?_
 have k_ := RX2.out.lay 0 rfl (0) ((plC ((0 : Nat) : Int) ((0 : Nat) : Int) ((3 : Nat) : Int) false))
 rw [splice_all (plC 0 0 0 false) (plC ((0 : Nat) : Int) ((0 : Nat) : Int) ((3 : Nat) : Int) false) rfl] at k_ ⊢
 obtain ⟨X3, hW_⟩ : ∃ W, W = X2.setRow q12 ((plC ((0 : Nat) : Int) ((0 : Nat) : Int) ((3 : Nat) : Int) false)).toArray := ⟨_, rfl⟩
 rw [← hW_] at k_ ⊢
 have RX3 : Hid (Loc X1 X3 [(q12, 40, (plC ((0 : Nat) : Int) ((0 : Nat) : Int) ((3 : Nat) : Int) false))]) := k_
 clear k_ hW_ RX2
 refine wl rfl (.int .i64 0) _ (run_asZ (.tmp 57) rfl (.int .i64 0) rfl) ?_
 simp only [Act.put, aS, aC, aZ]
 refine wpList_nil ?_
 have HS : Hid ((Rk w X3 c2 gp gv 60 m2 rt0 sl0 (16)) ∧ Row X3 q12 40 (plC ((0 : Nat) : Int) ((0 : Nat) : Int) ((3 : Nat) : Int) false) ∧ q12 ≠ gv ∧ (c2 q12).1 ≠ 2) := ⟨HK1.out.bel RX3.out.below, RX3.out.at 0 rfl, fun e => by have := RX3.out.ge 0 rfl; have := HK1.out.v.row.lt; omega, HK1.out.v.live.2.2 q12 (RX3.out.ge 0 rfl)⟩
 clear HK1 RX3
 go_upto_region 9 with fail
 refine wp_region_lit ?_
 refine wl rfl (.int .i64 0) _ (run_asZ (.const (.int .i64 0)) rfl (.int .i64 0) rfl) ?_
 simp only [Act.put, aS, aC, aZ]
 refine wpList_nil ?_
 go_wp2_with fail
 go_loopw [14, 15] (fun vk _ W => ∃ k : Nat, vk = .int .i64 (k : Nat) ∧ k ≤ A.length ∧ k ≤ 30 ∧ Hid (∃ c m rt sl, (Rk w W c gp gv 60 m rt sl (k + 16)) ∧ Row W q12 40 (plC ((0 : Nat) : Int) ((0 : Nat) : Int) ((3 : Nat) : Int) false) ∧ q12 ≠ gv ∧ (c q12).1 ≠ 2)) (fun vk _ _ => 30 - (intOf vk).toNat)
 case atStart => exact ⟨0, rfl, Nat.zero_le _, by decide, _, _, _, _, HS.out⟩
 case round =>
  obtain ⟨k, rfl, hkA, hk30, HI⟩ := hrel
  obtain ⟨c0, m0, rt, sl, hS_⟩ := HI.out
  obtain ⟨W0, hW0⟩ : ∃ X, X = wr := ⟨_, rfl⟩
  subst hW0
  have HS0 : Hid ((Rk w W0 c0 gp gv 60 m0 rt sl (k + 16)) ∧ Row W0 q12 40 (plC ((0 : Nat) : Int) ((0 : Nat) : Int) ((3 : Nat) : Int) false) ∧ q12 ≠ gv ∧ (c0 q12).1 ≠ 2) := hS_
  clear hS_ HI HS
  by_cases h1 : k < A.length ∧ k < 30
  ·go_upto_region 10 with fail
   refine wp_region_lit ?_
   refine wl rfl (.int .i64 (k : Nat)) _ (run_mvZ (.tmp 14) rfl (.int .i64 (k : Nat)) rfl) ?_
   refine wl rfl va _ (run_mvZ (.tmp 0) rfl va rfl) ?_
   refine wl rfl (.int .i64 (A.length : Nat)) _ (run_lenR HM.out.2.2.1 (.tmp 59) rfl rfl) ?_
   simp only [Act.put, aS, aC, aZ]
   refine wl rfl (.bool true) _ (run_lssZ (.tmp 58) (.tmp 60) rfl (k : Nat) (A.length : Nat) rfl rfl true (decide_eq_true (by omega))) ?_
   refine wl rfl (.bool true) _ (run_mvZ (.tmp 61) rfl (.bool true) rfl) ?_
   refine wl (by kernel_rfl) (.int .i64 (k : Nat)) _ (run_mvZ (.tmp 14) rfl (.int .i64 (k : Nat)) rfl) ?_
   simp only [Act.put, aS, aC, aZ]
   refine wl (by kernel_rfl) (.bool true) _ (run_lssZ (.tmp 63) (.const (.int .i64 30)) rfl (k : Nat) 30 rfl rfl true (decide_eq_true (by omega))) ?_
   refine wl rfl (.bool true) _ (run_pickZ (.tmp 62) (.tmp 64) (.const (.bool false)) rfl true (.bool true) rfl rfl) ?_
   simp only [Act.put, aS, aC, aZ]
   refine wpList_nil ?_
   obtain ⟨ab, aj, au, hx_, hc_, _⟩ := HM.out.2.2.1.ix k h1.1
   have HXA : Hid ((∀ w', (Instr.indexAt 65 va (.int .i64 (k : Nat))).run Tryd.prog w' = .ok (.pointer (some ⟨ab, aj, none⟩)) w') ∧ (∀ W, Below w.heap.size w W → W.cell? ⟨ab, aj, none⟩ = some au ∧ SliceIn W au (A.getD k []))) := ⟨hx_, hc_⟩
   clear hx_ hc_
   go_upto_region 12 with fail
   refine wp_region_lit ?_
   refine wl_make (.const (.int .i64 64)) (.const (.int .i64 64)) 38 5 (.int .u8 0) 1 1 rfl rfl Tryd.underlying38 info5z 64 rfl rfl (by decide) (by decide) ?_
   intro Y1 r_ z_ b_
   rw [made5] at r_
   obtain ⟨q15, hqb⟩ : ∃ g, g = W0.heap.size := ⟨_, rfl⟩
   rw [← hqb] at r_ z_ ⊢
   have HY1 : Hid (Row Y1 q15 5 (bcells (zr 64)) ∧ Below W0.heap.size W0 Y1 ∧ W0.heap.size ≤ q15) := ⟨r_, b_, Nat.le_of_eq hqb.symm⟩
   clear r_ z_ b_ hqb
   simp only [Act.put, aS, aC, aZ]
   refine wl rfl (whole q15 64) _ (run_asZ (.tmp 68) rfl (whole q15 64) rfl) ?_
   simp only [Act.put, aS, aC, aZ]
   refine wpList_nil ?_
   go_upto_region 13 with fail
   refine wp_region_lit ?_
   refine wl rfl (whole q15 64) _ (run_mvZ (.tmp 15) rfl (whole q15 64) rfl) ?_
   refine wl rfl va _ (run_mvZ (.tmp 0) rfl va rfl) ?_
   refine wl rfl (.int .i64 (k : Nat)) _ (run_mvZ (.tmp 14) rfl (.int .i64 (k : Nat)) rfl) ?_
   simp only [Act.put, aS, aC, aZ]
   refine wl rfl (.pointer (some ⟨ab, aj, none⟩)) _ (run_idx (.tmp 70) (.tmp 71) rfl _ _ _ rfl rfl HXA.out.1) ?_
   refine wl rfl au _ (run_load1 o38 (.tmp 72) rfl ab (aj) rfl au (HXA.out.2 _ (HS0.out.1.f.bel.trans (HY1.out.2.1.mono HS0.out.1.f.bel.size))).1) ?_
   simp only [Act.put, aS, aC, aZ]
   have hau_ := (HXA.out.2 _ (HS0.out.1.f.bel.trans (HY1.out.2.1.mono HS0.out.1.f.bel.size))).2
   obtain ⟨Y2, hr_, hrow_, hch_, hsz_⟩ := copyS (g := q15) (off := 0) (dLen := 64) (dCap := 64) hau_ HY1.out.1 (min (A.getD k []).length 64) rfl (by rw [bcells_length, zr_length]; omega)
   rw [splice_b64] at hrow_
   refine wl rfl (.int .i64 ((min (A.getD k []).length 64 : Nat) : Int)) Y2 (run_copyOp (.tmp 69) (.tmp 73) rfl (.slice (some ⟨q15, 0, none⟩) 64 64) au _ rfl rfl hr_) ?_
   have hb64_ := b64_is (A.getD k []) hau_.lt256
   have hsl_ := whole_slice hrow_ hb64_.2 (by rw [hb64_.1]; decide)
   rw [hb64_.1] at hsl_
   have HY2 : Hid (SliceIn Y2 (whole q15 64) (b64 (A.getD k [])) ∧ ((b64 (A.getD k [])).length = 64 ∧ ∀ c ∈ b64 (A.getD k []), c < 256) ∧ Below W0.heap.size W0 Y2) := ⟨hsl_, hb64_, HY1.out.2.1.trans (hch_.below HY1.out.2.1.size fun i hi e => by have := HY1.out.2.2; omega)⟩
   clear hau_ hr_ hrow_ hch_ hsz_ hb64_ hsl_
   simp only [Act.put, aS, aC, aZ]
   refine wpList_nil ?_
   go_upto_region 14 with fail
   refine wp_region_lit ?_
   refine wl rfl (ptr gp) _ (run_mvZ (.tmp 8) rfl (ptr gp) rfl) ?_
   refine wl rfl (whole q15 64) _ (run_mvZ (.tmp 15) rfl (whole q15 64) rfl) ?_
   simp only [Act.put, aS, aC, aZ]
   refine wpList_callW eN29 [.tmp 75, .const (.int .i64 0), .tmp 76] _ rfl rfl [(ptr gp), (.int .i64 0), (whole q15 64)] rfl ?_
   refine ((HS0.out.1.bel HY2.out.2.2).v.live.append (by have := HS0.out.1.k; omega) ((0 : Nat) : Int) (whole q15 64) (b64 (A.getD k [])) HY2.out.1).mono ?_
   rintro e Y3 ⟨rfl, hn_⟩
   obtain ⟨c3, s_, k_⟩ := (HS0.out.1.bel HY2.out.2.2).next hn_ (append_go HS0.out.1.tv HS0.out.1.fu HY2.out.2.1)
   refine ⟨_, rfl, ?_⟩
   obtain ⟨za, hza⟩ : ∃ z, z = (m0.append ((0 : Nat) : Int) (b64 (A.getD k []))).1 := ⟨_, rfl⟩
   obtain ⟨zb, hzb⟩ : ∃ z, z = (m0.append ((0 : Nat) : Int) (b64 (A.getD k []))).2.1 := ⟨_, rfl⟩
   rw [← hza, ← hzb]
   have HS2 : Hid (∃ m, (Rk w Y3 c3 gp gv 60 m rt sl (k + 16 + 1)) ∧ Row Y3 q12 40 (plC ((0 : Nat) : Int) ((0 : Nat) : Int) ((3 : Nat) : Int) false) ∧ q12 ≠ gv ∧ (c3 q12).1 ≠ 2) := ⟨_, k_, s_.out ⟨HS0.out.2.1.later HY2.out.2.2 HS0.out.2.1.lt, HS0.out.2.2⟩⟩
   clear hn_ s_ k_ hza hzb
   simp only [Act.put, aS, aC, aZ]
   refine wpList_nil ?_
   go_upto_region 11 with fail
   refine wp_region_lit ?_
   refine wl rfl (.int .i64 (k : Nat)) _ (run_mvZ (.tmp 14) rfl (.int .i64 (k : Nat)) rfl) ?_
   refine wl rfl (.int .i64 ((k + 1 : Nat) : Int)) _ (run_addZ (.tmp 66) (.const (.int .i64 1)) rfl (k : Nat) 1 _ rfl rfl (by omega) (by omega) (by omega)) ?_
   refine wl rfl (.int .i64 ((k + 1 : Nat) : Int)) _ (run_asZ (.tmp 67) rfl (.int .i64 ((k + 1 : Nat) : Int)) rfl) ?_
   simp only [Act.put, aS, aC, aZ]
   refine wpList_nil ?_
   obtain ⟨m3, hm3_⟩ := HS2.out
   go_wp2_with fail
   exact ⟨⟨k + 1, rfl, by omega, by omega, _, _, _, _, ⟨⟨hm3_.1.v, hm3_.1.tv, hm3_.1.fu, hm3_.1.f, by have := hm3_.1.k; omega, hm3_.1.s⟩, hm3_.2⟩⟩, by simp [intOf]; omega⟩
  ·by_cases h2 : k < A.length
   ·go_upto_region 10 with fail
    refine wp_region_lit ?_
    refine wl rfl (.int .i64 (k : Nat)) _ (run_mvZ (.tmp 14) rfl (.int .i64 (k : Nat)) rfl) ?_
    refine wl rfl va _ (run_mvZ (.tmp 0) rfl va rfl) ?_
    refine wl rfl (.int .i64 (A.length : Nat)) _ (run_lenR HM.out.2.2.1 (.tmp 59) rfl rfl) ?_
    simp only [Act.put, aS, aC, aZ]
    refine wl rfl (.bool true) _ (run_lssZ (.tmp 58) (.tmp 60) rfl (k : Nat) (A.length : Nat) rfl rfl true (decide_eq_true (by omega))) ?_
    refine wl rfl (.bool true) _ (run_mvZ (.tmp 61) rfl (.bool true) rfl) ?_
    refine wl (by kernel_rfl) (.int .i64 (k : Nat)) _ (run_mvZ (.tmp 14) rfl (.int .i64 (k : Nat)) rfl) ?_
    simp only [Act.put, aS, aC, aZ]
    refine wl (by kernel_rfl) (.bool false) _ (run_lssZ (.tmp 63) (.const (.int .i64 30)) rfl (k : Nat) 30 rfl rfl false (decide_eq_false (by omega))) ?_
    refine wl rfl (.bool false) _ (run_pickZ (.tmp 62) (.tmp 64) (.const (.bool false)) rfl true (.bool false) rfl rfl) ?_
    simp only [Act.put, aS, aC, aZ]
    refine wpList_nil ?_
    go_upto_region 15 with fail
    refine wp_region_lit ?_
    refine wl rfl (ptr gp) _ (run_mvZ (.tmp 8) rfl (ptr gp) rfl) ?_
    simp only [Act.put, aS, aC, aZ]
    refine wpList_callW eN30 [.tmp 78, .const (.int .i64 0)] _ rfl rfl [(ptr gp), (.int .i64 0)] rfl ?_
    refine (HS0.out.1.v.live.flush (by have := HS0.out.1.k; omega) ((0 : Nat) : Int)).mono ?_
    rintro e Z1 ⟨rfl, hn_⟩
    have hf_ := flush_go HS0.out.1.tv HS0.out.1.fu
    rw [hf_.1]
    obtain ⟨c3, s_, k_⟩ := HS0.out.1.next hn_ hf_.2
    refine ⟨_, rfl, ?_⟩
    obtain ⟨m3, hm3⟩ : ∃ m, m = (m0.flush ((0 : Nat) : Int)).2 := ⟨_, rfl⟩
    rw [← hm3] at k_
    have HT : Hid ((Rk w Z1 c3 gp gv 60 m3 rt sl (k + 16 + 1)) ∧ Row Z1 q12 40 (plC ((0 : Nat) : Int) ((0 : Nat) : Int) ((3 : Nat) : Int) false) ∧ q12 ≠ gv ∧ (c3 q12).1 ≠ 2) := ⟨k_, s_.out HS0.out.2⟩
    clear hn_ s_ k_ hf_ hm3 HS0
    simp only [Act.put, aS, aC, aZ]
    refine wl rfl (.int .i64 0) _ (run_asZ (.tmp 79) rfl (.int .i64 0) rfl) ?_
    simp only [Act.put, aS, aC, aZ]
    refine wpList_nil ?_
    obtain ⟨bf, hbf⟩ : ∃ b, b = false := ⟨_, rfl⟩
    have HBF : Hid (bf = false) := hbf
    clear hbf
    go_upto_region 16 with fail
    refine wp_region_lit ?_
    refine wl rfl (.int .i64 0) _ (run_mvZ (.tmp 13) rfl (.int .i64 0) rfl) ?_
    refine wl rfl (.bool bf) _ ((by rw [HBF.out]; exact run_neZ (.tmp 80) (.const (.int .i64 0)) rfl 0 0 rfl rfl false (by decide))) ?_
    refine wl rfl (.bool bf) _ (run_mvZ (.tmp 81) rfl (.bool bf) rfl) ?_
    simp only [Act.put, aS, aC, aZ]
    refine wl (by rw [HBF.out]; kernel_rfl) (.int .i64 0) _ (run_mvZ (.tmp 16) rfl (.int .i64 0) rfl) ?_
    refine wl (by rw [HBF.out]; kernel_rfl) (.bool bf) _ ((by rw [HBF.out]; exact run_neZ (.tmp 83) (.const (.int .i64 0)) rfl 0 0 rfl rfl false (by decide))) ?_
    refine wl rfl (.bool bf) _ (run_pickZ (.tmp 82) (.const (.bool true)) (.tmp 84) rfl bf (.bool bf) rfl (by rw [HBF.out]; rfl)) ?_
    simp only [Act.put, aS, aC, aZ]
    refine wpList_nil ?_
    obtain rfl : bf = false := HBF.out
    go_upto_region 18 with fail
    refine wp_region_lit ?_
    refine wl rfl (.int .i64 0) _ (run_asZ (.const (.int .i64 0)) rfl (.int .i64 0) rfl) ?_
    simp only [Act.put, aS, aC, aZ]
    refine wpList_nil ?_
    go_wp2_with fail
    go_loopw [17] (fun vk W => ∃ j : Nat, vk = .int .i64 (j : Nat) ∧ j ≤ ts.length ∧ Hid (∃ c m rt sl, (Rk w W c gp gv 60 m rt sl (47)) ∧ Row W q12 40 (plC ((0 : Nat) : Int) ((0 : Nat) : Int) ((3 : Nat) : Int) false) ∧ q12 ≠ gv ∧ (c q12).1 ≠ 2)) (fun vk _ => ts.length - (intOf vk).toNat)
    case atStart => exact ⟨0, rfl, Nat.zero_le _, _, _, _, _, ⟨HT.out.1.v, HT.out.1.tv, HT.out.1.fu, HT.out.1.f, by have := HT.out.1.k; omega, HT.out.1.s⟩, HT.out.2⟩
    case round =>
     obtain ⟨j, rfl, hjt, HI⟩ := hrel
     obtain ⟨c4, m4, rt4, sl4, hS_⟩ := HI.out
     obtain ⟨W6, hW6⟩ : ∃ X, X = wr := ⟨_, rfl⟩
     subst hW6
     have HR0 : Hid ((Rk w W6 c4 gp gv 60 m4 rt4 sl4 (47)) ∧ Row W6 q12 40 (plC ((0 : Nat) : Int) ((0 : Nat) : Int) ((3 : Nat) : Int) false) ∧ q12 ≠ gv ∧ (c4 q12).1 ≠ 2) := hS_
     clear hS_ HI HT
     by_cases hj : j < ts.length
     ·go_upto_region 19 with fail
      refine wp_region_lit ?_
      refine wl rfl (.int .i64 (j : Nat)) _ (run_mvZ (.tmp 17) rfl (.int .i64 (j : Nat)) rfl) ?_
      refine wl rfl vt _ (run_mvZ (.tmp 2) rfl vt rfl) ?_
      refine wl rfl (.int .i64 (ts.length : Nat)) _ (run_lenTr HM.out.2.2.2.2 (.tmp 87) rfl rfl) ?_
      simp only [Act.put, aS, aC, aZ]
      refine wl rfl (.bool true) _ (run_lssZ (.tmp 86) (.tmp 88) rfl (j : Nat) (ts.length : Nat) rfl rfl true (decide_eq_true (by omega))) ?_
      simp only [Act.put, aS, aC, aZ]
      refine wpList_nil ?_
      obtain ⟨tb, tj, hx_, _, hc_⟩ := ix_tr HM.out.2.2.2.2 j hj
      obtain ⟨tr, htr⟩ : ∃ t, t = ts.getD j default := ⟨_, rfl⟩
      rw [← htr] at hc_
      have HXT : Hid ((∀ w', (Instr.indexAt 66 vt (.int .i64 (j : Nat))).run Tryd.prog w' = .ok (.pointer (some ⟨tb, tj, none⟩)) w') ∧ ∀ W, Below w.heap.size w W → ∀ (i : Nat) u, tr.cells[i]? = some u → W.cell? ⟨tb, tj + i, none⟩ = some u) := ⟨hx_, hc_⟩
      clear hx_ hc_ htr
      go_upto_region 21 with fail
      refine wp_region_held (S := fun X => Below w.heap.size w X) (by kernel_rfl) ?_
      show wpAnyH _ _ _ _ _ 17 (Array.replicate 17 false) _ _
      obtain ⟨X, hX⟩ : ∃ X : World, X = { W6 with drawn := W6.drawn + 1 } := ⟨_, rfl⟩
      rw [← hX]
      have HRX : Hid ((Rk w X c4 gp gv 60 m4 rt4 sl4 (47)) ∧ Row X q12 40 (plC ((0 : Nat) : Int) ((0 : Nat) : Int) ((3 : Nat) : Int) false) ∧ q12 ≠ gv ∧ (c4 q12).1 ≠ 2) := (by rw [hX]; exact ⟨HR0.out.1.bel ⟨rfl, rfl, rfl, Nat.le_refl _, fun _ _ => rfl⟩, HR0.out.2.1.later ⟨rfl, rfl, rfl, Nat.le_refl _, fun _ _ => rfl⟩ HR0.out.2.1.lt, HR0.out.2.2⟩)
      have HS_ : Below w.heap.size w X := HRX.out.1.f.bel
      clear hX
      refine tH 0 92 rfl rfl (gRun rfl (ptr gp) fun _ h => run_mvZ (.tmp 8) rfl (ptr gp) rfl) HS_ ?_
      refine tH 1 93 rfl rfl (gRun rfl vt fun _ h => run_mvZ (.tmp 2) rfl vt rfl) HS_ ?_
      refine tH 2 94 rfl rfl (gRun rfl (.int .i64 (j : Nat)) fun _ h => run_mvZ (.tmp 17) rfl (.int .i64 (j : Nat)) rfl) HS_ ?_
      simp only [Act.put, aS, aC, aZ]
      refine tH 3 95 rfl rfl (gRun rfl (.pointer (some ⟨tb, tj, none⟩)) fun _ h => run_idx (.tmp 93) (.tmp 94) rfl _ _ _ rfl rfl HXT.out.1) HS_ ?_
      refine tH 4 96 rfl rfl (gRun rfl (.pointer (some ⟨tb, tj + 0, none⟩)) fun _ h => run_arrIx (.tmp 95) 0 (by decide) rfl tb tj rfl) HS_ ?_
      refine tH 5 97 rfl rfl (gRun rfl (.int .i64 tr.x) fun _ h => run_load1 o3 (.tmp 96) rfl tb (tj + 0) rfl (.int .i64 tr.x) (HXT.out.2 _ h 0 _ rfl)) HS_ ?_
      simp only [Act.put, aS, aC, aZ]
      refine tH 6 98 rfl rfl (gRun rfl vt fun _ h => run_mvZ (.tmp 2) rfl vt rfl) HS_ ?_
      refine tH 7 99 rfl rfl (gRun rfl (.int .i64 (j : Nat)) fun _ h => run_mvZ (.tmp 17) rfl (.int .i64 (j : Nat)) rfl) HS_ ?_
      refine tH 8 100 rfl rfl (gRun rfl (.pointer (some ⟨tb, tj, none⟩)) fun _ h => run_idx (.tmp 98) (.tmp 99) rfl _ _ _ rfl rfl HXT.out.1) HS_ ?_
      simp only [Act.put, aS, aC, aZ]
      refine tH 9 101 rfl rfl (gRun rfl (.pointer (some ⟨tb, tj + 1, none⟩)) fun _ h => run_arrIx (.tmp 100) 1 (by decide) rfl tb tj rfl) HS_ ?_
      refine tH 10 102 rfl rfl (gRun rfl (.int .i64 tr.y) fun _ h => run_load1 o3 (.tmp 101) rfl tb (tj + 1) rfl (.int .i64 tr.y) (HXT.out.2 _ h 1 _ rfl)) HS_ ?_
      refine tH 11 103 rfl rfl (gRun rfl vt fun _ h => run_mvZ (.tmp 2) rfl vt rfl) HS_ ?_
      simp only [Act.put, aS, aC, aZ]
      refine tH 12 104 rfl rfl (gRun rfl (.int .i64 (j : Nat)) fun _ h => run_mvZ (.tmp 17) rfl (.int .i64 (j : Nat)) rfl) HS_ ?_
      refine tH 13 105 rfl rfl (gRun rfl (.pointer (some ⟨tb, tj, none⟩)) fun _ h => run_idx (.tmp 103) (.tmp 104) rfl _ _ _ rfl rfl HXT.out.1) HS_ ?_
      refine tH 14 106 rfl rfl (gRun rfl (.pointer (some ⟨tb, tj + 2, none⟩)) fun _ h => run_arrIx (.tmp 105) 2 (by decide) rfl tb tj rfl) HS_ ?_
      simp only [Act.put, aS, aC, aZ]
      refine tH 15 107 rfl rfl (gRun rfl (.int .i64 tr.z) fun _ h => run_load1 o3 (.tmp 106) rfl tb (tj + 2) rfl (.int .i64 tr.z) (HXT.out.2 _ h 2 _ rfl)) HS_ ?_
      simp only [Act.put, aS, aC, aZ]
      refine oneH (i := 16) (by kernel_rfl) ?_
      refine opCallG (some 108) rfl rfl rfl 31 _ (run_call eN31 [.tmp 92, .const (.int .i64 0), .tmp 97, .tmp 102, .tmp 107] _ rfl [(ptr gp), .int .i64 0, (.int .i64 tr.x), (.int .i64 tr.y), (.int .i64 tr.z)] rfl) ?_
      refine (HRX.out.1.v.live.rot ((0 : Nat) : Int) tr.x tr.y tr.z).mono ?_
      rintro e Z3 ⟨rfl, hn_⟩
      obtain ⟨c5, s_, k_⟩ := HRX.out.1.next hn_ (rot_go HRX.out.1.tv HRX.out.1.fu _ _ _ _)
      obtain ⟨rb_, hrb_⟩ : ∃ z, z = (m4.rot ((0 : Nat) : Int) tr.x tr.y tr.z).1 := ⟨_, rfl⟩
      rw [← hrb_]
      have HR2 : Hid (∃ m, (Rk w Z3 c5 gp gv 60 m rt4 sl4 (47)) ∧ Row Z3 q12 40 (plC ((0 : Nat) : Int) ((0 : Nat) : Int) ((3 : Nat) : Int) false) ∧ q12 ≠ gv ∧ (c5 q12).1 ≠ 2) := ⟨_, ⟨k_.v, k_.tv, k_.fu, k_.f, by rw [rot_steps]; exact HRX.out.1.k, k_.s⟩, s_.out HRX.out.2⟩
      replace HS_ : Below w.heap.size w Z3 := k_.f.bel
      clear hn_ s_ k_ hrb_
      refine ⟨_, rfl, ?_⟩
      refine ⟨HS_, ?_⟩
      simp only [Act.put, aS, aC, aZ]
      refine wpAnyH_done (by kernel_rfl) ?_ _
      go_upto_region 20 with fail
      refine wp_region_lit ?_
      refine wl rfl (.int .i64 (j : Nat)) _ (run_mvZ (.tmp 17) rfl (.int .i64 (j : Nat)) rfl) ?_
      refine wl rfl (.int .i64 ((j + 1 : Nat) : Int)) _ (run_addZ (.tmp 90) (.const (.int .i64 1)) rfl (j : Nat) 1 _ rfl rfl (by omega) (by omega) (by omega)) ?_
      refine wl rfl (.int .i64 ((j + 1 : Nat) : Int)) _ (run_asZ (.tmp 91) rfl (.int .i64 ((j + 1 : Nat) : Int)) rfl) ?_
      simp only [Act.put, aS, aC, aZ]
      refine wpList_nil ?_
      obtain ⟨m5, hm5_⟩ := HR2.out
      go_wp2_with fail
      exact ⟨⟨j + 1, rfl, by omega, _, _, _, _, hm5_⟩, by simp [intOf]; omega⟩
     ·go_upto_region 19 with fail
      refine wp_region_lit ?_
      refine wl rfl (.int .i64 (j : Nat)) _ (run_mvZ (.tmp 17) rfl (.int .i64 (j : Nat)) rfl) ?_
      refine wl rfl vt _ (run_mvZ (.tmp 2) rfl vt rfl) ?_
      refine wl rfl (.int .i64 (ts.length : Nat)) _ (run_lenTr HM.out.2.2.2.2 (.tmp 87) rfl rfl) ?_
      simp only [Act.put, aS, aC, aZ]
      refine wl rfl (.bool false) _ (run_lssZ (.tmp 86) (.tmp 88) rfl (j : Nat) (ts.length : Nat) rfl rfl false (decide_eq_false (by omega))) ?_
      simp only [Act.put, aS, aC, aZ]
      refine wpList_nil ?_
      go_upto_region 22 with fail
      refine wp_region_lit ?_
      refine wl rfl (ptr gp) _ (run_mvZ (.tmp 8) rfl (ptr gp) rfl) ?_
      simp only [Act.put, aS, aC, aZ]
      refine wpList_callW eN10 [.tmp 110, .const (.int .i64 0)] _ rfl rfl [(ptr gp), (.int .i64 0)] rfl ?_
      refine (vopen_any HR0.out.1.v.live (ds := []) (ts := [60]) HR0.out.1.s HR0.out.1.v.env ⟨by have := HR0.out.1.v.row.lt; have := HR0.out.1.v.far; omega, HR0.out.1.v.gl⟩ (by decide) 0 (by decide)).mono ?_
      rintro e V1 ⟨hb_, ⟨hno_, _⟩ | ⟨i9, g2, hi9_, _, rfl, hg_, hv_⟩⟩
      ·exact absurd ⟨by decide, by decide⟩ hno_
      obtain rfl : i9 = 0 := (by have h9 : i9 < 1 := hi9_; omega)
      refine ⟨_, rfl, ?_⟩
      have HV : Hid ((Rk w V1 c4 gp g2 60 m4 (Zs 32) false (47)) ∧ Row V1 q12 40 (plC ((0 : Nat) : Int) ((0 : Nat) : Int) ((3 : Nat) : Int) false) ∧ q12 ≠ g2 ∧ (c4 q12).1 ≠ 2) := ⟨⟨hv_, HR0.out.1.tv, HR0.out.1.fu, ⟨HR0.out.1.f.bel.trans (hb_.mono HR0.out.1.f.bel.size), Nat.le_trans HR0.out.1.f.bel.size hg_, HR0.out.1.f.col⟩, HR0.out.1.k, HR0.out.1.s⟩, HR0.out.2.1.later hb_ HR0.out.2.1.lt, fun e => by have := HR0.out.2.1.lt; omega, HR0.out.2.2.2⟩
      clear hb_ hg_ hv_ HR0
      simp only [Act.put, aS, aC, aZ]
      refine wl rfl (.tuple #[(ptr g2), (.int .i64 0)]) _ (run_mvZ (.tmp 111) rfl (.tuple #[(ptr g2), (.int .i64 0)]) rfl) ?_
      refine wl rfl (ptr g2) _ (run_extZ (.tmp 109) 0 rfl #[(ptr g2), (.int .i64 0)] rfl (ptr g2) rfl) ?_
      refine wl rfl (.int .i64 0) _ (run_extZ (.tmp 109) 1 rfl #[(ptr g2), (.int .i64 0)] rfl (.int .i64 0) rfl) ?_
      simp only [Act.put, aS, aC, aZ]
      refine wl rfl (ptr g2) _ (run_asZ (.tmp 112) rfl (ptr g2) rfl) ?_
      refine wl rfl (.int .i64 0) _ (run_asZ (.tmp 113) rfl (.int .i64 0) rfl) ?_
      simp only [Act.put, aS, aC, aZ]
      refine wpList_nil ?_
      obtain ⟨bf, hbf⟩ : ∃ b, b = false := ⟨_, rfl⟩
      have HBF : Hid (bf = false) := hbf
      clear hbf
      go_upto_region 23 with fail
      refine wp_region_lit ?_
      refine wl rfl (ptr g2) _ (run_mvZ (.tmp 10) rfl (ptr g2) rfl) ?_
      refine wl rfl (.bool bf) _ ((by rw [HBF.out]; exact run_binOp' (.tmp 114) (.const (.pointer none)) rfl _ _ _ rfl rfl rfl (by kernel_rfl))) ?_
      refine wl rfl (.bool bf) _ (run_mvZ (.tmp 115) rfl (.bool bf) rfl) ?_
      simp only [Act.put, aS, aC, aZ]
      refine wl (by rw [HBF.out]; kernel_rfl) (.int .i64 0) _ (run_mvZ (.tmp 11) rfl (.int .i64 0) rfl) ?_
      refine wl (by rw [HBF.out]; kernel_rfl) (.bool bf) _ ((by rw [HBF.out]; exact run_neZ (.tmp 117) (.const (.int .i64 0)) rfl 0 0 rfl rfl false (by decide))) ?_
      refine wl rfl (.bool bf) _ (run_pickZ (.tmp 116) (.const (.bool true)) (.tmp 118) rfl bf (.bool bf) rfl (by rw [HBF.out]; rfl)) ?_
      simp only [Act.put, aS, aC, aZ]
      refine wpList_nil ?_
      obtain rfl : bf = false := HBF.out
      go_upto_region 25 with fail
      refine wp_region_lit ?_
      refine wl rfl (.agg ((plC ((0 : Nat) : Int) ((0 : Nat) : Int) ((3 : Nat) : Int) false)).toArray) _ (run_loadA ag40 (.tmp 12) rfl q12 (0) rfl ((plC ((0 : Nat) : Int) ((0 : Nat) : Int) ((3 : Nat) : Int) false)) rfl (rows_one HV.out.2.1)) ?_
      refine wl rfl (.slice (some ⟨V1.heap.size, 0, none⟩) 1 1) _ (run_litC el56 (plC ((0 : Nat) : Int) ((0 : Nat) : Int) ((3 : Nat) : Int) false) rfl (.tmp 120) rfl rfl) ?_
      have hb_ := below_alloc V1 (.cells (plC ((0 : Nat) : Int) ((0 : Nat) : Int) ((3 : Nat) : Int) false).toArray 40)
      have o_ : COwn 40 4 (V1.alloc (.cells (plC ((0 : Nat) : Int) ((0 : Nat) : Int) ((3 : Nat) : Int) false).toArray 40)) V1.heap.size (whole V1.heap.size [(plC ((0 : Nat) : Int) ((0 : Nat) : Int) ((3 : Nat) : Int) false)].length) [(plC ((0 : Nat) : Int) ((0 : Nat) : Int) ((3 : Nat) : Int) false)] := COwn.whole (CAll.one ⟨rfl, plC_one _ _ _ _⟩) (by rw [List.flatten_cons, List.flatten_nil, List.append_nil]; exact Row.new V1 40 (plC ((0 : Nat) : Int) ((0 : Nat) : Int) ((3 : Nat) : Int) false)) (Nat.le_refl _) (by show 1 ≤ _; decide)
      obtain ⟨V2, hW_⟩ : ∃ U_ : World, U_ = V1.alloc (.cells (plC ((0 : Nat) : Int) ((0 : Nat) : Int) ((3 : Nat) : Int) false).toArray 40) := ⟨_, rfl⟩
      obtain ⟨vl1, hv_⟩ : ∃ v : Value, v = .slice (some ⟨V1.heap.size, 0, none⟩) 1 1 := ⟨_, rfl⟩
      rw [← hW_] at hb_ o_ ⊢
      rw [← hv_]
      have HW2 : Hid (Below V1.heap.size V1 V2 ∧ PwIn V2 V1.heap.size vl1 [(⟨0, 0, 3, false⟩ : Pq)]) := ⟨hb_, ⟨_, by rw [hv_]; exact o_, rfl, x0_ok⟩⟩
      clear hb_ o_ hW_ hv_
      simp only [Act.put, aS, aC, aZ]
      refine wl rfl vl _ (run_mvZ (.tmp 1) rfl vl rfl) ?_
      simp only [Act.put, aS, aC, aZ]
      have hbw_ := HV.out.1.f.bel.trans (HW2.out.1.mono HV.out.1.f.bel.size)
      obtain ⟨pu, cu, hvl, _, _, hcu, hok⟩ := PlsIn.later HM.out.2.2.2.1 hbw_
      obtain ⟨va2, V3, hr_, ho_, hb_⟩ := HW2.out.2.app hok pu cu hcu (by simp; omega) HW2.out.1.size
      rw [← hvl] at hr_
      refine wl rfl va2 V3 (run_appOp (.tmp 121) (.tmp 122) rfl _ _ _ rfl rfl hr_) ?_
      have HW3 : Hid ((Rk w V3 c4 gp g2 60 m4 (Zs 32) false (47)) ∧ Below V1.heap.size V1 V3 ∧ PwIn V3 V1.heap.size va2 ([(⟨0, 0, 3, false⟩ : Pq)] ++ us)) := ⟨HV.out.1.bel (HW2.out.1.trans hb_), HW2.out.1.trans hb_, ho_⟩
      clear hbw_ hr_ ho_ hb_ hcu hok HW2
      simp only [Act.put, aS, aC, aZ]
      refine wl rfl (ptr g2) _ (run_mvZ (.tmp 10) rfl (ptr g2) rfl) ?_
      simp only [Act.put, aS, aC, aZ]
      refine wpList_callW eN22 [.tmp 124] _ rfl rfl [(ptr g2)] rfl ?_
      refine (vlist_rk HW3.out.1 (by decide)).mono ?_
      rintro e V4 ⟨hb_, os, pk, ck, rfl, hs_, ho_, hn_, hn60_⟩
      refine ⟨_, rfl, ?_⟩
      have hb1_ := HW3.out.2.1.trans (hb_.mono HW3.out.2.1.size)
      obtain ⟨va3, V5, hr_, hp_, hb2_⟩ := (HW3.out.2.2.later hb_).app ho_ pk ck hs_ (by simp; omega) hb1_.size
      have HW5 : Hid ((Rk w V5 c4 gp g2 60 m4 (Zs 32) false (47)) ∧ ∃ vs, PwIn V5 V1.heap.size va3 vs ∧ vs.length ≤ 8796093022208) := ⟨HV.out.1.bel (hb1_.trans hb2_), _, hp_, by simp; omega⟩
      clear hb_ hs_ ho_ hb1_ hp_ hb2_ HW3
      simp only [Act.put, aS, aC, aZ]
      refine wl rfl va3 _ (run_appOp (.tmp 123) (.tmp 125) rfl _ _ _ rfl rfl hr_) ?_
      refine wl rfl va3 _ (run_asZ (.tmp 126) rfl va3 rfl) ?_
      simp only [Act.put, aS, aC, aZ]
      refine wpList_nil ?_
      clear hr_ HV
      obtain ⟨vs, hvs_, hvn_⟩ := HW5.out.2
      have HP : Hid (((Rk w V5 c4 gp g2 60 m4 (Zs 32) false (47)) ∧ PwIn V5 V1.heap.size va3 vs) ∧ vs.length ≤ 8796093022208) := ⟨⟨HW5.out.1, hvs_⟩, hvn_⟩
      clear hvs_ hvn_ HW5
      go_upto_region 26 with fail
      refine wp_region_lit ?_
      refine wl rfl (.int .i64 0) _ (run_asZ (.const (.int .i64 0)) rfl (.int .i64 0) rfl) ?_
      simp only [Act.put, aS, aC, aZ]
      refine wpList_nil ?_
      go_wp2_with fail
      go_loopw [19, 20, 21, 22] (fun vk _ _ _ W => ∃ k : Nat, vk = .int .i64 (k : Nat) ∧ k ≤ vs.length ∧ Hid ((Rk w W c4 gp g2 60 m4 (Zs 32) false (47)) ∧ PwIn W V1.heap.size va3 vs)) (fun vk _ _ _ _ => vs.length - (intOf vk).toNat)
      case atStart => exact ⟨0, rfl, Nat.zero_le _, HP.out.1⟩
      case round =>
       obtain ⟨k, rfl, hkv, HI⟩ := hrel
       obtain ⟨W7, hW7⟩ : ∃ X, X = wr := ⟨_, rfl⟩
       subst hW7
       have hvn := HP.out.2
       clear HP
       by_cases hk : k < vs.length ∧ k < 60
       ·go_upto_region 27 with fail
        refine wp_region_lit ?_
        refine wl rfl (.int .i64 (k : Nat)) _ (run_mvZ (.tmp 19) rfl (.int .i64 (k : Nat)) rfl) ?_
        refine wl rfl va3 _ (run_mvZ (.tmp 18) rfl va3 rfl) ?_
        refine wl rfl (.int .i64 (vs.length : Nat)) _ (run_lenW HI.out.2 (.tmp 128) rfl rfl) ?_
        simp only [Act.put, aS, aC, aZ]
        refine wl rfl (.bool true) _ (run_lssZ (.tmp 127) (.tmp 129) rfl (k : Nat) (vs.length : Nat) rfl rfl true (decide_eq_true (by omega))) ?_
        refine wl rfl (.bool true) _ (run_mvZ (.tmp 130) rfl (.bool true) rfl) ?_
        refine wl (by kernel_rfl) (.int .i64 (k : Nat)) _ (run_mvZ (.tmp 19) rfl (.int .i64 (k : Nat)) rfl) ?_
        simp only [Act.put, aS, aC, aZ]
        refine wl (by kernel_rfl) (.bool true) _ (run_lssZ (.tmp 132) (.const (.int .i64 60)) rfl (k : Nat) 60 rfl rfl true (decide_eq_true (by omega))) ?_
        refine wl rfl (.bool true) _ (run_pickZ (.tmp 131) (.tmp 133) (.const (.bool false)) rfl true (.bool true) rfl rfl) ?_
        simp only [Act.put, aS, aC, aZ]
        refine wpList_nil ?_
        obtain ⟨pb, hx_, hok_, hc_⟩ := HI.out.2.ix k hk.1
        obtain ⟨px, hpx⟩ : ∃ p, p = vs.getD k default := ⟨_, rfl⟩
        rw [← hpx] at hok_ hc_
        have HX : Hid ((∀ w', (Instr.indexAt 56 va3 (.int .i64 (k : Nat))).run Tryd.prog w' = .ok (.pointer (some ⟨pb, k * 4, none⟩)) w') ∧ px.ok ∧ ∀ W', Below W7.heap.size W7 W' → ∀ (i : Nat) u, px.cells[i]? = some u → W'.cell? ⟨pb, k * 4 + i, none⟩ = some u) := ⟨hx_, hok_, hc_⟩
        clear hx_ hok_ hc_ hpx
        go_upto_region 29 with fail
        refine wp_region_lit ?_
        refine wl rfl (ptr g2) _ (run_mvZ (.tmp 10) rfl (ptr g2) rfl) ?_
        refine wl rfl va3 _ (run_mvZ (.tmp 18) rfl va3 rfl) ?_
        refine wl rfl (.int .i64 (k : Nat)) _ (run_mvZ (.tmp 19) rfl (.int .i64 (k : Nat)) rfl) ?_
        simp only [Act.put, aS, aC, aZ]
        refine wl rfl (.pointer (some ⟨pb, k * 4, none⟩)) _ (run_idx (.tmp 139) (.tmp 140) rfl _ _ _ rfl rfl HX.out.1) ?_
        refine wl rfl (.agg (px.cells).toArray) _ (run_loadA ag40 (.tmp 141) rfl pb (k * 4) rfl (px.cells) rfl (HX.out.2.2 _ (Below.refl _ _))) ?_
        simp only [Act.put, aS, aC, aZ]
        refine wpList_callW eN17 [.tmp 138, .tmp 142] _ rfl rfl [(ptr g2), (.agg px.cells.toArray)] rfl ?_
        refine (vread_rk HI.out.1 (by decide) px HX.out.2.1).mono ?_
        rintro e W8 ⟨hb_, id, vb, bs, er, rfl, hs_, hbs_, her_⟩
        refine ⟨_, rfl, ?_⟩
        have HI8 : Hid (((Rk w W8 c4 gp g2 60 m4 (Zs 32) false (47)) ∧ PwIn W8 V1.heap.size va3 vs) ∧ SliceIn W8 vb bs ∧ bs.length ≤ 512) := ⟨⟨HI.out.1.bel hb_, HI.out.2.later hb_⟩, hs_, hbs_⟩
        clear hb_ hs_ HI HX
        simp only [Act.put, aS, aC, aZ]
        refine wl rfl (.tuple #[(str id), vb, (.int .i64 er)]) _ (run_mvZ (.tmp 143) rfl (.tuple #[(str id), vb, (.int .i64 er)]) rfl) ?_
        refine wl rfl (str id) _ (run_extZ (.tmp 137) 0 rfl #[(str id), vb, (.int .i64 er)] rfl (str id) rfl) ?_
        refine wl rfl vb _ (run_extZ (.tmp 137) 1 rfl #[(str id), vb, (.int .i64 er)] rfl vb rfl) ?_
        simp only [Act.put, aS, aC, aZ]
        refine wl rfl (.int .i64 er) _ (run_extZ (.tmp 137) 2 rfl #[(str id), vb, (.int .i64 er)] rfl (.int .i64 er) rfl) ?_
        refine wl rfl (str id) _ (run_asZ (.tmp 144) rfl (str id) rfl) ?_
        refine wl rfl vb _ (run_asZ (.tmp 145) rfl vb rfl) ?_
        simp only [Act.put, aS, aC, aZ]
        refine wl rfl (.int .i64 er) _ (run_asZ (.tmp 146) rfl (.int .i64 er) rfl) ?_
        simp only [Act.put, aS, aC, aZ]
        refine wpList_nil ?_
        have hbs := HI8.out.2.2
        rcases her_ with rfl | ⟨rfl, rfl, rfl⟩
        ·go_upto_region 30 with fail
         refine wp_region_lit ?_
         refine wl rfl (.int .i64 0) _ (run_mvZ (.tmp 22) rfl (.int .i64 0) rfl) ?_
         refine wl rfl (.bool false) _ (run_neZ (.tmp 147) (.const (.int .i64 0)) rfl (0) (0) rfl rfl false rfl) ?_
         refine wl rfl (.bool false) _ (run_mvZ (.tmp 148) rfl (.bool false) rfl) ?_
         simp only [Act.put, aS, aC, aZ]
         with_reducible refine wpList_skip (by kernel_rfl) ?_
         simp only [Act.put, aS, aC, aZ]
         with_reducible refine wpList_skip (by kernel_rfl) ?_
         simp only [Act.put, aS, aC, aZ]
         with_reducible refine wpList_skip (by kernel_rfl) ?_
         simp only [Act.put, aS, aC, aZ]
         with_reducible refine wpList_skip (by kernel_rfl) ?_
         simp only [Act.put, aS, aC, aZ]
         with_reducible refine wpList_skip (by kernel_rfl) ?_
         simp only [Act.put, aS, aC, aZ]
         with_reducible refine wpList_skip (by kernel_rfl) ?_
         simp only [Act.put, aS, aC, aZ]
         with_reducible refine wpList_skip (by kernel_rfl) ?_
         simp only [Act.put, aS, aC, aZ]
         with_reducible refine wpList_skip (by kernel_rfl) ?_
         simp only [Act.put, aS, aC, aZ]
         with_reducible refine wpList_skip (by kernel_rfl) ?_
         simp only [Act.put, aS, aC, aZ]
         with_reducible refine wpList_skip (by kernel_rfl) ?_
         simp only [Act.put, aS, aC, aZ]
         with_reducible refine wpList_skip (by kernel_rfl) ?_
         simp only [Act.put, aS, aC, aZ]
         refine wl rfl (.bool false) _ (run_pickZ (.tmp 149) (.tmp 160) (.const (.bool false)) rfl false (.bool false) rfl rfl) ?_
         refine wl rfl (.bool false) _ (run_mvZ (.tmp 161) rfl (.bool false) rfl) ?_
         refine wl (by kernel_rfl) vb _ (run_mvZ (.tmp 21) rfl vb rfl) ?_
         simp only [Act.put, aS, aC, aZ]
         refine wl (by kernel_rfl) (.int .i64 (bs.length : Nat)) _ (run_lenS HI8.out.2.1 (.tmp 163) rfl rfl) ?_
         refine wl (by kernel_rfl) (.bool false) _ (run_gtrZ (.tmp 164) (.const (.int .i64 512)) rfl (bs.length : Nat) 512 rfl rfl false (decide_eq_false (by first | omega | decide))) ?_
         refine wl rfl (.bool false) _ (run_pickZ (.tmp 162) (.const (.bool true)) (.tmp 165) rfl false (.bool false) rfl rfl) ?_
         simp only [Act.put, aS, aC, aZ]
         refine wpList_nil ?_
         go_upto_region 28 with fail
         refine wp_region_lit ?_
         refine wl rfl (.int .i64 (k : Nat)) _ (run_mvZ (.tmp 19) rfl (.int .i64 (k : Nat)) rfl) ?_
         refine wl rfl (.int .i64 ((k + 1 : Nat) : Int)) _ (run_addZ (.tmp 135) (.const (.int .i64 1)) rfl (k : Nat) 1 _ rfl rfl (by omega) (by omega) (by omega)) ?_
         refine wl rfl (.int .i64 ((k + 1 : Nat) : Int)) _ (run_asZ (.tmp 136) rfl (.int .i64 ((k + 1 : Nat) : Int)) rfl) ?_
         simp only [Act.put, aS, aC, aZ]
         refine wpList_nil ?_
         go_wp2_with fail
         exact ⟨⟨k + 1, rfl, by omega, HI8.out.1⟩, by simp [intOf]; omega⟩
        ·go_upto_region 30 with fail
         refine wp_region_lit ?_
         refine wl rfl (.int .i64 4) _ (run_mvZ (.tmp 22) rfl (.int .i64 4) rfl) ?_
         refine wl rfl (.bool true) _ (run_neZ (.tmp 147) (.const (.int .i64 0)) rfl (4) (0) rfl rfl true rfl) ?_
         refine wl rfl (.bool true) _ (run_mvZ (.tmp 148) rfl (.bool true) rfl) ?_
         simp only [Act.put, aS, aC, aZ]
         refine wl (by kernel_rfl) (.int .i64 4) _ (run_mvZ (.tmp 22) rfl (.int .i64 4) rfl) ?_
         refine wl (by kernel_rfl) (.bool false) _ (run_neZ (.tmp 150) (.const (.int .i64 4)) rfl (4) (4) rfl rfl false rfl) ?_
         refine wl (by kernel_rfl) (.bool false) _ (run_mvZ (.tmp 151) rfl (.bool false) rfl) ?_
         simp only [Act.put, aS, aC, aZ]
         refine wl (by kernel_rfl) (str []) _ (run_mvZ (.tmp 20) rfl (str []) rfl) ?_
         refine wl (by kernel_rfl) (.bool false) _ (run_neS (.tmp 153) (.const (.string { data := #[] })) rfl _ rfl rfl) ?_
         refine wl (by kernel_rfl) (.bool false) _ (run_pickZ (.tmp 152) (.const (.bool true)) (.tmp 154) rfl false (.bool false) rfl rfl) ?_
         simp only [Act.put, aS, aC, aZ]
         refine wl (by kernel_rfl) (.bool false) _ (run_mvZ (.tmp 155) rfl (.bool false) rfl) ?_
         refine wl (by kernel_rfl) vb _ (run_mvZ (.tmp 21) rfl vb rfl) ?_
         refine wl (by kernel_rfl) (.int .i64 (([] : List Nat).length : Nat)) _ (run_lenS HI8.out.2.1 (.tmp 157) rfl rfl) ?_
         simp only [Act.put, aS, aC, aZ]
         refine wl (by kernel_rfl) (.bool false) _ (run_gtrZ (.tmp 158) (.const (.int .i64 0)) rfl (([] : List Nat).length : Nat) 0 rfl rfl false (decide_eq_false (by decide))) ?_
         refine wl (by kernel_rfl) (.bool false) _ (run_pickZ (.tmp 156) (.const (.bool true)) (.tmp 159) rfl false (.bool false) rfl rfl) ?_
         refine wl rfl (.bool false) _ (run_pickZ (.tmp 149) (.tmp 160) (.const (.bool false)) rfl true (.bool false) rfl rfl) ?_
         simp only [Act.put, aS, aC, aZ]
         refine wl rfl (.bool false) _ (run_mvZ (.tmp 161) rfl (.bool false) rfl) ?_
         refine wl (by kernel_rfl) vb _ (run_mvZ (.tmp 21) rfl vb rfl) ?_
         refine wl (by kernel_rfl) (.int .i64 (([] : List Nat).length : Nat)) _ (run_lenS HI8.out.2.1 (.tmp 163) rfl rfl) ?_
         simp only [Act.put, aS, aC, aZ]
         refine wl (by kernel_rfl) (.bool false) _ (run_gtrZ (.tmp 164) (.const (.int .i64 512)) rfl (([] : List Nat).length : Nat) 512 rfl rfl false (decide_eq_false (by first | omega | decide))) ?_
         refine wl rfl (.bool false) _ (run_pickZ (.tmp 162) (.const (.bool true)) (.tmp 165) rfl false (.bool false) rfl rfl) ?_
         simp only [Act.put, aS, aC, aZ]
         refine wpList_nil ?_
         go_upto_region 28 with fail
         refine wp_region_lit ?_
         refine wl rfl (.int .i64 (k : Nat)) _ (run_mvZ (.tmp 19) rfl (.int .i64 (k : Nat)) rfl) ?_
         refine wl rfl (.int .i64 ((k + 1 : Nat) : Int)) _ (run_addZ (.tmp 135) (.const (.int .i64 1)) rfl (k : Nat) 1 _ rfl rfl (by omega) (by omega) (by omega)) ?_
         refine wl rfl (.int .i64 ((k + 1 : Nat) : Int)) _ (run_asZ (.tmp 136) rfl (.int .i64 ((k + 1 : Nat) : Int)) rfl) ?_
         simp only [Act.put, aS, aC, aZ]
         refine wpList_nil ?_
         go_wp2_with fail
         exact ⟨⟨k + 1, rfl, by omega, HI8.out.1⟩, by simp [intOf]; omega⟩
       ·by_cases hk2 : k < vs.length
        ·go_upto_region 27 with fail
         refine wp_region_lit ?_
         refine wl rfl (.int .i64 (k : Nat)) _ (run_mvZ (.tmp 19) rfl (.int .i64 (k : Nat)) rfl) ?_
         refine wl rfl va3 _ (run_mvZ (.tmp 18) rfl va3 rfl) ?_
         refine wl rfl (.int .i64 (vs.length : Nat)) _ (run_lenW HI.out.2 (.tmp 128) rfl rfl) ?_
         simp only [Act.put, aS, aC, aZ]
         refine wl rfl (.bool true) _ (run_lssZ (.tmp 127) (.tmp 129) rfl (k : Nat) (vs.length : Nat) rfl rfl true (decide_eq_true (by omega))) ?_
         refine wl rfl (.bool true) _ (run_mvZ (.tmp 130) rfl (.bool true) rfl) ?_
         refine wl (by kernel_rfl) (.int .i64 (k : Nat)) _ (run_mvZ (.tmp 19) rfl (.int .i64 (k : Nat)) rfl) ?_
         simp only [Act.put, aS, aC, aZ]
         refine wl (by kernel_rfl) (.bool false) _ (run_lssZ (.tmp 132) (.const (.int .i64 60)) rfl (k : Nat) 60 rfl rfl false (decide_eq_false (by omega))) ?_
         refine wl rfl (.bool false) _ (run_pickZ (.tmp 131) (.tmp 133) (.const (.bool false)) rfl true (.bool false) rfl rfl) ?_
         simp only [Act.put, aS, aC, aZ]
         refine wpList_nil ?_
         go_upto_region 32 with fail
         refine wp_region_lit ?_
         refine wl rfl (ptr g2) _ (run_mvZ (.tmp 10) rfl (ptr g2) rfl) ?_
         simp only [Act.put, aS, aC, aZ]
         refine wpList_callW eN20 [.tmp 167] _ rfl rfl [(ptr g2)] rfl ?_
         refine (vroot_rk HI.out.1 (by decide)).mono ?_
         rintro e W9 ⟨vr, rt2, sl2, rfl, hk_⟩
         refine ⟨_, rfl, ?_⟩
         have HK9 : Hid (Rk w W9 c4 gp g2 60 m4 rt2 sl2 (47)) := hk_
         clear hk_ HI
         simp only [Act.put, aS, aC, aZ]
         refine wpList_nil ?_
         go_upto_region 33 with fail
         refine wp_region_lit ?_
         refine wl rfl (ptr g2) _ (run_mvZ (.tmp 10) rfl (ptr g2) rfl) ?_
         simp only [Act.put, aS, aC, aZ]
         refine wpList_callW eN19 [.tmp 169] _ rfl rfl [(ptr g2)] rfl ?_
         refine (vseal_rk HK9.out (by decide)).mono ?_
         rintro e WA ⟨er, rfl, her_, hb_⟩
         refine ⟨_, rfl, ?_⟩
         have HB : Hid (Below w.heap.size w WA) := hb_
         clear hb_ HK9
         simp only [Act.put, aS, aC, aZ]
         refine wl rfl (.int .i64 er) _ (run_asZ (.tmp 170) rfl (.int .i64 er) rfl) ?_
         simp only [Act.put, aS, aC, aZ]
         refine wpList_nil ?_
         rcases her_ with rfl | rfl
         ·go_upto_region 34 with fail
          refine wp_region_lit ?_
          refine wl rfl (.int .i64 0) _ (run_mvZ (.tmp 9) rfl (.int .i64 0) rfl) ?_
          refine wl rfl (.bool true) _ (run_eqZ (.tmp 171) (.const (.int .i64 0)) rfl (0) (0) rfl rfl true rfl) ?_
          refine wl rfl (.bool true) _ (run_mvZ (.tmp 172) rfl (.bool true) rfl) ?_
          simp only [Act.put, aS, aC, aZ]
          with_reducible refine wpList_skip (by kernel_rfl) ?_
          simp only [Act.put, aS, aC, aZ]
          with_reducible refine wpList_skip (by kernel_rfl) ?_
          simp only [Act.put, aS, aC, aZ]
          refine wl rfl (.bool true) _ (run_pickZ (.tmp 173) (.const (.bool true)) (.tmp 175) rfl true (.bool true) rfl rfl) ?_
          refine wl rfl (.bool true) _ (run_asZ (.tmp 176) rfl (.bool true) rfl) ?_
          simp only [Act.put, aS, aC, aZ]
          refine wpList_nil ?_
          go_wp2_with fail
          rw [HPQ.out]
          exact ⟨rfl, HB.out⟩
         ·go_upto_region 34 with fail
          refine wp_region_lit ?_
          refine wl rfl (.int .i64 3) _ (run_mvZ (.tmp 9) rfl (.int .i64 3) rfl) ?_
          refine wl rfl (.bool false) _ (run_eqZ (.tmp 171) (.const (.int .i64 0)) rfl (3) (0) rfl rfl false rfl) ?_
          refine wl rfl (.bool false) _ (run_mvZ (.tmp 172) rfl (.bool false) rfl) ?_
          simp only [Act.put, aS, aC, aZ]
          refine wl (by kernel_rfl) (.int .i64 3) _ (run_mvZ (.tmp 9) rfl (.int .i64 3) rfl) ?_
          refine wl (by kernel_rfl) (.bool true) _ (run_eqZ (.tmp 174) (.const (.int .i64 3)) rfl (3) (3) rfl rfl true rfl) ?_
          refine wl rfl (.bool true) _ (run_pickZ (.tmp 173) (.const (.bool true)) (.tmp 175) rfl false (.bool true) rfl rfl) ?_
          simp only [Act.put, aS, aC, aZ]
          refine wl rfl (.bool true) _ (run_asZ (.tmp 176) rfl (.bool true) rfl) ?_
          simp only [Act.put, aS, aC, aZ]
          refine wpList_nil ?_
          go_wp2_with fail
          rw [HPQ.out]
          exact ⟨rfl, HB.out⟩
        ·go_upto_region 27 with fail
         refine wp_region_lit ?_
         refine wl rfl (.int .i64 (k : Nat)) _ (run_mvZ (.tmp 19) rfl (.int .i64 (k : Nat)) rfl) ?_
         refine wl rfl va3 _ (run_mvZ (.tmp 18) rfl va3 rfl) ?_
         refine wl rfl (.int .i64 (vs.length : Nat)) _ (run_lenW HI.out.2 (.tmp 128) rfl rfl) ?_
         simp only [Act.put, aS, aC, aZ]
         refine wl rfl (.bool false) _ (run_lssZ (.tmp 127) (.tmp 129) rfl (k : Nat) (vs.length : Nat) rfl rfl false (decide_eq_false (by omega))) ?_
         refine wl rfl (.bool false) _ (run_mvZ (.tmp 130) rfl (.bool false) rfl) ?_
         simp only [Act.put, aS, aC, aZ]
         with_reducible refine wpList_skip (by kernel_rfl) ?_
         simp only [Act.put, aS, aC, aZ]
         with_reducible refine wpList_skip (by kernel_rfl) ?_
         simp only [Act.put, aS, aC, aZ]
         refine wl rfl (.bool false) _ (run_pickZ (.tmp 131) (.tmp 133) (.const (.bool false)) rfl false (.bool false) rfl rfl) ?_
         simp only [Act.put, aS, aC, aZ]
         refine wpList_nil ?_
         go_upto_region 32 with fail
         refine wp_region_lit ?_
         refine wl rfl (ptr g2) _ (run_mvZ (.tmp 10) rfl (ptr g2) rfl) ?_
         simp only [Act.put, aS, aC, aZ]
         refine wpList_callW eN20 [.tmp 167] _ rfl rfl [(ptr g2)] rfl ?_
         refine (vroot_rk HI.out.1 (by decide)).mono ?_
         rintro e W9 ⟨vr, rt2, sl2, rfl, hk_⟩
         refine ⟨_, rfl, ?_⟩
         have HK9 : Hid (Rk w W9 c4 gp g2 60 m4 rt2 sl2 (47)) := hk_
         clear hk_ HI
         simp only [Act.put, aS, aC, aZ]
         refine wpList_nil ?_
         go_upto_region 33 with fail
         refine wp_region_lit ?_
         refine wl rfl (ptr g2) _ (run_mvZ (.tmp 10) rfl (ptr g2) rfl) ?_
         simp only [Act.put, aS, aC, aZ]
         refine wpList_callW eN19 [.tmp 169] _ rfl rfl [(ptr g2)] rfl ?_
         refine (vseal_rk HK9.out (by decide)).mono ?_
         rintro e WA ⟨er, rfl, her_, hb_⟩
         refine ⟨_, rfl, ?_⟩
         have HB : Hid (Below w.heap.size w WA) := hb_
         clear hb_ HK9
         simp only [Act.put, aS, aC, aZ]
         refine wl rfl (.int .i64 er) _ (run_asZ (.tmp 170) rfl (.int .i64 er) rfl) ?_
         simp only [Act.put, aS, aC, aZ]
         refine wpList_nil ?_
         rcases her_ with rfl | rfl
         ·go_upto_region 34 with fail
          refine wp_region_lit ?_
          refine wl rfl (.int .i64 0) _ (run_mvZ (.tmp 9) rfl (.int .i64 0) rfl) ?_
          refine wl rfl (.bool true) _ (run_eqZ (.tmp 171) (.const (.int .i64 0)) rfl (0) (0) rfl rfl true rfl) ?_
          refine wl rfl (.bool true) _ (run_mvZ (.tmp 172) rfl (.bool true) rfl) ?_
          simp only [Act.put, aS, aC, aZ]
          with_reducible refine wpList_skip (by kernel_rfl) ?_
          simp only [Act.put, aS, aC, aZ]
          with_reducible refine wpList_skip (by kernel_rfl) ?_
          simp only [Act.put, aS, aC, aZ]
          refine wl rfl (.bool true) _ (run_pickZ (.tmp 173) (.const (.bool true)) (.tmp 175) rfl true (.bool true) rfl rfl) ?_
          refine wl rfl (.bool true) _ (run_asZ (.tmp 176) rfl (.bool true) rfl) ?_
          simp only [Act.put, aS, aC, aZ]
          refine wpList_nil ?_
          go_wp2_with fail
          rw [HPQ.out]
          exact ⟨rfl, HB.out⟩
         ·go_upto_region 34 with fail
          refine wp_region_lit ?_
          refine wl rfl (.int .i64 3) _ (run_mvZ (.tmp 9) rfl (.int .i64 3) rfl) ?_
          refine wl rfl (.bool false) _ (run_eqZ (.tmp 171) (.const (.int .i64 0)) rfl (3) (0) rfl rfl false rfl) ?_
          refine wl rfl (.bool false) _ (run_mvZ (.tmp 172) rfl (.bool false) rfl) ?_
          simp only [Act.put, aS, aC, aZ]
          refine wl (by kernel_rfl) (.int .i64 3) _ (run_mvZ (.tmp 9) rfl (.int .i64 3) rfl) ?_
          refine wl (by kernel_rfl) (.bool true) _ (run_eqZ (.tmp 174) (.const (.int .i64 3)) rfl (3) (3) rfl rfl true rfl) ?_
          refine wl rfl (.bool true) _ (run_pickZ (.tmp 173) (.const (.bool true)) (.tmp 175) rfl false (.bool true) rfl rfl) ?_
          simp only [Act.put, aS, aC, aZ]
          refine wl rfl (.bool true) _ (run_asZ (.tmp 176) rfl (.bool true) rfl) ?_
          simp only [Act.put, aS, aC, aZ]
          refine wpList_nil ?_
          go_wp2_with fail
          rw [HPQ.out]
          exact ⟨rfl, HB.out⟩
   ·go_upto_region 10 with fail
    refine wp_region_lit ?_
    refine wl rfl (.int .i64 (k : Nat)) _ (run_mvZ (.tmp 14) rfl (.int .i64 (k : Nat)) rfl) ?_
    refine wl rfl va _ (run_mvZ (.tmp 0) rfl va rfl) ?_
    refine wl rfl (.int .i64 (A.length : Nat)) _ (run_lenR HM.out.2.2.1 (.tmp 59) rfl rfl) ?_
    simp only [Act.put, aS, aC, aZ]
    refine wl rfl (.bool false) _ (run_lssZ (.tmp 58) (.tmp 60) rfl (k : Nat) (A.length : Nat) rfl rfl false (decide_eq_false (by omega))) ?_
    refine wl rfl (.bool false) _ (run_mvZ (.tmp 61) rfl (.bool false) rfl) ?_
    simp only [Act.put, aS, aC, aZ]
    with_reducible refine wpList_skip (by kernel_rfl) ?_
    simp only [Act.put, aS, aC, aZ]
    with_reducible refine wpList_skip (by kernel_rfl) ?_
    simp only [Act.put, aS, aC, aZ]
    refine wl rfl (.bool false) _ (run_pickZ (.tmp 62) (.tmp 64) (.const (.bool false)) rfl false (.bool false) rfl rfl) ?_
    simp only [Act.put, aS, aC, aZ]
    refine wpList_nil ?_
    go_upto_region 15 with fail
    refine wp_region_lit ?_
    refine wl rfl (ptr gp) _ (run_mvZ (.tmp 8) rfl (ptr gp) rfl) ?_
    simp only [Act.put, aS, aC, aZ]
    refine wpList_callW eN30 [.tmp 78, .const (.int .i64 0)] _ rfl rfl [(ptr gp), (.int .i64 0)] rfl ?_
    refine (HS0.out.1.v.live.flush (by have := HS0.out.1.k; omega) ((0 : Nat) : Int)).mono ?_
    rintro e Z1 ⟨rfl, hn_⟩
    have hf_ := flush_go HS0.out.1.tv HS0.out.1.fu
    rw [hf_.1]
    obtain ⟨c3, s_, k_⟩ := HS0.out.1.next hn_ hf_.2
    refine ⟨_, rfl, ?_⟩
    obtain ⟨m3, hm3⟩ : ∃ m, m = (m0.flush ((0 : Nat) : Int)).2 := ⟨_, rfl⟩
    rw [← hm3] at k_
    have HT : Hid ((Rk w Z1 c3 gp gv 60 m3 rt sl (k + 16 + 1)) ∧ Row Z1 q12 40 (plC ((0 : Nat) : Int) ((0 : Nat) : Int) ((3 : Nat) : Int) false) ∧ q12 ≠ gv ∧ (c3 q12).1 ≠ 2) := ⟨k_, s_.out HS0.out.2⟩
    clear hn_ s_ k_ hf_ hm3 HS0
    simp only [Act.put, aS, aC, aZ]
    refine wl rfl (.int .i64 0) _ (run_asZ (.tmp 79) rfl (.int .i64 0) rfl) ?_
    simp only [Act.put, aS, aC, aZ]
    refine wpList_nil ?_
    obtain ⟨bf, hbf⟩ : ∃ b, b = false := ⟨_, rfl⟩
    have HBF : Hid (bf = false) := hbf
    clear hbf
    go_upto_region 16 with fail
    refine wp_region_lit ?_
    refine wl rfl (.int .i64 0) _ (run_mvZ (.tmp 13) rfl (.int .i64 0) rfl) ?_
    refine wl rfl (.bool bf) _ ((by rw [HBF.out]; exact run_neZ (.tmp 80) (.const (.int .i64 0)) rfl 0 0 rfl rfl false (by decide))) ?_
    refine wl rfl (.bool bf) _ (run_mvZ (.tmp 81) rfl (.bool bf) rfl) ?_
    simp only [Act.put, aS, aC, aZ]
    refine wl (by rw [HBF.out]; kernel_rfl) (.int .i64 0) _ (run_mvZ (.tmp 16) rfl (.int .i64 0) rfl) ?_
    refine wl (by rw [HBF.out]; kernel_rfl) (.bool bf) _ ((by rw [HBF.out]; exact run_neZ (.tmp 83) (.const (.int .i64 0)) rfl 0 0 rfl rfl false (by decide))) ?_
    refine wl rfl (.bool bf) _ (run_pickZ (.tmp 82) (.const (.bool true)) (.tmp 84) rfl bf (.bool bf) rfl (by rw [HBF.out]; rfl)) ?_
    simp only [Act.put, aS, aC, aZ]
    refine wpList_nil ?_
    obtain rfl : bf = false := HBF.out
    go_upto_region 18 with fail
    refine wp_region_lit ?_
    refine wl rfl (.int .i64 0) _ (run_asZ (.const (.int .i64 0)) rfl (.int .i64 0) rfl) ?_
    simp only [Act.put, aS, aC, aZ]
    refine wpList_nil ?_
    go_wp2_with fail
    go_loopw [17] (fun vk W => ∃ j : Nat, vk = .int .i64 (j : Nat) ∧ j ≤ ts.length ∧ Hid (∃ c m rt sl, (Rk w W c gp gv 60 m rt sl (47)) ∧ Row W q12 40 (plC ((0 : Nat) : Int) ((0 : Nat) : Int) ((3 : Nat) : Int) false) ∧ q12 ≠ gv ∧ (c q12).1 ≠ 2)) (fun vk _ => ts.length - (intOf vk).toNat)
    case atStart => exact ⟨0, rfl, Nat.zero_le _, _, _, _, _, ⟨HT.out.1.v, HT.out.1.tv, HT.out.1.fu, HT.out.1.f, by have := HT.out.1.k; omega, HT.out.1.s⟩, HT.out.2⟩
    case round =>
     obtain ⟨j, rfl, hjt, HI⟩ := hrel
     obtain ⟨c4, m4, rt4, sl4, hS_⟩ := HI.out
     obtain ⟨W6, hW6⟩ : ∃ X, X = wr := ⟨_, rfl⟩
     subst hW6
     have HR0 : Hid ((Rk w W6 c4 gp gv 60 m4 rt4 sl4 (47)) ∧ Row W6 q12 40 (plC ((0 : Nat) : Int) ((0 : Nat) : Int) ((3 : Nat) : Int) false) ∧ q12 ≠ gv ∧ (c4 q12).1 ≠ 2) := hS_
     clear hS_ HI HT
     by_cases hj : j < ts.length
     ·go_upto_region 19 with fail
      refine wp_region_lit ?_
      refine wl rfl (.int .i64 (j : Nat)) _ (run_mvZ (.tmp 17) rfl (.int .i64 (j : Nat)) rfl) ?_
      refine wl rfl vt _ (run_mvZ (.tmp 2) rfl vt rfl) ?_
      refine wl rfl (.int .i64 (ts.length : Nat)) _ (run_lenTr HM.out.2.2.2.2 (.tmp 87) rfl rfl) ?_
      simp only [Act.put, aS, aC, aZ]
      refine wl rfl (.bool true) _ (run_lssZ (.tmp 86) (.tmp 88) rfl (j : Nat) (ts.length : Nat) rfl rfl true (decide_eq_true (by omega))) ?_
      simp only [Act.put, aS, aC, aZ]
      refine wpList_nil ?_
      obtain ⟨tb, tj, hx_, _, hc_⟩ := ix_tr HM.out.2.2.2.2 j hj
      obtain ⟨tr, htr⟩ : ∃ t, t = ts.getD j default := ⟨_, rfl⟩
      rw [← htr] at hc_
      have HXT : Hid ((∀ w', (Instr.indexAt 66 vt (.int .i64 (j : Nat))).run Tryd.prog w' = .ok (.pointer (some ⟨tb, tj, none⟩)) w') ∧ ∀ W, Below w.heap.size w W → ∀ (i : Nat) u, tr.cells[i]? = some u → W.cell? ⟨tb, tj + i, none⟩ = some u) := ⟨hx_, hc_⟩
      clear hx_ hc_ htr
      go_upto_region 21 with fail
      refine wp_region_held (S := fun X => Below w.heap.size w X) (by kernel_rfl) ?_
      show wpAnyH _ _ _ _ _ 17 (Array.replicate 17 false) _ _
      obtain ⟨X, hX⟩ : ∃ X : World, X = { W6 with drawn := W6.drawn + 1 } := ⟨_, rfl⟩
      rw [← hX]
      have HRX : Hid ((Rk w X c4 gp gv 60 m4 rt4 sl4 (47)) ∧ Row X q12 40 (plC ((0 : Nat) : Int) ((0 : Nat) : Int) ((3 : Nat) : Int) false) ∧ q12 ≠ gv ∧ (c4 q12).1 ≠ 2) := (by rw [hX]; exact ⟨HR0.out.1.bel ⟨rfl, rfl, rfl, Nat.le_refl _, fun _ _ => rfl⟩, HR0.out.2.1.later ⟨rfl, rfl, rfl, Nat.le_refl _, fun _ _ => rfl⟩ HR0.out.2.1.lt, HR0.out.2.2⟩)
      have HS_ : Below w.heap.size w X := HRX.out.1.f.bel
      clear hX
      refine tH 0 92 rfl rfl (gRun rfl (ptr gp) fun _ h => run_mvZ (.tmp 8) rfl (ptr gp) rfl) HS_ ?_
      refine tH 1 93 rfl rfl (gRun rfl vt fun _ h => run_mvZ (.tmp 2) rfl vt rfl) HS_ ?_
      refine tH 2 94 rfl rfl (gRun rfl (.int .i64 (j : Nat)) fun _ h => run_mvZ (.tmp 17) rfl (.int .i64 (j : Nat)) rfl) HS_ ?_
      simp only [Act.put, aS, aC, aZ]
      refine tH 3 95 rfl rfl (gRun rfl (.pointer (some ⟨tb, tj, none⟩)) fun _ h => run_idx (.tmp 93) (.tmp 94) rfl _ _ _ rfl rfl HXT.out.1) HS_ ?_
      refine tH 4 96 rfl rfl (gRun rfl (.pointer (some ⟨tb, tj + 0, none⟩)) fun _ h => run_arrIx (.tmp 95) 0 (by decide) rfl tb tj rfl) HS_ ?_
      refine tH 5 97 rfl rfl (gRun rfl (.int .i64 tr.x) fun _ h => run_load1 o3 (.tmp 96) rfl tb (tj + 0) rfl (.int .i64 tr.x) (HXT.out.2 _ h 0 _ rfl)) HS_ ?_
      simp only [Act.put, aS, aC, aZ]
      refine tH 6 98 rfl rfl (gRun rfl vt fun _ h => run_mvZ (.tmp 2) rfl vt rfl) HS_ ?_
      refine tH 7 99 rfl rfl (gRun rfl (.int .i64 (j : Nat)) fun _ h => run_mvZ (.tmp 17) rfl (.int .i64 (j : Nat)) rfl) HS_ ?_
      refine tH 8 100 rfl rfl (gRun rfl (.pointer (some ⟨tb, tj, none⟩)) fun _ h => run_idx (.tmp 98) (.tmp 99) rfl _ _ _ rfl rfl HXT.out.1) HS_ ?_
      simp only [Act.put, aS, aC, aZ]
      refine tH 9 101 rfl rfl (gRun rfl (.pointer (some ⟨tb, tj + 1, none⟩)) fun _ h => run_arrIx (.tmp 100) 1 (by decide) rfl tb tj rfl) HS_ ?_
      refine tH 10 102 rfl rfl (gRun rfl (.int .i64 tr.y) fun _ h => run_load1 o3 (.tmp 101) rfl tb (tj + 1) rfl (.int .i64 tr.y) (HXT.out.2 _ h 1 _ rfl)) HS_ ?_
      refine tH 11 103 rfl rfl (gRun rfl vt fun _ h => run_mvZ (.tmp 2) rfl vt rfl) HS_ ?_
      simp only [Act.put, aS, aC, aZ]
      refine tH 12 104 rfl rfl (gRun rfl (.int .i64 (j : Nat)) fun _ h => run_mvZ (.tmp 17) rfl (.int .i64 (j : Nat)) rfl) HS_ ?_
      refine tH 13 105 rfl rfl (gRun rfl (.pointer (some ⟨tb, tj, none⟩)) fun _ h => run_idx (.tmp 103) (.tmp 104) rfl _ _ _ rfl rfl HXT.out.1) HS_ ?_
      refine tH 14 106 rfl rfl (gRun rfl (.pointer (some ⟨tb, tj + 2, none⟩)) fun _ h => run_arrIx (.tmp 105) 2 (by decide) rfl tb tj rfl) HS_ ?_
      simp only [Act.put, aS, aC, aZ]
      refine tH 15 107 rfl rfl (gRun rfl (.int .i64 tr.z) fun _ h => run_load1 o3 (.tmp 106) rfl tb (tj + 2) rfl (.int .i64 tr.z) (HXT.out.2 _ h 2 _ rfl)) HS_ ?_
      simp only [Act.put, aS, aC, aZ]
      refine oneH (i := 16) (by kernel_rfl) ?_
      refine opCallG (some 108) rfl rfl rfl 31 _ (run_call eN31 [.tmp 92, .const (.int .i64 0), .tmp 97, .tmp 102, .tmp 107] _ rfl [(ptr gp), .int .i64 0, (.int .i64 tr.x), (.int .i64 tr.y), (.int .i64 tr.z)] rfl) ?_
      refine (HRX.out.1.v.live.rot ((0 : Nat) : Int) tr.x tr.y tr.z).mono ?_
      rintro e Z3 ⟨rfl, hn_⟩
      obtain ⟨c5, s_, k_⟩ := HRX.out.1.next hn_ (rot_go HRX.out.1.tv HRX.out.1.fu _ _ _ _)
      obtain ⟨rb_, hrb_⟩ : ∃ z, z = (m4.rot ((0 : Nat) : Int) tr.x tr.y tr.z).1 := ⟨_, rfl⟩
      rw [← hrb_]
      have HR2 : Hid (∃ m, (Rk w Z3 c5 gp gv 60 m rt4 sl4 (47)) ∧ Row Z3 q12 40 (plC ((0 : Nat) : Int) ((0 : Nat) : Int) ((3 : Nat) : Int) false) ∧ q12 ≠ gv ∧ (c5 q12).1 ≠ 2) := ⟨_, ⟨k_.v, k_.tv, k_.fu, k_.f, by rw [rot_steps]; exact HRX.out.1.k, k_.s⟩, s_.out HRX.out.2⟩
      replace HS_ : Below w.heap.size w Z3 := k_.f.bel
      clear hn_ s_ k_ hrb_
      refine ⟨_, rfl, ?_⟩
      refine ⟨HS_, ?_⟩
      simp only [Act.put, aS, aC, aZ]
      refine wpAnyH_done (by kernel_rfl) ?_ _
      go_upto_region 20 with fail
      refine wp_region_lit ?_
      refine wl rfl (.int .i64 (j : Nat)) _ (run_mvZ (.tmp 17) rfl (.int .i64 (j : Nat)) rfl) ?_
      refine wl rfl (.int .i64 ((j + 1 : Nat) : Int)) _ (run_addZ (.tmp 90) (.const (.int .i64 1)) rfl (j : Nat) 1 _ rfl rfl (by omega) (by omega) (by omega)) ?_
      refine wl rfl (.int .i64 ((j + 1 : Nat) : Int)) _ (run_asZ (.tmp 91) rfl (.int .i64 ((j + 1 : Nat) : Int)) rfl) ?_
      simp only [Act.put, aS, aC, aZ]
      refine wpList_nil ?_
      obtain ⟨m5, hm5_⟩ := HR2.out
      go_wp2_with fail
      exact ⟨⟨j + 1, rfl, by omega, _, _, _, _, hm5_⟩, by simp [intOf]; omega⟩
     ·go_upto_region 19 with fail
      refine wp_region_lit ?_
      refine wl rfl (.int .i64 (j : Nat)) _ (run_mvZ (.tmp 17) rfl (.int .i64 (j : Nat)) rfl) ?_
      refine wl rfl vt _ (run_mvZ (.tmp 2) rfl vt rfl) ?_
      refine wl rfl (.int .i64 (ts.length : Nat)) _ (run_lenTr HM.out.2.2.2.2 (.tmp 87) rfl rfl) ?_
      simp only [Act.put, aS, aC, aZ]
      refine wl rfl (.bool false) _ (run_lssZ (.tmp 86) (.tmp 88) rfl (j : Nat) (ts.length : Nat) rfl rfl false (decide_eq_false (by omega))) ?_
      simp only [Act.put, aS, aC, aZ]
      refine wpList_nil ?_
      go_upto_region 22 with fail
      refine wp_region_lit ?_
      refine wl rfl (ptr gp) _ (run_mvZ (.tmp 8) rfl (ptr gp) rfl) ?_
      simp only [Act.put, aS, aC, aZ]
      refine wpList_callW eN10 [.tmp 110, .const (.int .i64 0)] _ rfl rfl [(ptr gp), (.int .i64 0)] rfl ?_
      refine (vopen_any HR0.out.1.v.live (ds := []) (ts := [60]) HR0.out.1.s HR0.out.1.v.env ⟨by have := HR0.out.1.v.row.lt; have := HR0.out.1.v.far; omega, HR0.out.1.v.gl⟩ (by decide) 0 (by decide)).mono ?_
      rintro e V1 ⟨hb_, ⟨hno_, _⟩ | ⟨i9, g2, hi9_, _, rfl, hg_, hv_⟩⟩
      ·exact absurd ⟨by decide, by decide⟩ hno_
      obtain rfl : i9 = 0 := (by have h9 : i9 < 1 := hi9_; omega)
      refine ⟨_, rfl, ?_⟩
      have HV : Hid ((Rk w V1 c4 gp g2 60 m4 (Zs 32) false (47)) ∧ Row V1 q12 40 (plC ((0 : Nat) : Int) ((0 : Nat) : Int) ((3 : Nat) : Int) false) ∧ q12 ≠ g2 ∧ (c4 q12).1 ≠ 2) := ⟨⟨hv_, HR0.out.1.tv, HR0.out.1.fu, ⟨HR0.out.1.f.bel.trans (hb_.mono HR0.out.1.f.bel.size), Nat.le_trans HR0.out.1.f.bel.size hg_, HR0.out.1.f.col⟩, HR0.out.1.k, HR0.out.1.s⟩, HR0.out.2.1.later hb_ HR0.out.2.1.lt, fun e => by have := HR0.out.2.1.lt; omega, HR0.out.2.2.2⟩
      clear hb_ hg_ hv_ HR0
      simp only [Act.put, aS, aC, aZ]
      refine wl rfl (.tuple #[(ptr g2), (.int .i64 0)]) _ (run_mvZ (.tmp 111) rfl (.tuple #[(ptr g2), (.int .i64 0)]) rfl) ?_
      refine wl rfl (ptr g2) _ (run_extZ (.tmp 109) 0 rfl #[(ptr g2), (.int .i64 0)] rfl (ptr g2) rfl) ?_
      refine wl rfl (.int .i64 0) _ (run_extZ (.tmp 109) 1 rfl #[(ptr g2), (.int .i64 0)] rfl (.int .i64 0) rfl) ?_
      simp only [Act.put, aS, aC, aZ]
      refine wl rfl (ptr g2) _ (run_asZ (.tmp 112) rfl (ptr g2) rfl) ?_
      refine wl rfl (.int .i64 0) _ (run_asZ (.tmp 113) rfl (.int .i64 0) rfl) ?_
      simp only [Act.put, aS, aC, aZ]
      refine wpList_nil ?_
      obtain ⟨bf, hbf⟩ : ∃ b, b = false := ⟨_, rfl⟩
      have HBF : Hid (bf = false) := hbf
      clear hbf
      go_upto_region 23 with fail
      refine wp_region_lit ?_
      refine wl rfl (ptr g2) _ (run_mvZ (.tmp 10) rfl (ptr g2) rfl) ?_
      refine wl rfl (.bool bf) _ ((by rw [HBF.out]; exact run_binOp' (.tmp 114) (.const (.pointer none)) rfl _ _ _ rfl rfl rfl (by kernel_rfl))) ?_
      refine wl rfl (.bool bf) _ (run_mvZ (.tmp 115) rfl (.bool bf) rfl) ?_
      simp only [Act.put, aS, aC, aZ]
      refine wl (by rw [HBF.out]; kernel_rfl) (.int .i64 0) _ (run_mvZ (.tmp 11) rfl (.int .i64 0) rfl) ?_
      refine wl (by rw [HBF.out]; kernel_rfl) (.bool bf) _ ((by rw [HBF.out]; exact run_neZ (.tmp 117) (.const (.int .i64 0)) rfl 0 0 rfl rfl false (by decide))) ?_
      refine wl rfl (.bool bf) _ (run_pickZ (.tmp 116) (.const (.bool true)) (.tmp 118) rfl bf (.bool bf) rfl (by rw [HBF.out]; rfl)) ?_
      simp only [Act.put, aS, aC, aZ]
      refine wpList_nil ?_
      obtain rfl : bf = false := HBF.out
      go_upto_region 25 with fail
      refine wp_region_lit ?_
      refine wl rfl (.agg ((plC ((0 : Nat) : Int) ((0 : Nat) : Int) ((3 : Nat) : Int) false)).toArray) _ (run_loadA ag40 (.tmp 12) rfl q12 (0) rfl ((plC ((0 : Nat) : Int) ((0 : Nat) : Int) ((3 : Nat) : Int) false)) rfl (rows_one HV.out.2.1)) ?_
      refine wl rfl (.slice (some ⟨V1.heap.size, 0, none⟩) 1 1) _ (run_litC el56 (plC ((0 : Nat) : Int) ((0 : Nat) : Int) ((3 : Nat) : Int) false) rfl (.tmp 120) rfl rfl) ?_
      have hb_ := below_alloc V1 (.cells (plC ((0 : Nat) : Int) ((0 : Nat) : Int) ((3 : Nat) : Int) false).toArray 40)
      have o_ : COwn 40 4 (V1.alloc (.cells (plC ((0 : Nat) : Int) ((0 : Nat) : Int) ((3 : Nat) : Int) false).toArray 40)) V1.heap.size (whole V1.heap.size [(plC ((0 : Nat) : Int) ((0 : Nat) : Int) ((3 : Nat) : Int) false)].length) [(plC ((0 : Nat) : Int) ((0 : Nat) : Int) ((3 : Nat) : Int) false)] := COwn.whole (CAll.one ⟨rfl, plC_one _ _ _ _⟩) (by rw [List.flatten_cons, List.flatten_nil, List.append_nil]; exact Row.new V1 40 (plC ((0 : Nat) : Int) ((0 : Nat) : Int) ((3 : Nat) : Int) false)) (Nat.le_refl _) (by show 1 ≤ _; decide)
      obtain ⟨V2, hW_⟩ : ∃ U_ : World, U_ = V1.alloc (.cells (plC ((0 : Nat) : Int) ((0 : Nat) : Int) ((3 : Nat) : Int) false).toArray 40) := ⟨_, rfl⟩
      obtain ⟨vl1, hv_⟩ : ∃ v : Value, v = .slice (some ⟨V1.heap.size, 0, none⟩) 1 1 := ⟨_, rfl⟩
      rw [← hW_] at hb_ o_ ⊢
      rw [← hv_]
      have HW2 : Hid (Below V1.heap.size V1 V2 ∧ PwIn V2 V1.heap.size vl1 [(⟨0, 0, 3, false⟩ : Pq)]) := ⟨hb_, ⟨_, by rw [hv_]; exact o_, rfl, x0_ok⟩⟩
      clear hb_ o_ hW_ hv_
      simp only [Act.put, aS, aC, aZ]
      refine wl rfl vl _ (run_mvZ (.tmp 1) rfl vl rfl) ?_
      simp only [Act.put, aS, aC, aZ]
      have hbw_ := HV.out.1.f.bel.trans (HW2.out.1.mono HV.out.1.f.bel.size)
      obtain ⟨pu, cu, hvl, _, _, hcu, hok⟩ := PlsIn.later HM.out.2.2.2.1 hbw_
      obtain ⟨va2, V3, hr_, ho_, hb_⟩ := HW2.out.2.app hok pu cu hcu (by simp; omega) HW2.out.1.size
      rw [← hvl] at hr_
      refine wl rfl va2 V3 (run_appOp (.tmp 121) (.tmp 122) rfl _ _ _ rfl rfl hr_) ?_
      have HW3 : Hid ((Rk w V3 c4 gp g2 60 m4 (Zs 32) false (47)) ∧ Below V1.heap.size V1 V3 ∧ PwIn V3 V1.heap.size va2 ([(⟨0, 0, 3, false⟩ : Pq)] ++ us)) := ⟨HV.out.1.bel (HW2.out.1.trans hb_), HW2.out.1.trans hb_, ho_⟩
      clear hbw_ hr_ ho_ hb_ hcu hok HW2
      simp only [Act.put, aS, aC, aZ]
      refine wl rfl (ptr g2) _ (run_mvZ (.tmp 10) rfl (ptr g2) rfl) ?_
      simp only [Act.put, aS, aC, aZ]
      refine wpList_callW eN22 [.tmp 124] _ rfl rfl [(ptr g2)] rfl ?_
      refine (vlist_rk HW3.out.1 (by decide)).mono ?_
      rintro e V4 ⟨hb_, os, pk, ck, rfl, hs_, ho_, hn_, hn60_⟩
      refine ⟨_, rfl, ?_⟩
      have hb1_ := HW3.out.2.1.trans (hb_.mono HW3.out.2.1.size)
      obtain ⟨va3, V5, hr_, hp_, hb2_⟩ := (HW3.out.2.2.later hb_).app ho_ pk ck hs_ (by simp; omega) hb1_.size
      have HW5 : Hid ((Rk w V5 c4 gp g2 60 m4 (Zs 32) false (47)) ∧ ∃ vs, PwIn V5 V1.heap.size va3 vs ∧ vs.length ≤ 8796093022208) := ⟨HV.out.1.bel (hb1_.trans hb2_), _, hp_, by simp; omega⟩
      clear hb_ hs_ ho_ hb1_ hp_ hb2_ HW3
      simp only [Act.put, aS, aC, aZ]
      refine wl rfl va3 _ (run_appOp (.tmp 123) (.tmp 125) rfl _ _ _ rfl rfl hr_) ?_
      refine wl rfl va3 _ (run_asZ (.tmp 126) rfl va3 rfl) ?_
      simp only [Act.put, aS, aC, aZ]
      refine wpList_nil ?_
      clear hr_ HV
      obtain ⟨vs, hvs_, hvn_⟩ := HW5.out.2
      have HP : Hid (((Rk w V5 c4 gp g2 60 m4 (Zs 32) false (47)) ∧ PwIn V5 V1.heap.size va3 vs) ∧ vs.length ≤ 8796093022208) := ⟨⟨HW5.out.1, hvs_⟩, hvn_⟩
      clear hvs_ hvn_ HW5
      go_upto_region 26 with fail
      refine wp_region_lit ?_
      refine wl rfl (.int .i64 0) _ (run_asZ (.const (.int .i64 0)) rfl (.int .i64 0) rfl) ?_
      simp only [Act.put, aS, aC, aZ]
      refine wpList_nil ?_
      go_wp2_with fail
      go_loopw [19, 20, 21, 22] (fun vk _ _ _ W => ∃ k : Nat, vk = .int .i64 (k : Nat) ∧ k ≤ vs.length ∧ Hid ((Rk w W c4 gp g2 60 m4 (Zs 32) false (47)) ∧ PwIn W V1.heap.size va3 vs)) (fun vk _ _ _ _ => vs.length - (intOf vk).toNat)
      case atStart => exact ⟨0, rfl, Nat.zero_le _, HP.out.1⟩
      case round =>
       obtain ⟨k, rfl, hkv, HI⟩ := hrel
       obtain ⟨W7, hW7⟩ : ∃ X, X = wr := ⟨_, rfl⟩
       subst hW7
       have hvn := HP.out.2
       clear HP
       by_cases hk : k < vs.length ∧ k < 60
       ·go_upto_region 27 with fail
        refine wp_region_lit ?_
        refine wl rfl (.int .i64 (k : Nat)) _ (run_mvZ (.tmp 19) rfl (.int .i64 (k : Nat)) rfl) ?_
        refine wl rfl va3 _ (run_mvZ (.tmp 18) rfl va3 rfl) ?_
        refine wl rfl (.int .i64 (vs.length : Nat)) _ (run_lenW HI.out.2 (.tmp 128) rfl rfl) ?_
        simp only [Act.put, aS, aC, aZ]
        refine wl rfl (.bool true) _ (run_lssZ (.tmp 127) (.tmp 129) rfl (k : Nat) (vs.length : Nat) rfl rfl true (decide_eq_true (by omega))) ?_
        refine wl rfl (.bool true) _ (run_mvZ (.tmp 130) rfl (.bool true) rfl) ?_
        refine wl (by kernel_rfl) (.int .i64 (k : Nat)) _ (run_mvZ (.tmp 19) rfl (.int .i64 (k : Nat)) rfl) ?_
        simp only [Act.put, aS, aC, aZ]
        refine wl (by kernel_rfl) (.bool true) _ (run_lssZ (.tmp 132) (.const (.int .i64 60)) rfl (k : Nat) 60 rfl rfl true (decide_eq_true (by omega))) ?_
        refine wl rfl (.bool true) _ (run_pickZ (.tmp 131) (.tmp 133) (.const (.bool false)) rfl true (.bool true) rfl rfl) ?_
        simp only [Act.put, aS, aC, aZ]
        refine wpList_nil ?_
        obtain ⟨pb, hx_, hok_, hc_⟩ := HI.out.2.ix k hk.1
        obtain ⟨px, hpx⟩ : ∃ p, p = vs.getD k default := ⟨_, rfl⟩
        rw [← hpx] at hok_ hc_
        have HX : Hid ((∀ w', (Instr.indexAt 56 va3 (.int .i64 (k : Nat))).run Tryd.prog w' = .ok (.pointer (some ⟨pb, k * 4, none⟩)) w') ∧ px.ok ∧ ∀ W', Below W7.heap.size W7 W' → ∀ (i : Nat) u, px.cells[i]? = some u → W'.cell? ⟨pb, k * 4 + i, none⟩ = some u) := ⟨hx_, hok_, hc_⟩
        clear hx_ hok_ hc_ hpx
        go_upto_region 29 with fail
        refine wp_region_lit ?_
        refine wl rfl (ptr g2) _ (run_mvZ (.tmp 10) rfl (ptr g2) rfl) ?_
        refine wl rfl va3 _ (run_mvZ (.tmp 18) rfl va3 rfl) ?_
        refine wl rfl (.int .i64 (k : Nat)) _ (run_mvZ (.tmp 19) rfl (.int .i64 (k : Nat)) rfl) ?_
        simp only [Act.put, aS, aC, aZ]
        refine wl rfl (.pointer (some ⟨pb, k * 4, none⟩)) _ (run_idx (.tmp 139) (.tmp 140) rfl _ _ _ rfl rfl HX.out.1) ?_
        refine wl rfl (.agg (px.cells).toArray) _ (run_loadA ag40 (.tmp 141) rfl pb (k * 4) rfl (px.cells) rfl (HX.out.2.2 _ (Below.refl _ _))) ?_
        simp only [Act.put, aS, aC, aZ]
        refine wpList_callW eN17 [.tmp 138, .tmp 142] _ rfl rfl [(ptr g2), (.agg px.cells.toArray)] rfl ?_
        refine (vread_rk HI.out.1 (by decide) px HX.out.2.1).mono ?_
        rintro e W8 ⟨hb_, id, vb, bs, er, rfl, hs_, hbs_, her_⟩
        refine ⟨_, rfl, ?_⟩
        have HI8 : Hid (((Rk w W8 c4 gp g2 60 m4 (Zs 32) false (47)) ∧ PwIn W8 V1.heap.size va3 vs) ∧ SliceIn W8 vb bs ∧ bs.length ≤ 512) := ⟨⟨HI.out.1.bel hb_, HI.out.2.later hb_⟩, hs_, hbs_⟩
        clear hb_ hs_ HI HX
        simp only [Act.put, aS, aC, aZ]
        refine wl rfl (.tuple #[(str id), vb, (.int .i64 er)]) _ (run_mvZ (.tmp 143) rfl (.tuple #[(str id), vb, (.int .i64 er)]) rfl) ?_
        refine wl rfl (str id) _ (run_extZ (.tmp 137) 0 rfl #[(str id), vb, (.int .i64 er)] rfl (str id) rfl) ?_
        refine wl rfl vb _ (run_extZ (.tmp 137) 1 rfl #[(str id), vb, (.int .i64 er)] rfl vb rfl) ?_
        simp only [Act.put, aS, aC, aZ]
        refine wl rfl (.int .i64 er) _ (run_extZ (.tmp 137) 2 rfl #[(str id), vb, (.int .i64 er)] rfl (.int .i64 er) rfl) ?_
        refine wl rfl (str id) _ (run_asZ (.tmp 144) rfl (str id) rfl) ?_
        refine wl rfl vb _ (run_asZ (.tmp 145) rfl vb rfl) ?_
        simp only [Act.put, aS, aC, aZ]
        refine wl rfl (.int .i64 er) _ (run_asZ (.tmp 146) rfl (.int .i64 er) rfl) ?_
        simp only [Act.put, aS, aC, aZ]
        refine wpList_nil ?_
        have hbs := HI8.out.2.2
        rcases her_ with rfl | ⟨rfl, rfl, rfl⟩
        ·go_upto_region 30 with fail
         refine wp_region_lit ?_
         refine wl rfl (.int .i64 0) _ (run_mvZ (.tmp 22) rfl (.int .i64 0) rfl) ?_
         refine wl rfl (.bool false) _ (run_neZ (.tmp 147) (.const (.int .i64 0)) rfl (0) (0) rfl rfl false rfl) ?_
         refine wl rfl (.bool false) _ (run_mvZ (.tmp 148) rfl (.bool false) rfl) ?_
         simp only [Act.put, aS, aC, aZ]
         with_reducible refine wpList_skip (by kernel_rfl) ?_
         simp only [Act.put, aS, aC, aZ]
         with_reducible refine wpList_skip (by kernel_rfl) ?_
         simp only [Act.put, aS, aC, aZ]
         with_reducible refine wpList_skip (by kernel_rfl) ?_
         simp only [Act.put, aS, aC, aZ]
         with_reducible refine wpList_skip (by kernel_rfl) ?_
         simp only [Act.put, aS, aC, aZ]
         with_reducible refine wpList_skip (by kernel_rfl) ?_
         simp only [Act.put, aS, aC, aZ]
         with_reducible refine wpList_skip (by kernel_rfl) ?_
         simp only [Act.put, aS, aC, aZ]
         with_reducible refine wpList_skip (by kernel_rfl) ?_
         simp only [Act.put, aS, aC, aZ]
         with_reducible refine wpList_skip (by kernel_rfl) ?_
         simp only [Act.put, aS, aC, aZ]
         with_reducible refine wpList_skip (by kernel_rfl) ?_
         simp only [Act.put, aS, aC, aZ]
         with_reducible refine wpList_skip (by kernel_rfl) ?_
         simp only [Act.put, aS, aC, aZ]
         with_reducible refine wpList_skip (by kernel_rfl) ?_
         simp only [Act.put, aS, aC, aZ]
         refine wl rfl (.bool false) _ (run_pickZ (.tmp 149) (.tmp 160) (.const (.bool false)) rfl false (.bool false) rfl rfl) ?_
         refine wl rfl (.bool false) _ (run_mvZ (.tmp 161) rfl (.bool false) rfl) ?_
         refine wl (by kernel_rfl) vb _ (run_mvZ (.tmp 21) rfl vb rfl) ?_
         simp only [Act.put, aS, aC, aZ]
         refine wl (by kernel_rfl) (.int .i64 (bs.length : Nat)) _ (run_lenS HI8.out.2.1 (.tmp 163) rfl rfl) ?_
         refine wl (by kernel_rfl) (.bool false) _ (run_gtrZ (.tmp 164) (.const (.int .i64 512)) rfl (bs.length : Nat) 512 rfl rfl false (decide_eq_false (by first | omega | decide))) ?_
         refine wl rfl (.bool false) _ (run_pickZ (.tmp 162) (.const (.bool true)) (.tmp 165) rfl false (.bool false) rfl rfl) ?_
         simp only [Act.put, aS, aC, aZ]
         refine wpList_nil ?_
         go_upto_region 28 with fail
         refine wp_region_lit ?_
         refine wl rfl (.int .i64 (k : Nat)) _ (run_mvZ (.tmp 19) rfl (.int .i64 (k : Nat)) rfl) ?_
         refine wl rfl (.int .i64 ((k + 1 : Nat) : Int)) _ (run_addZ (.tmp 135) (.const (.int .i64 1)) rfl (k : Nat) 1 _ rfl rfl (by omega) (by omega) (by omega)) ?_
         refine wl rfl (.int .i64 ((k + 1 : Nat) : Int)) _ (run_asZ (.tmp 136) rfl (.int .i64 ((k + 1 : Nat) : Int)) rfl) ?_
         simp only [Act.put, aS, aC, aZ]
         refine wpList_nil ?_
         go_wp2_with fail
         exact ⟨⟨k + 1, rfl, by omega, HI8.out.1⟩, by simp [intOf]; omega⟩
        ·go_upto_region 30 with fail
         refine wp_region_lit ?_
         refine wl rfl (.int .i64 4) _ (run_mvZ (.tmp 22) rfl (.int .i64 4) rfl) ?_
         refine wl rfl (.bool true) _ (run_neZ (.tmp 147) (.const (.int .i64 0)) rfl (4) (0) rfl rfl true rfl) ?_
         refine wl rfl (.bool true) _ (run_mvZ (.tmp 148) rfl (.bool true) rfl) ?_
         simp only [Act.put, aS, aC, aZ]
         refine wl (by kernel_rfl) (.int .i64 4) _ (run_mvZ (.tmp 22) rfl (.int .i64 4) rfl) ?_
         refine wl (by kernel_rfl) (.bool false) _ (run_neZ (.tmp 150) (.const (.int .i64 4)) rfl (4) (4) rfl rfl false rfl) ?_
         refine wl (by kernel_rfl) (.bool false) _ (run_mvZ (.tmp 151) rfl (.bool false) rfl) ?_
         simp only [Act.put, aS, aC, aZ]
         refine wl (by kernel_rfl) (str []) _ (run_mvZ (.tmp 20) rfl (str []) rfl) ?_
         refine wl (by kernel_rfl) (.bool false) _ (run_neS (.tmp 153) (.const (.string { data := #[] })) rfl _ rfl rfl) ?_
         refine wl (by kernel_rfl) (.bool false) _ (run_pickZ (.tmp 152) (.const (.bool true)) (.tmp 154) rfl false (.bool false) rfl rfl) ?_
         simp only [Act.put, aS, aC, aZ]
         refine wl (by kernel_rfl) (.bool false) _ (run_mvZ (.tmp 155) rfl (.bool false) rfl) ?_
         refine wl (by kernel_rfl) vb _ (run_mvZ (.tmp 21) rfl vb rfl) ?_
         refine wl (by kernel_rfl) (.int .i64 (([] : List Nat).length : Nat)) _ (run_lenS HI8.out.2.1 (.tmp 157) rfl rfl) ?_
         simp only [Act.put, aS, aC, aZ]
         refine wl (by kernel_rfl) (.bool false) _ (run_gtrZ (.tmp 158) (.const (.int .i64 0)) rfl (([] : List Nat).length : Nat) 0 rfl rfl false (decide_eq_false (by decide))) ?_
         refine wl (by kernel_rfl) (.bool false) _ (run_pickZ (.tmp 156) (.const (.bool true)) (.tmp 159) rfl false (.bool false) rfl rfl) ?_
         refine wl rfl (.bool false) _ (run_pickZ (.tmp 149) (.tmp 160) (.const (.bool false)) rfl true (.bool false) rfl rfl) ?_
         simp only [Act.put, aS, aC, aZ]
         refine wl rfl (.bool false) _ (run_mvZ (.tmp 161) rfl (.bool false) rfl) ?_
         refine wl (by kernel_rfl) vb _ (run_mvZ (.tmp 21) rfl vb rfl) ?_
         refine wl (by kernel_rfl) (.int .i64 (([] : List Nat).length : Nat)) _ (run_lenS HI8.out.2.1 (.tmp 163) rfl rfl) ?_
         simp only [Act.put, aS, aC, aZ]
         refine wl (by kernel_rfl) (.bool false) _ (run_gtrZ (.tmp 164) (.const (.int .i64 512)) rfl (([] : List Nat).length : Nat) 512 rfl rfl false (decide_eq_false (by first | omega | decide))) ?_
         refine wl rfl (.bool false) _ (run_pickZ (.tmp 162) (.const (.bool true)) (.tmp 165) rfl false (.bool false) rfl rfl) ?_
         simp only [Act.put, aS, aC, aZ]
         refine wpList_nil ?_
         go_upto_region 28 with fail
         refine wp_region_lit ?_
         refine wl rfl (.int .i64 (k : Nat)) _ (run_mvZ (.tmp 19) rfl (.int .i64 (k : Nat)) rfl) ?_
         refine wl rfl (.int .i64 ((k + 1 : Nat) : Int)) _ (run_addZ (.tmp 135) (.const (.int .i64 1)) rfl (k : Nat) 1 _ rfl rfl (by omega) (by omega) (by omega)) ?_
         refine wl rfl (.int .i64 ((k + 1 : Nat) : Int)) _ (run_asZ (.tmp 136) rfl (.int .i64 ((k + 1 : Nat) : Int)) rfl) ?_
         simp only [Act.put, aS, aC, aZ]
         refine wpList_nil ?_
         go_wp2_with fail
         exact ⟨⟨k + 1, rfl, by omega, HI8.out.1⟩, by simp [intOf]; omega⟩
       ·by_cases hk2 : k < vs.length
        ·go_upto_region 27 with fail
         refine wp_region_lit ?_
         refine wl rfl (.int .i64 (k : Nat)) _ (run_mvZ (.tmp 19) rfl (.int .i64 (k : Nat)) rfl) ?_
         refine wl rfl va3 _ (run_mvZ (.tmp 18) rfl va3 rfl) ?_
         refine wl rfl (.int .i64 (vs.length : Nat)) _ (run_lenW HI.out.2 (.tmp 128) rfl rfl) ?_
         simp only [Act.put, aS, aC, aZ]
         refine wl rfl (.bool true) _ (run_lssZ (.tmp 127) (.tmp 129) rfl (k : Nat) (vs.length : Nat) rfl rfl true (decide_eq_true (by omega))) ?_
         refine wl rfl (.bool true) _ (run_mvZ (.tmp 130) rfl (.bool true) rfl) ?_
         refine wl (by kernel_rfl) (.int .i64 (k : Nat)) _ (run_mvZ (.tmp 19) rfl (.int .i64 (k : Nat)) rfl) ?_
         simp only [Act.put, aS, aC, aZ]
         refine wl (by kernel_rfl) (.bool false) _ (run_lssZ (.tmp 132) (.const (.int .i64 60)) rfl (k : Nat) 60 rfl rfl false (decide_eq_false (by omega))) ?_
         refine wl rfl (.bool false) _ (run_pickZ (.tmp 131) (.tmp 133) (.const (.bool false)) rfl true (.bool false) rfl rfl) ?_
         simp only [Act.put, aS, aC, aZ]
         refine wpList_nil ?_
         go_upto_region 32 with fail
         refine wp_region_lit ?_
         refine wl rfl (ptr g2) _ (run_mvZ (.tmp 10) rfl (ptr g2) rfl) ?_
         simp only [Act.put, aS, aC, aZ]
         refine wpList_callW eN20 [.tmp 167] _ rfl rfl [(ptr g2)] rfl ?_
         refine (vroot_rk HI.out.1 (by decide)).mono ?_
         rintro e W9 ⟨vr, rt2, sl2, rfl, hk_⟩
         refine ⟨_, rfl, ?_⟩
         have HK9 : Hid (Rk w W9 c4 gp g2 60 m4 rt2 sl2 (47)) := hk_
         clear hk_ HI
         simp only [Act.put, aS, aC, aZ]
         refine wpList_nil ?_
         go_upto_region 33 with fail
         refine wp_region_lit ?_
         refine wl rfl (ptr g2) _ (run_mvZ (.tmp 10) rfl (ptr g2) rfl) ?_
         simp only [Act.put, aS, aC, aZ]
         refine wpList_callW eN19 [.tmp 169] _ rfl rfl [(ptr g2)] rfl ?_
         refine (vseal_rk HK9.out (by decide)).mono ?_
         rintro e WA ⟨er, rfl, her_, hb_⟩
         refine ⟨_, rfl, ?_⟩
         have HB : Hid (Below w.heap.size w WA) := hb_
         clear hb_ HK9
         simp only [Act.put, aS, aC, aZ]
         refine wl rfl (.int .i64 er) _ (run_asZ (.tmp 170) rfl (.int .i64 er) rfl) ?_
         simp only [Act.put, aS, aC, aZ]
         refine wpList_nil ?_
         rcases her_ with rfl | rfl
         ·go_upto_region 34 with fail
          refine wp_region_lit ?_
          refine wl rfl (.int .i64 0) _ (run_mvZ (.tmp 9) rfl (.int .i64 0) rfl) ?_
          refine wl rfl (.bool true) _ (run_eqZ (.tmp 171) (.const (.int .i64 0)) rfl (0) (0) rfl rfl true rfl) ?_
          refine wl rfl (.bool true) _ (run_mvZ (.tmp 172) rfl (.bool true) rfl) ?_
          simp only [Act.put, aS, aC, aZ]
          with_reducible refine wpList_skip (by kernel_rfl) ?_
          simp only [Act.put, aS, aC, aZ]
          with_reducible refine wpList_skip (by kernel_rfl) ?_
          simp only [Act.put, aS, aC, aZ]
          refine wl rfl (.bool true) _ (run_pickZ (.tmp 173) (.const (.bool true)) (.tmp 175) rfl true (.bool true) rfl rfl) ?_
          refine wl rfl (.bool true) _ (run_asZ (.tmp 176) rfl (.bool true) rfl) ?_
          simp only [Act.put, aS, aC, aZ]
          refine wpList_nil ?_
          go_wp2_with fail
          rw [HPQ.out]
          exact ⟨rfl, HB.out⟩
         ·go_upto_region 34 with fail
          refine wp_region_lit ?_
          refine wl rfl (.int .i64 3) _ (run_mvZ (.tmp 9) rfl (.int .i64 3) rfl) ?_
          refine wl rfl (.bool false) _ (run_eqZ (.tmp 171) (.const (.int .i64 0)) rfl (3) (0) rfl rfl false rfl) ?_
          refine wl rfl (.bool false) _ (run_mvZ (.tmp 172) rfl (.bool false) rfl) ?_
          simp only [Act.put, aS, aC, aZ]
          refine wl (by kernel_rfl) (.int .i64 3) _ (run_mvZ (.tmp 9) rfl (.int .i64 3) rfl) ?_
          refine wl (by kernel_rfl) (.bool true) _ (run_eqZ (.tmp 174) (.const (.int .i64 3)) rfl (3) (3) rfl rfl true rfl) ?_
          refine wl rfl (.bool true) _ (run_pickZ (.tmp 173) (.const (.bool true)) (.tmp 175) rfl false (.bool true) rfl rfl) ?_
          simp only [Act.put, aS, aC, aZ]
          refine wl rfl (.bool true) _ (run_asZ (.tmp 176) rfl (.bool true) rfl) ?_
          simp only [Act.put, aS, aC, aZ]
          refine wpList_nil ?_
          go_wp2_with fail
          rw [HPQ.out]
          exact ⟨rfl, HB.out⟩
        ·go_upto_region 27 with fail
         refine wp_region_lit ?_
         refine wl rfl (.int .i64 (k : Nat)) _ (run_mvZ (.tmp 19) rfl (.int .i64 (k : Nat)) rfl) ?_
         refine wl rfl va3 _ (run_mvZ (.tmp 18) rfl va3 rfl) ?_
         refine wl rfl (.int .i64 (vs.length : Nat)) _ (run_lenW HI.out.2 (.tmp 128) rfl rfl) ?_
         simp only [Act.put, aS, aC, aZ]
         refine wl rfl (.bool false) _ (run_lssZ (.tmp 127) (.tmp 129) rfl (k : Nat) (vs.length : Nat) rfl rfl false (decide_eq_false (by omega))) ?_
         refine wl rfl (.bool false) _ (run_mvZ (.tmp 130) rfl (.bool false) rfl) ?_
         simp only [Act.put, aS, aC, aZ]
         with_reducible refine wpList_skip (by kernel_rfl) ?_
         simp only [Act.put, aS, aC, aZ]
         with_reducible refine wpList_skip (by kernel_rfl) ?_
         simp only [Act.put, aS, aC, aZ]
         refine wl rfl (.bool false) _ (run_pickZ (.tmp 131) (.tmp 133) (.const (.bool false)) rfl false (.bool false) rfl rfl) ?_
         simp only [Act.put, aS, aC, aZ]
         refine wpList_nil ?_
         go_upto_region 32 with fail
         refine wp_region_lit ?_
         refine wl rfl (ptr g2) _ (run_mvZ (.tmp 10) rfl (ptr g2) rfl) ?_
         simp only [Act.put, aS, aC, aZ]
         refine wpList_callW eN20 [.tmp 167] _ rfl rfl [(ptr g2)] rfl ?_
         refine (vroot_rk HI.out.1 (by decide)).mono ?_
         rintro e W9 ⟨vr, rt2, sl2, rfl, hk_⟩
         refine ⟨_, rfl, ?_⟩
         have HK9 : Hid (Rk w W9 c4 gp g2 60 m4 rt2 sl2 (47)) := hk_
         clear hk_ HI
         simp only [Act.put, aS, aC, aZ]
         refine wpList_nil ?_
         go_upto_region 33 with fail
         refine wp_region_lit ?_
         refine wl rfl (ptr g2) _ (run_mvZ (.tmp 10) rfl (ptr g2) rfl) ?_
         simp only [Act.put, aS, aC, aZ]
         refine wpList_callW eN19 [.tmp 169] _ rfl rfl [(ptr g2)] rfl ?_
         refine (vseal_rk HK9.out (by decide)).mono ?_
         rintro e WA ⟨er, rfl, her_, hb_⟩
         refine ⟨_, rfl, ?_⟩
         have HB : Hid (Below w.heap.size w WA) := hb_
         clear hb_ HK9
         simp only [Act.put, aS, aC, aZ]
         refine wl rfl (.int .i64 er) _ (run_asZ (.tmp 170) rfl (.int .i64 er) rfl) ?_
         simp only [Act.put, aS, aC, aZ]
         refine wpList_nil ?_
         rcases her_ with rfl | rfl
         ·go_upto_region 34 with fail
          refine wp_region_lit ?_
          refine wl rfl (.int .i64 0) _ (run_mvZ (.tmp 9) rfl (.int .i64 0) rfl) ?_
          refine wl rfl (.bool true) _ (run_eqZ (.tmp 171) (.const (.int .i64 0)) rfl (0) (0) rfl rfl true rfl) ?_
          refine wl rfl (.bool true) _ (run_mvZ (.tmp 172) rfl (.bool true) rfl) ?_
          simp only [Act.put, aS, aC, aZ]
          with_reducible refine wpList_skip (by kernel_rfl) ?_
          simp only [Act.put, aS, aC, aZ]
          with_reducible refine wpList_skip (by kernel_rfl) ?_
          simp only [Act.put, aS, aC, aZ]
          refine wl rfl (.bool true) _ (run_pickZ (.tmp 173) (.const (.bool true)) (.tmp 175) rfl true (.bool true) rfl rfl) ?_
          refine wl rfl (.bool true) _ (run_asZ (.tmp 176) rfl (.bool true) rfl) ?_
          simp only [Act.put, aS, aC, aZ]
          refine wpList_nil ?_
          go_wp2_with fail
          rw [HPQ.out]
          exact ⟨rfl, HB.out⟩
         ·go_upto_region 34 with fail
          refine wp_region_lit ?_
          refine wl rfl (.int .i64 3) _ (run_mvZ (.tmp 9) rfl (.int .i64 3) rfl) ?_
          refine wl rfl (.bool false) _ (run_eqZ (.tmp 171) (.const (.int .i64 0)) rfl (3) (0) rfl rfl false rfl) ?_
          refine wl rfl (.bool false) _ (run_mvZ (.tmp 172) rfl (.bool false) rfl) ?_
          simp only [Act.put, aS, aC, aZ]
          refine wl (by kernel_rfl) (.int .i64 3) _ (run_mvZ (.tmp 9) rfl (.int .i64 3) rfl) ?_
          refine wl (by kernel_rfl) (.bool true) _ (run_eqZ (.tmp 174) (.const (.int .i64 3)) rfl (3) (3) rfl rfl true rfl) ?_
          refine wl rfl (.bool true) _ (run_pickZ (.tmp 173) (.const (.bool true)) (.tmp 175) rfl false (.bool true) rfl rfl) ?_
          simp only [Act.put, aS, aC, aZ]
          refine wl rfl (.bool true) _ (run_asZ (.tmp 176) rfl (.bool true) rfl) ?_
          simp only [Act.put, aS, aC, aZ]
          refine wpList_nil ?_
          go_wp2_with fail
          rw [HPQ.out]
          exact ⟨rfl, HB.out⟩

end Go.Proofs.YtpkkkkomdblpoaaDoor

/- Layer 14: objects are laid, read and given up, whenever the power goes off. -/
import Derived.Test.YthgidfoidbgnaaaDoorP56
namespace Go.Proofs.YthgidfoidbgnaaaDoor
open Go.RowKit Go.Maps

set_option maxHeartbeats 4000000 in
set_option maxRecDepth 100000 in
theorem hotlogPlays_any (w : World) (ht : Fr.TabIn w) (hz : TzIn w) (z : Int) (hz0 : -9223372036854775808 ≤ z ∧ z ≤ 9223372036854775807) (vs : Value) (L : List OpD) (hs : OpsIn w vs L) : Calls Tryd.prog 3 #[.int .i64 z, vs] w fun e w' => e = .returned (.bool true) ∧ Below w.heap.size w w' := by
 have HM : Hid (Fr.TabIn w ∧ TzIn w ∧ OpsIn w vs L) := ⟨ht, hz, hs⟩
 have hLb : L.length ≤ 1048576 := (by obtain ⟨_, _, _, _, h, _⟩ := hs; exact h)
 obtain ⟨wz, hwz⟩ : ∃ x, x = whichOf z 120 := ⟨_, rfl⟩
 have hwl := whichOf_lt z 120 (by decide)
 obtain ⟨n, hn⟩ : ∃ n, n = 1 + wz := ⟨_, rfl⟩
 have hn1 : 1 ≤ n := (by omega)
 have hn135 : n ≤ 120 := (by omega)
 have HN : Hid (n = 1 + wz ∧ wz = whichOf z 120) := ⟨hn, hwz⟩
 have HZ : Hid (-9223372036854775808 ≤ z ∧ z ≤ 9223372036854775807) := hz0
 clear ht hz hs hn hwl hwz hz0
 obtain ⟨PQ, HPQ⟩ := exPQ fun (e : Ending) (w' : World) => e = .returned (.bool true) ∧ Below w.heap.size w w'
 rw [← HPQ.out]
 go_enter Tryd.func3, Tryd.ntmps3
 go_upto_region 0 with fail
 refine wp_region_lit ?_
 refine wl rfl (.bool false) _ (run_asZ (.const (.bool false)) rfl (.bool false) rfl) ?_
 simp only [Act.put, aS, aC, aZ]
 refine wpList_nil ?_
 go_upto_region 1 with fail
 refine wp_region_lit ?_
 refine wpList_callW eN9 [] _ rfl rfl [] rfl ?_
 refine (shown_any w HM.out.1 HM.out.2.1).mono ?_
 rintro e W1 ⟨rfl, hb_⟩
 refine ⟨_, rfl, ?_⟩
 have H1 : Hid (Below w.heap.size w W1) := hb_
 clear hb_
 simp only [Act.put, aS, aC, aZ]
 refine wl rfl (.bool true) _ (run_asZ (.tmp 9) rfl (.bool true) rfl) ?_
 simp only [Act.put, aS, aC, aZ]
 refine wpList_nil ?_
 go_upto_region 2 with fail
 refine wp_region_lit ?_
 refine wl rfl (.bool true) _ (run_mvZ (.tmp 5) rfl (.bool true) rfl) ?_
 refine wl rfl (.bool false) _ (run_not (.tmp 10) 4 rfl true rfl) ?_
 simp only [Act.put, aS, aC, aZ]
 refine wpList_nil ?_
 go_upto_region 4 with fail
 refine wp_region_lit ?_
 refine wl rfl (.int .i64 z) _ (run_mvZ (.tmp 0) rfl (.int .i64 z) rfl) ?_
 simp only [Act.put, aS, aC, aZ]
 refine wpList_callW eN11 [.tmp 12, .const (.int .i64 120)] _ rfl rfl [(.int .i64 z), (.int .i64 120)] rfl ?_
 refine (which_any W1 z 120 (by decide) HZ.out.1 HZ.out.2).mono ?_
 rintro e W_ ⟨he_, rfl⟩
 rw [← HN.out.2] at he_
 subst he_
 refine ⟨_, rfl, ?_⟩
 simp only [Act.put, aS, aC, aZ]
 refine wl rfl (.int .i64 (n : Nat)) _ (run_addZ (.const (.int .i64 1)) (.tmp 13) rfl 1 (wz : Nat) _ rfl rfl (by have := HN.out.1; omega) (by omega) (by omega)) ?_
 simp only [Act.put, aS, aC, aZ]
 refine wpList_callW eN10 [.tmp 14] _ rfl rfl [(.int .i64 (n : Nat))] rfl ?_
 refine (begun_any H1.out HM.out.1 HM.out.2.1 n ⟨by omega, by omega⟩).mono ?_
 rintro e W2 ⟨gs, gp, gh, gf, gm, gr, c0, rfl, hb_, hh_, hs_, hr_, ho1, ho2⟩
 refine ⟨_, rfl, ?_⟩
 have H2 : Hid (Std w W2 gp gs gr n 4096 0) := Std.new hh_ hs_ hr_ ho1 ho2
 clear hb_ hh_ hs_ hr_ ho1 ho2
 simp only [Act.put, aS, aC, aZ]
 refine wl rfl (ptr gs) _ (run_asZ (.tmp 15) rfl (ptr gs) rfl) ?_
 simp only [Act.put, aS, aC, aZ]
 refine wpList_nil ?_
 go_upto_region 5 with fail
 refine wp_region_lit ?_
 refine wl rfl (ptr gs) _ (run_mvZ (.tmp 6) rfl (ptr gs) rfl) ?_
 refine wl rfl (.bool false) _ (run_binOp' (.tmp 16) (.const (.pointer none)) rfl _ _ _ rfl rfl rfl (by kernel_rfl)) ?_
 simp only [Act.put, aS, aC, aZ]
 refine wpList_nil ?_
 go_upto_region 7 with fail
 refine wp_region_lit ?_
 refine wl rfl (.int .i64 0) _ (run_asZ (.const (.int .i64 0)) rfl (.int .i64 0) rfl) ?_
 simp only [Act.put, aS, aC, aZ]
 refine wpList_nil ?_
 go_wp2_with fail
 go_loopw [7] (fun vi W => ∃ i : Nat, vi = .int .i64 (i : Nat) ∧ i ≤ L.length ∧ Hid (Std w W gp gs gr n (4096 + 20 * i) (10 * i))) (fun vi _ => L.length - (intOf vi).toNat)
 case atStart => exact ⟨0, rfl, Nat.zero_le _, H2⟩
 case round =>
  obtain ⟨i, rfl, hi, HI⟩ := hrel
  by_cases hlt : i < L.length
  ·go_upto_region 8 with fail
   refine wp_region_lit ?_
   refine wl rfl (.int .i64 (i : Nat)) _ (run_mvZ (.tmp 7) rfl (.int .i64 (i : Nat)) rfl) ?_
   refine wl rfl vs _ (run_mvZ (.tmp 1) rfl vs rfl) ?_
   refine wl rfl (.int .i64 (L.length : Nat)) _ (run_lenOp HM.out.2.2 (.tmp 19) rfl rfl) ?_
   simp only [Act.put, aS, aC, aZ]
   refine wl rfl (.bool true) _ (run_lssZ (.tmp 18) (.tmp 20) rfl (i : Nat) (L.length : Nat) rfl rfl true (decide_eq_true (by omega))) ?_
   simp only [Act.put, aS, aC, aZ]
   refine wpList_nil ?_
   obtain ⟨bi, ji, hx_, ho_, hc_⟩ := ix_op HM.out.2.2 i hlt
   obtain ⟨o, hoo⟩ : ∃ o, o = L.getD i default := ⟨_, rfl⟩
   rw [← hoo] at hc_ ho_
   have HX : Hid ((∀ w', (Instr.indexAt 22 vs (.int .i64 (i : Nat))).run Tryd.prog w' = .ok (.pointer (some ⟨bi, ji, none⟩)) w') ∧ (∀ W, Below w.heap.size w W → ∀ (j : Nat) u, (opC o.k o.n o.vy o.px o.vk)[j]? = some u → W.cell? ⟨bi, ji + j, none⟩ = some u) ∧ OpI w o.k o.n o.vy o.bs o.px o.vk o.ks) := ⟨hx_, hc_, ho_⟩
   clear hx_ hc_ ho_ hoo
   go_upto_region 10 with fail
   refine wp_region_lit ?_
   refine wl rfl (ptr gs) _ (run_mvZ (.tmp 6) rfl (ptr gs) rfl) ?_
   refine wl rfl vs _ (run_mvZ (.tmp 1) rfl vs rfl) ?_
   refine wl rfl (.int .i64 (i : Nat)) _ (run_mvZ (.tmp 7) rfl (.int .i64 (i : Nat)) rfl) ?_
   simp only [Act.put, aS, aC, aZ]
   refine wl rfl (.pointer (some ⟨bi, ji, none⟩)) _ (run_idx (.tmp 25) (.tmp 26) rfl _ _ _ rfl rfl HX.out.1) ?_
   refine wl rfl (.agg ((opC o.k o.n o.vy o.px o.vk)).toArray) _ (run_loadA ag33 (.tmp 27) rfl bi (ji) rfl ((opC o.k o.n o.vy o.px o.vk)) rfl (HX.out.2.1 _ HI.out.below)) ?_
   simp only [Act.put, aS, aC, aZ]
   refine wpList_callW eN12 [.tmp 24, .tmp 28] _ rfl rfl [(ptr gs), (.agg ((opC o.k o.n o.vy o.px o.vk)).toArray)] rfl ?_
   refine (sdo_any HI.out (by omega) (by omega) o.k o.n o.vy o.bs o.px o.vk o.ks HX.out.2.2).mono ?_
   rintro e W3 ⟨rfl, hs_⟩
   refine ⟨_, rfl, ?_⟩
   have HJ : Hid (Std w W3 gp gs gr n (4096 + 20 * (i + 1)) (10 * (i + 1))) := hs_.mono (by omega) (by omega)
   clear hs_
   simp only [Act.put, aS, aC, aZ]
   refine wl rfl (.bool true) _ (run_asZ (.tmp 29) rfl (.bool true) rfl) ?_
   simp only [Act.put, aS, aC, aZ]
   refine wpList_nil ?_
   go_upto_region 11 with fail
   refine wp_region_lit ?_
   refine wl rfl (.bool true) _ (run_mvZ (.tmp 8) rfl (.bool true) rfl) ?_
   refine wl rfl (.bool false) _ (run_not (.tmp 30) 4 rfl true rfl) ?_
   simp only [Act.put, aS, aC, aZ]
   refine wpList_nil ?_
   go_wp2_with fail
   refine ⟨⟨i + 1, by go_num, by omega, HJ⟩, ?_⟩
   simp [intOf]; omega
  ·go_upto_region 8 with fail
   refine wp_region_lit ?_
   refine wl rfl (.int .i64 (i : Nat)) _ (run_mvZ (.tmp 7) rfl (.int .i64 (i : Nat)) rfl) ?_
   refine wl rfl vs _ (run_mvZ (.tmp 1) rfl vs rfl) ?_
   refine wl rfl (.int .i64 (L.length : Nat)) _ (run_lenOp HM.out.2.2 (.tmp 19) rfl rfl) ?_
   simp only [Act.put, aS, aC, aZ]
   refine wl rfl (.bool false) _ (run_lssZ (.tmp 18) (.tmp 20) rfl (i : Nat) (L.length : Nat) rfl rfl false (decide_eq_false (by omega))) ?_
   simp only [Act.put, aS, aC, aZ]
   refine wpList_nil ?_
   obtain ⟨c, gh, gf, gm, m, us, vu, vb, bl, ever, dims, h1_, h2_, _⟩ := HI.out
   have HE : Hid (HtW w wr c gp gh gf gm m n us (4096 + 20 * i) ∧ Sd w wr c gp gh gf gm gs gr n us vu vb bl ever dims) := ⟨h1_, h2_⟩
   clear h1_ h2_ HI
   go_upto_region 13 with fail
   refine wp_region_lit ?_
   refine wl rfl (ptr gs) _ (run_mvZ (.tmp 6) rfl (ptr gs) rfl) ?_
   refine wl rfl (ptr gs) _ (run_nil (.tmp 32) rfl ⟨gs, 0, none⟩ rfl) ?_
   refine wl rfl (.pointer (some ⟨gs, 0 + 0, none⟩)) _ (run_fieldOp' f38_0 (.tmp 33) rfl gs (0) rfl) ?_
   simp only [Act.put, aS, aC, aZ]
   refine wl rfl (ptr gp) _ (run_load1 o34 (.tmp 34) rfl gs (0 + 0) rfl (ptr gp) (HE.out.2.row.at 0 _ rfl)) ?_
   simp only [Act.put, aS, aC, aZ]
   refine wpList_callW eN13 [.tmp 35, .const (.int .i64 (-1))] _ rfl rfl [(ptr gp), .int .i64 (-1)] rfl ?_
   refine (HE.out.1.fuse (-1) ⟨by decide, by decide⟩).mono ?_
   rintro e W4 ⟨c2, m2, rfl, hs_, hh_⟩
   refine ⟨_, rfl, ?_⟩
   have HF : Hid (HtW w W4 c2 gp gh gf gm m2 n us (4096 + 20 * i) ∧ Sd w W4 c2 gp gh gf gm gs gr n us vu vb bl ever dims) := ⟨hh_, HE.out.2.sq hs_⟩
   clear hs_ hh_ HE
   simp only [Act.put, aS, aC, aZ]
   refine wpList_nil ?_
   go_upto_region 14 with fail
   refine wp_region_lit ?_
   refine wl rfl (.bool true) _ (run_mvZ (.tmp 5) rfl (.bool true) rfl) ?_
   refine wl rfl (.bool true) _ (run_mvZ (.tmp 37) rfl (.bool true) rfl) ?_
   refine wl (by kernel_rfl) (ptr gs) _ (run_mvZ (.tmp 6) rfl (ptr gs) rfl) ?_
   simp only [Act.put, aS, aC, aZ]
   refine wpList_callW eN14 [.tmp 39] _ (by kernel_rfl) rfl [(ptr gs)] rfl ?_
   refine (sall_any HF.out.1 HF.out.2 (by omega)).mono ?_
   rintro e W5 ⟨rfl, hb_⟩
   refine ⟨_, rfl, ?_⟩
   have H9 : Hid (Below w.heap.size w W5) := (HF.out.1.bel hb_).pl.below
   clear hb_
   simp only [Act.put, aS, aC, aZ]
   refine wl rfl (.bool true) _ (run_pickZ (.tmp 38) (.tmp 40) (.const (.bool false)) rfl true (.bool true) rfl rfl) ?_
   refine wl rfl (.bool true) _ (run_asZ (.tmp 41) rfl (.bool true) rfl) ?_
   simp only [Act.put, aS, aC, aZ]
   refine wpList_nil ?_
   go_wp2_with fail
   rw [HPQ.out]
   exact ⟨rfl, H9.out⟩

end Go.Proofs.YthgidfoidbgnaaaDoor

/- Layer 15: the law of two tapes. -/
import Derived.Test.YtpkkkkomdblpoaaDoorZ33
namespace Go.Proofs.YtpkkkkomdblpoaaDoor
open Go.RowKit Go.Maps

open Cold
def RowsIn (w : World) (v : Value) (L : List (List Nat)) : Prop :=
 ∃ p cap, v = .slice p L.length cap ∧ L.length ≤ 9223372036854775807 ∧ (L = [] ∨ ∃ b off, p = some ⟨b, off, none⟩ ∧ ∀ i, i < L.length → ∃ u, w.cell? ⟨b, off + i, none⟩ = some u ∧ SliceIn w u (L.getD i []))
theorem und65 : Tryd.prog.underlying 65 = some (.slice 38) := by kernel_rfl
theorem RowsIn.ix {w : World} {v : Value} {L : List (List Nat)} (h : RowsIn w v L) (k : Nat) (hk : k < L.length) : ∃ b j u, (∀ w', (Instr.indexAt 65 v (.int .i64 (k : Nat))).run Tryd.prog w' = .ok (.pointer (some ⟨b, j, none⟩)) w') ∧ (∀ W, Below w.heap.size w W → W.cell? ⟨b, j, none⟩ = some u ∧ SliceIn W u (L.getD k [])) ∧ (L.getD k [] = [] ∨ ∀ g, u.ownBlock = some g → g < w.heap.size) := by
 obtain ⟨i3, hi3, hsz⟩ := Option.map_eq_some_iff.1 sz38
 obtain ⟨p, cap, rfl, hl, h⟩ := h
 rcases h with rfl | ⟨b, off, rfl, hc⟩
 ·simp at hk
 ·obtain ⟨u, h1, h2⟩ := hc k hk
  refine ⟨b, off + k, u, fun w' => by simp [Instr.indexAt, asIntOf, run_underlying und65, hk, sizeOf, typeInfo, hi3, hsz, add_none], fun W hW => ⟨cell_later hW h1, h2.later hW⟩, ?_⟩
  by_cases q : L.getD k [] = []
  ·exact Or.inl q
  ·exact Or.inr fun g e => slice_blk h2 q g e
theorem run_lenR {w w0 : World} {a : Act} {o : Oper} {v : Value} {L : List (List Nat)} (h : RowsIn w0 v L) (x : Operand) (ho : o.op = .call { callee := .builtin .len, args := #[x], argTypes := #[65] }) (hx : a.eval x = v) : (execOp a.eval o).run Tryd.prog w = .ok (.value (.int .i64 (L.length : Nat))) w := by
 obtain ⟨p, cap, rfl, _⟩ := h
 exact run_lenZ sl65 x ho p _ _ hx
theorem RowsIn.few {w : World} {v : Value} {L : List (List Nat)} (h : RowsIn w v L) : L.length ≤ 9223372036854775807 := by
 obtain ⟨_, _, _, h1, _⟩ := h
 exact h1
theorem plA_form (d : Nat) (os : List Ob) (bs : List Nat) (er : Int) : ∃ x y z, plA d os bs er = plC x y z false ∧ (er = 0 → x = (d : Nat) ∧ y = (wide os : Nat) ∧ z = (nb bs.length : Nat)) ∧ (er ≠ 0 → x = 0 ∧ y = 0 ∧ z = 0) := by
 unfold plA
 by_cases h : er = 0
 ·rw [if_pos h]; exact ⟨_, _, _, rfl, fun _ => ⟨rfl, rfl, rfl⟩, fun q => absurd h q⟩
 ·rw [if_neg h]; exact ⟨_, _, _, rfl, fun q => absurd q h, fun _ => ⟨rfl, rfl, rfl⟩⟩
theorem plA_i64 {d : Nat} {os : List Ob} {bs : List Nat} {er x y z : Int} (h : plA d os bs er = plC x y z false) (hw : wide os + (if er = 0 then nb bs.length else 0) ≤ 1000000) : (-9223372036854775808 ≤ y ∧ y ≤ 9223372036854775807) ∧ (-9223372036854775808 ≤ z ∧ z ≤ 9223372036854775807) := by
 unfold plA at h
 by_cases q : er = 0
 ·rw [if_pos q] at h hw
  unfold plC at h
  injection h with h1 h
  injection h with h2 h
  injection h with h3 h
  injection h2 with _ h2
  injection h3 with _ h3
  omega
 ·rw [if_neg q] at h
  unfold plC at h
  injection h with h1 h
  injection h with h2 h
  injection h with h3 h
  injection h2 with _ h2
  injection h3 with _ h3
  omega
theorem wide_osA (os : List Ob) (id bs : List Nat) (er : Int) : wide (osA os id bs er) = wide os + (if er = 0 then nb bs.length else 0) := by
 unfold osA
 by_cases q : er = 0
 ·rw [if_pos q, if_pos q, wide_append]; simp [wide]
 ·rw [if_neg q, if_neg q]; rfl
theorem A3.le {w W : World} {c e : Nat → Colour} {gp gq gv gw gz : Nat} {m n : Pl} {ov ow oz : List Ob} {sw : Bool} {K K' : Nat} (a : A3 w W c e gp gq gv gw gz m n ov ow oz sw K) (h : K ≤ K') : A3 w W c e gp gq gv gw gz m n ov ow oz sw K' :=
 ⟨a.fv, a.fw, a.fz, a.ne, a.dis, a.far, a.bel, a.hi, a.lo, by have := a.k; omega⟩
set_option maxHeartbeats 4000000 in
set_option maxRecDepth 100000 in
theorem coldvolApart_any (w : World) (he : Env w) (h3 : 3 ≤ w.heap.size) (va vb : Value) (A B : List (List Nat)) (ha : RowsIn w va A) (hb : RowsIn w vb B) : Calls Tryd.prog 7 #[va, vb] w fun e w' => e = .returned (.bool true) ∧ Below w.heap.size w w' := by
 have HM : Hid (Env w ∧ 3 ≤ w.heap.size ∧ RowsIn w va A ∧ RowsIn w vb B ∧ A.length ≤ 9223372036854775807 ∧ B.length ≤ 9223372036854775807) := ⟨he, h3, ha, hb, ha.few, hb.few⟩
 clear he h3 ha hb
 obtain ⟨bf, hbf⟩ : ∃ b, b = false := ⟨_, rfl⟩
 have HBF : Hid (bf = false) := hbf
 clear hbf
 obtain ⟨PQ, HPQ⟩ := exPQ fun (e : Ending) (w' : World) => e = .returned (.bool true) ∧ Below w.heap.size w w'
 rw [← HPQ.out]
 go_enter Tryd.func7, Tryd.ntmps7
 go_upto_region 0 with fail
 refine wp_region_lit ?_
 refine wl rfl (.bool false) _ (run_asZ (.const (.bool false)) rfl (.bool false) rfl) ?_
 simp only [Act.put, aS, aC, aZ]
 refine wpList_nil ?_
 go_upto_region 1 with fail
 refine wp_region_lit ?_
 refine wpList_callW eN8 [] _ rfl rfl [] rfl ?_
 refine (shown_any w HM.out.1 HM.out.2.1).mono ?_
 rintro e W1 ⟨rfl, hb_⟩
 refine ⟨_, rfl, ?_⟩
 have H1 : Hid (Below w.heap.size w W1) := hb_
 clear hb_
 simp only [Act.put, aS, aC, aZ]
 refine wl rfl (.bool true) _ (run_asZ (.tmp 30) rfl (.bool true) rfl) ?_
 simp only [Act.put, aS, aC, aZ]
 refine wpList_nil ?_
 go_upto_region 2 with fail
 refine wp_region_lit ?_
 refine wl rfl (whole W1.heap.size 2) _ (run_ints2 (.const (.int .i64 90)) (.const (.int .i64 90)) rfl 90 90 rfl rfl) ?_
 have hb_ := below_alloc W1 (.cells ([(90 : Int), 90].map (Value.int .i64)).toArray 3)
 have r_ := Row.new W1 3 ([(90 : Int), 90].map (Value.int .i64))
 obtain ⟨W2, hW_⟩ : ∃ U_ : World, U_ = W1.alloc (.cells ([(90 : Int), 90].map (Value.int .i64)).toArray 3) := ⟨_, rfl⟩
 obtain ⟨ql, hq_⟩ : ∃ q, q = W1.heap.size := ⟨_, rfl⟩
 rw [← hW_] at hb_
 rw [← hW_, ← hq_] at r_
 rw [← hW_, ← hq_]
 have H2 : Hid (IntsIn W2 (whole ql 2) [90, 90] ∧ Below w.heap.size w W2) := ⟨ints_row (l := [90, 90]) r_ (by decide), H1.out.trans (hb_.mono H1.out.size)⟩
 clear r_ hb_ hW_ hq_
 simp only [Act.put, aS, aC, aZ]
 refine wl rfl (.agg #[.slice none 0 0, whole ql 2]) _ (run_build30t (.tmp 32) rfl ql 2 rfl) ?_
 simp only [Act.put, aS, aC, aZ]
 refine wpList_callW eN9 [.tmp 33] _ rfl rfl [(.agg #[.slice none 0 0, whole ql 2])] rfl ?_
 refine (Live.new W2 (fun _ => (0, 0)) 2 _ _ [] [90, 90] (ints_nil W2) H2.out.1 (by decide)).mono ?_
 rintro e W3 ⟨gp, c1, rfl, hgp_, hcc_, _, hl_, hb_⟩
 refine ⟨_, rfl, ?_⟩
 have H3 : Hid (Live W3 c1 2 gp (newPl [] [90, 90]) ∧ Below w.heap.size w W3 ∧ ∀ b, b < w.heap.size → (c1 b).1 ≠ 2) := ⟨hl_, H2.out.2.trans (hb_.mono H2.out.2.size), fun b hb => by rw [hcc_ b (Nat.lt_of_lt_of_le hb H2.out.2.size)]; decide⟩
 clear hl_ hb_ hcc_ hgp_ H2
 simp only [Act.put, aS, aC, aZ]
 refine wl rfl (.tuple #[(ptr gp), (.int .i64 0)]) _ (run_mvZ (.tmp 34) rfl (.tuple #[(ptr gp), (.int .i64 0)]) rfl) ?_
 refine wl rfl (ptr gp) _ (run_extZ (.tmp 31) 0 rfl #[(ptr gp), (.int .i64 0)] rfl (ptr gp) rfl) ?_
 refine wl rfl (.int .i64 0) _ (run_extZ (.tmp 31) 1 rfl #[(ptr gp), (.int .i64 0)] rfl (.int .i64 0) rfl) ?_
 simp only [Act.put, aS, aC, aZ]
 refine wl rfl (ptr gp) _ (run_asZ (.tmp 35) rfl (ptr gp) rfl) ?_
 refine wl rfl (.int .i64 0) _ (run_asZ (.tmp 36) rfl (.int .i64 0) rfl) ?_
 simp only [Act.put, aS, aC, aZ]
 refine wpList_nil ?_
 go_upto_region 3 with fail
 refine wp_region_lit ?_
 refine wl rfl (whole W3.heap.size 2) _ (run_ints2 (.const (.int .i64 90)) (.const (.int .i64 90)) rfl 90 90 rfl rfl) ?_
 have hb_ := below_alloc W3 (.cells ([(90 : Int), 90].map (Value.int .i64)).toArray 3)
 have r_ := Row.new W3 3 ([(90 : Int), 90].map (Value.int .i64))
 obtain ⟨W4, hW_⟩ : ∃ U_ : World, U_ = W3.alloc (.cells ([(90 : Int), 90].map (Value.int .i64)).toArray 3) := ⟨_, rfl⟩
 obtain ⟨qm, hq_⟩ : ∃ q, q = W3.heap.size := ⟨_, rfl⟩
 rw [← hW_] at hb_
 rw [← hW_, ← hq_] at r_
 rw [← hW_, ← hq_]
 have H4 : Hid (IntsIn W4 (whole qm 2) [90, 90] ∧ Below W3.heap.size W3 W4) := ⟨ints_row (l := [90, 90]) r_ (by decide), hb_⟩
 clear r_ hb_ hW_ hq_
 simp only [Act.put, aS, aC, aZ]
 refine wl rfl (.agg #[.slice none 0 0, whole qm 2]) _ (run_build30t (.tmp 38) rfl qm 2 rfl) ?_
 simp only [Act.put, aS, aC, aZ]
 refine wpList_callW eN9 [.tmp 39] _ rfl rfl [(.agg #[.slice none 0 0, whole qm 2])] rfl ?_
 refine (Live.new W4 (fun _ => (0, 0)) 2 _ _ [] [90, 90] (ints_nil W4) H4.out.1 (by decide)).mono ?_
 rintro e W5 ⟨gq, e1, rfl, hgp_, hcc_, _, hl_, hb_⟩
 refine ⟨_, rfl, ?_⟩
 have H5 : Hid (Live W5 c1 2 gp (newPl [] [90, 90]) ∧ Live W5 e1 2 gq (newPl [] [90, 90]) ∧ Below w.heap.size w W5 ∧ (∀ b, b < w.heap.size → (c1 b).1 ≠ 2 ∧ (e1 b).1 ≠ 2) ∧ ∀ b, b < W5.heap.size → (c1 b).1 = 2 → (e1 b).1 = 2 → False) := ⟨(H3.out.1.below H4.out.2).below hb_, hl_, H3.out.2.1.trans ((H4.out.2.mono H3.out.2.1.size).trans (hb_.mono (Nat.le_trans H3.out.2.1.size H4.out.2.size))), fun b hb => ⟨H3.out.2.2 b hb, by rw [hcc_ b (Nat.lt_of_lt_of_le hb (Nat.le_trans H3.out.2.1.size H4.out.2.size))]; decide⟩, fun b hb h1 h2 => (by
  rcases Nat.lt_or_ge b W4.heap.size with q | q
  ·rw [hcc_ b q] at h2; exact absurd h2 (by decide)
  ·exact H3.out.1.2.2 b (Nat.le_trans H4.out.2.size q) h1)⟩
 clear hl_ hb_ hcc_ hgp_ H4 H3
 simp only [Act.put, aS, aC, aZ]
 refine wl rfl (.tuple #[(ptr gq), (.int .i64 0)]) _ (run_mvZ (.tmp 40) rfl (.tuple #[(ptr gq), (.int .i64 0)]) rfl) ?_
 refine wl rfl (ptr gq) _ (run_extZ (.tmp 37) 0 rfl #[(ptr gq), (.int .i64 0)] rfl (ptr gq) rfl) ?_
 refine wl rfl (.int .i64 0) _ (run_extZ (.tmp 37) 1 rfl #[(ptr gq), (.int .i64 0)] rfl (.int .i64 0) rfl) ?_
 simp only [Act.put, aS, aC, aZ]
 refine wl rfl (ptr gq) _ (run_asZ (.tmp 41) rfl (ptr gq) rfl) ?_
 refine wl rfl (.int .i64 0) _ (run_asZ (.tmp 42) rfl (.int .i64 0) rfl) ?_
 simp only [Act.put, aS, aC, aZ]
 refine wpList_nil ?_
 go_upto_region 4 with fail
 refine wp_region_lit ?_
 refine wl rfl (.bool true) _ (run_mvZ (.tmp 5) rfl (.bool true) rfl) ?_
 refine wl rfl (.bool bf) _ ((by rw [HBF.out]; exact run_not (.tmp 43) 4 rfl true rfl)) ?_
 refine wl rfl (.bool bf) _ (run_mvZ (.tmp 44) rfl (.bool bf) rfl) ?_
 simp only [Act.put, aS, aC, aZ]
 refine wl (by rw [HBF.out]; kernel_rfl) (ptr gp) _ (run_mvZ (.tmp 6) rfl (ptr gp) rfl) ?_
 refine wl (by rw [HBF.out]; kernel_rfl) (.bool bf) _ ((by rw [HBF.out]; exact run_binOp' (.tmp 46) (.const (.pointer none)) rfl _ _ _ rfl rfl rfl (by kernel_rfl))) ?_
 refine wl rfl (.bool bf) _ (run_pickZ (.tmp 45) (.const (.bool true)) (.tmp 47) rfl bf (.bool bf) rfl (by rw [HBF.out]; rfl)) ?_
 simp only [Act.put, aS, aC, aZ]
 refine wl rfl (.bool bf) _ (run_mvZ (.tmp 48) rfl (.bool bf) rfl) ?_
 refine wl (by rw [HBF.out]; kernel_rfl) (ptr gq) _ (run_mvZ (.tmp 8) rfl (ptr gq) rfl) ?_
 refine wl (by rw [HBF.out]; kernel_rfl) (.bool bf) _ ((by rw [HBF.out]; exact run_binOp' (.tmp 50) (.const (.pointer none)) rfl _ _ _ rfl rfl rfl (by kernel_rfl))) ?_
 simp only [Act.put, aS, aC, aZ]
 refine wl rfl (.bool bf) _ (run_pickZ (.tmp 49) (.const (.bool true)) (.tmp 51) rfl bf (.bool bf) rfl (by rw [HBF.out]; rfl)) ?_
 refine wl rfl (.bool bf) _ (run_mvZ (.tmp 52) rfl (.bool bf) rfl) ?_
 refine wl (by rw [HBF.out]; kernel_rfl) (.int .i64 0) _ (run_mvZ (.tmp 7) rfl (.int .i64 0) rfl) ?_
 simp only [Act.put, aS, aC, aZ]
 refine wl (by rw [HBF.out]; kernel_rfl) (.bool bf) _ ((by rw [HBF.out]; exact run_neZ (.tmp 54) (.const (.int .i64 0)) rfl 0 0 rfl rfl false (by decide))) ?_
 refine wl rfl (.bool bf) _ (run_pickZ (.tmp 53) (.const (.bool true)) (.tmp 55) rfl bf (.bool bf) rfl (by rw [HBF.out]; rfl)) ?_
 refine wl rfl (.bool bf) _ (run_mvZ (.tmp 56) rfl (.bool bf) rfl) ?_
 simp only [Act.put, aS, aC, aZ]
 refine wl (by rw [HBF.out]; kernel_rfl) (.int .i64 0) _ (run_mvZ (.tmp 9) rfl (.int .i64 0) rfl) ?_
 refine wl (by rw [HBF.out]; kernel_rfl) (.bool bf) _ ((by rw [HBF.out]; exact run_neZ (.tmp 58) (.const (.int .i64 0)) rfl 0 0 rfl rfl false (by decide))) ?_
 refine wl rfl (.bool bf) _ (run_pickZ (.tmp 57) (.const (.bool true)) (.tmp 59) rfl bf (.bool bf) rfl (by rw [HBF.out]; rfl)) ?_
 simp only [Act.put, aS, aC, aZ]
 refine wpList_nil ?_
 obtain rfl : bf = false := HBF.out
 go_upto_region 6 with fail
 refine wp_region_lit ?_
 refine wl rfl (ptr gp) _ (run_mvZ (.tmp 6) rfl (ptr gp) rfl) ?_
 simp only [Act.put, aS, aC, aZ]
 have HFC : Hid (Far0 W5 c1 2 ∧ Far0 W5 e1 2) := ⟨⟨Nat.le_trans HM.out.2.1 H5.out.2.2.1.size, (H5.out.2.2.2.1 0 (by have := HM.out.2.1; omega)).1, (H5.out.2.2.2.1 1 (by have := HM.out.2.1; omega)).1, (H5.out.2.2.2.1 2 (by have := HM.out.2.1; omega)).1⟩, ⟨Nat.le_trans HM.out.2.1 H5.out.2.2.1.size, (H5.out.2.2.2.1 0 (by have := HM.out.2.1; omega)).2, (H5.out.2.2.2.1 1 (by have := HM.out.2.1; omega)).2, (H5.out.2.2.2.1 2 (by have := HM.out.2.1; omega)).2⟩⟩
 refine wpList_callW eN10 [.tmp 62, .const (.int .i64 0)] _ rfl rfl [(ptr gp), (.int .i64 0)] rfl ?_
 refine (vopen_s H5.out.1 (ds := []) (ts := [90, 90]) rfl (HM.out.1.later H5.out.2.2.1) HFC.out.1 (by decide) 0 (by decide) (new_onT [] [90, 90] (by decide) 0 (by decide))).mono ?_
 rintro e W6 ⟨gv, rfl, hg_, hb_, hv_⟩
 refine ⟨_, rfl, ?_⟩
 have H6 : Hid (VOn W6 c1 2 gp gv 0 90 (newPl [] [90, 90]) [] false ∧ Below W5.heap.size W5 W6 ∧ W5.heap.size ≤ gv) := ⟨hv_, hb_, hg_⟩
 clear hv_ hb_ hg_
 simp only [Act.put, aS, aC, aZ]
 refine wl rfl (.tuple #[(ptr gv), (.int .i64 0)]) _ (run_mvZ (.tmp 63) rfl (.tuple #[(ptr gv), (.int .i64 0)]) rfl) ?_
 refine wl rfl (ptr gv) _ (run_extZ (.tmp 61) 0 rfl #[(ptr gv), (.int .i64 0)] rfl (ptr gv) rfl) ?_
 refine wl rfl (.int .i64 0) _ (run_extZ (.tmp 61) 1 rfl #[(ptr gv), (.int .i64 0)] rfl (.int .i64 0) rfl) ?_
 simp only [Act.put, aS, aC, aZ]
 refine wl rfl (ptr gv) _ (run_asZ (.tmp 64) rfl (ptr gv) rfl) ?_
 refine wl rfl (.int .i64 0) _ (run_asZ (.tmp 65) rfl (.int .i64 0) rfl) ?_
 simp only [Act.put, aS, aC, aZ]
 refine wpList_nil ?_
 go_upto_region 7 with fail
 refine wp_region_lit ?_
 refine wl rfl (ptr gp) _ (run_mvZ (.tmp 6) rfl (ptr gp) rfl) ?_
 simp only [Act.put, aS, aC, aZ]
 refine wpList_callW eN10 [.tmp 67, .const (.int .i64 1)] _ rfl rfl [(ptr gp), (.int .i64 1)] rfl ?_
 refine (vopen_s H6.out.1.live (ds := []) (ts := [90, 90]) rfl H6.out.1.env H6.out.1.far0 (by decide) 1 (by decide) (new_onT [] [90, 90] (by decide) 1 (by decide))).mono ?_
 rintro e W7 ⟨gw, rfl, hg_, hb_, hv_⟩
 refine ⟨_, rfl, ?_⟩
 have H7 : Hid (VOn W7 c1 2 gp gv 0 90 (newPl [] [90, 90]) [] false ∧ VOn W7 c1 2 gp gw 1 90 (newPl [] [90, 90]) [] false ∧ Below W5.heap.size W5 W7 ∧ W6.heap.size ≤ gw ∧ gv < W6.heap.size) := ⟨H6.out.1.below hb_, hv_, H6.out.2.1.trans (hb_.mono H6.out.2.1.size), hg_, H6.out.1.len.2.2.2.2.2.2.2⟩
 clear hv_ hb_ hg_
 simp only [Act.put, aS, aC, aZ]
 refine wl rfl (.tuple #[(ptr gw), (.int .i64 0)]) _ (run_mvZ (.tmp 68) rfl (.tuple #[(ptr gw), (.int .i64 0)]) rfl) ?_
 refine wl rfl (ptr gw) _ (run_extZ (.tmp 66) 0 rfl #[(ptr gw), (.int .i64 0)] rfl (ptr gw) rfl) ?_
 refine wl rfl (.int .i64 0) _ (run_extZ (.tmp 66) 1 rfl #[(ptr gw), (.int .i64 0)] rfl (.int .i64 0) rfl) ?_
 simp only [Act.put, aS, aC, aZ]
 refine wl rfl (ptr gw) _ (run_asZ (.tmp 69) rfl (ptr gw) rfl) ?_
 refine wl rfl (.int .i64 0) _ (run_asZ (.tmp 70) rfl (.int .i64 0) rfl) ?_
 simp only [Act.put, aS, aC, aZ]
 refine wpList_nil ?_
 go_upto_region 8 with fail
 refine wp_region_lit ?_
 refine wl rfl (ptr gq) _ (run_mvZ (.tmp 8) rfl (ptr gq) rfl) ?_
 simp only [Act.put, aS, aC, aZ]
 refine wpList_callW eN10 [.tmp 72, .const (.int .i64 0)] _ rfl rfl [(ptr gq), (.int .i64 0)] rfl ?_
 refine (vopen_s (H5.out.2.1.below H7.out.2.2.1) (ds := []) (ts := [90, 90]) rfl H7.out.1.env ⟨Nat.le_trans HFC.out.2.1 H7.out.2.2.1.size, HFC.out.2.2⟩ (by decide) 0 (by decide) (new_onT [] [90, 90] (by decide) 0 (by decide))).mono ?_
 rintro e W8 ⟨gz, rfl, hg_, hb_, hv_⟩
 refine ⟨_, rfl, ?_⟩
 have hlv_ := H7.out.1.len.2.2.2.2.2.2.2
 have hlw_ := H7.out.2.1.len.2.2.2.2.2.2.2
 have h56_ := H6.out.2.1.size
 have h57_ := H7.out.2.2.1.size
 have h05_ := H5.out.2.2.1.size
 have HA : Hid (A3 w W8 c1 e1 gp gq gv gw gz (newPl [] [90, 90]) (newPl [] [90, 90]) [] [] [] false (0)) := ⟨H7.out.1.below hb_, H7.out.2.1.below hb_, hv_, ⟨by have := H7.out.2.2.2; omega, by omega, by omega⟩, fun b hb h1 h2 => (by
  rcases Nat.lt_or_ge b W5.heap.size with q | q
  ·exact H5.out.2.2.2.2 b q h1 h2
  ·exact H5.out.1.2.2 b q h1), ⟨H7.out.1.live.2.2 gz hg_, H5.out.2.1.2.2 gv H6.out.2.2, H5.out.2.1.2.2 gw (by have := H7.out.2.2.2; omega)⟩, H5.out.2.2.1.trans ((H7.out.2.2.1.mono h05_).trans (hb_.mono (by omega))), ⟨by have := H6.out.2.2; omega, by have := H7.out.2.2.2; omega, by omega⟩, H5.out.2.2.2.1, ⟨Nat.zero_le _, Nat.zero_le _⟩⟩
 clear hv_ hb_ hg_ hlv_ hlw_ h56_ h57_ h05_ H5 H6 H7 HFC H1
 simp only [Act.put, aS, aC, aZ]
 refine wl rfl (.tuple #[(ptr gz), (.int .i64 0)]) _ (run_mvZ (.tmp 73) rfl (.tuple #[(ptr gz), (.int .i64 0)]) rfl) ?_
 refine wl rfl (ptr gz) _ (run_extZ (.tmp 71) 0 rfl #[(ptr gz), (.int .i64 0)] rfl (ptr gz) rfl) ?_
 refine wl rfl (.int .i64 0) _ (run_extZ (.tmp 71) 1 rfl #[(ptr gz), (.int .i64 0)] rfl (.int .i64 0) rfl) ?_
 simp only [Act.put, aS, aC, aZ]
 refine wl rfl (ptr gz) _ (run_asZ (.tmp 74) rfl (ptr gz) rfl) ?_
 refine wl rfl (.int .i64 0) _ (run_asZ (.tmp 75) rfl (.int .i64 0) rfl) ?_
 simp only [Act.put, aS, aC, aZ]
 refine wpList_nil ?_
 obtain ⟨bf, hbf⟩ : ∃ b, b = false := ⟨_, rfl⟩
 have HBF : Hid (bf = false) := hbf
 clear hbf
 go_upto_region 9 with fail
 refine wp_region_lit ?_
 refine wl rfl (ptr gv) _ (run_mvZ (.tmp 10) rfl (ptr gv) rfl) ?_
 refine wl rfl (.bool bf) _ ((by rw [HBF.out]; exact run_binOp' (.tmp 76) (.const (.pointer none)) rfl _ _ _ rfl rfl rfl (by kernel_rfl))) ?_
 refine wl rfl (.bool bf) _ (run_mvZ (.tmp 77) rfl (.bool bf) rfl) ?_
 simp only [Act.put, aS, aC, aZ]
 refine wl (by rw [HBF.out]; kernel_rfl) (ptr gw) _ (run_mvZ (.tmp 11) rfl (ptr gw) rfl) ?_
 refine wl (by rw [HBF.out]; kernel_rfl) (.bool bf) _ ((by rw [HBF.out]; exact run_binOp' (.tmp 79) (.const (.pointer none)) rfl _ _ _ rfl rfl rfl (by kernel_rfl))) ?_
 refine wl rfl (.bool bf) _ (run_pickZ (.tmp 78) (.const (.bool true)) (.tmp 80) rfl bf (.bool bf) rfl (by rw [HBF.out]; rfl)) ?_
 simp only [Act.put, aS, aC, aZ]
 refine wl rfl (.bool bf) _ (run_mvZ (.tmp 81) rfl (.bool bf) rfl) ?_
 refine wl (by rw [HBF.out]; kernel_rfl) (ptr gz) _ (run_mvZ (.tmp 12) rfl (ptr gz) rfl) ?_
 refine wl (by rw [HBF.out]; kernel_rfl) (.bool bf) _ ((by rw [HBF.out]; exact run_binOp' (.tmp 83) (.const (.pointer none)) rfl _ _ _ rfl rfl rfl (by kernel_rfl))) ?_
 simp only [Act.put, aS, aC, aZ]
 refine wl rfl (.bool bf) _ (run_pickZ (.tmp 82) (.const (.bool true)) (.tmp 84) rfl bf (.bool bf) rfl (by rw [HBF.out]; rfl)) ?_
 refine wl rfl (.bool bf) _ (run_mvZ (.tmp 85) rfl (.bool bf) rfl) ?_
 refine wl (by rw [HBF.out]; kernel_rfl) (.int .i64 0) _ (run_mvZ (.tmp 7) rfl (.int .i64 0) rfl) ?_
 simp only [Act.put, aS, aC, aZ]
 refine wl (by rw [HBF.out]; kernel_rfl) (.bool bf) _ ((by rw [HBF.out]; exact run_neZ (.tmp 87) (.const (.int .i64 0)) rfl 0 0 rfl rfl false (by decide))) ?_
 refine wl rfl (.bool bf) _ (run_pickZ (.tmp 86) (.const (.bool true)) (.tmp 88) rfl bf (.bool bf) rfl (by rw [HBF.out]; rfl)) ?_
 refine wl rfl (.bool bf) _ (run_mvZ (.tmp 89) rfl (.bool bf) rfl) ?_
 simp only [Act.put, aS, aC, aZ]
 refine wl (by rw [HBF.out]; kernel_rfl) (.int .i64 0) _ (run_mvZ (.tmp 9) rfl (.int .i64 0) rfl) ?_
 refine wl (by rw [HBF.out]; kernel_rfl) (.bool bf) _ ((by rw [HBF.out]; exact run_neZ (.tmp 91) (.const (.int .i64 0)) rfl 0 0 rfl rfl false (by decide))) ?_
 refine wl rfl (.bool bf) _ (run_pickZ (.tmp 90) (.const (.bool true)) (.tmp 92) rfl bf (.bool bf) rfl (by rw [HBF.out]; rfl)) ?_
 simp only [Act.put, aS, aC, aZ]
 refine wl rfl (.bool bf) _ (run_mvZ (.tmp 93) rfl (.bool bf) rfl) ?_
 refine wl (by rw [HBF.out]; kernel_rfl) (.int .i64 0) _ (run_mvZ (.tmp 13) rfl (.int .i64 0) rfl) ?_
 refine wl (by rw [HBF.out]; kernel_rfl) (.bool bf) _ ((by rw [HBF.out]; exact run_neZ (.tmp 95) (.const (.int .i64 0)) rfl 0 0 rfl rfl false (by decide))) ?_
 simp only [Act.put, aS, aC, aZ]
 refine wl rfl (.bool bf) _ (run_pickZ (.tmp 94) (.const (.bool true)) (.tmp 96) rfl bf (.bool bf) rfl (by rw [HBF.out]; rfl)) ?_
 simp only [Act.put, aS, aC, aZ]
 refine wpList_nil ?_
 obtain rfl : bf = false := HBF.out
 go_upto_region 11 with fail
 refine wp_region_lit ?_
 refine wl rfl (.int .i64 0) _ (run_asZ (.const (.int .i64 0)) rfl (.int .i64 0) rfl) ?_
 simp only [Act.put, aS, aC, aZ]
 refine wpList_nil ?_
 go_wp2_with fail
 go_loopw [14, 15, 16, 17, 18, 19, 20, 21, 22, 23, 24, 25, 26] (fun vk _ _ _ _ _ _ _ _ _ _ _ _ W => ∃ k : Nat, vk = .int .i64 (k : Nat) ∧ k ≤ A.length ∧ k ≤ 8 ∧ Hid (∃ c e m n ov ow, A3 w W c e gp gq gv gw gz m n ov ow ov false (96 * k))) (fun vk _ _ _ _ _ _ _ _ _ _ _ _ _ => 8 - (intOf vk).toNat)
 case atStart => exact ⟨0, rfl, Nat.zero_le _, by decide, _, _, _, _, _, _, HA.out⟩
 case round =>
  obtain ⟨k, rfl, hkA, hk8, HI⟩ := hrel
  obtain ⟨c0, e0, m0, n0, ov, ow, hA_⟩ := HI.out
  have HA0 : Hid (A3 w wr c0 e0 gp gq gv gw gz m0 n0 ov ow ov false (96 * k)) := hA_
  clear hA_ HI HA
  have hAl : A.length ≤ 9223372036854775807 := HM.out.2.2.2.2.1
  have hBl : B.length ≤ 9223372036854775807 := HM.out.2.2.2.2.2
  by_cases h1 : k < A.length ∧ k < 8
  ·go_upto_region 12 with fail
   refine wp_region_lit ?_
   refine wl rfl (.int .i64 (k : Nat)) _ (run_mvZ (.tmp 14) rfl (.int .i64 (k : Nat)) rfl) ?_
   refine wl rfl va _ (run_mvZ (.tmp 0) rfl va rfl) ?_
   refine wl rfl (.int .i64 (A.length : Nat)) _ (run_lenR HM.out.2.2.1 (.tmp 99) rfl rfl) ?_
   simp only [Act.put, aS, aC, aZ]
   refine wl rfl (.bool true) _ (run_lssZ (.tmp 98) (.tmp 100) rfl (k : Nat) (A.length : Nat) rfl rfl true (decide_eq_true (by omega))) ?_
   refine wl rfl (.bool true) _ (run_mvZ (.tmp 101) rfl (.bool true) rfl) ?_
   refine wl (by kernel_rfl) (.int .i64 (k : Nat)) _ (run_mvZ (.tmp 14) rfl (.int .i64 (k : Nat)) rfl) ?_
   simp only [Act.put, aS, aC, aZ]
   refine wl (by kernel_rfl) (.bool true) _ (run_lssZ (.tmp 103) (.const (.int .i64 8)) rfl (k : Nat) 8 rfl rfl true (decide_eq_true (by omega))) ?_
   refine wl rfl (.bool true) _ (run_pickZ (.tmp 102) (.tmp 104) (.const (.bool false)) rfl true (.bool true) rfl rfl) ?_
   simp only [Act.put, aS, aC, aZ]
   refine wpList_nil ?_
   obtain ⟨b1, j2, u3, hx_, hc_, ho_⟩ := HM.out.2.2.1.ix k h1.1
   have HXA : Hid ((∀ w', (Instr.indexAt 65 va (.int .i64 (k : Nat))).run Tryd.prog w' = .ok (.pointer (some ⟨b1, j2, none⟩)) w') ∧ (∀ W, Below w.heap.size w W → W.cell? ⟨b1, j2, none⟩ = some u3 ∧ SliceIn W u3 (A.getD k [])) ∧ (A.getD k [] = [] ∨ ∀ g, u3.ownBlock = some g → g < w.heap.size)) := ⟨hx_, hc_, ho_⟩
   clear hx_ hc_ ho_
   by_cases hB : k < B.length
   ·go_upto_region 14 with fail
    refine wp_region_lit ?_
    refine wl rfl (.int .i64 (k : Nat)) _ (run_mvZ (.tmp 14) rfl (.int .i64 (k : Nat)) rfl) ?_
    refine wl rfl vb _ (run_mvZ (.tmp 1) rfl vb rfl) ?_
    refine wl rfl (.int .i64 (B.length : Nat)) _ (run_lenR HM.out.2.2.2.1 (.tmp 109) rfl rfl) ?_
    simp only [Act.put, aS, aC, aZ]
    refine wl rfl (.bool true) _ (run_lssZ (.tmp 108) (.tmp 110) rfl (k : Nat) (B.length : Nat) rfl rfl true (decide_eq_true (by omega))) ?_
    simp only [Act.put, aS, aC, aZ]
    refine wpList_nil ?_
    obtain ⟨b4, j5, u6, hx_, hc_, ho_⟩ := HM.out.2.2.2.1.ix k hB
    have HXB : Hid ((∀ w', (Instr.indexAt 65 vb (.int .i64 (k : Nat))).run Tryd.prog w' = .ok (.pointer (some ⟨b4, j5, none⟩)) w') ∧ (∀ W, Below w.heap.size w W → W.cell? ⟨b4, j5, none⟩ = some u6 ∧ SliceIn W u6 (B.getD k [])) ∧ (B.getD k [] = [] ∨ ∀ g, u6.ownBlock = some g → g < w.heap.size)) := ⟨hx_, hc_, ho_⟩
    clear hx_ hc_ ho_
    go_upto_region 15 with fail
    refine wp_region_lit ?_
    refine wl rfl (ptr gw) _ (run_mvZ (.tmp 11) rfl (ptr gw) rfl) ?_
    refine wl rfl vb _ (run_mvZ (.tmp 1) rfl vb rfl) ?_
    refine wl rfl (.int .i64 (k : Nat)) _ (run_mvZ (.tmp 14) rfl (.int .i64 (k : Nat)) rfl) ?_
    simp only [Act.put, aS, aC, aZ]
    refine wl rfl (.pointer (some ⟨b4, j5, none⟩)) _ (run_idx (.tmp 114) (.tmp 115) rfl _ _ _ rfl rfl HXB.out.1) ?_
    refine wl rfl u6 _ (run_load1 o38 (.tmp 116) rfl b4 (j5) rfl u6 (HXB.out.2.1 _ HA0.out.bel).1) ?_
    simp only [Act.put, aS, aC, aZ]
    refine wpList_callW eN12 [.tmp 113, .const (.string { data := #[98] }), .tmp 117] _ rfl rfl [(ptr gw), (str [98]), u6] rfl ?_
    refine (vapp_s HA0.out.fw (by have := HA0.out.k.1; omega) [98] (B.getD k []) u6 (by decide) (by decide) (HXB.out.2.1 _ HA0.out.bel).2 (HXB.out.2.2.imp (fun h => h) fun h g e9 e8 => by have := h g e9; have := HA0.out.hi.2.1; omega)).mono ?_
    rintro e X7 ⟨c8, m9, er0_, her_, rfl, s_, v_, o_, hd_⟩
    obtain ⟨ya, yb, yc, hpl_, hpx_, _⟩ := plA_form 1 ow (B.getD k []) er0_
    rw [hpl_]
    refine ⟨_, rfl, ?_⟩
    have HEer0_ : Hid ((er0_ = 0 → ya = ((1 : Nat) : Int) ∧ yb = (wide ow : Nat) ∧ yc = (nb (B.getD k []).length : Nat)) ∧ plA 1 ow (B.getD k []) er0_ = plC ya yb yc false ∧ er0_ = mayE [98] (B.getD k []) (roomP 90 (wide ow) false)) := ⟨hpx_, hpl_, her_⟩
    clear hpl_ hpx_ her_
    obtain ⟨a_, s3_⟩ := HA0.out.turnW s_ v_ o_
    have HA10 : Hid (A3 w X7 c8 e0 gp gq gv gw gz m9 n0 ov (osA ow [98] (B.getD k []) er0_) ov false (96 * k + 16)) := a_
    clear a_ s3_ s_ v_ o_ hd_ HA0
    simp only [Act.put, aS, aC, aZ]
    refine wl rfl (.tuple #[(.agg (plC ya yb yc false).toArray), (.int .i64 er0_)]) _ (run_mvZ (.tmp 118) rfl (.tuple #[(.agg (plC ya yb yc false).toArray), (.int .i64 er0_)]) rfl) ?_
    refine wl rfl (.agg (plC ya yb yc false).toArray) _ (run_extZ (.tmp 112) 0 rfl #[(.agg (plC ya yb yc false).toArray), (.int .i64 er0_)] rfl (.agg (plC ya yb yc false).toArray) rfl) ?_
    refine wl rfl (.int .i64 er0_) _ (run_extZ (.tmp 112) 1 rfl #[(.agg (plC ya yb yc false).toArray), (.int .i64 er0_)] rfl (.int .i64 er0_) rfl) ?_
    simp only [Act.put, aS, aC, aZ]
    refine wl rfl (ptr X7.heap.size) _ (run_allocA (plC 0 0 0 false) zero40 rfl) ?_
    have hb_ := below_alloc X7 (.cells (plC 0 0 0 false).toArray 40)
    have r_ := Row.new X7 40 (plC 0 0 0 false)
    obtain ⟨X11, hW_⟩ : ∃ U_ : World, U_ = X7.alloc (.cells (plC 0 0 0 false).toArray 40) := ⟨_, rfl⟩
    obtain ⟨q15, hq_⟩ : ∃ q, q = X7.heap.size := ⟨_, rfl⟩
    rw [← hW_] at hb_
    rw [← hW_, ← hq_] at r_
    rw [← hW_, ← hq_]
    have HQ : Hid (Row X11 q15 40 (plC 0 0 0 false) ∧ Below X7.heap.size X7 X11 ∧ X7.heap.size ≤ q15) := ⟨r_, hb_, Nat.le_of_eq hq_.symm⟩
    clear r_ hb_ hW_ hq_
    simp only [Act.put, aS, aC, aZ]
    refine wlS rfl rfl _ (run_storeA ag40 (.tmp 15) (.tmp 119) rfl q15 40 rfl (plC ya yb yc false) _ rfl rfl HQ.out.1 rfl (plC_one _ _ _ _)) ?_
    have h1_ := (Ch.setRow (S := (· = q15)) (Ch.refl _ X11) (Or.inl rfl) (plC ya yb yc false).toArray)
    have r_ := HQ.out.1.setRow (plC ya yb yc false)
    obtain ⟨X12, hW_⟩ : ∃ U_ : World, U_ = X11.setRow q15 (plC ya yb yc false).toArray := ⟨_, rfl⟩
    rw [← hW_] at h1_ r_ ⊢
    have hb_ := HQ.out.2.1.trans (h1_.below HQ.out.2.1.size fun k hk e => by have := HQ.out.2.2; omega)
    have hq9_ := HA10.out.out HQ.out.2.2 r_.lt
    have HRW : Hid ((Row X12 q15 40 (plC ya yb yc false) ∧ Out3 gv gw gz c8 e0 X12 q15)) := ⟨r_, hq9_⟩
    have HA13 : Hid (A3 w X12 c8 e0 gp gq gv gw gz m9 n0 ov (osA ow [98] (B.getD k []) er0_) ov false (96 * k + 16)) := HA10.out.below hb_
    clear hW_ h1_ r_ hb_ HQ hq9_ HA10
    refine wl rfl (.int .i64 er0_) _ (run_asZ (.tmp 120) rfl (.int .i64 er0_) rfl) ?_
    simp only [Act.put, aS, aC, aZ]
    refine wpList_nil ?_
    by_cases hy : er0_ = 0
    ·go_upto_region 16 with fail
     refine wp_region_lit ?_
     refine wl rfl (.int .i64 er0_) _ (run_mvZ (.tmp 16) rfl (.int .i64 er0_) rfl) ?_
     refine wl rfl (.bool true) _ (run_eqZ (.tmp 121) (.const (.int .i64 0)) rfl er0_ 0 rfl rfl true (decide_eq_true hy)) ?_
     simp only [Act.put, aS, aC, aZ]
     refine wpList_nil ?_
     have HPY : Hid ((-9223372036854775808 ≤ yb ∧ yb ≤ 9223372036854775807) ∧ (-9223372036854775808 ≤ yc ∧ yc ≤ 9223372036854775807)) := plA_i64 HEer0_.out.2.1 (by have := HA13.out.fw.len; have := wide_osA ow [98] (B.getD k []) er0_; omega)
     go_upto_region 17 with fail
     refine wp_region_lit ?_
     refine wl rfl (ptr gv) _ (run_mvZ (.tmp 10) rfl (ptr gv) rfl) ?_
     refine wl rfl (.agg ((plC ya yb yc false)).toArray) _ (run_loadA ag40 (.tmp 15) rfl q15 (0) rfl ((plC ya yb yc false)) rfl (rows_one HRW.out.1)) ?_
     simp only [Act.put, aS, aC, aZ]
     refine wpList_callW eN17 [.tmp 124, .tmp 125] _ rfl rfl [(ptr gv), (.agg (plC ya yb yc false).toArray)] rfl ?_
     refine (vread_s HA13.out.fv (by have := HA13.out.k.1; omega) ya yb yc false HPY.out.1 HPY.out.2).mono ?_
     rintro e X14 ⟨hb_, _, ⟨_, _, _, h9_, _⟩ | ⟨rfl, _⟩⟩
     ·exfalso
      have := (HEer0_.out.1 hy).1
      omega
     refine ⟨_, rfl, ?_⟩
     replace HRW : Hid ((Row X14 q15 40 (plC ya yb yc false) ∧ Out3 gv gw gz c8 e0 X14 q15)) := ⟨HRW.out.1.later hb_ HRW.out.1.lt, ⟨Nat.lt_of_lt_of_le HRW.out.2.1 hb_.size, HRW.out.2.2⟩⟩
     have HA15 : Hid (A3 w X14 c8 e0 gp gq gv gw gz m9 n0 ov (osA ow [98] (B.getD k []) er0_) ov false (96 * k + 16)) := HA13.out.below hb_
     clear HA13 hb_
     simp only [Act.put, aS, aC, aZ]
     refine wl rfl (.tuple #[(str []), (.slice none 0 0), (.int .i64 4)]) _ (run_mvZ (.tmp 126) rfl (.tuple #[(str []), (.slice none 0 0), (.int .i64 4)]) rfl) ?_
     refine wl rfl (str []) _ (run_extZ (.tmp 123) 0 rfl #[(str []), (.slice none 0 0), (.int .i64 4)] rfl (str []) rfl) ?_
     refine wl rfl (.slice none 0 0) _ (run_extZ (.tmp 123) 1 rfl #[(str []), (.slice none 0 0), (.int .i64 4)] rfl (.slice none 0 0) rfl) ?_
     simp only [Act.put, aS, aC, aZ]
     refine wl rfl (.int .i64 4) _ (run_extZ (.tmp 123) 2 rfl #[(str []), (.slice none 0 0), (.int .i64 4)] rfl (.int .i64 4) rfl) ?_
     refine wl rfl (str []) _ (run_asZ (.tmp 127) rfl (str []) rfl) ?_
     refine wl rfl (.slice none 0 0) _ (run_asZ (.tmp 128) rfl (.slice none 0 0) rfl) ?_
     simp only [Act.put, aS, aC, aZ]
     refine wl rfl (.int .i64 4) _ (run_asZ (.tmp 129) rfl (.int .i64 4) rfl) ?_
     simp only [Act.put, aS, aC, aZ]
     refine wpList_nil ?_
     go_upto_region 18 with fail
     refine wp_region_lit ?_
     refine wl rfl (.int .i64 4) _ (run_mvZ (.tmp 19) rfl (.int .i64 4) rfl) ?_
     refine wl rfl (.bool false) _ (run_neZ (.tmp 130) (.const (.int .i64 4)) rfl (4) (4) rfl rfl false rfl) ?_
     simp only [Act.put, aS, aC, aZ]
     refine wpList_nil ?_
     go_upto_region 20 with fail
     refine wp_region_lit ?_
     refine wl rfl (ptr gv) _ (run_mvZ (.tmp 10) rfl (ptr gv) rfl) ?_
     refine wl rfl va _ (run_mvZ (.tmp 0) rfl va rfl) ?_
     refine wl rfl (.int .i64 (k : Nat)) _ (run_mvZ (.tmp 14) rfl (.int .i64 (k : Nat)) rfl) ?_
     simp only [Act.put, aS, aC, aZ]
     refine wl rfl (.pointer (some ⟨b1, j2, none⟩)) _ (run_idx (.tmp 134) (.tmp 135) rfl _ _ _ rfl rfl HXA.out.1) ?_
     refine wl rfl u3 _ (run_load1 o38 (.tmp 136) rfl b1 (j2) rfl u3 (HXA.out.2.1 _ HA15.out.bel).1) ?_
     simp only [Act.put, aS, aC, aZ]
     refine wpList_callW eN12 [.tmp 133, .const (.string { data := #[97] }), .tmp 137] _ rfl rfl [(ptr gv), (str [97]), u3] rfl ?_
     refine (vapp_s HA15.out.fv (by have := HA15.out.k.1; omega) [97] (A.getD k []) u3 (by decide) (by decide) (HXA.out.2.1 _ HA15.out.bel).2 (HXA.out.2.2.imp (fun h => h) fun h g e9 e8 => by have := h g e9; have := HA15.out.hi.1; omega)).mono ?_
     rintro e X16 ⟨c17, m18, er1_, her_, rfl, s_, v_, o_, hd_⟩
     obtain ⟨pa, pb, pc_, hpl_, hpx_, _⟩ := plA_form 0 ov (A.getD k []) er1_
     rw [hpl_]
     refine ⟨_, rfl, ?_⟩
     have HEer1_ : Hid ((er1_ = 0 → pa = ((0 : Nat) : Int) ∧ pb = (wide ov : Nat) ∧ pc_ = (nb (A.getD k []).length : Nat)) ∧ plA 0 ov (A.getD k []) er1_ = plC pa pb pc_ false ∧ er1_ = mayE [97] (A.getD k []) (roomP 90 (wide ov) false)) := ⟨hpx_, hpl_, her_⟩
     clear hpl_ hpx_ her_
     obtain ⟨a_, s3_⟩ := HA15.out.turnV s_ v_ o_
     have HA19 : Hid (A3 w X16 c17 e0 gp gq gv gw gz m18 n0 (osA ov [97] (A.getD k []) er1_) (osA ow [98] (B.getD k []) er0_) ov false (96 * k + 16 + 16)) := a_
     replace HRW : Hid ((Row X16 q15 40 (plC ya yb yc false) ∧ Out3 gv gw gz c17 e0 X16 q15)) := s3_.row HRW.out.2 HRW.out.1
     clear a_ s3_ s_ v_ o_ hd_ HA15
     simp only [Act.put, aS, aC, aZ]
     refine wl rfl (.tuple #[(.agg (plC pa pb pc_ false).toArray), (.int .i64 er1_)]) _ (run_mvZ (.tmp 138) rfl (.tuple #[(.agg (plC pa pb pc_ false).toArray), (.int .i64 er1_)]) rfl) ?_
     refine wl rfl (.agg (plC pa pb pc_ false).toArray) _ (run_extZ (.tmp 132) 0 rfl #[(.agg (plC pa pb pc_ false).toArray), (.int .i64 er1_)] rfl (.agg (plC pa pb pc_ false).toArray) rfl) ?_
     refine wl rfl (.int .i64 er1_) _ (run_extZ (.tmp 132) 1 rfl #[(.agg (plC pa pb pc_ false).toArray), (.int .i64 er1_)] rfl (.int .i64 er1_) rfl) ?_
     simp only [Act.put, aS, aC, aZ]
     refine wl rfl (ptr X16.heap.size) _ (run_allocA (plC 0 0 0 false) zero40 rfl) ?_
     have hb_ := below_alloc X16 (.cells (plC 0 0 0 false).toArray 40)
     have r_ := Row.new X16 40 (plC 0 0 0 false)
     obtain ⟨X20, hW_⟩ : ∃ U_ : World, U_ = X16.alloc (.cells (plC 0 0 0 false).toArray 40) := ⟨_, rfl⟩
     obtain ⟨q20, hq_⟩ : ∃ q, q = X16.heap.size := ⟨_, rfl⟩
     rw [← hW_] at hb_
     rw [← hW_, ← hq_] at r_
     rw [← hW_, ← hq_]
     have HQ : Hid (Row X20 q20 40 (plC 0 0 0 false) ∧ Below X16.heap.size X16 X20 ∧ X16.heap.size ≤ q20) := ⟨r_, hb_, Nat.le_of_eq hq_.symm⟩
     clear r_ hb_ hW_ hq_
     simp only [Act.put, aS, aC, aZ]
     refine wlS rfl rfl _ (run_storeA ag40 (.tmp 20) (.tmp 139) rfl q20 40 rfl (plC pa pb pc_ false) _ rfl rfl HQ.out.1 rfl (plC_one _ _ _ _)) ?_
     have h1_ := (Ch.setRow (S := (· = q20)) (Ch.refl _ X20) (Or.inl rfl) (plC pa pb pc_ false).toArray)
     have r_ := HQ.out.1.setRow (plC pa pb pc_ false)
     obtain ⟨X21, hW_⟩ : ∃ U_ : World, U_ = X20.setRow q20 (plC pa pb pc_ false).toArray := ⟨_, rfl⟩
     rw [← hW_] at h1_ r_ ⊢
     have hb_ := HQ.out.2.1.trans (h1_.below HQ.out.2.1.size fun k hk e => by have := HQ.out.2.2; omega)
     replace HRW : Hid ((Row X21 q15 40 (plC ya yb yc false) ∧ Out3 gv gw gz c17 e0 X21 q15)) := ⟨HRW.out.1.later hb_ HRW.out.1.lt, ⟨Nat.lt_of_lt_of_le HRW.out.2.1 hb_.size, HRW.out.2.2⟩⟩
     have hq9_ := HA19.out.out HQ.out.2.2 r_.lt
     replace HRW : Hid ((Row X21 q15 40 (plC ya yb yc false) ∧ Out3 gv gw gz c17 e0 X21 q15) ∧ (Row X21 q20 40 (plC pa pb pc_ false) ∧ Out3 gv gw gz c17 e0 X21 q20)) := ⟨HRW.out, ⟨r_, hq9_⟩⟩
     have HA22 : Hid (A3 w X21 c17 e0 gp gq gv gw gz m18 n0 (osA ov [97] (A.getD k []) er1_) (osA ow [98] (B.getD k []) er0_) ov false (96 * k + 16 + 16)) := HA19.out.below hb_
     clear hW_ h1_ r_ hb_ HQ hq9_ HA19
     refine wl rfl (.int .i64 er1_) _ (run_asZ (.tmp 140) rfl (.int .i64 er1_) rfl) ?_
     simp only [Act.put, aS, aC, aZ]
     refine wpList_nil ?_
     go_upto_region 21 with fail
     refine wp_region_lit ?_
     refine wl rfl (ptr gz) _ (run_mvZ (.tmp 12) rfl (ptr gz) rfl) ?_
     refine wl rfl va _ (run_mvZ (.tmp 0) rfl va rfl) ?_
     refine wl rfl (.int .i64 (k : Nat)) _ (run_mvZ (.tmp 14) rfl (.int .i64 (k : Nat)) rfl) ?_
     simp only [Act.put, aS, aC, aZ]
     refine wl rfl (.pointer (some ⟨b1, j2, none⟩)) _ (run_idx (.tmp 143) (.tmp 144) rfl _ _ _ rfl rfl HXA.out.1) ?_
     refine wl rfl u3 _ (run_load1 o38 (.tmp 145) rfl b1 (j2) rfl u3 (HXA.out.2.1 _ HA22.out.bel).1) ?_
     simp only [Act.put, aS, aC, aZ]
     refine wpList_callW eN12 [.tmp 142, .const (.string { data := #[97] }), .tmp 146] _ rfl rfl [(ptr gz), (str [97]), u3] rfl ?_
     refine (vapp_s HA22.out.fz (by have := HA22.out.k.2; omega) [97] (A.getD k []) u3 (by decide) (by decide) (HXA.out.2.1 _ HA22.out.bel).2 (HXA.out.2.2.imp (fun h => h) fun h g e9 e8 => by have := h g e9; have := HA22.out.hi.2.2; omega)).mono ?_
     rintro e X23 ⟨c24, m25, er2_, her_, rfl, s_, v_, o_, hd_⟩
     obtain rfl : er1_ = er2_ := HEer1_.out.2.2.trans her_.symm
     rw [HEer1_.out.2.1]
     refine ⟨_, rfl, ?_⟩
     clear her_
     obtain ⟨a_, s3_⟩ := HA22.out.turnZ s_ v_ o_
     have HA26 : Hid (A3 w X23 c17 c24 gp gq gv gw gz m18 m25 (osA ov [97] (A.getD k []) er1_) (osA ow [98] (B.getD k []) er0_) (osA ov [97] (A.getD k []) er1_) false (96 * k + 16 + 16 + 16)) := a_
     replace HRW : Hid ((Row X23 q15 40 (plC ya yb yc false) ∧ Out3 gv gw gz c17 c24 X23 q15) ∧ (Row X23 q20 40 (plC pa pb pc_ false) ∧ Out3 gv gw gz c17 c24 X23 q20)) := ⟨s3_.row HRW.out.1.2 HRW.out.1.1, s3_.row HRW.out.2.2 HRW.out.2.1⟩
     clear a_ s3_ s_ v_ o_ hd_ HA22
     simp only [Act.put, aS, aC, aZ]
     refine wl rfl (.tuple #[(.agg (plC pa pb pc_ false).toArray), (.int .i64 er1_)]) _ (run_mvZ (.tmp 147) rfl (.tuple #[(.agg (plC pa pb pc_ false).toArray), (.int .i64 er1_)]) rfl) ?_
     refine wl rfl (.agg (plC pa pb pc_ false).toArray) _ (run_extZ (.tmp 141) 0 rfl #[(.agg (plC pa pb pc_ false).toArray), (.int .i64 er1_)] rfl (.agg (plC pa pb pc_ false).toArray) rfl) ?_
     refine wl rfl (.int .i64 er1_) _ (run_extZ (.tmp 141) 1 rfl #[(.agg (plC pa pb pc_ false).toArray), (.int .i64 er1_)] rfl (.int .i64 er1_) rfl) ?_
     simp only [Act.put, aS, aC, aZ]
     refine wl rfl (ptr X23.heap.size) _ (run_allocA (plC 0 0 0 false) zero40 rfl) ?_
     have hb_ := below_alloc X23 (.cells (plC 0 0 0 false).toArray 40)
     have r_ := Row.new X23 40 (plC 0 0 0 false)
     obtain ⟨X27, hW_⟩ : ∃ U_ : World, U_ = X23.alloc (.cells (plC 0 0 0 false).toArray 40) := ⟨_, rfl⟩
     obtain ⟨q22, hq_⟩ : ∃ q, q = X23.heap.size := ⟨_, rfl⟩
     rw [← hW_] at hb_
     rw [← hW_, ← hq_] at r_
     rw [← hW_, ← hq_]
     have HQ : Hid (Row X27 q22 40 (plC 0 0 0 false) ∧ Below X23.heap.size X23 X27 ∧ X23.heap.size ≤ q22) := ⟨r_, hb_, Nat.le_of_eq hq_.symm⟩
     clear r_ hb_ hW_ hq_
     simp only [Act.put, aS, aC, aZ]
     refine wlS rfl rfl _ (run_storeA ag40 (.tmp 22) (.tmp 148) rfl q22 40 rfl (plC pa pb pc_ false) _ rfl rfl HQ.out.1 rfl (plC_one _ _ _ _)) ?_
     have h1_ := (Ch.setRow (S := (· = q22)) (Ch.refl _ X27) (Or.inl rfl) (plC pa pb pc_ false).toArray)
     have r_ := HQ.out.1.setRow (plC pa pb pc_ false)
     obtain ⟨X28, hW_⟩ : ∃ U_ : World, U_ = X27.setRow q22 (plC pa pb pc_ false).toArray := ⟨_, rfl⟩
     rw [← hW_] at h1_ r_ ⊢
     have hb_ := HQ.out.2.1.trans (h1_.below HQ.out.2.1.size fun k hk e => by have := HQ.out.2.2; omega)
     replace HRW : Hid ((Row X28 q15 40 (plC ya yb yc false) ∧ Out3 gv gw gz c17 c24 X28 q15) ∧ (Row X28 q20 40 (plC pa pb pc_ false) ∧ Out3 gv gw gz c17 c24 X28 q20)) := ⟨⟨HRW.out.1.1.later hb_ HRW.out.1.1.lt, ⟨Nat.lt_of_lt_of_le HRW.out.1.2.1 hb_.size, HRW.out.1.2.2⟩⟩, ⟨HRW.out.2.1.later hb_ HRW.out.2.1.lt, ⟨Nat.lt_of_lt_of_le HRW.out.2.2.1 hb_.size, HRW.out.2.2.2⟩⟩⟩
     have hq9_ := HA26.out.out HQ.out.2.2 r_.lt
     replace HRW : Hid ((Row X28 q15 40 (plC ya yb yc false) ∧ Out3 gv gw gz c17 c24 X28 q15) ∧ (Row X28 q20 40 (plC pa pb pc_ false) ∧ Out3 gv gw gz c17 c24 X28 q20) ∧ (Row X28 q22 40 (plC pa pb pc_ false) ∧ Out3 gv gw gz c17 c24 X28 q22)) := ⟨HRW.out.1, HRW.out.2, ⟨r_, hq9_⟩⟩
     have HA29 : Hid (A3 w X28 c17 c24 gp gq gv gw gz m18 m25 (osA ov [97] (A.getD k []) er1_) (osA ow [98] (B.getD k []) er0_) (osA ov [97] (A.getD k []) er1_) false (96 * k + 16 + 16 + 16)) := HA26.out.below hb_
     clear hW_ h1_ r_ hb_ HQ hq9_ HA26
     refine wl rfl (.int .i64 er1_) _ (run_asZ (.tmp 149) rfl (.int .i64 er1_) rfl) ?_
     simp only [Act.put, aS, aC, aZ]
     refine wpList_nil ?_
     obtain ⟨bf, hbf⟩ : ∃ b, b = false := ⟨_, rfl⟩
     have HBF : Hid (bf = false) := hbf
     clear hbf
     go_upto_region 22 with fail
     refine wp_region_lit ?_
     refine wl rfl (.agg ((plC pa pb pc_ false)).toArray) _ (run_loadA ag40 (.tmp 20) rfl q20 (0) rfl ((plC pa pb pc_ false)) rfl (rows_one HRW.out.2.1.1)) ?_
     refine wl rfl (.agg ((plC pa pb pc_ false)).toArray) _ (run_loadA ag40 (.tmp 22) rfl q22 (0) rfl ((plC pa pb pc_ false)) rfl (rows_one HRW.out.2.2.1)) ?_
     refine wl rfl (.bool bf) _ ((by rw [HBF.out]; exact run_nePl (.tmp 150) (.tmp 151) rfl pa pb pc_ pa pb pc_ false false rfl rfl false (by simp))) ?_
     simp only [Act.put, aS, aC, aZ]
     refine wl rfl (.bool bf) _ (run_mvZ (.tmp 152) rfl (.bool bf) rfl) ?_
     refine wl (by rw [HBF.out]; kernel_rfl) (.int .i64 er1_) _ (run_mvZ (.tmp 21) rfl (.int .i64 er1_) rfl) ?_
     refine wl (by rw [HBF.out]; kernel_rfl) (.int .i64 er1_) _ (run_mvZ (.tmp 23) rfl (.int .i64 er1_) rfl) ?_
     simp only [Act.put, aS, aC, aZ]
     refine wl (by rw [HBF.out]; kernel_rfl) (.bool bf) _ ((by rw [HBF.out]; exact run_neZ (.tmp 154) (.tmp 155) rfl er1_ er1_ rfl rfl false (by simp))) ?_
     refine wl rfl (.bool bf) _ (run_pickZ (.tmp 153) (.const (.bool true)) (.tmp 156) rfl bf (.bool bf) rfl (by rw [HBF.out]; rfl)) ?_
     refine wl rfl (.bool bf) _ (run_mvZ (.tmp 157) rfl (.bool bf) rfl) ?_
     simp only [Act.put, aS, aC, aZ]
     refine wl (by rw [HBF.out]; kernel_rfl) (ptr gv) _ (run_mvZ (.tmp 10) rfl (ptr gv) rfl) ?_
     simp only [Act.put, aS, aC, aZ]
     refine wpList_callW eN23 [.tmp 159] _ (by rw [HBF.out]; kernel_rfl) rfl [(ptr gv)] rfl ?_
     refine (vroom_s HA29.out.fv (by have := HA29.out.k.1; omega)).mono ?_
     rintro e X30 ⟨rfl, s_, v_⟩
     refine ⟨_, rfl, ?_⟩
     obtain ⟨a_, s3_⟩ := HA29.out.turnV s_ v_ (Or.inl rfl)
     replace HRW : Hid ((Row X30 q15 40 (plC ya yb yc false) ∧ Out3 gv gw gz c17 c24 X30 q15) ∧ (Row X30 q20 40 (plC pa pb pc_ false) ∧ Out3 gv gw gz c17 c24 X30 q20) ∧ (Row X30 q22 40 (plC pa pb pc_ false) ∧ Out3 gv gw gz c17 c24 X30 q22)) := ⟨s3_.row HRW.out.1.2 HRW.out.1.1, s3_.row HRW.out.2.1.2 HRW.out.2.1.1, s3_.row HRW.out.2.2.2 HRW.out.2.2.1⟩
     have HA31 : Hid (A3 w X30 c17 c24 gp gq gv gw gz m18 m25 (osA ov [97] (A.getD k []) er1_) (osA ow [98] (B.getD k []) er0_) (osA ov [97] (A.getD k []) er1_) false (96 * k + 16 + 16 + 16 + 16)) := a_
     clear a_ s3_ s_ v_ HA29
     simp only [Act.put, aS, aC, aZ]
     refine wl (by rw [HBF.out]; kernel_rfl) (ptr gz) _ (run_mvZ (.tmp 12) rfl (ptr gz) rfl) ?_
     simp only [Act.put, aS, aC, aZ]
     refine wpList_callW eN23 [.tmp 161] _ (by rw [HBF.out]; kernel_rfl) rfl [(ptr gz)] rfl ?_
     refine (vroom_s HA31.out.fz (by have := HA31.out.k.2; omega)).mono ?_
     rintro e X32 ⟨rfl, s_, v_⟩
     refine ⟨_, rfl, ?_⟩
     obtain ⟨a_, s3_⟩ := HA31.out.turnZ s_ v_ (Or.inl rfl)
     replace HRW : Hid ((Row X32 q15 40 (plC ya yb yc false) ∧ Out3 gv gw gz c17 c24 X32 q15) ∧ (Row X32 q20 40 (plC pa pb pc_ false) ∧ Out3 gv gw gz c17 c24 X32 q20) ∧ (Row X32 q22 40 (plC pa pb pc_ false) ∧ Out3 gv gw gz c17 c24 X32 q22)) := ⟨s3_.row HRW.out.1.2 HRW.out.1.1, s3_.row HRW.out.2.1.2 HRW.out.2.1.1, s3_.row HRW.out.2.2.2 HRW.out.2.2.1⟩
     have HA33 : Hid (A3 w X32 c17 c24 gp gq gv gw gz m18 m25 (osA ov [97] (A.getD k []) er1_) (osA ow [98] (B.getD k []) er0_) (osA ov [97] (A.getD k []) er1_) false (96 * k + 16 + 16 + 16 + 16 + 16)) := a_
     clear a_ s3_ s_ v_ HA31
     simp only [Act.put, aS, aC, aZ]
     refine wl (by rw [HBF.out]; kernel_rfl) (.bool bf) _ ((by rw [HBF.out]; exact run_neZ (.tmp 160) (.tmp 162) rfl (roomP 90 (wide (osA ov [97] (A.getD k []) er1_)) false : Nat) (roomP 90 (wide (osA ov [97] (A.getD k []) er1_)) false : Nat) rfl rfl false (by simp))) ?_
     refine wl rfl (.bool bf) _ (run_pickZ (.tmp 158) (.const (.bool true)) (.tmp 163) rfl bf (.bool bf) rfl (by rw [HBF.out]; rfl)) ?_
     simp only [Act.put, aS, aC, aZ]
     refine wpList_nil ?_
     obtain rfl : bf = false := HBF.out
     have HPB : Hid ((-9223372036854775808 ≤ pb ∧ pb ≤ 9223372036854775807) ∧ (-9223372036854775808 ≤ pc_ ∧ pc_ ≤ 9223372036854775807)) := plA_i64 HEer1_.out.2.1 (by have := HA33.out.fv.len; have := wide_osA ov [97] (A.getD k []) er1_; omega)
     by_cases hz : er1_ = 0
     ·go_upto_region 24 with fail
      refine wp_region_lit ?_
      refine wl rfl (ptr gv) _ (run_mvZ (.tmp 10) rfl (ptr gv) rfl) ?_
      refine wl rfl (.agg ((plC pa pb pc_ false)).toArray) _ (run_loadA ag40 (.tmp 20) rfl q20 (0) rfl ((plC pa pb pc_ false)) rfl (rows_one HRW.out.2.1.1)) ?_
      simp only [Act.put, aS, aC, aZ]
      refine wpList_callW eN17 [.tmp 166, .tmp 167] _ rfl rfl [(ptr gv), (.agg (plC pa pb pc_ false).toArray)] rfl ?_
      refine (vread_s HA33.out.fv (by have := HA33.out.k.1; omega) pa pb pc_ false HPB.out.1 HPB.out.2).mono ?_
      rintro e X34 ⟨hb_, _, hr_⟩
      obtain ⟨vy, rfl, hn_⟩ : ∃ vy, e = .returned (.tuple #[str [97], vy, .int .i64 0]) ∧ SliceIn X34 vy (A.getD k []) := (by
       obtain ⟨e1, e2, e3⟩ := HEer1_.out.1 hz
       have hos : osA ov [97] (A.getD k []) er1_ = ov ++ [([97], A.getD k [])] := (by unfold osA; rw [if_pos hz])
       rw [hos] at hr_
       rcases hr_ with ⟨j, vy, hj, _, h2, h3, h4, h5, _⟩ | ⟨_, hno⟩
       ·have hj2 : j = ov.length := (by
         refine offO_inj (ov ++ [([97], A.getD k [])]) j ov.length hj (by simp) ?_
         rw [offO_snoc ov _ ov.length (Nat.le_refl _), offO_end]
         rw [e2] at h2
         omega)
        rw [getD_last ov _ _ j hj2] at h4 h5
        exact ⟨vy, h4, h5⟩
       ·exact absurd ⟨e1, by rw [offO_snoc ov _ ov.length (Nat.le_refl _), offO_end]; exact e2, by rw [getD_last ov _ _ _ rfl]; exact e3⟩ (hno ov.length (by simp)))
      refine ⟨_, rfl, ?_⟩
      have HY : Hid (SliceIn X34 vy (A.getD k [])) := hn_
      clear hn_ hr_
      replace HRW : Hid ((Row X34 q15 40 (plC ya yb yc false) ∧ Out3 gv gw gz c17 c24 X34 q15) ∧ (Row X34 q20 40 (plC pa pb pc_ false) ∧ Out3 gv gw gz c17 c24 X34 q20) ∧ (Row X34 q22 40 (plC pa pb pc_ false) ∧ Out3 gv gw gz c17 c24 X34 q22)) := ⟨⟨HRW.out.1.1.later hb_ HRW.out.1.1.lt, ⟨Nat.lt_of_lt_of_le HRW.out.1.2.1 hb_.size, HRW.out.1.2.2⟩⟩, ⟨HRW.out.2.1.1.later hb_ HRW.out.2.1.1.lt, ⟨Nat.lt_of_lt_of_le HRW.out.2.1.2.1 hb_.size, HRW.out.2.1.2.2⟩⟩, ⟨HRW.out.2.2.1.later hb_ HRW.out.2.2.1.lt, ⟨Nat.lt_of_lt_of_le HRW.out.2.2.2.1 hb_.size, HRW.out.2.2.2.2⟩⟩⟩
      have HA35 : Hid (A3 w X34 c17 c24 gp gq gv gw gz m18 m25 (osA ov [97] (A.getD k []) er1_) (osA ow [98] (B.getD k []) er0_) (osA ov [97] (A.getD k []) er1_) false (96 * k + 16 + 16 + 16 + 16 + 16)) := HA33.out.below hb_
      clear HA33 hb_
      simp only [Act.put, aS, aC, aZ]
      refine wl rfl (.tuple #[(str [97]), vy, (.int .i64 0)]) _ (run_mvZ (.tmp 168) rfl (.tuple #[(str [97]), vy, (.int .i64 0)]) rfl) ?_
      refine wl rfl (str [97]) _ (run_extZ (.tmp 165) 0 rfl #[(str [97]), vy, (.int .i64 0)] rfl (str [97]) rfl) ?_
      refine wl rfl vy _ (run_extZ (.tmp 165) 1 rfl #[(str [97]), vy, (.int .i64 0)] rfl vy rfl) ?_
      simp only [Act.put, aS, aC, aZ]
      refine wl rfl (.int .i64 0) _ (run_extZ (.tmp 165) 2 rfl #[(str [97]), vy, (.int .i64 0)] rfl (.int .i64 0) rfl) ?_
      refine wl rfl (str [97]) _ (run_asZ (.tmp 169) rfl (str [97]) rfl) ?_
      refine wl rfl vy _ (run_asZ (.tmp 170) rfl vy rfl) ?_
      simp only [Act.put, aS, aC, aZ]
      refine wl rfl (.int .i64 0) _ (run_asZ (.tmp 171) rfl (.int .i64 0) rfl) ?_
      simp only [Act.put, aS, aC, aZ]
      refine wpList_nil ?_
      go_upto_region 25 with fail
      refine wp_region_held (S := fun X => SliceIn X vy (A.getD k []) ∧ Below w.heap.size w X) (by kernel_rfl) ?_
      show wpAnyH _ _ _ _ _ 20 (Array.replicate 20 false) _ _
      obtain ⟨X, hX⟩ : ∃ X : World, X = { X34 with drawn := X34.drawn + 1 } := ⟨_, rfl⟩
      rw [← hX]
      have HS_ : SliceIn X vy (A.getD k []) ∧ Below w.heap.size w X := (by rw [hX]; exact ⟨HY.out.later ⟨rfl, rfl, rfl, Nat.le_refl _, fun _ _ => rfl⟩, HA35.out.bel.trans ⟨rfl, rfl, rfl, Nat.le_refl _, fun _ _ => rfl⟩⟩)
      have HAX : Hid (A3 w X c17 c24 gp gq gv gw gz m18 m25 (osA ov [97] (A.getD k []) er1_) (osA ow [98] (B.getD k []) er0_) (osA ov [97] (A.getD k []) er1_) false (96 * k + 16 + 16 + 16 + 16 + 16)) := (by rw [hX]; exact HA35.out.below ⟨rfl, rfl, rfl, Nat.le_refl _, fun _ _ => rfl⟩)
      clear hX
      refine tH 0 172 rfl rfl (gRun rfl (.int .i64 er1_) fun _ h => run_mvZ (.tmp 21) rfl (.int .i64 er1_) rfl) HS_ ?_
      refine tH 1 173 rfl rfl (gRun rfl (.bool true) fun _ h => run_eqZ (.tmp 172) (.const (.int .i64 0)) rfl er1_ 0 rfl rfl true (decide_eq_true hz)) HS_ ?_
      refine tH 2 174 rfl rfl (gRun rfl (.bool true) fun _ h => run_mvZ (.tmp 173) rfl (.bool true) rfl) HS_ ?_
      simp only [Act.put, aS, aC, aZ]
      refine tH 3 175 rfl rfl (gRun (by kernel_rfl) (.int .i64 0) fun _ h => run_mvZ (.tmp 26) rfl (.int .i64 0) rfl) HS_ ?_
      refine tH 4 176 rfl rfl (gRun (by kernel_rfl) (.bool false) fun _ h => run_neZ (.tmp 175) (.const (.int .i64 0)) rfl (0) (0) rfl rfl false rfl) HS_ ?_
      refine tH 5 177 rfl rfl (gRun (by kernel_rfl) (.bool false) fun _ h => run_mvZ (.tmp 176) rfl (.bool false) rfl) HS_ ?_
      simp only [Act.put, aS, aC, aZ]
      refine tH 6 178 rfl rfl (gRun (by kernel_rfl) (str [97]) fun _ h => run_mvZ (.tmp 24) rfl (str [97]) rfl) HS_ ?_
      refine tH 7 179 rfl rfl (gRun (by kernel_rfl) (.bool false) fun _ h => run_neS (.tmp 178) (.const (.string { data := #[97] })) rfl _ rfl rfl) HS_ ?_
      refine tH 8 180 rfl rfl (gRun (by kernel_rfl) (.bool false) fun _ h => run_pickZ (.tmp 177) (.const (.bool true)) (.tmp 179) rfl false (.bool false) rfl rfl) HS_ ?_
      simp only [Act.put, aS, aC, aZ]
      refine tH 9 181 rfl rfl (gRun (by kernel_rfl) (.bool false) fun _ h => run_mvZ (.tmp 180) rfl (.bool false) rfl) HS_ ?_
      refine tH 10 182 rfl rfl (gRun (by kernel_rfl) vy fun _ h => run_mvZ (.tmp 25) rfl vy rfl) HS_ ?_
      refine tH 11 183 rfl rfl (gRun (by kernel_rfl) (str (A.getD k [])) fun _ h => run_bstr (.tmp 182) rfl vy (A.getD k []) rfl h.1) HS_ ?_
      simp only [Act.put, aS, aC, aZ]
      refine tH 12 184 rfl rfl (gRun (by kernel_rfl) va fun _ h => run_mvZ (.tmp 0) rfl va rfl) HS_ ?_
      refine tH 13 185 rfl rfl (gRun (by kernel_rfl) (.int .i64 (k : Nat)) fun _ h => run_mvZ (.tmp 14) rfl (.int .i64 (k : Nat)) rfl) HS_ ?_
      refine tH 14 186 rfl rfl (gRun (by kernel_rfl) (.pointer (some ⟨b1, j2, none⟩)) fun _ h => run_idx (.tmp 184) (.tmp 185) rfl _ _ _ rfl rfl HXA.out.1) HS_ ?_
      simp only [Act.put, aS, aC, aZ]
      refine tH 15 187 rfl rfl (gRun (by kernel_rfl) u3 fun _ h => run_load1 o38 (.tmp 186) rfl b1 (j2) rfl u3 (HXA.out.2.1 _ h.2).1) HS_ ?_
      refine tH 16 188 rfl rfl (gRun (by kernel_rfl) (str (A.getD k [])) fun _ h => run_bstr (.tmp 187) rfl u3 (A.getD k []) rfl (HXA.out.2.1 _ h.2).2) HS_ ?_
      refine tH 17 189 rfl rfl (gRun (by kernel_rfl) (.bool false) fun _ h => run_neS (.tmp 183) (.tmp 188) rfl _ rfl rfl) HS_ ?_
      simp only [Act.put, aS, aC, aZ]
      refine tH 18 190 rfl rfl (gRun (by kernel_rfl) (.bool false) fun _ h => run_pickZ (.tmp 181) (.const (.bool true)) (.tmp 189) rfl false (.bool false) rfl rfl) HS_ ?_
      refine tH 19 191 rfl rfl (gRun rfl (.bool false) fun _ h => run_pickZ (.tmp 174) (.tmp 190) (.const (.bool false)) rfl true (.bool false) rfl rfl) HS_ ?_
      simp only [Act.put, aS, aC, aZ]
      refine wpAnyH_done (by kernel_rfl) ?_ _
      go_upto_region 13 with fail
      refine wp_region_lit ?_
      refine wl rfl (.int .i64 (k : Nat)) _ (run_mvZ (.tmp 14) rfl (.int .i64 (k : Nat)) rfl) ?_
      refine wl rfl (.int .i64 ((k + 1 : Nat) : Int)) _ (run_addZ (.tmp 106) (.const (.int .i64 1)) rfl (k : Nat) 1 _ rfl rfl (by omega) (by omega) (by omega)) ?_
      refine wl rfl (.int .i64 ((k + 1 : Nat) : Int)) _ (run_asZ (.tmp 107) rfl (.int .i64 ((k + 1 : Nat) : Int)) rfl) ?_
      simp only [Act.put, aS, aC, aZ]
      refine wpList_nil ?_
      go_wp2_with fail
      exact ⟨⟨k + 1, rfl, by omega, by omega, _, _, _, _, _, _, HAX.out.le (by omega)⟩, by simp [intOf]; omega⟩
     ·go_upto_region 24 with fail
      refine wp_region_lit ?_
      refine wl rfl (ptr gv) _ (run_mvZ (.tmp 10) rfl (ptr gv) rfl) ?_
      refine wl rfl (.agg ((plC pa pb pc_ false)).toArray) _ (run_loadA ag40 (.tmp 20) rfl q20 (0) rfl ((plC pa pb pc_ false)) rfl (rows_one HRW.out.2.1.1)) ?_
      simp only [Act.put, aS, aC, aZ]
      refine wpList_callW eN17 [.tmp 166, .tmp 167] _ rfl rfl [(ptr gv), (.agg (plC pa pb pc_ false).toArray)] rfl ?_
      refine (vread_s HA33.out.fv (by have := HA33.out.k.1; omega) pa pb pc_ false HPB.out.1 HPB.out.2).mono ?_
      rintro e X36 ⟨hb_, _, hr_⟩
      obtain ⟨vi, vy, er, rfl⟩ : ∃ (vi : List Nat) (vy : Value) (er : Int), e = .returned (.tuple #[str vi, vy, .int .i64 er]) := (by
       rcases hr_ with ⟨_, _, _, _, _, _, h4, _⟩ | ⟨h4, _⟩
       ·exact ⟨_, _, _, h4⟩
       ·exact ⟨_, _, _, h4⟩)
      refine ⟨_, rfl, ?_⟩
      clear hr_
      replace HRW : Hid ((Row X36 q15 40 (plC ya yb yc false) ∧ Out3 gv gw gz c17 c24 X36 q15) ∧ (Row X36 q20 40 (plC pa pb pc_ false) ∧ Out3 gv gw gz c17 c24 X36 q20) ∧ (Row X36 q22 40 (plC pa pb pc_ false) ∧ Out3 gv gw gz c17 c24 X36 q22)) := ⟨⟨HRW.out.1.1.later hb_ HRW.out.1.1.lt, ⟨Nat.lt_of_lt_of_le HRW.out.1.2.1 hb_.size, HRW.out.1.2.2⟩⟩, ⟨HRW.out.2.1.1.later hb_ HRW.out.2.1.1.lt, ⟨Nat.lt_of_lt_of_le HRW.out.2.1.2.1 hb_.size, HRW.out.2.1.2.2⟩⟩, ⟨HRW.out.2.2.1.later hb_ HRW.out.2.2.1.lt, ⟨Nat.lt_of_lt_of_le HRW.out.2.2.2.1 hb_.size, HRW.out.2.2.2.2⟩⟩⟩
      have HA37 : Hid (A3 w X36 c17 c24 gp gq gv gw gz m18 m25 (osA ov [97] (A.getD k []) er1_) (osA ow [98] (B.getD k []) er0_) (osA ov [97] (A.getD k []) er1_) false (96 * k + 16 + 16 + 16 + 16 + 16)) := HA33.out.below hb_
      clear HA33 hb_
      simp only [Act.put, aS, aC, aZ]
      refine wl rfl (.tuple #[(str vi), vy, (.int .i64 er)]) _ (run_mvZ (.tmp 168) rfl (.tuple #[(str vi), vy, (.int .i64 er)]) rfl) ?_
      refine wl rfl (str vi) _ (run_extZ (.tmp 165) 0 rfl #[(str vi), vy, (.int .i64 er)] rfl (str vi) rfl) ?_
      refine wl rfl vy _ (run_extZ (.tmp 165) 1 rfl #[(str vi), vy, (.int .i64 er)] rfl vy rfl) ?_
      simp only [Act.put, aS, aC, aZ]
      refine wl rfl (.int .i64 er) _ (run_extZ (.tmp 165) 2 rfl #[(str vi), vy, (.int .i64 er)] rfl (.int .i64 er) rfl) ?_
      refine wl rfl (str vi) _ (run_asZ (.tmp 169) rfl (str vi) rfl) ?_
      refine wl rfl vy _ (run_asZ (.tmp 170) rfl vy rfl) ?_
      simp only [Act.put, aS, aC, aZ]
      refine wl rfl (.int .i64 er) _ (run_asZ (.tmp 171) rfl (.int .i64 er) rfl) ?_
      simp only [Act.put, aS, aC, aZ]
      refine wpList_nil ?_
      go_upto_region 25 with fail
      refine wp_region_held (S := fun X => Below w.heap.size w X) (by kernel_rfl) ?_
      show wpAnyH _ _ _ _ _ 20 (Array.replicate 20 false) _ _
      obtain ⟨X, hX⟩ : ∃ X : World, X = { X36 with drawn := X36.drawn + 1 } := ⟨_, rfl⟩
      rw [← hX]
      have HS_ : Below w.heap.size w X := (by rw [hX]; exact HA37.out.bel.trans ⟨rfl, rfl, rfl, Nat.le_refl _, fun _ _ => rfl⟩)
      have HAX : Hid (A3 w X c17 c24 gp gq gv gw gz m18 m25 (osA ov [97] (A.getD k []) er1_) (osA ow [98] (B.getD k []) er0_) (osA ov [97] (A.getD k []) er1_) false (96 * k + 16 + 16 + 16 + 16 + 16)) := (by rw [hX]; exact HA37.out.below ⟨rfl, rfl, rfl, Nat.le_refl _, fun _ _ => rfl⟩)
      clear hX
      refine tH 0 172 rfl rfl (gRun rfl (.int .i64 er1_) fun _ h => run_mvZ (.tmp 21) rfl (.int .i64 er1_) rfl) HS_ ?_
      refine tH 1 173 rfl rfl (gRun rfl (.bool false) fun _ h => run_eqZ (.tmp 172) (.const (.int .i64 0)) rfl er1_ 0 rfl rfl false (decide_eq_false hz)) HS_ ?_
      refine tH 2 174 rfl rfl (gRun rfl (.bool false) fun _ h => run_mvZ (.tmp 173) rfl (.bool false) rfl) HS_ ?_
      simp only [Act.put, aS, aC, aZ]
      refine tH 3 175 rfl rfl (Or.inr ⟨by kernel_rfl, rfl⟩) HS_ ?_
      refine tH 4 176 rfl rfl (Or.inr ⟨by kernel_rfl, rfl⟩) HS_ ?_
      refine tH 5 177 rfl rfl (Or.inr ⟨by kernel_rfl, rfl⟩) HS_ ?_
      simp only [Act.put, aS, aC, aZ]
      refine tH 6 178 rfl rfl (Or.inr ⟨by kernel_rfl, rfl⟩) HS_ ?_
      refine tH 7 179 rfl rfl (Or.inr ⟨by kernel_rfl, rfl⟩) HS_ ?_
      refine tH 8 180 rfl rfl (Or.inr ⟨by kernel_rfl, rfl⟩) HS_ ?_
      simp only [Act.put, aS, aC, aZ]
      refine tH 9 181 rfl rfl (Or.inr ⟨by kernel_rfl, rfl⟩) HS_ ?_
      refine tH 10 182 rfl rfl (Or.inr ⟨by kernel_rfl, rfl⟩) HS_ ?_
      refine tH 11 183 rfl rfl (Or.inr ⟨by kernel_rfl, rfl⟩) HS_ ?_
      simp only [Act.put, aS, aC, aZ]
      refine tH 12 184 rfl rfl (Or.inr ⟨by kernel_rfl, rfl⟩) HS_ ?_
      refine tH 13 185 rfl rfl (Or.inr ⟨by kernel_rfl, rfl⟩) HS_ ?_
      refine tH 14 186 rfl rfl (Or.inr ⟨by kernel_rfl, rfl⟩) HS_ ?_
      simp only [Act.put, aS, aC, aZ]
      refine tH 15 187 rfl rfl (Or.inr ⟨by kernel_rfl, rfl⟩) HS_ ?_
      refine tH 16 188 rfl rfl (Or.inr ⟨by kernel_rfl, rfl⟩) HS_ ?_
      refine tH 17 189 rfl rfl (Or.inr ⟨by kernel_rfl, rfl⟩) HS_ ?_
      simp only [Act.put, aS, aC, aZ]
      refine tH 18 190 rfl rfl (Or.inr ⟨by kernel_rfl, rfl⟩) HS_ ?_
      refine tH 19 191 rfl rfl (gRun rfl (.bool false) fun _ h => run_pickZ (.tmp 174) (.tmp 190) (.const (.bool false)) rfl false (.bool false) rfl rfl) HS_ ?_
      simp only [Act.put, aS, aC, aZ]
      refine wpAnyH_done (by kernel_rfl) ?_ _
      go_upto_region 13 with fail
      refine wp_region_lit ?_
      refine wl rfl (.int .i64 (k : Nat)) _ (run_mvZ (.tmp 14) rfl (.int .i64 (k : Nat)) rfl) ?_
      refine wl rfl (.int .i64 ((k + 1 : Nat) : Int)) _ (run_addZ (.tmp 106) (.const (.int .i64 1)) rfl (k : Nat) 1 _ rfl rfl (by omega) (by omega) (by omega)) ?_
      refine wl rfl (.int .i64 ((k + 1 : Nat) : Int)) _ (run_asZ (.tmp 107) rfl (.int .i64 ((k + 1 : Nat) : Int)) rfl) ?_
      simp only [Act.put, aS, aC, aZ]
      refine wpList_nil ?_
      go_wp2_with fail
      exact ⟨⟨k + 1, rfl, by omega, by omega, _, _, _, _, _, _, HAX.out.le (by omega)⟩, by simp [intOf]; omega⟩
    ·go_upto_region 16 with fail
     refine wp_region_lit ?_
     refine wl rfl (.int .i64 er0_) _ (run_mvZ (.tmp 16) rfl (.int .i64 er0_) rfl) ?_
     refine wl rfl (.bool false) _ (run_eqZ (.tmp 121) (.const (.int .i64 0)) rfl er0_ 0 rfl rfl false (decide_eq_false hy)) ?_
     simp only [Act.put, aS, aC, aZ]
     refine wpList_nil ?_
     go_upto_region 20 with fail
     refine wp_region_lit ?_
     refine wl rfl (ptr gv) _ (run_mvZ (.tmp 10) rfl (ptr gv) rfl) ?_
     refine wl rfl va _ (run_mvZ (.tmp 0) rfl va rfl) ?_
     refine wl rfl (.int .i64 (k : Nat)) _ (run_mvZ (.tmp 14) rfl (.int .i64 (k : Nat)) rfl) ?_
     simp only [Act.put, aS, aC, aZ]
     refine wl rfl (.pointer (some ⟨b1, j2, none⟩)) _ (run_idx (.tmp 134) (.tmp 135) rfl _ _ _ rfl rfl HXA.out.1) ?_
     refine wl rfl u3 _ (run_load1 o38 (.tmp 136) rfl b1 (j2) rfl u3 (HXA.out.2.1 _ HA13.out.bel).1) ?_
     simp only [Act.put, aS, aC, aZ]
     refine wpList_callW eN12 [.tmp 133, .const (.string { data := #[97] }), .tmp 137] _ rfl rfl [(ptr gv), (str [97]), u3] rfl ?_
     refine (vapp_s HA13.out.fv (by have := HA13.out.k.1; omega) [97] (A.getD k []) u3 (by decide) (by decide) (HXA.out.2.1 _ HA13.out.bel).2 (HXA.out.2.2.imp (fun h => h) fun h g e9 e8 => by have := h g e9; have := HA13.out.hi.1; omega)).mono ?_
     rintro e X38 ⟨c39, m40, er1_, her_, rfl, s_, v_, o_, hd_⟩
     obtain ⟨pa, pb, pc_, hpl_, hpx_, _⟩ := plA_form 0 ov (A.getD k []) er1_
     rw [hpl_]
     refine ⟨_, rfl, ?_⟩
     have HEer1_ : Hid ((er1_ = 0 → pa = ((0 : Nat) : Int) ∧ pb = (wide ov : Nat) ∧ pc_ = (nb (A.getD k []).length : Nat)) ∧ plA 0 ov (A.getD k []) er1_ = plC pa pb pc_ false ∧ er1_ = mayE [97] (A.getD k []) (roomP 90 (wide ov) false)) := ⟨hpx_, hpl_, her_⟩
     clear hpl_ hpx_ her_
     obtain ⟨a_, s3_⟩ := HA13.out.turnV s_ v_ o_
     have HA41 : Hid (A3 w X38 c39 e0 gp gq gv gw gz m40 n0 (osA ov [97] (A.getD k []) er1_) (osA ow [98] (B.getD k []) er0_) ov false (96 * k + 16 + 16)) := a_
     replace HRW : Hid ((Row X38 q15 40 (plC ya yb yc false) ∧ Out3 gv gw gz c39 e0 X38 q15)) := s3_.row HRW.out.2 HRW.out.1
     clear a_ s3_ s_ v_ o_ hd_ HA13
     simp only [Act.put, aS, aC, aZ]
     refine wl rfl (.tuple #[(.agg (plC pa pb pc_ false).toArray), (.int .i64 er1_)]) _ (run_mvZ (.tmp 138) rfl (.tuple #[(.agg (plC pa pb pc_ false).toArray), (.int .i64 er1_)]) rfl) ?_
     refine wl rfl (.agg (plC pa pb pc_ false).toArray) _ (run_extZ (.tmp 132) 0 rfl #[(.agg (plC pa pb pc_ false).toArray), (.int .i64 er1_)] rfl (.agg (plC pa pb pc_ false).toArray) rfl) ?_
     refine wl rfl (.int .i64 er1_) _ (run_extZ (.tmp 132) 1 rfl #[(.agg (plC pa pb pc_ false).toArray), (.int .i64 er1_)] rfl (.int .i64 er1_) rfl) ?_
     simp only [Act.put, aS, aC, aZ]
     refine wl rfl (ptr X38.heap.size) _ (run_allocA (plC 0 0 0 false) zero40 rfl) ?_
     have hb_ := below_alloc X38 (.cells (plC 0 0 0 false).toArray 40)
     have r_ := Row.new X38 40 (plC 0 0 0 false)
     obtain ⟨X42, hW_⟩ : ∃ U_ : World, U_ = X38.alloc (.cells (plC 0 0 0 false).toArray 40) := ⟨_, rfl⟩
     obtain ⟨q20, hq_⟩ : ∃ q, q = X38.heap.size := ⟨_, rfl⟩
     rw [← hW_] at hb_
     rw [← hW_, ← hq_] at r_
     rw [← hW_, ← hq_]
     have HQ : Hid (Row X42 q20 40 (plC 0 0 0 false) ∧ Below X38.heap.size X38 X42 ∧ X38.heap.size ≤ q20) := ⟨r_, hb_, Nat.le_of_eq hq_.symm⟩
     clear r_ hb_ hW_ hq_
     simp only [Act.put, aS, aC, aZ]
     refine wlS rfl rfl _ (run_storeA ag40 (.tmp 20) (.tmp 139) rfl q20 40 rfl (plC pa pb pc_ false) _ rfl rfl HQ.out.1 rfl (plC_one _ _ _ _)) ?_
     have h1_ := (Ch.setRow (S := (· = q20)) (Ch.refl _ X42) (Or.inl rfl) (plC pa pb pc_ false).toArray)
     have r_ := HQ.out.1.setRow (plC pa pb pc_ false)
     obtain ⟨X43, hW_⟩ : ∃ U_ : World, U_ = X42.setRow q20 (plC pa pb pc_ false).toArray := ⟨_, rfl⟩
     rw [← hW_] at h1_ r_ ⊢
     have hb_ := HQ.out.2.1.trans (h1_.below HQ.out.2.1.size fun k hk e => by have := HQ.out.2.2; omega)
     replace HRW : Hid ((Row X43 q15 40 (plC ya yb yc false) ∧ Out3 gv gw gz c39 e0 X43 q15)) := ⟨HRW.out.1.later hb_ HRW.out.1.lt, ⟨Nat.lt_of_lt_of_le HRW.out.2.1 hb_.size, HRW.out.2.2⟩⟩
     have hq9_ := HA41.out.out HQ.out.2.2 r_.lt
     replace HRW : Hid ((Row X43 q15 40 (plC ya yb yc false) ∧ Out3 gv gw gz c39 e0 X43 q15) ∧ (Row X43 q20 40 (plC pa pb pc_ false) ∧ Out3 gv gw gz c39 e0 X43 q20)) := ⟨HRW.out, ⟨r_, hq9_⟩⟩
     have HA44 : Hid (A3 w X43 c39 e0 gp gq gv gw gz m40 n0 (osA ov [97] (A.getD k []) er1_) (osA ow [98] (B.getD k []) er0_) ov false (96 * k + 16 + 16)) := HA41.out.below hb_
     clear hW_ h1_ r_ hb_ HQ hq9_ HA41
     refine wl rfl (.int .i64 er1_) _ (run_asZ (.tmp 140) rfl (.int .i64 er1_) rfl) ?_
     simp only [Act.put, aS, aC, aZ]
     refine wpList_nil ?_
     go_upto_region 21 with fail
     refine wp_region_lit ?_
     refine wl rfl (ptr gz) _ (run_mvZ (.tmp 12) rfl (ptr gz) rfl) ?_
     refine wl rfl va _ (run_mvZ (.tmp 0) rfl va rfl) ?_
     refine wl rfl (.int .i64 (k : Nat)) _ (run_mvZ (.tmp 14) rfl (.int .i64 (k : Nat)) rfl) ?_
     simp only [Act.put, aS, aC, aZ]
     refine wl rfl (.pointer (some ⟨b1, j2, none⟩)) _ (run_idx (.tmp 143) (.tmp 144) rfl _ _ _ rfl rfl HXA.out.1) ?_
     refine wl rfl u3 _ (run_load1 o38 (.tmp 145) rfl b1 (j2) rfl u3 (HXA.out.2.1 _ HA44.out.bel).1) ?_
     simp only [Act.put, aS, aC, aZ]
     refine wpList_callW eN12 [.tmp 142, .const (.string { data := #[97] }), .tmp 146] _ rfl rfl [(ptr gz), (str [97]), u3] rfl ?_
     refine (vapp_s HA44.out.fz (by have := HA44.out.k.2; omega) [97] (A.getD k []) u3 (by decide) (by decide) (HXA.out.2.1 _ HA44.out.bel).2 (HXA.out.2.2.imp (fun h => h) fun h g e9 e8 => by have := h g e9; have := HA44.out.hi.2.2; omega)).mono ?_
     rintro e X45 ⟨c46, m47, er2_, her_, rfl, s_, v_, o_, hd_⟩
     obtain rfl : er1_ = er2_ := HEer1_.out.2.2.trans her_.symm
     rw [HEer1_.out.2.1]
     refine ⟨_, rfl, ?_⟩
     clear her_
     obtain ⟨a_, s3_⟩ := HA44.out.turnZ s_ v_ o_
     have HA48 : Hid (A3 w X45 c39 c46 gp gq gv gw gz m40 m47 (osA ov [97] (A.getD k []) er1_) (osA ow [98] (B.getD k []) er0_) (osA ov [97] (A.getD k []) er1_) false (96 * k + 16 + 16 + 16)) := a_
     replace HRW : Hid ((Row X45 q15 40 (plC ya yb yc false) ∧ Out3 gv gw gz c39 c46 X45 q15) ∧ (Row X45 q20 40 (plC pa pb pc_ false) ∧ Out3 gv gw gz c39 c46 X45 q20)) := ⟨s3_.row HRW.out.1.2 HRW.out.1.1, s3_.row HRW.out.2.2 HRW.out.2.1⟩
     clear a_ s3_ s_ v_ o_ hd_ HA44
     simp only [Act.put, aS, aC, aZ]
     refine wl rfl (.tuple #[(.agg (plC pa pb pc_ false).toArray), (.int .i64 er1_)]) _ (run_mvZ (.tmp 147) rfl (.tuple #[(.agg (plC pa pb pc_ false).toArray), (.int .i64 er1_)]) rfl) ?_
     refine wl rfl (.agg (plC pa pb pc_ false).toArray) _ (run_extZ (.tmp 141) 0 rfl #[(.agg (plC pa pb pc_ false).toArray), (.int .i64 er1_)] rfl (.agg (plC pa pb pc_ false).toArray) rfl) ?_
     refine wl rfl (.int .i64 er1_) _ (run_extZ (.tmp 141) 1 rfl #[(.agg (plC pa pb pc_ false).toArray), (.int .i64 er1_)] rfl (.int .i64 er1_) rfl) ?_
     simp only [Act.put, aS, aC, aZ]
     refine wl rfl (ptr X45.heap.size) _ (run_allocA (plC 0 0 0 false) zero40 rfl) ?_
     have hb_ := below_alloc X45 (.cells (plC 0 0 0 false).toArray 40)
     have r_ := Row.new X45 40 (plC 0 0 0 false)
     obtain ⟨X49, hW_⟩ : ∃ U_ : World, U_ = X45.alloc (.cells (plC 0 0 0 false).toArray 40) := ⟨_, rfl⟩
     obtain ⟨q22, hq_⟩ : ∃ q, q = X45.heap.size := ⟨_, rfl⟩
     rw [← hW_] at hb_
     rw [← hW_, ← hq_] at r_
     rw [← hW_, ← hq_]
     have HQ : Hid (Row X49 q22 40 (plC 0 0 0 false) ∧ Below X45.heap.size X45 X49 ∧ X45.heap.size ≤ q22) := ⟨r_, hb_, Nat.le_of_eq hq_.symm⟩
     clear r_ hb_ hW_ hq_
     simp only [Act.put, aS, aC, aZ]
     refine wlS rfl rfl _ (run_storeA ag40 (.tmp 22) (.tmp 148) rfl q22 40 rfl (plC pa pb pc_ false) _ rfl rfl HQ.out.1 rfl (plC_one _ _ _ _)) ?_
     have h1_ := (Ch.setRow (S := (· = q22)) (Ch.refl _ X49) (Or.inl rfl) (plC pa pb pc_ false).toArray)
     have r_ := HQ.out.1.setRow (plC pa pb pc_ false)
     obtain ⟨X50, hW_⟩ : ∃ U_ : World, U_ = X49.setRow q22 (plC pa pb pc_ false).toArray := ⟨_, rfl⟩
     rw [← hW_] at h1_ r_ ⊢
     have hb_ := HQ.out.2.1.trans (h1_.below HQ.out.2.1.size fun k hk e => by have := HQ.out.2.2; omega)
     replace HRW : Hid ((Row X50 q15 40 (plC ya yb yc false) ∧ Out3 gv gw gz c39 c46 X50 q15) ∧ (Row X50 q20 40 (plC pa pb pc_ false) ∧ Out3 gv gw gz c39 c46 X50 q20)) := ⟨⟨HRW.out.1.1.later hb_ HRW.out.1.1.lt, ⟨Nat.lt_of_lt_of_le HRW.out.1.2.1 hb_.size, HRW.out.1.2.2⟩⟩, ⟨HRW.out.2.1.later hb_ HRW.out.2.1.lt, ⟨Nat.lt_of_lt_of_le HRW.out.2.2.1 hb_.size, HRW.out.2.2.2⟩⟩⟩
     have hq9_ := HA48.out.out HQ.out.2.2 r_.lt
     replace HRW : Hid ((Row X50 q15 40 (plC ya yb yc false) ∧ Out3 gv gw gz c39 c46 X50 q15) ∧ (Row X50 q20 40 (plC pa pb pc_ false) ∧ Out3 gv gw gz c39 c46 X50 q20) ∧ (Row X50 q22 40 (plC pa pb pc_ false) ∧ Out3 gv gw gz c39 c46 X50 q22)) := ⟨HRW.out.1, HRW.out.2, ⟨r_, hq9_⟩⟩
     have HA51 : Hid (A3 w X50 c39 c46 gp gq gv gw gz m40 m47 (osA ov [97] (A.getD k []) er1_) (osA ow [98] (B.getD k []) er0_) (osA ov [97] (A.getD k []) er1_) false (96 * k + 16 + 16 + 16)) := HA48.out.below hb_
     clear hW_ h1_ r_ hb_ HQ hq9_ HA48
     refine wl rfl (.int .i64 er1_) _ (run_asZ (.tmp 149) rfl (.int .i64 er1_) rfl) ?_
     simp only [Act.put, aS, aC, aZ]
     refine wpList_nil ?_
     obtain ⟨bf, hbf⟩ : ∃ b, b = false := ⟨_, rfl⟩
     have HBF : Hid (bf = false) := hbf
     clear hbf
     go_upto_region 22 with fail
     refine wp_region_lit ?_
     refine wl rfl (.agg ((plC pa pb pc_ false)).toArray) _ (run_loadA ag40 (.tmp 20) rfl q20 (0) rfl ((plC pa pb pc_ false)) rfl (rows_one HRW.out.2.1.1)) ?_
     refine wl rfl (.agg ((plC pa pb pc_ false)).toArray) _ (run_loadA ag40 (.tmp 22) rfl q22 (0) rfl ((plC pa pb pc_ false)) rfl (rows_one HRW.out.2.2.1)) ?_
     refine wl rfl (.bool bf) _ ((by rw [HBF.out]; exact run_nePl (.tmp 150) (.tmp 151) rfl pa pb pc_ pa pb pc_ false false rfl rfl false (by simp))) ?_
     simp only [Act.put, aS, aC, aZ]
     refine wl rfl (.bool bf) _ (run_mvZ (.tmp 152) rfl (.bool bf) rfl) ?_
     refine wl (by rw [HBF.out]; kernel_rfl) (.int .i64 er1_) _ (run_mvZ (.tmp 21) rfl (.int .i64 er1_) rfl) ?_
     refine wl (by rw [HBF.out]; kernel_rfl) (.int .i64 er1_) _ (run_mvZ (.tmp 23) rfl (.int .i64 er1_) rfl) ?_
     simp only [Act.put, aS, aC, aZ]
     refine wl (by rw [HBF.out]; kernel_rfl) (.bool bf) _ ((by rw [HBF.out]; exact run_neZ (.tmp 154) (.tmp 155) rfl er1_ er1_ rfl rfl false (by simp))) ?_
     refine wl rfl (.bool bf) _ (run_pickZ (.tmp 153) (.const (.bool true)) (.tmp 156) rfl bf (.bool bf) rfl (by rw [HBF.out]; rfl)) ?_
     refine wl rfl (.bool bf) _ (run_mvZ (.tmp 157) rfl (.bool bf) rfl) ?_
     simp only [Act.put, aS, aC, aZ]
     refine wl (by rw [HBF.out]; kernel_rfl) (ptr gv) _ (run_mvZ (.tmp 10) rfl (ptr gv) rfl) ?_
     simp only [Act.put, aS, aC, aZ]
     refine wpList_callW eN23 [.tmp 159] _ (by rw [HBF.out]; kernel_rfl) rfl [(ptr gv)] rfl ?_
     refine (vroom_s HA51.out.fv (by have := HA51.out.k.1; omega)).mono ?_
     rintro e X52 ⟨rfl, s_, v_⟩
     refine ⟨_, rfl, ?_⟩
     obtain ⟨a_, s3_⟩ := HA51.out.turnV s_ v_ (Or.inl rfl)
     replace HRW : Hid ((Row X52 q15 40 (plC ya yb yc false) ∧ Out3 gv gw gz c39 c46 X52 q15) ∧ (Row X52 q20 40 (plC pa pb pc_ false) ∧ Out3 gv gw gz c39 c46 X52 q20) ∧ (Row X52 q22 40 (plC pa pb pc_ false) ∧ Out3 gv gw gz c39 c46 X52 q22)) := ⟨s3_.row HRW.out.1.2 HRW.out.1.1, s3_.row HRW.out.2.1.2 HRW.out.2.1.1, s3_.row HRW.out.2.2.2 HRW.out.2.2.1⟩
     have HA53 : Hid (A3 w X52 c39 c46 gp gq gv gw gz m40 m47 (osA ov [97] (A.getD k []) er1_) (osA ow [98] (B.getD k []) er0_) (osA ov [97] (A.getD k []) er1_) false (96 * k + 16 + 16 + 16 + 16)) := a_
     clear a_ s3_ s_ v_ HA51
     simp only [Act.put, aS, aC, aZ]
     refine wl (by rw [HBF.out]; kernel_rfl) (ptr gz) _ (run_mvZ (.tmp 12) rfl (ptr gz) rfl) ?_
     simp only [Act.put, aS, aC, aZ]
     refine wpList_callW eN23 [.tmp 161] _ (by rw [HBF.out]; kernel_rfl) rfl [(ptr gz)] rfl ?_
     refine (vroom_s HA53.out.fz (by have := HA53.out.k.2; omega)).mono ?_
     rintro e X54 ⟨rfl, s_, v_⟩
     refine ⟨_, rfl, ?_⟩
     obtain ⟨a_, s3_⟩ := HA53.out.turnZ s_ v_ (Or.inl rfl)
     replace HRW : Hid ((Row X54 q15 40 (plC ya yb yc false) ∧ Out3 gv gw gz c39 c46 X54 q15) ∧ (Row X54 q20 40 (plC pa pb pc_ false) ∧ Out3 gv gw gz c39 c46 X54 q20) ∧ (Row X54 q22 40 (plC pa pb pc_ false) ∧ Out3 gv gw gz c39 c46 X54 q22)) := ⟨s3_.row HRW.out.1.2 HRW.out.1.1, s3_.row HRW.out.2.1.2 HRW.out.2.1.1, s3_.row HRW.out.2.2.2 HRW.out.2.2.1⟩
     have HA55 : Hid (A3 w X54 c39 c46 gp gq gv gw gz m40 m47 (osA ov [97] (A.getD k []) er1_) (osA ow [98] (B.getD k []) er0_) (osA ov [97] (A.getD k []) er1_) false (96 * k + 16 + 16 + 16 + 16 + 16)) := a_
     clear a_ s3_ s_ v_ HA53
     simp only [Act.put, aS, aC, aZ]
     refine wl (by rw [HBF.out]; kernel_rfl) (.bool bf) _ ((by rw [HBF.out]; exact run_neZ (.tmp 160) (.tmp 162) rfl (roomP 90 (wide (osA ov [97] (A.getD k []) er1_)) false : Nat) (roomP 90 (wide (osA ov [97] (A.getD k []) er1_)) false : Nat) rfl rfl false (by simp))) ?_
     refine wl rfl (.bool bf) _ (run_pickZ (.tmp 158) (.const (.bool true)) (.tmp 163) rfl bf (.bool bf) rfl (by rw [HBF.out]; rfl)) ?_
     simp only [Act.put, aS, aC, aZ]
     refine wpList_nil ?_
     obtain rfl : bf = false := HBF.out
     have HPB : Hid ((-9223372036854775808 ≤ pb ∧ pb ≤ 9223372036854775807) ∧ (-9223372036854775808 ≤ pc_ ∧ pc_ ≤ 9223372036854775807)) := plA_i64 HEer1_.out.2.1 (by have := HA55.out.fv.len; have := wide_osA ov [97] (A.getD k []) er1_; omega)
     by_cases hz : er1_ = 0
     ·go_upto_region 24 with fail
      refine wp_region_lit ?_
      refine wl rfl (ptr gv) _ (run_mvZ (.tmp 10) rfl (ptr gv) rfl) ?_
      refine wl rfl (.agg ((plC pa pb pc_ false)).toArray) _ (run_loadA ag40 (.tmp 20) rfl q20 (0) rfl ((plC pa pb pc_ false)) rfl (rows_one HRW.out.2.1.1)) ?_
      simp only [Act.put, aS, aC, aZ]
      refine wpList_callW eN17 [.tmp 166, .tmp 167] _ rfl rfl [(ptr gv), (.agg (plC pa pb pc_ false).toArray)] rfl ?_
      refine (vread_s HA55.out.fv (by have := HA55.out.k.1; omega) pa pb pc_ false HPB.out.1 HPB.out.2).mono ?_
      rintro e X56 ⟨hb_, _, hr_⟩
      obtain ⟨vy, rfl, hn_⟩ : ∃ vy, e = .returned (.tuple #[str [97], vy, .int .i64 0]) ∧ SliceIn X56 vy (A.getD k []) := (by
       obtain ⟨e1, e2, e3⟩ := HEer1_.out.1 hz
       have hos : osA ov [97] (A.getD k []) er1_ = ov ++ [([97], A.getD k [])] := (by unfold osA; rw [if_pos hz])
       rw [hos] at hr_
       rcases hr_ with ⟨j, vy, hj, _, h2, h3, h4, h5, _⟩ | ⟨_, hno⟩
       ·have hj2 : j = ov.length := (by
         refine offO_inj (ov ++ [([97], A.getD k [])]) j ov.length hj (by simp) ?_
         rw [offO_snoc ov _ ov.length (Nat.le_refl _), offO_end]
         rw [e2] at h2
         omega)
        rw [getD_last ov _ _ j hj2] at h4 h5
        exact ⟨vy, h4, h5⟩
       ·exact absurd ⟨e1, by rw [offO_snoc ov _ ov.length (Nat.le_refl _), offO_end]; exact e2, by rw [getD_last ov _ _ _ rfl]; exact e3⟩ (hno ov.length (by simp)))
      refine ⟨_, rfl, ?_⟩
      have HY : Hid (SliceIn X56 vy (A.getD k [])) := hn_
      clear hn_ hr_
      replace HRW : Hid ((Row X56 q15 40 (plC ya yb yc false) ∧ Out3 gv gw gz c39 c46 X56 q15) ∧ (Row X56 q20 40 (plC pa pb pc_ false) ∧ Out3 gv gw gz c39 c46 X56 q20) ∧ (Row X56 q22 40 (plC pa pb pc_ false) ∧ Out3 gv gw gz c39 c46 X56 q22)) := ⟨⟨HRW.out.1.1.later hb_ HRW.out.1.1.lt, ⟨Nat.lt_of_lt_of_le HRW.out.1.2.1 hb_.size, HRW.out.1.2.2⟩⟩, ⟨HRW.out.2.1.1.later hb_ HRW.out.2.1.1.lt, ⟨Nat.lt_of_lt_of_le HRW.out.2.1.2.1 hb_.size, HRW.out.2.1.2.2⟩⟩, ⟨HRW.out.2.2.1.later hb_ HRW.out.2.2.1.lt, ⟨Nat.lt_of_lt_of_le HRW.out.2.2.2.1 hb_.size, HRW.out.2.2.2.2⟩⟩⟩
      have HA57 : Hid (A3 w X56 c39 c46 gp gq gv gw gz m40 m47 (osA ov [97] (A.getD k []) er1_) (osA ow [98] (B.getD k []) er0_) (osA ov [97] (A.getD k []) er1_) false (96 * k + 16 + 16 + 16 + 16 + 16)) := HA55.out.below hb_
      clear HA55 hb_
      simp only [Act.put, aS, aC, aZ]
      refine wl rfl (.tuple #[(str [97]), vy, (.int .i64 0)]) _ (run_mvZ (.tmp 168) rfl (.tuple #[(str [97]), vy, (.int .i64 0)]) rfl) ?_
      refine wl rfl (str [97]) _ (run_extZ (.tmp 165) 0 rfl #[(str [97]), vy, (.int .i64 0)] rfl (str [97]) rfl) ?_
      refine wl rfl vy _ (run_extZ (.tmp 165) 1 rfl #[(str [97]), vy, (.int .i64 0)] rfl vy rfl) ?_
      simp only [Act.put, aS, aC, aZ]
      refine wl rfl (.int .i64 0) _ (run_extZ (.tmp 165) 2 rfl #[(str [97]), vy, (.int .i64 0)] rfl (.int .i64 0) rfl) ?_
      refine wl rfl (str [97]) _ (run_asZ (.tmp 169) rfl (str [97]) rfl) ?_
      refine wl rfl vy _ (run_asZ (.tmp 170) rfl vy rfl) ?_
      simp only [Act.put, aS, aC, aZ]
      refine wl rfl (.int .i64 0) _ (run_asZ (.tmp 171) rfl (.int .i64 0) rfl) ?_
      simp only [Act.put, aS, aC, aZ]
      refine wpList_nil ?_
      go_upto_region 25 with fail
      refine wp_region_held (S := fun X => SliceIn X vy (A.getD k []) ∧ Below w.heap.size w X) (by kernel_rfl) ?_
      show wpAnyH _ _ _ _ _ 20 (Array.replicate 20 false) _ _
      obtain ⟨X, hX⟩ : ∃ X : World, X = { X56 with drawn := X56.drawn + 1 } := ⟨_, rfl⟩
      rw [← hX]
      have HS_ : SliceIn X vy (A.getD k []) ∧ Below w.heap.size w X := (by rw [hX]; exact ⟨HY.out.later ⟨rfl, rfl, rfl, Nat.le_refl _, fun _ _ => rfl⟩, HA57.out.bel.trans ⟨rfl, rfl, rfl, Nat.le_refl _, fun _ _ => rfl⟩⟩)
      have HAX : Hid (A3 w X c39 c46 gp gq gv gw gz m40 m47 (osA ov [97] (A.getD k []) er1_) (osA ow [98] (B.getD k []) er0_) (osA ov [97] (A.getD k []) er1_) false (96 * k + 16 + 16 + 16 + 16 + 16)) := (by rw [hX]; exact HA57.out.below ⟨rfl, rfl, rfl, Nat.le_refl _, fun _ _ => rfl⟩)
      clear hX
      refine tH 0 172 rfl rfl (gRun rfl (.int .i64 er1_) fun _ h => run_mvZ (.tmp 21) rfl (.int .i64 er1_) rfl) HS_ ?_
      refine tH 1 173 rfl rfl (gRun rfl (.bool true) fun _ h => run_eqZ (.tmp 172) (.const (.int .i64 0)) rfl er1_ 0 rfl rfl true (decide_eq_true hz)) HS_ ?_
      refine tH 2 174 rfl rfl (gRun rfl (.bool true) fun _ h => run_mvZ (.tmp 173) rfl (.bool true) rfl) HS_ ?_
      simp only [Act.put, aS, aC, aZ]
      refine tH 3 175 rfl rfl (gRun (by kernel_rfl) (.int .i64 0) fun _ h => run_mvZ (.tmp 26) rfl (.int .i64 0) rfl) HS_ ?_
      refine tH 4 176 rfl rfl (gRun (by kernel_rfl) (.bool false) fun _ h => run_neZ (.tmp 175) (.const (.int .i64 0)) rfl (0) (0) rfl rfl false rfl) HS_ ?_
      refine tH 5 177 rfl rfl (gRun (by kernel_rfl) (.bool false) fun _ h => run_mvZ (.tmp 176) rfl (.bool false) rfl) HS_ ?_
      simp only [Act.put, aS, aC, aZ]
      refine tH 6 178 rfl rfl (gRun (by kernel_rfl) (str [97]) fun _ h => run_mvZ (.tmp 24) rfl (str [97]) rfl) HS_ ?_
      refine tH 7 179 rfl rfl (gRun (by kernel_rfl) (.bool false) fun _ h => run_neS (.tmp 178) (.const (.string { data := #[97] })) rfl _ rfl rfl) HS_ ?_
      refine tH 8 180 rfl rfl (gRun (by kernel_rfl) (.bool false) fun _ h => run_pickZ (.tmp 177) (.const (.bool true)) (.tmp 179) rfl false (.bool false) rfl rfl) HS_ ?_
      simp only [Act.put, aS, aC, aZ]
      refine tH 9 181 rfl rfl (gRun (by kernel_rfl) (.bool false) fun _ h => run_mvZ (.tmp 180) rfl (.bool false) rfl) HS_ ?_
      refine tH 10 182 rfl rfl (gRun (by kernel_rfl) vy fun _ h => run_mvZ (.tmp 25) rfl vy rfl) HS_ ?_
      refine tH 11 183 rfl rfl (gRun (by kernel_rfl) (str (A.getD k [])) fun _ h => run_bstr (.tmp 182) rfl vy (A.getD k []) rfl h.1) HS_ ?_
      simp only [Act.put, aS, aC, aZ]
      refine tH 12 184 rfl rfl (gRun (by kernel_rfl) va fun _ h => run_mvZ (.tmp 0) rfl va rfl) HS_ ?_
      refine tH 13 185 rfl rfl (gRun (by kernel_rfl) (.int .i64 (k : Nat)) fun _ h => run_mvZ (.tmp 14) rfl (.int .i64 (k : Nat)) rfl) HS_ ?_
      refine tH 14 186 rfl rfl (gRun (by kernel_rfl) (.pointer (some ⟨b1, j2, none⟩)) fun _ h => run_idx (.tmp 184) (.tmp 185) rfl _ _ _ rfl rfl HXA.out.1) HS_ ?_
      simp only [Act.put, aS, aC, aZ]
      refine tH 15 187 rfl rfl (gRun (by kernel_rfl) u3 fun _ h => run_load1 o38 (.tmp 186) rfl b1 (j2) rfl u3 (HXA.out.2.1 _ h.2).1) HS_ ?_
      refine tH 16 188 rfl rfl (gRun (by kernel_rfl) (str (A.getD k [])) fun _ h => run_bstr (.tmp 187) rfl u3 (A.getD k []) rfl (HXA.out.2.1 _ h.2).2) HS_ ?_
      refine tH 17 189 rfl rfl (gRun (by kernel_rfl) (.bool false) fun _ h => run_neS (.tmp 183) (.tmp 188) rfl _ rfl rfl) HS_ ?_
      simp only [Act.put, aS, aC, aZ]
      refine tH 18 190 rfl rfl (gRun (by kernel_rfl) (.bool false) fun _ h => run_pickZ (.tmp 181) (.const (.bool true)) (.tmp 189) rfl false (.bool false) rfl rfl) HS_ ?_
      refine tH 19 191 rfl rfl (gRun rfl (.bool false) fun _ h => run_pickZ (.tmp 174) (.tmp 190) (.const (.bool false)) rfl true (.bool false) rfl rfl) HS_ ?_
      simp only [Act.put, aS, aC, aZ]
      refine wpAnyH_done (by kernel_rfl) ?_ _
      go_upto_region 13 with fail
      refine wp_region_lit ?_
      refine wl rfl (.int .i64 (k : Nat)) _ (run_mvZ (.tmp 14) rfl (.int .i64 (k : Nat)) rfl) ?_
      refine wl rfl (.int .i64 ((k + 1 : Nat) : Int)) _ (run_addZ (.tmp 106) (.const (.int .i64 1)) rfl (k : Nat) 1 _ rfl rfl (by omega) (by omega) (by omega)) ?_
      refine wl rfl (.int .i64 ((k + 1 : Nat) : Int)) _ (run_asZ (.tmp 107) rfl (.int .i64 ((k + 1 : Nat) : Int)) rfl) ?_
      simp only [Act.put, aS, aC, aZ]
      refine wpList_nil ?_
      go_wp2_with fail
      exact ⟨⟨k + 1, rfl, by omega, by omega, _, _, _, _, _, _, HAX.out.le (by omega)⟩, by simp [intOf]; omega⟩
     ·go_upto_region 24 with fail
      refine wp_region_lit ?_
      refine wl rfl (ptr gv) _ (run_mvZ (.tmp 10) rfl (ptr gv) rfl) ?_
      refine wl rfl (.agg ((plC pa pb pc_ false)).toArray) _ (run_loadA ag40 (.tmp 20) rfl q20 (0) rfl ((plC pa pb pc_ false)) rfl (rows_one HRW.out.2.1.1)) ?_
      simp only [Act.put, aS, aC, aZ]
      refine wpList_callW eN17 [.tmp 166, .tmp 167] _ rfl rfl [(ptr gv), (.agg (plC pa pb pc_ false).toArray)] rfl ?_
      refine (vread_s HA55.out.fv (by have := HA55.out.k.1; omega) pa pb pc_ false HPB.out.1 HPB.out.2).mono ?_
      rintro e X58 ⟨hb_, _, hr_⟩
      obtain ⟨vi, vy, er, rfl⟩ : ∃ (vi : List Nat) (vy : Value) (er : Int), e = .returned (.tuple #[str vi, vy, .int .i64 er]) := (by
       rcases hr_ with ⟨_, _, _, _, _, _, h4, _⟩ | ⟨h4, _⟩
       ·exact ⟨_, _, _, h4⟩
       ·exact ⟨_, _, _, h4⟩)
      refine ⟨_, rfl, ?_⟩
      clear hr_
      replace HRW : Hid ((Row X58 q15 40 (plC ya yb yc false) ∧ Out3 gv gw gz c39 c46 X58 q15) ∧ (Row X58 q20 40 (plC pa pb pc_ false) ∧ Out3 gv gw gz c39 c46 X58 q20) ∧ (Row X58 q22 40 (plC pa pb pc_ false) ∧ Out3 gv gw gz c39 c46 X58 q22)) := ⟨⟨HRW.out.1.1.later hb_ HRW.out.1.1.lt, ⟨Nat.lt_of_lt_of_le HRW.out.1.2.1 hb_.size, HRW.out.1.2.2⟩⟩, ⟨HRW.out.2.1.1.later hb_ HRW.out.2.1.1.lt, ⟨Nat.lt_of_lt_of_le HRW.out.2.1.2.1 hb_.size, HRW.out.2.1.2.2⟩⟩, ⟨HRW.out.2.2.1.later hb_ HRW.out.2.2.1.lt, ⟨Nat.lt_of_lt_of_le HRW.out.2.2.2.1 hb_.size, HRW.out.2.2.2.2⟩⟩⟩
      have HA59 : Hid (A3 w X58 c39 c46 gp gq gv gw gz m40 m47 (osA ov [97] (A.getD k []) er1_) (osA ow [98] (B.getD k []) er0_) (osA ov [97] (A.getD k []) er1_) false (96 * k + 16 + 16 + 16 + 16 + 16)) := HA55.out.below hb_
      clear HA55 hb_
      simp only [Act.put, aS, aC, aZ]
      refine wl rfl (.tuple #[(str vi), vy, (.int .i64 er)]) _ (run_mvZ (.tmp 168) rfl (.tuple #[(str vi), vy, (.int .i64 er)]) rfl) ?_
      refine wl rfl (str vi) _ (run_extZ (.tmp 165) 0 rfl #[(str vi), vy, (.int .i64 er)] rfl (str vi) rfl) ?_
      refine wl rfl vy _ (run_extZ (.tmp 165) 1 rfl #[(str vi), vy, (.int .i64 er)] rfl vy rfl) ?_
      simp only [Act.put, aS, aC, aZ]
      refine wl rfl (.int .i64 er) _ (run_extZ (.tmp 165) 2 rfl #[(str vi), vy, (.int .i64 er)] rfl (.int .i64 er) rfl) ?_
      refine wl rfl (str vi) _ (run_asZ (.tmp 169) rfl (str vi) rfl) ?_
      refine wl rfl vy _ (run_asZ (.tmp 170) rfl vy rfl) ?_
      simp only [Act.put, aS, aC, aZ]
      refine wl rfl (.int .i64 er) _ (run_asZ (.tmp 171) rfl (.int .i64 er) rfl) ?_
      simp only [Act.put, aS, aC, aZ]
      refine wpList_nil ?_
      go_upto_region 25 with fail
      refine wp_region_held (S := fun X => Below w.heap.size w X) (by kernel_rfl) ?_
      show wpAnyH _ _ _ _ _ 20 (Array.replicate 20 false) _ _
      obtain ⟨X, hX⟩ : ∃ X : World, X = { X58 with drawn := X58.drawn + 1 } := ⟨_, rfl⟩
      rw [← hX]
      have HS_ : Below w.heap.size w X := (by rw [hX]; exact HA59.out.bel.trans ⟨rfl, rfl, rfl, Nat.le_refl _, fun _ _ => rfl⟩)
      have HAX : Hid (A3 w X c39 c46 gp gq gv gw gz m40 m47 (osA ov [97] (A.getD k []) er1_) (osA ow [98] (B.getD k []) er0_) (osA ov [97] (A.getD k []) er1_) false (96 * k + 16 + 16 + 16 + 16 + 16)) := (by rw [hX]; exact HA59.out.below ⟨rfl, rfl, rfl, Nat.le_refl _, fun _ _ => rfl⟩)
      clear hX
      refine tH 0 172 rfl rfl (gRun rfl (.int .i64 er1_) fun _ h => run_mvZ (.tmp 21) rfl (.int .i64 er1_) rfl) HS_ ?_
      refine tH 1 173 rfl rfl (gRun rfl (.bool false) fun _ h => run_eqZ (.tmp 172) (.const (.int .i64 0)) rfl er1_ 0 rfl rfl false (decide_eq_false hz)) HS_ ?_
      refine tH 2 174 rfl rfl (gRun rfl (.bool false) fun _ h => run_mvZ (.tmp 173) rfl (.bool false) rfl) HS_ ?_
      simp only [Act.put, aS, aC, aZ]
      refine tH 3 175 rfl rfl (Or.inr ⟨by kernel_rfl, rfl⟩) HS_ ?_
      refine tH 4 176 rfl rfl (Or.inr ⟨by kernel_rfl, rfl⟩) HS_ ?_
      refine tH 5 177 rfl rfl (Or.inr ⟨by kernel_rfl, rfl⟩) HS_ ?_
      simp only [Act.put, aS, aC, aZ]
      refine tH 6 178 rfl rfl (Or.inr ⟨by kernel_rfl, rfl⟩) HS_ ?_
      refine tH 7 179 rfl rfl (Or.inr ⟨by kernel_rfl, rfl⟩) HS_ ?_
      refine tH 8 180 rfl rfl (Or.inr ⟨by kernel_rfl, rfl⟩) HS_ ?_
      simp only [Act.put, aS, aC, aZ]
      refine tH 9 181 rfl rfl (Or.inr ⟨by kernel_rfl, rfl⟩) HS_ ?_
      refine tH 10 182 rfl rfl (Or.inr ⟨by kernel_rfl, rfl⟩) HS_ ?_
      refine tH 11 183 rfl rfl (Or.inr ⟨by kernel_rfl, rfl⟩) HS_ ?_
      simp only [Act.put, aS, aC, aZ]
      refine tH 12 184 rfl rfl (Or.inr ⟨by kernel_rfl, rfl⟩) HS_ ?_
      refine tH 13 185 rfl rfl (Or.inr ⟨by kernel_rfl, rfl⟩) HS_ ?_
      refine tH 14 186 rfl rfl (Or.inr ⟨by kernel_rfl, rfl⟩) HS_ ?_
      simp only [Act.put, aS, aC, aZ]
      refine tH 15 187 rfl rfl (Or.inr ⟨by kernel_rfl, rfl⟩) HS_ ?_
      refine tH 16 188 rfl rfl (Or.inr ⟨by kernel_rfl, rfl⟩) HS_ ?_
      refine tH 17 189 rfl rfl (Or.inr ⟨by kernel_rfl, rfl⟩) HS_ ?_
      simp only [Act.put, aS, aC, aZ]
      refine tH 18 190 rfl rfl (Or.inr ⟨by kernel_rfl, rfl⟩) HS_ ?_
      refine tH 19 191 rfl rfl (gRun rfl (.bool false) fun _ h => run_pickZ (.tmp 174) (.tmp 190) (.const (.bool false)) rfl false (.bool false) rfl rfl) HS_ ?_
      simp only [Act.put, aS, aC, aZ]
      refine wpAnyH_done (by kernel_rfl) ?_ _
      go_upto_region 13 with fail
      refine wp_region_lit ?_
      refine wl rfl (.int .i64 (k : Nat)) _ (run_mvZ (.tmp 14) rfl (.int .i64 (k : Nat)) rfl) ?_
      refine wl rfl (.int .i64 ((k + 1 : Nat) : Int)) _ (run_addZ (.tmp 106) (.const (.int .i64 1)) rfl (k : Nat) 1 _ rfl rfl (by omega) (by omega) (by omega)) ?_
      refine wl rfl (.int .i64 ((k + 1 : Nat) : Int)) _ (run_asZ (.tmp 107) rfl (.int .i64 ((k + 1 : Nat) : Int)) rfl) ?_
      simp only [Act.put, aS, aC, aZ]
      refine wpList_nil ?_
      go_wp2_with fail
      exact ⟨⟨k + 1, rfl, by omega, by omega, _, _, _, _, _, _, HAX.out.le (by omega)⟩, by simp [intOf]; omega⟩
   ·go_upto_region 14 with fail
    refine wp_region_lit ?_
    refine wl rfl (.int .i64 (k : Nat)) _ (run_mvZ (.tmp 14) rfl (.int .i64 (k : Nat)) rfl) ?_
    refine wl rfl vb _ (run_mvZ (.tmp 1) rfl vb rfl) ?_
    refine wl rfl (.int .i64 (B.length : Nat)) _ (run_lenR HM.out.2.2.2.1 (.tmp 109) rfl rfl) ?_
    simp only [Act.put, aS, aC, aZ]
    refine wl rfl (.bool false) _ (run_lssZ (.tmp 108) (.tmp 110) rfl (k : Nat) (B.length : Nat) rfl rfl false (decide_eq_false (by omega))) ?_
    simp only [Act.put, aS, aC, aZ]
    refine wpList_nil ?_
    go_upto_region 20 with fail
    refine wp_region_lit ?_
    refine wl rfl (ptr gv) _ (run_mvZ (.tmp 10) rfl (ptr gv) rfl) ?_
    refine wl rfl va _ (run_mvZ (.tmp 0) rfl va rfl) ?_
    refine wl rfl (.int .i64 (k : Nat)) _ (run_mvZ (.tmp 14) rfl (.int .i64 (k : Nat)) rfl) ?_
    simp only [Act.put, aS, aC, aZ]
    refine wl rfl (.pointer (some ⟨b1, j2, none⟩)) _ (run_idx (.tmp 134) (.tmp 135) rfl _ _ _ rfl rfl HXA.out.1) ?_
    refine wl rfl u3 _ (run_load1 o38 (.tmp 136) rfl b1 (j2) rfl u3 (HXA.out.2.1 _ HA0.out.bel).1) ?_
    simp only [Act.put, aS, aC, aZ]
    refine wpList_callW eN12 [.tmp 133, .const (.string { data := #[97] }), .tmp 137] _ rfl rfl [(ptr gv), (str [97]), u3] rfl ?_
    refine (vapp_s HA0.out.fv (by have := HA0.out.k.1; omega) [97] (A.getD k []) u3 (by decide) (by decide) (HXA.out.2.1 _ HA0.out.bel).2 (HXA.out.2.2.imp (fun h => h) fun h g e9 e8 => by have := h g e9; have := HA0.out.hi.1; omega)).mono ?_
    rintro e X60 ⟨c61, m62, er1_, her_, rfl, s_, v_, o_, hd_⟩
    obtain ⟨pa, pb, pc_, hpl_, hpx_, _⟩ := plA_form 0 ov (A.getD k []) er1_
    rw [hpl_]
    refine ⟨_, rfl, ?_⟩
    have HEer1_ : Hid ((er1_ = 0 → pa = ((0 : Nat) : Int) ∧ pb = (wide ov : Nat) ∧ pc_ = (nb (A.getD k []).length : Nat)) ∧ plA 0 ov (A.getD k []) er1_ = plC pa pb pc_ false ∧ er1_ = mayE [97] (A.getD k []) (roomP 90 (wide ov) false)) := ⟨hpx_, hpl_, her_⟩
    clear hpl_ hpx_ her_
    obtain ⟨a_, s3_⟩ := HA0.out.turnV s_ v_ o_
    have HA63 : Hid (A3 w X60 c61 e0 gp gq gv gw gz m62 n0 (osA ov [97] (A.getD k []) er1_) ow ov false (96 * k + 16)) := a_
    clear a_ s3_ s_ v_ o_ hd_ HA0
    simp only [Act.put, aS, aC, aZ]
    refine wl rfl (.tuple #[(.agg (plC pa pb pc_ false).toArray), (.int .i64 er1_)]) _ (run_mvZ (.tmp 138) rfl (.tuple #[(.agg (plC pa pb pc_ false).toArray), (.int .i64 er1_)]) rfl) ?_
    refine wl rfl (.agg (plC pa pb pc_ false).toArray) _ (run_extZ (.tmp 132) 0 rfl #[(.agg (plC pa pb pc_ false).toArray), (.int .i64 er1_)] rfl (.agg (plC pa pb pc_ false).toArray) rfl) ?_
    refine wl rfl (.int .i64 er1_) _ (run_extZ (.tmp 132) 1 rfl #[(.agg (plC pa pb pc_ false).toArray), (.int .i64 er1_)] rfl (.int .i64 er1_) rfl) ?_
    simp only [Act.put, aS, aC, aZ]
    refine wl rfl (ptr X60.heap.size) _ (run_allocA (plC 0 0 0 false) zero40 rfl) ?_
    have hb_ := below_alloc X60 (.cells (plC 0 0 0 false).toArray 40)
    have r_ := Row.new X60 40 (plC 0 0 0 false)
    obtain ⟨X64, hW_⟩ : ∃ U_ : World, U_ = X60.alloc (.cells (plC 0 0 0 false).toArray 40) := ⟨_, rfl⟩
    obtain ⟨q20, hq_⟩ : ∃ q, q = X60.heap.size := ⟨_, rfl⟩
    rw [← hW_] at hb_
    rw [← hW_, ← hq_] at r_
    rw [← hW_, ← hq_]
    have HQ : Hid (Row X64 q20 40 (plC 0 0 0 false) ∧ Below X60.heap.size X60 X64 ∧ X60.heap.size ≤ q20) := ⟨r_, hb_, Nat.le_of_eq hq_.symm⟩
    clear r_ hb_ hW_ hq_
    simp only [Act.put, aS, aC, aZ]
    refine wlS rfl rfl _ (run_storeA ag40 (.tmp 20) (.tmp 139) rfl q20 40 rfl (plC pa pb pc_ false) _ rfl rfl HQ.out.1 rfl (plC_one _ _ _ _)) ?_
    have h1_ := (Ch.setRow (S := (· = q20)) (Ch.refl _ X64) (Or.inl rfl) (plC pa pb pc_ false).toArray)
    have r_ := HQ.out.1.setRow (plC pa pb pc_ false)
    obtain ⟨X65, hW_⟩ : ∃ U_ : World, U_ = X64.setRow q20 (plC pa pb pc_ false).toArray := ⟨_, rfl⟩
    rw [← hW_] at h1_ r_ ⊢
    have hb_ := HQ.out.2.1.trans (h1_.below HQ.out.2.1.size fun k hk e => by have := HQ.out.2.2; omega)
    have hq9_ := HA63.out.out HQ.out.2.2 r_.lt
    have HRW : Hid ((Row X65 q20 40 (plC pa pb pc_ false) ∧ Out3 gv gw gz c61 e0 X65 q20)) := ⟨r_, hq9_⟩
    have HA66 : Hid (A3 w X65 c61 e0 gp gq gv gw gz m62 n0 (osA ov [97] (A.getD k []) er1_) ow ov false (96 * k + 16)) := HA63.out.below hb_
    clear hW_ h1_ r_ hb_ HQ hq9_ HA63
    refine wl rfl (.int .i64 er1_) _ (run_asZ (.tmp 140) rfl (.int .i64 er1_) rfl) ?_
    simp only [Act.put, aS, aC, aZ]
    refine wpList_nil ?_
    go_upto_region 21 with fail
    refine wp_region_lit ?_
    refine wl rfl (ptr gz) _ (run_mvZ (.tmp 12) rfl (ptr gz) rfl) ?_
    refine wl rfl va _ (run_mvZ (.tmp 0) rfl va rfl) ?_
    refine wl rfl (.int .i64 (k : Nat)) _ (run_mvZ (.tmp 14) rfl (.int .i64 (k : Nat)) rfl) ?_
    simp only [Act.put, aS, aC, aZ]
    refine wl rfl (.pointer (some ⟨b1, j2, none⟩)) _ (run_idx (.tmp 143) (.tmp 144) rfl _ _ _ rfl rfl HXA.out.1) ?_
    refine wl rfl u3 _ (run_load1 o38 (.tmp 145) rfl b1 (j2) rfl u3 (HXA.out.2.1 _ HA66.out.bel).1) ?_
    simp only [Act.put, aS, aC, aZ]
    refine wpList_callW eN12 [.tmp 142, .const (.string { data := #[97] }), .tmp 146] _ rfl rfl [(ptr gz), (str [97]), u3] rfl ?_
    refine (vapp_s HA66.out.fz (by have := HA66.out.k.2; omega) [97] (A.getD k []) u3 (by decide) (by decide) (HXA.out.2.1 _ HA66.out.bel).2 (HXA.out.2.2.imp (fun h => h) fun h g e9 e8 => by have := h g e9; have := HA66.out.hi.2.2; omega)).mono ?_
    rintro e X67 ⟨c68, m69, er2_, her_, rfl, s_, v_, o_, hd_⟩
    obtain rfl : er1_ = er2_ := HEer1_.out.2.2.trans her_.symm
    rw [HEer1_.out.2.1]
    refine ⟨_, rfl, ?_⟩
    clear her_
    obtain ⟨a_, s3_⟩ := HA66.out.turnZ s_ v_ o_
    have HA70 : Hid (A3 w X67 c61 c68 gp gq gv gw gz m62 m69 (osA ov [97] (A.getD k []) er1_) ow (osA ov [97] (A.getD k []) er1_) false (96 * k + 16 + 16)) := a_
    replace HRW : Hid ((Row X67 q20 40 (plC pa pb pc_ false) ∧ Out3 gv gw gz c61 c68 X67 q20)) := s3_.row HRW.out.2 HRW.out.1
    clear a_ s3_ s_ v_ o_ hd_ HA66
    simp only [Act.put, aS, aC, aZ]
    refine wl rfl (.tuple #[(.agg (plC pa pb pc_ false).toArray), (.int .i64 er1_)]) _ (run_mvZ (.tmp 147) rfl (.tuple #[(.agg (plC pa pb pc_ false).toArray), (.int .i64 er1_)]) rfl) ?_
    refine wl rfl (.agg (plC pa pb pc_ false).toArray) _ (run_extZ (.tmp 141) 0 rfl #[(.agg (plC pa pb pc_ false).toArray), (.int .i64 er1_)] rfl (.agg (plC pa pb pc_ false).toArray) rfl) ?_
    refine wl rfl (.int .i64 er1_) _ (run_extZ (.tmp 141) 1 rfl #[(.agg (plC pa pb pc_ false).toArray), (.int .i64 er1_)] rfl (.int .i64 er1_) rfl) ?_
    simp only [Act.put, aS, aC, aZ]
    refine wl rfl (ptr X67.heap.size) _ (run_allocA (plC 0 0 0 false) zero40 rfl) ?_
    have hb_ := below_alloc X67 (.cells (plC 0 0 0 false).toArray 40)
    have r_ := Row.new X67 40 (plC 0 0 0 false)
    obtain ⟨X71, hW_⟩ : ∃ U_ : World, U_ = X67.alloc (.cells (plC 0 0 0 false).toArray 40) := ⟨_, rfl⟩
    obtain ⟨q22, hq_⟩ : ∃ q, q = X67.heap.size := ⟨_, rfl⟩
    rw [← hW_] at hb_
    rw [← hW_, ← hq_] at r_
    rw [← hW_, ← hq_]
    have HQ : Hid (Row X71 q22 40 (plC 0 0 0 false) ∧ Below X67.heap.size X67 X71 ∧ X67.heap.size ≤ q22) := ⟨r_, hb_, Nat.le_of_eq hq_.symm⟩
    clear r_ hb_ hW_ hq_
    simp only [Act.put, aS, aC, aZ]
    refine wlS rfl rfl _ (run_storeA ag40 (.tmp 22) (.tmp 148) rfl q22 40 rfl (plC pa pb pc_ false) _ rfl rfl HQ.out.1 rfl (plC_one _ _ _ _)) ?_
    have h1_ := (Ch.setRow (S := (· = q22)) (Ch.refl _ X71) (Or.inl rfl) (plC pa pb pc_ false).toArray)
    have r_ := HQ.out.1.setRow (plC pa pb pc_ false)
    obtain ⟨X72, hW_⟩ : ∃ U_ : World, U_ = X71.setRow q22 (plC pa pb pc_ false).toArray := ⟨_, rfl⟩
    rw [← hW_] at h1_ r_ ⊢
    have hb_ := HQ.out.2.1.trans (h1_.below HQ.out.2.1.size fun k hk e => by have := HQ.out.2.2; omega)
    replace HRW : Hid ((Row X72 q20 40 (plC pa pb pc_ false) ∧ Out3 gv gw gz c61 c68 X72 q20)) := ⟨HRW.out.1.later hb_ HRW.out.1.lt, ⟨Nat.lt_of_lt_of_le HRW.out.2.1 hb_.size, HRW.out.2.2⟩⟩
    have hq9_ := HA70.out.out HQ.out.2.2 r_.lt
    replace HRW : Hid ((Row X72 q20 40 (plC pa pb pc_ false) ∧ Out3 gv gw gz c61 c68 X72 q20) ∧ (Row X72 q22 40 (plC pa pb pc_ false) ∧ Out3 gv gw gz c61 c68 X72 q22)) := ⟨HRW.out, ⟨r_, hq9_⟩⟩
    have HA73 : Hid (A3 w X72 c61 c68 gp gq gv gw gz m62 m69 (osA ov [97] (A.getD k []) er1_) ow (osA ov [97] (A.getD k []) er1_) false (96 * k + 16 + 16)) := HA70.out.below hb_
    clear hW_ h1_ r_ hb_ HQ hq9_ HA70
    refine wl rfl (.int .i64 er1_) _ (run_asZ (.tmp 149) rfl (.int .i64 er1_) rfl) ?_
    simp only [Act.put, aS, aC, aZ]
    refine wpList_nil ?_
    obtain ⟨bf, hbf⟩ : ∃ b, b = false := ⟨_, rfl⟩
    have HBF : Hid (bf = false) := hbf
    clear hbf
    go_upto_region 22 with fail
    refine wp_region_lit ?_
    refine wl rfl (.agg ((plC pa pb pc_ false)).toArray) _ (run_loadA ag40 (.tmp 20) rfl q20 (0) rfl ((plC pa pb pc_ false)) rfl (rows_one HRW.out.1.1)) ?_
    refine wl rfl (.agg ((plC pa pb pc_ false)).toArray) _ (run_loadA ag40 (.tmp 22) rfl q22 (0) rfl ((plC pa pb pc_ false)) rfl (rows_one HRW.out.2.1)) ?_
    refine wl rfl (.bool bf) _ ((by rw [HBF.out]; exact run_nePl (.tmp 150) (.tmp 151) rfl pa pb pc_ pa pb pc_ false false rfl rfl false (by simp))) ?_
    simp only [Act.put, aS, aC, aZ]
    refine wl rfl (.bool bf) _ (run_mvZ (.tmp 152) rfl (.bool bf) rfl) ?_
    refine wl (by rw [HBF.out]; kernel_rfl) (.int .i64 er1_) _ (run_mvZ (.tmp 21) rfl (.int .i64 er1_) rfl) ?_
    refine wl (by rw [HBF.out]; kernel_rfl) (.int .i64 er1_) _ (run_mvZ (.tmp 23) rfl (.int .i64 er1_) rfl) ?_
    simp only [Act.put, aS, aC, aZ]
    refine wl (by rw [HBF.out]; kernel_rfl) (.bool bf) _ ((by rw [HBF.out]; exact run_neZ (.tmp 154) (.tmp 155) rfl er1_ er1_ rfl rfl false (by simp))) ?_
    refine wl rfl (.bool bf) _ (run_pickZ (.tmp 153) (.const (.bool true)) (.tmp 156) rfl bf (.bool bf) rfl (by rw [HBF.out]; rfl)) ?_
    refine wl rfl (.bool bf) _ (run_mvZ (.tmp 157) rfl (.bool bf) rfl) ?_
    simp only [Act.put, aS, aC, aZ]
    refine wl (by rw [HBF.out]; kernel_rfl) (ptr gv) _ (run_mvZ (.tmp 10) rfl (ptr gv) rfl) ?_
    simp only [Act.put, aS, aC, aZ]
    refine wpList_callW eN23 [.tmp 159] _ (by rw [HBF.out]; kernel_rfl) rfl [(ptr gv)] rfl ?_
    refine (vroom_s HA73.out.fv (by have := HA73.out.k.1; omega)).mono ?_
    rintro e X74 ⟨rfl, s_, v_⟩
    refine ⟨_, rfl, ?_⟩
    obtain ⟨a_, s3_⟩ := HA73.out.turnV s_ v_ (Or.inl rfl)
    replace HRW : Hid ((Row X74 q20 40 (plC pa pb pc_ false) ∧ Out3 gv gw gz c61 c68 X74 q20) ∧ (Row X74 q22 40 (plC pa pb pc_ false) ∧ Out3 gv gw gz c61 c68 X74 q22)) := ⟨s3_.row HRW.out.1.2 HRW.out.1.1, s3_.row HRW.out.2.2 HRW.out.2.1⟩
    have HA75 : Hid (A3 w X74 c61 c68 gp gq gv gw gz m62 m69 (osA ov [97] (A.getD k []) er1_) ow (osA ov [97] (A.getD k []) er1_) false (96 * k + 16 + 16 + 16)) := a_
    clear a_ s3_ s_ v_ HA73
    simp only [Act.put, aS, aC, aZ]
    refine wl (by rw [HBF.out]; kernel_rfl) (ptr gz) _ (run_mvZ (.tmp 12) rfl (ptr gz) rfl) ?_
    simp only [Act.put, aS, aC, aZ]
    refine wpList_callW eN23 [.tmp 161] _ (by rw [HBF.out]; kernel_rfl) rfl [(ptr gz)] rfl ?_
    refine (vroom_s HA75.out.fz (by have := HA75.out.k.2; omega)).mono ?_
    rintro e X76 ⟨rfl, s_, v_⟩
    refine ⟨_, rfl, ?_⟩
    obtain ⟨a_, s3_⟩ := HA75.out.turnZ s_ v_ (Or.inl rfl)
    replace HRW : Hid ((Row X76 q20 40 (plC pa pb pc_ false) ∧ Out3 gv gw gz c61 c68 X76 q20) ∧ (Row X76 q22 40 (plC pa pb pc_ false) ∧ Out3 gv gw gz c61 c68 X76 q22)) := ⟨s3_.row HRW.out.1.2 HRW.out.1.1, s3_.row HRW.out.2.2 HRW.out.2.1⟩
    have HA77 : Hid (A3 w X76 c61 c68 gp gq gv gw gz m62 m69 (osA ov [97] (A.getD k []) er1_) ow (osA ov [97] (A.getD k []) er1_) false (96 * k + 16 + 16 + 16 + 16)) := a_
    clear a_ s3_ s_ v_ HA75
    simp only [Act.put, aS, aC, aZ]
    refine wl (by rw [HBF.out]; kernel_rfl) (.bool bf) _ ((by rw [HBF.out]; exact run_neZ (.tmp 160) (.tmp 162) rfl (roomP 90 (wide (osA ov [97] (A.getD k []) er1_)) false : Nat) (roomP 90 (wide (osA ov [97] (A.getD k []) er1_)) false : Nat) rfl rfl false (by simp))) ?_
    refine wl rfl (.bool bf) _ (run_pickZ (.tmp 158) (.const (.bool true)) (.tmp 163) rfl bf (.bool bf) rfl (by rw [HBF.out]; rfl)) ?_
    simp only [Act.put, aS, aC, aZ]
    refine wpList_nil ?_
    obtain rfl : bf = false := HBF.out
    have HPB : Hid ((-9223372036854775808 ≤ pb ∧ pb ≤ 9223372036854775807) ∧ (-9223372036854775808 ≤ pc_ ∧ pc_ ≤ 9223372036854775807)) := plA_i64 HEer1_.out.2.1 (by have := HA77.out.fv.len; have := wide_osA ov [97] (A.getD k []) er1_; omega)
    by_cases hz : er1_ = 0
    ·go_upto_region 24 with fail
     refine wp_region_lit ?_
     refine wl rfl (ptr gv) _ (run_mvZ (.tmp 10) rfl (ptr gv) rfl) ?_
     refine wl rfl (.agg ((plC pa pb pc_ false)).toArray) _ (run_loadA ag40 (.tmp 20) rfl q20 (0) rfl ((plC pa pb pc_ false)) rfl (rows_one HRW.out.1.1)) ?_
     simp only [Act.put, aS, aC, aZ]
     refine wpList_callW eN17 [.tmp 166, .tmp 167] _ rfl rfl [(ptr gv), (.agg (plC pa pb pc_ false).toArray)] rfl ?_
     refine (vread_s HA77.out.fv (by have := HA77.out.k.1; omega) pa pb pc_ false HPB.out.1 HPB.out.2).mono ?_
     rintro e X78 ⟨hb_, _, hr_⟩
     obtain ⟨vy, rfl, hn_⟩ : ∃ vy, e = .returned (.tuple #[str [97], vy, .int .i64 0]) ∧ SliceIn X78 vy (A.getD k []) := (by
      obtain ⟨e1, e2, e3⟩ := HEer1_.out.1 hz
      have hos : osA ov [97] (A.getD k []) er1_ = ov ++ [([97], A.getD k [])] := (by unfold osA; rw [if_pos hz])
      rw [hos] at hr_
      rcases hr_ with ⟨j, vy, hj, _, h2, h3, h4, h5, _⟩ | ⟨_, hno⟩
      ·have hj2 : j = ov.length := (by
        refine offO_inj (ov ++ [([97], A.getD k [])]) j ov.length hj (by simp) ?_
        rw [offO_snoc ov _ ov.length (Nat.le_refl _), offO_end]
        rw [e2] at h2
        omega)
       rw [getD_last ov _ _ j hj2] at h4 h5
       exact ⟨vy, h4, h5⟩
      ·exact absurd ⟨e1, by rw [offO_snoc ov _ ov.length (Nat.le_refl _), offO_end]; exact e2, by rw [getD_last ov _ _ _ rfl]; exact e3⟩ (hno ov.length (by simp)))
     refine ⟨_, rfl, ?_⟩
     have HY : Hid (SliceIn X78 vy (A.getD k [])) := hn_
     clear hn_ hr_
     replace HRW : Hid ((Row X78 q20 40 (plC pa pb pc_ false) ∧ Out3 gv gw gz c61 c68 X78 q20) ∧ (Row X78 q22 40 (plC pa pb pc_ false) ∧ Out3 gv gw gz c61 c68 X78 q22)) := ⟨⟨HRW.out.1.1.later hb_ HRW.out.1.1.lt, ⟨Nat.lt_of_lt_of_le HRW.out.1.2.1 hb_.size, HRW.out.1.2.2⟩⟩, ⟨HRW.out.2.1.later hb_ HRW.out.2.1.lt, ⟨Nat.lt_of_lt_of_le HRW.out.2.2.1 hb_.size, HRW.out.2.2.2⟩⟩⟩
     have HA79 : Hid (A3 w X78 c61 c68 gp gq gv gw gz m62 m69 (osA ov [97] (A.getD k []) er1_) ow (osA ov [97] (A.getD k []) er1_) false (96 * k + 16 + 16 + 16 + 16)) := HA77.out.below hb_
     clear HA77 hb_
     simp only [Act.put, aS, aC, aZ]
     refine wl rfl (.tuple #[(str [97]), vy, (.int .i64 0)]) _ (run_mvZ (.tmp 168) rfl (.tuple #[(str [97]), vy, (.int .i64 0)]) rfl) ?_
     refine wl rfl (str [97]) _ (run_extZ (.tmp 165) 0 rfl #[(str [97]), vy, (.int .i64 0)] rfl (str [97]) rfl) ?_
     refine wl rfl vy _ (run_extZ (.tmp 165) 1 rfl #[(str [97]), vy, (.int .i64 0)] rfl vy rfl) ?_
     simp only [Act.put, aS, aC, aZ]
     refine wl rfl (.int .i64 0) _ (run_extZ (.tmp 165) 2 rfl #[(str [97]), vy, (.int .i64 0)] rfl (.int .i64 0) rfl) ?_
     refine wl rfl (str [97]) _ (run_asZ (.tmp 169) rfl (str [97]) rfl) ?_
     refine wl rfl vy _ (run_asZ (.tmp 170) rfl vy rfl) ?_
     simp only [Act.put, aS, aC, aZ]
     refine wl rfl (.int .i64 0) _ (run_asZ (.tmp 171) rfl (.int .i64 0) rfl) ?_
     simp only [Act.put, aS, aC, aZ]
     refine wpList_nil ?_
     go_upto_region 25 with fail
     refine wp_region_held (S := fun X => SliceIn X vy (A.getD k []) ∧ Below w.heap.size w X) (by kernel_rfl) ?_
     show wpAnyH _ _ _ _ _ 20 (Array.replicate 20 false) _ _
     obtain ⟨X, hX⟩ : ∃ X : World, X = { X78 with drawn := X78.drawn + 1 } := ⟨_, rfl⟩
     rw [← hX]
     have HS_ : SliceIn X vy (A.getD k []) ∧ Below w.heap.size w X := (by rw [hX]; exact ⟨HY.out.later ⟨rfl, rfl, rfl, Nat.le_refl _, fun _ _ => rfl⟩, HA79.out.bel.trans ⟨rfl, rfl, rfl, Nat.le_refl _, fun _ _ => rfl⟩⟩)
     have HAX : Hid (A3 w X c61 c68 gp gq gv gw gz m62 m69 (osA ov [97] (A.getD k []) er1_) ow (osA ov [97] (A.getD k []) er1_) false (96 * k + 16 + 16 + 16 + 16)) := (by rw [hX]; exact HA79.out.below ⟨rfl, rfl, rfl, Nat.le_refl _, fun _ _ => rfl⟩)
     clear hX
     refine tH 0 172 rfl rfl (gRun rfl (.int .i64 er1_) fun _ h => run_mvZ (.tmp 21) rfl (.int .i64 er1_) rfl) HS_ ?_
     refine tH 1 173 rfl rfl (gRun rfl (.bool true) fun _ h => run_eqZ (.tmp 172) (.const (.int .i64 0)) rfl er1_ 0 rfl rfl true (decide_eq_true hz)) HS_ ?_
     refine tH 2 174 rfl rfl (gRun rfl (.bool true) fun _ h => run_mvZ (.tmp 173) rfl (.bool true) rfl) HS_ ?_
     simp only [Act.put, aS, aC, aZ]
     refine tH 3 175 rfl rfl (gRun (by kernel_rfl) (.int .i64 0) fun _ h => run_mvZ (.tmp 26) rfl (.int .i64 0) rfl) HS_ ?_
     refine tH 4 176 rfl rfl (gRun (by kernel_rfl) (.bool false) fun _ h => run_neZ (.tmp 175) (.const (.int .i64 0)) rfl (0) (0) rfl rfl false rfl) HS_ ?_
     refine tH 5 177 rfl rfl (gRun (by kernel_rfl) (.bool false) fun _ h => run_mvZ (.tmp 176) rfl (.bool false) rfl) HS_ ?_
     simp only [Act.put, aS, aC, aZ]
     refine tH 6 178 rfl rfl (gRun (by kernel_rfl) (str [97]) fun _ h => run_mvZ (.tmp 24) rfl (str [97]) rfl) HS_ ?_
     refine tH 7 179 rfl rfl (gRun (by kernel_rfl) (.bool false) fun _ h => run_neS (.tmp 178) (.const (.string { data := #[97] })) rfl _ rfl rfl) HS_ ?_
     refine tH 8 180 rfl rfl (gRun (by kernel_rfl) (.bool false) fun _ h => run_pickZ (.tmp 177) (.const (.bool true)) (.tmp 179) rfl false (.bool false) rfl rfl) HS_ ?_
     simp only [Act.put, aS, aC, aZ]
     refine tH 9 181 rfl rfl (gRun (by kernel_rfl) (.bool false) fun _ h => run_mvZ (.tmp 180) rfl (.bool false) rfl) HS_ ?_
     refine tH 10 182 rfl rfl (gRun (by kernel_rfl) vy fun _ h => run_mvZ (.tmp 25) rfl vy rfl) HS_ ?_
     refine tH 11 183 rfl rfl (gRun (by kernel_rfl) (str (A.getD k [])) fun _ h => run_bstr (.tmp 182) rfl vy (A.getD k []) rfl h.1) HS_ ?_
     simp only [Act.put, aS, aC, aZ]
     refine tH 12 184 rfl rfl (gRun (by kernel_rfl) va fun _ h => run_mvZ (.tmp 0) rfl va rfl) HS_ ?_
     refine tH 13 185 rfl rfl (gRun (by kernel_rfl) (.int .i64 (k : Nat)) fun _ h => run_mvZ (.tmp 14) rfl (.int .i64 (k : Nat)) rfl) HS_ ?_
     refine tH 14 186 rfl rfl (gRun (by kernel_rfl) (.pointer (some ⟨b1, j2, none⟩)) fun _ h => run_idx (.tmp 184) (.tmp 185) rfl _ _ _ rfl rfl HXA.out.1) HS_ ?_
     simp only [Act.put, aS, aC, aZ]
     refine tH 15 187 rfl rfl (gRun (by kernel_rfl) u3 fun _ h => run_load1 o38 (.tmp 186) rfl b1 (j2) rfl u3 (HXA.out.2.1 _ h.2).1) HS_ ?_
     refine tH 16 188 rfl rfl (gRun (by kernel_rfl) (str (A.getD k [])) fun _ h => run_bstr (.tmp 187) rfl u3 (A.getD k []) rfl (HXA.out.2.1 _ h.2).2) HS_ ?_
     refine tH 17 189 rfl rfl (gRun (by kernel_rfl) (.bool false) fun _ h => run_neS (.tmp 183) (.tmp 188) rfl _ rfl rfl) HS_ ?_
     simp only [Act.put, aS, aC, aZ]
     refine tH 18 190 rfl rfl (gRun (by kernel_rfl) (.bool false) fun _ h => run_pickZ (.tmp 181) (.const (.bool true)) (.tmp 189) rfl false (.bool false) rfl rfl) HS_ ?_
     refine tH 19 191 rfl rfl (gRun rfl (.bool false) fun _ h => run_pickZ (.tmp 174) (.tmp 190) (.const (.bool false)) rfl true (.bool false) rfl rfl) HS_ ?_
     simp only [Act.put, aS, aC, aZ]
     refine wpAnyH_done (by kernel_rfl) ?_ _
     go_upto_region 13 with fail
     refine wp_region_lit ?_
     refine wl rfl (.int .i64 (k : Nat)) _ (run_mvZ (.tmp 14) rfl (.int .i64 (k : Nat)) rfl) ?_
     refine wl rfl (.int .i64 ((k + 1 : Nat) : Int)) _ (run_addZ (.tmp 106) (.const (.int .i64 1)) rfl (k : Nat) 1 _ rfl rfl (by omega) (by omega) (by omega)) ?_
     refine wl rfl (.int .i64 ((k + 1 : Nat) : Int)) _ (run_asZ (.tmp 107) rfl (.int .i64 ((k + 1 : Nat) : Int)) rfl) ?_
     simp only [Act.put, aS, aC, aZ]
     refine wpList_nil ?_
     go_wp2_with fail
     exact ⟨⟨k + 1, rfl, by omega, by omega, _, _, _, _, _, _, HAX.out.le (by omega)⟩, by simp [intOf]; omega⟩
    ·go_upto_region 24 with fail
     refine wp_region_lit ?_
     refine wl rfl (ptr gv) _ (run_mvZ (.tmp 10) rfl (ptr gv) rfl) ?_
     refine wl rfl (.agg ((plC pa pb pc_ false)).toArray) _ (run_loadA ag40 (.tmp 20) rfl q20 (0) rfl ((plC pa pb pc_ false)) rfl (rows_one HRW.out.1.1)) ?_
     simp only [Act.put, aS, aC, aZ]
     refine wpList_callW eN17 [.tmp 166, .tmp 167] _ rfl rfl [(ptr gv), (.agg (plC pa pb pc_ false).toArray)] rfl ?_
     refine (vread_s HA77.out.fv (by have := HA77.out.k.1; omega) pa pb pc_ false HPB.out.1 HPB.out.2).mono ?_
     rintro e X80 ⟨hb_, _, hr_⟩
     obtain ⟨vi, vy, er, rfl⟩ : ∃ (vi : List Nat) (vy : Value) (er : Int), e = .returned (.tuple #[str vi, vy, .int .i64 er]) := (by
      rcases hr_ with ⟨_, _, _, _, _, _, h4, _⟩ | ⟨h4, _⟩
      ·exact ⟨_, _, _, h4⟩
      ·exact ⟨_, _, _, h4⟩)
     refine ⟨_, rfl, ?_⟩
     clear hr_
     replace HRW : Hid ((Row X80 q20 40 (plC pa pb pc_ false) ∧ Out3 gv gw gz c61 c68 X80 q20) ∧ (Row X80 q22 40 (plC pa pb pc_ false) ∧ Out3 gv gw gz c61 c68 X80 q22)) := ⟨⟨HRW.out.1.1.later hb_ HRW.out.1.1.lt, ⟨Nat.lt_of_lt_of_le HRW.out.1.2.1 hb_.size, HRW.out.1.2.2⟩⟩, ⟨HRW.out.2.1.later hb_ HRW.out.2.1.lt, ⟨Nat.lt_of_lt_of_le HRW.out.2.2.1 hb_.size, HRW.out.2.2.2⟩⟩⟩
     have HA81 : Hid (A3 w X80 c61 c68 gp gq gv gw gz m62 m69 (osA ov [97] (A.getD k []) er1_) ow (osA ov [97] (A.getD k []) er1_) false (96 * k + 16 + 16 + 16 + 16)) := HA77.out.below hb_
     clear HA77 hb_
     simp only [Act.put, aS, aC, aZ]
     refine wl rfl (.tuple #[(str vi), vy, (.int .i64 er)]) _ (run_mvZ (.tmp 168) rfl (.tuple #[(str vi), vy, (.int .i64 er)]) rfl) ?_
     refine wl rfl (str vi) _ (run_extZ (.tmp 165) 0 rfl #[(str vi), vy, (.int .i64 er)] rfl (str vi) rfl) ?_
     refine wl rfl vy _ (run_extZ (.tmp 165) 1 rfl #[(str vi), vy, (.int .i64 er)] rfl vy rfl) ?_
     simp only [Act.put, aS, aC, aZ]
     refine wl rfl (.int .i64 er) _ (run_extZ (.tmp 165) 2 rfl #[(str vi), vy, (.int .i64 er)] rfl (.int .i64 er) rfl) ?_
     refine wl rfl (str vi) _ (run_asZ (.tmp 169) rfl (str vi) rfl) ?_
     refine wl rfl vy _ (run_asZ (.tmp 170) rfl vy rfl) ?_
     simp only [Act.put, aS, aC, aZ]
     refine wl rfl (.int .i64 er) _ (run_asZ (.tmp 171) rfl (.int .i64 er) rfl) ?_
     simp only [Act.put, aS, aC, aZ]
     refine wpList_nil ?_
     go_upto_region 25 with fail
     refine wp_region_held (S := fun X => Below w.heap.size w X) (by kernel_rfl) ?_
     show wpAnyH _ _ _ _ _ 20 (Array.replicate 20 false) _ _
     obtain ⟨X, hX⟩ : ∃ X : World, X = { X80 with drawn := X80.drawn + 1 } := ⟨_, rfl⟩
     rw [← hX]
     have HS_ : Below w.heap.size w X := (by rw [hX]; exact HA81.out.bel.trans ⟨rfl, rfl, rfl, Nat.le_refl _, fun _ _ => rfl⟩)
     have HAX : Hid (A3 w X c61 c68 gp gq gv gw gz m62 m69 (osA ov [97] (A.getD k []) er1_) ow (osA ov [97] (A.getD k []) er1_) false (96 * k + 16 + 16 + 16 + 16)) := (by rw [hX]; exact HA81.out.below ⟨rfl, rfl, rfl, Nat.le_refl _, fun _ _ => rfl⟩)
     clear hX
     refine tH 0 172 rfl rfl (gRun rfl (.int .i64 er1_) fun _ h => run_mvZ (.tmp 21) rfl (.int .i64 er1_) rfl) HS_ ?_
     refine tH 1 173 rfl rfl (gRun rfl (.bool false) fun _ h => run_eqZ (.tmp 172) (.const (.int .i64 0)) rfl er1_ 0 rfl rfl false (decide_eq_false hz)) HS_ ?_
     refine tH 2 174 rfl rfl (gRun rfl (.bool false) fun _ h => run_mvZ (.tmp 173) rfl (.bool false) rfl) HS_ ?_
     simp only [Act.put, aS, aC, aZ]
     refine tH 3 175 rfl rfl (Or.inr ⟨by kernel_rfl, rfl⟩) HS_ ?_
     refine tH 4 176 rfl rfl (Or.inr ⟨by kernel_rfl, rfl⟩) HS_ ?_
     refine tH 5 177 rfl rfl (Or.inr ⟨by kernel_rfl, rfl⟩) HS_ ?_
     simp only [Act.put, aS, aC, aZ]
     refine tH 6 178 rfl rfl (Or.inr ⟨by kernel_rfl, rfl⟩) HS_ ?_
     refine tH 7 179 rfl rfl (Or.inr ⟨by kernel_rfl, rfl⟩) HS_ ?_
     refine tH 8 180 rfl rfl (Or.inr ⟨by kernel_rfl, rfl⟩) HS_ ?_
     simp only [Act.put, aS, aC, aZ]
     refine tH 9 181 rfl rfl (Or.inr ⟨by kernel_rfl, rfl⟩) HS_ ?_
     refine tH 10 182 rfl rfl (Or.inr ⟨by kernel_rfl, rfl⟩) HS_ ?_
     refine tH 11 183 rfl rfl (Or.inr ⟨by kernel_rfl, rfl⟩) HS_ ?_
     simp only [Act.put, aS, aC, aZ]
     refine tH 12 184 rfl rfl (Or.inr ⟨by kernel_rfl, rfl⟩) HS_ ?_
     refine tH 13 185 rfl rfl (Or.inr ⟨by kernel_rfl, rfl⟩) HS_ ?_
     refine tH 14 186 rfl rfl (Or.inr ⟨by kernel_rfl, rfl⟩) HS_ ?_
     simp only [Act.put, aS, aC, aZ]
     refine tH 15 187 rfl rfl (Or.inr ⟨by kernel_rfl, rfl⟩) HS_ ?_
     refine tH 16 188 rfl rfl (Or.inr ⟨by kernel_rfl, rfl⟩) HS_ ?_
     refine tH 17 189 rfl rfl (Or.inr ⟨by kernel_rfl, rfl⟩) HS_ ?_
     simp only [Act.put, aS, aC, aZ]
     refine tH 18 190 rfl rfl (Or.inr ⟨by kernel_rfl, rfl⟩) HS_ ?_
     refine tH 19 191 rfl rfl (gRun rfl (.bool false) fun _ h => run_pickZ (.tmp 174) (.tmp 190) (.const (.bool false)) rfl false (.bool false) rfl rfl) HS_ ?_
     simp only [Act.put, aS, aC, aZ]
     refine wpAnyH_done (by kernel_rfl) ?_ _
     go_upto_region 13 with fail
     refine wp_region_lit ?_
     refine wl rfl (.int .i64 (k : Nat)) _ (run_mvZ (.tmp 14) rfl (.int .i64 (k : Nat)) rfl) ?_
     refine wl rfl (.int .i64 ((k + 1 : Nat) : Int)) _ (run_addZ (.tmp 106) (.const (.int .i64 1)) rfl (k : Nat) 1 _ rfl rfl (by omega) (by omega) (by omega)) ?_
     refine wl rfl (.int .i64 ((k + 1 : Nat) : Int)) _ (run_asZ (.tmp 107) rfl (.int .i64 ((k + 1 : Nat) : Int)) rfl) ?_
     simp only [Act.put, aS, aC, aZ]
     refine wpList_nil ?_
     go_wp2_with fail
     exact ⟨⟨k + 1, rfl, by omega, by omega, _, _, _, _, _, _, HAX.out.le (by omega)⟩, by simp [intOf]; omega⟩
  ·by_cases h2 : k < A.length
   ·go_upto_region 12 with fail
    refine wp_region_lit ?_
    refine wl rfl (.int .i64 (k : Nat)) _ (run_mvZ (.tmp 14) rfl (.int .i64 (k : Nat)) rfl) ?_
    refine wl rfl va _ (run_mvZ (.tmp 0) rfl va rfl) ?_
    refine wl rfl (.int .i64 (A.length : Nat)) _ (run_lenR HM.out.2.2.1 (.tmp 99) rfl rfl) ?_
    simp only [Act.put, aS, aC, aZ]
    refine wl rfl (.bool true) _ (run_lssZ (.tmp 98) (.tmp 100) rfl (k : Nat) (A.length : Nat) rfl rfl true (decide_eq_true (by omega))) ?_
    refine wl rfl (.bool true) _ (run_mvZ (.tmp 101) rfl (.bool true) rfl) ?_
    refine wl (by kernel_rfl) (.int .i64 (k : Nat)) _ (run_mvZ (.tmp 14) rfl (.int .i64 (k : Nat)) rfl) ?_
    simp only [Act.put, aS, aC, aZ]
    refine wl (by kernel_rfl) (.bool false) _ (run_lssZ (.tmp 103) (.const (.int .i64 8)) rfl (k : Nat) 8 rfl rfl false (decide_eq_false (by omega))) ?_
    refine wl rfl (.bool false) _ (run_pickZ (.tmp 102) (.tmp 104) (.const (.bool false)) rfl true (.bool false) rfl rfl) ?_
    simp only [Act.put, aS, aC, aZ]
    refine wpList_nil ?_
    go_upto_region 27 with fail
    refine wp_region_lit ?_
    refine wl rfl (ptr gw) _ (run_mvZ (.tmp 11) rfl (ptr gw) rfl) ?_
    simp only [Act.put, aS, aC, aZ]
    refine wpList_callW eN19 [.tmp 192] _ rfl rfl [(ptr gw)] rfl ?_
    refine (vseal_s HA0.out.fw (by have := HA0.out.k.1; omega)).mono ?_
    rintro e Z1 ⟨c9, m9, er, sd9, rfl, s_, v_, o_, her_⟩
    refine ⟨_, rfl, ?_⟩
    obtain ⟨a_, _⟩ := HA0.out.turnW s_ v_ o_
    have HA1 : Hid (A3 w Z1 c9 e0 gp gq gv gw gz m9 n0 ov ow ov sd9 (96 * k + 16)) := a_
    have HER : Hid (er = 0 ∨ er = 3) := (by rcases her_ with ⟨_, h, _⟩ | ⟨_, _, h, _⟩; exact Or.inr h; exact Or.inl h)
    clear a_ s_ v_ o_ her_ HA0
    simp only [Act.put, aS, aC, aZ]
    refine wl rfl (.int .i64 er) _ (run_asZ (.tmp 193) rfl (.int .i64 er) rfl) ?_
    simp only [Act.put, aS, aC, aZ]
    refine wpList_nil ?_
    go_upto_region 28 with fail
    refine wp_region_lit ?_
    refine wl rfl (ptr gv) _ (run_mvZ (.tmp 10) rfl (ptr gv) rfl) ?_
    simp only [Act.put, aS, aC, aZ]
    refine wpList_callW eN20 [.tmp 195] _ rfl rfl [(ptr gv)] rfl ?_
    refine (vroot_s HA1.out.fv (by have := HA1.out.k.1; omega)).mono ?_
    rintro e Z2 ⟨rfl, s_, v_⟩
    refine ⟨_, rfl, ?_⟩
    obtain ⟨a_, _⟩ := HA1.out.turnV s_ v_ (Or.inl rfl)
    have HB2 : Hid (Below w.heap.size w Z2) := a_.bel
    have HL2 : Hid (Loc Z2 Z2 []) := Loc.nil (Below.refl _ _)
    clear a_ s_ v_ HA1
    simp only [Act.put, aS, aC, aZ]
    refine wl rfl (.tuple #[(av (Zs 32)), (.bool false)]) _ (run_mvZ (.tmp 196) rfl (.tuple #[(av (Zs 32)), (.bool false)]) rfl) ?_
    refine wl rfl (av (Zs 32)) _ (run_extZ (.tmp 194) 0 rfl #[(av (Zs 32)), (.bool false)] rfl (av (Zs 32)) rfl) ?_
    refine wl rfl (.bool false) _ (run_extZ (.tmp 194) 1 rfl #[(av (Zs 32)), (.bool false)] rfl (.bool false) rfl) ?_
    simp only [Act.put, aS, aC, aZ]
    refine wl rfl (ptr Z2.heap.size) _ (run_allocA (bcells (Zs 32)) zero52 rfl) ?_
    have k_ := HL2.out.box 52 (bcells (Zs 32))
    obtain ⟨Z3, hW_⟩ : ∃ W, W = Z2.alloc (.cells (bcells (Zs 32)).toArray 52) := ⟨_, rfl⟩
    obtain ⟨q28, hq_⟩ : ∃ q, q = Z2.heap.size := ⟨_, rfl⟩
    rw [← hW_, ← hq_] at k_
    rw [← hW_, ← hq_]
    clear hq_
    have RZ3 : Hid (Loc Z2 Z3 [(q28, 52, bcells (Zs 32))]) := k_
    clear k_ hW_ HL2
    simp only [Act.put, aS, aC, aZ]
    refine wlS rfl rfl _ (run_storeL ag52 (.tmp 28) (.tmp 197) rfl RZ3.out 0 rfl (0) rfl (bcells (Zs 32)) rfl (bz 32) (by rw [bz]; decide) (bcells_one _)).1 ?_
    have k_ := RZ3.out.lay 0 rfl (0) (bcells (Zs 32))
    rw [splice_zs (n := 32) _ (Zs_length 32)] at k_ ⊢
    obtain ⟨Z4, hW_⟩ : ∃ W, W = Z3.setRow q28 (bcells (Zs 32)).toArray := ⟨_, rfl⟩
    rw [← hW_] at k_ ⊢
    have RZ4 : Hid (Loc Z2 Z4 [(q28, 52, bcells (Zs 32))]) := k_
    clear k_ hW_ RZ3
    refine wl rfl (.bool false) _ (run_asZ (.tmp 198) rfl (.bool false) rfl) ?_
    simp only [Act.put, aS, aC, aZ]
    refine wpList_nil ?_
    rcases HER.out with rfl | rfl
    ·go_upto_region 29 with fail
     refine wp_region_lit ?_
     refine wl rfl (.int .i64 0) _ (run_mvZ (.tmp 27) rfl (.int .i64 0) rfl) ?_
     refine wl rfl (.bool true) _ (run_eqZ (.tmp 199) (.const (.int .i64 0)) rfl (0) (0) rfl rfl true rfl) ?_
     refine wl rfl (.bool true) _ (run_mvZ (.tmp 200) rfl (.bool true) rfl) ?_
     simp only [Act.put, aS, aC, aZ]
     refine wpList_skip (by kernel_rfl) ?_
     simp only [Act.put, aS, aC, aZ]
     refine wpList_skip (by kernel_rfl) ?_
     simp only [Act.put, aS, aC, aZ]
     refine wl rfl (.bool true) _ (run_pickZ (.tmp 201) (.const (.bool true)) (.tmp 203) rfl true (.bool true) rfl rfl) ?_
     refine wl rfl (.bool true) _ (run_mvZ (.tmp 204) rfl (.bool true) rfl) ?_
     refine wl (by kernel_rfl) (.bool false) _ (run_mvZ (.tmp 29) rfl (.bool false) rfl) ?_
     simp only [Act.put, aS, aC, aZ]
     refine wl (by kernel_rfl) (.bool true) _ (run_not (.tmp 206) 4 rfl false rfl) ?_
     refine wl rfl (.bool true) _ (run_pickZ (.tmp 205) (.tmp 207) (.const (.bool false)) rfl true (.bool true) rfl rfl) ?_
     refine wl rfl (.bool true) _ (run_asZ (.tmp 208) rfl (.bool true) rfl) ?_
     simp only [Act.put, aS, aC, aZ]
     refine wpList_nil ?_
     go_wp2_with fail
     rw [HPQ.out]
     exact ⟨rfl, HB2.out.trans (RZ4.out.below.mono HB2.out.size)⟩
    ·go_upto_region 29 with fail
     refine wp_region_lit ?_
     refine wl rfl (.int .i64 3) _ (run_mvZ (.tmp 27) rfl (.int .i64 3) rfl) ?_
     refine wl rfl (.bool false) _ (run_eqZ (.tmp 199) (.const (.int .i64 0)) rfl (3) (0) rfl rfl false rfl) ?_
     refine wl rfl (.bool false) _ (run_mvZ (.tmp 200) rfl (.bool false) rfl) ?_
     simp only [Act.put, aS, aC, aZ]
     refine wl (by kernel_rfl) (.int .i64 3) _ (run_mvZ (.tmp 27) rfl (.int .i64 3) rfl) ?_
     refine wl (by kernel_rfl) (.bool true) _ (run_eqZ (.tmp 202) (.const (.int .i64 3)) rfl (3) (3) rfl rfl true rfl) ?_
     refine wl rfl (.bool true) _ (run_pickZ (.tmp 201) (.const (.bool true)) (.tmp 203) rfl false (.bool true) rfl rfl) ?_
     simp only [Act.put, aS, aC, aZ]
     refine wl rfl (.bool true) _ (run_mvZ (.tmp 204) rfl (.bool true) rfl) ?_
     refine wl (by kernel_rfl) (.bool false) _ (run_mvZ (.tmp 29) rfl (.bool false) rfl) ?_
     refine wl (by kernel_rfl) (.bool true) _ (run_not (.tmp 206) 4 rfl false rfl) ?_
     simp only [Act.put, aS, aC, aZ]
     refine wl rfl (.bool true) _ (run_pickZ (.tmp 205) (.tmp 207) (.const (.bool false)) rfl true (.bool true) rfl rfl) ?_
     refine wl rfl (.bool true) _ (run_asZ (.tmp 208) rfl (.bool true) rfl) ?_
     simp only [Act.put, aS, aC, aZ]
     refine wpList_nil ?_
     go_wp2_with fail
     rw [HPQ.out]
     exact ⟨rfl, HB2.out.trans (RZ4.out.below.mono HB2.out.size)⟩
   ·go_upto_region 12 with fail
    refine wp_region_lit ?_
    refine wl rfl (.int .i64 (k : Nat)) _ (run_mvZ (.tmp 14) rfl (.int .i64 (k : Nat)) rfl) ?_
    refine wl rfl va _ (run_mvZ (.tmp 0) rfl va rfl) ?_
    refine wl rfl (.int .i64 (A.length : Nat)) _ (run_lenR HM.out.2.2.1 (.tmp 99) rfl rfl) ?_
    simp only [Act.put, aS, aC, aZ]
    refine wl rfl (.bool false) _ (run_lssZ (.tmp 98) (.tmp 100) rfl (k : Nat) (A.length : Nat) rfl rfl false (decide_eq_false (by omega))) ?_
    refine wl rfl (.bool false) _ (run_mvZ (.tmp 101) rfl (.bool false) rfl) ?_
    simp only [Act.put, aS, aC, aZ]
    refine wpList_skip (by kernel_rfl) ?_
    simp only [Act.put, aS, aC, aZ]
    refine wpList_skip (by kernel_rfl) ?_
    simp only [Act.put, aS, aC, aZ]
    refine wl rfl (.bool false) _ (run_pickZ (.tmp 102) (.tmp 104) (.const (.bool false)) rfl false (.bool false) rfl rfl) ?_
    simp only [Act.put, aS, aC, aZ]
    refine wpList_nil ?_
    go_upto_region 27 with fail
    refine wp_region_lit ?_
    refine wl rfl (ptr gw) _ (run_mvZ (.tmp 11) rfl (ptr gw) rfl) ?_
    simp only [Act.put, aS, aC, aZ]
    refine wpList_callW eN19 [.tmp 192] _ rfl rfl [(ptr gw)] rfl ?_
    refine (vseal_s HA0.out.fw (by have := HA0.out.k.1; omega)).mono ?_
    rintro e Z1 ⟨c9, m9, er, sd9, rfl, s_, v_, o_, her_⟩
    refine ⟨_, rfl, ?_⟩
    obtain ⟨a_, _⟩ := HA0.out.turnW s_ v_ o_
    have HA1 : Hid (A3 w Z1 c9 e0 gp gq gv gw gz m9 n0 ov ow ov sd9 (96 * k + 16)) := a_
    have HER : Hid (er = 0 ∨ er = 3) := (by rcases her_ with ⟨_, h, _⟩ | ⟨_, _, h, _⟩; exact Or.inr h; exact Or.inl h)
    clear a_ s_ v_ o_ her_ HA0
    simp only [Act.put, aS, aC, aZ]
    refine wl rfl (.int .i64 er) _ (run_asZ (.tmp 193) rfl (.int .i64 er) rfl) ?_
    simp only [Act.put, aS, aC, aZ]
    refine wpList_nil ?_
    go_upto_region 28 with fail
    refine wp_region_lit ?_
    refine wl rfl (ptr gv) _ (run_mvZ (.tmp 10) rfl (ptr gv) rfl) ?_
    simp only [Act.put, aS, aC, aZ]
    refine wpList_callW eN20 [.tmp 195] _ rfl rfl [(ptr gv)] rfl ?_
    refine (vroot_s HA1.out.fv (by have := HA1.out.k.1; omega)).mono ?_
    rintro e Z2 ⟨rfl, s_, v_⟩
    refine ⟨_, rfl, ?_⟩
    obtain ⟨a_, _⟩ := HA1.out.turnV s_ v_ (Or.inl rfl)
    have HB2 : Hid (Below w.heap.size w Z2) := a_.bel
    have HL2 : Hid (Loc Z2 Z2 []) := Loc.nil (Below.refl _ _)
    clear a_ s_ v_ HA1
    simp only [Act.put, aS, aC, aZ]
    refine wl rfl (.tuple #[(av (Zs 32)), (.bool false)]) _ (run_mvZ (.tmp 196) rfl (.tuple #[(av (Zs 32)), (.bool false)]) rfl) ?_
    refine wl rfl (av (Zs 32)) _ (run_extZ (.tmp 194) 0 rfl #[(av (Zs 32)), (.bool false)] rfl (av (Zs 32)) rfl) ?_
    refine wl rfl (.bool false) _ (run_extZ (.tmp 194) 1 rfl #[(av (Zs 32)), (.bool false)] rfl (.bool false) rfl) ?_
    simp only [Act.put, aS, aC, aZ]
    refine wl rfl (ptr Z2.heap.size) _ (run_allocA (bcells (Zs 32)) zero52 rfl) ?_
    have k_ := HL2.out.box 52 (bcells (Zs 32))
    obtain ⟨Z3, hW_⟩ : ∃ W, W = Z2.alloc (.cells (bcells (Zs 32)).toArray 52) := ⟨_, rfl⟩
    obtain ⟨q28, hq_⟩ : ∃ q, q = Z2.heap.size := ⟨_, rfl⟩
    rw [← hW_, ← hq_] at k_
    rw [← hW_, ← hq_]
    clear hq_
    have RZ3 : Hid (Loc Z2 Z3 [(q28, 52, bcells (Zs 32))]) := k_
    clear k_ hW_ HL2
    simp only [Act.put, aS, aC, aZ]
    refine wlS rfl rfl _ (run_storeL ag52 (.tmp 28) (.tmp 197) rfl RZ3.out 0 rfl (0) rfl (bcells (Zs 32)) rfl (bz 32) (by rw [bz]; decide) (bcells_one _)).1 ?_
    have k_ := RZ3.out.lay 0 rfl (0) (bcells (Zs 32))
    rw [splice_zs (n := 32) _ (Zs_length 32)] at k_ ⊢
    obtain ⟨Z4, hW_⟩ : ∃ W, W = Z3.setRow q28 (bcells (Zs 32)).toArray := ⟨_, rfl⟩
    rw [← hW_] at k_ ⊢
    have RZ4 : Hid (Loc Z2 Z4 [(q28, 52, bcells (Zs 32))]) := k_
    clear k_ hW_ RZ3
    refine wl rfl (.bool false) _ (run_asZ (.tmp 198) rfl (.bool false) rfl) ?_
    simp only [Act.put, aS, aC, aZ]
    refine wpList_nil ?_
    rcases HER.out with rfl | rfl
    ·go_upto_region 29 with fail
     refine wp_region_lit ?_
     refine wl rfl (.int .i64 0) _ (run_mvZ (.tmp 27) rfl (.int .i64 0) rfl) ?_
     refine wl rfl (.bool true) _ (run_eqZ (.tmp 199) (.const (.int .i64 0)) rfl (0) (0) rfl rfl true rfl) ?_
     refine wl rfl (.bool true) _ (run_mvZ (.tmp 200) rfl (.bool true) rfl) ?_
     simp only [Act.put, aS, aC, aZ]
     refine wpList_skip (by kernel_rfl) ?_
     simp only [Act.put, aS, aC, aZ]
     refine wpList_skip (by kernel_rfl) ?_
     simp only [Act.put, aS, aC, aZ]
     refine wl rfl (.bool true) _ (run_pickZ (.tmp 201) (.const (.bool true)) (.tmp 203) rfl true (.bool true) rfl rfl) ?_
     refine wl rfl (.bool true) _ (run_mvZ (.tmp 204) rfl (.bool true) rfl) ?_
     refine wl (by kernel_rfl) (.bool false) _ (run_mvZ (.tmp 29) rfl (.bool false) rfl) ?_
     simp only [Act.put, aS, aC, aZ]
     refine wl (by kernel_rfl) (.bool true) _ (run_not (.tmp 206) 4 rfl false rfl) ?_
     refine wl rfl (.bool true) _ (run_pickZ (.tmp 205) (.tmp 207) (.const (.bool false)) rfl true (.bool true) rfl rfl) ?_
     refine wl rfl (.bool true) _ (run_asZ (.tmp 208) rfl (.bool true) rfl) ?_
     simp only [Act.put, aS, aC, aZ]
     refine wpList_nil ?_
     go_wp2_with fail
     rw [HPQ.out]
     exact ⟨rfl, HB2.out.trans (RZ4.out.below.mono HB2.out.size)⟩
    ·go_upto_region 29 with fail
     refine wp_region_lit ?_
     refine wl rfl (.int .i64 3) _ (run_mvZ (.tmp 27) rfl (.int .i64 3) rfl) ?_
     refine wl rfl (.bool false) _ (run_eqZ (.tmp 199) (.const (.int .i64 0)) rfl (3) (0) rfl rfl false rfl) ?_
     refine wl rfl (.bool false) _ (run_mvZ (.tmp 200) rfl (.bool false) rfl) ?_
     simp only [Act.put, aS, aC, aZ]
     refine wl (by kernel_rfl) (.int .i64 3) _ (run_mvZ (.tmp 27) rfl (.int .i64 3) rfl) ?_
     refine wl (by kernel_rfl) (.bool true) _ (run_eqZ (.tmp 202) (.const (.int .i64 3)) rfl (3) (3) rfl rfl true rfl) ?_
     refine wl rfl (.bool true) _ (run_pickZ (.tmp 201) (.const (.bool true)) (.tmp 203) rfl false (.bool true) rfl rfl) ?_
     simp only [Act.put, aS, aC, aZ]
     refine wl rfl (.bool true) _ (run_mvZ (.tmp 204) rfl (.bool true) rfl) ?_
     refine wl (by kernel_rfl) (.bool false) _ (run_mvZ (.tmp 29) rfl (.bool false) rfl) ?_
     refine wl (by kernel_rfl) (.bool true) _ (run_not (.tmp 206) 4 rfl false rfl) ?_
     simp only [Act.put, aS, aC, aZ]
     refine wl rfl (.bool true) _ (run_pickZ (.tmp 205) (.tmp 207) (.const (.bool false)) rfl true (.bool true) rfl rfl) ?_
     refine wl rfl (.bool true) _ (run_asZ (.tmp 208) rfl (.bool true) rfl) ?_
     simp only [Act.put, aS, aC, aZ]
     refine wpList_nil ?_
     go_wp2_with fail
     rw [HPQ.out]
     exact ⟨rfl, HB2.out.trans (RZ4.out.below.mono HB2.out.size)⟩

end Go.Proofs.YtpkkkkomdblpoaaDoor

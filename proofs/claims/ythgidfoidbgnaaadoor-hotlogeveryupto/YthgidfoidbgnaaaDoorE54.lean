/- Layer 14: the stand does a thing: appends, reads, a fuse, a boot, opened anew. -/
import Derived.Test.YthgidfoidbgnaaaDoorE53
namespace Go.Proofs.YthgidfoidbgnaaaDoor
open Go.RowKit Go.Maps


/-- an operation's cells -/
def opC (kd N : Int) (vy : Value) (px : Pq) (vk : Value) : List Value := [.int .i64 kd, .int .i64 N, vy, .int .i64 px.dv, .int .i64 px.at_, .int .i64 px.ln, .bool px.bd, vk]
/-- an operation, as the law is given it -/
structure OpI (w : World) (kd N : Int) (vy : Value) (bs : List Nat) (px : Pq) (vk : Value) (ks : List Int) : Prop where
 hk : I64 kd
 hn : I64 N
 ok : px.ok
 b : ∀ W' : World, Below w.heap.size w W' → SliceIn W' vy bs
 l : bs.length ≤ 100000000
 ks : IntsIn w vk ks
theorem opX {W : World} {q : Nat} {kd N : Int} {vy : Value} {px : Pq} {vk : Value} (h : Row W q 33 (opC kd N vy px vk)) : ∀ (j : Nat) x, px.cells[j]? = some x → W.cell? ⟨q, 0 + 3 + j, none⟩ = some x := fun j x hx =>
 match j, hx with
 | 0, hx => h.at 3 _ hx
 | 1, hx => h.at 4 _ hx
 | 2, hx => h.at 5 _ hx
 | 3, hx => h.at 6 _ hx
 | j + 4, hx => by
  have : px.cells[j + 4]? = none := List.getElem?_eq_none (by rw [Pq.cells_length]; omega)
  rw [this] at hx
  cases hx
section
variable {w W W' : World} {c c' : Nat → Colour} {gp gh gf gm n K : Nat} {m : Pl} {us : List (Nat × List Nat)}
theorem HtW.fuse (h : HtW w W c gp gh gf gm m n us K) (N : Int) (hN : I64 N) : Calls Tryd.prog 13 #[ptr gp, .int .i64 N] W fun e W' => ∃ c' m', e = .returned noResult ∧ Sq W W' c c' gf gm ∧ HtW w W' c' gp gh gf gm m' n us K := by
 refine (h.pl.fuse N hN.1 hN.2).mono ?_
 rintro e W' ⟨rfl, c', hs, hp⟩
 have hm : (m.fuseTo N).on = m.on ∧ (m.fuseTo N).wt 1 = m.wt 1 ∧ ∀ p, (m.fuseTo N).rd 1 p = m.rd 1 p := by unfold Pl.fuseTo; split <;> exact ⟨rfl, rfl, fun _ => rfl⟩
 obtain ⟨fr, f, q, h1, h2⟩ := h.hot
 have hl := h.lt
 refine ⟨c', m.fuseTo N, rfl, hs.sq gf gm, ⟨hp, ⟨fr, f, q, h1.ch hs.ch ⟨h.hc.1, h.hc.2.1, h.hc.2.2⟩, h2⟩, ?_, h.new, hm.1.trans h.on, hm.2.1.trans h.wt, h.held.rd fun _ _ _ _ => hm.2.2 _⟩⟩
 rw [HotC, hs.cc gh hl.1, hs.cc gf hl.2.1, hs.cc gm hl.2.2]
 exact h.hc
end
set_option maxHeartbeats 4000000 in
set_option maxRecDepth 100000 in
theorem sdo5_any {w W : World} {c : Nat → Colour} {gp gh gf gm gs gr n K : Nat} {m : Pl} {us : List (Nat × List Nat)} {vu vb : Value} {bl : List Value} {ever dims : Nat} (h : HtW w W c gp gh gf gm m n us K) (d : Sd w W c gp gh gf gm gs gr n us vu vb bl ever dims) (hR : RoomInv (n / 16) (us.map plc) ever) (E : Nat) (hev : ever ≤ E) (hdm : dims ≤ E) (hK0 : 4096 ≤ K) (hK : K + 20 ≤ 1000000000000) (kd N : Int) (vy : Value) (bs : List Nat) (px : Pq) (vk : Value) (ks : List Int) (o : OpI w kd N vy bs px vk ks) (hkk : whichOf kd 10 = 5) : Calls Tryd.prog 12 #[ptr gs, .agg (opC kd N vy px vk).toArray] W fun e w' => e = .returned (.bool true) ∧ Std w w' gp gs gr n (K + 20) (E + 10) := by
 have HM : Hid ((HtW w W c gp gh gf gm m n us K) ∧ (Sd w W c gp gh gf gm gs gr n us vu vb bl ever dims) ∧ (us.map toP).length = us.length ∧ RoomInv (n / 16) (us.map plc) ever ∧ OpI w kd N vy bs px vk ks) := ⟨h, d, List.length_map _, hR, o⟩
 have hul := h.ok.2
 have HW_ : Hid (whichOf kd 10 = 5) := hkk
 clear h d hR o hkk
 obtain ⟨PQ, HPQ⟩ := exPQ fun (e : Ending) (w' : World) => e = .returned (.bool true) ∧ Std w w' gp gs gr n (K + 20) (E + 10)
 rw [← HPQ.out]
 go_enter Tryd.func12, Tryd.ntmps12
 go_upto_region 0 with fail
 refine wp_region_lit ?_
 refine wl rfl (ptr W.heap.size) _ (run_boxA (.tmp 1) rfl (opC kd N vy px vk) rfl) ?_
 have hb_ := below_alloc W (.cells (opC kd N vy px vk).toArray 33)
 have r_ := Row.new W 33 (opC kd N vy px vk)
 obtain ⟨W1, hW_⟩ : ∃ U_ : World, U_ = W.alloc (.cells (opC kd N vy px vk).toArray 33) := ⟨_, rfl⟩
 obtain ⟨q, hq_⟩ : ∃ q, q = W.heap.size := ⟨_, rfl⟩
 rw [← hW_] at hb_
 rw [← hW_, ← hq_] at r_
 rw [← hW_, ← hq_]
 have H1 : Hid (Row W1 q 33 (opC kd N vy px vk) ∧ (HtW w W1 c gp gh gf gm m n us K) ∧ (Sd w W1 c gp gh gf gm gs gr n us vu vb bl ever dims) ∧ Out w W1 c gh gf gm q) := ⟨r_, HM.out.1.bel hb_, HM.out.2.1.bel hb_, Out.new HM.out.1 (by omega) r_.lt⟩
 clear r_ hb_ hW_ hq_
 simp only [Act.put, aS, aC, aZ]
 refine wl rfl (.bool false) _ (run_asZ (.const (.bool false)) rfl (.bool false) rfl) ?_
 simp only [Act.put, aS, aC, aZ]
 refine wpList_nil ?_
 go_upto_region 1 with fail
 refine wp_region_lit ?_
 refine wl rfl (ptr gs) _ (run_mvZ (.tmp 0) rfl (ptr gs) rfl) ?_
 refine wl rfl (ptr gs) _ (run_nil (.tmp 16) rfl ⟨gs, 0, none⟩ rfl) ?_
 refine wl rfl (.pointer (some ⟨gs, 0 + 2, none⟩)) _ (run_fieldOp' f38_2 (.tmp 17) rfl gs (0) rfl) ?_
 refine wl rfl (ptr gr) _ (run_load1 o36 (.tmp 18) rfl gs (0 + 2) rfl (ptr gr) (H1.out.2.2.1.row.at 2 _ rfl)) ?_
 simp only [Act.put, aS, aC, aZ]
 refine wl rfl (ptr gr) _ (run_nil (.tmp 19) rfl ⟨gr, 0, none⟩ rfl) ?_
 refine wl rfl (.pointer (some ⟨gr, 0 + 2, none⟩)) _ (run_fieldOp' f60_2 (.tmp 20) rfl gr (0) rfl) ?_
 refine wl rfl vu _ (run_load1 o43 (.tmp 21) rfl gr (0 + 2) rfl vu (H1.out.2.2.1.r.row.at 2 _ rfl)) ?_
 refine wl rfl (.int .i64 (us.length : Nat)) _ (run_lenPI HM.out.2.1.r.u HM.out.2.2.1 (.tmp 22) rfl rfl) ?_
 simp only [Act.put, aS, aC, aZ]
 refine wl rfl (.int .i64 (us.length : Nat)) _ (run_asZ (.tmp 23) rfl (.int .i64 (us.length : Nat)) rfl) ?_
 simp only [Act.put, aS, aC, aZ]
 refine wpList_nil ?_
 go_upto_region 2 with fail
 refine wp_region_lit ?_
 refine wl rfl (.pointer (some ⟨q, 0 + 0, none⟩)) _ (run_fieldOp' f33_0 (.tmp 3) rfl q (0) rfl) ?_
 refine wl rfl (.int .i64 kd) _ (run_load1 o3 (.tmp 24) rfl q (0 + 0) rfl (.int .i64 kd) (H1.out.1.at 0 _ rfl)) ?_
 simp only [Act.put, aS, aC, aZ]
 refine wpList_callW eN11 [.tmp 25, .const (.int .i64 10)] _ rfl rfl [(.int .i64 kd), (.int .i64 10)] rfl ?_
 refine (which_any W1 kd 10 (by decide) HM.out.2.2.2.2.hk.1 HM.out.2.2.2.2.hk.2).mono ?_
 rintro e X_ ⟨he_, rfl⟩
 rw [HW_.out] at he_
 subst he_
 refine ⟨_, rfl, ?_⟩
 simp only [Act.put, aS, aC, aZ]
 refine wpList_nil ?_
 go_upto_region 3 with fail
 refine wp_region_lit ?_
 refine wl rfl (.bool false) _ (run_eqZ (.tmp 26) (.const (.int .i64 4)) rfl 5 4 rfl rfl false rfl) ?_
 refine wl rfl (.bool false) _ (run_asZ (.tmp 28) rfl (.bool false) rfl) ?_
 simp only [Act.put, aS, aC, aZ]
 refine wpList_nil ?_
 go_upto_region 10 with fail
 refine wp_region_lit ?_
 refine wl rfl (.bool true) _ (run_eqZ (.tmp 26) (.const (.int .i64 5)) rfl 5 5 rfl rfl true rfl) ?_
 refine wl rfl (.bool true) _ (run_asZ (.tmp 59) rfl (.bool true) rfl) ?_
 simp only [Act.put, aS, aC, aZ]
 refine wpList_nil ?_
 by_cases h0 : us.length = 0
 ·go_upto_region 11 with fail
  refine wp_region_lit ?_
  refine wl rfl (.int .i64 (us.length : Nat)) _ (run_mvZ (.tmp 5) rfl (.int .i64 (us.length : Nat)) rfl) ?_
  refine wl rfl (.bool true) _ (run_eqZ (.tmp 60) (.const (.int .i64 0)) rfl (us.length : Nat) 0 rfl rfl true (decide_eq_true (by omega))) ?_
  simp only [Act.put, aS, aC, aZ]
  refine wpList_nil ?_
  go_upto_region 12 with fail
  refine wp_region_lit ?_
  refine wl rfl (.bool true) _ (run_asZ (.const (.bool true)) rfl (.bool true) rfl) ?_
  simp only [Act.put, aS, aC, aZ]
  refine wpList_nil ?_
  go_wp2_with fail
  rw [HPQ.out]
  exact ⟨rfl, c, gh, gf, gm, m, us, vu, vb, bl, ever, dims, H1.out.2.1.mono (by omega), H1.out.2.2.1, HM.out.2.2.2.1, by omega, by omega, by omega⟩
 ·go_upto_region 11 with fail
  refine wp_region_lit ?_
  refine wl rfl (.int .i64 (us.length : Nat)) _ (run_mvZ (.tmp 5) rfl (.int .i64 (us.length : Nat)) rfl) ?_
  refine wl rfl (.bool false) _ (run_eqZ (.tmp 60) (.const (.int .i64 0)) rfl (us.length : Nat) 0 rfl rfl false (decide_eq_false (by omega))) ?_
  simp only [Act.put, aS, aC, aZ]
  refine wpList_nil ?_
  obtain ⟨k, hk_⟩ : ∃ k, k = whichOf N us.length := ⟨_, rfl⟩
  have hk : k < us.length := (by rw [hk_]; exact whichOf_lt N us.length (by omega))
  have HK : Hid (whichOf N us.length = k) := hk_.symm
  clear hk_
  go_upto_region 13 with fail
  refine wp_region_lit ?_
  refine wl rfl (.pointer (some ⟨q, 0 + 1, none⟩)) _ (run_fieldOp' f33_1 (.tmp 3) rfl q (0) rfl) ?_
  refine wl rfl (.int .i64 N) _ (run_load1 o3 (.tmp 62) rfl q (0 + 1) rfl (.int .i64 N) (H1.out.1.at 1 _ rfl)) ?_
  refine wl rfl (.int .i64 (us.length : Nat)) _ (run_mvZ (.tmp 5) rfl (.int .i64 (us.length : Nat)) rfl) ?_
  simp only [Act.put, aS, aC, aZ]
  refine wpList_callW eN11 [.tmp 63, .tmp 64] _ rfl rfl [(.int .i64 N), (.int .i64 (us.length : Nat))] rfl ?_
  refine (which_any W1 N us.length (by omega) HM.out.2.2.2.2.hn.1 HM.out.2.2.2.2.hn.2).mono ?_
  rintro e X_ ⟨he_, rfl⟩
  rw [HK.out] at he_
  subst he_
  refine ⟨_, rfl, ?_⟩
  simp only [Act.put, aS, aC, aZ]
  refine wl rfl (.int .i64 (k : Nat)) _ (run_asZ (.tmp 65) rfl (.int .i64 (k : Nat)) rfl) ?_
  simp only [Act.put, aS, aC, aZ]
  refine wpList_nil ?_
  obtain ⟨u, hu⟩ : ∃ u, u = us.getD k default := ⟨_, rfl⟩
  obtain ⟨vi, hvi⟩ : ∃ v, v = bl.getD k default := ⟨_, rfl⟩
  have hum : u ∈ us := hu ▸ getD_in us k hk
  obtain ⟨bu, _, hx_, hc_⟩ := HM.out.2.1.r.u.ix k (by rw [HM.out.2.2.1]; exact hk)
  obtain ⟨bb, hxb, hcb⟩ := row57 HM.out.2.1.r.b k hk
  have hsi := H1.out.2.2.1.r.s k hk
  rw [toP_at us k hk, ← hu] at hc_
  rw [← hvi] at hcb hsi
  rw [← hu] at hsi
  obtain ⟨hh1, hh2, _⟩ := HM.out.1.held u hum
  have HX : Hid ((∀ w', (Instr.indexAt 43 vu (.int .i64 (k : Nat))).run Tryd.prog w' = .ok (.pointer (some ⟨bu, k * 4, none⟩)) w') ∧ (∀ W' : World, PlO W' vu (us.map toP) → ∀ j x, (toP u).cells[j]? = some x → W'.cell? ⟨bu, k * 4 + j, none⟩ = some x) ∧ (∀ w', (Instr.indexAt 57 vb (.int .i64 (k : Nat))).run Tryd.prog w' = .ok (.pointer (some ⟨bb, k * 1, none⟩)) w') ∧ (∀ W' : World, W'.ownsRow 0 28 1 vb us.length bl → W'.cell? ⟨bb, k * 1, none⟩ = some vi) ∧ SliceIn W1 vi u.2 ∧ u ∈ us ∧ u.2.length ≤ 512) := ⟨hx_, hc_, hxb, hcb, BOwn.slice hsi.1 hh2 (by omega), hum, hh1⟩
  clear hu hvi hum hx_ hc_ hxb hcb hsi hh1 hh2
  go_upto_region 14 with fail
  refine wp_region_held (S := fun X => Row X gs 38 (scells gp gh gr (ever : Nat) (dims : Nat)) ∧ Row X gr 60 [.int .i64 1, .int .i64 (n : Nat), vu, vb] ∧ PlO X vu (us.map toP)) (by kernel_rfl) ?_
  show wpAnyH _ _ _ _ _ 20 (Array.replicate 20 false) _ _
  obtain ⟨X, hX⟩ : ∃ X : World, X = { W1 with drawn := W1.drawn + 1 } := ⟨_, rfl⟩
  rw [← hX]
  have HBX : Hid (Below W1.heap.size W1 X) := (by rw [hX]; exact ⟨rfl, rfl, rfl, Nat.le_refl _, fun _ _ => rfl⟩)
  have HD : Hid ((HtW w X c gp gh gf gm m n us K) ∧ (Sd w X c gp gh gf gm gs gr n us vu vb bl ever dims)) := ⟨H1.out.2.1.bel HBX.out, H1.out.2.2.1.bel HBX.out⟩
  have HS_ : Row X gs 38 (scells gp gh gr (ever : Nat) (dims : Nat)) ∧ Row X gr 60 [.int .i64 1, .int .i64 (n : Nat), vu, vb] ∧ PlO X vu (us.map toP) := ⟨HD.out.2.row, HD.out.2.r.row, HD.out.2.r.u⟩
  clear hX
  refine tH 0 67 rfl rfl (gRun rfl (ptr gs) fun _ h => run_mvZ (.tmp 0) rfl (ptr gs) rfl) HS_ ?_
  refine tH 1 68 rfl rfl (gRun rfl (ptr gs) fun _ h => run_nil (.tmp 67) rfl ⟨gs, 0, none⟩ rfl) HS_ ?_
  refine tH 2 69 rfl rfl (gRun rfl (.pointer (some ⟨gs, 0 + 1, none⟩)) fun _ h => run_fieldOp' f38_1 (.tmp 68) rfl gs (0) rfl) HS_ ?_
  refine tH 3 70 rfl rfl (gRun rfl (ptr gh) fun _ h => run_load1 o35 (.tmp 69) rfl gs (0 + 1) rfl (ptr gh) (h.1.at 1 _ rfl)) HS_ ?_
  simp only [Act.put, aS, aC, aZ]
  refine tH 4 71 rfl rfl (gRun rfl (ptr gs) fun _ h => run_mvZ (.tmp 0) rfl (ptr gs) rfl) HS_ ?_
  refine tH 5 72 rfl rfl (gRun rfl (ptr gs) fun _ h => run_nil (.tmp 71) rfl ⟨gs, 0, none⟩ rfl) HS_ ?_
  refine tH 6 73 rfl rfl (gRun rfl (.pointer (some ⟨gs, 0 + 2, none⟩)) fun _ h => run_fieldOp' f38_2 (.tmp 72) rfl gs (0) rfl) HS_ ?_
  refine tH 7 74 rfl rfl (gRun rfl (ptr gr) fun _ h => run_load1 o36 (.tmp 73) rfl gs (0 + 2) rfl (ptr gr) (h.1.at 2 _ rfl)) HS_ ?_
  simp only [Act.put, aS, aC, aZ]
  refine tH 8 75 rfl rfl (gRun rfl (ptr gr) fun _ h => run_nil (.tmp 74) rfl ⟨gr, 0, none⟩ rfl) HS_ ?_
  refine tH 9 76 rfl rfl (gRun rfl (.pointer (some ⟨gr, 0 + 2, none⟩)) fun _ h => run_fieldOp' f60_2 (.tmp 75) rfl gr (0) rfl) HS_ ?_
  refine tH 10 77 rfl rfl (gRun rfl vu fun _ h => run_load1 o43 (.tmp 76) rfl gr (0 + 2) rfl vu (h.2.1.at 2 _ rfl)) HS_ ?_
  refine tH 11 78 rfl rfl (gRun rfl (.int .i64 (k : Nat)) fun _ h => run_mvZ (.tmp 8) rfl (.int .i64 (k : Nat)) rfl) HS_ ?_
  simp only [Act.put, aS, aC, aZ]
  refine tH 12 79 rfl rfl (gRun rfl (.pointer (some ⟨bu, k * 4, none⟩)) fun _ h => run_idx (.tmp 77) (.tmp 78) rfl _ _ _ rfl rfl HX.out.1) HS_ ?_
  refine tH 13 80 rfl rfl (gRun rfl (.agg ((toP u).cells).toArray) fun _ h => run_loadA ag30 (.tmp 79) rfl bu (k * 4) rfl ((toP u).cells) rfl (HX.out.2.1 _ h.2.2)) HS_ ?_
  simp only [Act.put, aS, aC, aZ]
  refine oneH (i := 14) (by kernel_rfl) ?_
  refine opCallG (some 81) rfl rfl rfl 25 _ (run_call eN25 [.tmp 70, .tmp 80] _ rfl [(ptr gh), (.agg ((toP u).cells).toArray)] rfl) ?_
  refine (HD.out.1.read (by omega) HX.out.2.2.2.2.2.1 false).mono ?_
  rintro e Y1 ⟨v, rfl, hv_, hb_⟩
  refine ⟨_, rfl, ?_⟩
  have HV : Hid (BNew X.heap.size Y1 v u.2 ∧ Below W1.heap.size W1 Y1) := ⟨hv_, HBX.out.trans (hb_.mono HBX.out.size)⟩
  replace HD : Hid ((HtW w Y1 c gp gh gf gm m n us K) ∧ (Sd w Y1 c gp gh gf gm gs gr n us vu vb bl ever dims)) := ⟨HD.out.1.bel hb_, HD.out.2.bel hb_⟩
  replace HS_ : Row Y1 gs 38 (scells gp gh gr (ever : Nat) (dims : Nat)) ∧ Row Y1 gr 60 [.int .i64 1, .int .i64 (n : Nat), vu, vb] ∧ PlO Y1 vu (us.map toP) := ⟨HD.out.2.row, HD.out.2.r.row, HD.out.2.r.u⟩
  clear hv_ hb_
  refine ⟨HS_, ?_⟩
  simp only [Act.put, aS, aC, aZ]
  refine tH 15 66 rfl rfl (gRun rfl (.tuple #[v, (.int .i64 0)]) fun _ h => run_mvZ (.tmp 81) rfl (.tuple #[v, (.int .i64 0)]) rfl) HS_ ?_
  refine tH 16 82 rfl rfl (gRun rfl v fun _ h => run_extZ (.tmp 66) 0 rfl #[v, (.int .i64 0)] rfl v rfl) HS_ ?_
  refine tH 17 83 rfl rfl (gRun rfl (.int .i64 0) fun _ h => run_extZ (.tmp 66) 1 rfl #[v, (.int .i64 0)] rfl (.int .i64 0) rfl) HS_ ?_
  refine tH 18 9 rfl rfl (gRun rfl v fun _ h => run_asZ (.tmp 82) rfl v rfl) HS_ ?_
  simp only [Act.put, aS, aC, aZ]
  refine tH 19 10 rfl rfl (gRun rfl (.int .i64 0) fun _ h => run_asZ (.tmp 83) rfl (.int .i64 0) rfl) HS_ ?_
  simp only [Act.put, aS, aC, aZ]
  refine wpAnyH_done (by kernel_rfl) ?_ _
  go_upto_region 15 with fail
  refine wp_region_held (S := fun X => Row X gs 38 (scells gp gh gr (ever : Nat) (dims : Nat)) ∧ Row X gr 60 [.int .i64 1, .int .i64 (n : Nat), vu, vb] ∧ X.ownsRow 0 28 1 vb us.length bl ∧ SliceIn X v u.2 ∧ SliceIn X vi u.2) (by kernel_rfl) ?_
  show wpAnyH _ _ _ _ _ 19 (Array.replicate 19 false) _ _
  obtain ⟨X, hX⟩ : ∃ X : World, X = { Y1 with drawn := Y1.drawn + 1 } := ⟨_, rfl⟩
  rw [← hX]
  clear HS_
  have HBY : Hid (Below Y1.heap.size Y1 X) := (by rw [hX]; exact ⟨rfl, rfl, rfl, Nat.le_refl _, fun _ _ => rfl⟩)
  replace HD : Hid ((HtW w X c gp gh gf gm m n us K) ∧ (Sd w X c gp gh gf gm gs gr n us vu vb bl ever dims)) := ⟨HD.out.1.bel HBY.out, HD.out.2.bel HBY.out⟩
  have HS_ : Row X gs 38 (scells gp gh gr (ever : Nat) (dims : Nat)) ∧ Row X gr 60 [.int .i64 1, .int .i64 (n : Nat), vu, vb] ∧ X.ownsRow 0 28 1 vb us.length bl ∧ SliceIn X v u.2 ∧ SliceIn X vi u.2 := ⟨HD.out.2.row, HD.out.2.r.row, HD.out.2.r.b, (HV.out.1.later HBY.out).1, sliceK HX.out.2.2.2.2.1 fun b _ hlt => (HV.out.2.trans (HBY.out.mono HV.out.2.size)).block b hlt⟩
  clear hX
  refine tH 0 84 rfl rfl (gRun rfl (.int .i64 0) fun _ h => run_mvZ (.tmp 10) rfl (.int .i64 0) rfl) HS_ ?_
  refine tH 1 85 rfl rfl (gRun rfl (.bool true) fun _ h => run_eqZ (.tmp 84) (.const (.int .i64 0)) rfl (0) (0) rfl rfl true rfl) HS_ ?_
  refine tH 2 86 rfl rfl (gRun rfl (.bool true) fun _ h => run_mvZ (.tmp 85) rfl (.bool true) rfl) HS_ ?_
  refine tH 3 87 rfl rfl (gRun (by kernel_rfl) v fun _ h => run_mvZ (.tmp 9) rfl v rfl) HS_ ?_
  simp only [Act.put, aS, aC, aZ]
  refine tH 4 88 rfl rfl (gRun (by kernel_rfl) (.string (strOfNums (u.2.map Int.ofNat))) fun _ h => run_str (.tmp 87) rfl v u.2 rfl h.2.2.2.1) HS_ ?_
  refine tH 5 89 rfl rfl (gRun (by kernel_rfl) (ptr gs) fun _ h => run_mvZ (.tmp 0) rfl (ptr gs) rfl) HS_ ?_
  refine tH 6 90 rfl rfl (gRun (by kernel_rfl) (ptr gs) fun _ h => run_nil (.tmp 89) rfl ⟨gs, 0, none⟩ rfl) HS_ ?_
  refine tH 7 91 rfl rfl (gRun (by kernel_rfl) (.pointer (some ⟨gs, 0 + 2, none⟩)) fun _ h => run_fieldOp' f38_2 (.tmp 90) rfl gs (0) rfl) HS_ ?_
  simp only [Act.put, aS, aC, aZ]
  refine tH 8 92 rfl rfl (gRun (by kernel_rfl) (ptr gr) fun _ h => run_load1 o36 (.tmp 91) rfl gs (0 + 2) rfl (ptr gr) (h.1.at 2 _ rfl)) HS_ ?_
  refine tH 9 93 rfl rfl (gRun (by kernel_rfl) (ptr gr) fun _ h => run_nil (.tmp 92) rfl ⟨gr, 0, none⟩ rfl) HS_ ?_
  refine tH 10 94 rfl rfl (gRun (by kernel_rfl) (.pointer (some ⟨gr, 0 + 3, none⟩)) fun _ h => run_fieldOp' f60_3 (.tmp 93) rfl gr (0) rfl) HS_ ?_
  refine tH 11 95 rfl rfl (gRun (by kernel_rfl) vb fun _ h => run_load1 o57 (.tmp 94) rfl gr (0 + 3) rfl vb (h.2.1.at 3 _ rfl)) HS_ ?_
  simp only [Act.put, aS, aC, aZ]
  refine tH 12 96 rfl rfl (gRun (by kernel_rfl) (.int .i64 (k : Nat)) fun _ h => run_mvZ (.tmp 8) rfl (.int .i64 (k : Nat)) rfl) HS_ ?_
  refine tH 13 97 rfl rfl (gRun (by kernel_rfl) (.pointer (some ⟨bb, k * 1, none⟩)) fun _ h => run_idx (.tmp 95) (.tmp 96) rfl _ _ _ rfl rfl HX.out.2.2.1) HS_ ?_
  refine tH 14 98 rfl rfl (gRun (by kernel_rfl) vi fun _ h => run_load1 o28 (.tmp 97) rfl bb (k * 1) rfl vi (HX.out.2.2.2.1 _ h.2.2.1)) HS_ ?_
  refine tH 15 99 rfl rfl (gRun (by kernel_rfl) (.string (strOfNums (u.2.map Int.ofNat))) fun _ h => run_str (.tmp 98) rfl vi u.2 rfl h.2.2.2.2) HS_ ?_
  simp only [Act.put, aS, aC, aZ]
  refine tH 16 100 rfl rfl (gRun (by kernel_rfl) (.bool true) fun _ h => run_eqS (.tmp 88) (.tmp 99) rfl (strOfNums (u.2.map Int.ofNat)) rfl rfl) HS_ ?_
  refine tH 17 101 rfl rfl (gRun rfl (.bool true) fun _ h => run_pickZ (.tmp 86) (.tmp 100) (.const (.bool false)) rfl true (.bool true) rfl rfl) HS_ ?_
  refine tH 18 4 rfl rfl (gRun rfl (.bool true) fun _ h => run_asZ (.tmp 101) rfl (.bool true) rfl) HS_ ?_
  simp only [Act.put, aS, aC, aZ]
  refine wpAnyH_done (by kernel_rfl) ?_ _
  go_wp2_with fail
  rw [HPQ.out]
  exact ⟨rfl, c, gh, gf, gm, m, us, vu, vb, bl, ever, dims, HD.out.1.mono (by omega), HD.out.2, HM.out.2.2.2.1, by omega, by omega, by omega⟩
set_option maxHeartbeats 4000000 in
set_option maxRecDepth 100000 in
theorem sdo7_any {w W : World} {c : Nat → Colour} {gp gh gf gm gs gr n K : Nat} {m : Pl} {us : List (Nat × List Nat)} {vu vb : Value} {bl : List Value} {ever dims : Nat} (h : HtW w W c gp gh gf gm m n us K) (d : Sd w W c gp gh gf gm gs gr n us vu vb bl ever dims) (hR : RoomInv (n / 16) (us.map plc) ever) (E : Nat) (hev : ever ≤ E) (hdm : dims ≤ E) (hK0 : 4096 ≤ K) (hK : K + 20 ≤ 1000000000000) (kd N : Int) (vy : Value) (bs : List Nat) (px : Pq) (vk : Value) (ks : List Int) (o : OpI w kd N vy bs px vk ks) (hkk : whichOf kd 10 = 7) : Calls Tryd.prog 12 #[ptr gs, .agg (opC kd N vy px vk).toArray] W fun e w' => e = .returned (.bool true) ∧ Std w w' gp gs gr n (K + 20) (E + 10) := by
 have HM : Hid ((HtW w W c gp gh gf gm m n us K) ∧ (Sd w W c gp gh gf gm gs gr n us vu vb bl ever dims) ∧ (us.map toP).length = us.length ∧ RoomInv (n / 16) (us.map plc) ever ∧ OpI w kd N vy bs px vk ks) := ⟨h, d, List.length_map _, hR, o⟩
 have hul := h.ok.2
 have HW_ : Hid (whichOf kd 10 = 7) := hkk
 clear h d hR o hkk
 obtain ⟨PQ, HPQ⟩ := exPQ fun (e : Ending) (w' : World) => e = .returned (.bool true) ∧ Std w w' gp gs gr n (K + 20) (E + 10)
 rw [← HPQ.out]
 go_enter Tryd.func12, Tryd.ntmps12
 go_upto_region 0 with fail
 refine wp_region_lit ?_
 refine wl rfl (ptr W.heap.size) _ (run_boxA (.tmp 1) rfl (opC kd N vy px vk) rfl) ?_
 have hb_ := below_alloc W (.cells (opC kd N vy px vk).toArray 33)
 have r_ := Row.new W 33 (opC kd N vy px vk)
 obtain ⟨W1, hW_⟩ : ∃ U_ : World, U_ = W.alloc (.cells (opC kd N vy px vk).toArray 33) := ⟨_, rfl⟩
 obtain ⟨q, hq_⟩ : ∃ q, q = W.heap.size := ⟨_, rfl⟩
 rw [← hW_] at hb_
 rw [← hW_, ← hq_] at r_
 rw [← hW_, ← hq_]
 have H1 : Hid (Row W1 q 33 (opC kd N vy px vk) ∧ (HtW w W1 c gp gh gf gm m n us K) ∧ (Sd w W1 c gp gh gf gm gs gr n us vu vb bl ever dims) ∧ Out w W1 c gh gf gm q) := ⟨r_, HM.out.1.bel hb_, HM.out.2.1.bel hb_, Out.new HM.out.1 (by omega) r_.lt⟩
 clear r_ hb_ hW_ hq_
 simp only [Act.put, aS, aC, aZ]
 refine wl rfl (.bool false) _ (run_asZ (.const (.bool false)) rfl (.bool false) rfl) ?_
 simp only [Act.put, aS, aC, aZ]
 refine wpList_nil ?_
 go_upto_region 1 with fail
 refine wp_region_lit ?_
 refine wl rfl (ptr gs) _ (run_mvZ (.tmp 0) rfl (ptr gs) rfl) ?_
 refine wl rfl (ptr gs) _ (run_nil (.tmp 16) rfl ⟨gs, 0, none⟩ rfl) ?_
 refine wl rfl (.pointer (some ⟨gs, 0 + 2, none⟩)) _ (run_fieldOp' f38_2 (.tmp 17) rfl gs (0) rfl) ?_
 refine wl rfl (ptr gr) _ (run_load1 o36 (.tmp 18) rfl gs (0 + 2) rfl (ptr gr) (H1.out.2.2.1.row.at 2 _ rfl)) ?_
 simp only [Act.put, aS, aC, aZ]
 refine wl rfl (ptr gr) _ (run_nil (.tmp 19) rfl ⟨gr, 0, none⟩ rfl) ?_
 refine wl rfl (.pointer (some ⟨gr, 0 + 2, none⟩)) _ (run_fieldOp' f60_2 (.tmp 20) rfl gr (0) rfl) ?_
 refine wl rfl vu _ (run_load1 o43 (.tmp 21) rfl gr (0 + 2) rfl vu (H1.out.2.2.1.r.row.at 2 _ rfl)) ?_
 refine wl rfl (.int .i64 (us.length : Nat)) _ (run_lenPI HM.out.2.1.r.u HM.out.2.2.1 (.tmp 22) rfl rfl) ?_
 simp only [Act.put, aS, aC, aZ]
 refine wl rfl (.int .i64 (us.length : Nat)) _ (run_asZ (.tmp 23) rfl (.int .i64 (us.length : Nat)) rfl) ?_
 simp only [Act.put, aS, aC, aZ]
 refine wpList_nil ?_
 go_upto_region 2 with fail
 refine wp_region_lit ?_
 refine wl rfl (.pointer (some ⟨q, 0 + 0, none⟩)) _ (run_fieldOp' f33_0 (.tmp 3) rfl q (0) rfl) ?_
 refine wl rfl (.int .i64 kd) _ (run_load1 o3 (.tmp 24) rfl q (0 + 0) rfl (.int .i64 kd) (H1.out.1.at 0 _ rfl)) ?_
 simp only [Act.put, aS, aC, aZ]
 refine wpList_callW eN11 [.tmp 25, .const (.int .i64 10)] _ rfl rfl [(.int .i64 kd), (.int .i64 10)] rfl ?_
 refine (which_any W1 kd 10 (by decide) HM.out.2.2.2.2.hk.1 HM.out.2.2.2.2.hk.2).mono ?_
 rintro e X_ ⟨he_, rfl⟩
 rw [HW_.out] at he_
 subst he_
 refine ⟨_, rfl, ?_⟩
 simp only [Act.put, aS, aC, aZ]
 refine wpList_nil ?_
 go_upto_region 3 with fail
 refine wp_region_lit ?_
 refine wl rfl (.bool false) _ (run_eqZ (.tmp 26) (.const (.int .i64 4)) rfl 7 4 rfl rfl false rfl) ?_
 refine wl rfl (.bool false) _ (run_asZ (.tmp 28) rfl (.bool false) rfl) ?_
 simp only [Act.put, aS, aC, aZ]
 refine wpList_nil ?_
 go_upto_region 10 with fail
 refine wp_region_lit ?_
 refine wl rfl (.bool false) _ (run_eqZ (.tmp 26) (.const (.int .i64 5)) rfl 7 5 rfl rfl false rfl) ?_
 refine wl rfl (.bool false) _ (run_asZ (.tmp 59) rfl (.bool false) rfl) ?_
 simp only [Act.put, aS, aC, aZ]
 refine wpList_nil ?_
 go_upto_region 16 with fail
 refine wp_region_lit ?_
 refine wl rfl (.bool false) _ (run_eqZ (.tmp 26) (.const (.int .i64 6)) rfl 7 6 rfl rfl false rfl) ?_
 refine wl rfl (.bool false) _ (run_asZ (.tmp 103) rfl (.bool false) rfl) ?_
 simp only [Act.put, aS, aC, aZ]
 refine wpList_nil ?_
 go_upto_region 25 with fail
 refine wp_region_lit ?_
 refine wl rfl (.bool true) _ (run_eqZ (.tmp 26) (.const (.int .i64 7)) rfl 7 7 rfl rfl true rfl) ?_
 refine wl rfl (.bool true) _ (run_asZ (.tmp 171) rfl (.bool true) rfl) ?_
 simp only [Act.put, aS, aC, aZ]
 refine wpList_nil ?_
 go_upto_region 26 with fail
 refine wp_region_held (S := fun X => Row X gs 38 (scells gp gh gr (ever : Nat) (dims : Nat)) ∧ Row X q 33 (opC kd N vy px vk)) (by kernel_rfl) ?_
 show wpAnyH _ _ _ _ _ 7 (Array.replicate 7 false) _ _
 obtain ⟨X, hX⟩ : ∃ X : World, X = { W1 with drawn := W1.drawn + 1 } := ⟨_, rfl⟩
 rw [← hX]
 have HBX : Hid (Below W1.heap.size W1 X) := (by rw [hX]; exact ⟨rfl, rfl, rfl, Nat.le_refl _, fun _ _ => rfl⟩)
 have HD : Hid ((HtW w X c gp gh gf gm m n us K) ∧ (Sd w X c gp gh gf gm gs gr n us vu vb bl ever dims)) := ⟨H1.out.2.1.bel HBX.out, H1.out.2.2.1.bel HBX.out⟩
 have HO : Hid (Out w X c gh gf gm q ∧ Row X q 33 (opC kd N vy px vk)) := ⟨H1.out.2.2.2.bel HBX.out.size, H1.out.1.later HBX.out H1.out.1.lt⟩
 have HS_ : Row X gs 38 (scells gp gh gr (ever : Nat) (dims : Nat)) ∧ Row X q 33 (opC kd N vy px vk) := ⟨HD.out.2.row, HO.out.2⟩
 clear hX
 refine tH 0 172 rfl rfl (gRun rfl (ptr gs) fun _ h => run_mvZ (.tmp 0) rfl (ptr gs) rfl) HS_ ?_
 refine tH 1 173 rfl rfl (gRun rfl (ptr gs) fun _ h => run_nil (.tmp 172) rfl ⟨gs, 0, none⟩ rfl) HS_ ?_
 refine tH 2 174 rfl rfl (gRun rfl (.pointer (some ⟨gs, 0 + 0, none⟩)) fun _ h => run_fieldOp' f38_0 (.tmp 173) rfl gs (0) rfl) HS_ ?_
 refine tH 3 175 rfl rfl (gRun rfl (ptr gp) fun _ h => run_load1 o34 (.tmp 174) rfl gs (0 + 0) rfl (ptr gp) (h.1.at 0 _ rfl)) HS_ ?_
 simp only [Act.put, aS, aC, aZ]
 refine tH 4 176 rfl rfl (gRun rfl (.pointer (some ⟨q, 0 + 1, none⟩)) fun _ h => run_fieldOp' f33_1 (.tmp 3) rfl q (0) rfl) HS_ ?_
 refine tH 5 177 rfl rfl (gRun rfl (.int .i64 N) fun _ h => run_load1 o3 (.tmp 176) rfl q (0 + 1) rfl (.int .i64 N) (h.2.at 1 _ rfl)) HS_ ?_
 simp only [Act.put, aS, aC, aZ]
 refine oneH (i := 6) (by kernel_rfl) ?_
 refine opCallG (some 178) rfl rfl rfl 13 _ (run_call eN13 [.tmp 175, .tmp 177] _ rfl [(ptr gp), (.int .i64 N)] rfl) ?_
 refine (HD.out.1.fuse N HM.out.2.2.2.2.hn).mono ?_
 rintro e Y1 ⟨c2, m2, rfl, hs_, hh_⟩
 refine ⟨_, rfl, ?_⟩
 have HE : Hid ((HtW w Y1 c2 gp gh gf gm m2 n us K) ∧ (Sd w Y1 c2 gp gh gf gm gs gr n us vu vb bl ever dims)) := ⟨hh_, HD.out.2.sq hs_⟩
 replace HS_ : Row Y1 gs 38 (scells gp gh gr (ever : Nat) (dims : Nat)) ∧ Row Y1 q 33 (opC kd N vy px vk) := ⟨HE.out.2.row, HO.out.1.row hs_ HO.out.2⟩
 clear hs_ hh_
 refine ⟨HS_, ?_⟩
 simp only [Act.put, aS, aC, aZ]
 refine wpAnyH_done (by kernel_rfl) ?_ _
 go_upto_region 27 with fail
 refine wp_region_lit ?_
 refine wl rfl (.bool true) _ (run_asZ (.const (.bool true)) rfl (.bool true) rfl) ?_
 simp only [Act.put, aS, aC, aZ]
 refine wpList_nil ?_
 go_wp2_with fail
 rw [HPQ.out]
 exact ⟨rfl, c2, gh, gf, gm, m2, us, vu, vb, bl, ever, dims, HE.out.1.mono (by omega), HE.out.2, HM.out.2.2.2.1, by omega, by omega, by omega⟩
set_option maxHeartbeats 4000000 in
set_option maxRecDepth 100000 in
theorem sdo8_any {w W : World} {c : Nat → Colour} {gp gh gf gm gs gr n K : Nat} {m : Pl} {us : List (Nat × List Nat)} {vu vb : Value} {bl : List Value} {ever dims : Nat} (h : HtW w W c gp gh gf gm m n us K) (d : Sd w W c gp gh gf gm gs gr n us vu vb bl ever dims) (hR : RoomInv (n / 16) (us.map plc) ever) (E : Nat) (hev : ever ≤ E) (hdm : dims ≤ E) (hK0 : 4096 ≤ K) (hK : K + 20 ≤ 1000000000000) (kd N : Int) (vy : Value) (bs : List Nat) (px : Pq) (vk : Value) (ks : List Int) (o : OpI w kd N vy bs px vk ks) (hkk : whichOf kd 10 = 8) : Calls Tryd.prog 12 #[ptr gs, .agg (opC kd N vy px vk).toArray] W fun e w' => e = .returned (.bool true) ∧ Std w w' gp gs gr n (K + 20) (E + 10) := by
 have HM : Hid ((HtW w W c gp gh gf gm m n us K) ∧ (Sd w W c gp gh gf gm gs gr n us vu vb bl ever dims) ∧ (us.map toP).length = us.length ∧ RoomInv (n / 16) (us.map plc) ever ∧ OpI w kd N vy bs px vk ks) := ⟨h, d, List.length_map _, hR, o⟩
 have hul := h.ok.2
 have HW_ : Hid (whichOf kd 10 = 8) := hkk
 clear h d hR o hkk
 obtain ⟨PQ, HPQ⟩ := exPQ fun (e : Ending) (w' : World) => e = .returned (.bool true) ∧ Std w w' gp gs gr n (K + 20) (E + 10)
 rw [← HPQ.out]
 go_enter Tryd.func12, Tryd.ntmps12
 go_upto_region 0 with fail
 refine wp_region_lit ?_
 refine wl rfl (ptr W.heap.size) _ (run_boxA (.tmp 1) rfl (opC kd N vy px vk) rfl) ?_
 have hb_ := below_alloc W (.cells (opC kd N vy px vk).toArray 33)
 have r_ := Row.new W 33 (opC kd N vy px vk)
 obtain ⟨W1, hW_⟩ : ∃ U_ : World, U_ = W.alloc (.cells (opC kd N vy px vk).toArray 33) := ⟨_, rfl⟩
 obtain ⟨q, hq_⟩ : ∃ q, q = W.heap.size := ⟨_, rfl⟩
 rw [← hW_] at hb_
 rw [← hW_, ← hq_] at r_
 rw [← hW_, ← hq_]
 have H1 : Hid (Row W1 q 33 (opC kd N vy px vk) ∧ (HtW w W1 c gp gh gf gm m n us K) ∧ (Sd w W1 c gp gh gf gm gs gr n us vu vb bl ever dims) ∧ Out w W1 c gh gf gm q) := ⟨r_, HM.out.1.bel hb_, HM.out.2.1.bel hb_, Out.new HM.out.1 (by omega) r_.lt⟩
 clear r_ hb_ hW_ hq_
 simp only [Act.put, aS, aC, aZ]
 refine wl rfl (.bool false) _ (run_asZ (.const (.bool false)) rfl (.bool false) rfl) ?_
 simp only [Act.put, aS, aC, aZ]
 refine wpList_nil ?_
 go_upto_region 1 with fail
 refine wp_region_lit ?_
 refine wl rfl (ptr gs) _ (run_mvZ (.tmp 0) rfl (ptr gs) rfl) ?_
 refine wl rfl (ptr gs) _ (run_nil (.tmp 16) rfl ⟨gs, 0, none⟩ rfl) ?_
 refine wl rfl (.pointer (some ⟨gs, 0 + 2, none⟩)) _ (run_fieldOp' f38_2 (.tmp 17) rfl gs (0) rfl) ?_
 refine wl rfl (ptr gr) _ (run_load1 o36 (.tmp 18) rfl gs (0 + 2) rfl (ptr gr) (H1.out.2.2.1.row.at 2 _ rfl)) ?_
 simp only [Act.put, aS, aC, aZ]
 refine wl rfl (ptr gr) _ (run_nil (.tmp 19) rfl ⟨gr, 0, none⟩ rfl) ?_
 refine wl rfl (.pointer (some ⟨gr, 0 + 2, none⟩)) _ (run_fieldOp' f60_2 (.tmp 20) rfl gr (0) rfl) ?_
 refine wl rfl vu _ (run_load1 o43 (.tmp 21) rfl gr (0 + 2) rfl vu (H1.out.2.2.1.r.row.at 2 _ rfl)) ?_
 refine wl rfl (.int .i64 (us.length : Nat)) _ (run_lenPI HM.out.2.1.r.u HM.out.2.2.1 (.tmp 22) rfl rfl) ?_
 simp only [Act.put, aS, aC, aZ]
 refine wl rfl (.int .i64 (us.length : Nat)) _ (run_asZ (.tmp 23) rfl (.int .i64 (us.length : Nat)) rfl) ?_
 simp only [Act.put, aS, aC, aZ]
 refine wpList_nil ?_
 go_upto_region 2 with fail
 refine wp_region_lit ?_
 refine wl rfl (.pointer (some ⟨q, 0 + 0, none⟩)) _ (run_fieldOp' f33_0 (.tmp 3) rfl q (0) rfl) ?_
 refine wl rfl (.int .i64 kd) _ (run_load1 o3 (.tmp 24) rfl q (0 + 0) rfl (.int .i64 kd) (H1.out.1.at 0 _ rfl)) ?_
 simp only [Act.put, aS, aC, aZ]
 refine wpList_callW eN11 [.tmp 25, .const (.int .i64 10)] _ rfl rfl [(.int .i64 kd), (.int .i64 10)] rfl ?_
 refine (which_any W1 kd 10 (by decide) HM.out.2.2.2.2.hk.1 HM.out.2.2.2.2.hk.2).mono ?_
 rintro e X_ ⟨he_, rfl⟩
 rw [HW_.out] at he_
 subst he_
 refine ⟨_, rfl, ?_⟩
 simp only [Act.put, aS, aC, aZ]
 refine wpList_nil ?_
 go_upto_region 3 with fail
 refine wp_region_lit ?_
 refine wl rfl (.bool false) _ (run_eqZ (.tmp 26) (.const (.int .i64 4)) rfl 8 4 rfl rfl false rfl) ?_
 refine wl rfl (.bool false) _ (run_asZ (.tmp 28) rfl (.bool false) rfl) ?_
 simp only [Act.put, aS, aC, aZ]
 refine wpList_nil ?_
 go_upto_region 10 with fail
 refine wp_region_lit ?_
 refine wl rfl (.bool false) _ (run_eqZ (.tmp 26) (.const (.int .i64 5)) rfl 8 5 rfl rfl false rfl) ?_
 refine wl rfl (.bool false) _ (run_asZ (.tmp 59) rfl (.bool false) rfl) ?_
 simp only [Act.put, aS, aC, aZ]
 refine wpList_nil ?_
 go_upto_region 16 with fail
 refine wp_region_lit ?_
 refine wl rfl (.bool false) _ (run_eqZ (.tmp 26) (.const (.int .i64 6)) rfl 8 6 rfl rfl false rfl) ?_
 refine wl rfl (.bool false) _ (run_asZ (.tmp 103) rfl (.bool false) rfl) ?_
 simp only [Act.put, aS, aC, aZ]
 refine wpList_nil ?_
 go_upto_region 25 with fail
 refine wp_region_lit ?_
 refine wl rfl (.bool false) _ (run_eqZ (.tmp 26) (.const (.int .i64 7)) rfl 8 7 rfl rfl false rfl) ?_
 refine wl rfl (.bool false) _ (run_asZ (.tmp 171) rfl (.bool false) rfl) ?_
 simp only [Act.put, aS, aC, aZ]
 refine wpList_nil ?_
 go_upto_region 28 with fail
 refine wp_region_lit ?_
 refine wl rfl (.bool true) _ (run_eqZ (.tmp 26) (.const (.int .i64 8)) rfl 8 8 rfl rfl true rfl) ?_
 refine wl rfl (.bool true) _ (run_asZ (.tmp 180) rfl (.bool true) rfl) ?_
 simp only [Act.put, aS, aC, aZ]
 refine wpList_nil ?_
 go_upto_region 29 with fail
 refine wp_region_held (S := fun X => Row X gs 38 (scells gp gh gr (ever : Nat) (dims : Nat)) ∧ Row X q 33 (opC kd N vy px vk)) (by kernel_rfl) ?_
 show wpAnyH _ _ _ _ _ 7 (Array.replicate 7 false) _ _
 obtain ⟨X, hX⟩ : ∃ X : World, X = { W1 with drawn := W1.drawn + 1 } := ⟨_, rfl⟩
 rw [← hX]
 have HBX : Hid (Below W1.heap.size W1 X) := (by rw [hX]; exact ⟨rfl, rfl, rfl, Nat.le_refl _, fun _ _ => rfl⟩)
 have HD : Hid ((HtW w X c gp gh gf gm m n us K) ∧ (Sd w X c gp gh gf gm gs gr n us vu vb bl ever dims)) := ⟨H1.out.2.1.bel HBX.out, H1.out.2.2.1.bel HBX.out⟩
 have HO : Hid (Out w X c gh gf gm q ∧ Row X q 33 (opC kd N vy px vk)) := ⟨H1.out.2.2.2.bel HBX.out.size, H1.out.1.later HBX.out H1.out.1.lt⟩
 have HS_ : Row X gs 38 (scells gp gh gr (ever : Nat) (dims : Nat)) ∧ Row X q 33 (opC kd N vy px vk) := ⟨HD.out.2.row, HO.out.2⟩
 clear hX
 refine tH 0 181 rfl rfl (gRun rfl (ptr gs) fun _ h => run_mvZ (.tmp 0) rfl (ptr gs) rfl) HS_ ?_
 refine tH 1 182 rfl rfl (gRun rfl (ptr gs) fun _ h => run_nil (.tmp 181) rfl ⟨gs, 0, none⟩ rfl) HS_ ?_
 refine tH 2 183 rfl rfl (gRun rfl (.pointer (some ⟨gs, 0 + 0, none⟩)) fun _ h => run_fieldOp' f38_0 (.tmp 182) rfl gs (0) rfl) HS_ ?_
 refine tH 3 184 rfl rfl (gRun rfl (ptr gp) fun _ h => run_load1 o34 (.tmp 183) rfl gs (0 + 0) rfl (ptr gp) (h.1.at 0 _ rfl)) HS_ ?_
 simp only [Act.put, aS, aC, aZ]
 refine tH 4 185 rfl rfl (gRun rfl (.pointer (some ⟨q, 0 + 7, none⟩)) fun _ h => run_fieldOp' f33_4 (.tmp 3) rfl q (0) rfl) HS_ ?_
 refine tH 5 186 rfl rfl (gRun rfl vk fun _ h => run_load1 o31 (.tmp 185) rfl q (0 + 7) rfl vk (h.2.at 7 _ rfl)) HS_ ?_
 simp only [Act.put, aS, aC, aZ]
 refine oneH (i := 6) (by kernel_rfl) ?_
 refine opCallG (some 187) rfl rfl rfl 15 _ (run_call eN15 [.tmp 184, .tmp 186] _ rfl [(ptr gp), vk] rfl) ?_
 refine (HD.out.1.pl.boot (by omega) vk ks (keepIn HD.out.1.pl HM.out.2.2.2.2.ks)).mono ?_
 rintro e Y1 ⟨rfl, c2, hs_, hp_⟩
 refine ⟨_, rfl, ?_⟩
 have HE : Hid (Cl w Y1 c2 gp (m.boot ks) n us K ∧ (Sd w Y1 c2 gp gh gf gm gs gr n us vu vb bl ever dims)) := ⟨HD.out.1.clB ks hp_, HD.out.2.sq (hs_.sq gf gm)⟩
 replace HS_ : Row Y1 gs 38 (scells gp gh gr (ever : Nat) (dims : Nat)) ∧ Row Y1 q 33 (opC kd N vy px vk) := ⟨HE.out.2.row, HO.out.1.row (hs_.sq gf gm) HO.out.2⟩
 clear hs_ hp_
 refine ⟨HS_, ?_⟩
 simp only [Act.put, aS, aC, aZ]
 refine wpAnyH_done (by kernel_rfl) ?_ _
 go_upto_region 30 with fail
 refine wp_region_lit ?_
 refine wl rfl (ptr gs) _ (run_mvZ (.tmp 0) rfl (ptr gs) rfl) ?_
 simp only [Act.put, aS, aC, aZ]
 refine wpList_callW eN16 [.tmp 188] _ rfl rfl [(ptr gs)] rfl ?_
 refine (opened_any HE.out.1 HE.out.2 hK0 (by omega)).mono ?_
 rintro e Y2 ⟨rfl, gh2, gf2, gm2, hh_, hd_⟩
 refine ⟨_, rfl, ?_⟩
 have HF : Hid (HtW w Y2 c2 gp gh2 gf2 gm2 (m.boot ks) n us K ∧ Sd w Y2 c2 gp gh2 gf2 gm2 gs gr n us vu vb bl ever dims) := ⟨hh_, hd_⟩
 clear hh_ hd_
 simp only [Act.put, aS, aC, aZ]
 refine wl rfl (.bool true) _ (run_asZ (.tmp 189) rfl (.bool true) rfl) ?_
 simp only [Act.put, aS, aC, aZ]
 refine wpList_nil ?_
 go_wp2_with fail
 rw [HPQ.out]
 exact ⟨rfl, c2, gh2, gf2, gm2, m.boot ks, us, vu, vb, bl, ever, dims, HF.out.1.mono (by omega), HF.out.2, HM.out.2.2.2.1, by omega, by omega, by omega⟩
set_option maxHeartbeats 4000000 in
set_option maxRecDepth 100000 in
theorem sdo9_any {w W : World} {c : Nat → Colour} {gp gh gf gm gs gr n K : Nat} {m : Pl} {us : List (Nat × List Nat)} {vu vb : Value} {bl : List Value} {ever dims : Nat} (h : HtW w W c gp gh gf gm m n us K) (d : Sd w W c gp gh gf gm gs gr n us vu vb bl ever dims) (hR : RoomInv (n / 16) (us.map plc) ever) (E : Nat) (hev : ever ≤ E) (hdm : dims ≤ E) (hK0 : 4096 ≤ K) (hK : K + 20 ≤ 1000000000000) (kd N : Int) (vy : Value) (bs : List Nat) (px : Pq) (vk : Value) (ks : List Int) (o : OpI w kd N vy bs px vk ks) (hkk : whichOf kd 10 = 9) : Calls Tryd.prog 12 #[ptr gs, .agg (opC kd N vy px vk).toArray] W fun e w' => e = .returned (.bool true) ∧ Std w w' gp gs gr n (K + 20) (E + 10) := by
 have HM : Hid ((HtW w W c gp gh gf gm m n us K) ∧ (Sd w W c gp gh gf gm gs gr n us vu vb bl ever dims) ∧ (us.map toP).length = us.length ∧ RoomInv (n / 16) (us.map plc) ever ∧ OpI w kd N vy bs px vk ks) := ⟨h, d, List.length_map _, hR, o⟩
 have hul := h.ok.2
 have HW_ : Hid (whichOf kd 10 = 9) := hkk
 clear h d hR o hkk
 obtain ⟨PQ, HPQ⟩ := exPQ fun (e : Ending) (w' : World) => e = .returned (.bool true) ∧ Std w w' gp gs gr n (K + 20) (E + 10)
 rw [← HPQ.out]
 go_enter Tryd.func12, Tryd.ntmps12
 go_upto_region 0 with fail
 refine wp_region_lit ?_
 refine wl rfl (ptr W.heap.size) _ (run_boxA (.tmp 1) rfl (opC kd N vy px vk) rfl) ?_
 have hb_ := below_alloc W (.cells (opC kd N vy px vk).toArray 33)
 have r_ := Row.new W 33 (opC kd N vy px vk)
 obtain ⟨W1, hW_⟩ : ∃ U_ : World, U_ = W.alloc (.cells (opC kd N vy px vk).toArray 33) := ⟨_, rfl⟩
 obtain ⟨q, hq_⟩ : ∃ q, q = W.heap.size := ⟨_, rfl⟩
 rw [← hW_] at hb_
 rw [← hW_, ← hq_] at r_
 rw [← hW_, ← hq_]
 have H1 : Hid (Row W1 q 33 (opC kd N vy px vk) ∧ (HtW w W1 c gp gh gf gm m n us K) ∧ (Sd w W1 c gp gh gf gm gs gr n us vu vb bl ever dims) ∧ Out w W1 c gh gf gm q) := ⟨r_, HM.out.1.bel hb_, HM.out.2.1.bel hb_, Out.new HM.out.1 (by omega) r_.lt⟩
 clear r_ hb_ hW_ hq_
 simp only [Act.put, aS, aC, aZ]
 refine wl rfl (.bool false) _ (run_asZ (.const (.bool false)) rfl (.bool false) rfl) ?_
 simp only [Act.put, aS, aC, aZ]
 refine wpList_nil ?_
 go_upto_region 1 with fail
 refine wp_region_lit ?_
 refine wl rfl (ptr gs) _ (run_mvZ (.tmp 0) rfl (ptr gs) rfl) ?_
 refine wl rfl (ptr gs) _ (run_nil (.tmp 16) rfl ⟨gs, 0, none⟩ rfl) ?_
 refine wl rfl (.pointer (some ⟨gs, 0 + 2, none⟩)) _ (run_fieldOp' f38_2 (.tmp 17) rfl gs (0) rfl) ?_
 refine wl rfl (ptr gr) _ (run_load1 o36 (.tmp 18) rfl gs (0 + 2) rfl (ptr gr) (H1.out.2.2.1.row.at 2 _ rfl)) ?_
 simp only [Act.put, aS, aC, aZ]
 refine wl rfl (ptr gr) _ (run_nil (.tmp 19) rfl ⟨gr, 0, none⟩ rfl) ?_
 refine wl rfl (.pointer (some ⟨gr, 0 + 2, none⟩)) _ (run_fieldOp' f60_2 (.tmp 20) rfl gr (0) rfl) ?_
 refine wl rfl vu _ (run_load1 o43 (.tmp 21) rfl gr (0 + 2) rfl vu (H1.out.2.2.1.r.row.at 2 _ rfl)) ?_
 refine wl rfl (.int .i64 (us.length : Nat)) _ (run_lenPI HM.out.2.1.r.u HM.out.2.2.1 (.tmp 22) rfl rfl) ?_
 simp only [Act.put, aS, aC, aZ]
 refine wl rfl (.int .i64 (us.length : Nat)) _ (run_asZ (.tmp 23) rfl (.int .i64 (us.length : Nat)) rfl) ?_
 simp only [Act.put, aS, aC, aZ]
 refine wpList_nil ?_
 go_upto_region 2 with fail
 refine wp_region_lit ?_
 refine wl rfl (.pointer (some ⟨q, 0 + 0, none⟩)) _ (run_fieldOp' f33_0 (.tmp 3) rfl q (0) rfl) ?_
 refine wl rfl (.int .i64 kd) _ (run_load1 o3 (.tmp 24) rfl q (0 + 0) rfl (.int .i64 kd) (H1.out.1.at 0 _ rfl)) ?_
 simp only [Act.put, aS, aC, aZ]
 refine wpList_callW eN11 [.tmp 25, .const (.int .i64 10)] _ rfl rfl [(.int .i64 kd), (.int .i64 10)] rfl ?_
 refine (which_any W1 kd 10 (by decide) HM.out.2.2.2.2.hk.1 HM.out.2.2.2.2.hk.2).mono ?_
 rintro e X_ ⟨he_, rfl⟩
 rw [HW_.out] at he_
 subst he_
 refine ⟨_, rfl, ?_⟩
 simp only [Act.put, aS, aC, aZ]
 refine wpList_nil ?_
 go_upto_region 3 with fail
 refine wp_region_lit ?_
 refine wl rfl (.bool false) _ (run_eqZ (.tmp 26) (.const (.int .i64 4)) rfl 9 4 rfl rfl false rfl) ?_
 refine wl rfl (.bool false) _ (run_asZ (.tmp 28) rfl (.bool false) rfl) ?_
 simp only [Act.put, aS, aC, aZ]
 refine wpList_nil ?_
 go_upto_region 10 with fail
 refine wp_region_lit ?_
 refine wl rfl (.bool false) _ (run_eqZ (.tmp 26) (.const (.int .i64 5)) rfl 9 5 rfl rfl false rfl) ?_
 refine wl rfl (.bool false) _ (run_asZ (.tmp 59) rfl (.bool false) rfl) ?_
 simp only [Act.put, aS, aC, aZ]
 refine wpList_nil ?_
 go_upto_region 16 with fail
 refine wp_region_lit ?_
 refine wl rfl (.bool false) _ (run_eqZ (.tmp 26) (.const (.int .i64 6)) rfl 9 6 rfl rfl false rfl) ?_
 refine wl rfl (.bool false) _ (run_asZ (.tmp 103) rfl (.bool false) rfl) ?_
 simp only [Act.put, aS, aC, aZ]
 refine wpList_nil ?_
 go_upto_region 25 with fail
 refine wp_region_lit ?_
 refine wl rfl (.bool false) _ (run_eqZ (.tmp 26) (.const (.int .i64 7)) rfl 9 7 rfl rfl false rfl) ?_
 refine wl rfl (.bool false) _ (run_asZ (.tmp 171) rfl (.bool false) rfl) ?_
 simp only [Act.put, aS, aC, aZ]
 refine wpList_nil ?_
 go_upto_region 28 with fail
 refine wp_region_lit ?_
 refine wl rfl (.bool false) _ (run_eqZ (.tmp 26) (.const (.int .i64 8)) rfl 9 8 rfl rfl false rfl) ?_
 refine wl rfl (.bool false) _ (run_asZ (.tmp 180) rfl (.bool false) rfl) ?_
 simp only [Act.put, aS, aC, aZ]
 refine wpList_nil ?_
 go_upto_region 31 with fail
 refine wp_region_lit ?_
 refine wl rfl (.bool true) _ (run_eqZ (.tmp 26) (.const (.int .i64 9)) rfl 9 9 rfl rfl true rfl) ?_
 refine wl rfl (.bool true) _ (run_asZ (.tmp 191) rfl (.bool true) rfl) ?_
 simp only [Act.put, aS, aC, aZ]
 refine wpList_nil ?_
 go_upto_region 32 with fail
 refine wp_region_lit ?_
 refine wl rfl (ptr gs) _ (run_mvZ (.tmp 0) rfl (ptr gs) rfl) ?_
 simp only [Act.put, aS, aC, aZ]
 refine wpList_callW eN16 [.tmp 192] _ rfl rfl [(ptr gs)] rfl ?_
 refine (opened_any H1.out.2.1.cl H1.out.2.2.1 hK0 (by omega)).mono ?_
 rintro e Y2 ⟨rfl, gh2, gf2, gm2, hh_, hd_⟩
 refine ⟨_, rfl, ?_⟩
 have HF : Hid (HtW w Y2 c gp gh2 gf2 gm2 m n us K ∧ Sd w Y2 c gp gh2 gf2 gm2 gs gr n us vu vb bl ever dims) := ⟨hh_, hd_⟩
 clear hh_ hd_
 simp only [Act.put, aS, aC, aZ]
 refine wl rfl (.bool true) _ (run_asZ (.tmp 193) rfl (.bool true) rfl) ?_
 simp only [Act.put, aS, aC, aZ]
 refine wpList_nil ?_
 go_wp2_with fail
 rw [HPQ.out]
 exact ⟨rfl, c, gh2, gf2, gm2, m, us, vu, vb, bl, ever, dims, HF.out.1.mono (by omega), HF.out.2, HM.out.2.2.2.1, by omega, by omega, by omega⟩
set_option maxHeartbeats 4000000 in
set_option maxRecDepth 100000 in
theorem sdoA_any {w W : World} {c : Nat → Colour} {gp gh gf gm gs gr n K : Nat} {m : Pl} {us : List (Nat × List Nat)} {vu vb : Value} {bl : List Value} {ever dims : Nat} (h : HtW w W c gp gh gf gm m n us K) (d : Sd w W c gp gh gf gm gs gr n us vu vb bl ever dims) (hR : RoomInv (n / 16) (us.map plc) ever) (E : Nat) (hev : ever ≤ E) (hdm : dims ≤ E) (hK0 : 4096 ≤ K) (hK : K + 20 ≤ 1000000000000) (kd N : Int) (vy : Value) (bs : List Nat) (px : Pq) (vk : Value) (ks : List Int) (o : OpI w kd N vy bs px vk ks) (hE : E ≤ 1000000000000) (kk : Nat) (hk4 : kk < 4) (hkk : whichOf kd 10 = kk) : Calls Tryd.prog 12 #[ptr gs, .agg (opC kd N vy px vk).toArray] W fun e w' => e = .returned (.bool true) ∧ Std w w' gp gs gr n (K + 20) (E + 10) := by
 have HM : Hid ((HtW w W c gp gh gf gm m n us K) ∧ (Sd w W c gp gh gf gm gs gr n us vu vb bl ever dims) ∧ (us.map toP).length = us.length ∧ RoomInv (n / 16) (us.map plc) ever ∧ OpI w kd N vy bs px vk ks) := ⟨h, d, List.length_map _, hR, o⟩
 have hul := h.ok.2
 have HW_ : Hid (whichOf kd 10 = kk) := hkk
 clear h d hR o hkk
 obtain ⟨PQ, HPQ⟩ := exPQ fun (e : Ending) (w' : World) => e = .returned (.bool true) ∧ Std w w' gp gs gr n (K + 20) (E + 10)
 rw [← HPQ.out]
 go_enter Tryd.func12, Tryd.ntmps12
 go_upto_region 0 with fail
 refine wp_region_lit ?_
 refine wl rfl (ptr W.heap.size) _ (run_boxA (.tmp 1) rfl (opC kd N vy px vk) rfl) ?_
 have hb_ := below_alloc W (.cells (opC kd N vy px vk).toArray 33)
 have r_ := Row.new W 33 (opC kd N vy px vk)
 obtain ⟨W1, hW_⟩ : ∃ U_ : World, U_ = W.alloc (.cells (opC kd N vy px vk).toArray 33) := ⟨_, rfl⟩
 obtain ⟨q, hq_⟩ : ∃ q, q = W.heap.size := ⟨_, rfl⟩
 rw [← hW_] at hb_
 rw [← hW_, ← hq_] at r_
 rw [← hW_, ← hq_]
 have H1 : Hid (Row W1 q 33 (opC kd N vy px vk) ∧ (HtW w W1 c gp gh gf gm m n us K) ∧ (Sd w W1 c gp gh gf gm gs gr n us vu vb bl ever dims) ∧ Out w W1 c gh gf gm q) := ⟨r_, HM.out.1.bel hb_, HM.out.2.1.bel hb_, Out.new HM.out.1 (by omega) r_.lt⟩
 clear r_ hb_ hW_ hq_
 simp only [Act.put, aS, aC, aZ]
 refine wl rfl (.bool false) _ (run_asZ (.const (.bool false)) rfl (.bool false) rfl) ?_
 simp only [Act.put, aS, aC, aZ]
 refine wpList_nil ?_
 go_upto_region 1 with fail
 refine wp_region_lit ?_
 refine wl rfl (ptr gs) _ (run_mvZ (.tmp 0) rfl (ptr gs) rfl) ?_
 refine wl rfl (ptr gs) _ (run_nil (.tmp 16) rfl ⟨gs, 0, none⟩ rfl) ?_
 refine wl rfl (.pointer (some ⟨gs, 0 + 2, none⟩)) _ (run_fieldOp' f38_2 (.tmp 17) rfl gs (0) rfl) ?_
 refine wl rfl (ptr gr) _ (run_load1 o36 (.tmp 18) rfl gs (0 + 2) rfl (ptr gr) (H1.out.2.2.1.row.at 2 _ rfl)) ?_
 simp only [Act.put, aS, aC, aZ]
 refine wl rfl (ptr gr) _ (run_nil (.tmp 19) rfl ⟨gr, 0, none⟩ rfl) ?_
 refine wl rfl (.pointer (some ⟨gr, 0 + 2, none⟩)) _ (run_fieldOp' f60_2 (.tmp 20) rfl gr (0) rfl) ?_
 refine wl rfl vu _ (run_load1 o43 (.tmp 21) rfl gr (0 + 2) rfl vu (H1.out.2.2.1.r.row.at 2 _ rfl)) ?_
 refine wl rfl (.int .i64 (us.length : Nat)) _ (run_lenPI HM.out.2.1.r.u HM.out.2.2.1 (.tmp 22) rfl rfl) ?_
 simp only [Act.put, aS, aC, aZ]
 refine wl rfl (.int .i64 (us.length : Nat)) _ (run_asZ (.tmp 23) rfl (.int .i64 (us.length : Nat)) rfl) ?_
 simp only [Act.put, aS, aC, aZ]
 refine wpList_nil ?_
 go_upto_region 2 with fail
 refine wp_region_lit ?_
 refine wl rfl (.pointer (some ⟨q, 0 + 0, none⟩)) _ (run_fieldOp' f33_0 (.tmp 3) rfl q (0) rfl) ?_
 refine wl rfl (.int .i64 kd) _ (run_load1 o3 (.tmp 24) rfl q (0 + 0) rfl (.int .i64 kd) (H1.out.1.at 0 _ rfl)) ?_
 simp only [Act.put, aS, aC, aZ]
 refine wpList_callW eN11 [.tmp 25, .const (.int .i64 10)] _ rfl rfl [(.int .i64 kd), (.int .i64 10)] rfl ?_
 refine (which_any W1 kd 10 (by decide) HM.out.2.2.2.2.hk.1 HM.out.2.2.2.2.hk.2).mono ?_
 rintro e X_ ⟨he_, rfl⟩
 rw [HW_.out] at he_
 subst he_
 refine ⟨_, rfl, ?_⟩
 simp only [Act.put, aS, aC, aZ]
 refine wpList_nil ?_
 go_upto_region 3 with fail
 refine wp_region_lit ?_
 refine wl rfl (.bool false) _ (run_eqZ (.tmp 26) (.const (.int .i64 4)) rfl (kk : Nat) 4 rfl rfl false (decide_eq_false (by omega))) ?_
 refine wl rfl (.bool false) _ (run_asZ (.tmp 28) rfl (.bool false) rfl) ?_
 simp only [Act.put, aS, aC, aZ]
 refine wpList_nil ?_
 go_upto_region 10 with fail
 refine wp_region_lit ?_
 refine wl rfl (.bool false) _ (run_eqZ (.tmp 26) (.const (.int .i64 5)) rfl (kk : Nat) 5 rfl rfl false (decide_eq_false (by omega))) ?_
 refine wl rfl (.bool false) _ (run_asZ (.tmp 59) rfl (.bool false) rfl) ?_
 simp only [Act.put, aS, aC, aZ]
 refine wpList_nil ?_
 go_upto_region 16 with fail
 refine wp_region_lit ?_
 refine wl rfl (.bool false) _ (run_eqZ (.tmp 26) (.const (.int .i64 6)) rfl (kk : Nat) 6 rfl rfl false (decide_eq_false (by omega))) ?_
 refine wl rfl (.bool false) _ (run_asZ (.tmp 103) rfl (.bool false) rfl) ?_
 simp only [Act.put, aS, aC, aZ]
 refine wpList_nil ?_
 go_upto_region 25 with fail
 refine wp_region_lit ?_
 refine wl rfl (.bool false) _ (run_eqZ (.tmp 26) (.const (.int .i64 7)) rfl (kk : Nat) 7 rfl rfl false (decide_eq_false (by omega))) ?_
 refine wl rfl (.bool false) _ (run_asZ (.tmp 171) rfl (.bool false) rfl) ?_
 simp only [Act.put, aS, aC, aZ]
 refine wpList_nil ?_
 go_upto_region 28 with fail
 refine wp_region_lit ?_
 refine wl rfl (.bool false) _ (run_eqZ (.tmp 26) (.const (.int .i64 8)) rfl (kk : Nat) 8 rfl rfl false (decide_eq_false (by omega))) ?_
 refine wl rfl (.bool false) _ (run_asZ (.tmp 180) rfl (.bool false) rfl) ?_
 simp only [Act.put, aS, aC, aZ]
 refine wpList_nil ?_
 go_upto_region 31 with fail
 refine wp_region_lit ?_
 refine wl rfl (.bool false) _ (run_eqZ (.tmp 26) (.const (.int .i64 9)) rfl (kk : Nat) 9 rfl rfl false (decide_eq_false (by omega))) ?_
 refine wl rfl (.bool false) _ (run_asZ (.tmp 191) rfl (.bool false) rfl) ?_
 simp only [Act.put, aS, aC, aZ]
 refine wpList_nil ?_
 go_upto_region 33 with fail
 refine wp_region_lit ?_
 refine wl rfl (ptr gs) _ (run_mvZ (.tmp 0) rfl (ptr gs) rfl) ?_
 refine wl rfl (.agg ((opC kd N vy px vk)).toArray) _ (run_loadA ag33 (.tmp 3) rfl q (0) rfl ((opC kd N vy px vk)) rfl (rows_one H1.out.1)) ?_
 simp only [Act.put, aS, aC, aZ]
 refine wpList_callW eN23 [.tmp 194, .tmp 195] _ rfl rfl [(ptr gs), (.agg ((opC kd N vy px vk)).toArray)] rfl ?_
 refine (sappendF_any H1.out.2.1 H1.out.2.2.1 hK0 hK E hev hdm hE HM.out.2.2.2.1 vy bs (HM.out.2.2.2.2.b _ H1.out.2.1.pl.below) (Or.inl HM.out.2.2.2.2.b) HM.out.2.2.2.2.l (opC kd N vy px vk) rfl vk ks ⟨rfl, HM.out.2.2.2.2.ks⟩).mono ?_
 rintro e Y1 ⟨rfl, hs_⟩
 refine ⟨_, rfl, ?_⟩
 have HF : Hid (Std w Y1 gp gs gr n (K + 20) (E + 10)) := hs_
 clear hs_
 simp only [Act.put, aS, aC, aZ]
 refine wl rfl (.bool true) _ (run_asZ (.tmp 196) rfl (.bool true) rfl) ?_
 simp only [Act.put, aS, aC, aZ]
 refine wpList_nil ?_
 go_wp2_with fail
 rw [HPQ.out]
 exact ⟨rfl, HF.out⟩

end Go.Proofs.YthgidfoidbgnaaaDoor

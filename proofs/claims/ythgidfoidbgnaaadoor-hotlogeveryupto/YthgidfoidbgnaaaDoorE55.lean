/- Layer 14: the stand does a thing, whichever it is. -/
import Derived.Test.YthgidfoidbgnaaaDoorE54
namespace Go.Proofs.YthgidfoidbgnaaaDoor
open Go.RowKit Go.Maps


section
variable {w W W' : World} {c c' : Nat → Colour} {gp gh gf gm gr n K : Nat} {m : Pl} {us : List (Nat × List Nat)} {vu vb : Value} {bl : List Value}
theorem BNew.ch {B : Nat} {S : Nat → Prop} {v : Value} {cs : List Nat} (h : BNew B W v cs) (hc : Ch S W W') (hS : ∀ q, B ≤ q → ¬ S q) : SliceIn W' v cs := by
 by_cases h0 : cs = []
 ·subst h0
  obtain ⟨p, cap, h1, h2, _⟩ := h.1
  exact ⟨p, cap, h1, h2, Or.inl rfl⟩
 ·obtain ⟨g, off, cap, cur, rfl, h2, h3, h4⟩ := h.2 h0
  refine sliceK h.1 fun b e hlt => hc.block b hlt ?_
  have e : g = b := Option.some.inj e
  subst e
  exact hS g h2
theorem HtW.readX (h : HtW w W c gp gh gf gm m n us K) (hK : K ≤ 1000000000000) {u : Nat × List Nat} (hu : u ∈ us) {px : Pq} (hp : px.cells = plC 1 (u.1 : Nat) (costN u.2.length : Nat) px.bd) : Calls Tryd.prog 25 #[ptr gh, .agg px.cells.toArray] W fun e W' => ∃ v, e = .returned (.tuple #[v, .int .i64 0]) ∧ BNew W.heap.size W' v u.2 ∧ Below W.heap.size W W' := by
 rw [hp]
 exact h.read hK hu px.bd
theorem HtW.freeX (h : HtW w W c gp gh gf gm m n us K) (k : Nat) (hk : k < us.length) {px : Pq} (hp : px.cells = plC 1 ((us.getD k default).1 : Nat) (costN (us.getD k default).2.length : Nat) px.bd) : Calls Tryd.prog 26 #[ptr gh, .agg px.cells.toArray] W fun e W' => e = .returned (.int .i64 0) ∧ Ch (fun b => b = gf ∨ b = gm) W W' ∧ HtW w W' c gp gh gf gm m n (but us k) K := by
 rw [hp]
 exact h.free k hk px.bd
theorem atZ (r : RfB w W c gh gf gm gr n us vu vb bl) (hul : us.length ≤ 4096) (px : Pq) : Calls Tryd.prog 28 #[ptr gr, .agg px.cells.toArray] W fun e w' => ∃ az : Int, e = .returned (.int .i64 az) ∧ Below W.heap.size W w' ∧ ((∃ k : Nat, k < us.length ∧ az = (k : Nat) ∧ px.cells = plC 1 ((us.getD k default).1 : Nat) (costN (us.getD k default).2.length : Nat) px.bd) ∨ (az = -1 ∧ ¬ (px.dv = 1 ∧ ∃ u ∈ us, px.at_ = (u.1 : Nat) ∧ px.ln = (costN u.2.length : Nat)))) := by
 refine (at_any r hul px).mono ?_
 rintro e W' ⟨hb, ⟨k, hk, rfl, h1, h2, h3⟩ | ⟨rfl, hno⟩⟩
 ·exact ⟨_, rfl, hb, Or.inl ⟨k, hk, rfl, by unfold Pq.cells; rw [h1, h2, h3]⟩⟩
 ·exact ⟨_, rfl, hb, Or.inr ⟨rfl, hno⟩⟩
end
theorem but_sub {us : List (Nat × List Nat)} {k : Nat} {v : Nat × Nat} (h : v ∈ (but us k).map plc) : v ∈ us.map plc := by
 obtain ⟨u, hu, rfl⟩ := List.mem_map.1 h
 refine List.mem_map.2 ⟨u, ?_, rfl⟩
 rcases List.mem_append.1 hu with h | h
 ·exact List.mem_of_mem_take h
 ·exact List.mem_of_mem_drop h
set_option maxHeartbeats 4000000 in
set_option maxRecDepth 100000 in
theorem sdo6_any {w W : World} {c : Nat → Colour} {gp gh gf gm gs gr n K : Nat} {m : Pl} {us : List (Nat × List Nat)} {vu vb : Value} {bl : List Value} {ever dims : Nat} (h : HtW w W c gp gh gf gm m n us K) (d : Sd w W c gp gh gf gm gs gr n us vu vb bl ever dims) (hR : RoomInv (n / 16) (us.map plc) ever) (E : Nat) (hev : ever ≤ E) (hdm : dims ≤ E) (hK0 : 4096 ≤ K) (hK : K + 20 ≤ 1000000000000) (kd N : Int) (vy : Value) (bs : List Nat) (px : Pq) (vk : Value) (ks : List Int) (o : OpI w kd N vy bs px vk ks) (hkk : whichOf kd 10 = 6) : Calls Tryd.prog 12 #[ptr gs, .agg (opC kd N vy px vk).toArray] W fun e w' => e = .returned (.bool true) ∧ Std w w' gp gs gr n (K + 20) (E + 10) := by
 have HM : Hid ((HtW w W c gp gh gf gm m n us K) ∧ (Sd w W c gp gh gf gm gs gr n us vu vb bl ever dims) ∧ (us.map toP).length = us.length ∧ RoomInv (n / 16) (us.map plc) ever ∧ OpI w kd N vy bs px vk ks) := ⟨h, d, List.length_map _, hR, o⟩
 have hul := h.ok.2
 have HW_ : Hid (whichOf kd 10 = 6) := hkk
 clear h d hR o hkk
 obtain ⟨PQ, HPQ⟩ := exPQ fun (e : Ending) (w' : World) => e = .returned (.bool true) ∧ Std w w' gp gs gr n (K + 20) (E + 10)
 rw [← HPQ.out]
 go_enter Tryd.func12, Tryd.ntmps12
 go_upto_region 0 with fail
 refine wp_region_lit ?_
 refine wl rfl (ptr W.heap.size) _ (run_boxA (.tmp 1) rfl (opC kd N vy px vk) rfl) ?_
 have hb_ := below_alloc W (.cells (opC kd N vy px vk).toArray 33)
 have r_ := Row.new W 33 (opC kd N vy px vk)
 obtain ⟨W1, hW_⟩ : ∃ U_ : World, U_ = W.alloc (.cells (opC kd N vy px vk).toArray 33) := ⟨_, rfl⟩
 obtain ⟨q, hq_⟩ : ∃ q, q = W.heap.size := ⟨_, rfl⟩
 rw [← hW_] at hb_
 rw [← hW_, ← hq_] at r_
 rw [← hW_, ← hq_]
 have H1 : Hid (Row W1 q 33 (opC kd N vy px vk) ∧ (HtW w W1 c gp gh gf gm m n us K) ∧ (Sd w W1 c gp gh gf gm gs gr n us vu vb bl ever dims) ∧ Out w W1 c gh gf gm q) := ⟨r_, HM.out.1.bel hb_, HM.out.2.1.bel hb_, Out.new HM.out.1 (by omega) r_.lt⟩
 clear r_ hb_ hW_ hq_
 simp only [Act.put, aS, aC, aZ]
 refine wl rfl (.bool false) _ (run_asZ (.const (.bool false)) rfl (.bool false) rfl) ?_
 simp only [Act.put, aS, aC, aZ]
 refine wpList_nil ?_
 go_upto_region 1 with fail
 refine wp_region_lit ?_
 refine wl rfl (ptr gs) _ (run_mvZ (.tmp 0) rfl (ptr gs) rfl) ?_
 refine wl rfl (ptr gs) _ (run_nil (.tmp 16) rfl ⟨gs, 0, none⟩ rfl) ?_
 refine wl rfl (.pointer (some ⟨gs, 0 + 2, none⟩)) _ (run_fieldOp' f38_2 (.tmp 17) rfl gs (0) rfl) ?_
 refine wl rfl (ptr gr) _ (run_load1 o36 (.tmp 18) rfl gs (0 + 2) rfl (ptr gr) (H1.out.2.2.1.row.at 2 _ rfl)) ?_
 simp only [Act.put, aS, aC, aZ]
 refine wl rfl (ptr gr) _ (run_nil (.tmp 19) rfl ⟨gr, 0, none⟩ rfl) ?_
 refine wl rfl (.pointer (some ⟨gr, 0 + 2, none⟩)) _ (run_fieldOp' f60_2 (.tmp 20) rfl gr (0) rfl) ?_
 refine wl rfl vu _ (run_load1 o43 (.tmp 21) rfl gr (0 + 2) rfl vu (H1.out.2.2.1.r.row.at 2 _ rfl)) ?_
 refine wl rfl (.int .i64 (us.length : Nat)) _ (run_lenPI HM.out.2.1.r.u HM.out.2.2.1 (.tmp 22) rfl rfl) ?_
 simp only [Act.put, aS, aC, aZ]
 refine wl rfl (.int .i64 (us.length : Nat)) _ (run_asZ (.tmp 23) rfl (.int .i64 (us.length : Nat)) rfl) ?_
 simp only [Act.put, aS, aC, aZ]
 refine wpList_nil ?_
 go_upto_region 2 with fail
 refine wp_region_lit ?_
 refine wl rfl (.pointer (some ⟨q, 0 + 0, none⟩)) _ (run_fieldOp' f33_0 (.tmp 3) rfl q (0) rfl) ?_
 refine wl rfl (.int .i64 kd) _ (run_load1 o3 (.tmp 24) rfl q (0 + 0) rfl (.int .i64 kd) (H1.out.1.at 0 _ rfl)) ?_
 simp only [Act.put, aS, aC, aZ]
 refine wpList_callW eN11 [.tmp 25, .const (.int .i64 10)] _ rfl rfl [(.int .i64 kd), (.int .i64 10)] rfl ?_
 refine (which_any W1 kd 10 (by decide) HM.out.2.2.2.2.hk.1 HM.out.2.2.2.2.hk.2).mono ?_
 rintro e X_ ⟨he_, rfl⟩
 rw [HW_.out] at he_
 subst he_
 refine ⟨_, rfl, ?_⟩
 simp only [Act.put, aS, aC, aZ]
 refine wpList_nil ?_
 go_upto_region 3 with fail
 refine wp_region_lit ?_
 refine wl rfl (.bool false) _ (run_eqZ (.tmp 26) (.const (.int .i64 4)) rfl 6 4 rfl rfl false rfl) ?_
 refine wl rfl (.bool false) _ (run_asZ (.tmp 28) rfl (.bool false) rfl) ?_
 simp only [Act.put, aS, aC, aZ]
 refine wpList_nil ?_
 go_upto_region 10 with fail
 refine wp_region_lit ?_
 refine wl rfl (.bool false) _ (run_eqZ (.tmp 26) (.const (.int .i64 5)) rfl 6 5 rfl rfl false rfl) ?_
 refine wl rfl (.bool false) _ (run_asZ (.tmp 59) rfl (.bool false) rfl) ?_
 simp only [Act.put, aS, aC, aZ]
 refine wpList_nil ?_
 go_upto_region 16 with fail
 refine wp_region_lit ?_
 refine wl rfl (.bool true) _ (run_eqZ (.tmp 26) (.const (.int .i64 6)) rfl 6 6 rfl rfl true rfl) ?_
 refine wl rfl (.bool true) _ (run_asZ (.tmp 103) rfl (.bool true) rfl) ?_
 simp only [Act.put, aS, aC, aZ]
 refine wpList_nil ?_
 have HB0 : Hid ((HtW w W1 c gp gh gf gm m n us K) ∧ (Sd w W1 c gp gh gf gm gs gr n us vu vb bl ever dims) ∧ Row W1 q 33 (opC kd N vy px vk) ∧ Out w W1 c gh gf gm q) := ⟨H1.out.2.1, H1.out.2.2.1, H1.out.1, H1.out.2.2.2⟩
 clear H1
 go_upto_region 17 with fail
 refine wp_region_held (S := fun X => Row X gs 38 (scells gp gh gr (ever : Nat) (dims : Nat)) ∧ Row X gr 60 [.int .i64 1, .int .i64 (n : Nat), vu, vb] ∧ Row X q 33 (opC kd N vy px vk)) (by kernel_rfl) ?_
 show wpAnyH _ _ _ _ _ 8 (Array.replicate 8 false) _ _
 obtain ⟨X, hX⟩ : ∃ X : World, X = { W1 with drawn := W1.drawn + 1 } := ⟨_, rfl⟩
 rw [← hX]
 have HBX : Hid (Below W1.heap.size W1 X) := (by rw [hX]; exact ⟨rfl, rfl, rfl, Nat.le_refl _, fun _ _ => rfl⟩)
 have HD : Hid ((HtW w X c gp gh gf gm m n us K) ∧ (Sd w X c gp gh gf gm gs gr n us vu vb bl ever dims) ∧ Row X q 33 (opC kd N vy px vk) ∧ Out w X c gh gf gm q) := ⟨HB0.out.1.bel HBX.out, HB0.out.2.1.bel HBX.out, HB0.out.2.2.1.later HBX.out HB0.out.2.2.1.lt, HB0.out.2.2.2.bel HBX.out.size⟩
 clear HBX
 have HS_ : Row X gs 38 (scells gp gh gr (ever : Nat) (dims : Nat)) ∧ Row X gr 60 [.int .i64 1, .int .i64 (n : Nat), vu, vb] ∧ Row X q 33 (opC kd N vy px vk) := ⟨HD.out.2.1.row, HD.out.2.1.r.row, HD.out.2.2.1⟩
 clear hX
 refine tH 0 104 rfl rfl (gRun rfl (ptr gs) fun _ h => run_mvZ (.tmp 0) rfl (ptr gs) rfl) HS_ ?_
 refine tH 1 105 rfl rfl (gRun rfl (ptr gs) fun _ h => run_nil (.tmp 104) rfl ⟨gs, 0, none⟩ rfl) HS_ ?_
 refine tH 2 106 rfl rfl (gRun rfl (.pointer (some ⟨gs, 0 + 2, none⟩)) fun _ h => run_fieldOp' f38_2 (.tmp 105) rfl gs (0) rfl) HS_ ?_
 refine tH 3 107 rfl rfl (gRun rfl (ptr gr) fun _ h => run_load1 o36 (.tmp 106) rfl gs (0 + 2) rfl (ptr gr) (h.1.at 2 _ rfl)) HS_ ?_
 simp only [Act.put, aS, aC, aZ]
 refine tH 4 108 rfl rfl (gRun rfl (.pointer (some ⟨q, 0 + 3, none⟩)) fun _ h => run_fieldOp' f33_3 (.tmp 3) rfl q (0) rfl) HS_ ?_
 refine tH 5 109 rfl rfl (gRun rfl (.agg (px.cells).toArray) fun _ h => run_loadA ag30 (.tmp 108) rfl q (0 + 3) rfl (px.cells) rfl (opX h.2.2)) HS_ ?_
 simp only [Act.put, aS, aC, aZ]
 refine oneH (i := 6) (by kernel_rfl) ?_
 refine opCallG (some 110) rfl rfl rfl 28 _ (run_call eN28 [.tmp 107, .tmp 109] _ rfl [(ptr gr), (.agg (px.cells).toArray)] rfl) ?_
 refine (atZ HD.out.2.1.r hul px).mono ?_
 rintro e Y1 ⟨az, rfl, hb_, hz_⟩
 refine ⟨_, rfl, ?_⟩
 have HAZ : Hid ((∃ k : Nat, k < us.length ∧ az = (k : Nat) ∧ px.cells = plC 1 ((us.getD k default).1 : Nat) (costN (us.getD k default).2.length : Nat) px.bd) ∨ (az = -1 ∧ ¬ (px.dv = 1 ∧ ∃ u ∈ us, px.at_ = (u.1 : Nat) ∧ px.ln = (costN u.2.length : Nat)))) := hz_
 replace HD : Hid ((HtW w Y1 c gp gh gf gm m n us K) ∧ (Sd w Y1 c gp gh gf gm gs gr n us vu vb bl ever dims) ∧ Row Y1 q 33 (opC kd N vy px vk) ∧ Out w Y1 c gh gf gm q) := ⟨HD.out.1.bel hb_, HD.out.2.1.bel hb_, HD.out.2.2.1.later hb_ HD.out.2.2.1.lt, HD.out.2.2.2.bel hb_.size⟩
 replace HS_ : Row Y1 gs 38 (scells gp gh gr (ever : Nat) (dims : Nat)) ∧ Row Y1 gr 60 [.int .i64 1, .int .i64 (n : Nat), vu, vb] ∧ Row Y1 q 33 (opC kd N vy px vk) := ⟨HD.out.2.1.row, HD.out.2.1.r.row, HD.out.2.2.1⟩
 clear hb_ hz_
 refine ⟨HS_, ?_⟩
 simp only [Act.put, aS, aC, aZ]
 refine tH 7 11 rfl rfl (gRun rfl (.int .i64 az) fun _ h => run_asZ (.tmp 110) rfl (.int .i64 az) rfl) HS_ ?_
 simp only [Act.put, aS, aC, aZ]
 refine wpAnyH_done (by kernel_rfl) ?_ _
 have HB1 : Hid ((HtW w Y1 c gp gh gf gm m n us K) ∧ (Sd w Y1 c gp gh gf gm gs gr n us vu vb bl ever dims) ∧ Row Y1 q 33 (opC kd N vy px vk) ∧ Out w Y1 c gh gf gm q) := HD.out
 clear HD HS_ HB0
 rcases HAZ.out with ⟨k, hk, rfl, hpc⟩ | ⟨rfl, hno⟩
 ·obtain ⟨u, hu⟩ : ∃ u, u = us.getD k default := ⟨_, rfl⟩
  obtain ⟨vi, hvi⟩ : ∃ v, v = bl.getD k default := ⟨_, rfl⟩
  have hum : u ∈ us := hu ▸ getD_in us k hk
  obtain ⟨bb, hxb, hcb⟩ := row57 HM.out.2.1.r.b k hk
  obtain ⟨hh1, hh2, _⟩ := HM.out.1.held u hum
  rw [← hvi] at hcb
  have HX : Hid ((∀ w', (Instr.indexAt 57 vb (.int .i64 (k : Nat))).run Tryd.prog w' = .ok (.pointer (some ⟨bb, k * 1, none⟩)) w') ∧ (∀ W' : World, W'.ownsRow 0 28 1 vb us.length bl → W'.cell? ⟨bb, k * 1, none⟩ = some vi) ∧ u ∈ us ∧ u.2.length ≤ 512 ∧ (∀ c ∈ u.2, c < 256) ∧ vi = bl.getD k default ∧ u = us.getD k default ∧ px.cells = plC 1 ((us.getD k default).1 : Nat) (costN (us.getD k default).2.length : Nat) px.bd) := ⟨hxb, hcb, hum, hh1, hh2, hvi, hu, hpc⟩
  clear hu hvi hum hxb hcb hh1 hh2 hpc HAZ
  go_upto_region 18 with fail
  refine wp_region_held (S := fun X => Row X gs 38 (scells gp gh gr (ever : Nat) (dims : Nat)) ∧ Row X gr 60 [.int .i64 1, .int .i64 (n : Nat), vu, vb] ∧ Row X q 33 (opC kd N vy px vk)) (by kernel_rfl) ?_
  show wpAnyH _ _ _ _ _ 12 (Array.replicate 12 false) _ _
  obtain ⟨X, hX⟩ : ∃ X : World, X = { Y1 with drawn := Y1.drawn + 1 } := ⟨_, rfl⟩
  rw [← hX]
  have HBX : Hid (Below Y1.heap.size Y1 X) := (by rw [hX]; exact ⟨rfl, rfl, rfl, Nat.le_refl _, fun _ _ => rfl⟩)
  have HD : Hid ((HtW w X c gp gh gf gm m n us K) ∧ (Sd w X c gp gh gf gm gs gr n us vu vb bl ever dims) ∧ Row X q 33 (opC kd N vy px vk) ∧ Out w X c gh gf gm q) := ⟨HB1.out.1.bel HBX.out, HB1.out.2.1.bel HBX.out, HB1.out.2.2.1.later HBX.out HB1.out.2.2.1.lt, HB1.out.2.2.2.bel HBX.out.size⟩
  clear HBX
  have HS_ : Row X gs 38 (scells gp gh gr (ever : Nat) (dims : Nat)) ∧ Row X gr 60 [.int .i64 1, .int .i64 (n : Nat), vu, vb] ∧ Row X q 33 (opC kd N vy px vk) := ⟨HD.out.2.1.row, HD.out.2.1.r.row, HD.out.2.2.1⟩
  clear hX
  refine tH 0 112 rfl rfl (gRun rfl (ptr gs) fun _ h => run_mvZ (.tmp 0) rfl (ptr gs) rfl) HS_ ?_
  refine tH 1 113 rfl rfl (gRun rfl (ptr gs) fun _ h => run_nil (.tmp 112) rfl ⟨gs, 0, none⟩ rfl) HS_ ?_
  refine tH 2 114 rfl rfl (gRun rfl (.pointer (some ⟨gs, 0 + 1, none⟩)) fun _ h => run_fieldOp' f38_1 (.tmp 113) rfl gs (0) rfl) HS_ ?_
  refine tH 3 115 rfl rfl (gRun rfl (ptr gh) fun _ h => run_load1 o35 (.tmp 114) rfl gs (0 + 1) rfl (ptr gh) (h.1.at 1 _ rfl)) HS_ ?_
  simp only [Act.put, aS, aC, aZ]
  refine tH 4 116 rfl rfl (gRun rfl (.pointer (some ⟨q, 0 + 3, none⟩)) fun _ h => run_fieldOp' f33_3 (.tmp 3) rfl q (0) rfl) HS_ ?_
  refine tH 5 117 rfl rfl (gRun rfl (.agg (px.cells).toArray) fun _ h => run_loadA ag30 (.tmp 116) rfl q (0 + 3) rfl (px.cells) rfl (opX h.2.2)) HS_ ?_
  simp only [Act.put, aS, aC, aZ]
  refine oneH (i := 6) (by kernel_rfl) ?_
  refine opCallG (some 118) rfl rfl rfl 25 _ (run_call eN25 [.tmp 115, .tmp 117] _ rfl [(ptr gh), (.agg (px.cells).toArray)] rfl) ?_
  refine (HD.out.1.readX (by omega) HX.out.2.2.1 (HX.out.2.2.2.2.2.2.1 ▸ HX.out.2.2.2.2.2.2.2)).mono ?_
  rintro e Y2 ⟨v, rfl, hv_, hb_⟩
  refine ⟨_, rfl, ?_⟩
  have HV : Hid (BNew X.heap.size Y2 v u.2 ∧ gf < X.heap.size ∧ gm < X.heap.size) := ⟨hv_, HD.out.1.lt.2.1, HD.out.1.lt.2.2⟩
  replace HD : Hid ((HtW w Y2 c gp gh gf gm m n us K) ∧ (Sd w Y2 c gp gh gf gm gs gr n us vu vb bl ever dims) ∧ Row Y2 q 33 (opC kd N vy px vk) ∧ Out w Y2 c gh gf gm q) := ⟨HD.out.1.bel hb_, HD.out.2.1.bel hb_, HD.out.2.2.1.later hb_ HD.out.2.2.1.lt, HD.out.2.2.2.bel hb_.size⟩
  replace HS_ : Row Y2 gs 38 (scells gp gh gr (ever : Nat) (dims : Nat)) ∧ Row Y2 gr 60 [.int .i64 1, .int .i64 (n : Nat), vu, vb] ∧ Row Y2 q 33 (opC kd N vy px vk) := ⟨HD.out.2.1.row, HD.out.2.1.r.row, HD.out.2.2.1⟩
  clear hb_ hv_
  refine ⟨HS_, ?_⟩
  simp only [Act.put, aS, aC, aZ]
  refine tH 7 111 rfl rfl (gRun rfl (.tuple #[v, (.int .i64 0)]) fun _ h => run_mvZ (.tmp 118) rfl (.tuple #[v, (.int .i64 0)]) rfl) HS_ ?_
  refine tH 8 119 rfl rfl (gRun rfl v fun _ h => run_extZ (.tmp 111) 0 rfl #[v, (.int .i64 0)] rfl v rfl) HS_ ?_
  refine tH 9 120 rfl rfl (gRun rfl (.int .i64 0) fun _ h => run_extZ (.tmp 111) 1 rfl #[v, (.int .i64 0)] rfl (.int .i64 0) rfl) HS_ ?_
  refine tH 10 12 rfl rfl (gRun rfl v fun _ h => run_asZ (.tmp 119) rfl v rfl) HS_ ?_
  simp only [Act.put, aS, aC, aZ]
  refine tH 11 13 rfl rfl (gRun rfl (.int .i64 0) fun _ h => run_asZ (.tmp 120) rfl (.int .i64 0) rfl) HS_ ?_
  simp only [Act.put, aS, aC, aZ]
  refine wpAnyH_done (by kernel_rfl) ?_ _
  have HB2 : Hid ((HtW w Y2 c gp gh gf gm m n us K) ∧ (Sd w Y2 c gp gh gf gm gs gr n us vu vb bl ever dims) ∧ Row Y2 q 33 (opC kd N vy px vk) ∧ Out w Y2 c gh gf gm q) := HD.out
  clear HD HS_ HB1
  obtain ⟨BB, hBB⟩ : ∃ B, B = X.heap.size := ⟨_, rfl⟩
  rw [← hBB] at HV
  clear hBB
  go_upto_region 19 with fail
  refine wp_region_held (S := fun X => Row X gs 38 (scells gp gh gr (ever : Nat) (dims : Nat)) ∧ Row X gr 60 [.int .i64 1, .int .i64 (n : Nat), vu, vb] ∧ Row X q 33 (opC kd N vy px vk)) (by kernel_rfl) ?_
  show wpAnyH _ _ _ _ _ 8 (Array.replicate 8 false) _ _
  obtain ⟨X, hX⟩ : ∃ X : World, X = { Y2 with drawn := Y2.drawn + 1 } := ⟨_, rfl⟩
  rw [← hX]
  have HBX : Hid (Below Y2.heap.size Y2 X) := (by rw [hX]; exact ⟨rfl, rfl, rfl, Nat.le_refl _, fun _ _ => rfl⟩)
  have HD : Hid ((HtW w X c gp gh gf gm m n us K) ∧ (Sd w X c gp gh gf gm gs gr n us vu vb bl ever dims) ∧ Row X q 33 (opC kd N vy px vk) ∧ Out w X c gh gf gm q) := ⟨HB2.out.1.bel HBX.out, HB2.out.2.1.bel HBX.out, HB2.out.2.2.1.later HBX.out HB2.out.2.2.1.lt, HB2.out.2.2.2.bel HBX.out.size⟩
  have HVX : Hid (BNew BB X v u.2) := HV.out.1.later HBX.out
  clear HBX
  have HS_ : Row X gs 38 (scells gp gh gr (ever : Nat) (dims : Nat)) ∧ Row X gr 60 [.int .i64 1, .int .i64 (n : Nat), vu, vb] ∧ Row X q 33 (opC kd N vy px vk) := ⟨HD.out.2.1.row, HD.out.2.1.r.row, HD.out.2.2.1⟩
  clear hX
  refine tH 0 121 rfl rfl (gRun rfl (ptr gs) fun _ h => run_mvZ (.tmp 0) rfl (ptr gs) rfl) HS_ ?_
  refine tH 1 122 rfl rfl (gRun rfl (ptr gs) fun _ h => run_nil (.tmp 121) rfl ⟨gs, 0, none⟩ rfl) HS_ ?_
  refine tH 2 123 rfl rfl (gRun rfl (.pointer (some ⟨gs, 0 + 1, none⟩)) fun _ h => run_fieldOp' f38_1 (.tmp 122) rfl gs (0) rfl) HS_ ?_
  refine tH 3 124 rfl rfl (gRun rfl (ptr gh) fun _ h => run_load1 o35 (.tmp 123) rfl gs (0 + 1) rfl (ptr gh) (h.1.at 1 _ rfl)) HS_ ?_
  simp only [Act.put, aS, aC, aZ]
  refine tH 4 125 rfl rfl (gRun rfl (.pointer (some ⟨q, 0 + 3, none⟩)) fun _ h => run_fieldOp' f33_3 (.tmp 3) rfl q (0) rfl) HS_ ?_
  refine tH 5 126 rfl rfl (gRun rfl (.agg (px.cells).toArray) fun _ h => run_loadA ag30 (.tmp 125) rfl q (0 + 3) rfl (px.cells) rfl (opX h.2.2)) HS_ ?_
  simp only [Act.put, aS, aC, aZ]
  refine oneH (i := 6) (by kernel_rfl) ?_
  refine opCallG (some 127) rfl rfl rfl 26 _ (run_call eN26 [.tmp 124, .tmp 126] _ rfl [(ptr gh), (.agg (px.cells).toArray)] rfl) ?_
  refine (HD.out.1.freeX k hk HX.out.2.2.2.2.2.2.2).mono ?_
  rintro e Y3 ⟨rfl, hc_, hh_⟩
  refine ⟨_, rfl, ?_⟩
  have HE : Hid ((HtW w Y3 c gp gh gf gm m n (but us k) K) ∧ (Sd w Y3 c gp gh gf gm gs gr n us vu vb bl ever dims) ∧ Row Y3 q 33 (opC kd N vy px vk) ∧ Out w Y3 c gh gf gm q) := ⟨hh_, HD.out.2.1.sq (Sq.one c hc_), HD.out.2.2.2.row (Sq.one c hc_) HD.out.2.2.1, (HD.out.2.2.2.step (Sq.one c hc_)).1⟩
  have HV3 : Hid (SliceIn Y3 v u.2) := HVX.out.ch hc_ (fun q hq e => by have := HV.out.2; omega)
  replace HS_ : Row Y3 gs 38 (scells gp gh gr (ever : Nat) (dims : Nat)) ∧ Row Y3 gr 60 [.int .i64 1, .int .i64 (n : Nat), vu, vb] ∧ Row Y3 q 33 (opC kd N vy px vk) := ⟨HE.out.2.1.row, HE.out.2.1.r.row, HE.out.2.2.1⟩
  clear hc_ hh_
  refine ⟨HS_, ?_⟩
  simp only [Act.put, aS, aC, aZ]
  refine tH 7 14 rfl rfl (gRun rfl (.int .i64 0) fun _ h => run_asZ (.tmp 127) rfl (.int .i64 0) rfl) HS_ ?_
  simp only [Act.put, aS, aC, aZ]
  refine wpAnyH_done (by kernel_rfl) ?_ _
  clear HD HS_ HB2 HVX
  go_upto_region 20 with fail
  refine wp_region_lit ?_
  refine wl rfl (.int .i64 (k : Nat)) _ (run_mvZ (.tmp 11) rfl (.int .i64 (k : Nat)) rfl) ?_
  refine wl rfl (.bool false) _ (run_lssZ (.tmp 128) (.const (.int .i64 0)) rfl (k : Nat) 0 rfl rfl false (decide_eq_false (by omega))) ?_
  simp only [Act.put, aS, aC, aZ]
  refine wpList_nil ?_
  go_upto_region 22 with fail
  refine wp_region_held (S := fun X => Row X gs 38 (scells gp gh gr (ever : Nat) (dims : Nat)) ∧ Row X gr 60 [.int .i64 1, .int .i64 (n : Nat), vu, vb] ∧ X.ownsRow 0 28 1 vb us.length bl ∧ SliceIn X v u.2 ∧ SliceIn X vi u.2) (by kernel_rfl) ?_
  show wpAnyH _ _ _ _ _ 15 (Array.replicate 15 false) _ _
  obtain ⟨X, hX⟩ : ∃ X : World, X = { Y3 with drawn := Y3.drawn + 1 } := ⟨_, rfl⟩
  rw [← hX]
  have HBY : Hid (Below Y3.heap.size Y3 X) := (by rw [hX]; exact ⟨rfl, rfl, rfl, Nat.le_refl _, fun _ _ => rfl⟩)
  replace HE : Hid ((HtW w X c gp gh gf gm m n (but us k) K) ∧ (Sd w X c gp gh gf gm gs gr n us vu vb bl ever dims) ∧ Row X q 33 (opC kd N vy px vk) ∧ Out w X c gh gf gm q) := ⟨HE.out.1.bel HBY.out, HE.out.2.1.bel HBY.out, HE.out.2.2.1.later HBY.out HE.out.2.2.1.lt, HE.out.2.2.2.bel HBY.out.size⟩
  have HS_ : Row X gs 38 (scells gp gh gr (ever : Nat) (dims : Nat)) ∧ Row X gr 60 [.int .i64 1, .int .i64 (n : Nat), vu, vb] ∧ X.ownsRow 0 28 1 vb us.length bl ∧ SliceIn X v u.2 ∧ SliceIn X vi u.2 := ⟨HE.out.2.1.row, HE.out.2.1.r.row, HE.out.2.1.r.b, HV3.out.later HBY.out, (by have hs_ := (HE.out.2.1.r.s k hk).1; rw [← HX.out.2.2.2.2.2.1, ← HX.out.2.2.2.2.2.2.1] at hs_; exact BOwn.slice hs_ HX.out.2.2.2.2.1 (by have := HX.out.2.2.2.1; omega))⟩
  clear hX
  refine tH 0 141 rfl rfl (gRun rfl v fun _ h => run_mvZ (.tmp 12) rfl v rfl) HS_ ?_
  refine tH 1 142 rfl rfl (gRun rfl (.string (strOfNums (u.2.map Int.ofNat))) fun _ h => run_str (.tmp 141) rfl v u.2 rfl h.2.2.2.1) HS_ ?_
  refine tH 2 143 rfl rfl (gRun rfl (ptr gs) fun _ h => run_mvZ (.tmp 0) rfl (ptr gs) rfl) HS_ ?_
  refine tH 3 144 rfl rfl (gRun rfl (ptr gs) fun _ h => run_nil (.tmp 143) rfl ⟨gs, 0, none⟩ rfl) HS_ ?_
  simp only [Act.put, aS, aC, aZ]
  refine tH 4 145 rfl rfl (gRun rfl (.pointer (some ⟨gs, 0 + 2, none⟩)) fun _ h => run_fieldOp' f38_2 (.tmp 144) rfl gs (0) rfl) HS_ ?_
  refine tH 5 146 rfl rfl (gRun rfl (ptr gr) fun _ h => run_load1 o36 (.tmp 145) rfl gs (0 + 2) rfl (ptr gr) (h.1.at 2 _ rfl)) HS_ ?_
  refine tH 6 147 rfl rfl (gRun rfl (ptr gr) fun _ h => run_nil (.tmp 146) rfl ⟨gr, 0, none⟩ rfl) HS_ ?_
  refine tH 7 148 rfl rfl (gRun rfl (.pointer (some ⟨gr, 0 + 3, none⟩)) fun _ h => run_fieldOp' f60_3 (.tmp 147) rfl gr (0) rfl) HS_ ?_
  simp only [Act.put, aS, aC, aZ]
  refine tH 8 149 rfl rfl (gRun rfl vb fun _ h => run_load1 o57 (.tmp 148) rfl gr (0 + 3) rfl vb (h.2.1.at 3 _ rfl)) HS_ ?_
  refine tH 9 150 rfl rfl (gRun rfl (.int .i64 (k : Nat)) fun _ h => run_mvZ (.tmp 11) rfl (.int .i64 (k : Nat)) rfl) HS_ ?_
  refine tH 10 151 rfl rfl (gRun rfl (.pointer (some ⟨bb, k * 1, none⟩)) fun _ h => run_idx (.tmp 149) (.tmp 150) rfl _ _ _ rfl rfl HX.out.1) HS_ ?_
  refine tH 11 152 rfl rfl (gRun rfl vi fun _ h => run_load1 o28 (.tmp 151) rfl bb (k * 1) rfl vi (HX.out.2.1 _ h.2.2.1)) HS_ ?_
  simp only [Act.put, aS, aC, aZ]
  refine tH 12 153 rfl rfl (gRun rfl (.string (strOfNums (u.2.map Int.ofNat))) fun _ h => run_str (.tmp 152) rfl vi u.2 rfl h.2.2.2.2) HS_ ?_
  refine tH 13 154 rfl rfl (gRun rfl (.bool true) fun _ h => run_eqS (.tmp 142) (.tmp 153) rfl (strOfNums (u.2.map Int.ofNat)) rfl rfl) HS_ ?_
  refine tH 14 15 rfl rfl (gRun rfl (.bool true) fun _ h => run_asZ (.tmp 154) rfl (.bool true) rfl) HS_ ?_
  simp only [Act.put, aS, aC, aZ]
  refine wpAnyH_done (by kernel_rfl) ?_ _
  obtain ⟨Y4, hY4⟩ : ∃ U_ : World, U_ = X := ⟨_, rfl⟩
  rw [← hY4]
  have HG : Hid ((HtW w Y4 c gp gh gf gm m n (but us k) K) ∧ (Sd w Y4 c gp gh gf gm gs gr n us vu vb bl ever dims) ∧ Row Y4 q 33 (opC kd N vy px vk) ∧ Out w Y4 c gh gf gm q) := (by rw [hY4]; exact HE.out)
  clear HE HS_ hY4
  go_upto_region 23 with fail
  refine wp_region_lit ?_
  refine wl rfl (ptr gs) _ (run_mvZ (.tmp 0) rfl (ptr gs) rfl) ?_
  refine wl rfl (ptr gs) _ (run_nil (.tmp 155) rfl ⟨gs, 0, none⟩ rfl) ?_
  refine wl rfl (.pointer (some ⟨gs, 0 + 2, none⟩)) _ (run_fieldOp' f38_2 (.tmp 156) rfl gs (0) rfl) ?_
  refine wl rfl (ptr gr) _ (run_load1 o36 (.tmp 157) rfl gs (0 + 2) rfl (ptr gr) (HG.out.2.1.row.at 2 _ rfl)) ?_
  simp only [Act.put, aS, aC, aZ]
  refine wl rfl (.int .i64 (k : Nat)) _ (run_mvZ (.tmp 11) rfl (.int .i64 (k : Nat)) rfl) ?_
  simp only [Act.put, aS, aC, aZ]
  refine wpList_callW eN27 [.tmp 158, .tmp 159] _ rfl rfl [(ptr gr), (.int .i64 (k : Nat))] rfl ?_
  refine (drop_any HG.out.1 HG.out.2.1.r k hk (by omega)).mono ?_
  rintro e Y5 ⟨rfl, hc_, vu2, vb2, hr_⟩
  refine ⟨_, rfl, ?_⟩
  have hg : gs ≠ gr := row_ne HG.out.2.1.row HG.out.2.1.r.row (by decide)
  have HF : Hid ((HtW w Y5 c gp gh gf gm m n (but us k) K) ∧ (Sd w Y5 c gp gh gf gm gs gr n (but us k) vu2 vb2 (but bl k) ever dims)) := ⟨HG.out.1.own hc_ (fun _ _ e => e ▸ HG.out.2.1.r.og), ⟨hc_.row hg HG.out.2.1.row, HG.out.2.1.os.bel hc_.size, hr_⟩⟩
  clear hg hc_ hr_ HG
  simp only [Act.put, aS, aC, aZ]
  refine wpList_nil ?_
  go_upto_region 24 with fail
  refine wp_region_lit ?_
  refine wl rfl (.int .i64 0) _ (run_mvZ (.tmp 13) rfl (.int .i64 0) rfl) ?_
  refine wl rfl (.bool true) _ (run_eqZ (.tmp 161) (.const (.int .i64 0)) rfl (0) (0) rfl rfl true rfl) ?_
  refine wl rfl (.bool true) _ (run_mvZ (.tmp 162) rfl (.bool true) rfl) ?_
  refine wl (by kernel_rfl) (.int .i64 0) _ (run_mvZ (.tmp 14) rfl (.int .i64 0) rfl) ?_
  simp only [Act.put, aS, aC, aZ]
  refine wl (by kernel_rfl) (.bool true) _ (run_eqZ (.tmp 164) (.const (.int .i64 0)) rfl (0) (0) rfl rfl true rfl) ?_
  refine wl rfl (.bool true) _ (run_pickZ (.tmp 163) (.tmp 165) (.const (.bool false)) rfl true (.bool true) rfl rfl) ?_
  refine wl rfl (.bool true) _ (run_mvZ (.tmp 166) rfl (.bool true) rfl) ?_
  refine wl (by kernel_rfl) (.bool true) _ (run_mvZ (.tmp 15) rfl (.bool true) rfl) ?_
  simp only [Act.put, aS, aC, aZ]
  refine wl rfl (.bool true) _ (run_pickZ (.tmp 167) (.tmp 168) (.const (.bool false)) rfl true (.bool true) rfl rfl) ?_
  refine wl rfl (.bool true) _ (run_asZ (.tmp 169) rfl (.bool true) rfl) ?_
  simp only [Act.put, aS, aC, aZ]
  refine wpList_nil ?_
  go_wp2_with fail
  rw [HPQ.out]
  exact ⟨rfl, c, gh, gf, gm, m, but us k, vu2, vb2, but bl k, ever, dims, HF.out.1.mono (by omega), HF.out.2, HM.out.2.2.2.1.sub (fun v hv => but_sub hv), by omega, by omega, by omega⟩
 ·have HNO : Hid (¬ (px.dv = 1 ∧ ∃ u ∈ us, px.at_ = (u.1 : Nat) ∧ px.ln = (costN u.2.length : Nat))) := hno
  clear hno HAZ
  go_upto_region 18 with fail
  refine wp_region_held (S := fun X => Row X gs 38 (scells gp gh gr (ever : Nat) (dims : Nat)) ∧ Row X gr 60 [.int .i64 1, .int .i64 (n : Nat), vu, vb] ∧ Row X q 33 (opC kd N vy px vk)) (by kernel_rfl) ?_
  show wpAnyH _ _ _ _ _ 12 (Array.replicate 12 false) _ _
  obtain ⟨X, hX⟩ : ∃ X : World, X = { Y1 with drawn := Y1.drawn + 1 } := ⟨_, rfl⟩
  rw [← hX]
  have HBX : Hid (Below Y1.heap.size Y1 X) := (by rw [hX]; exact ⟨rfl, rfl, rfl, Nat.le_refl _, fun _ _ => rfl⟩)
  have HD : Hid ((HtW w X c gp gh gf gm m n us K) ∧ (Sd w X c gp gh gf gm gs gr n us vu vb bl ever dims) ∧ Row X q 33 (opC kd N vy px vk) ∧ Out w X c gh gf gm q) := ⟨HB1.out.1.bel HBX.out, HB1.out.2.1.bel HBX.out, HB1.out.2.2.1.later HBX.out HB1.out.2.2.1.lt, HB1.out.2.2.2.bel HBX.out.size⟩
  clear HBX
  have HS_ : Row X gs 38 (scells gp gh gr (ever : Nat) (dims : Nat)) ∧ Row X gr 60 [.int .i64 1, .int .i64 (n : Nat), vu, vb] ∧ Row X q 33 (opC kd N vy px vk) := ⟨HD.out.2.1.row, HD.out.2.1.r.row, HD.out.2.2.1⟩
  clear hX
  refine tH 0 112 rfl rfl (gRun rfl (ptr gs) fun _ h => run_mvZ (.tmp 0) rfl (ptr gs) rfl) HS_ ?_
  refine tH 1 113 rfl rfl (gRun rfl (ptr gs) fun _ h => run_nil (.tmp 112) rfl ⟨gs, 0, none⟩ rfl) HS_ ?_
  refine tH 2 114 rfl rfl (gRun rfl (.pointer (some ⟨gs, 0 + 1, none⟩)) fun _ h => run_fieldOp' f38_1 (.tmp 113) rfl gs (0) rfl) HS_ ?_
  refine tH 3 115 rfl rfl (gRun rfl (ptr gh) fun _ h => run_load1 o35 (.tmp 114) rfl gs (0 + 1) rfl (ptr gh) (h.1.at 1 _ rfl)) HS_ ?_
  simp only [Act.put, aS, aC, aZ]
  refine tH 4 116 rfl rfl (gRun rfl (.pointer (some ⟨q, 0 + 3, none⟩)) fun _ h => run_fieldOp' f33_3 (.tmp 3) rfl q (0) rfl) HS_ ?_
  refine tH 5 117 rfl rfl (gRun rfl (.agg (px.cells).toArray) fun _ h => run_loadA ag30 (.tmp 116) rfl q (0 + 3) rfl (px.cells) rfl (opX h.2.2)) HS_ ?_
  simp only [Act.put, aS, aC, aZ]
  refine oneH (i := 6) (by kernel_rfl) ?_
  refine opCallG (some 118) rfl rfl rfl 25 _ (run_call eN25 [.tmp 115, .tmp 117] _ rfl [(ptr gh), (.agg (px.cells).toArray)] rfl) ?_
  refine (HD.out.1.readNo px.dv px.at_ px.ln px.bd HM.out.2.2.2.2.ok.2.1 HNO.out).mono ?_
  rintro e Y2 ⟨rfl, hb_⟩
  refine ⟨_, rfl, ?_⟩
  replace HD : Hid ((HtW w Y2 c gp gh gf gm m n us K) ∧ (Sd w Y2 c gp gh gf gm gs gr n us vu vb bl ever dims) ∧ Row Y2 q 33 (opC kd N vy px vk) ∧ Out w Y2 c gh gf gm q) := ⟨HD.out.1.bel hb_, HD.out.2.1.bel hb_, HD.out.2.2.1.later hb_ HD.out.2.2.1.lt, HD.out.2.2.2.bel hb_.size⟩
  replace HS_ : Row Y2 gs 38 (scells gp gh gr (ever : Nat) (dims : Nat)) ∧ Row Y2 gr 60 [.int .i64 1, .int .i64 (n : Nat), vu, vb] ∧ Row Y2 q 33 (opC kd N vy px vk) := ⟨HD.out.2.1.row, HD.out.2.1.r.row, HD.out.2.2.1⟩
  clear hb_
  refine ⟨HS_, ?_⟩
  simp only [Act.put, aS, aC, aZ]
  refine tH 7 111 rfl rfl (gRun rfl (.tuple #[(.slice none 0 0), (.int .i64 31)]) fun _ h => run_mvZ (.tmp 118) rfl (.tuple #[(.slice none 0 0), (.int .i64 31)]) rfl) HS_ ?_
  refine tH 8 119 rfl rfl (gRun rfl (.slice none 0 0) fun _ h => run_extZ (.tmp 111) 0 rfl #[(.slice none 0 0), (.int .i64 31)] rfl (.slice none 0 0) rfl) HS_ ?_
  refine tH 9 120 rfl rfl (gRun rfl (.int .i64 31) fun _ h => run_extZ (.tmp 111) 1 rfl #[(.slice none 0 0), (.int .i64 31)] rfl (.int .i64 31) rfl) HS_ ?_
  refine tH 10 12 rfl rfl (gRun rfl (.slice none 0 0) fun _ h => run_asZ (.tmp 119) rfl (.slice none 0 0) rfl) HS_ ?_
  simp only [Act.put, aS, aC, aZ]
  refine tH 11 13 rfl rfl (gRun rfl (.int .i64 31) fun _ h => run_asZ (.tmp 120) rfl (.int .i64 31) rfl) HS_ ?_
  simp only [Act.put, aS, aC, aZ]
  refine wpAnyH_done (by kernel_rfl) ?_ _
  have HB2 : Hid ((HtW w Y2 c gp gh gf gm m n us K) ∧ (Sd w Y2 c gp gh gf gm gs gr n us vu vb bl ever dims) ∧ Row Y2 q 33 (opC kd N vy px vk) ∧ Out w Y2 c gh gf gm q) := HD.out
  clear HD HS_ HB1
  go_upto_region 19 with fail
  refine wp_region_held (S := fun X => Row X gs 38 (scells gp gh gr (ever : Nat) (dims : Nat)) ∧ Row X gr 60 [.int .i64 1, .int .i64 (n : Nat), vu, vb] ∧ Row X q 33 (opC kd N vy px vk)) (by kernel_rfl) ?_
  show wpAnyH _ _ _ _ _ 8 (Array.replicate 8 false) _ _
  obtain ⟨X, hX⟩ : ∃ X : World, X = { Y2 with drawn := Y2.drawn + 1 } := ⟨_, rfl⟩
  rw [← hX]
  have HBX : Hid (Below Y2.heap.size Y2 X) := (by rw [hX]; exact ⟨rfl, rfl, rfl, Nat.le_refl _, fun _ _ => rfl⟩)
  have HD : Hid ((HtW w X c gp gh gf gm m n us K) ∧ (Sd w X c gp gh gf gm gs gr n us vu vb bl ever dims) ∧ Row X q 33 (opC kd N vy px vk) ∧ Out w X c gh gf gm q) := ⟨HB2.out.1.bel HBX.out, HB2.out.2.1.bel HBX.out, HB2.out.2.2.1.later HBX.out HB2.out.2.2.1.lt, HB2.out.2.2.2.bel HBX.out.size⟩
  clear HBX
  have HS_ : Row X gs 38 (scells gp gh gr (ever : Nat) (dims : Nat)) ∧ Row X gr 60 [.int .i64 1, .int .i64 (n : Nat), vu, vb] ∧ Row X q 33 (opC kd N vy px vk) := ⟨HD.out.2.1.row, HD.out.2.1.r.row, HD.out.2.2.1⟩
  clear hX
  refine tH 0 121 rfl rfl (gRun rfl (ptr gs) fun _ h => run_mvZ (.tmp 0) rfl (ptr gs) rfl) HS_ ?_
  refine tH 1 122 rfl rfl (gRun rfl (ptr gs) fun _ h => run_nil (.tmp 121) rfl ⟨gs, 0, none⟩ rfl) HS_ ?_
  refine tH 2 123 rfl rfl (gRun rfl (.pointer (some ⟨gs, 0 + 1, none⟩)) fun _ h => run_fieldOp' f38_1 (.tmp 122) rfl gs (0) rfl) HS_ ?_
  refine tH 3 124 rfl rfl (gRun rfl (ptr gh) fun _ h => run_load1 o35 (.tmp 123) rfl gs (0 + 1) rfl (ptr gh) (h.1.at 1 _ rfl)) HS_ ?_
  simp only [Act.put, aS, aC, aZ]
  refine tH 4 125 rfl rfl (gRun rfl (.pointer (some ⟨q, 0 + 3, none⟩)) fun _ h => run_fieldOp' f33_3 (.tmp 3) rfl q (0) rfl) HS_ ?_
  refine tH 5 126 rfl rfl (gRun rfl (.agg (px.cells).toArray) fun _ h => run_loadA ag30 (.tmp 125) rfl q (0 + 3) rfl (px.cells) rfl (opX h.2.2)) HS_ ?_
  simp only [Act.put, aS, aC, aZ]
  refine oneH (i := 6) (by kernel_rfl) ?_
  refine opCallG (some 127) rfl rfl rfl 26 _ (run_call eN26 [.tmp 124, .tmp 126] _ rfl [(ptr gh), (.agg (px.cells).toArray)] rfl) ?_
  refine (HD.out.1.freeNo px.dv px.at_ px.ln px.bd HM.out.2.2.2.2.ok.2.1 HNO.out).mono ?_
  rintro e Y3 ⟨rfl, hb_⟩
  refine ⟨_, rfl, ?_⟩
  replace HD : Hid ((HtW w Y3 c gp gh gf gm m n us K) ∧ (Sd w Y3 c gp gh gf gm gs gr n us vu vb bl ever dims) ∧ Row Y3 q 33 (opC kd N vy px vk) ∧ Out w Y3 c gh gf gm q) := ⟨HD.out.1.bel hb_, HD.out.2.1.bel hb_, HD.out.2.2.1.later hb_ HD.out.2.2.1.lt, HD.out.2.2.2.bel hb_.size⟩
  replace HS_ : Row Y3 gs 38 (scells gp gh gr (ever : Nat) (dims : Nat)) ∧ Row Y3 gr 60 [.int .i64 1, .int .i64 (n : Nat), vu, vb] ∧ Row Y3 q 33 (opC kd N vy px vk) := ⟨HD.out.2.1.row, HD.out.2.1.r.row, HD.out.2.2.1⟩
  clear hb_
  refine ⟨HS_, ?_⟩
  simp only [Act.put, aS, aC, aZ]
  refine tH 7 14 rfl rfl (gRun rfl (.int .i64 31) fun _ h => run_asZ (.tmp 127) rfl (.int .i64 31) rfl) HS_ ?_
  simp only [Act.put, aS, aC, aZ]
  refine wpAnyH_done (by kernel_rfl) ?_ _
  have HB3 : Hid ((HtW w Y3 c gp gh gf gm m n us K) ∧ (Sd w Y3 c gp gh gf gm gs gr n us vu vb bl ever dims) ∧ Row Y3 q 33 (opC kd N vy px vk) ∧ Out w Y3 c gh gf gm q) := HD.out
  clear HD HS_ HB2
  go_upto_region 20 with fail
  refine wp_region_lit ?_
  refine wl rfl (.int .i64 (-1)) _ (run_mvZ (.tmp 11) rfl (.int .i64 (-1)) rfl) ?_
  refine wl rfl (.bool true) _ (run_lssZ (.tmp 128) (.const (.int .i64 0)) rfl (-1) 0 rfl rfl true rfl) ?_
  simp only [Act.put, aS, aC, aZ]
  refine wpList_nil ?_
  go_upto_region 21 with fail
  refine wp_region_lit ?_
  refine wl rfl (.int .i64 31) _ (run_mvZ (.tmp 13) rfl (.int .i64 31) rfl) ?_
  refine wl rfl (.bool true) _ (run_eqZ (.tmp 130) (.const (.int .i64 31)) rfl (31) (31) rfl rfl true rfl) ?_
  refine wl rfl (.bool true) _ (run_mvZ (.tmp 131) rfl (.bool true) rfl) ?_
  refine wl (by kernel_rfl) (.int .i64 31) _ (run_mvZ (.tmp 14) rfl (.int .i64 31) rfl) ?_
  simp only [Act.put, aS, aC, aZ]
  refine wl (by kernel_rfl) (.bool true) _ (run_eqZ (.tmp 133) (.const (.int .i64 31)) rfl (31) (31) rfl rfl true rfl) ?_
  refine wl rfl (.bool true) _ (run_pickZ (.tmp 132) (.tmp 134) (.const (.bool false)) rfl true (.bool true) rfl rfl) ?_
  refine wl rfl (.bool true) _ (run_mvZ (.tmp 135) rfl (.bool true) rfl) ?_
  refine wl (by kernel_rfl) (.slice none 0 0) _ (run_mvZ (.tmp 12) rfl (.slice none 0 0) rfl) ?_
  simp only [Act.put, aS, aC, aZ]
  refine wl (by kernel_rfl) (.int .i64 ((0 : Nat) : Int)) _ (run_lenZ sl28 (.tmp 137) rfl none 0 0 rfl) ?_
  refine wl (by kernel_rfl) (.bool true) _ (run_eqZ (.tmp 138) (.const (.int .i64 0)) rfl ((0 : Nat) : Int) 0 rfl rfl true rfl) ?_
  refine wl rfl (.bool true) _ (run_pickZ (.tmp 136) (.tmp 139) (.const (.bool false)) rfl true (.bool true) rfl rfl) ?_
  refine wl rfl (.bool true) _ (run_asZ (.tmp 140) rfl (.bool true) rfl) ?_
  simp only [Act.put, aS, aC, aZ]
  refine wpList_nil ?_
  go_wp2_with fail
  rw [HPQ.out]
  exact ⟨rfl, c, gh, gf, gm, m, us, vu, vb, bl, ever, dims, HB3.out.1.mono (by omega), HB3.out.2.1, HM.out.2.2.2.1, by omega, by omega, by omega⟩

/-- a thing is done -/
theorem sdo_any {w W : World} {gp gs gr n K E : Nat} (h : Std w W gp gs gr n K E) (hE : E ≤ 1000000000000) (hK : K + 20 ≤ 1000000000000) (kd N : Int) (vy : Value) (bs : List Nat) (px : Pq) (vk : Value) (ks : List Int) (o : OpI w kd N vy bs px vk ks) : Calls Tryd.prog 12 #[ptr gs, .agg (opC kd N vy px vk).toArray] W fun e w' => e = .returned (.bool true) ∧ Std w w' gp gs gr n (K + 20) (E + 10) := by
 obtain ⟨c, gh, gf, gm, m, us, vu, vb, bl, ever, dims, h1, h2, h3, h4, h5, h6⟩ := h
 obtain ⟨kk, hkk⟩ : ∃ kk, whichOf kd 10 = kk := ⟨_, rfl⟩
 have hlt := whichOf_lt kd 10 (by decide)
 rw [hkk] at hlt
 rcases (by omega : kk < 4 ∨ kk = 4 ∨ kk = 5 ∨ kk = 6 ∨ kk = 7 ∨ kk = 8 ∨ kk = 9) with q | rfl | rfl | rfl | rfl | rfl | rfl
 ·exact sdoA_any h1 h2 h3 E h4 h5 h6 hK kd N vy bs px vk ks o hE kk q hkk
 ·refine (sdo4_any h1 h2 kd N o.hk o.hn hkk (opC kd N vy px vk) rfl rfl).mono ?_
  rintro e W' ⟨rfl, us', vu', vb', bl', k1, k2, k3⟩
  exact ⟨rfl, c, gh, gf, gm, m, us', vu', vb', bl', ever, dims, k1.mono (by omega), k2, h3.sub (fun v hv => by
   obtain ⟨u, hu, rfl⟩ := List.mem_map.1 hv
   exact List.mem_map.2 ⟨u, k3 u hu, rfl⟩), by omega, by omega, by omega⟩
 ·exact sdo5_any h1 h2 h3 E h4 h5 h6 hK kd N vy bs px vk ks o hkk
 ·exact sdo6_any h1 h2 h3 E h4 h5 h6 hK kd N vy bs px vk ks o hkk
 ·exact sdo7_any h1 h2 h3 E h4 h5 h6 hK kd N vy bs px vk ks o hkk
 ·exact sdo8_any h1 h2 h3 E h4 h5 h6 hK kd N vy bs px vk ks o hkk
 ·exact sdo9_any h1 h2 h3 E h4 h5 h6 hK kd N vy bs px vk ks o hkk

end Go.Proofs.YthgidfoidbgnaaaDoor

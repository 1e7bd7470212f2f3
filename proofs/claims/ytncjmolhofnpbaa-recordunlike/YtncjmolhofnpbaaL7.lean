/- The law RecordUnlike. -/
import Derived.Test.YtncjmolhofnpbaaR20
namespace Go.Proofs.Ytncjmolhofnpbaa
open Go.RowKit

/-- two that are unlike are no one record, nor one entry -/
theorem unlike_rec {a b : List Nat} {x y : Rc} (ha : ∀ c ∈ a, c < 256) (hb : ∀ c ∈ b, c < 256) (hne : a ≠ b) (h1 : decR a = some x) (h2 : decR b = some y) : x ≠ y := fun e => hne (by rw [(decR_some ha h1).1, (decR_some hb h2).1, e])
theorem unlike_ent {a b id id' root root' : List Nat} {n n' : Nat} (ha : ∀ c ∈ a, c < 256) (hb : ∀ c ∈ b, c < 256) (hne : a ≠ b) (h1 : decE a = some (id, n, root)) (h2 : decE b = some (id', n', root')) : ¬ (id = id' ∧ n = n' ∧ root = root') := fun e => hne (by rw [(decE_some ha h1).1, (decE_some hb h2).1, e.1, e.2.1, e.2.2])
theorem DecS.no {w w' : World} {b : List Nat} {r : Rc} {vc : Value} {er : Int} (h : DecS w w' b r vc er) (he : er = 0) : decR b = some r := by
  rcases h.2.2.2.2 with ⟨_, _, h1⟩ | ⟨h1, _⟩
  · omega
  · exact h1
theorem ReadS.no {w w' : World} {b id root : List Nat} {n : Nat} {er : Int} (h : ReadS w w' b id root n er) (he : er = 0) : decE b = some (id, n, root) := by
  rcases h.2.2.2.2 with ⟨_, _, _, _, h1⟩ | ⟨h1, _⟩
  · omega
  · exact h1
set_option maxHeartbeats 4000000 in
theorem unlike_any (va vb : Value) (a b : List Nat) (w : World) (hia : SliceIn w va a) (hib : SliceIn w vb b) : Calls Try.prog 7 #[va, vb] w fun e w' => e = .returned (.bool true) ∧ Below w.heap.size w w' := by
  have HI : Hid (SliceIn w va a ∧ SliceIn w vb b) := ⟨hia, hib⟩
  clear hia hib
  obtain ⟨PQ, HPQ⟩ : ∃ PQ : Ending → World → Prop, Hid (PQ = fun e w' => e = .returned (.bool true) ∧ Below w.heap.size w w') := ⟨_, rfl⟩
  rw [← HPQ.out]
  obtain ⟨eq, heq⟩ : ∃ eq, decide (a = b) = eq := ⟨_, rfl⟩
  have HQ : Hid (decide (a = b) = eq) := heq
  clear heq
  go_enter Try.func7, Try.ntmps7
  go_upto_region 1 with fail
  refine wp_region_lit ?_
  refine wpList_callW eN8 [] _ rfl rfl [] rfl ?_
  refine (shown_any w).mono ?_
  rintro e w1 ⟨rfl, b_⟩
  refine ⟨_, rfl, ?_⟩
  have R1 : Hid (Loc w w1 []) := Loc.nil b_
  clear b_
  simp only [Act.put, List.setIfInBounds_toArray, List.set_cons_succ, List.set_cons_zero]
  refine wl rfl (.bool true) _ (run_asZ (.tmp 19) rfl (.bool true) rfl) ?_
  simp only [Act.put, List.setIfInBounds_toArray, List.set_cons_succ, List.set_cons_zero]
  refine wpList_nil ?_
  go_upto_region 2 with fail
  refine wp_region_lit ?_
  refine wl rfl (.bool true) _ (run_mvZ (.tmp 5) rfl (.bool true) rfl) ?_
  simp only [Act.put, List.setIfInBounds_toArray, List.set_cons_succ, List.set_cons_zero]
  refine wl rfl (.bool false) _ (run_not (.tmp 20) 4 rfl true rfl) ?_
  simp only [Act.put, List.setIfInBounds_toArray, List.set_cons_succ, List.set_cons_zero]
  refine wl rfl (.bool false) _ (run_mvZ (.tmp 21) rfl (.bool false) rfl) ?_
  simp only [Act.put, List.setIfInBounds_toArray, List.set_cons_succ, List.set_cons_zero]
  refine wl (by kernel_rfl) va _ (run_mvZ (.tmp 0) rfl va rfl) ?_
  simp only [Act.put, List.setIfInBounds_toArray, List.set_cons_succ, List.set_cons_zero]
  refine wl (by kernel_rfl) (str a) _ (run_strB (.tmp 23) rfl va a rfl (HI.out.1.later R1.out.below)) ?_
  simp only [Act.put, List.setIfInBounds_toArray, List.set_cons_succ, List.set_cons_zero]
  refine wl (by kernel_rfl) vb _ (run_mvZ (.tmp 1) rfl vb rfl) ?_
  simp only [Act.put, List.setIfInBounds_toArray, List.set_cons_succ, List.set_cons_zero]
  refine wl (by kernel_rfl) (str b) _ (run_strB (.tmp 25) rfl vb b rfl (HI.out.2.later R1.out.below)) ?_
  simp only [Act.put, List.setIfInBounds_toArray, List.set_cons_succ, List.set_cons_zero]
  refine wl (by kernel_rfl) (.bool eq) _ (rx_seq (.tmp 24) (.tmp 26) rfl a b rfl rfl (SliceIn.lt256 HI.out.1) (SliceIn.lt256 HI.out.2) eq HQ.out) ?_
  simp only [Act.put, List.setIfInBounds_toArray, List.set_cons_succ, List.set_cons_zero]
  refine wl rfl (.bool eq) _ (run_pickZ (.tmp 22) (.const (.bool true)) (.tmp 27) rfl false (.bool eq) rfl rfl) ?_
  simp only [Act.put, List.setIfInBounds_toArray, List.set_cons_succ, List.set_cons_zero]
  refine wpList_nil ?_
  cases eq with
  | true =>
    go_wp2_with fail
    rw [HPQ.out]
    exact ⟨rfl, R1.out.below⟩
  | false =>
    have HNE : Hid (a ≠ b) := of_decide_eq_false HQ.out
    clear HQ
    go_upto_region 4 with fail
    refine wp_region_lit ?_
    refine wl rfl va _ (run_mvZ (.tmp 0) rfl va rfl) ?_
    simp only [Act.put, List.setIfInBounds_toArray, List.set_cons_succ, List.set_cons_zero]
    refine wpList_callW eN15 [.tmp 31] _ rfl rfl [va] rfl ?_
    refine (decode_any va a w1 (HI.out.1.later R1.out.below)).mono ?_
    rintro e w2 ⟨x, vx, ex, rfl, d_⟩
    refine ⟨_, rfl, ?_⟩
    have b_ := d_.2.2.2.1
    have P2 : Hid (POwn w2 w.heap.size vx x.cp ∧ Fine x ∧ x.cp.length ≤ 255) := ⟨d_.2.1.weaken R1.out.below.size, d_.1, d_.2.2.1⟩
    have D1 : Hid (ex = 0 → decR a = some x) := d_.no
    have Rw2 : Hid (Loc w w2 []) := R1.out.later b_
    clear R1 
    clear d_ b_
    simp only [Act.put, List.setIfInBounds_toArray, List.set_cons_succ, List.set_cons_zero]
    refine wl rfl (.tuple #[(.agg (rcells x vx).toArray), (.int .i64 ex)]) _ (run_mvZ (.tmp 32) rfl (.tuple #[(.agg (rcells x vx).toArray), (.int .i64 ex)]) rfl) ?_
    simp only [Act.put, List.setIfInBounds_toArray, List.set_cons_succ, List.set_cons_zero]
    refine wl rfl (.agg (rcells x vx).toArray) _ (run_extZ (.tmp 30) 0 rfl #[(.agg (rcells x vx).toArray), (.int .i64 ex)] rfl (.agg (rcells x vx).toArray) rfl) ?_
    simp only [Act.put, List.setIfInBounds_toArray, List.set_cons_succ, List.set_cons_zero]
    refine wl rfl (.int .i64 ex) _ (run_extZ (.tmp 30) 1 rfl #[(.agg (rcells x vx).toArray), (.int .i64 ex)] rfl (.int .i64 ex) rfl) ?_
    simp only [Act.put, List.setIfInBounds_toArray, List.set_cons_succ, List.set_cons_zero]
    refine wl rfl (ptr w2.heap.size) _ (run_allocA (rcells rz (.slice none 0 0)) zero26 rfl) ?_
    have k_ := Rw2.out.box 26 (rcells rz (.slice none 0 0))
    obtain ⟨w3, hW_⟩ : ∃ W, W = w2.alloc (.cells (rcells rz (.slice none 0 0)).toArray 26) := ⟨_, rfl⟩
    have hB_ : Below w2.heap.size w2 w3 := hW_ ▸ below_alloc w2 _
    obtain ⟨q6, hq_⟩ : ∃ q, q = w2.heap.size := ⟨_, rfl⟩
    rw [← hW_, ← hq_] at k_
    rw [← hW_, ← hq_]
    clear hq_
    have P3 : Hid (POwn w3 w.heap.size vx x.cp ∧ Fine x ∧ x.cp.length ≤ 255) := ⟨P2.out.1.later hB_, P2.out.2⟩
    clear P2
    have Rw3 : Hid (Loc w w3 [(q6, 26, rcells rz (.slice none 0 0))]) := k_
    clear k_ hW_ Rw2
    clear hB_
    simp only [Act.put, List.setIfInBounds_toArray, List.set_cons_succ, List.set_cons_zero]
    have hl39 : (rcells x vx).length = 39 := rcells_length _ (fits_of P3.out.2.1 P3.out.1 P3.out.2.2).root
    have hst := run_storeVar ag26 w3 q6 0 26 (rcells rz (.slice none 0 0)) (rcells x vx) hl39 (Rw3.out.at 0 rfl) (by rw [hl39, rcells_length _ rz_fine.1]; decide) (rcells_one (fits_of P3.out.2.1 P3.out.1 P3.out.2.2))
    rw [splice_all _ _ (by rw [hl39, rcells_length _ rz_fine.1])] at hst
    refine wlS rfl rfl _ (run_stV (.tmp 6) (.tmp 33) rfl q6 0 rfl _ rfl hst) ?_
    have k_ := Rw3.out.set 0 rfl ((Rw3.out.at 0 rfl).setRow (rcells x vx)) ((Ch.refl (· = q6) w3).setRow (g := q6) (Or.inl rfl) _)
    obtain ⟨w4, hW_⟩ : ∃ W, W = w3.setRow q6 (rcells x vx).toArray := ⟨_, rfl⟩
    have hC_ : Ch (· = q6) w3 w4 := hW_ ▸ (Ch.refl (· = q6) w3).setRow (g := q6) (Or.inl rfl) _
    have hRow_ := Rw3.out.at 0 rfl
    rw [← hW_] at k_ ⊢
    have P4 : Hid (POwn w4 w.heap.size vx x.cp ∧ Fine x ∧ x.cp.length ≤ 255) := ⟨P3.out.1.off hRow_ (by decide) hC_, P3.out.2⟩
    clear P3
    have Rw4 : Hid (Loc w w4 [(q6, 26, rcells x vx)]) := k_
    clear k_ hW_ Rw3
    clear hst hl39 hC_ hRow_
    refine wl rfl (.int .i64 ex) _ (run_asZ (.tmp 34) rfl (.int .i64 ex) rfl) ?_
    simp only [Act.put, List.setIfInBounds_toArray, List.set_cons_succ, List.set_cons_zero]
    refine wpList_nil ?_
    go_upto_region 5 with fail
    refine wp_region_lit ?_
    refine wl rfl vb _ (run_mvZ (.tmp 1) rfl vb rfl) ?_
    simp only [Act.put, List.setIfInBounds_toArray, List.set_cons_succ, List.set_cons_zero]
    refine wpList_callW eN15 [.tmp 36] _ rfl rfl [vb] rfl ?_
    refine (decode_any vb b w4 (HI.out.2.later Rw4.out.below)).mono ?_
    rintro e w5 ⟨y, vy, ey, rfl, d_⟩
    refine ⟨_, rfl, ?_⟩
    have b_ := d_.2.2.2.1
    have Q5 : Hid (POwn w5 w.heap.size vy y.cp ∧ Fine y ∧ y.cp.length ≤ 255) := ⟨d_.2.1.weaken Rw4.out.below.size, d_.1, d_.2.2.1⟩
    have D2 : Hid (ey = 0 → decR b = some y) := d_.no
    have Rw5 : Hid (Loc w w5 [(q6, 26, rcells x vx)]) := Rw4.out.later b_
    have P5 : Hid (POwn w5 w.heap.size vx x.cp ∧ Fine x ∧ x.cp.length ≤ 255) := ⟨P4.out.1.later b_, P4.out.2⟩
    clear Rw4 P4
    clear d_ b_
    simp only [Act.put, List.setIfInBounds_toArray, List.set_cons_succ, List.set_cons_zero]
    refine wl rfl (.tuple #[(.agg (rcells y vy).toArray), (.int .i64 ey)]) _ (run_mvZ (.tmp 37) rfl (.tuple #[(.agg (rcells y vy).toArray), (.int .i64 ey)]) rfl) ?_
    simp only [Act.put, List.setIfInBounds_toArray, List.set_cons_succ, List.set_cons_zero]
    refine wl rfl (.agg (rcells y vy).toArray) _ (run_extZ (.tmp 35) 0 rfl #[(.agg (rcells y vy).toArray), (.int .i64 ey)] rfl (.agg (rcells y vy).toArray) rfl) ?_
    simp only [Act.put, List.setIfInBounds_toArray, List.set_cons_succ, List.set_cons_zero]
    refine wl rfl (.int .i64 ey) _ (run_extZ (.tmp 35) 1 rfl #[(.agg (rcells y vy).toArray), (.int .i64 ey)] rfl (.int .i64 ey) rfl) ?_
    simp only [Act.put, List.setIfInBounds_toArray, List.set_cons_succ, List.set_cons_zero]
    refine wl rfl (ptr w5.heap.size) _ (run_allocA (rcells rz (.slice none 0 0)) zero26 rfl) ?_
    have k_ := Rw5.out.box 26 (rcells rz (.slice none 0 0))
    obtain ⟨w6, hW_⟩ : ∃ W, W = w5.alloc (.cells (rcells rz (.slice none 0 0)).toArray 26) := ⟨_, rfl⟩
    have hB_ : Below w5.heap.size w5 w6 := hW_ ▸ below_alloc w5 _
    obtain ⟨q8, hq_⟩ : ∃ q, q = w5.heap.size := ⟨_, rfl⟩
    rw [← hW_, ← hq_] at k_
    rw [← hW_, ← hq_]
    clear hq_
    have P6 : Hid (POwn w6 w.heap.size vx x.cp ∧ Fine x ∧ x.cp.length ≤ 255) := ⟨P5.out.1.later hB_, P5.out.2⟩
    clear P5
    have Q6 : Hid (POwn w6 w.heap.size vy y.cp ∧ Fine y ∧ y.cp.length ≤ 255) := ⟨Q5.out.1.later hB_, Q5.out.2⟩
    clear Q5
    have Rw6 : Hid (Loc w w6 [(q6, 26, rcells x vx), (q8, 26, rcells rz (.slice none 0 0))]) := k_
    clear k_ hW_ Rw5
    clear hB_
    simp only [Act.put, List.setIfInBounds_toArray, List.set_cons_succ, List.set_cons_zero]
    have hl39 : (rcells y vy).length = 39 := rcells_length _ (fits_of Q6.out.2.1 Q6.out.1 Q6.out.2.2).root
    have hst := run_storeVar ag26 w6 q8 0 26 (rcells rz (.slice none 0 0)) (rcells y vy) hl39 (Rw6.out.at 1 rfl) (by rw [hl39, rcells_length _ rz_fine.1]; decide) (rcells_one (fits_of Q6.out.2.1 Q6.out.1 Q6.out.2.2))
    rw [splice_all _ _ (by rw [hl39, rcells_length _ rz_fine.1])] at hst
    refine wlS rfl rfl _ (run_stV (.tmp 8) (.tmp 38) rfl q8 0 rfl _ rfl hst) ?_
    have k_ := Rw6.out.set 1 rfl ((Rw6.out.at 1 rfl).setRow (rcells y vy)) ((Ch.refl (· = q8) w6).setRow (g := q8) (Or.inl rfl) _)
    obtain ⟨w7, hW_⟩ : ∃ W, W = w6.setRow q8 (rcells y vy).toArray := ⟨_, rfl⟩
    have hC_ : Ch (· = q8) w6 w7 := hW_ ▸ (Ch.refl (· = q8) w6).setRow (g := q8) (Or.inl rfl) _
    have hRow_ := Rw6.out.at 1 rfl
    rw [← hW_] at k_ ⊢
    have P7 : Hid (POwn w7 w.heap.size vx x.cp ∧ Fine x ∧ x.cp.length ≤ 255) := ⟨P6.out.1.off hRow_ (by decide) hC_, P6.out.2⟩
    clear P6
    have Q7 : Hid (POwn w7 w.heap.size vy y.cp ∧ Fine y ∧ y.cp.length ≤ 255) := ⟨Q6.out.1.off hRow_ (by decide) hC_, Q6.out.2⟩
    clear Q6
    have Rw7 : Hid (Loc w w7 [(q6, 26, rcells x vx), (q8, 26, rcells y vy)]) := k_
    clear k_ hW_ Rw6
    clear hst hl39 hC_ hRow_
    refine wl rfl (.int .i64 ey) _ (run_asZ (.tmp 39) rfl (.int .i64 ey) rfl) ?_
    simp only [Act.put, List.setIfInBounds_toArray, List.set_cons_succ, List.set_cons_zero]
    refine wpList_nil ?_
    go_upto_region 6 with fail
    refine wp_region_lit ?_
    refine wl rfl (.agg (rcells x vx).toArray) _ (run_loadA ag26 (.tmp 6) rfl q6 (0) rfl (rcells x vx) (rcells_length _ P7.out.2.1.1) (rows_all Rw7.out 0 rfl)) ?_
    simp only [Act.put, List.setIfInBounds_toArray, List.set_cons_succ, List.set_cons_zero]
    refine wl rfl (.agg (rcells y vy).toArray) _ (run_loadA ag26 (.tmp 8) rfl q8 (0) rfl (rcells y vy) (rcells_length _ Q7.out.2.1.1) (rows_all Rw7.out 1 rfl)) ?_
    simp only [Act.put, List.setIfInBounds_toArray, List.set_cons_succ, List.set_cons_zero]
    refine wpList_callW eN17 [.tmp 40, .tmp 41] _ rfl rfl [(.agg (rcells x vx).toArray), (.agg (rcells y vy).toArray)] rfl ?_
    refine (same_any x y vx vy w7 (fits_of P7.out.2.1 P7.out.1 P7.out.2.2) (fits_of Q7.out.2.1 Q7.out.1 Q7.out.2.2)).mono ?_
    rintro e w8 ⟨al, rfl, hal, b_⟩
    refine ⟨_, rfl, ?_⟩
    have HAL : Hid (al = true → x = y) := hal.1
    have Rw8 : Hid (Loc w w8 [(q6, 26, rcells x vx), (q8, 26, rcells y vy)]) := Rw7.out.later b_
    clear Rw7 
    clear b_ hal P7 Q7
    simp only [Act.put, List.setIfInBounds_toArray, List.set_cons_succ, List.set_cons_zero]
    refine wl rfl (.bool al) _ (run_asZ (.tmp 42) rfl (.bool al) rfl) ?_
    simp only [Act.put, List.setIfInBounds_toArray, List.set_cons_succ, List.set_cons_zero]
    refine wpList_nil ?_
    go_upto_region 7 with fail
    refine wp_region_lit ?_
    refine wl rfl va _ (run_mvZ (.tmp 0) rfl va rfl) ?_
    simp only [Act.put, List.setIfInBounds_toArray, List.set_cons_succ, List.set_cons_zero]
    refine wpList_callW eN18 [.tmp 44] _ rfl rfl [va] rfl ?_
    refine (read_any va a w8 (HI.out.1.later Rw8.out.below)).mono ?_
    rintro e w9 ⟨ia, na, ra, ga, rfl, d_⟩
    refine ⟨_, rfl, ?_⟩
    have b_ := d_.2.2.2.1
    have D3 : Hid (ga = 0 → decE a = some (ia, na, ra)) := d_.no
    have N3 : Hid ((∀ c ∈ ia, c < 256) ∧ IsH ra) := ⟨d_.1, d_.2.2.1, d_.2.1⟩
    have Rw9 : Hid (Loc w w9 [(q6, 26, rcells x vx), (q8, 26, rcells y vy)]) := Rw8.out.later b_
    clear Rw8 
    clear d_ b_
    simp only [Act.put, List.setIfInBounds_toArray, List.set_cons_succ, List.set_cons_zero]
    refine wl rfl (.tuple #[(str ia), (.int .i64 (na : Nat)), (.agg (bcells ra).toArray), (.int .i64 ga)]) _ (run_mvZ (.tmp 45) rfl (.tuple #[(str ia), (.int .i64 (na : Nat)), (.agg (bcells ra).toArray), (.int .i64 ga)]) rfl) ?_
    simp only [Act.put, List.setIfInBounds_toArray, List.set_cons_succ, List.set_cons_zero]
    refine wl rfl (str ia) _ (run_extZ (.tmp 43) 0 rfl #[(str ia), (.int .i64 (na : Nat)), (.agg (bcells ra).toArray), (.int .i64 ga)] rfl (str ia) rfl) ?_
    simp only [Act.put, List.setIfInBounds_toArray, List.set_cons_succ, List.set_cons_zero]
    refine wl rfl (.int .i64 (na : Nat)) _ (run_extZ (.tmp 43) 1 rfl #[(str ia), (.int .i64 (na : Nat)), (.agg (bcells ra).toArray), (.int .i64 ga)] rfl (.int .i64 (na : Nat)) rfl) ?_
    simp only [Act.put, List.setIfInBounds_toArray, List.set_cons_succ, List.set_cons_zero]
    refine wl rfl (.agg (bcells ra).toArray) _ (run_extZ (.tmp 43) 2 rfl #[(str ia), (.int .i64 (na : Nat)), (.agg (bcells ra).toArray), (.int .i64 ga)] rfl (.agg (bcells ra).toArray) rfl) ?_
    simp only [Act.put, List.setIfInBounds_toArray, List.set_cons_succ, List.set_cons_zero]
    refine wl rfl (.int .i64 ga) _ (run_extZ (.tmp 43) 3 rfl #[(str ia), (.int .i64 (na : Nat)), (.agg (bcells ra).toArray), (.int .i64 ga)] rfl (.int .i64 ga) rfl) ?_
    simp only [Act.put, List.setIfInBounds_toArray, List.set_cons_succ, List.set_cons_zero]
    refine wl rfl (ptr w9.heap.size) _ (run_allocA (bcells (List.replicate 32 0)) zero23b rfl) ?_
    have k_ := Rw9.out.box 23 (bcells (List.replicate 32 0))
    obtain ⟨w10, hW_⟩ : ∃ W, W = w9.alloc (.cells (bcells (List.replicate 32 0)).toArray 23) := ⟨_, rfl⟩
    have hB_ : Below w9.heap.size w9 w10 := hW_ ▸ below_alloc w9 _
    obtain ⟨q13, hq_⟩ : ∃ q, q = w9.heap.size := ⟨_, rfl⟩
    rw [← hW_, ← hq_] at k_
    rw [← hW_, ← hq_]
    clear hq_
    have Rw10 : Hid (Loc w w10 [(q6, 26, rcells x vx), (q8, 26, rcells y vy), (q13, 23, bcells (List.replicate 32 0))]) := k_
    clear k_ hW_ Rw9
    clear hB_
    simp only [Act.put, List.setIfInBounds_toArray, List.set_cons_succ, List.set_cons_zero]
    refine wl rfl (str ia) _ (run_asZ (.tmp 46) rfl (str ia) rfl) ?_
    simp only [Act.put, List.setIfInBounds_toArray, List.set_cons_succ, List.set_cons_zero]
    refine wl rfl (.int .i64 (na : Nat)) _ (run_asZ (.tmp 47) rfl (.int .i64 (na : Nat)) rfl) ?_
    simp only [Act.put, List.setIfInBounds_toArray, List.set_cons_succ, List.set_cons_zero]
    have hst := run_storeVar ag23 w10 q13 0 23 (bcells (List.replicate 32 0)) (bcells ra) (bc32 N3.out.2.1) (Rw10.out.at 2 rfl) (by rw [bc32 N3.out.2.1]; simp [bcells_length]) (bcells_one _)
    rw [splice32 _ ra (by simp [bcells_length]) N3.out.2.1] at hst
    refine wlS rfl rfl _ (run_stV (.tmp 13) (.tmp 48) rfl q13 0 rfl _ rfl hst) ?_
    have k_ := Rw10.out.set 2 rfl ((Rw10.out.at 2 rfl).setRow (bcells ra)) ((Ch.refl (· = q13) w10).setRow (g := q13) (Or.inl rfl) _)
    obtain ⟨w11, hW_⟩ : ∃ W, W = w10.setRow q13 (bcells ra).toArray := ⟨_, rfl⟩
    have hC_ : Ch (· = q13) w10 w11 := hW_ ▸ (Ch.refl (· = q13) w10).setRow (g := q13) (Or.inl rfl) _
    have hRow_ := Rw10.out.at 2 rfl
    rw [← hW_] at k_ ⊢
    have Rw11 : Hid (Loc w w11 [(q6, 26, rcells x vx), (q8, 26, rcells y vy), (q13, 23, bcells ra)]) := k_
    clear k_ hW_ Rw10
    clear hst hC_ hRow_
    refine wl rfl (.int .i64 ga) _ (run_asZ (.tmp 49) rfl (.int .i64 ga) rfl) ?_
    simp only [Act.put, List.setIfInBounds_toArray, List.set_cons_succ, List.set_cons_zero]
    refine wpList_nil ?_
    go_upto_region 8 with fail
    refine wp_region_lit ?_
    refine wl rfl vb _ (run_mvZ (.tmp 1) rfl vb rfl) ?_
    simp only [Act.put, List.setIfInBounds_toArray, List.set_cons_succ, List.set_cons_zero]
    refine wpList_callW eN18 [.tmp 51] _ rfl rfl [vb] rfl ?_
    refine (read_any vb b w11 (HI.out.2.later Rw11.out.below)).mono ?_
    rintro e w12 ⟨ib, nb, rb, gb, rfl, d_⟩
    refine ⟨_, rfl, ?_⟩
    have b_ := d_.2.2.2.1
    have D4 : Hid (gb = 0 → decE b = some (ib, nb, rb)) := d_.no
    have N4 : Hid ((∀ c ∈ ib, c < 256) ∧ IsH rb) := ⟨d_.1, d_.2.2.1, d_.2.1⟩
    have Rw12 : Hid (Loc w w12 [(q6, 26, rcells x vx), (q8, 26, rcells y vy), (q13, 23, bcells ra)]) := Rw11.out.later b_
    clear Rw11 
    clear d_ b_
    simp only [Act.put, List.setIfInBounds_toArray, List.set_cons_succ, List.set_cons_zero]
    refine wl rfl (.tuple #[(str ib), (.int .i64 (nb : Nat)), (.agg (bcells rb).toArray), (.int .i64 gb)]) _ (run_mvZ (.tmp 52) rfl (.tuple #[(str ib), (.int .i64 (nb : Nat)), (.agg (bcells rb).toArray), (.int .i64 gb)]) rfl) ?_
    simp only [Act.put, List.setIfInBounds_toArray, List.set_cons_succ, List.set_cons_zero]
    refine wl rfl (str ib) _ (run_extZ (.tmp 50) 0 rfl #[(str ib), (.int .i64 (nb : Nat)), (.agg (bcells rb).toArray), (.int .i64 gb)] rfl (str ib) rfl) ?_
    simp only [Act.put, List.setIfInBounds_toArray, List.set_cons_succ, List.set_cons_zero]
    refine wl rfl (.int .i64 (nb : Nat)) _ (run_extZ (.tmp 50) 1 rfl #[(str ib), (.int .i64 (nb : Nat)), (.agg (bcells rb).toArray), (.int .i64 gb)] rfl (.int .i64 (nb : Nat)) rfl) ?_
    simp only [Act.put, List.setIfInBounds_toArray, List.set_cons_succ, List.set_cons_zero]
    refine wl rfl (.agg (bcells rb).toArray) _ (run_extZ (.tmp 50) 2 rfl #[(str ib), (.int .i64 (nb : Nat)), (.agg (bcells rb).toArray), (.int .i64 gb)] rfl (.agg (bcells rb).toArray) rfl) ?_
    simp only [Act.put, List.setIfInBounds_toArray, List.set_cons_succ, List.set_cons_zero]
    refine wl rfl (.int .i64 gb) _ (run_extZ (.tmp 50) 3 rfl #[(str ib), (.int .i64 (nb : Nat)), (.agg (bcells rb).toArray), (.int .i64 gb)] rfl (.int .i64 gb) rfl) ?_
    simp only [Act.put, List.setIfInBounds_toArray, List.set_cons_succ, List.set_cons_zero]
    refine wl rfl (ptr w12.heap.size) _ (run_allocA (bcells (List.replicate 32 0)) zero23b rfl) ?_
    have k_ := Rw12.out.box 23 (bcells (List.replicate 32 0))
    obtain ⟨w13, hW_⟩ : ∃ W, W = w12.alloc (.cells (bcells (List.replicate 32 0)).toArray 23) := ⟨_, rfl⟩
    have hB_ : Below w12.heap.size w12 w13 := hW_ ▸ below_alloc w12 _
    obtain ⟨q17, hq_⟩ : ∃ q, q = w12.heap.size := ⟨_, rfl⟩
    rw [← hW_, ← hq_] at k_
    rw [← hW_, ← hq_]
    clear hq_
    have Rw13 : Hid (Loc w w13 [(q6, 26, rcells x vx), (q8, 26, rcells y vy), (q13, 23, bcells ra), (q17, 23, bcells (List.replicate 32 0))]) := k_
    clear k_ hW_ Rw12
    clear hB_
    simp only [Act.put, List.setIfInBounds_toArray, List.set_cons_succ, List.set_cons_zero]
    refine wl rfl (str ib) _ (run_asZ (.tmp 53) rfl (str ib) rfl) ?_
    simp only [Act.put, List.setIfInBounds_toArray, List.set_cons_succ, List.set_cons_zero]
    refine wl rfl (.int .i64 (nb : Nat)) _ (run_asZ (.tmp 54) rfl (.int .i64 (nb : Nat)) rfl) ?_
    simp only [Act.put, List.setIfInBounds_toArray, List.set_cons_succ, List.set_cons_zero]
    have hst := run_storeVar ag23 w13 q17 0 23 (bcells (List.replicate 32 0)) (bcells rb) (bc32 N4.out.2.1) (Rw13.out.at 3 rfl) (by rw [bc32 N4.out.2.1]; simp [bcells_length]) (bcells_one _)
    rw [splice32 _ rb (by simp [bcells_length]) N4.out.2.1] at hst
    refine wlS rfl rfl _ (run_stV (.tmp 17) (.tmp 55) rfl q17 0 rfl _ rfl hst) ?_
    have k_ := Rw13.out.set 3 rfl ((Rw13.out.at 3 rfl).setRow (bcells rb)) ((Ch.refl (· = q17) w13).setRow (g := q17) (Or.inl rfl) _)
    obtain ⟨w14, hW_⟩ : ∃ W, W = w13.setRow q17 (bcells rb).toArray := ⟨_, rfl⟩
    have hC_ : Ch (· = q17) w13 w14 := hW_ ▸ (Ch.refl (· = q17) w13).setRow (g := q17) (Or.inl rfl) _
    have hRow_ := Rw13.out.at 3 rfl
    rw [← hW_] at k_ ⊢
    have Rw14 : Hid (Loc w w14 [(q6, 26, rcells x vx), (q8, 26, rcells y vy), (q13, 23, bcells ra), (q17, 23, bcells rb)]) := k_
    clear k_ hW_ Rw13
    clear hst hC_ hRow_
    refine wl rfl (.int .i64 gb) _ (run_asZ (.tmp 56) rfl (.int .i64 gb) rfl) ?_
    simp only [Act.put, List.setIfInBounds_toArray, List.set_cons_succ, List.set_cons_zero]
    refine wpList_nil ?_
    obtain ⟨p1, hp1⟩ : ∃ p, decide (ex = 0) = p := ⟨_, rfl⟩
    obtain ⟨p2, hp2⟩ : ∃ p, decide (ey = 0) = p := ⟨_, rfl⟩
    obtain ⟨g1, hg1⟩ : ∃ p, decide (ga = 0) = p := ⟨_, rfl⟩
    obtain ⟨g2, hg2⟩ : ∃ p, decide (gb = 0) = p := ⟨_, rfl⟩
    obtain ⟨g3, hg3⟩ : ∃ p, decide (ia = ib) = p := ⟨_, rfl⟩
    obtain ⟨g4, hg4⟩ : ∃ p, decide ((na : Int) = (nb : Int)) = p := ⟨_, rfl⟩
    obtain ⟨g5, hg5⟩ : ∃ p, decide (ra = rb) = p := ⟨_, rfl⟩
    have HP : Hid (decide (ex = 0) = p1 ∧ decide (ey = 0) = p2 ∧ decide (ga = 0) = g1 ∧ decide (gb = 0) = g2 ∧ decide (ia = ib) = g3 ∧ decide ((na : Int) = (nb : Int)) = g4 ∧ decide (ra = rb) = g5) := ⟨hp1, hp2, hg1, hg2, hg3, hg4, hg5⟩
    clear hp1 hp2 hg1 hg2 hg3 hg4 hg5
    cases p1 with
    | false =>
      cases g1 with
      | false =>
        go_upto_region 9 with fail
        refine wp_region_lit ?_
        refine wl rfl (.int .i64 ex) _ (run_mvZ (.tmp 7) rfl (.int .i64 ex) rfl) ?_
        simp only [Act.put, List.setIfInBounds_toArray, List.set_cons_succ, List.set_cons_zero]
        refine wl rfl (.bool false) _ (run_eqZ (.tmp 57) (.const (.int .i64 0)) rfl ex 0 rfl rfl false HP.out.1) ?_
        simp only [Act.put, List.setIfInBounds_toArray, List.set_cons_succ, List.set_cons_zero]
        refine wl rfl (.bool false) _ (run_mvZ (.tmp 58) rfl (.bool false) rfl) ?_
        simp only [Act.put, List.setIfInBounds_toArray, List.set_cons_succ, List.set_cons_zero]
        refine wpList_skip (by kernel_rfl) ?_
        simp only [Act.put, List.setIfInBounds_toArray, List.set_cons_succ, List.set_cons_zero]
        refine wpList_skip (by kernel_rfl) ?_
        simp only [Act.put, List.setIfInBounds_toArray, List.set_cons_succ, List.set_cons_zero]
        refine wl rfl (.bool false) _ (run_pickZ (.tmp 59) (.tmp 61) (.const (.bool false)) rfl false (.bool false) rfl rfl) ?_
        simp only [Act.put, List.setIfInBounds_toArray, List.set_cons_succ, List.set_cons_zero]
        refine wl rfl (.bool false) _ (run_mvZ (.tmp 62) rfl (.bool false) rfl) ?_
        simp only [Act.put, List.setIfInBounds_toArray, List.set_cons_succ, List.set_cons_zero]
        refine wpList_skip (by kernel_rfl) ?_
        simp only [Act.put, List.setIfInBounds_toArray, List.set_cons_succ, List.set_cons_zero]
        refine wl rfl (.bool false) _ (run_pickZ (.tmp 63) (.tmp 64) (.const (.bool false)) rfl false (.bool false) rfl rfl) ?_
        simp only [Act.put, List.setIfInBounds_toArray, List.set_cons_succ, List.set_cons_zero]
        refine wl rfl (.bool true) _ (run_not (.tmp 65) 4 rfl false rfl) ?_
        simp only [Act.put, List.setIfInBounds_toArray, List.set_cons_succ, List.set_cons_zero]
        refine wl rfl (.bool true) _ (run_mvZ (.tmp 66) rfl (.bool true) rfl) ?_
        simp only [Act.put, List.setIfInBounds_toArray, List.set_cons_succ, List.set_cons_zero]
        refine wl (by kernel_rfl) (.int .i64 ga) _ (run_mvZ (.tmp 14) rfl (.int .i64 ga) rfl) ?_
        simp only [Act.put, List.setIfInBounds_toArray, List.set_cons_succ, List.set_cons_zero]
        refine wl (by kernel_rfl) (.bool false) _ (run_eqZ (.tmp 68) (.const (.int .i64 0)) rfl ga 0 rfl rfl false HP.out.2.2.1) ?_
        simp only [Act.put, List.setIfInBounds_toArray, List.set_cons_succ, List.set_cons_zero]
        refine wl (by kernel_rfl) (.bool false) _ (run_mvZ (.tmp 69) rfl (.bool false) rfl) ?_
        simp only [Act.put, List.setIfInBounds_toArray, List.set_cons_succ, List.set_cons_zero]
        refine wpList_skip (by kernel_rfl) ?_
        simp only [Act.put, List.setIfInBounds_toArray, List.set_cons_succ, List.set_cons_zero]
        refine wpList_skip (by kernel_rfl) ?_
        simp only [Act.put, List.setIfInBounds_toArray, List.set_cons_succ, List.set_cons_zero]
        refine wl (by kernel_rfl) (.bool false) _ (run_pickZ (.tmp 70) (.tmp 72) (.const (.bool false)) rfl false (.bool false) rfl rfl) ?_
        simp only [Act.put, List.setIfInBounds_toArray, List.set_cons_succ, List.set_cons_zero]
        refine wl (by kernel_rfl) (.bool false) _ (run_mvZ (.tmp 73) rfl (.bool false) rfl) ?_
        simp only [Act.put, List.setIfInBounds_toArray, List.set_cons_succ, List.set_cons_zero]
        refine wpList_skip (by kernel_rfl) ?_
        simp only [Act.put, List.setIfInBounds_toArray, List.set_cons_succ, List.set_cons_zero]
        refine wpList_skip (by kernel_rfl) ?_
        simp only [Act.put, List.setIfInBounds_toArray, List.set_cons_succ, List.set_cons_zero]
        refine wpList_skip (by kernel_rfl) ?_
        simp only [Act.put, List.setIfInBounds_toArray, List.set_cons_succ, List.set_cons_zero]
        refine wl (by kernel_rfl) (.bool false) _ (run_pickZ (.tmp 74) (.tmp 77) (.const (.bool false)) rfl false (.bool false) rfl rfl) ?_
        simp only [Act.put, List.setIfInBounds_toArray, List.set_cons_succ, List.set_cons_zero]
        refine wl (by kernel_rfl) (.bool false) _ (run_mvZ (.tmp 78) rfl (.bool false) rfl) ?_
        simp only [Act.put, List.setIfInBounds_toArray, List.set_cons_succ, List.set_cons_zero]
        refine wpList_skip (by kernel_rfl) ?_
        simp only [Act.put, List.setIfInBounds_toArray, List.set_cons_succ, List.set_cons_zero]
        refine wpList_skip (by kernel_rfl) ?_
        simp only [Act.put, List.setIfInBounds_toArray, List.set_cons_succ, List.set_cons_zero]
        refine wpList_skip (by kernel_rfl) ?_
        simp only [Act.put, List.setIfInBounds_toArray, List.set_cons_succ, List.set_cons_zero]
        refine wl (by kernel_rfl) (.bool false) _ (run_pickZ (.tmp 79) (.tmp 82) (.const (.bool false)) rfl false (.bool false) rfl rfl) ?_
        simp only [Act.put, List.setIfInBounds_toArray, List.set_cons_succ, List.set_cons_zero]
        refine wl (by kernel_rfl) (.bool false) _ (run_mvZ (.tmp 83) rfl (.bool false) rfl) ?_
        simp only [Act.put, List.setIfInBounds_toArray, List.set_cons_succ, List.set_cons_zero]
        refine wpList_skip (by kernel_rfl) ?_
        simp only [Act.put, List.setIfInBounds_toArray, List.set_cons_succ, List.set_cons_zero]
        refine wpList_skip (by kernel_rfl) ?_
        simp only [Act.put, List.setIfInBounds_toArray, List.set_cons_succ, List.set_cons_zero]
        refine wpList_skip (by kernel_rfl) ?_
        simp only [Act.put, List.setIfInBounds_toArray, List.set_cons_succ, List.set_cons_zero]
        refine wl (by kernel_rfl) (.bool false) _ (run_pickZ (.tmp 84) (.tmp 87) (.const (.bool false)) rfl false (.bool false) rfl rfl) ?_
        simp only [Act.put, List.setIfInBounds_toArray, List.set_cons_succ, List.set_cons_zero]
        refine wl (by kernel_rfl) (.bool true) _ (run_not (.tmp 88) 4 rfl false rfl) ?_
        simp only [Act.put, List.setIfInBounds_toArray, List.set_cons_succ, List.set_cons_zero]
        refine wl rfl (.bool true) _ (run_pickZ (.tmp 67) (.tmp 89) (.const (.bool false)) rfl true (.bool true) rfl rfl) ?_
        simp only [Act.put, List.setIfInBounds_toArray, List.set_cons_succ, List.set_cons_zero]
        refine wl rfl (.bool true) _ (run_asZ (.tmp 90) rfl (.bool true) rfl) ?_
        simp only [Act.put, List.setIfInBounds_toArray, List.set_cons_succ, List.set_cons_zero]
        refine wpList_nil ?_
        go_wp2_with fail
        rw [HPQ.out]
        exact ⟨rfl, Rw14.out.below⟩
      | true =>
      cases g2 with
      | false =>
        go_upto_region 9 with fail
        refine wp_region_lit ?_
        refine wl rfl (.int .i64 ex) _ (run_mvZ (.tmp 7) rfl (.int .i64 ex) rfl) ?_
        simp only [Act.put, List.setIfInBounds_toArray, List.set_cons_succ, List.set_cons_zero]
        refine wl rfl (.bool false) _ (run_eqZ (.tmp 57) (.const (.int .i64 0)) rfl ex 0 rfl rfl false HP.out.1) ?_
        simp only [Act.put, List.setIfInBounds_toArray, List.set_cons_succ, List.set_cons_zero]
        refine wl rfl (.bool false) _ (run_mvZ (.tmp 58) rfl (.bool false) rfl) ?_
        simp only [Act.put, List.setIfInBounds_toArray, List.set_cons_succ, List.set_cons_zero]
        refine wpList_skip (by kernel_rfl) ?_
        simp only [Act.put, List.setIfInBounds_toArray, List.set_cons_succ, List.set_cons_zero]
        refine wpList_skip (by kernel_rfl) ?_
        simp only [Act.put, List.setIfInBounds_toArray, List.set_cons_succ, List.set_cons_zero]
        refine wl rfl (.bool false) _ (run_pickZ (.tmp 59) (.tmp 61) (.const (.bool false)) rfl false (.bool false) rfl rfl) ?_
        simp only [Act.put, List.setIfInBounds_toArray, List.set_cons_succ, List.set_cons_zero]
        refine wl rfl (.bool false) _ (run_mvZ (.tmp 62) rfl (.bool false) rfl) ?_
        simp only [Act.put, List.setIfInBounds_toArray, List.set_cons_succ, List.set_cons_zero]
        refine wpList_skip (by kernel_rfl) ?_
        simp only [Act.put, List.setIfInBounds_toArray, List.set_cons_succ, List.set_cons_zero]
        refine wl rfl (.bool false) _ (run_pickZ (.tmp 63) (.tmp 64) (.const (.bool false)) rfl false (.bool false) rfl rfl) ?_
        simp only [Act.put, List.setIfInBounds_toArray, List.set_cons_succ, List.set_cons_zero]
        refine wl rfl (.bool true) _ (run_not (.tmp 65) 4 rfl false rfl) ?_
        simp only [Act.put, List.setIfInBounds_toArray, List.set_cons_succ, List.set_cons_zero]
        refine wl rfl (.bool true) _ (run_mvZ (.tmp 66) rfl (.bool true) rfl) ?_
        simp only [Act.put, List.setIfInBounds_toArray, List.set_cons_succ, List.set_cons_zero]
        refine wl (by kernel_rfl) (.int .i64 ga) _ (run_mvZ (.tmp 14) rfl (.int .i64 ga) rfl) ?_
        simp only [Act.put, List.setIfInBounds_toArray, List.set_cons_succ, List.set_cons_zero]
        refine wl (by kernel_rfl) (.bool true) _ (run_eqZ (.tmp 68) (.const (.int .i64 0)) rfl ga 0 rfl rfl true HP.out.2.2.1) ?_
        simp only [Act.put, List.setIfInBounds_toArray, List.set_cons_succ, List.set_cons_zero]
        refine wl (by kernel_rfl) (.bool true) _ (run_mvZ (.tmp 69) rfl (.bool true) rfl) ?_
        simp only [Act.put, List.setIfInBounds_toArray, List.set_cons_succ, List.set_cons_zero]
        refine wl (by kernel_rfl) (.int .i64 gb) _ (run_mvZ (.tmp 18) rfl (.int .i64 gb) rfl) ?_
        simp only [Act.put, List.setIfInBounds_toArray, List.set_cons_succ, List.set_cons_zero]
        refine wl (by kernel_rfl) (.bool false) _ (run_eqZ (.tmp 71) (.const (.int .i64 0)) rfl gb 0 rfl rfl false HP.out.2.2.2.1) ?_
        simp only [Act.put, List.setIfInBounds_toArray, List.set_cons_succ, List.set_cons_zero]
        refine wl (by kernel_rfl) (.bool false) _ (run_pickZ (.tmp 70) (.tmp 72) (.const (.bool false)) rfl true (.bool false) rfl rfl) ?_
        simp only [Act.put, List.setIfInBounds_toArray, List.set_cons_succ, List.set_cons_zero]
        refine wl (by kernel_rfl) (.bool false) _ (run_mvZ (.tmp 73) rfl (.bool false) rfl) ?_
        simp only [Act.put, List.setIfInBounds_toArray, List.set_cons_succ, List.set_cons_zero]
        refine wpList_skip (by kernel_rfl) ?_
        simp only [Act.put, List.setIfInBounds_toArray, List.set_cons_succ, List.set_cons_zero]
        refine wpList_skip (by kernel_rfl) ?_
        simp only [Act.put, List.setIfInBounds_toArray, List.set_cons_succ, List.set_cons_zero]
        refine wpList_skip (by kernel_rfl) ?_
        simp only [Act.put, List.setIfInBounds_toArray, List.set_cons_succ, List.set_cons_zero]
        refine wl (by kernel_rfl) (.bool false) _ (run_pickZ (.tmp 74) (.tmp 77) (.const (.bool false)) rfl false (.bool false) rfl rfl) ?_
        simp only [Act.put, List.setIfInBounds_toArray, List.set_cons_succ, List.set_cons_zero]
        refine wl (by kernel_rfl) (.bool false) _ (run_mvZ (.tmp 78) rfl (.bool false) rfl) ?_
        simp only [Act.put, List.setIfInBounds_toArray, List.set_cons_succ, List.set_cons_zero]
        refine wpList_skip (by kernel_rfl) ?_
        simp only [Act.put, List.setIfInBounds_toArray, List.set_cons_succ, List.set_cons_zero]
        refine wpList_skip (by kernel_rfl) ?_
        simp only [Act.put, List.setIfInBounds_toArray, List.set_cons_succ, List.set_cons_zero]
        refine wpList_skip (by kernel_rfl) ?_
        simp only [Act.put, List.setIfInBounds_toArray, List.set_cons_succ, List.set_cons_zero]
        refine wl (by kernel_rfl) (.bool false) _ (run_pickZ (.tmp 79) (.tmp 82) (.const (.bool false)) rfl false (.bool false) rfl rfl) ?_
        simp only [Act.put, List.setIfInBounds_toArray, List.set_cons_succ, List.set_cons_zero]
        refine wl (by kernel_rfl) (.bool false) _ (run_mvZ (.tmp 83) rfl (.bool false) rfl) ?_
        simp only [Act.put, List.setIfInBounds_toArray, List.set_cons_succ, List.set_cons_zero]
        refine wpList_skip (by kernel_rfl) ?_
        simp only [Act.put, List.setIfInBounds_toArray, List.set_cons_succ, List.set_cons_zero]
        refine wpList_skip (by kernel_rfl) ?_
        simp only [Act.put, List.setIfInBounds_toArray, List.set_cons_succ, List.set_cons_zero]
        refine wpList_skip (by kernel_rfl) ?_
        simp only [Act.put, List.setIfInBounds_toArray, List.set_cons_succ, List.set_cons_zero]
        refine wl (by kernel_rfl) (.bool false) _ (run_pickZ (.tmp 84) (.tmp 87) (.const (.bool false)) rfl false (.bool false) rfl rfl) ?_
        simp only [Act.put, List.setIfInBounds_toArray, List.set_cons_succ, List.set_cons_zero]
        refine wl (by kernel_rfl) (.bool true) _ (run_not (.tmp 88) 4 rfl false rfl) ?_
        simp only [Act.put, List.setIfInBounds_toArray, List.set_cons_succ, List.set_cons_zero]
        refine wl rfl (.bool true) _ (run_pickZ (.tmp 67) (.tmp 89) (.const (.bool false)) rfl true (.bool true) rfl rfl) ?_
        simp only [Act.put, List.setIfInBounds_toArray, List.set_cons_succ, List.set_cons_zero]
        refine wl rfl (.bool true) _ (run_asZ (.tmp 90) rfl (.bool true) rfl) ?_
        simp only [Act.put, List.setIfInBounds_toArray, List.set_cons_succ, List.set_cons_zero]
        refine wpList_nil ?_
        go_wp2_with fail
        rw [HPQ.out]
        exact ⟨rfl, Rw14.out.below⟩
      | true =>
      cases g3 with
      | false =>
        go_upto_region 9 with fail
        refine wp_region_lit ?_
        refine wl rfl (.int .i64 ex) _ (run_mvZ (.tmp 7) rfl (.int .i64 ex) rfl) ?_
        simp only [Act.put, List.setIfInBounds_toArray, List.set_cons_succ, List.set_cons_zero]
        refine wl rfl (.bool false) _ (run_eqZ (.tmp 57) (.const (.int .i64 0)) rfl ex 0 rfl rfl false HP.out.1) ?_
        simp only [Act.put, List.setIfInBounds_toArray, List.set_cons_succ, List.set_cons_zero]
        refine wl rfl (.bool false) _ (run_mvZ (.tmp 58) rfl (.bool false) rfl) ?_
        simp only [Act.put, List.setIfInBounds_toArray, List.set_cons_succ, List.set_cons_zero]
        refine wpList_skip (by kernel_rfl) ?_
        simp only [Act.put, List.setIfInBounds_toArray, List.set_cons_succ, List.set_cons_zero]
        refine wpList_skip (by kernel_rfl) ?_
        simp only [Act.put, List.setIfInBounds_toArray, List.set_cons_succ, List.set_cons_zero]
        refine wl rfl (.bool false) _ (run_pickZ (.tmp 59) (.tmp 61) (.const (.bool false)) rfl false (.bool false) rfl rfl) ?_
        simp only [Act.put, List.setIfInBounds_toArray, List.set_cons_succ, List.set_cons_zero]
        refine wl rfl (.bool false) _ (run_mvZ (.tmp 62) rfl (.bool false) rfl) ?_
        simp only [Act.put, List.setIfInBounds_toArray, List.set_cons_succ, List.set_cons_zero]
        refine wpList_skip (by kernel_rfl) ?_
        simp only [Act.put, List.setIfInBounds_toArray, List.set_cons_succ, List.set_cons_zero]
        refine wl rfl (.bool false) _ (run_pickZ (.tmp 63) (.tmp 64) (.const (.bool false)) rfl false (.bool false) rfl rfl) ?_
        simp only [Act.put, List.setIfInBounds_toArray, List.set_cons_succ, List.set_cons_zero]
        refine wl rfl (.bool true) _ (run_not (.tmp 65) 4 rfl false rfl) ?_
        simp only [Act.put, List.setIfInBounds_toArray, List.set_cons_succ, List.set_cons_zero]
        refine wl rfl (.bool true) _ (run_mvZ (.tmp 66) rfl (.bool true) rfl) ?_
        simp only [Act.put, List.setIfInBounds_toArray, List.set_cons_succ, List.set_cons_zero]
        refine wl (by kernel_rfl) (.int .i64 ga) _ (run_mvZ (.tmp 14) rfl (.int .i64 ga) rfl) ?_
        simp only [Act.put, List.setIfInBounds_toArray, List.set_cons_succ, List.set_cons_zero]
        refine wl (by kernel_rfl) (.bool true) _ (run_eqZ (.tmp 68) (.const (.int .i64 0)) rfl ga 0 rfl rfl true HP.out.2.2.1) ?_
        simp only [Act.put, List.setIfInBounds_toArray, List.set_cons_succ, List.set_cons_zero]
        refine wl (by kernel_rfl) (.bool true) _ (run_mvZ (.tmp 69) rfl (.bool true) rfl) ?_
        simp only [Act.put, List.setIfInBounds_toArray, List.set_cons_succ, List.set_cons_zero]
        refine wl (by kernel_rfl) (.int .i64 gb) _ (run_mvZ (.tmp 18) rfl (.int .i64 gb) rfl) ?_
        simp only [Act.put, List.setIfInBounds_toArray, List.set_cons_succ, List.set_cons_zero]
        refine wl (by kernel_rfl) (.bool true) _ (run_eqZ (.tmp 71) (.const (.int .i64 0)) rfl gb 0 rfl rfl true HP.out.2.2.2.1) ?_
        simp only [Act.put, List.setIfInBounds_toArray, List.set_cons_succ, List.set_cons_zero]
        refine wl (by kernel_rfl) (.bool true) _ (run_pickZ (.tmp 70) (.tmp 72) (.const (.bool false)) rfl true (.bool true) rfl rfl) ?_
        simp only [Act.put, List.setIfInBounds_toArray, List.set_cons_succ, List.set_cons_zero]
        refine wl (by kernel_rfl) (.bool true) _ (run_mvZ (.tmp 73) rfl (.bool true) rfl) ?_
        simp only [Act.put, List.setIfInBounds_toArray, List.set_cons_succ, List.set_cons_zero]
        refine wl (by kernel_rfl) (str ia) _ (run_mvZ (.tmp 11) rfl (str ia) rfl) ?_
        simp only [Act.put, List.setIfInBounds_toArray, List.set_cons_succ, List.set_cons_zero]
        refine wl (by kernel_rfl) (str ib) _ (run_mvZ (.tmp 15) rfl (str ib) rfl) ?_
        simp only [Act.put, List.setIfInBounds_toArray, List.set_cons_succ, List.set_cons_zero]
        refine wl (by kernel_rfl) (.bool false) _ (rx_seq (.tmp 75) (.tmp 76) rfl ia ib rfl rfl N3.out.1 N4.out.1 false HP.out.2.2.2.2.1) ?_
        simp only [Act.put, List.setIfInBounds_toArray, List.set_cons_succ, List.set_cons_zero]
        refine wl (by kernel_rfl) (.bool false) _ (run_pickZ (.tmp 74) (.tmp 77) (.const (.bool false)) rfl true (.bool false) rfl rfl) ?_
        simp only [Act.put, List.setIfInBounds_toArray, List.set_cons_succ, List.set_cons_zero]
        refine wl (by kernel_rfl) (.bool false) _ (run_mvZ (.tmp 78) rfl (.bool false) rfl) ?_
        simp only [Act.put, List.setIfInBounds_toArray, List.set_cons_succ, List.set_cons_zero]
        refine wpList_skip (by kernel_rfl) ?_
        simp only [Act.put, List.setIfInBounds_toArray, List.set_cons_succ, List.set_cons_zero]
        refine wpList_skip (by kernel_rfl) ?_
        simp only [Act.put, List.setIfInBounds_toArray, List.set_cons_succ, List.set_cons_zero]
        refine wpList_skip (by kernel_rfl) ?_
        simp only [Act.put, List.setIfInBounds_toArray, List.set_cons_succ, List.set_cons_zero]
        refine wl (by kernel_rfl) (.bool false) _ (run_pickZ (.tmp 79) (.tmp 82) (.const (.bool false)) rfl false (.bool false) rfl rfl) ?_
        simp only [Act.put, List.setIfInBounds_toArray, List.set_cons_succ, List.set_cons_zero]
        refine wl (by kernel_rfl) (.bool false) _ (run_mvZ (.tmp 83) rfl (.bool false) rfl) ?_
        simp only [Act.put, List.setIfInBounds_toArray, List.set_cons_succ, List.set_cons_zero]
        refine wpList_skip (by kernel_rfl) ?_
        simp only [Act.put, List.setIfInBounds_toArray, List.set_cons_succ, List.set_cons_zero]
        refine wpList_skip (by kernel_rfl) ?_
        simp only [Act.put, List.setIfInBounds_toArray, List.set_cons_succ, List.set_cons_zero]
        refine wpList_skip (by kernel_rfl) ?_
        simp only [Act.put, List.setIfInBounds_toArray, List.set_cons_succ, List.set_cons_zero]
        refine wl (by kernel_rfl) (.bool false) _ (run_pickZ (.tmp 84) (.tmp 87) (.const (.bool false)) rfl false (.bool false) rfl rfl) ?_
        simp only [Act.put, List.setIfInBounds_toArray, List.set_cons_succ, List.set_cons_zero]
        refine wl (by kernel_rfl) (.bool true) _ (run_not (.tmp 88) 4 rfl false rfl) ?_
        simp only [Act.put, List.setIfInBounds_toArray, List.set_cons_succ, List.set_cons_zero]
        refine wl rfl (.bool true) _ (run_pickZ (.tmp 67) (.tmp 89) (.const (.bool false)) rfl true (.bool true) rfl rfl) ?_
        simp only [Act.put, List.setIfInBounds_toArray, List.set_cons_succ, List.set_cons_zero]
        refine wl rfl (.bool true) _ (run_asZ (.tmp 90) rfl (.bool true) rfl) ?_
        simp only [Act.put, List.setIfInBounds_toArray, List.set_cons_succ, List.set_cons_zero]
        refine wpList_nil ?_
        go_wp2_with fail
        rw [HPQ.out]
        exact ⟨rfl, Rw14.out.below⟩
      | true =>
      cases g4 with
      | false =>
        go_upto_region 9 with fail
        refine wp_region_lit ?_
        refine wl rfl (.int .i64 ex) _ (run_mvZ (.tmp 7) rfl (.int .i64 ex) rfl) ?_
        simp only [Act.put, List.setIfInBounds_toArray, List.set_cons_succ, List.set_cons_zero]
        refine wl rfl (.bool false) _ (run_eqZ (.tmp 57) (.const (.int .i64 0)) rfl ex 0 rfl rfl false HP.out.1) ?_
        simp only [Act.put, List.setIfInBounds_toArray, List.set_cons_succ, List.set_cons_zero]
        refine wl rfl (.bool false) _ (run_mvZ (.tmp 58) rfl (.bool false) rfl) ?_
        simp only [Act.put, List.setIfInBounds_toArray, List.set_cons_succ, List.set_cons_zero]
        refine wpList_skip (by kernel_rfl) ?_
        simp only [Act.put, List.setIfInBounds_toArray, List.set_cons_succ, List.set_cons_zero]
        refine wpList_skip (by kernel_rfl) ?_
        simp only [Act.put, List.setIfInBounds_toArray, List.set_cons_succ, List.set_cons_zero]
        refine wl rfl (.bool false) _ (run_pickZ (.tmp 59) (.tmp 61) (.const (.bool false)) rfl false (.bool false) rfl rfl) ?_
        simp only [Act.put, List.setIfInBounds_toArray, List.set_cons_succ, List.set_cons_zero]
        refine wl rfl (.bool false) _ (run_mvZ (.tmp 62) rfl (.bool false) rfl) ?_
        simp only [Act.put, List.setIfInBounds_toArray, List.set_cons_succ, List.set_cons_zero]
        refine wpList_skip (by kernel_rfl) ?_
        simp only [Act.put, List.setIfInBounds_toArray, List.set_cons_succ, List.set_cons_zero]
        refine wl rfl (.bool false) _ (run_pickZ (.tmp 63) (.tmp 64) (.const (.bool false)) rfl false (.bool false) rfl rfl) ?_
        simp only [Act.put, List.setIfInBounds_toArray, List.set_cons_succ, List.set_cons_zero]
        refine wl rfl (.bool true) _ (run_not (.tmp 65) 4 rfl false rfl) ?_
        simp only [Act.put, List.setIfInBounds_toArray, List.set_cons_succ, List.set_cons_zero]
        refine wl rfl (.bool true) _ (run_mvZ (.tmp 66) rfl (.bool true) rfl) ?_
        simp only [Act.put, List.setIfInBounds_toArray, List.set_cons_succ, List.set_cons_zero]
        refine wl (by kernel_rfl) (.int .i64 ga) _ (run_mvZ (.tmp 14) rfl (.int .i64 ga) rfl) ?_
        simp only [Act.put, List.setIfInBounds_toArray, List.set_cons_succ, List.set_cons_zero]
        refine wl (by kernel_rfl) (.bool true) _ (run_eqZ (.tmp 68) (.const (.int .i64 0)) rfl ga 0 rfl rfl true HP.out.2.2.1) ?_
        simp only [Act.put, List.setIfInBounds_toArray, List.set_cons_succ, List.set_cons_zero]
        refine wl (by kernel_rfl) (.bool true) _ (run_mvZ (.tmp 69) rfl (.bool true) rfl) ?_
        simp only [Act.put, List.setIfInBounds_toArray, List.set_cons_succ, List.set_cons_zero]
        refine wl (by kernel_rfl) (.int .i64 gb) _ (run_mvZ (.tmp 18) rfl (.int .i64 gb) rfl) ?_
        simp only [Act.put, List.setIfInBounds_toArray, List.set_cons_succ, List.set_cons_zero]
        refine wl (by kernel_rfl) (.bool true) _ (run_eqZ (.tmp 71) (.const (.int .i64 0)) rfl gb 0 rfl rfl true HP.out.2.2.2.1) ?_
        simp only [Act.put, List.setIfInBounds_toArray, List.set_cons_succ, List.set_cons_zero]
        refine wl (by kernel_rfl) (.bool true) _ (run_pickZ (.tmp 70) (.tmp 72) (.const (.bool false)) rfl true (.bool true) rfl rfl) ?_
        simp only [Act.put, List.setIfInBounds_toArray, List.set_cons_succ, List.set_cons_zero]
        refine wl (by kernel_rfl) (.bool true) _ (run_mvZ (.tmp 73) rfl (.bool true) rfl) ?_
        simp only [Act.put, List.setIfInBounds_toArray, List.set_cons_succ, List.set_cons_zero]
        refine wl (by kernel_rfl) (str ia) _ (run_mvZ (.tmp 11) rfl (str ia) rfl) ?_
        simp only [Act.put, List.setIfInBounds_toArray, List.set_cons_succ, List.set_cons_zero]
        refine wl (by kernel_rfl) (str ib) _ (run_mvZ (.tmp 15) rfl (str ib) rfl) ?_
        simp only [Act.put, List.setIfInBounds_toArray, List.set_cons_succ, List.set_cons_zero]
        refine wl (by kernel_rfl) (.bool true) _ (rx_seq (.tmp 75) (.tmp 76) rfl ia ib rfl rfl N3.out.1 N4.out.1 true HP.out.2.2.2.2.1) ?_
        simp only [Act.put, List.setIfInBounds_toArray, List.set_cons_succ, List.set_cons_zero]
        refine wl (by kernel_rfl) (.bool true) _ (run_pickZ (.tmp 74) (.tmp 77) (.const (.bool false)) rfl true (.bool true) rfl rfl) ?_
        simp only [Act.put, List.setIfInBounds_toArray, List.set_cons_succ, List.set_cons_zero]
        refine wl (by kernel_rfl) (.bool true) _ (run_mvZ (.tmp 78) rfl (.bool true) rfl) ?_
        simp only [Act.put, List.setIfInBounds_toArray, List.set_cons_succ, List.set_cons_zero]
        refine wl (by kernel_rfl) (.int .i64 (na : Nat)) _ (run_mvZ (.tmp 12) rfl (.int .i64 (na : Nat)) rfl) ?_
        simp only [Act.put, List.setIfInBounds_toArray, List.set_cons_succ, List.set_cons_zero]
        refine wl (by kernel_rfl) (.int .i64 (nb : Nat)) _ (run_mvZ (.tmp 16) rfl (.int .i64 (nb : Nat)) rfl) ?_
        simp only [Act.put, List.setIfInBounds_toArray, List.set_cons_succ, List.set_cons_zero]
        refine wl (by kernel_rfl) (.bool false) _ (run_eqZ (.tmp 80) (.tmp 81) rfl (na : Nat) (nb : Nat) rfl rfl false HP.out.2.2.2.2.2.1) ?_
        simp only [Act.put, List.setIfInBounds_toArray, List.set_cons_succ, List.set_cons_zero]
        refine wl (by kernel_rfl) (.bool false) _ (run_pickZ (.tmp 79) (.tmp 82) (.const (.bool false)) rfl true (.bool false) rfl rfl) ?_
        simp only [Act.put, List.setIfInBounds_toArray, List.set_cons_succ, List.set_cons_zero]
        refine wl (by kernel_rfl) (.bool false) _ (run_mvZ (.tmp 83) rfl (.bool false) rfl) ?_
        simp only [Act.put, List.setIfInBounds_toArray, List.set_cons_succ, List.set_cons_zero]
        refine wpList_skip (by kernel_rfl) ?_
        simp only [Act.put, List.setIfInBounds_toArray, List.set_cons_succ, List.set_cons_zero]
        refine wpList_skip (by kernel_rfl) ?_
        simp only [Act.put, List.setIfInBounds_toArray, List.set_cons_succ, List.set_cons_zero]
        refine wpList_skip (by kernel_rfl) ?_
        simp only [Act.put, List.setIfInBounds_toArray, List.set_cons_succ, List.set_cons_zero]
        refine wl (by kernel_rfl) (.bool false) _ (run_pickZ (.tmp 84) (.tmp 87) (.const (.bool false)) rfl false (.bool false) rfl rfl) ?_
        simp only [Act.put, List.setIfInBounds_toArray, List.set_cons_succ, List.set_cons_zero]
        refine wl (by kernel_rfl) (.bool true) _ (run_not (.tmp 88) 4 rfl false rfl) ?_
        simp only [Act.put, List.setIfInBounds_toArray, List.set_cons_succ, List.set_cons_zero]
        refine wl rfl (.bool true) _ (run_pickZ (.tmp 67) (.tmp 89) (.const (.bool false)) rfl true (.bool true) rfl rfl) ?_
        simp only [Act.put, List.setIfInBounds_toArray, List.set_cons_succ, List.set_cons_zero]
        refine wl rfl (.bool true) _ (run_asZ (.tmp 90) rfl (.bool true) rfl) ?_
        simp only [Act.put, List.setIfInBounds_toArray, List.set_cons_succ, List.set_cons_zero]
        refine wpList_nil ?_
        go_wp2_with fail
        rw [HPQ.out]
        exact ⟨rfl, Rw14.out.below⟩
      | true =>
      cases g5 with
      | false =>
        go_upto_region 9 with fail
        refine wp_region_lit ?_
        refine wl rfl (.int .i64 ex) _ (run_mvZ (.tmp 7) rfl (.int .i64 ex) rfl) ?_
        simp only [Act.put, List.setIfInBounds_toArray, List.set_cons_succ, List.set_cons_zero]
        refine wl rfl (.bool false) _ (run_eqZ (.tmp 57) (.const (.int .i64 0)) rfl ex 0 rfl rfl false HP.out.1) ?_
        simp only [Act.put, List.setIfInBounds_toArray, List.set_cons_succ, List.set_cons_zero]
        refine wl rfl (.bool false) _ (run_mvZ (.tmp 58) rfl (.bool false) rfl) ?_
        simp only [Act.put, List.setIfInBounds_toArray, List.set_cons_succ, List.set_cons_zero]
        refine wpList_skip (by kernel_rfl) ?_
        simp only [Act.put, List.setIfInBounds_toArray, List.set_cons_succ, List.set_cons_zero]
        refine wpList_skip (by kernel_rfl) ?_
        simp only [Act.put, List.setIfInBounds_toArray, List.set_cons_succ, List.set_cons_zero]
        refine wl rfl (.bool false) _ (run_pickZ (.tmp 59) (.tmp 61) (.const (.bool false)) rfl false (.bool false) rfl rfl) ?_
        simp only [Act.put, List.setIfInBounds_toArray, List.set_cons_succ, List.set_cons_zero]
        refine wl rfl (.bool false) _ (run_mvZ (.tmp 62) rfl (.bool false) rfl) ?_
        simp only [Act.put, List.setIfInBounds_toArray, List.set_cons_succ, List.set_cons_zero]
        refine wpList_skip (by kernel_rfl) ?_
        simp only [Act.put, List.setIfInBounds_toArray, List.set_cons_succ, List.set_cons_zero]
        refine wl rfl (.bool false) _ (run_pickZ (.tmp 63) (.tmp 64) (.const (.bool false)) rfl false (.bool false) rfl rfl) ?_
        simp only [Act.put, List.setIfInBounds_toArray, List.set_cons_succ, List.set_cons_zero]
        refine wl rfl (.bool true) _ (run_not (.tmp 65) 4 rfl false rfl) ?_
        simp only [Act.put, List.setIfInBounds_toArray, List.set_cons_succ, List.set_cons_zero]
        refine wl rfl (.bool true) _ (run_mvZ (.tmp 66) rfl (.bool true) rfl) ?_
        simp only [Act.put, List.setIfInBounds_toArray, List.set_cons_succ, List.set_cons_zero]
        refine wl (by kernel_rfl) (.int .i64 ga) _ (run_mvZ (.tmp 14) rfl (.int .i64 ga) rfl) ?_
        simp only [Act.put, List.setIfInBounds_toArray, List.set_cons_succ, List.set_cons_zero]
        refine wl (by kernel_rfl) (.bool true) _ (run_eqZ (.tmp 68) (.const (.int .i64 0)) rfl ga 0 rfl rfl true HP.out.2.2.1) ?_
        simp only [Act.put, List.setIfInBounds_toArray, List.set_cons_succ, List.set_cons_zero]
        refine wl (by kernel_rfl) (.bool true) _ (run_mvZ (.tmp 69) rfl (.bool true) rfl) ?_
        simp only [Act.put, List.setIfInBounds_toArray, List.set_cons_succ, List.set_cons_zero]
        refine wl (by kernel_rfl) (.int .i64 gb) _ (run_mvZ (.tmp 18) rfl (.int .i64 gb) rfl) ?_
        simp only [Act.put, List.setIfInBounds_toArray, List.set_cons_succ, List.set_cons_zero]
        refine wl (by kernel_rfl) (.bool true) _ (run_eqZ (.tmp 71) (.const (.int .i64 0)) rfl gb 0 rfl rfl true HP.out.2.2.2.1) ?_
        simp only [Act.put, List.setIfInBounds_toArray, List.set_cons_succ, List.set_cons_zero]
        refine wl (by kernel_rfl) (.bool true) _ (run_pickZ (.tmp 70) (.tmp 72) (.const (.bool false)) rfl true (.bool true) rfl rfl) ?_
        simp only [Act.put, List.setIfInBounds_toArray, List.set_cons_succ, List.set_cons_zero]
        refine wl (by kernel_rfl) (.bool true) _ (run_mvZ (.tmp 73) rfl (.bool true) rfl) ?_
        simp only [Act.put, List.setIfInBounds_toArray, List.set_cons_succ, List.set_cons_zero]
        refine wl (by kernel_rfl) (str ia) _ (run_mvZ (.tmp 11) rfl (str ia) rfl) ?_
        simp only [Act.put, List.setIfInBounds_toArray, List.set_cons_succ, List.set_cons_zero]
        refine wl (by kernel_rfl) (str ib) _ (run_mvZ (.tmp 15) rfl (str ib) rfl) ?_
        simp only [Act.put, List.setIfInBounds_toArray, List.set_cons_succ, List.set_cons_zero]
        refine wl (by kernel_rfl) (.bool true) _ (rx_seq (.tmp 75) (.tmp 76) rfl ia ib rfl rfl N3.out.1 N4.out.1 true HP.out.2.2.2.2.1) ?_
        simp only [Act.put, List.setIfInBounds_toArray, List.set_cons_succ, List.set_cons_zero]
        refine wl (by kernel_rfl) (.bool true) _ (run_pickZ (.tmp 74) (.tmp 77) (.const (.bool false)) rfl true (.bool true) rfl rfl) ?_
        simp only [Act.put, List.setIfInBounds_toArray, List.set_cons_succ, List.set_cons_zero]
        refine wl (by kernel_rfl) (.bool true) _ (run_mvZ (.tmp 78) rfl (.bool true) rfl) ?_
        simp only [Act.put, List.setIfInBounds_toArray, List.set_cons_succ, List.set_cons_zero]
        refine wl (by kernel_rfl) (.int .i64 (na : Nat)) _ (run_mvZ (.tmp 12) rfl (.int .i64 (na : Nat)) rfl) ?_
        simp only [Act.put, List.setIfInBounds_toArray, List.set_cons_succ, List.set_cons_zero]
        refine wl (by kernel_rfl) (.int .i64 (nb : Nat)) _ (run_mvZ (.tmp 16) rfl (.int .i64 (nb : Nat)) rfl) ?_
        simp only [Act.put, List.setIfInBounds_toArray, List.set_cons_succ, List.set_cons_zero]
        refine wl (by kernel_rfl) (.bool true) _ (run_eqZ (.tmp 80) (.tmp 81) rfl (na : Nat) (nb : Nat) rfl rfl true HP.out.2.2.2.2.2.1) ?_
        simp only [Act.put, List.setIfInBounds_toArray, List.set_cons_succ, List.set_cons_zero]
        refine wl (by kernel_rfl) (.bool true) _ (run_pickZ (.tmp 79) (.tmp 82) (.const (.bool false)) rfl true (.bool true) rfl rfl) ?_
        simp only [Act.put, List.setIfInBounds_toArray, List.set_cons_succ, List.set_cons_zero]
        refine wl (by kernel_rfl) (.bool true) _ (run_mvZ (.tmp 83) rfl (.bool true) rfl) ?_
        simp only [Act.put, List.setIfInBounds_toArray, List.set_cons_succ, List.set_cons_zero]
        refine wl (by kernel_rfl) (.agg (bcells ra).toArray) _ (run_loadA ag23 (.tmp 13) rfl q13 (0) rfl (bcells ra) (bc32 N3.out.2.1) (rows_all Rw14.out 2 rfl)) ?_
        simp only [Act.put, List.setIfInBounds_toArray, List.set_cons_succ, List.set_cons_zero]
        refine wl (by kernel_rfl) (.agg (bcells rb).toArray) _ (run_loadA ag23 (.tmp 17) rfl q17 (0) rfl (bcells rb) (bc32 N4.out.2.1) (rows_all Rw14.out 3 rfl)) ?_
        simp only [Act.put, List.setIfInBounds_toArray, List.set_cons_succ, List.set_cons_zero]
        refine wl (by kernel_rfl) (.bool false) _ (rx_eqH (.tmp 85) (.tmp 86) rfl ra rb N3.out.2 N4.out.2 rfl rfl false HP.out.2.2.2.2.2.2) ?_
        simp only [Act.put, List.setIfInBounds_toArray, List.set_cons_succ, List.set_cons_zero]
        refine wl (by kernel_rfl) (.bool false) _ (run_pickZ (.tmp 84) (.tmp 87) (.const (.bool false)) rfl true (.bool false) rfl rfl) ?_
        simp only [Act.put, List.setIfInBounds_toArray, List.set_cons_succ, List.set_cons_zero]
        refine wl (by kernel_rfl) (.bool true) _ (run_not (.tmp 88) 4 rfl false rfl) ?_
        simp only [Act.put, List.setIfInBounds_toArray, List.set_cons_succ, List.set_cons_zero]
        refine wl rfl (.bool true) _ (run_pickZ (.tmp 67) (.tmp 89) (.const (.bool false)) rfl true (.bool true) rfl rfl) ?_
        simp only [Act.put, List.setIfInBounds_toArray, List.set_cons_succ, List.set_cons_zero]
        refine wl rfl (.bool true) _ (run_asZ (.tmp 90) rfl (.bool true) rfl) ?_
        simp only [Act.put, List.setIfInBounds_toArray, List.set_cons_succ, List.set_cons_zero]
        refine wpList_nil ?_
        go_wp2_with fail
        rw [HPQ.out]
        exact ⟨rfl, Rw14.out.below⟩
      | true =>
      exact absurd ⟨of_decide_eq_true HP.out.2.2.2.2.1, by have := of_decide_eq_true HP.out.2.2.2.2.2.1; omega, of_decide_eq_true HP.out.2.2.2.2.2.2⟩ (unlike_ent (SliceIn.lt256 HI.out.1) (SliceIn.lt256 HI.out.2) HNE.out (D3.out (of_decide_eq_true HP.out.2.2.1)) (D4.out (of_decide_eq_true HP.out.2.2.2.1)))
    | true =>
    cases p2 with
    | false =>
      cases g1 with
      | false =>
        go_upto_region 9 with fail
        refine wp_region_lit ?_
        refine wl rfl (.int .i64 ex) _ (run_mvZ (.tmp 7) rfl (.int .i64 ex) rfl) ?_
        simp only [Act.put, List.setIfInBounds_toArray, List.set_cons_succ, List.set_cons_zero]
        refine wl rfl (.bool true) _ (run_eqZ (.tmp 57) (.const (.int .i64 0)) rfl ex 0 rfl rfl true HP.out.1) ?_
        simp only [Act.put, List.setIfInBounds_toArray, List.set_cons_succ, List.set_cons_zero]
        refine wl rfl (.bool true) _ (run_mvZ (.tmp 58) rfl (.bool true) rfl) ?_
        simp only [Act.put, List.setIfInBounds_toArray, List.set_cons_succ, List.set_cons_zero]
        refine wl (by kernel_rfl) (.int .i64 ey) _ (run_mvZ (.tmp 9) rfl (.int .i64 ey) rfl) ?_
        simp only [Act.put, List.setIfInBounds_toArray, List.set_cons_succ, List.set_cons_zero]
        refine wl (by kernel_rfl) (.bool false) _ (run_eqZ (.tmp 60) (.const (.int .i64 0)) rfl ey 0 rfl rfl false HP.out.2.1) ?_
        simp only [Act.put, List.setIfInBounds_toArray, List.set_cons_succ, List.set_cons_zero]
        refine wl rfl (.bool false) _ (run_pickZ (.tmp 59) (.tmp 61) (.const (.bool false)) rfl true (.bool false) rfl rfl) ?_
        simp only [Act.put, List.setIfInBounds_toArray, List.set_cons_succ, List.set_cons_zero]
        refine wl rfl (.bool false) _ (run_mvZ (.tmp 62) rfl (.bool false) rfl) ?_
        simp only [Act.put, List.setIfInBounds_toArray, List.set_cons_succ, List.set_cons_zero]
        refine wpList_skip (by kernel_rfl) ?_
        simp only [Act.put, List.setIfInBounds_toArray, List.set_cons_succ, List.set_cons_zero]
        refine wl rfl (.bool false) _ (run_pickZ (.tmp 63) (.tmp 64) (.const (.bool false)) rfl false (.bool false) rfl rfl) ?_
        simp only [Act.put, List.setIfInBounds_toArray, List.set_cons_succ, List.set_cons_zero]
        refine wl rfl (.bool true) _ (run_not (.tmp 65) 4 rfl false rfl) ?_
        simp only [Act.put, List.setIfInBounds_toArray, List.set_cons_succ, List.set_cons_zero]
        refine wl rfl (.bool true) _ (run_mvZ (.tmp 66) rfl (.bool true) rfl) ?_
        simp only [Act.put, List.setIfInBounds_toArray, List.set_cons_succ, List.set_cons_zero]
        refine wl (by kernel_rfl) (.int .i64 ga) _ (run_mvZ (.tmp 14) rfl (.int .i64 ga) rfl) ?_
        simp only [Act.put, List.setIfInBounds_toArray, List.set_cons_succ, List.set_cons_zero]
        refine wl (by kernel_rfl) (.bool false) _ (run_eqZ (.tmp 68) (.const (.int .i64 0)) rfl ga 0 rfl rfl false HP.out.2.2.1) ?_
        simp only [Act.put, List.setIfInBounds_toArray, List.set_cons_succ, List.set_cons_zero]
        refine wl (by kernel_rfl) (.bool false) _ (run_mvZ (.tmp 69) rfl (.bool false) rfl) ?_
        simp only [Act.put, List.setIfInBounds_toArray, List.set_cons_succ, List.set_cons_zero]
        refine wpList_skip (by kernel_rfl) ?_
        simp only [Act.put, List.setIfInBounds_toArray, List.set_cons_succ, List.set_cons_zero]
        refine wpList_skip (by kernel_rfl) ?_
        simp only [Act.put, List.setIfInBounds_toArray, List.set_cons_succ, List.set_cons_zero]
        refine wl (by kernel_rfl) (.bool false) _ (run_pickZ (.tmp 70) (.tmp 72) (.const (.bool false)) rfl false (.bool false) rfl rfl) ?_
        simp only [Act.put, List.setIfInBounds_toArray, List.set_cons_succ, List.set_cons_zero]
        refine wl (by kernel_rfl) (.bool false) _ (run_mvZ (.tmp 73) rfl (.bool false) rfl) ?_
        simp only [Act.put, List.setIfInBounds_toArray, List.set_cons_succ, List.set_cons_zero]
        refine wpList_skip (by kernel_rfl) ?_
        simp only [Act.put, List.setIfInBounds_toArray, List.set_cons_succ, List.set_cons_zero]
        refine wpList_skip (by kernel_rfl) ?_
        simp only [Act.put, List.setIfInBounds_toArray, List.set_cons_succ, List.set_cons_zero]
        refine wpList_skip (by kernel_rfl) ?_
        simp only [Act.put, List.setIfInBounds_toArray, List.set_cons_succ, List.set_cons_zero]
        refine wl (by kernel_rfl) (.bool false) _ (run_pickZ (.tmp 74) (.tmp 77) (.const (.bool false)) rfl false (.bool false) rfl rfl) ?_
        simp only [Act.put, List.setIfInBounds_toArray, List.set_cons_succ, List.set_cons_zero]
        refine wl (by kernel_rfl) (.bool false) _ (run_mvZ (.tmp 78) rfl (.bool false) rfl) ?_
        simp only [Act.put, List.setIfInBounds_toArray, List.set_cons_succ, List.set_cons_zero]
        refine wpList_skip (by kernel_rfl) ?_
        simp only [Act.put, List.setIfInBounds_toArray, List.set_cons_succ, List.set_cons_zero]
        refine wpList_skip (by kernel_rfl) ?_
        simp only [Act.put, List.setIfInBounds_toArray, List.set_cons_succ, List.set_cons_zero]
        refine wpList_skip (by kernel_rfl) ?_
        simp only [Act.put, List.setIfInBounds_toArray, List.set_cons_succ, List.set_cons_zero]
        refine wl (by kernel_rfl) (.bool false) _ (run_pickZ (.tmp 79) (.tmp 82) (.const (.bool false)) rfl false (.bool false) rfl rfl) ?_
        simp only [Act.put, List.setIfInBounds_toArray, List.set_cons_succ, List.set_cons_zero]
        refine wl (by kernel_rfl) (.bool false) _ (run_mvZ (.tmp 83) rfl (.bool false) rfl) ?_
        simp only [Act.put, List.setIfInBounds_toArray, List.set_cons_succ, List.set_cons_zero]
        refine wpList_skip (by kernel_rfl) ?_
        simp only [Act.put, List.setIfInBounds_toArray, List.set_cons_succ, List.set_cons_zero]
        refine wpList_skip (by kernel_rfl) ?_
        simp only [Act.put, List.setIfInBounds_toArray, List.set_cons_succ, List.set_cons_zero]
        refine wpList_skip (by kernel_rfl) ?_
        simp only [Act.put, List.setIfInBounds_toArray, List.set_cons_succ, List.set_cons_zero]
        refine wl (by kernel_rfl) (.bool false) _ (run_pickZ (.tmp 84) (.tmp 87) (.const (.bool false)) rfl false (.bool false) rfl rfl) ?_
        simp only [Act.put, List.setIfInBounds_toArray, List.set_cons_succ, List.set_cons_zero]
        refine wl (by kernel_rfl) (.bool true) _ (run_not (.tmp 88) 4 rfl false rfl) ?_
        simp only [Act.put, List.setIfInBounds_toArray, List.set_cons_succ, List.set_cons_zero]
        refine wl rfl (.bool true) _ (run_pickZ (.tmp 67) (.tmp 89) (.const (.bool false)) rfl true (.bool true) rfl rfl) ?_
        simp only [Act.put, List.setIfInBounds_toArray, List.set_cons_succ, List.set_cons_zero]
        refine wl rfl (.bool true) _ (run_asZ (.tmp 90) rfl (.bool true) rfl) ?_
        simp only [Act.put, List.setIfInBounds_toArray, List.set_cons_succ, List.set_cons_zero]
        refine wpList_nil ?_
        go_wp2_with fail
        rw [HPQ.out]
        exact ⟨rfl, Rw14.out.below⟩
      | true =>
      cases g2 with
      | false =>
        go_upto_region 9 with fail
        refine wp_region_lit ?_
        refine wl rfl (.int .i64 ex) _ (run_mvZ (.tmp 7) rfl (.int .i64 ex) rfl) ?_
        simp only [Act.put, List.setIfInBounds_toArray, List.set_cons_succ, List.set_cons_zero]
        refine wl rfl (.bool true) _ (run_eqZ (.tmp 57) (.const (.int .i64 0)) rfl ex 0 rfl rfl true HP.out.1) ?_
        simp only [Act.put, List.setIfInBounds_toArray, List.set_cons_succ, List.set_cons_zero]
        refine wl rfl (.bool true) _ (run_mvZ (.tmp 58) rfl (.bool true) rfl) ?_
        simp only [Act.put, List.setIfInBounds_toArray, List.set_cons_succ, List.set_cons_zero]
        refine wl (by kernel_rfl) (.int .i64 ey) _ (run_mvZ (.tmp 9) rfl (.int .i64 ey) rfl) ?_
        simp only [Act.put, List.setIfInBounds_toArray, List.set_cons_succ, List.set_cons_zero]
        refine wl (by kernel_rfl) (.bool false) _ (run_eqZ (.tmp 60) (.const (.int .i64 0)) rfl ey 0 rfl rfl false HP.out.2.1) ?_
        simp only [Act.put, List.setIfInBounds_toArray, List.set_cons_succ, List.set_cons_zero]
        refine wl rfl (.bool false) _ (run_pickZ (.tmp 59) (.tmp 61) (.const (.bool false)) rfl true (.bool false) rfl rfl) ?_
        simp only [Act.put, List.setIfInBounds_toArray, List.set_cons_succ, List.set_cons_zero]
        refine wl rfl (.bool false) _ (run_mvZ (.tmp 62) rfl (.bool false) rfl) ?_
        simp only [Act.put, List.setIfInBounds_toArray, List.set_cons_succ, List.set_cons_zero]
        refine wpList_skip (by kernel_rfl) ?_
        simp only [Act.put, List.setIfInBounds_toArray, List.set_cons_succ, List.set_cons_zero]
        refine wl rfl (.bool false) _ (run_pickZ (.tmp 63) (.tmp 64) (.const (.bool false)) rfl false (.bool false) rfl rfl) ?_
        simp only [Act.put, List.setIfInBounds_toArray, List.set_cons_succ, List.set_cons_zero]
        refine wl rfl (.bool true) _ (run_not (.tmp 65) 4 rfl false rfl) ?_
        simp only [Act.put, List.setIfInBounds_toArray, List.set_cons_succ, List.set_cons_zero]
        refine wl rfl (.bool true) _ (run_mvZ (.tmp 66) rfl (.bool true) rfl) ?_
        simp only [Act.put, List.setIfInBounds_toArray, List.set_cons_succ, List.set_cons_zero]
        refine wl (by kernel_rfl) (.int .i64 ga) _ (run_mvZ (.tmp 14) rfl (.int .i64 ga) rfl) ?_
        simp only [Act.put, List.setIfInBounds_toArray, List.set_cons_succ, List.set_cons_zero]
        refine wl (by kernel_rfl) (.bool true) _ (run_eqZ (.tmp 68) (.const (.int .i64 0)) rfl ga 0 rfl rfl true HP.out.2.2.1) ?_
        simp only [Act.put, List.setIfInBounds_toArray, List.set_cons_succ, List.set_cons_zero]
        refine wl (by kernel_rfl) (.bool true) _ (run_mvZ (.tmp 69) rfl (.bool true) rfl) ?_
        simp only [Act.put, List.setIfInBounds_toArray, List.set_cons_succ, List.set_cons_zero]
        refine wl (by kernel_rfl) (.int .i64 gb) _ (run_mvZ (.tmp 18) rfl (.int .i64 gb) rfl) ?_
        simp only [Act.put, List.setIfInBounds_toArray, List.set_cons_succ, List.set_cons_zero]
        refine wl (by kernel_rfl) (.bool false) _ (run_eqZ (.tmp 71) (.const (.int .i64 0)) rfl gb 0 rfl rfl false HP.out.2.2.2.1) ?_
        simp only [Act.put, List.setIfInBounds_toArray, List.set_cons_succ, List.set_cons_zero]
        refine wl (by kernel_rfl) (.bool false) _ (run_pickZ (.tmp 70) (.tmp 72) (.const (.bool false)) rfl true (.bool false) rfl rfl) ?_
        simp only [Act.put, List.setIfInBounds_toArray, List.set_cons_succ, List.set_cons_zero]
        refine wl (by kernel_rfl) (.bool false) _ (run_mvZ (.tmp 73) rfl (.bool false) rfl) ?_
        simp only [Act.put, List.setIfInBounds_toArray, List.set_cons_succ, List.set_cons_zero]
        refine wpList_skip (by kernel_rfl) ?_
        simp only [Act.put, List.setIfInBounds_toArray, List.set_cons_succ, List.set_cons_zero]
        refine wpList_skip (by kernel_rfl) ?_
        simp only [Act.put, List.setIfInBounds_toArray, List.set_cons_succ, List.set_cons_zero]
        refine wpList_skip (by kernel_rfl) ?_
        simp only [Act.put, List.setIfInBounds_toArray, List.set_cons_succ, List.set_cons_zero]
        refine wl (by kernel_rfl) (.bool false) _ (run_pickZ (.tmp 74) (.tmp 77) (.const (.bool false)) rfl false (.bool false) rfl rfl) ?_
        simp only [Act.put, List.setIfInBounds_toArray, List.set_cons_succ, List.set_cons_zero]
        refine wl (by kernel_rfl) (.bool false) _ (run_mvZ (.tmp 78) rfl (.bool false) rfl) ?_
        simp only [Act.put, List.setIfInBounds_toArray, List.set_cons_succ, List.set_cons_zero]
        refine wpList_skip (by kernel_rfl) ?_
        simp only [Act.put, List.setIfInBounds_toArray, List.set_cons_succ, List.set_cons_zero]
        refine wpList_skip (by kernel_rfl) ?_
        simp only [Act.put, List.setIfInBounds_toArray, List.set_cons_succ, List.set_cons_zero]
        refine wpList_skip (by kernel_rfl) ?_
        simp only [Act.put, List.setIfInBounds_toArray, List.set_cons_succ, List.set_cons_zero]
        refine wl (by kernel_rfl) (.bool false) _ (run_pickZ (.tmp 79) (.tmp 82) (.const (.bool false)) rfl false (.bool false) rfl rfl) ?_
        simp only [Act.put, List.setIfInBounds_toArray, List.set_cons_succ, List.set_cons_zero]
        refine wl (by kernel_rfl) (.bool false) _ (run_mvZ (.tmp 83) rfl (.bool false) rfl) ?_
        simp only [Act.put, List.setIfInBounds_toArray, List.set_cons_succ, List.set_cons_zero]
        refine wpList_skip (by kernel_rfl) ?_
        simp only [Act.put, List.setIfInBounds_toArray, List.set_cons_succ, List.set_cons_zero]
        refine wpList_skip (by kernel_rfl) ?_
        simp only [Act.put, List.setIfInBounds_toArray, List.set_cons_succ, List.set_cons_zero]
        refine wpList_skip (by kernel_rfl) ?_
        simp only [Act.put, List.setIfInBounds_toArray, List.set_cons_succ, List.set_cons_zero]
        refine wl (by kernel_rfl) (.bool false) _ (run_pickZ (.tmp 84) (.tmp 87) (.const (.bool false)) rfl false (.bool false) rfl rfl) ?_
        simp only [Act.put, List.setIfInBounds_toArray, List.set_cons_succ, List.set_cons_zero]
        refine wl (by kernel_rfl) (.bool true) _ (run_not (.tmp 88) 4 rfl false rfl) ?_
        simp only [Act.put, List.setIfInBounds_toArray, List.set_cons_succ, List.set_cons_zero]
        refine wl rfl (.bool true) _ (run_pickZ (.tmp 67) (.tmp 89) (.const (.bool false)) rfl true (.bool true) rfl rfl) ?_
        simp only [Act.put, List.setIfInBounds_toArray, List.set_cons_succ, List.set_cons_zero]
        refine wl rfl (.bool true) _ (run_asZ (.tmp 90) rfl (.bool true) rfl) ?_
        simp only [Act.put, List.setIfInBounds_toArray, List.set_cons_succ, List.set_cons_zero]
        refine wpList_nil ?_
        go_wp2_with fail
        rw [HPQ.out]
        exact ⟨rfl, Rw14.out.below⟩
      | true =>
      cases g3 with
      | false =>
        go_upto_region 9 with fail
        refine wp_region_lit ?_
        refine wl rfl (.int .i64 ex) _ (run_mvZ (.tmp 7) rfl (.int .i64 ex) rfl) ?_
        simp only [Act.put, List.setIfInBounds_toArray, List.set_cons_succ, List.set_cons_zero]
        refine wl rfl (.bool true) _ (run_eqZ (.tmp 57) (.const (.int .i64 0)) rfl ex 0 rfl rfl true HP.out.1) ?_
        simp only [Act.put, List.setIfInBounds_toArray, List.set_cons_succ, List.set_cons_zero]
        refine wl rfl (.bool true) _ (run_mvZ (.tmp 58) rfl (.bool true) rfl) ?_
        simp only [Act.put, List.setIfInBounds_toArray, List.set_cons_succ, List.set_cons_zero]
        refine wl (by kernel_rfl) (.int .i64 ey) _ (run_mvZ (.tmp 9) rfl (.int .i64 ey) rfl) ?_
        simp only [Act.put, List.setIfInBounds_toArray, List.set_cons_succ, List.set_cons_zero]
        refine wl (by kernel_rfl) (.bool false) _ (run_eqZ (.tmp 60) (.const (.int .i64 0)) rfl ey 0 rfl rfl false HP.out.2.1) ?_
        simp only [Act.put, List.setIfInBounds_toArray, List.set_cons_succ, List.set_cons_zero]
        refine wl rfl (.bool false) _ (run_pickZ (.tmp 59) (.tmp 61) (.const (.bool false)) rfl true (.bool false) rfl rfl) ?_
        simp only [Act.put, List.setIfInBounds_toArray, List.set_cons_succ, List.set_cons_zero]
        refine wl rfl (.bool false) _ (run_mvZ (.tmp 62) rfl (.bool false) rfl) ?_
        simp only [Act.put, List.setIfInBounds_toArray, List.set_cons_succ, List.set_cons_zero]
        refine wpList_skip (by kernel_rfl) ?_
        simp only [Act.put, List.setIfInBounds_toArray, List.set_cons_succ, List.set_cons_zero]
        refine wl rfl (.bool false) _ (run_pickZ (.tmp 63) (.tmp 64) (.const (.bool false)) rfl false (.bool false) rfl rfl) ?_
        simp only [Act.put, List.setIfInBounds_toArray, List.set_cons_succ, List.set_cons_zero]
        refine wl rfl (.bool true) _ (run_not (.tmp 65) 4 rfl false rfl) ?_
        simp only [Act.put, List.setIfInBounds_toArray, List.set_cons_succ, List.set_cons_zero]
        refine wl rfl (.bool true) _ (run_mvZ (.tmp 66) rfl (.bool true) rfl) ?_
        simp only [Act.put, List.setIfInBounds_toArray, List.set_cons_succ, List.set_cons_zero]
        refine wl (by kernel_rfl) (.int .i64 ga) _ (run_mvZ (.tmp 14) rfl (.int .i64 ga) rfl) ?_
        simp only [Act.put, List.setIfInBounds_toArray, List.set_cons_succ, List.set_cons_zero]
        refine wl (by kernel_rfl) (.bool true) _ (run_eqZ (.tmp 68) (.const (.int .i64 0)) rfl ga 0 rfl rfl true HP.out.2.2.1) ?_
        simp only [Act.put, List.setIfInBounds_toArray, List.set_cons_succ, List.set_cons_zero]
        refine wl (by kernel_rfl) (.bool true) _ (run_mvZ (.tmp 69) rfl (.bool true) rfl) ?_
        simp only [Act.put, List.setIfInBounds_toArray, List.set_cons_succ, List.set_cons_zero]
        refine wl (by kernel_rfl) (.int .i64 gb) _ (run_mvZ (.tmp 18) rfl (.int .i64 gb) rfl) ?_
        simp only [Act.put, List.setIfInBounds_toArray, List.set_cons_succ, List.set_cons_zero]
        refine wl (by kernel_rfl) (.bool true) _ (run_eqZ (.tmp 71) (.const (.int .i64 0)) rfl gb 0 rfl rfl true HP.out.2.2.2.1) ?_
        simp only [Act.put, List.setIfInBounds_toArray, List.set_cons_succ, List.set_cons_zero]
        refine wl (by kernel_rfl) (.bool true) _ (run_pickZ (.tmp 70) (.tmp 72) (.const (.bool false)) rfl true (.bool true) rfl rfl) ?_
        simp only [Act.put, List.setIfInBounds_toArray, List.set_cons_succ, List.set_cons_zero]
        refine wl (by kernel_rfl) (.bool true) _ (run_mvZ (.tmp 73) rfl (.bool true) rfl) ?_
        simp only [Act.put, List.setIfInBounds_toArray, List.set_cons_succ, List.set_cons_zero]
        refine wl (by kernel_rfl) (str ia) _ (run_mvZ (.tmp 11) rfl (str ia) rfl) ?_
        simp only [Act.put, List.setIfInBounds_toArray, List.set_cons_succ, List.set_cons_zero]
        refine wl (by kernel_rfl) (str ib) _ (run_mvZ (.tmp 15) rfl (str ib) rfl) ?_
        simp only [Act.put, List.setIfInBounds_toArray, List.set_cons_succ, List.set_cons_zero]
        refine wl (by kernel_rfl) (.bool false) _ (rx_seq (.tmp 75) (.tmp 76) rfl ia ib rfl rfl N3.out.1 N4.out.1 false HP.out.2.2.2.2.1) ?_
        simp only [Act.put, List.setIfInBounds_toArray, List.set_cons_succ, List.set_cons_zero]
        refine wl (by kernel_rfl) (.bool false) _ (run_pickZ (.tmp 74) (.tmp 77) (.const (.bool false)) rfl true (.bool false) rfl rfl) ?_
        simp only [Act.put, List.setIfInBounds_toArray, List.set_cons_succ, List.set_cons_zero]
        refine wl (by kernel_rfl) (.bool false) _ (run_mvZ (.tmp 78) rfl (.bool false) rfl) ?_
        simp only [Act.put, List.setIfInBounds_toArray, List.set_cons_succ, List.set_cons_zero]
        refine wpList_skip (by kernel_rfl) ?_
        simp only [Act.put, List.setIfInBounds_toArray, List.set_cons_succ, List.set_cons_zero]
        refine wpList_skip (by kernel_rfl) ?_
        simp only [Act.put, List.setIfInBounds_toArray, List.set_cons_succ, List.set_cons_zero]
        refine wpList_skip (by kernel_rfl) ?_
        simp only [Act.put, List.setIfInBounds_toArray, List.set_cons_succ, List.set_cons_zero]
        refine wl (by kernel_rfl) (.bool false) _ (run_pickZ (.tmp 79) (.tmp 82) (.const (.bool false)) rfl false (.bool false) rfl rfl) ?_
        simp only [Act.put, List.setIfInBounds_toArray, List.set_cons_succ, List.set_cons_zero]
        refine wl (by kernel_rfl) (.bool false) _ (run_mvZ (.tmp 83) rfl (.bool false) rfl) ?_
        simp only [Act.put, List.setIfInBounds_toArray, List.set_cons_succ, List.set_cons_zero]
        refine wpList_skip (by kernel_rfl) ?_
        simp only [Act.put, List.setIfInBounds_toArray, List.set_cons_succ, List.set_cons_zero]
        refine wpList_skip (by kernel_rfl) ?_
        simp only [Act.put, List.setIfInBounds_toArray, List.set_cons_succ, List.set_cons_zero]
        refine wpList_skip (by kernel_rfl) ?_
        simp only [Act.put, List.setIfInBounds_toArray, List.set_cons_succ, List.set_cons_zero]
        refine wl (by kernel_rfl) (.bool false) _ (run_pickZ (.tmp 84) (.tmp 87) (.const (.bool false)) rfl false (.bool false) rfl rfl) ?_
        simp only [Act.put, List.setIfInBounds_toArray, List.set_cons_succ, List.set_cons_zero]
        refine wl (by kernel_rfl) (.bool true) _ (run_not (.tmp 88) 4 rfl false rfl) ?_
        simp only [Act.put, List.setIfInBounds_toArray, List.set_cons_succ, List.set_cons_zero]
        refine wl rfl (.bool true) _ (run_pickZ (.tmp 67) (.tmp 89) (.const (.bool false)) rfl true (.bool true) rfl rfl) ?_
        simp only [Act.put, List.setIfInBounds_toArray, List.set_cons_succ, List.set_cons_zero]
        refine wl rfl (.bool true) _ (run_asZ (.tmp 90) rfl (.bool true) rfl) ?_
        simp only [Act.put, List.setIfInBounds_toArray, List.set_cons_succ, List.set_cons_zero]
        refine wpList_nil ?_
        go_wp2_with fail
        rw [HPQ.out]
        exact ⟨rfl, Rw14.out.below⟩
      | true =>
      cases g4 with
      | false =>
        go_upto_region 9 with fail
        refine wp_region_lit ?_
        refine wl rfl (.int .i64 ex) _ (run_mvZ (.tmp 7) rfl (.int .i64 ex) rfl) ?_
        simp only [Act.put, List.setIfInBounds_toArray, List.set_cons_succ, List.set_cons_zero]
        refine wl rfl (.bool true) _ (run_eqZ (.tmp 57) (.const (.int .i64 0)) rfl ex 0 rfl rfl true HP.out.1) ?_
        simp only [Act.put, List.setIfInBounds_toArray, List.set_cons_succ, List.set_cons_zero]
        refine wl rfl (.bool true) _ (run_mvZ (.tmp 58) rfl (.bool true) rfl) ?_
        simp only [Act.put, List.setIfInBounds_toArray, List.set_cons_succ, List.set_cons_zero]
        refine wl (by kernel_rfl) (.int .i64 ey) _ (run_mvZ (.tmp 9) rfl (.int .i64 ey) rfl) ?_
        simp only [Act.put, List.setIfInBounds_toArray, List.set_cons_succ, List.set_cons_zero]
        refine wl (by kernel_rfl) (.bool false) _ (run_eqZ (.tmp 60) (.const (.int .i64 0)) rfl ey 0 rfl rfl false HP.out.2.1) ?_
        simp only [Act.put, List.setIfInBounds_toArray, List.set_cons_succ, List.set_cons_zero]
        refine wl rfl (.bool false) _ (run_pickZ (.tmp 59) (.tmp 61) (.const (.bool false)) rfl true (.bool false) rfl rfl) ?_
        simp only [Act.put, List.setIfInBounds_toArray, List.set_cons_succ, List.set_cons_zero]
        refine wl rfl (.bool false) _ (run_mvZ (.tmp 62) rfl (.bool false) rfl) ?_
        simp only [Act.put, List.setIfInBounds_toArray, List.set_cons_succ, List.set_cons_zero]
        refine wpList_skip (by kernel_rfl) ?_
        simp only [Act.put, List.setIfInBounds_toArray, List.set_cons_succ, List.set_cons_zero]
        refine wl rfl (.bool false) _ (run_pickZ (.tmp 63) (.tmp 64) (.const (.bool false)) rfl false (.bool false) rfl rfl) ?_
        simp only [Act.put, List.setIfInBounds_toArray, List.set_cons_succ, List.set_cons_zero]
        refine wl rfl (.bool true) _ (run_not (.tmp 65) 4 rfl false rfl) ?_
        simp only [Act.put, List.setIfInBounds_toArray, List.set_cons_succ, List.set_cons_zero]
        refine wl rfl (.bool true) _ (run_mvZ (.tmp 66) rfl (.bool true) rfl) ?_
        simp only [Act.put, List.setIfInBounds_toArray, List.set_cons_succ, List.set_cons_zero]
        refine wl (by kernel_rfl) (.int .i64 ga) _ (run_mvZ (.tmp 14) rfl (.int .i64 ga) rfl) ?_
        simp only [Act.put, List.setIfInBounds_toArray, List.set_cons_succ, List.set_cons_zero]
        refine wl (by kernel_rfl) (.bool true) _ (run_eqZ (.tmp 68) (.const (.int .i64 0)) rfl ga 0 rfl rfl true HP.out.2.2.1) ?_
        simp only [Act.put, List.setIfInBounds_toArray, List.set_cons_succ, List.set_cons_zero]
        refine wl (by kernel_rfl) (.bool true) _ (run_mvZ (.tmp 69) rfl (.bool true) rfl) ?_
        simp only [Act.put, List.setIfInBounds_toArray, List.set_cons_succ, List.set_cons_zero]
        refine wl (by kernel_rfl) (.int .i64 gb) _ (run_mvZ (.tmp 18) rfl (.int .i64 gb) rfl) ?_
        simp only [Act.put, List.setIfInBounds_toArray, List.set_cons_succ, List.set_cons_zero]
        refine wl (by kernel_rfl) (.bool true) _ (run_eqZ (.tmp 71) (.const (.int .i64 0)) rfl gb 0 rfl rfl true HP.out.2.2.2.1) ?_
        simp only [Act.put, List.setIfInBounds_toArray, List.set_cons_succ, List.set_cons_zero]
        refine wl (by kernel_rfl) (.bool true) _ (run_pickZ (.tmp 70) (.tmp 72) (.const (.bool false)) rfl true (.bool true) rfl rfl) ?_
        simp only [Act.put, List.setIfInBounds_toArray, List.set_cons_succ, List.set_cons_zero]
        refine wl (by kernel_rfl) (.bool true) _ (run_mvZ (.tmp 73) rfl (.bool true) rfl) ?_
        simp only [Act.put, List.setIfInBounds_toArray, List.set_cons_succ, List.set_cons_zero]
        refine wl (by kernel_rfl) (str ia) _ (run_mvZ (.tmp 11) rfl (str ia) rfl) ?_
        simp only [Act.put, List.setIfInBounds_toArray, List.set_cons_succ, List.set_cons_zero]
        refine wl (by kernel_rfl) (str ib) _ (run_mvZ (.tmp 15) rfl (str ib) rfl) ?_
        simp only [Act.put, List.setIfInBounds_toArray, List.set_cons_succ, List.set_cons_zero]
        refine wl (by kernel_rfl) (.bool true) _ (rx_seq (.tmp 75) (.tmp 76) rfl ia ib rfl rfl N3.out.1 N4.out.1 true HP.out.2.2.2.2.1) ?_
        simp only [Act.put, List.setIfInBounds_toArray, List.set_cons_succ, List.set_cons_zero]
        refine wl (by kernel_rfl) (.bool true) _ (run_pickZ (.tmp 74) (.tmp 77) (.const (.bool false)) rfl true (.bool true) rfl rfl) ?_
        simp only [Act.put, List.setIfInBounds_toArray, List.set_cons_succ, List.set_cons_zero]
        refine wl (by kernel_rfl) (.bool true) _ (run_mvZ (.tmp 78) rfl (.bool true) rfl) ?_
        simp only [Act.put, List.setIfInBounds_toArray, List.set_cons_succ, List.set_cons_zero]
        refine wl (by kernel_rfl) (.int .i64 (na : Nat)) _ (run_mvZ (.tmp 12) rfl (.int .i64 (na : Nat)) rfl) ?_
        simp only [Act.put, List.setIfInBounds_toArray, List.set_cons_succ, List.set_cons_zero]
        refine wl (by kernel_rfl) (.int .i64 (nb : Nat)) _ (run_mvZ (.tmp 16) rfl (.int .i64 (nb : Nat)) rfl) ?_
        simp only [Act.put, List.setIfInBounds_toArray, List.set_cons_succ, List.set_cons_zero]
        refine wl (by kernel_rfl) (.bool false) _ (run_eqZ (.tmp 80) (.tmp 81) rfl (na : Nat) (nb : Nat) rfl rfl false HP.out.2.2.2.2.2.1) ?_
        simp only [Act.put, List.setIfInBounds_toArray, List.set_cons_succ, List.set_cons_zero]
        refine wl (by kernel_rfl) (.bool false) _ (run_pickZ (.tmp 79) (.tmp 82) (.const (.bool false)) rfl true (.bool false) rfl rfl) ?_
        simp only [Act.put, List.setIfInBounds_toArray, List.set_cons_succ, List.set_cons_zero]
        refine wl (by kernel_rfl) (.bool false) _ (run_mvZ (.tmp 83) rfl (.bool false) rfl) ?_
        simp only [Act.put, List.setIfInBounds_toArray, List.set_cons_succ, List.set_cons_zero]
        refine wpList_skip (by kernel_rfl) ?_
        simp only [Act.put, List.setIfInBounds_toArray, List.set_cons_succ, List.set_cons_zero]
        refine wpList_skip (by kernel_rfl) ?_
        simp only [Act.put, List.setIfInBounds_toArray, List.set_cons_succ, List.set_cons_zero]
        refine wpList_skip (by kernel_rfl) ?_
        simp only [Act.put, List.setIfInBounds_toArray, List.set_cons_succ, List.set_cons_zero]
        refine wl (by kernel_rfl) (.bool false) _ (run_pickZ (.tmp 84) (.tmp 87) (.const (.bool false)) rfl false (.bool false) rfl rfl) ?_
        simp only [Act.put, List.setIfInBounds_toArray, List.set_cons_succ, List.set_cons_zero]
        refine wl (by kernel_rfl) (.bool true) _ (run_not (.tmp 88) 4 rfl false rfl) ?_
        simp only [Act.put, List.setIfInBounds_toArray, List.set_cons_succ, List.set_cons_zero]
        refine wl rfl (.bool true) _ (run_pickZ (.tmp 67) (.tmp 89) (.const (.bool false)) rfl true (.bool true) rfl rfl) ?_
        simp only [Act.put, List.setIfInBounds_toArray, List.set_cons_succ, List.set_cons_zero]
        refine wl rfl (.bool true) _ (run_asZ (.tmp 90) rfl (.bool true) rfl) ?_
        simp only [Act.put, List.setIfInBounds_toArray, List.set_cons_succ, List.set_cons_zero]
        refine wpList_nil ?_
        go_wp2_with fail
        rw [HPQ.out]
        exact ⟨rfl, Rw14.out.below⟩
      | true =>
      cases g5 with
      | false =>
        go_upto_region 9 with fail
        refine wp_region_lit ?_
        refine wl rfl (.int .i64 ex) _ (run_mvZ (.tmp 7) rfl (.int .i64 ex) rfl) ?_
        simp only [Act.put, List.setIfInBounds_toArray, List.set_cons_succ, List.set_cons_zero]
        refine wl rfl (.bool true) _ (run_eqZ (.tmp 57) (.const (.int .i64 0)) rfl ex 0 rfl rfl true HP.out.1) ?_
        simp only [Act.put, List.setIfInBounds_toArray, List.set_cons_succ, List.set_cons_zero]
        refine wl rfl (.bool true) _ (run_mvZ (.tmp 58) rfl (.bool true) rfl) ?_
        simp only [Act.put, List.setIfInBounds_toArray, List.set_cons_succ, List.set_cons_zero]
        refine wl (by kernel_rfl) (.int .i64 ey) _ (run_mvZ (.tmp 9) rfl (.int .i64 ey) rfl) ?_
        simp only [Act.put, List.setIfInBounds_toArray, List.set_cons_succ, List.set_cons_zero]
        refine wl (by kernel_rfl) (.bool false) _ (run_eqZ (.tmp 60) (.const (.int .i64 0)) rfl ey 0 rfl rfl false HP.out.2.1) ?_
        simp only [Act.put, List.setIfInBounds_toArray, List.set_cons_succ, List.set_cons_zero]
        refine wl rfl (.bool false) _ (run_pickZ (.tmp 59) (.tmp 61) (.const (.bool false)) rfl true (.bool false) rfl rfl) ?_
        simp only [Act.put, List.setIfInBounds_toArray, List.set_cons_succ, List.set_cons_zero]
        refine wl rfl (.bool false) _ (run_mvZ (.tmp 62) rfl (.bool false) rfl) ?_
        simp only [Act.put, List.setIfInBounds_toArray, List.set_cons_succ, List.set_cons_zero]
        refine wpList_skip (by kernel_rfl) ?_
        simp only [Act.put, List.setIfInBounds_toArray, List.set_cons_succ, List.set_cons_zero]
        refine wl rfl (.bool false) _ (run_pickZ (.tmp 63) (.tmp 64) (.const (.bool false)) rfl false (.bool false) rfl rfl) ?_
        simp only [Act.put, List.setIfInBounds_toArray, List.set_cons_succ, List.set_cons_zero]
        refine wl rfl (.bool true) _ (run_not (.tmp 65) 4 rfl false rfl) ?_
        simp only [Act.put, List.setIfInBounds_toArray, List.set_cons_succ, List.set_cons_zero]
        refine wl rfl (.bool true) _ (run_mvZ (.tmp 66) rfl (.bool true) rfl) ?_
        simp only [Act.put, List.setIfInBounds_toArray, List.set_cons_succ, List.set_cons_zero]
        refine wl (by kernel_rfl) (.int .i64 ga) _ (run_mvZ (.tmp 14) rfl (.int .i64 ga) rfl) ?_
        simp only [Act.put, List.setIfInBounds_toArray, List.set_cons_succ, List.set_cons_zero]
        refine wl (by kernel_rfl) (.bool true) _ (run_eqZ (.tmp 68) (.const (.int .i64 0)) rfl ga 0 rfl rfl true HP.out.2.2.1) ?_
        simp only [Act.put, List.setIfInBounds_toArray, List.set_cons_succ, List.set_cons_zero]
        refine wl (by kernel_rfl) (.bool true) _ (run_mvZ (.tmp 69) rfl (.bool true) rfl) ?_
        simp only [Act.put, List.setIfInBounds_toArray, List.set_cons_succ, List.set_cons_zero]
        refine wl (by kernel_rfl) (.int .i64 gb) _ (run_mvZ (.tmp 18) rfl (.int .i64 gb) rfl) ?_
        simp only [Act.put, List.setIfInBounds_toArray, List.set_cons_succ, List.set_cons_zero]
        refine wl (by kernel_rfl) (.bool true) _ (run_eqZ (.tmp 71) (.const (.int .i64 0)) rfl gb 0 rfl rfl true HP.out.2.2.2.1) ?_
        simp only [Act.put, List.setIfInBounds_toArray, List.set_cons_succ, List.set_cons_zero]
        refine wl (by kernel_rfl) (.bool true) _ (run_pickZ (.tmp 70) (.tmp 72) (.const (.bool false)) rfl true (.bool true) rfl rfl) ?_
        simp only [Act.put, List.setIfInBounds_toArray, List.set_cons_succ, List.set_cons_zero]
        refine wl (by kernel_rfl) (.bool true) _ (run_mvZ (.tmp 73) rfl (.bool true) rfl) ?_
        simp only [Act.put, List.setIfInBounds_toArray, List.set_cons_succ, List.set_cons_zero]
        refine wl (by kernel_rfl) (str ia) _ (run_mvZ (.tmp 11) rfl (str ia) rfl) ?_
        simp only [Act.put, List.setIfInBounds_toArray, List.set_cons_succ, List.set_cons_zero]
        refine wl (by kernel_rfl) (str ib) _ (run_mvZ (.tmp 15) rfl (str ib) rfl) ?_
        simp only [Act.put, List.setIfInBounds_toArray, List.set_cons_succ, List.set_cons_zero]
        refine wl (by kernel_rfl) (.bool true) _ (rx_seq (.tmp 75) (.tmp 76) rfl ia ib rfl rfl N3.out.1 N4.out.1 true HP.out.2.2.2.2.1) ?_
        simp only [Act.put, List.setIfInBounds_toArray, List.set_cons_succ, List.set_cons_zero]
        refine wl (by kernel_rfl) (.bool true) _ (run_pickZ (.tmp 74) (.tmp 77) (.const (.bool false)) rfl true (.bool true) rfl rfl) ?_
        simp only [Act.put, List.setIfInBounds_toArray, List.set_cons_succ, List.set_cons_zero]
        refine wl (by kernel_rfl) (.bool true) _ (run_mvZ (.tmp 78) rfl (.bool true) rfl) ?_
        simp only [Act.put, List.setIfInBounds_toArray, List.set_cons_succ, List.set_cons_zero]
        refine wl (by kernel_rfl) (.int .i64 (na : Nat)) _ (run_mvZ (.tmp 12) rfl (.int .i64 (na : Nat)) rfl) ?_
        simp only [Act.put, List.setIfInBounds_toArray, List.set_cons_succ, List.set_cons_zero]
        refine wl (by kernel_rfl) (.int .i64 (nb : Nat)) _ (run_mvZ (.tmp 16) rfl (.int .i64 (nb : Nat)) rfl) ?_
        simp only [Act.put, List.setIfInBounds_toArray, List.set_cons_succ, List.set_cons_zero]
        refine wl (by kernel_rfl) (.bool true) _ (run_eqZ (.tmp 80) (.tmp 81) rfl (na : Nat) (nb : Nat) rfl rfl true HP.out.2.2.2.2.2.1) ?_
        simp only [Act.put, List.setIfInBounds_toArray, List.set_cons_succ, List.set_cons_zero]
        refine wl (by kernel_rfl) (.bool true) _ (run_pickZ (.tmp 79) (.tmp 82) (.const (.bool false)) rfl true (.bool true) rfl rfl) ?_
        simp only [Act.put, List.setIfInBounds_toArray, List.set_cons_succ, List.set_cons_zero]
        refine wl (by kernel_rfl) (.bool true) _ (run_mvZ (.tmp 83) rfl (.bool true) rfl) ?_
        simp only [Act.put, List.setIfInBounds_toArray, List.set_cons_succ, List.set_cons_zero]
        refine wl (by kernel_rfl) (.agg (bcells ra).toArray) _ (run_loadA ag23 (.tmp 13) rfl q13 (0) rfl (bcells ra) (bc32 N3.out.2.1) (rows_all Rw14.out 2 rfl)) ?_
        simp only [Act.put, List.setIfInBounds_toArray, List.set_cons_succ, List.set_cons_zero]
        refine wl (by kernel_rfl) (.agg (bcells rb).toArray) _ (run_loadA ag23 (.tmp 17) rfl q17 (0) rfl (bcells rb) (bc32 N4.out.2.1) (rows_all Rw14.out 3 rfl)) ?_
        simp only [Act.put, List.setIfInBounds_toArray, List.set_cons_succ, List.set_cons_zero]
        refine wl (by kernel_rfl) (.bool false) _ (rx_eqH (.tmp 85) (.tmp 86) rfl ra rb N3.out.2 N4.out.2 rfl rfl false HP.out.2.2.2.2.2.2) ?_
        simp only [Act.put, List.setIfInBounds_toArray, List.set_cons_succ, List.set_cons_zero]
        refine wl (by kernel_rfl) (.bool false) _ (run_pickZ (.tmp 84) (.tmp 87) (.const (.bool false)) rfl true (.bool false) rfl rfl) ?_
        simp only [Act.put, List.setIfInBounds_toArray, List.set_cons_succ, List.set_cons_zero]
        refine wl (by kernel_rfl) (.bool true) _ (run_not (.tmp 88) 4 rfl false rfl) ?_
        simp only [Act.put, List.setIfInBounds_toArray, List.set_cons_succ, List.set_cons_zero]
        refine wl rfl (.bool true) _ (run_pickZ (.tmp 67) (.tmp 89) (.const (.bool false)) rfl true (.bool true) rfl rfl) ?_
        simp only [Act.put, List.setIfInBounds_toArray, List.set_cons_succ, List.set_cons_zero]
        refine wl rfl (.bool true) _ (run_asZ (.tmp 90) rfl (.bool true) rfl) ?_
        simp only [Act.put, List.setIfInBounds_toArray, List.set_cons_succ, List.set_cons_zero]
        refine wpList_nil ?_
        go_wp2_with fail
        rw [HPQ.out]
        exact ⟨rfl, Rw14.out.below⟩
      | true =>
      exact absurd ⟨of_decide_eq_true HP.out.2.2.2.2.1, by have := of_decide_eq_true HP.out.2.2.2.2.2.1; omega, of_decide_eq_true HP.out.2.2.2.2.2.2⟩ (unlike_ent (SliceIn.lt256 HI.out.1) (SliceIn.lt256 HI.out.2) HNE.out (D3.out (of_decide_eq_true HP.out.2.2.1)) (D4.out (of_decide_eq_true HP.out.2.2.2.1)))
    | true =>
    cases al with
    | false =>
      cases g1 with
      | false =>
        go_upto_region 9 with fail
        refine wp_region_lit ?_
        refine wl rfl (.int .i64 ex) _ (run_mvZ (.tmp 7) rfl (.int .i64 ex) rfl) ?_
        simp only [Act.put, List.setIfInBounds_toArray, List.set_cons_succ, List.set_cons_zero]
        refine wl rfl (.bool true) _ (run_eqZ (.tmp 57) (.const (.int .i64 0)) rfl ex 0 rfl rfl true HP.out.1) ?_
        simp only [Act.put, List.setIfInBounds_toArray, List.set_cons_succ, List.set_cons_zero]
        refine wl rfl (.bool true) _ (run_mvZ (.tmp 58) rfl (.bool true) rfl) ?_
        simp only [Act.put, List.setIfInBounds_toArray, List.set_cons_succ, List.set_cons_zero]
        refine wl (by kernel_rfl) (.int .i64 ey) _ (run_mvZ (.tmp 9) rfl (.int .i64 ey) rfl) ?_
        simp only [Act.put, List.setIfInBounds_toArray, List.set_cons_succ, List.set_cons_zero]
        refine wl (by kernel_rfl) (.bool true) _ (run_eqZ (.tmp 60) (.const (.int .i64 0)) rfl ey 0 rfl rfl true HP.out.2.1) ?_
        simp only [Act.put, List.setIfInBounds_toArray, List.set_cons_succ, List.set_cons_zero]
        refine wl rfl (.bool true) _ (run_pickZ (.tmp 59) (.tmp 61) (.const (.bool false)) rfl true (.bool true) rfl rfl) ?_
        simp only [Act.put, List.setIfInBounds_toArray, List.set_cons_succ, List.set_cons_zero]
        refine wl rfl (.bool true) _ (run_mvZ (.tmp 62) rfl (.bool true) rfl) ?_
        simp only [Act.put, List.setIfInBounds_toArray, List.set_cons_succ, List.set_cons_zero]
        refine wl (by kernel_rfl) (.bool false) _ (run_mvZ (.tmp 10) rfl (.bool false) rfl) ?_
        simp only [Act.put, List.setIfInBounds_toArray, List.set_cons_succ, List.set_cons_zero]
        refine wl rfl (.bool false) _ (run_pickZ (.tmp 63) (.tmp 64) (.const (.bool false)) rfl true (.bool false) rfl rfl) ?_
        simp only [Act.put, List.setIfInBounds_toArray, List.set_cons_succ, List.set_cons_zero]
        refine wl rfl (.bool true) _ (run_not (.tmp 65) 4 rfl false rfl) ?_
        simp only [Act.put, List.setIfInBounds_toArray, List.set_cons_succ, List.set_cons_zero]
        refine wl rfl (.bool true) _ (run_mvZ (.tmp 66) rfl (.bool true) rfl) ?_
        simp only [Act.put, List.setIfInBounds_toArray, List.set_cons_succ, List.set_cons_zero]
        refine wl (by kernel_rfl) (.int .i64 ga) _ (run_mvZ (.tmp 14) rfl (.int .i64 ga) rfl) ?_
        simp only [Act.put, List.setIfInBounds_toArray, List.set_cons_succ, List.set_cons_zero]
        refine wl (by kernel_rfl) (.bool false) _ (run_eqZ (.tmp 68) (.const (.int .i64 0)) rfl ga 0 rfl rfl false HP.out.2.2.1) ?_
        simp only [Act.put, List.setIfInBounds_toArray, List.set_cons_succ, List.set_cons_zero]
        refine wl (by kernel_rfl) (.bool false) _ (run_mvZ (.tmp 69) rfl (.bool false) rfl) ?_
        simp only [Act.put, List.setIfInBounds_toArray, List.set_cons_succ, List.set_cons_zero]
        refine wpList_skip (by kernel_rfl) ?_
        simp only [Act.put, List.setIfInBounds_toArray, List.set_cons_succ, List.set_cons_zero]
        refine wpList_skip (by kernel_rfl) ?_
        simp only [Act.put, List.setIfInBounds_toArray, List.set_cons_succ, List.set_cons_zero]
        refine wl (by kernel_rfl) (.bool false) _ (run_pickZ (.tmp 70) (.tmp 72) (.const (.bool false)) rfl false (.bool false) rfl rfl) ?_
        simp only [Act.put, List.setIfInBounds_toArray, List.set_cons_succ, List.set_cons_zero]
        refine wl (by kernel_rfl) (.bool false) _ (run_mvZ (.tmp 73) rfl (.bool false) rfl) ?_
        simp only [Act.put, List.setIfInBounds_toArray, List.set_cons_succ, List.set_cons_zero]
        refine wpList_skip (by kernel_rfl) ?_
        simp only [Act.put, List.setIfInBounds_toArray, List.set_cons_succ, List.set_cons_zero]
        refine wpList_skip (by kernel_rfl) ?_
        simp only [Act.put, List.setIfInBounds_toArray, List.set_cons_succ, List.set_cons_zero]
        refine wpList_skip (by kernel_rfl) ?_
        simp only [Act.put, List.setIfInBounds_toArray, List.set_cons_succ, List.set_cons_zero]
        refine wl (by kernel_rfl) (.bool false) _ (run_pickZ (.tmp 74) (.tmp 77) (.const (.bool false)) rfl false (.bool false) rfl rfl) ?_
        simp only [Act.put, List.setIfInBounds_toArray, List.set_cons_succ, List.set_cons_zero]
        refine wl (by kernel_rfl) (.bool false) _ (run_mvZ (.tmp 78) rfl (.bool false) rfl) ?_
        simp only [Act.put, List.setIfInBounds_toArray, List.set_cons_succ, List.set_cons_zero]
        refine wpList_skip (by kernel_rfl) ?_
        simp only [Act.put, List.setIfInBounds_toArray, List.set_cons_succ, List.set_cons_zero]
        refine wpList_skip (by kernel_rfl) ?_
        simp only [Act.put, List.setIfInBounds_toArray, List.set_cons_succ, List.set_cons_zero]
        refine wpList_skip (by kernel_rfl) ?_
        simp only [Act.put, List.setIfInBounds_toArray, List.set_cons_succ, List.set_cons_zero]
        refine wl (by kernel_rfl) (.bool false) _ (run_pickZ (.tmp 79) (.tmp 82) (.const (.bool false)) rfl false (.bool false) rfl rfl) ?_
        simp only [Act.put, List.setIfInBounds_toArray, List.set_cons_succ, List.set_cons_zero]
        refine wl (by kernel_rfl) (.bool false) _ (run_mvZ (.tmp 83) rfl (.bool false) rfl) ?_
        simp only [Act.put, List.setIfInBounds_toArray, List.set_cons_succ, List.set_cons_zero]
        refine wpList_skip (by kernel_rfl) ?_
        simp only [Act.put, List.setIfInBounds_toArray, List.set_cons_succ, List.set_cons_zero]
        refine wpList_skip (by kernel_rfl) ?_
        simp only [Act.put, List.setIfInBounds_toArray, List.set_cons_succ, List.set_cons_zero]
        refine wpList_skip (by kernel_rfl) ?_
        simp only [Act.put, List.setIfInBounds_toArray, List.set_cons_succ, List.set_cons_zero]
        refine wl (by kernel_rfl) (.bool false) _ (run_pickZ (.tmp 84) (.tmp 87) (.const (.bool false)) rfl false (.bool false) rfl rfl) ?_
        simp only [Act.put, List.setIfInBounds_toArray, List.set_cons_succ, List.set_cons_zero]
        refine wl (by kernel_rfl) (.bool true) _ (run_not (.tmp 88) 4 rfl false rfl) ?_
        simp only [Act.put, List.setIfInBounds_toArray, List.set_cons_succ, List.set_cons_zero]
        refine wl rfl (.bool true) _ (run_pickZ (.tmp 67) (.tmp 89) (.const (.bool false)) rfl true (.bool true) rfl rfl) ?_
        simp only [Act.put, List.setIfInBounds_toArray, List.set_cons_succ, List.set_cons_zero]
        refine wl rfl (.bool true) _ (run_asZ (.tmp 90) rfl (.bool true) rfl) ?_
        simp only [Act.put, List.setIfInBounds_toArray, List.set_cons_succ, List.set_cons_zero]
        refine wpList_nil ?_
        go_wp2_with fail
        rw [HPQ.out]
        exact ⟨rfl, Rw14.out.below⟩
      | true =>
      cases g2 with
      | false =>
        go_upto_region 9 with fail
        refine wp_region_lit ?_
        refine wl rfl (.int .i64 ex) _ (run_mvZ (.tmp 7) rfl (.int .i64 ex) rfl) ?_
        simp only [Act.put, List.setIfInBounds_toArray, List.set_cons_succ, List.set_cons_zero]
        refine wl rfl (.bool true) _ (run_eqZ (.tmp 57) (.const (.int .i64 0)) rfl ex 0 rfl rfl true HP.out.1) ?_
        simp only [Act.put, List.setIfInBounds_toArray, List.set_cons_succ, List.set_cons_zero]
        refine wl rfl (.bool true) _ (run_mvZ (.tmp 58) rfl (.bool true) rfl) ?_
        simp only [Act.put, List.setIfInBounds_toArray, List.set_cons_succ, List.set_cons_zero]
        refine wl (by kernel_rfl) (.int .i64 ey) _ (run_mvZ (.tmp 9) rfl (.int .i64 ey) rfl) ?_
        simp only [Act.put, List.setIfInBounds_toArray, List.set_cons_succ, List.set_cons_zero]
        refine wl (by kernel_rfl) (.bool true) _ (run_eqZ (.tmp 60) (.const (.int .i64 0)) rfl ey 0 rfl rfl true HP.out.2.1) ?_
        simp only [Act.put, List.setIfInBounds_toArray, List.set_cons_succ, List.set_cons_zero]
        refine wl rfl (.bool true) _ (run_pickZ (.tmp 59) (.tmp 61) (.const (.bool false)) rfl true (.bool true) rfl rfl) ?_
        simp only [Act.put, List.setIfInBounds_toArray, List.set_cons_succ, List.set_cons_zero]
        refine wl rfl (.bool true) _ (run_mvZ (.tmp 62) rfl (.bool true) rfl) ?_
        simp only [Act.put, List.setIfInBounds_toArray, List.set_cons_succ, List.set_cons_zero]
        refine wl (by kernel_rfl) (.bool false) _ (run_mvZ (.tmp 10) rfl (.bool false) rfl) ?_
        simp only [Act.put, List.setIfInBounds_toArray, List.set_cons_succ, List.set_cons_zero]
        refine wl rfl (.bool false) _ (run_pickZ (.tmp 63) (.tmp 64) (.const (.bool false)) rfl true (.bool false) rfl rfl) ?_
        simp only [Act.put, List.setIfInBounds_toArray, List.set_cons_succ, List.set_cons_zero]
        refine wl rfl (.bool true) _ (run_not (.tmp 65) 4 rfl false rfl) ?_
        simp only [Act.put, List.setIfInBounds_toArray, List.set_cons_succ, List.set_cons_zero]
        refine wl rfl (.bool true) _ (run_mvZ (.tmp 66) rfl (.bool true) rfl) ?_
        simp only [Act.put, List.setIfInBounds_toArray, List.set_cons_succ, List.set_cons_zero]
        refine wl (by kernel_rfl) (.int .i64 ga) _ (run_mvZ (.tmp 14) rfl (.int .i64 ga) rfl) ?_
        simp only [Act.put, List.setIfInBounds_toArray, List.set_cons_succ, List.set_cons_zero]
        refine wl (by kernel_rfl) (.bool true) _ (run_eqZ (.tmp 68) (.const (.int .i64 0)) rfl ga 0 rfl rfl true HP.out.2.2.1) ?_
        simp only [Act.put, List.setIfInBounds_toArray, List.set_cons_succ, List.set_cons_zero]
        refine wl (by kernel_rfl) (.bool true) _ (run_mvZ (.tmp 69) rfl (.bool true) rfl) ?_
        simp only [Act.put, List.setIfInBounds_toArray, List.set_cons_succ, List.set_cons_zero]
        refine wl (by kernel_rfl) (.int .i64 gb) _ (run_mvZ (.tmp 18) rfl (.int .i64 gb) rfl) ?_
        simp only [Act.put, List.setIfInBounds_toArray, List.set_cons_succ, List.set_cons_zero]
        refine wl (by kernel_rfl) (.bool false) _ (run_eqZ (.tmp 71) (.const (.int .i64 0)) rfl gb 0 rfl rfl false HP.out.2.2.2.1) ?_
        simp only [Act.put, List.setIfInBounds_toArray, List.set_cons_succ, List.set_cons_zero]
        refine wl (by kernel_rfl) (.bool false) _ (run_pickZ (.tmp 70) (.tmp 72) (.const (.bool false)) rfl true (.bool false) rfl rfl) ?_
        simp only [Act.put, List.setIfInBounds_toArray, List.set_cons_succ, List.set_cons_zero]
        refine wl (by kernel_rfl) (.bool false) _ (run_mvZ (.tmp 73) rfl (.bool false) rfl) ?_
        simp only [Act.put, List.setIfInBounds_toArray, List.set_cons_succ, List.set_cons_zero]
        refine wpList_skip (by kernel_rfl) ?_
        simp only [Act.put, List.setIfInBounds_toArray, List.set_cons_succ, List.set_cons_zero]
        refine wpList_skip (by kernel_rfl) ?_
        simp only [Act.put, List.setIfInBounds_toArray, List.set_cons_succ, List.set_cons_zero]
        refine wpList_skip (by kernel_rfl) ?_
        simp only [Act.put, List.setIfInBounds_toArray, List.set_cons_succ, List.set_cons_zero]
        refine wl (by kernel_rfl) (.bool false) _ (run_pickZ (.tmp 74) (.tmp 77) (.const (.bool false)) rfl false (.bool false) rfl rfl) ?_
        simp only [Act.put, List.setIfInBounds_toArray, List.set_cons_succ, List.set_cons_zero]
        refine wl (by kernel_rfl) (.bool false) _ (run_mvZ (.tmp 78) rfl (.bool false) rfl) ?_
        simp only [Act.put, List.setIfInBounds_toArray, List.set_cons_succ, List.set_cons_zero]
        refine wpList_skip (by kernel_rfl) ?_
        simp only [Act.put, List.setIfInBounds_toArray, List.set_cons_succ, List.set_cons_zero]
        refine wpList_skip (by kernel_rfl) ?_
        simp only [Act.put, List.setIfInBounds_toArray, List.set_cons_succ, List.set_cons_zero]
        refine wpList_skip (by kernel_rfl) ?_
        simp only [Act.put, List.setIfInBounds_toArray, List.set_cons_succ, List.set_cons_zero]
        refine wl (by kernel_rfl) (.bool false) _ (run_pickZ (.tmp 79) (.tmp 82) (.const (.bool false)) rfl false (.bool false) rfl rfl) ?_
        simp only [Act.put, List.setIfInBounds_toArray, List.set_cons_succ, List.set_cons_zero]
        refine wl (by kernel_rfl) (.bool false) _ (run_mvZ (.tmp 83) rfl (.bool false) rfl) ?_
        simp only [Act.put, List.setIfInBounds_toArray, List.set_cons_succ, List.set_cons_zero]
        refine wpList_skip (by kernel_rfl) ?_
        simp only [Act.put, List.setIfInBounds_toArray, List.set_cons_succ, List.set_cons_zero]
        refine wpList_skip (by kernel_rfl) ?_
        simp only [Act.put, List.setIfInBounds_toArray, List.set_cons_succ, List.set_cons_zero]
        refine wpList_skip (by kernel_rfl) ?_
        simp only [Act.put, List.setIfInBounds_toArray, List.set_cons_succ, List.set_cons_zero]
        refine wl (by kernel_rfl) (.bool false) _ (run_pickZ (.tmp 84) (.tmp 87) (.const (.bool false)) rfl false (.bool false) rfl rfl) ?_
        simp only [Act.put, List.setIfInBounds_toArray, List.set_cons_succ, List.set_cons_zero]
        refine wl (by kernel_rfl) (.bool true) _ (run_not (.tmp 88) 4 rfl false rfl) ?_
        simp only [Act.put, List.setIfInBounds_toArray, List.set_cons_succ, List.set_cons_zero]
        refine wl rfl (.bool true) _ (run_pickZ (.tmp 67) (.tmp 89) (.const (.bool false)) rfl true (.bool true) rfl rfl) ?_
        simp only [Act.put, List.setIfInBounds_toArray, List.set_cons_succ, List.set_cons_zero]
        refine wl rfl (.bool true) _ (run_asZ (.tmp 90) rfl (.bool true) rfl) ?_
        simp only [Act.put, List.setIfInBounds_toArray, List.set_cons_succ, List.set_cons_zero]
        refine wpList_nil ?_
        go_wp2_with fail
        rw [HPQ.out]
        exact ⟨rfl, Rw14.out.below⟩
      | true =>
      cases g3 with
      | false =>
        go_upto_region 9 with fail
        refine wp_region_lit ?_
        refine wl rfl (.int .i64 ex) _ (run_mvZ (.tmp 7) rfl (.int .i64 ex) rfl) ?_
        simp only [Act.put, List.setIfInBounds_toArray, List.set_cons_succ, List.set_cons_zero]
        refine wl rfl (.bool true) _ (run_eqZ (.tmp 57) (.const (.int .i64 0)) rfl ex 0 rfl rfl true HP.out.1) ?_
        simp only [Act.put, List.setIfInBounds_toArray, List.set_cons_succ, List.set_cons_zero]
        refine wl rfl (.bool true) _ (run_mvZ (.tmp 58) rfl (.bool true) rfl) ?_
        simp only [Act.put, List.setIfInBounds_toArray, List.set_cons_succ, List.set_cons_zero]
        refine wl (by kernel_rfl) (.int .i64 ey) _ (run_mvZ (.tmp 9) rfl (.int .i64 ey) rfl) ?_
        simp only [Act.put, List.setIfInBounds_toArray, List.set_cons_succ, List.set_cons_zero]
        refine wl (by kernel_rfl) (.bool true) _ (run_eqZ (.tmp 60) (.const (.int .i64 0)) rfl ey 0 rfl rfl true HP.out.2.1) ?_
        simp only [Act.put, List.setIfInBounds_toArray, List.set_cons_succ, List.set_cons_zero]
        refine wl rfl (.bool true) _ (run_pickZ (.tmp 59) (.tmp 61) (.const (.bool false)) rfl true (.bool true) rfl rfl) ?_
        simp only [Act.put, List.setIfInBounds_toArray, List.set_cons_succ, List.set_cons_zero]
        refine wl rfl (.bool true) _ (run_mvZ (.tmp 62) rfl (.bool true) rfl) ?_
        simp only [Act.put, List.setIfInBounds_toArray, List.set_cons_succ, List.set_cons_zero]
        refine wl (by kernel_rfl) (.bool false) _ (run_mvZ (.tmp 10) rfl (.bool false) rfl) ?_
        simp only [Act.put, List.setIfInBounds_toArray, List.set_cons_succ, List.set_cons_zero]
        refine wl rfl (.bool false) _ (run_pickZ (.tmp 63) (.tmp 64) (.const (.bool false)) rfl true (.bool false) rfl rfl) ?_
        simp only [Act.put, List.setIfInBounds_toArray, List.set_cons_succ, List.set_cons_zero]
        refine wl rfl (.bool true) _ (run_not (.tmp 65) 4 rfl false rfl) ?_
        simp only [Act.put, List.setIfInBounds_toArray, List.set_cons_succ, List.set_cons_zero]
        refine wl rfl (.bool true) _ (run_mvZ (.tmp 66) rfl (.bool true) rfl) ?_
        simp only [Act.put, List.setIfInBounds_toArray, List.set_cons_succ, List.set_cons_zero]
        refine wl (by kernel_rfl) (.int .i64 ga) _ (run_mvZ (.tmp 14) rfl (.int .i64 ga) rfl) ?_
        simp only [Act.put, List.setIfInBounds_toArray, List.set_cons_succ, List.set_cons_zero]
        refine wl (by kernel_rfl) (.bool true) _ (run_eqZ (.tmp 68) (.const (.int .i64 0)) rfl ga 0 rfl rfl true HP.out.2.2.1) ?_
        simp only [Act.put, List.setIfInBounds_toArray, List.set_cons_succ, List.set_cons_zero]
        refine wl (by kernel_rfl) (.bool true) _ (run_mvZ (.tmp 69) rfl (.bool true) rfl) ?_
        simp only [Act.put, List.setIfInBounds_toArray, List.set_cons_succ, List.set_cons_zero]
        refine wl (by kernel_rfl) (.int .i64 gb) _ (run_mvZ (.tmp 18) rfl (.int .i64 gb) rfl) ?_
        simp only [Act.put, List.setIfInBounds_toArray, List.set_cons_succ, List.set_cons_zero]
        refine wl (by kernel_rfl) (.bool true) _ (run_eqZ (.tmp 71) (.const (.int .i64 0)) rfl gb 0 rfl rfl true HP.out.2.2.2.1) ?_
        simp only [Act.put, List.setIfInBounds_toArray, List.set_cons_succ, List.set_cons_zero]
        refine wl (by kernel_rfl) (.bool true) _ (run_pickZ (.tmp 70) (.tmp 72) (.const (.bool false)) rfl true (.bool true) rfl rfl) ?_
        simp only [Act.put, List.setIfInBounds_toArray, List.set_cons_succ, List.set_cons_zero]
        refine wl (by kernel_rfl) (.bool true) _ (run_mvZ (.tmp 73) rfl (.bool true) rfl) ?_
        simp only [Act.put, List.setIfInBounds_toArray, List.set_cons_succ, List.set_cons_zero]
        refine wl (by kernel_rfl) (str ia) _ (run_mvZ (.tmp 11) rfl (str ia) rfl) ?_
        simp only [Act.put, List.setIfInBounds_toArray, List.set_cons_succ, List.set_cons_zero]
        refine wl (by kernel_rfl) (str ib) _ (run_mvZ (.tmp 15) rfl (str ib) rfl) ?_
        simp only [Act.put, List.setIfInBounds_toArray, List.set_cons_succ, List.set_cons_zero]
        refine wl (by kernel_rfl) (.bool false) _ (rx_seq (.tmp 75) (.tmp 76) rfl ia ib rfl rfl N3.out.1 N4.out.1 false HP.out.2.2.2.2.1) ?_
        simp only [Act.put, List.setIfInBounds_toArray, List.set_cons_succ, List.set_cons_zero]
        refine wl (by kernel_rfl) (.bool false) _ (run_pickZ (.tmp 74) (.tmp 77) (.const (.bool false)) rfl true (.bool false) rfl rfl) ?_
        simp only [Act.put, List.setIfInBounds_toArray, List.set_cons_succ, List.set_cons_zero]
        refine wl (by kernel_rfl) (.bool false) _ (run_mvZ (.tmp 78) rfl (.bool false) rfl) ?_
        simp only [Act.put, List.setIfInBounds_toArray, List.set_cons_succ, List.set_cons_zero]
        refine wpList_skip (by kernel_rfl) ?_
        simp only [Act.put, List.setIfInBounds_toArray, List.set_cons_succ, List.set_cons_zero]
        refine wpList_skip (by kernel_rfl) ?_
        simp only [Act.put, List.setIfInBounds_toArray, List.set_cons_succ, List.set_cons_zero]
        refine wpList_skip (by kernel_rfl) ?_
        simp only [Act.put, List.setIfInBounds_toArray, List.set_cons_succ, List.set_cons_zero]
        refine wl (by kernel_rfl) (.bool false) _ (run_pickZ (.tmp 79) (.tmp 82) (.const (.bool false)) rfl false (.bool false) rfl rfl) ?_
        simp only [Act.put, List.setIfInBounds_toArray, List.set_cons_succ, List.set_cons_zero]
        refine wl (by kernel_rfl) (.bool false) _ (run_mvZ (.tmp 83) rfl (.bool false) rfl) ?_
        simp only [Act.put, List.setIfInBounds_toArray, List.set_cons_succ, List.set_cons_zero]
        refine wpList_skip (by kernel_rfl) ?_
        simp only [Act.put, List.setIfInBounds_toArray, List.set_cons_succ, List.set_cons_zero]
        refine wpList_skip (by kernel_rfl) ?_
        simp only [Act.put, List.setIfInBounds_toArray, List.set_cons_succ, List.set_cons_zero]
        refine wpList_skip (by kernel_rfl) ?_
        simp only [Act.put, List.setIfInBounds_toArray, List.set_cons_succ, List.set_cons_zero]
        refine wl (by kernel_rfl) (.bool false) _ (run_pickZ (.tmp 84) (.tmp 87) (.const (.bool false)) rfl false (.bool false) rfl rfl) ?_
        simp only [Act.put, List.setIfInBounds_toArray, List.set_cons_succ, List.set_cons_zero]
        refine wl (by kernel_rfl) (.bool true) _ (run_not (.tmp 88) 4 rfl false rfl) ?_
        simp only [Act.put, List.setIfInBounds_toArray, List.set_cons_succ, List.set_cons_zero]
        refine wl rfl (.bool true) _ (run_pickZ (.tmp 67) (.tmp 89) (.const (.bool false)) rfl true (.bool true) rfl rfl) ?_
        simp only [Act.put, List.setIfInBounds_toArray, List.set_cons_succ, List.set_cons_zero]
        refine wl rfl (.bool true) _ (run_asZ (.tmp 90) rfl (.bool true) rfl) ?_
        simp only [Act.put, List.setIfInBounds_toArray, List.set_cons_succ, List.set_cons_zero]
        refine wpList_nil ?_
        go_wp2_with fail
        rw [HPQ.out]
        exact ⟨rfl, Rw14.out.below⟩
      | true =>
      cases g4 with
      | false =>
        go_upto_region 9 with fail
        refine wp_region_lit ?_
        refine wl rfl (.int .i64 ex) _ (run_mvZ (.tmp 7) rfl (.int .i64 ex) rfl) ?_
        simp only [Act.put, List.setIfInBounds_toArray, List.set_cons_succ, List.set_cons_zero]
        refine wl rfl (.bool true) _ (run_eqZ (.tmp 57) (.const (.int .i64 0)) rfl ex 0 rfl rfl true HP.out.1) ?_
        simp only [Act.put, List.setIfInBounds_toArray, List.set_cons_succ, List.set_cons_zero]
        refine wl rfl (.bool true) _ (run_mvZ (.tmp 58) rfl (.bool true) rfl) ?_
        simp only [Act.put, List.setIfInBounds_toArray, List.set_cons_succ, List.set_cons_zero]
        refine wl (by kernel_rfl) (.int .i64 ey) _ (run_mvZ (.tmp 9) rfl (.int .i64 ey) rfl) ?_
        simp only [Act.put, List.setIfInBounds_toArray, List.set_cons_succ, List.set_cons_zero]
        refine wl (by kernel_rfl) (.bool true) _ (run_eqZ (.tmp 60) (.const (.int .i64 0)) rfl ey 0 rfl rfl true HP.out.2.1) ?_
        simp only [Act.put, List.setIfInBounds_toArray, List.set_cons_succ, List.set_cons_zero]
        refine wl rfl (.bool true) _ (run_pickZ (.tmp 59) (.tmp 61) (.const (.bool false)) rfl true (.bool true) rfl rfl) ?_
        simp only [Act.put, List.setIfInBounds_toArray, List.set_cons_succ, List.set_cons_zero]
        refine wl rfl (.bool true) _ (run_mvZ (.tmp 62) rfl (.bool true) rfl) ?_
        simp only [Act.put, List.setIfInBounds_toArray, List.set_cons_succ, List.set_cons_zero]
        refine wl (by kernel_rfl) (.bool false) _ (run_mvZ (.tmp 10) rfl (.bool false) rfl) ?_
        simp only [Act.put, List.setIfInBounds_toArray, List.set_cons_succ, List.set_cons_zero]
        refine wl rfl (.bool false) _ (run_pickZ (.tmp 63) (.tmp 64) (.const (.bool false)) rfl true (.bool false) rfl rfl) ?_
        simp only [Act.put, List.setIfInBounds_toArray, List.set_cons_succ, List.set_cons_zero]
        refine wl rfl (.bool true) _ (run_not (.tmp 65) 4 rfl false rfl) ?_
        simp only [Act.put, List.setIfInBounds_toArray, List.set_cons_succ, List.set_cons_zero]
        refine wl rfl (.bool true) _ (run_mvZ (.tmp 66) rfl (.bool true) rfl) ?_
        simp only [Act.put, List.setIfInBounds_toArray, List.set_cons_succ, List.set_cons_zero]
        refine wl (by kernel_rfl) (.int .i64 ga) _ (run_mvZ (.tmp 14) rfl (.int .i64 ga) rfl) ?_
        simp only [Act.put, List.setIfInBounds_toArray, List.set_cons_succ, List.set_cons_zero]
        refine wl (by kernel_rfl) (.bool true) _ (run_eqZ (.tmp 68) (.const (.int .i64 0)) rfl ga 0 rfl rfl true HP.out.2.2.1) ?_
        simp only [Act.put, List.setIfInBounds_toArray, List.set_cons_succ, List.set_cons_zero]
        refine wl (by kernel_rfl) (.bool true) _ (run_mvZ (.tmp 69) rfl (.bool true) rfl) ?_
        simp only [Act.put, List.setIfInBounds_toArray, List.set_cons_succ, List.set_cons_zero]
        refine wl (by kernel_rfl) (.int .i64 gb) _ (run_mvZ (.tmp 18) rfl (.int .i64 gb) rfl) ?_
        simp only [Act.put, List.setIfInBounds_toArray, List.set_cons_succ, List.set_cons_zero]
        refine wl (by kernel_rfl) (.bool true) _ (run_eqZ (.tmp 71) (.const (.int .i64 0)) rfl gb 0 rfl rfl true HP.out.2.2.2.1) ?_
        simp only [Act.put, List.setIfInBounds_toArray, List.set_cons_succ, List.set_cons_zero]
        refine wl (by kernel_rfl) (.bool true) _ (run_pickZ (.tmp 70) (.tmp 72) (.const (.bool false)) rfl true (.bool true) rfl rfl) ?_
        simp only [Act.put, List.setIfInBounds_toArray, List.set_cons_succ, List.set_cons_zero]
        refine wl (by kernel_rfl) (.bool true) _ (run_mvZ (.tmp 73) rfl (.bool true) rfl) ?_
        simp only [Act.put, List.setIfInBounds_toArray, List.set_cons_succ, List.set_cons_zero]
        refine wl (by kernel_rfl) (str ia) _ (run_mvZ (.tmp 11) rfl (str ia) rfl) ?_
        simp only [Act.put, List.setIfInBounds_toArray, List.set_cons_succ, List.set_cons_zero]
        refine wl (by kernel_rfl) (str ib) _ (run_mvZ (.tmp 15) rfl (str ib) rfl) ?_
        simp only [Act.put, List.setIfInBounds_toArray, List.set_cons_succ, List.set_cons_zero]
        refine wl (by kernel_rfl) (.bool true) _ (rx_seq (.tmp 75) (.tmp 76) rfl ia ib rfl rfl N3.out.1 N4.out.1 true HP.out.2.2.2.2.1) ?_
        simp only [Act.put, List.setIfInBounds_toArray, List.set_cons_succ, List.set_cons_zero]
        refine wl (by kernel_rfl) (.bool true) _ (run_pickZ (.tmp 74) (.tmp 77) (.const (.bool false)) rfl true (.bool true) rfl rfl) ?_
        simp only [Act.put, List.setIfInBounds_toArray, List.set_cons_succ, List.set_cons_zero]
        refine wl (by kernel_rfl) (.bool true) _ (run_mvZ (.tmp 78) rfl (.bool true) rfl) ?_
        simp only [Act.put, List.setIfInBounds_toArray, List.set_cons_succ, List.set_cons_zero]
        refine wl (by kernel_rfl) (.int .i64 (na : Nat)) _ (run_mvZ (.tmp 12) rfl (.int .i64 (na : Nat)) rfl) ?_
        simp only [Act.put, List.setIfInBounds_toArray, List.set_cons_succ, List.set_cons_zero]
        refine wl (by kernel_rfl) (.int .i64 (nb : Nat)) _ (run_mvZ (.tmp 16) rfl (.int .i64 (nb : Nat)) rfl) ?_
        simp only [Act.put, List.setIfInBounds_toArray, List.set_cons_succ, List.set_cons_zero]
        refine wl (by kernel_rfl) (.bool false) _ (run_eqZ (.tmp 80) (.tmp 81) rfl (na : Nat) (nb : Nat) rfl rfl false HP.out.2.2.2.2.2.1) ?_
        simp only [Act.put, List.setIfInBounds_toArray, List.set_cons_succ, List.set_cons_zero]
        refine wl (by kernel_rfl) (.bool false) _ (run_pickZ (.tmp 79) (.tmp 82) (.const (.bool false)) rfl true (.bool false) rfl rfl) ?_
        simp only [Act.put, List.setIfInBounds_toArray, List.set_cons_succ, List.set_cons_zero]
        refine wl (by kernel_rfl) (.bool false) _ (run_mvZ (.tmp 83) rfl (.bool false) rfl) ?_
        simp only [Act.put, List.setIfInBounds_toArray, List.set_cons_succ, List.set_cons_zero]
        refine wpList_skip (by kernel_rfl) ?_
        simp only [Act.put, List.setIfInBounds_toArray, List.set_cons_succ, List.set_cons_zero]
        refine wpList_skip (by kernel_rfl) ?_
        simp only [Act.put, List.setIfInBounds_toArray, List.set_cons_succ, List.set_cons_zero]
        refine wpList_skip (by kernel_rfl) ?_
        simp only [Act.put, List.setIfInBounds_toArray, List.set_cons_succ, List.set_cons_zero]
        refine wl (by kernel_rfl) (.bool false) _ (run_pickZ (.tmp 84) (.tmp 87) (.const (.bool false)) rfl false (.bool false) rfl rfl) ?_
        simp only [Act.put, List.setIfInBounds_toArray, List.set_cons_succ, List.set_cons_zero]
        refine wl (by kernel_rfl) (.bool true) _ (run_not (.tmp 88) 4 rfl false rfl) ?_
        simp only [Act.put, List.setIfInBounds_toArray, List.set_cons_succ, List.set_cons_zero]
        refine wl rfl (.bool true) _ (run_pickZ (.tmp 67) (.tmp 89) (.const (.bool false)) rfl true (.bool true) rfl rfl) ?_
        simp only [Act.put, List.setIfInBounds_toArray, List.set_cons_succ, List.set_cons_zero]
        refine wl rfl (.bool true) _ (run_asZ (.tmp 90) rfl (.bool true) rfl) ?_
        simp only [Act.put, List.setIfInBounds_toArray, List.set_cons_succ, List.set_cons_zero]
        refine wpList_nil ?_
        go_wp2_with fail
        rw [HPQ.out]
        exact ⟨rfl, Rw14.out.below⟩
      | true =>
      cases g5 with
      | false =>
        go_upto_region 9 with fail
        refine wp_region_lit ?_
        refine wl rfl (.int .i64 ex) _ (run_mvZ (.tmp 7) rfl (.int .i64 ex) rfl) ?_
        simp only [Act.put, List.setIfInBounds_toArray, List.set_cons_succ, List.set_cons_zero]
        refine wl rfl (.bool true) _ (run_eqZ (.tmp 57) (.const (.int .i64 0)) rfl ex 0 rfl rfl true HP.out.1) ?_
        simp only [Act.put, List.setIfInBounds_toArray, List.set_cons_succ, List.set_cons_zero]
        refine wl rfl (.bool true) _ (run_mvZ (.tmp 58) rfl (.bool true) rfl) ?_
        simp only [Act.put, List.setIfInBounds_toArray, List.set_cons_succ, List.set_cons_zero]
        refine wl (by kernel_rfl) (.int .i64 ey) _ (run_mvZ (.tmp 9) rfl (.int .i64 ey) rfl) ?_
        simp only [Act.put, List.setIfInBounds_toArray, List.set_cons_succ, List.set_cons_zero]
        refine wl (by kernel_rfl) (.bool true) _ (run_eqZ (.tmp 60) (.const (.int .i64 0)) rfl ey 0 rfl rfl true HP.out.2.1) ?_
        simp only [Act.put, List.setIfInBounds_toArray, List.set_cons_succ, List.set_cons_zero]
        refine wl rfl (.bool true) _ (run_pickZ (.tmp 59) (.tmp 61) (.const (.bool false)) rfl true (.bool true) rfl rfl) ?_
        simp only [Act.put, List.setIfInBounds_toArray, List.set_cons_succ, List.set_cons_zero]
        refine wl rfl (.bool true) _ (run_mvZ (.tmp 62) rfl (.bool true) rfl) ?_
        simp only [Act.put, List.setIfInBounds_toArray, List.set_cons_succ, List.set_cons_zero]
        refine wl (by kernel_rfl) (.bool false) _ (run_mvZ (.tmp 10) rfl (.bool false) rfl) ?_
        simp only [Act.put, List.setIfInBounds_toArray, List.set_cons_succ, List.set_cons_zero]
        refine wl rfl (.bool false) _ (run_pickZ (.tmp 63) (.tmp 64) (.const (.bool false)) rfl true (.bool false) rfl rfl) ?_
        simp only [Act.put, List.setIfInBounds_toArray, List.set_cons_succ, List.set_cons_zero]
        refine wl rfl (.bool true) _ (run_not (.tmp 65) 4 rfl false rfl) ?_
        simp only [Act.put, List.setIfInBounds_toArray, List.set_cons_succ, List.set_cons_zero]
        refine wl rfl (.bool true) _ (run_mvZ (.tmp 66) rfl (.bool true) rfl) ?_
        simp only [Act.put, List.setIfInBounds_toArray, List.set_cons_succ, List.set_cons_zero]
        refine wl (by kernel_rfl) (.int .i64 ga) _ (run_mvZ (.tmp 14) rfl (.int .i64 ga) rfl) ?_
        simp only [Act.put, List.setIfInBounds_toArray, List.set_cons_succ, List.set_cons_zero]
        refine wl (by kernel_rfl) (.bool true) _ (run_eqZ (.tmp 68) (.const (.int .i64 0)) rfl ga 0 rfl rfl true HP.out.2.2.1) ?_
        simp only [Act.put, List.setIfInBounds_toArray, List.set_cons_succ, List.set_cons_zero]
        refine wl (by kernel_rfl) (.bool true) _ (run_mvZ (.tmp 69) rfl (.bool true) rfl) ?_
        simp only [Act.put, List.setIfInBounds_toArray, List.set_cons_succ, List.set_cons_zero]
        refine wl (by kernel_rfl) (.int .i64 gb) _ (run_mvZ (.tmp 18) rfl (.int .i64 gb) rfl) ?_
        simp only [Act.put, List.setIfInBounds_toArray, List.set_cons_succ, List.set_cons_zero]
        refine wl (by kernel_rfl) (.bool true) _ (run_eqZ (.tmp 71) (.const (.int .i64 0)) rfl gb 0 rfl rfl true HP.out.2.2.2.1) ?_
        simp only [Act.put, List.setIfInBounds_toArray, List.set_cons_succ, List.set_cons_zero]
        refine wl (by kernel_rfl) (.bool true) _ (run_pickZ (.tmp 70) (.tmp 72) (.const (.bool false)) rfl true (.bool true) rfl rfl) ?_
        simp only [Act.put, List.setIfInBounds_toArray, List.set_cons_succ, List.set_cons_zero]
        refine wl (by kernel_rfl) (.bool true) _ (run_mvZ (.tmp 73) rfl (.bool true) rfl) ?_
        simp only [Act.put, List.setIfInBounds_toArray, List.set_cons_succ, List.set_cons_zero]
        refine wl (by kernel_rfl) (str ia) _ (run_mvZ (.tmp 11) rfl (str ia) rfl) ?_
        simp only [Act.put, List.setIfInBounds_toArray, List.set_cons_succ, List.set_cons_zero]
        refine wl (by kernel_rfl) (str ib) _ (run_mvZ (.tmp 15) rfl (str ib) rfl) ?_
        simp only [Act.put, List.setIfInBounds_toArray, List.set_cons_succ, List.set_cons_zero]
        refine wl (by kernel_rfl) (.bool true) _ (rx_seq (.tmp 75) (.tmp 76) rfl ia ib rfl rfl N3.out.1 N4.out.1 true HP.out.2.2.2.2.1) ?_
        simp only [Act.put, List.setIfInBounds_toArray, List.set_cons_succ, List.set_cons_zero]
        refine wl (by kernel_rfl) (.bool true) _ (run_pickZ (.tmp 74) (.tmp 77) (.const (.bool false)) rfl true (.bool true) rfl rfl) ?_
        simp only [Act.put, List.setIfInBounds_toArray, List.set_cons_succ, List.set_cons_zero]
        refine wl (by kernel_rfl) (.bool true) _ (run_mvZ (.tmp 78) rfl (.bool true) rfl) ?_
        simp only [Act.put, List.setIfInBounds_toArray, List.set_cons_succ, List.set_cons_zero]
        refine wl (by kernel_rfl) (.int .i64 (na : Nat)) _ (run_mvZ (.tmp 12) rfl (.int .i64 (na : Nat)) rfl) ?_
        simp only [Act.put, List.setIfInBounds_toArray, List.set_cons_succ, List.set_cons_zero]
        refine wl (by kernel_rfl) (.int .i64 (nb : Nat)) _ (run_mvZ (.tmp 16) rfl (.int .i64 (nb : Nat)) rfl) ?_
        simp only [Act.put, List.setIfInBounds_toArray, List.set_cons_succ, List.set_cons_zero]
        refine wl (by kernel_rfl) (.bool true) _ (run_eqZ (.tmp 80) (.tmp 81) rfl (na : Nat) (nb : Nat) rfl rfl true HP.out.2.2.2.2.2.1) ?_
        simp only [Act.put, List.setIfInBounds_toArray, List.set_cons_succ, List.set_cons_zero]
        refine wl (by kernel_rfl) (.bool true) _ (run_pickZ (.tmp 79) (.tmp 82) (.const (.bool false)) rfl true (.bool true) rfl rfl) ?_
        simp only [Act.put, List.setIfInBounds_toArray, List.set_cons_succ, List.set_cons_zero]
        refine wl (by kernel_rfl) (.bool true) _ (run_mvZ (.tmp 83) rfl (.bool true) rfl) ?_
        simp only [Act.put, List.setIfInBounds_toArray, List.set_cons_succ, List.set_cons_zero]
        refine wl (by kernel_rfl) (.agg (bcells ra).toArray) _ (run_loadA ag23 (.tmp 13) rfl q13 (0) rfl (bcells ra) (bc32 N3.out.2.1) (rows_all Rw14.out 2 rfl)) ?_
        simp only [Act.put, List.setIfInBounds_toArray, List.set_cons_succ, List.set_cons_zero]
        refine wl (by kernel_rfl) (.agg (bcells rb).toArray) _ (run_loadA ag23 (.tmp 17) rfl q17 (0) rfl (bcells rb) (bc32 N4.out.2.1) (rows_all Rw14.out 3 rfl)) ?_
        simp only [Act.put, List.setIfInBounds_toArray, List.set_cons_succ, List.set_cons_zero]
        refine wl (by kernel_rfl) (.bool false) _ (rx_eqH (.tmp 85) (.tmp 86) rfl ra rb N3.out.2 N4.out.2 rfl rfl false HP.out.2.2.2.2.2.2) ?_
        simp only [Act.put, List.setIfInBounds_toArray, List.set_cons_succ, List.set_cons_zero]
        refine wl (by kernel_rfl) (.bool false) _ (run_pickZ (.tmp 84) (.tmp 87) (.const (.bool false)) rfl true (.bool false) rfl rfl) ?_
        simp only [Act.put, List.setIfInBounds_toArray, List.set_cons_succ, List.set_cons_zero]
        refine wl (by kernel_rfl) (.bool true) _ (run_not (.tmp 88) 4 rfl false rfl) ?_
        simp only [Act.put, List.setIfInBounds_toArray, List.set_cons_succ, List.set_cons_zero]
        refine wl rfl (.bool true) _ (run_pickZ (.tmp 67) (.tmp 89) (.const (.bool false)) rfl true (.bool true) rfl rfl) ?_
        simp only [Act.put, List.setIfInBounds_toArray, List.set_cons_succ, List.set_cons_zero]
        refine wl rfl (.bool true) _ (run_asZ (.tmp 90) rfl (.bool true) rfl) ?_
        simp only [Act.put, List.setIfInBounds_toArray, List.set_cons_succ, List.set_cons_zero]
        refine wpList_nil ?_
        go_wp2_with fail
        rw [HPQ.out]
        exact ⟨rfl, Rw14.out.below⟩
      | true =>
      exact absurd ⟨of_decide_eq_true HP.out.2.2.2.2.1, by have := of_decide_eq_true HP.out.2.2.2.2.2.1; omega, of_decide_eq_true HP.out.2.2.2.2.2.2⟩ (unlike_ent (SliceIn.lt256 HI.out.1) (SliceIn.lt256 HI.out.2) HNE.out (D3.out (of_decide_eq_true HP.out.2.2.1)) (D4.out (of_decide_eq_true HP.out.2.2.2.1)))
    | true =>
    exact absurd (HAL.out rfl) (unlike_rec (SliceIn.lt256 HI.out.1) (SliceIn.lt256 HI.out.2) HNE.out (D1.out (of_decide_eq_true HP.out.1)) (D2.out (of_decide_eq_true HP.out.2.1)))

end Go.Proofs.Ytncjmolhofnpbaa

/- The law RecordEntries. -/
import Derived.Test.YtncjmolhofnpbaaR22
namespace Go.Proofs.Ytncjmolhofnpbaa
open Go.RowKit

def rdO (b : List Nat) : List Nat × Nat × List Nat × Int := match decE b with
  | some x => (x.1, x.2.1, x.2.2, 0)
  | none => ([], 0, List.replicate 32 0, 110)
theorem readS_o {w w' : World} {b id root : List Nat} {n : Nat} {er : Int} (h : ReadS w w' b id root n er) : (id, n, root, er) = rdO b := by
  unfold rdO
  rcases h.2.2.2.2 with ⟨h1, rfl, rfl, rfl, rfl⟩ | ⟨h1, rfl⟩
  · rw [h1]
  · rw [h1]
theorem read_o (f : Nat) (v : Value) (b : List Nat) (w : World) (h : Calls Try.prog f #[v] w fun e w' => ∃ id n root er, e = .returned (.tuple #[str id, .int .i64 (n : Nat), .agg (bcells root).toArray, .int .i64 er]) ∧ ReadS w w' b id root n er) (ID RT : List Nat) (N : Nat) (ER : Int) (ho : (ID, N, RT, ER) = rdO b) : Calls Try.prog f #[v] w fun e w' => e = .returned (.tuple #[str ID, .int .i64 (N : Nat), .agg (bcells RT).toArray, .int .i64 ER]) ∧ Below w.heap.size w w' ∧ (∀ c ∈ ID, c < 256) ∧ IsH RT :=
  h.mono fun e w' ⟨id, n, root, er, h1, h2⟩ => by
    have e1 := readS_o h2
    rw [← ho] at e1
    injection e1 with e1 e2
    injection e2 with e2 e3
    injection e3 with e3 e4
    subst e1 e2 e3 e4
    exact ⟨h1, h2.2.2.2.1, h2.1, h2.2.2.1, h2.2.1⟩
set_option maxHeartbeats 4000000 in
theorem entries_any (v : Value) (b : List Nat) (w : World) (hin : SliceIn w v b) : Calls Try.prog 5 #[v] w fun e w' => e = .returned (.bool true) ∧ Below w.heap.size w w' := by
  have HI : Hid (SliceIn w v b) := hin
  clear hin
  obtain ⟨PQ, HPQ⟩ : ∃ PQ : Ending → World → Prop, Hid (PQ = fun e w' => e = .returned (.bool true) ∧ Below w.heap.size w w') := ⟨_, rfl⟩
  rw [← HPQ.out]
  obtain ⟨ID, N, RT, ER, hO⟩ : ∃ (ID : List Nat) (N : Nat) (RT : List Nat) (ER : Int), (ID, N, RT, ER) = rdO b := ⟨_, _, _, _, rfl⟩
  have HO : Hid ((ID, N, RT, ER) = rdO b) := hO
  have HE : Hid ((decE b = none ∧ ER = 110) ∨ (decE b = some (ID, N, RT) ∧ ER = 0)) := (by
    unfold rdO at hO
    cases hd : decE b with
    | none => rw [hd] at hO; injection hO with _ h; injection h with _ h; injection h with _ h; exact Or.inl ⟨rfl, h⟩
    | some x =>
      rw [hd] at hO
      injection hO with h1 h
      injection h with h2 h
      injection h with h3 h
      exact Or.inr ⟨by rw [h1, h2, h3], h⟩)
  clear hO
  go_enter Try.func5, Try.ntmps5
  go_upto_region 1 with fail
  refine wp_region_lit ?_
  refine wpList_callW eN8 [] _ rfl rfl [] rfl ?_
  refine (shown_any w).mono ?_
  rintro e w1 ⟨rfl, b_⟩
  refine ⟨_, rfl, ?_⟩
  have R1 : Hid (Loc w w1 []) := Loc.nil b_
  clear b_
  simp only [Act.put, List.setIfInBounds_toArray, List.set_cons_succ, List.set_cons_zero]
  refine wl rfl (.bool true) _ (run_asZ (.tmp 14) rfl (.bool true) rfl) ?_
  simp only [Act.put, List.setIfInBounds_toArray, List.set_cons_succ, List.set_cons_zero]
  refine wpList_nil ?_
  go_upto_region 2 with fail
  refine wp_region_lit ?_
  refine wl rfl v _ (run_mvZ (.tmp 0) rfl v rfl) ?_
  simp only [Act.put, List.setIfInBounds_toArray, List.set_cons_succ, List.set_cons_zero]
  refine wpList_callW eN18 [.tmp 16] _ rfl rfl [v] rfl ?_
  refine (read_o 18 v b w1 (read_any v b w1 (HI.out.later R1.out.below)) ID RT N ER HO.out).mono ?_
  rintro e w2 ⟨rfl, b_, i_, h_⟩
  refine ⟨_, rfl, ?_⟩
  have HN : Hid ((∀ c ∈ ID, c < 256) ∧ IsH RT) := ⟨i_, h_⟩
  have Rw2 : Hid (Loc w w2 []) := R1.out.later b_
  clear R1 
  clear b_ i_ h_
  simp only [Act.put, List.setIfInBounds_toArray, List.set_cons_succ, List.set_cons_zero]
  refine wl rfl (.tuple #[(str ID), (.int .i64 (N : Nat)), (.agg (bcells RT).toArray), (.int .i64 ER)]) _ (run_mvZ (.tmp 17) rfl (.tuple #[(str ID), (.int .i64 (N : Nat)), (.agg (bcells RT).toArray), (.int .i64 ER)]) rfl) ?_
  simp only [Act.put, List.setIfInBounds_toArray, List.set_cons_succ, List.set_cons_zero]
  refine wl rfl (str ID) _ (run_extZ (.tmp 15) 0 rfl #[(str ID), (.int .i64 (N : Nat)), (.agg (bcells RT).toArray), (.int .i64 ER)] rfl (str ID) rfl) ?_
  simp only [Act.put, List.setIfInBounds_toArray, List.set_cons_succ, List.set_cons_zero]
  refine wl rfl (.int .i64 (N : Nat)) _ (run_extZ (.tmp 15) 1 rfl #[(str ID), (.int .i64 (N : Nat)), (.agg (bcells RT).toArray), (.int .i64 ER)] rfl (.int .i64 (N : Nat)) rfl) ?_
  simp only [Act.put, List.setIfInBounds_toArray, List.set_cons_succ, List.set_cons_zero]
  refine wl rfl (.agg (bcells RT).toArray) _ (run_extZ (.tmp 15) 2 rfl #[(str ID), (.int .i64 (N : Nat)), (.agg (bcells RT).toArray), (.int .i64 ER)] rfl (.agg (bcells RT).toArray) rfl) ?_
  simp only [Act.put, List.setIfInBounds_toArray, List.set_cons_succ, List.set_cons_zero]
  refine wl rfl (.int .i64 ER) _ (run_extZ (.tmp 15) 3 rfl #[(str ID), (.int .i64 (N : Nat)), (.agg (bcells RT).toArray), (.int .i64 ER)] rfl (.int .i64 ER) rfl) ?_
  simp only [Act.put, List.setIfInBounds_toArray, List.set_cons_succ, List.set_cons_zero]
  refine wl rfl (ptr w2.heap.size) _ (run_allocA (bcells (List.replicate 32 0)) zero23b rfl) ?_
  have k_ := Rw2.out.box 23 (bcells (List.replicate 32 0))
  obtain ⟨w3, hW_⟩ : ∃ W, W = w2.alloc (.cells (bcells (List.replicate 32 0)).toArray 23) := ⟨_, rfl⟩
  have hB_ : Below w2.heap.size w2 w3 := hW_ ▸ below_alloc w2 _
  obtain ⟨q6, hq_⟩ : ∃ q, q = w2.heap.size := ⟨_, rfl⟩
  rw [← hW_, ← hq_] at k_
  rw [← hW_, ← hq_]
  clear hq_
  have Rw3 : Hid (Loc w w3 [(q6, 23, bcells (List.replicate 32 0))]) := k_
  clear k_ hW_ Rw2
  clear hB_
  simp only [Act.put, List.setIfInBounds_toArray, List.set_cons_succ, List.set_cons_zero]
  refine wl rfl (str ID) _ (run_asZ (.tmp 18) rfl (str ID) rfl) ?_
  simp only [Act.put, List.setIfInBounds_toArray, List.set_cons_succ, List.set_cons_zero]
  refine wl rfl (.int .i64 (N : Nat)) _ (run_asZ (.tmp 19) rfl (.int .i64 (N : Nat)) rfl) ?_
  simp only [Act.put, List.setIfInBounds_toArray, List.set_cons_succ, List.set_cons_zero]
  have hst := run_storeVar ag23 w3 q6 0 23 (bcells (List.replicate 32 0)) (bcells RT) (bc32 HN.out.2.1) (Rw3.out.at 0 rfl) (by rw [bc32 HN.out.2.1]; simp [bcells_length]) (bcells_one _)
  rw [splice32 _ RT (by simp [bcells_length]) HN.out.2.1] at hst
  refine wlS rfl rfl _ (run_stV (.tmp 6) (.tmp 20) rfl q6 0 rfl _ rfl hst) ?_
  have k_ := Rw3.out.set 0 rfl ((Rw3.out.at 0 rfl).setRow (bcells RT)) ((Ch.refl (· = q6) w3).setRow (g := q6) (Or.inl rfl) _)
  obtain ⟨w4, hW_⟩ : ∃ W, W = w3.setRow q6 (bcells RT).toArray := ⟨_, rfl⟩
  have hC_ : Ch (· = q6) w3 w4 := hW_ ▸ (Ch.refl (· = q6) w3).setRow (g := q6) (Or.inl rfl) _
  have hRow_ := Rw3.out.at 0 rfl
  rw [← hW_] at k_ ⊢
  have Rw4 : Hid (Loc w w4 [(q6, 23, bcells RT)]) := k_
  clear k_ hW_ Rw3
  clear hst hC_ hRow_
  refine wl rfl (.int .i64 ER) _ (run_asZ (.tmp 21) rfl (.int .i64 ER) rfl) ?_
  simp only [Act.put, List.setIfInBounds_toArray, List.set_cons_succ, List.set_cons_zero]
  refine wpList_nil ?_
  go_upto_region 3 with fail
  refine wp_region_lit ?_
  refine wl rfl v _ (run_mvZ (.tmp 0) rfl v rfl) ?_
  simp only [Act.put, List.setIfInBounds_toArray, List.set_cons_succ, List.set_cons_zero]
  refine wpList_callW eN19 [.tmp 23] _ rfl rfl [v] rfl ?_
  refine (read_o 19 v b w4 (refRead_any v b w4 (HI.out.later Rw4.out.below)) ID RT N ER HO.out).mono ?_
  rintro e w5 ⟨rfl, b_, i_, h_⟩
  refine ⟨_, rfl, ?_⟩
  have Rw5 : Hid (Loc w w5 [(q6, 23, bcells RT)]) := Rw4.out.later b_
  clear Rw4 
  clear b_ i_ h_
  simp only [Act.put, List.setIfInBounds_toArray, List.set_cons_succ, List.set_cons_zero]
  refine wl rfl (.tuple #[(str ID), (.int .i64 (N : Nat)), (.agg (bcells RT).toArray), (.int .i64 ER)]) _ (run_mvZ (.tmp 24) rfl (.tuple #[(str ID), (.int .i64 (N : Nat)), (.agg (bcells RT).toArray), (.int .i64 ER)]) rfl) ?_
  simp only [Act.put, List.setIfInBounds_toArray, List.set_cons_succ, List.set_cons_zero]
  refine wl rfl (str ID) _ (run_extZ (.tmp 22) 0 rfl #[(str ID), (.int .i64 (N : Nat)), (.agg (bcells RT).toArray), (.int .i64 ER)] rfl (str ID) rfl) ?_
  simp only [Act.put, List.setIfInBounds_toArray, List.set_cons_succ, List.set_cons_zero]
  refine wl rfl (.int .i64 (N : Nat)) _ (run_extZ (.tmp 22) 1 rfl #[(str ID), (.int .i64 (N : Nat)), (.agg (bcells RT).toArray), (.int .i64 ER)] rfl (.int .i64 (N : Nat)) rfl) ?_
  simp only [Act.put, List.setIfInBounds_toArray, List.set_cons_succ, List.set_cons_zero]
  refine wl rfl (.agg (bcells RT).toArray) _ (run_extZ (.tmp 22) 2 rfl #[(str ID), (.int .i64 (N : Nat)), (.agg (bcells RT).toArray), (.int .i64 ER)] rfl (.agg (bcells RT).toArray) rfl) ?_
  simp only [Act.put, List.setIfInBounds_toArray, List.set_cons_succ, List.set_cons_zero]
  refine wl rfl (.int .i64 ER) _ (run_extZ (.tmp 22) 3 rfl #[(str ID), (.int .i64 (N : Nat)), (.agg (bcells RT).toArray), (.int .i64 ER)] rfl (.int .i64 ER) rfl) ?_
  simp only [Act.put, List.setIfInBounds_toArray, List.set_cons_succ, List.set_cons_zero]
  refine wl rfl (ptr w5.heap.size) _ (run_allocA (bcells (List.replicate 32 0)) zero23b rfl) ?_
  have k_ := Rw5.out.box 23 (bcells (List.replicate 32 0))
  obtain ⟨w6, hW_⟩ : ∃ W, W = w5.alloc (.cells (bcells (List.replicate 32 0)).toArray 23) := ⟨_, rfl⟩
  have hB_ : Below w5.heap.size w5 w6 := hW_ ▸ below_alloc w5 _
  obtain ⟨q10, hq_⟩ : ∃ q, q = w5.heap.size := ⟨_, rfl⟩
  rw [← hW_, ← hq_] at k_
  rw [← hW_, ← hq_]
  clear hq_
  have Rw6 : Hid (Loc w w6 [(q6, 23, bcells RT), (q10, 23, bcells (List.replicate 32 0))]) := k_
  clear k_ hW_ Rw5
  clear hB_
  simp only [Act.put, List.setIfInBounds_toArray, List.set_cons_succ, List.set_cons_zero]
  refine wl rfl (str ID) _ (run_asZ (.tmp 25) rfl (str ID) rfl) ?_
  simp only [Act.put, List.setIfInBounds_toArray, List.set_cons_succ, List.set_cons_zero]
  refine wl rfl (.int .i64 (N : Nat)) _ (run_asZ (.tmp 26) rfl (.int .i64 (N : Nat)) rfl) ?_
  simp only [Act.put, List.setIfInBounds_toArray, List.set_cons_succ, List.set_cons_zero]
  have hst := run_storeVar ag23 w6 q10 0 23 (bcells (List.replicate 32 0)) (bcells RT) (bc32 HN.out.2.1) (Rw6.out.at 1 rfl) (by rw [bc32 HN.out.2.1]; simp [bcells_length]) (bcells_one _)
  rw [splice32 _ RT (by simp [bcells_length]) HN.out.2.1] at hst
  refine wlS rfl rfl _ (run_stV (.tmp 10) (.tmp 27) rfl q10 0 rfl _ rfl hst) ?_
  have k_ := Rw6.out.set 1 rfl ((Rw6.out.at 1 rfl).setRow (bcells RT)) ((Ch.refl (· = q10) w6).setRow (g := q10) (Or.inl rfl) _)
  obtain ⟨w7, hW_⟩ : ∃ W, W = w6.setRow q10 (bcells RT).toArray := ⟨_, rfl⟩
  have hC_ : Ch (· = q10) w6 w7 := hW_ ▸ (Ch.refl (· = q10) w6).setRow (g := q10) (Or.inl rfl) _
  have hRow_ := Rw6.out.at 1 rfl
  rw [← hW_] at k_ ⊢
  have Rw7 : Hid (Loc w w7 [(q6, 23, bcells RT), (q10, 23, bcells RT)]) := k_
  clear k_ hW_ Rw6
  clear hst hC_ hRow_
  refine wl rfl (.int .i64 ER) _ (run_asZ (.tmp 28) rfl (.int .i64 ER) rfl) ?_
  simp only [Act.put, List.setIfInBounds_toArray, List.set_cons_succ, List.set_cons_zero]
  refine wpList_nil ?_
  go_upto_region 4 with fail
  refine wp_region_lit ?_
  refine wl rfl (.bool true) _ (run_mvZ (.tmp 3) rfl (.bool true) rfl) ?_
  simp only [Act.put, List.setIfInBounds_toArray, List.set_cons_succ, List.set_cons_zero]
  refine wl rfl (.bool false) _ (run_not (.tmp 29) 4 rfl true rfl) ?_
  simp only [Act.put, List.setIfInBounds_toArray, List.set_cons_succ, List.set_cons_zero]
  refine wl rfl (.bool false) _ (run_mvZ (.tmp 30) rfl (.bool false) rfl) ?_
  simp only [Act.put, List.setIfInBounds_toArray, List.set_cons_succ, List.set_cons_zero]
  refine wl (by kernel_rfl) (str ID) _ (run_mvZ (.tmp 4) rfl (str ID) rfl) ?_
  simp only [Act.put, List.setIfInBounds_toArray, List.set_cons_succ, List.set_cons_zero]
  refine wl (by kernel_rfl) (str ID) _ (run_mvZ (.tmp 8) rfl (str ID) rfl) ?_
  simp only [Act.put, List.setIfInBounds_toArray, List.set_cons_succ, List.set_cons_zero]
  refine wl (by kernel_rfl) (.bool false) _ (rx_sne (.tmp 32) (.tmp 33) rfl ID ID rfl rfl HN.out.1 HN.out.1 true (by simp)) ?_
  simp only [Act.put, List.setIfInBounds_toArray, List.set_cons_succ, List.set_cons_zero]
  refine wl rfl (.bool false) _ (run_pickZ (.tmp 31) (.const (.bool true)) (.tmp 34) rfl false (.bool false) rfl rfl) ?_
  simp only [Act.put, List.setIfInBounds_toArray, List.set_cons_succ, List.set_cons_zero]
  refine wl rfl (.bool false) _ (run_mvZ (.tmp 35) rfl (.bool false) rfl) ?_
  simp only [Act.put, List.setIfInBounds_toArray, List.set_cons_succ, List.set_cons_zero]
  refine wl (by kernel_rfl) (.int .i64 (N : Nat)) _ (run_mvZ (.tmp 5) rfl (.int .i64 (N : Nat)) rfl) ?_
  simp only [Act.put, List.setIfInBounds_toArray, List.set_cons_succ, List.set_cons_zero]
  refine wl (by kernel_rfl) (.int .i64 (N : Nat)) _ (run_mvZ (.tmp 9) rfl (.int .i64 (N : Nat)) rfl) ?_
  simp only [Act.put, List.setIfInBounds_toArray, List.set_cons_succ, List.set_cons_zero]
  refine wl (by kernel_rfl) (.bool false) _ (run_neZ (.tmp 37) (.tmp 38) rfl (N : Nat) (N : Nat) rfl rfl false (by simp)) ?_
  simp only [Act.put, List.setIfInBounds_toArray, List.set_cons_succ, List.set_cons_zero]
  refine wl rfl (.bool false) _ (run_pickZ (.tmp 36) (.const (.bool true)) (.tmp 39) rfl false (.bool false) rfl rfl) ?_
  simp only [Act.put, List.setIfInBounds_toArray, List.set_cons_succ, List.set_cons_zero]
  refine wl rfl (.bool false) _ (run_mvZ (.tmp 40) rfl (.bool false) rfl) ?_
  simp only [Act.put, List.setIfInBounds_toArray, List.set_cons_succ, List.set_cons_zero]
  refine wl (by kernel_rfl) (.agg (bcells RT).toArray) _ (run_loadA ag23 (.tmp 6) rfl q6 (0) rfl (bcells RT) (bc32 HN.out.2.1) (rows_all Rw7.out 0 rfl)) ?_
  simp only [Act.put, List.setIfInBounds_toArray, List.set_cons_succ, List.set_cons_zero]
  refine wl (by kernel_rfl) (.agg (bcells RT).toArray) _ (run_loadA ag23 (.tmp 10) rfl q10 (0) rfl (bcells RT) (bc32 HN.out.2.1) (rows_all Rw7.out 1 rfl)) ?_
  simp only [Act.put, List.setIfInBounds_toArray, List.set_cons_succ, List.set_cons_zero]
  refine wl (by kernel_rfl) (.bool false) _ (rx_neH (.tmp 42) (.tmp 43) rfl RT RT HN.out.2 HN.out.2 rfl rfl false (by simp)) ?_
  simp only [Act.put, List.setIfInBounds_toArray, List.set_cons_succ, List.set_cons_zero]
  refine wl rfl (.bool false) _ (run_pickZ (.tmp 41) (.const (.bool true)) (.tmp 44) rfl false (.bool false) rfl rfl) ?_
  simp only [Act.put, List.setIfInBounds_toArray, List.set_cons_succ, List.set_cons_zero]
  refine wl rfl (.bool false) _ (run_mvZ (.tmp 45) rfl (.bool false) rfl) ?_
  simp only [Act.put, List.setIfInBounds_toArray, List.set_cons_succ, List.set_cons_zero]
  refine wl (by kernel_rfl) (.int .i64 ER) _ (run_mvZ (.tmp 7) rfl (.int .i64 ER) rfl) ?_
  simp only [Act.put, List.setIfInBounds_toArray, List.set_cons_succ, List.set_cons_zero]
  refine wl (by kernel_rfl) (.int .i64 ER) _ (run_mvZ (.tmp 11) rfl (.int .i64 ER) rfl) ?_
  simp only [Act.put, List.setIfInBounds_toArray, List.set_cons_succ, List.set_cons_zero]
  refine wl (by kernel_rfl) (.bool false) _ (run_neZ (.tmp 47) (.tmp 48) rfl ER ER rfl rfl false (by simp)) ?_
  simp only [Act.put, List.setIfInBounds_toArray, List.set_cons_succ, List.set_cons_zero]
  refine wl rfl (.bool false) _ (run_pickZ (.tmp 46) (.const (.bool true)) (.tmp 49) rfl false (.bool false) rfl rfl) ?_
  simp only [Act.put, List.setIfInBounds_toArray, List.set_cons_succ, List.set_cons_zero]
  refine wpList_nil ?_
  by_cases hE : ER = 0
  case neg =>
    have HEN : Hid (¬ ER = 0) := hE
    clear hE
    go_upto_region 6 with fail
    refine wp_region_lit ?_
    refine wl rfl (.int .i64 ER) _ (run_mvZ (.tmp 7) rfl (.int .i64 ER) rfl) ?_
    simp only [Act.put, List.setIfInBounds_toArray, List.set_cons_succ, List.set_cons_zero]
    refine wl rfl (.bool true) _ (run_neZ (.tmp 51) (.const (.int .i64 0)) rfl ER 0 rfl rfl true (by have := HEN.out; simp [this])) ?_
    simp only [Act.put, List.setIfInBounds_toArray, List.set_cons_succ, List.set_cons_zero]
    refine wpList_nil ?_
    go_wp2_with fail
    rw [HPQ.out]
    exact ⟨rfl, Rw7.out.below⟩
  have HD : Hid (decE b = some (ID, N, RT) ∧ ER = 0) := (by
    rcases HE.out with h | h
    · exact absurd h.2 (by omega)
    · exact h)
  have HF : Hid (b = encE ID N RT ∧ entB ID N = true) := (by
    have h := decE_some (SliceIn.lt256 HI.out) HD.out.1
    exact ⟨h.1, h.2.1⟩)
  clear hE HE
  go_upto_region 6 with fail
  refine wp_region_lit ?_
  refine wl rfl (.int .i64 ER) _ (run_mvZ (.tmp 7) rfl (.int .i64 ER) rfl) ?_
  simp only [Act.put, List.setIfInBounds_toArray, List.set_cons_succ, List.set_cons_zero]
  refine wl rfl (.bool false) _ (run_neZ (.tmp 51) (.const (.int .i64 0)) rfl ER 0 rfl rfl false (by rw [HD.out.2]; rfl)) ?_
  simp only [Act.put, List.setIfInBounds_toArray, List.set_cons_succ, List.set_cons_zero]
  refine wpList_nil ?_
  go_upto_region 8 with fail
  refine wp_region_lit ?_
  refine wl rfl (str ID) _ (run_mvZ (.tmp 4) rfl (str ID) rfl) ?_
  simp only [Act.put, List.setIfInBounds_toArray, List.set_cons_succ, List.set_cons_zero]
  refine wl rfl (.int .i64 (N : Nat)) _ (run_mvZ (.tmp 5) rfl (.int .i64 (N : Nat)) rfl) ?_
  simp only [Act.put, List.setIfInBounds_toArray, List.set_cons_succ, List.set_cons_zero]
  refine wl rfl (.agg (bcells RT).toArray) _ (run_loadA ag23 (.tmp 6) rfl q6 (0) rfl (bcells RT) (bc32 HN.out.2.1) (rows_all Rw7.out 0 rfl)) ?_
  simp only [Act.put, List.setIfInBounds_toArray, List.set_cons_succ, List.set_cons_zero]
  refine wpList_callW eN11 [.tmp 54, .tmp 55, .tmp 56] _ rfl rfl [str ID, .int .i64 (N : Nat), .agg (bcells RT).toArray] rfl ?_
  refine (entry11_yes ID RT (N : Nat) w7 HN.out.1 HN.out.2.1 HN.out.2.2 HF.out.2).mono ?_
  rintro e w8 ⟨v12, rfl, b_, o_⟩
  refine ⟨_, rfl, ?_⟩
  have S8 : Hid (SliceIn w8 v12 b) := (by have hb := ent_bounds HF.out.2; have h := o_.sliceB (encE_lt HN.out.1 HN.out.2.2 hb.1) (by have := HN.out.2.1; rw [encE_length]; omega); rw [← HF.out.1] at h; exact h)
  have Rw8 : Hid (Loc w w8 [(q6, 23, bcells RT), (q10, 23, bcells RT)]) := Rw7.out.later b_
  clear Rw7 
  clear b_ o_
  simp only [Act.put, List.setIfInBounds_toArray, List.set_cons_succ, List.set_cons_zero]
  refine wl rfl (.tuple #[v12, (.int .i64 0)]) _ (run_mvZ (.tmp 57) rfl (.tuple #[v12, (.int .i64 0)]) rfl) ?_
  simp only [Act.put, List.setIfInBounds_toArray, List.set_cons_succ, List.set_cons_zero]
  refine wl rfl v12 _ (run_extZ (.tmp 53) 0 rfl #[v12, (.int .i64 0)] rfl v12 rfl) ?_
  simp only [Act.put, List.setIfInBounds_toArray, List.set_cons_succ, List.set_cons_zero]
  refine wl rfl (.int .i64 0) _ (run_extZ (.tmp 53) 1 rfl #[v12, (.int .i64 0)] rfl (.int .i64 0) rfl) ?_
  simp only [Act.put, List.setIfInBounds_toArray, List.set_cons_succ, List.set_cons_zero]
  refine wl rfl v12 _ (run_asZ (.tmp 58) rfl v12 rfl) ?_
  simp only [Act.put, List.setIfInBounds_toArray, List.set_cons_succ, List.set_cons_zero]
  refine wl rfl (.int .i64 0) _ (run_asZ (.tmp 59) rfl (.int .i64 0) rfl) ?_
  simp only [Act.put, List.setIfInBounds_toArray, List.set_cons_succ, List.set_cons_zero]
  refine wpList_nil ?_
  go_upto_region 9 with fail
  refine wp_region_lit ?_
  refine wl rfl (.int .i64 0) _ (run_mvZ (.tmp 13) rfl (.int .i64 0) rfl) ?_
  simp only [Act.put, List.setIfInBounds_toArray, List.set_cons_succ, List.set_cons_zero]
  refine wl rfl (.bool true) _ (run_eqZ (.tmp 60) (.const (.int .i64 0)) rfl (0) (0) rfl rfl true rfl) ?_
  simp only [Act.put, List.setIfInBounds_toArray, List.set_cons_succ, List.set_cons_zero]
  refine wl rfl (.bool true) _ (run_mvZ (.tmp 61) rfl (.bool true) rfl) ?_
  simp only [Act.put, List.setIfInBounds_toArray, List.set_cons_succ, List.set_cons_zero]
  refine wl (by kernel_rfl) v12 _ (run_mvZ (.tmp 12) rfl v12 rfl) ?_
  simp only [Act.put, List.setIfInBounds_toArray, List.set_cons_succ, List.set_cons_zero]
  refine wl (by kernel_rfl) (str b) _ (run_strB (.tmp 63) rfl v12 b rfl S8.out) ?_
  simp only [Act.put, List.setIfInBounds_toArray, List.set_cons_succ, List.set_cons_zero]
  refine wl (by kernel_rfl) v _ (run_mvZ (.tmp 0) rfl v rfl) ?_
  simp only [Act.put, List.setIfInBounds_toArray, List.set_cons_succ, List.set_cons_zero]
  refine wl (by kernel_rfl) (str b) _ (run_strB (.tmp 65) rfl v b rfl (HI.out.later Rw8.out.below)) ?_
  simp only [Act.put, List.setIfInBounds_toArray, List.set_cons_succ, List.set_cons_zero]
  refine wl (by kernel_rfl) (.bool true) _ (rx_seq (.tmp 64) (.tmp 66) rfl b b rfl rfl (SliceIn.lt256 HI.out) (SliceIn.lt256 HI.out) true (by simp)) ?_
  simp only [Act.put, List.setIfInBounds_toArray, List.set_cons_succ, List.set_cons_zero]
  refine wl rfl (.bool true) _ (run_pickZ (.tmp 62) (.tmp 67) (.const (.bool false)) rfl true (.bool true) rfl rfl) ?_
  simp only [Act.put, List.setIfInBounds_toArray, List.set_cons_succ, List.set_cons_zero]
  refine wl rfl (.bool true) _ (run_asZ (.tmp 68) rfl (.bool true) rfl) ?_
  simp only [Act.put, List.setIfInBounds_toArray, List.set_cons_succ, List.set_cons_zero]
  refine wpList_nil ?_
  go_wp2_with fail
  rw [HPQ.out]
  exact ⟨rfl, Rw8.out.below⟩

end Go.Proofs.Ytncjmolhofnpbaa

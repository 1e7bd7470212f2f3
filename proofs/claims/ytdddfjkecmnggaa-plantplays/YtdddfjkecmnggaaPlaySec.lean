/- The law's own function sector. -/
import Derived.Test.YtdddfjkecmnggaaPlayFns
namespace Go.Proofs.Ytdddfjkecmnggaa
open Go.RowKit Go.Maps

set_option maxHeartbeats 1000000 in
set_option maxRecDepth 100000 in
theorem sector_any (w : World) (k d p a n : Int) (x : Nat) (kv : Value) : Calls Try.prog 14 #[.agg (opCells k d p a n x kv).toArray] w fun e w' => ∃ b, e = .returned (.slice (some ⟨b, 0, none⟩) 64 64) ∧ w.heap.size ≤ b ∧ Row w' b 5 (bcells (secOf x p n)) ∧ Below w.heap.size w w' := by
  obtain ⟨q, hq⟩ : ∃ q, q = w.heap.size := ⟨_, rfl⟩
  have HQ : Hid (q = w.heap.size) := hq
  clear hq
  go_enter Try.func14, Try.ntmps14
  go_upto_region 0 with fail
  refine wp_region_lit ?_
  refine wpList_box (.tmp 0) rfl rfl (opCells k d p a n x kv) rfl ?_
  rw [← HQ.out]
  intro w1 r1 s1 b1
  simp only [Act.put, List.setIfInBounds_toArray, List.set_cons_succ, List.set_cons_zero]
  refine wl_as (.const (.slice none 0 0)) rfl rfl (.slice none 0 0) rfl ?_
  simp only [Act.put, List.setIfInBounds_toArray, List.set_cons_succ, List.set_cons_zero]
  refine wpList_nil ?_
  have R1 : Hid (Row w1 q 39 (opCells k d p a n x kv) ∧ w1.heap.size = q + 1 ∧ Below q w w1) := ⟨r1, s1, b1⟩
  clear r1 s1 b1
  go_upto_region 1 with fail
  refine wp_region_lit ?_
  refine wl_fld f39_5 (.tmp 1) rfl rfl q 0 rfl ?_
  simp only [Act.put, List.setIfInBounds_toArray, List.set_cons_succ, List.set_cons_zero]
  refine wl_ld one5' (.tmp 4) rfl rfl q (0 + 5) rfl (.int .u8 (x : Nat)) (R1.out.1.at 5 _ rfl) ?_
  simp only [Act.put, List.setIfInBounds_toArray, List.set_cons_succ, List.set_cons_zero]
  refine wpList_callF en32' [.tmp 5] _ rfl rfl [.int .u8 (x : Nat)] rfl ?_
  refine (full_any w1 x).mono ?_
  rintro e w2 ⟨rfl, r2, b2⟩
  refine ⟨_, rfl, ?_⟩
  simp only [Act.put, List.setIfInBounds_toArray, List.set_cons_succ, List.set_cons_zero]
  rw [R1.out.2.1] at r2 b2 ⊢
  refine wl_as (.tmp 6) rfl rfl (.slice (some ⟨q + 1, 0, none⟩) 64 64) rfl ?_
  simp only [Act.put, List.setIfInBounds_toArray, List.set_cons_succ, List.set_cons_zero]
  refine wpList_nil ?_
  have R2 : Hid (Row w2 (q + 1) 5 (bcells (ones x)) ∧ Row w2 q 39 (opCells k d p a n x kv) ∧ Below q w w2) := ⟨r2, R1.out.1.later b2 (by omega), R1.out.2.2.trans (b2.mono (by omega))⟩
  have HL : Hid ((bcells (ones x)).length = 64) := by show _ = _; rw [bcells_length]; simp [ones]
  clear r2 b2
  go_upto_region 2 with fail
  refine wp_region_lit ?_
  refine wl_mv (.tmp 3) rfl rfl (.slice (some ⟨q + 1, 0, none⟩) 64 64) rfl ?_
  simp only [Act.put, List.setIfInBounds_toArray, List.set_cons_succ, List.set_cons_zero]
  refine wl_fld f39_2 (.tmp 1) rfl rfl q 0 rfl ?_
  simp only [Act.put, List.setIfInBounds_toArray, List.set_cons_succ, List.set_cons_zero]
  refine wl_ld o3 (.tmp 8) rfl rfl q (0 + 2) rfl (.int .i64 p) (R2.out.2.1.at 2 _ rfl) ?_
  simp only [Act.put, List.setIfInBounds_toArray, List.set_cons_succ, List.set_cons_zero]
  refine wl_cv35 (.tmp 9) rfl rfl p rfl ?_
  simp only [Act.put, List.setIfInBounds_toArray, List.set_cons_succ, List.set_cons_zero]
  refine wl_ix (.tmp 7) (.const (.int .i64 0)) rfl rfl (.slice (some ⟨q + 1, 0, none⟩) 64 64) (.pointer (some ⟨q + 1, 0, none⟩)) (.int .i64 ((0 : Nat) : Int)) rfl rfl (idx40 (q + 1) 0 (by decide)) ?_
  simp only [Act.put, List.setIfInBounds_toArray, List.set_cons_succ, List.set_cons_zero]
  refine wl_put size5' (.tmp 11) (.tmp 10) rfl rfl rfl (q + 1) 0 5 _ rfl (.int .u8 (byte8 p : Nat)) rfl ⟨rfl, rfl⟩ R2.out.1 (by rw [HL.out]; decide) ?_
  refine wpList_nil ?_
  have R3 : Hid (Row (w2.setCell ⟨q + 1, 0, none⟩ (.int .u8 (byte8 p : Nat))) (q + 1) 5 (bcells ((ones x).set 0 (byte8 p))) ∧ Row (w2.setCell ⟨q + 1, 0, none⟩ (.int .u8 (byte8 p : Nat))) q 39 (opCells k d p a n x kv) ∧ Below q w (w2.setCell ⟨q + 1, 0, none⟩ (.int .u8 (byte8 p : Nat)))) := by
    refine ⟨?_, ?_, R2.out.2.2.setCell (by show q ≤ q + 1; omega) _⟩
    · have := row_cell' (i := 0) R2.out.1 (.int .u8 (byte8 p : Nat))
      rw [bcells_set] at this
      exact this
    · show _ = _
      rw [Below.heap_setCell w2 ⟨q + 1, 0, none⟩ _ q (by show q ≠ q + 1; omega)]
      exact R2.out.2.1
  generalize w2.setCell ⟨q + 1, 0, none⟩ (.int .u8 (byte8 p : Nat)) = w3 at R3 ⊢
  have HL3 : Hid ((bcells ((ones x).set 0 (byte8 p))).length = 64) := by show _ = _; rw [bcells_length]; simp [ones]
  go_upto_region 3 with fail
  refine wp_region_lit ?_
  refine wl_mv (.tmp 3) rfl rfl (.slice (some ⟨q + 1, 0, none⟩) 64 64) rfl ?_
  simp only [Act.put, List.setIfInBounds_toArray, List.set_cons_succ, List.set_cons_zero]
  refine wl_fld f39_4 (.tmp 1) rfl rfl q 0 rfl ?_
  simp only [Act.put, List.setIfInBounds_toArray, List.set_cons_succ, List.set_cons_zero]
  refine wl_ld o3 (.tmp 13) rfl rfl q (0 + 4) rfl (.int .i64 n) (R3.out.2.1.at 4 _ rfl) ?_
  simp only [Act.put, List.setIfInBounds_toArray, List.set_cons_succ, List.set_cons_zero]
  refine wl_cv35 (.tmp 14) rfl rfl n rfl ?_
  simp only [Act.put, List.setIfInBounds_toArray, List.set_cons_succ, List.set_cons_zero]
  refine wl_ix (.tmp 12) (.const (.int .i64 40)) rfl rfl (.slice (some ⟨q + 1, 0, none⟩) 64 64) (.pointer (some ⟨q + 1, 40, none⟩)) (.int .i64 ((40 : Nat) : Int)) rfl rfl (idx40 (q + 1) 40 (by decide)) ?_
  simp only [Act.put, List.setIfInBounds_toArray, List.set_cons_succ, List.set_cons_zero]
  refine wl_put size5' (.tmp 16) (.tmp 15) rfl rfl rfl (q + 1) 40 5 _ rfl (.int .u8 (byte8 n : Nat)) rfl ⟨rfl, rfl⟩ R3.out.1 (by rw [HL3.out]; decide) ?_
  refine wpList_nil ?_
  have R4 : Hid (Row (w3.setCell ⟨q + 1, 40, none⟩ (.int .u8 (byte8 n : Nat))) (q + 1) 5 (bcells (secOf x p n)) ∧ Below q w (w3.setCell ⟨q + 1, 40, none⟩ (.int .u8 (byte8 n : Nat)))) := by
    refine ⟨?_, R3.out.2.2.setCell (by show q ≤ q + 1; omega) _⟩
    have := row_cell' (i := 40) R3.out.1 (.int .u8 (byte8 n : Nat))
    rw [bcells_set] at this
    exact this
  generalize w3.setCell ⟨q + 1, 40, none⟩ (.int .u8 (byte8 n : Nat)) = w4 at R4 ⊢
  go_wp2_with fail
  go_ret
  exact ⟨q + 1, rfl, by have := HQ.out; omega, R4.out.1, by rw [← HQ.out]; exact R4.out.2⟩
end Go.Proofs.Ytdddfjkecmnggaa

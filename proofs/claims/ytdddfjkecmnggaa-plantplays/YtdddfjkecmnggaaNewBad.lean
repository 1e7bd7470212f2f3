/- plant.New refuses what is no shape. -/
import Derived.Test.YtdddfjkecmnggaaME
namespace Go.Proofs.Ytdddfjkecmnggaa
open Go.RowKit Go.Maps

set_option maxHeartbeats 1000000 in
set_option maxRecDepth 100000 in
theorem newBad_any (w : World) (vd vt : Value) (ds ts : List Int) (hd : IntsIn w vd ds) (ht : IntsIn w vt ts) (hl1 : ds.length < 1152921504606846976) (hl2 : ts.length < 1152921504606846976) (hok : shapeOk ds ts = false) :
    Calls Try.prog 9 #[.agg #[vd, vt]] w fun e w' => e = .returned (.tuple #[.pointer none, .int .i64 30]) ∧ Below w.heap.size w w' := by
  obtain ⟨B, hB⟩ : ∃ B, B = w.heap.size := ⟨_, rfl⟩
  have HB : Hid (B = w.heap.size) := hB
  obtain ⟨pd, cd, hvd, hdl⟩ := hd.shape
  obtain ⟨pt, ct, hvt, htl⟩ := ht.shape
  subst hvd hvt
  obtain ⟨nd, hnd⟩ : ∃ nd, nd = ds.length := ⟨_, rfl⟩
  obtain ⟨nt, hnt⟩ : ∃ nt, nt = ts.length := ⟨_, rfl⟩
  have HD : Hid (IntsIn w (.slice pd nd cd) ds) := by rw [hnd]; exact hd
  have HT : Hid (IntsIn w (.slice pt nt ct) ts) := by rw [hnt]; exact ht
  have HOK : Hid (nd + nt < 1 ∨ 12 < nd + nt ∨ sizesOk ds = false ∨ (sizesOk ds = true ∧ sizesOk ts = false)) := by
    rw [hnd, hnt]
    unfold shapeOk at hok
    cases h1 : sizesOk ds
    · exact Or.inr (Or.inr (Or.inl rfl))
    · cases h2 : sizesOk ts
      · exact Or.inr (Or.inr (Or.inr ⟨rfl, rfl⟩))
      · rw [h1, h2] at hok
        by_cases h3 : 1 ≤ ds.length + ts.length
        · by_cases h4 : ds.length + ts.length ≤ 12
          · simp [h3, h4] at hok
          · exact Or.inr (Or.inl (by omega))
        · exact Or.inl (by omega)
  have hnd60 : nd < 1152921504606846976 := by omega
  have hnt60 : nt < 1152921504606846976 := by omega
  rw [← hnd, ← hnt, ← hB]
  rw [← hnd] at hdl
  rw [← hnt] at htl
  clear hd ht hB hnd hnt hok hl1 hl2
  go_enter Try.func9, Try.ntmps9
  go_upto_region 0 with fail
  refine wp_region_lit ?_
  refine wpList_box (.tmp 0) rfl rfl [.slice pd nd cd, .slice pt nt ct] rfl ?_
  intro w1 r1 s1 b1
  refine wpList_assign (.const (.pointer none)) rfl rfl (.pointer none) rfl ?_
  refine wpList_assign (.const (.int .i64 0)) rfl rfl (.int .i64 0) rfl ?_
  refine wpList_nil ?_
  simp only [Act.put, List.setIfInBounds_toArray, List.set_cons_succ, List.set_cons_zero]
  rw [← HB.out] at r1 s1 b1 ⊢
  have k0 := r1.at 0 _ rfl
  have k1 := r1.at 1 _ rfl
  have HB1 : Hid (Below B w w1) := b1
  have HD1 : Hid (IntsIn w1 (.slice pd nd cd) ds) := HD.out.later (by rw [← HB.out]; exact b1)
  have HT1 : Hid (IntsIn w1 (.slice pt nt ct) ts) := HT.out.later (by rw [← HB.out]; exact b1)
  obtain ⟨y1, hy1⟩ : ∃ y1, y1 = sizesOk ds := ⟨_, rfl⟩
  obtain ⟨y2, hy2⟩ : ∃ y2, y2 = sizesOk ts := ⟨_, rfl⟩
  have CS1 : Hid (Calls Try.prog 37 #[.slice pd nd cd] w1 fun e w' => e = .returned (.bool y1) ∧ w1 = w') := by rw [hy1]; exact (sizes_any w1 _ ds HD1.out).mono fun _ _ h => ⟨h.1, h.2.symm⟩
  have CS2 : Hid (Calls Try.prog 37 #[.slice pt nt ct] w1 fun e w' => e = .returned (.bool y2) ∧ w1 = w') := by rw [hy2]; exact (sizes_any w1 _ ts HT1.out).mono fun _ _ h => ⟨h.1, h.2.symm⟩
  have hcase := HOK.out
  rw [← hy1, ← hy2] at hcase
  clear r1 s1 b1 hy1 hy2 HOK
  by_cases h1 : nd + nt < 1
  · have t1 : decide ((nd : Int) + (nt : Int) < 1) = true := by simp; omega
    clear hcase
    go_wp2
    go_ret2
    exact ⟨rfl, HB1.out⟩
  · have t1 : decide ((nd : Int) + (nt : Int) < 1) = false := by simp; omega
    by_cases h2 : 12 < nd + nt
    · have t2 : decide (12 < (nd : Int) + (nt : Int)) = true := by simp; omega
      clear hcase
      go_wp2
      go_ret2
      exact ⟨rfl, HB1.out⟩
    · have t2 : decide (12 < (nd : Int) + (nt : Int)) = false := by simp; omega
      rcases hcase with h | h | rfl | ⟨rfl, rfl⟩
      · omega
      · omega
      · go_wp2_with (go_at_call_of 37 (Value.slice pd nd cd); refine (CS1.out).mono ?_; rintro e wx ⟨rfl, rfl⟩)
        go_ret2
        exact ⟨rfl, HB1.out⟩
      · go_wp2_with (first | (go_at_call_of 37 (Value.slice pd nd cd); refine (CS1.out).mono ?_; rintro e wx ⟨rfl, rfl⟩) | (go_at_call_of 37 (Value.slice pt nt ct); refine (CS2.out).mono ?_; rintro e wx ⟨rfl, rfl⟩))
        go_ret2
        exact ⟨rfl, HB1.out⟩
end Go.Proofs.Ytdddfjkecmnggaa

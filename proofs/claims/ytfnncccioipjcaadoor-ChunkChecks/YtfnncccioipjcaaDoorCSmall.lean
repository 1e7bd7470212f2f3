/- chunk's piece and told. -/
import Derived.Test.YtfnncccioipjcaaDoorBMem
import Derived.Test.YtfnncccioipjcaaDoorCNum
namespace Go.Proofs.YtfnncccioipjcaaDoor
open Go.RowKit

theorem piece_eq (cs : List Nat) (i t : Nat) (ht : t = i * 64 + min 64 (cs.length - i * 64)) : (cs.take t).drop (i * 64) = Cut.piece cs i := by
  unfold Cut.piece
  rw [List.drop_take, ht, Nat.add_sub_cancel_left]
  rcases Nat.le_total 64 (cs.length - i * 64) with h | h
  · rw [Nat.min_eq_left h]
  · rw [Nat.min_eq_right h, List.take_of_length_le (by rw [List.length_drop]; exact Nat.le_refl _), List.take_of_length_le (by rw [List.length_drop]; exact h)]
set_option maxHeartbeats 1000000 in
theorem piece_any' (v : Value) (cs : List Nat) (w : World) (h : SliceIn w v cs) (i : Nat) (hi : i < Cut.count cs.length) :
    Calls Tryd.prog 39 #[v, .int .i64 (i : Nat)] w fun e w' => (∃ v', e = .returned v' ∧ SliceIn w v' (Cut.piece cs i)) ∧ w = w' := by
  have h1 := (Cut.lt_count cs.length i).1 hi
  have hmx := h.len_max
  obtain ⟨N, hN⟩ : ∃ N, cs.length = N := ⟨_, rfl⟩
  have HN : Hid (cs.length = N) := hN
  rw [hN] at h1 hmx
  obtain ⟨K, hK⟩ : ∃ K : Int, K = min 64 ((N : Int) - (i : Int) * 64) := ⟨_, rfl⟩
  have HE : Hid ((cs.take (i * 64 + K.toNat)).drop (i * 64) = Cut.piece cs i) := piece_eq cs i _ (by omega)
  have HS : Hid (Calls Tryd.prog 45 #[.int .i64 (i : Nat), .int .i64 (N : Nat)] w fun e w' => e = .returned (.int .i64 K) ∧ w = w') := by
    have := size_any (i : Nat) (N : Nat) (by omega) (by omega) (by omega) w
    rw [← hK] at this
    exact this
  have k0 : 0 ≤ K := by omega
  have k1 : (i : Int) * 64 + K ≤ (N : Int) := by omega
  have k2 : (i : Int) * 64 < (N : Int) := by omega
  clear hN hK hi
  go_enter Tryd.func39, Tryd.ntmps39
  go_wp2_with (first
    | (refine wl_blenN (.tmp 11) rfl rfl v cs rfl h N HN.out ?_)
    | (go_at_call 45; refine HS.out.mono ?_; rintro e w' ⟨rfl, rfl⟩)
    | (refine wl_bsub (.tmp 15) (some (.tmp 16)) (some (.tmp 17)) (some (.tmp 18)) rfl rfl v cs rfl h (i * 64) (i * 64 + K.toNat) ⟨Or.inr ⟨_, rfl, by omega⟩, Or.inr ⟨_, rfl, by omega, Or.inr rfl⟩, by omega, by rw [HN.out]; omega⟩ ?_; intro v4 s4; rw [HE.out] at s4))
  go_ret
  exact ⟨⟨_, rfl, s4⟩, rfl⟩
set_option maxHeartbeats 1000000 in
theorem told_any (v : Value) (cs : List Nat) (w : World) (h : SliceIn w v cs) (h1 : 1 ≤ cs.length) (h64 : cs.length ≤ 64) :
    Calls Tryd.prog 38 #[v] w fun e w' => e = .returned (whole w.heap.size cs.length) ∧ Row w' w.heap.size 5 (bcells cs) ∧ w'.heap.size = w.heap.size + 1 ∧ Below w.heap.size w w' := by
  have h' := h
  obtain ⟨p, cap, rfl, hl, hin⟩ := h'
  rcases hin with rfl | ⟨b, off, rfl, hc, hb⟩
  · simp at h1
  have hbl : b < w.heap.size := BytesIn.lt ⟨hc, hb⟩ (by intro e; rw [e] at h1; simp at h1)
  obtain ⟨N, hN⟩ : ∃ N, cs.length = N := ⟨_, rfl⟩
  have HN : Hid (cs.length = N) := hN
  rw [hN] at h1 h64 hl
  rw [hN] at h ⊢
  obtain ⟨B, hB⟩ : ∃ B, B = w.heap.size := ⟨_, rfl⟩
  have HB : Hid (B = w.heap.size) := hB
  have HH : Hid (SliceIn w (.slice (some ⟨b, off, none⟩) N cap) cs) := h
  have HC : Hid (BytesIn w b off cs) := ⟨hc, hb⟩
  have HBL : Hid (b < B) := by rw [hB]; exact hbl
  clear hN hl h hc hb hbl
  go_enter Tryd.func38, Tryd.ntmps38
  go_wp2_with (first
    | (refine wl_blenN (.tmp 4) rfl rfl _ cs rfl HH.out N HN.out ?_)
    | (refine wl_make (.tmp 5) (.tmp 5) 39 5 (.int .u8 0) 1 1 rfl rfl Tryd.underlying39 info5' N rfl rfl (by omega) (by omega) ?_; rw [← hB]; intro w1 r1 s1 b1; rw [made5] at r1; have R1 : Hid (Row w1 B 5 (bcells (List.replicate N 0)) ∧ w1.heap.size = B + 1 ∧ Below B w w1) := ⟨r1, s1, b1⟩; clear r1 s1 b1 hB)
    | (refine wl_copy (.tmp 7) (.tmp 8) rfl rfl B 0 N N b off N cap 5 N rfl rfl (bcells (List.replicate N 0)) R1.out.1 cs HN.out (Nat.min_self N).symm (fun j hj => by rw [show w1.cell? ⟨b, off + j, none⟩ = w.cell? ⟨b, off + j, none⟩ from by unfold World.cell?; rw [R1.out.2.2.block b HBL.out]]; exact HC.out.1 j hj) (by simp [bcells_length]) ?_; intro w2 r2 o2 s2; have R2 : Hid (Row w2 B 5 (bcells cs) ∧ w2.heap.size = B + 1 ∧ Below B w w2) := ⟨by rw [splice_all _ _ (by simp [bcells_length, HN.out])] at r2; exact r2, by rw [s2]; exact R1.out.2.1, R1.out.2.2.trans (o2.below (Nat.le_refl _) (by have := R1.out.2.1; omega))⟩; clear r2 o2 s2))
  go_ret
  exact ⟨by rw [HB.out]; rfl, by rw [← HB.out]; exact R2.out⟩
end Go.Proofs.YtfnncccioipjcaaDoor

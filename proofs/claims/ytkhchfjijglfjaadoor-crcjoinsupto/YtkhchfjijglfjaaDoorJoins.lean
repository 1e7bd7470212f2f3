/- The law CrcJoins, walked out of its callees' contracts. -/
import Derived.Test.YtkhchfjijglfjaaDoorAppend
namespace Go.Proofs.YtkhchfjijglfjaaDoor
open Go.RowKit

set_option maxHeartbeats 400000 in
theorem crcJoins_any (s : BitVec 32) (va vb : Value) (xs ys : List Nat) (w : World) (ha : SliceIn w va xs) (hb : SliceIn w vb ys) (ht : TabIn w) (hsz : xs.length + ys.length ≤ 140737488355328) :
    Calls Tryd.prog 4 #[va, vb, .int .u32 (Crc.U s)] w fun e w' => e = .returned (.bool true) ∧ Below w.heap.size w w' := by
  go_enter Tryd.func4, Tryd.ntmps4
  go_wp2_with fail
  refine (shown_any _ ht).mono ?_
  rintro e w1 ⟨rfl, h1⟩
  have h2 : Below w.heap.size w (w1.alloc (.cells #[] 5)) := h1.alloc h1.size _
  have o2 : (w1.alloc (.cells #[] 5)).ownsRow w1.heap.size 5 1 (.slice (some ⟨w1.heap.size, 0, none⟩) 0 0) ([] : List Nat).length (cellsOf []) := World.ownsRow_made w1 #[] 0 (Nat.le_refl _) (Nat.zero_le _) rfl
  have l2 : w1.heap.size ≤ (w1.alloc (.cells #[] 5)).heap.size := by simp
  go_wp2_with (first | (at_builtin; refine wpList_append_bytes rfl (.tmp 12) (.tmp 13) rfl w1.heap.size _ va [] xs rfl o2 rfl (ha.later h2) (by simp; omega) l2 ?_; intro v3 w3 o3 b3; have h3 := h2.trans (b3.mono h1.size); have l3 := Nat.le_trans l2 b3.size; rw [List.nil_append] at o3) | (at_builtin; refine wpList_append_bytes rfl (.tmp 14) (.tmp 15) rfl w1.heap.size _ vb xs ys rfl o3 rfl (hb.later h3) hsz l3 ?_; intro v4 w4 o4 b4; have h4 := h3.trans (b4.mono h1.size)))
  have ha4 := ha.later h4
  have hb4 := hb.later h4
  have ht4 := ht.later h4
  have hv4 : SliceIn w4 v4 (xs ++ ys) := SliceIn.owned o4 (getD_append xs ys ha.bytes hb.bytes)
  clear o2 o3 o4 b3 b4 l2 l3 h2 h3 ha hb ht h1
  refine (more_any s va xs _ ha4 ht4).mono ?_
  rintro e w' ⟨rfl, rfl⟩
  go_wp2_with fail
  refine (more_any _ vb ys _ hb4 ht4).mono ?_
  rintro e w' ⟨rfl, rfl⟩
  go_wp2_with fail
  refine (sum_any va xs _ ha4 ht4).mono ?_
  rintro e w' ⟨rfl, rfl⟩
  go_wp2_with fail
  refine (more_any _ vb ys _ hb4 ht4).mono ?_
  rintro e w' ⟨rfl, rfl⟩
  rw [← Crc.more_append, ← Crc.more_append]
  go_wp2_with fail
  refine (more_any s v4 (xs ++ ys) _ hv4 ht4).mono ?_
  rintro e w' ⟨rfl, rfl⟩
  go_wp2_with fail
  refine (sum_any v4 (xs ++ ys) _ hv4 ht4).mono ?_
  rintro e w' ⟨rfl, rfl⟩
  go_wp2_with fail
  refine (more_any0 vb ys _ hb4 ht4).mono ?_
  rintro e w' ⟨rfl, rfl⟩
  go_wp2_with fail
  refine (sum_any vb ys _ hb4 ht4).mono ?_
  rintro e w' ⟨rfl, rfl⟩
  go_wp2_with fail
  go_ret
  exact ⟨rfl, h4⟩
end Go.Proofs.YtkhchfjijglfjaaDoor

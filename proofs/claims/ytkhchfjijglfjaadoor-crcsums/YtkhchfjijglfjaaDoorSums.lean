/- The law CrcSums, walked out of its callees' contracts. -/
import Derived.Test.YtkhchfjijglfjaaDoorCalls
namespace Go.Proofs.YtkhchfjijglfjaaDoor
open Go.RowKit

set_option maxHeartbeats 400000 in
theorem crcSums_any (s : BitVec 32) (v : Value) (cs : List Nat) (w : World) (h : SliceIn w v cs) (ht : TabIn w) :
    Calls Tryd.prog 3 #[v, .int .u32 (Crc.U s)] w fun e w' => e = .returned (.bool true) ∧ Below w.heap.size w w' := by
  go_enter Tryd.func3, Tryd.ntmps3
  go_wp2_with fail
  refine (shown_any _ ht).mono ?_
  rintro e w1 ⟨rfl, hb⟩
  go_wp2_with fail
  refine (sum_any _ cs _ (h.later hb) (ht.later hb)).mono ?_
  rintro e w' ⟨rfl, rfl⟩
  go_wp2_with fail
  refine (refsum_any _ cs _ (h.later hb)).mono ?_
  rintro e w' ⟨rfl, rfl⟩
  go_wp2_with fail
  refine (more_any s _ cs _ (h.later hb) (ht.later hb)).mono ?_
  rintro e w' ⟨rfl, rfl⟩
  go_wp2_with fail
  refine (ref_any s _ cs _ (h.later hb)).mono ?_
  rintro e w' ⟨rfl, rfl⟩
  go_wp2_with fail
  go_ret
  exact ⟨rfl, hb⟩
end Go.Proofs.YtkhchfjijglfjaaDoor

/- The law ShaSums, walked out of its callees' contracts. -/
import Derived.Test.YtimcgkcdonbjpaaDoorShown
namespace Go.Proofs.YtimcgkcdonbjpaaDoor
open Go.RowKit

set_option maxHeartbeats 600000 in
set_option maxRecDepth 100000 in
theorem shaSums_any (v : Value) (cs : List Nat) (w : World) (hv : SliceIn w v cs) (ht : TabIn w) (hst : StartIn w) (hlen : cs.length + 128 ≤ 140737488355328) :
    Calls Tryd.prog 3 #[v] w fun e w' => e = .returned (.bool true) ∧ Below w.heap.size w w' := by
  have heq := eql25 (Sha.sha cs) (sha_length cs)
  go_enter Tryd.func3, Tryd.ntmps3
  go_wp2_with fail
  refine (shown_any _ ht hst).mono ?_
  rintro e w1 ⟨rfl, b1⟩
  go_upto_region 4 with fail
  refine wp_region_lit ?_
  refine wpList_litb0 rfl rfl ?_
  intro w2 o2 s2 b2
  refine wpList_move (.tmp 0) rfl rfl _ rfl ?_
  refine wpList_append_bytes (.tmp 8) (.tmp 9) rfl rfl w1.heap.size _ v [] cs rfl o2 rfl ((hv.later b1).later b2) (by simp; omega) (by omega) ?_
  intro v3 w3 o3 b3
  rw [List.nil_append] at o3
  have b13 : Below w1.heap.size w1 w3 := b2.trans b3
  have b03 : Below w.heap.size w w3 := b1.trans (b13.mono b1.size)
  have h3 : SliceIn w3 v3 cs := o3.slice hv.bytes
  have HV3 : Hid (SliceIn w3 v cs ∧ SliceIn w3 v3 cs ∧ TabIn w3 ∧ StartIn w3 ∧ Below w.heap.size w w3) := ⟨hv.later b03, h3, ht.later b03, hst.later b03, b03⟩
  clear o2 s2 b2 o3 b3 b13 b03 h3 b1 hv ht hst
  go_wp2_with fail
  refine (sum_any v3 cs w3 HV3.out.2.1 HV3.out.2.2.1 HV3.out.2.2.2.1 (by omega)).mono ?_
  rintro e w4 ⟨rfl, b4⟩
  have HV4 : Hid (SliceIn w4 v cs ∧ SliceIn w4 v3 cs ∧ Below w.heap.size w w4) := ⟨HV3.out.1.later b4, HV3.out.2.1.later b4, HV3.out.2.2.2.2.trans (b4.mono HV3.out.2.2.2.2.size)⟩
  clear b4 HV3
  go_wp2_with fail
  refine (refSum_any v cs w4 HV4.out.1 hlen).mono ?_
  rintro e w5 ⟨rfl, b5⟩
  have HV5 : Hid (SliceIn w5 v cs ∧ SliceIn w5 v3 cs ∧ Below w.heap.size w w5) := ⟨HV4.out.1.later b5, HV4.out.2.1.later b5, HV4.out.2.2.trans (b5.mono HV4.out.2.2.size)⟩
  clear b5 HV4
  go_wp2_with fail
  refine (same_any v3 v cs w5 HV5.out.2.1 HV5.out.1).mono ?_
  rintro e w6 ⟨rfl, rfl⟩
  go_wp2_with fail
  go_ret
  exact ⟨rfl, HV5.out.2.2⟩
end Go.Proofs.YtimcgkcdonbjpaaDoor

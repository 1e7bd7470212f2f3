/- The turned word: bits.RotateLeft32, sha.rot and the document's rot, at each number of bits that is asked for. -/
import Derived.Test.YtjdmpanemdhbbaaDoorRows
import Derived.Test.YtjdmpanemdhbbaaDoorWords
import Derived.WalkKit
import Derived.WalkSpells
import Derived.WalkLawsBesides
import Derived.BigQuiet
import Derived.Deep.QuietTactic
namespace Go.Proofs.YtjdmpanemdhbbaaDoor
open Go.RowKit
theorem Sha.U_rot (x : BitVec 32) (n : Nat) : bits .or .u32 (Sha.U x / (2 : Int) ^ n) (Sha.U x * (2 : Int) ^ (32 - n) % (4294967296 : Int)) = Sha.U (Sha.rot x n) := by
  rw [Sha.U_shr, Sha.U_shl, Sha.U_or]
  rfl
theorem Sha.U_rotl (x : BitVec 32) (n : Nat) : bits .or .u32 (Sha.U x * (2 : Int) ^ (32 - n) % (4294967296 : Int)) (Sha.U x / (2 : Int) ^ n) = Sha.U (Sha.rot x n) := by
  rw [Sha.U_shr, Sha.U_shl, Sha.U_or, BitVec.or_comm]
  rfl

theorem and31_2 : bits .and .u64 (IntKind.u64.wrap (-2)) 31 = 30 := by decide +kernel
set_option maxHeartbeats 400000 in
theorem rotl_2 (x : BitVec 32) (w : World) :
    Calls Tryd.prog 54 #[.int .u32 (Sha.U x), .int .i64 (-2)] w fun e w' => e = .returned (.int .u32 (Sha.U (Sha.rot x 2))) ∧ w' = w := by
  have h31 := and31_2
  go_enter Tryd.func54, Tryd.ntmps54
  go_wp2
  go_ret
  exact ⟨congrArg (fun z => Ending.returned (.int .u32 z)) (Sha.U_rotl x 2), rfl⟩
set_option maxHeartbeats 400000 in
theorem srot_2 (x : BitVec 32) (w : World) :
    Calls Tryd.prog 53 #[.int .u32 (Sha.U x), .int .i64 2] w fun e w' => e = .returned (.int .u32 (Sha.U (Sha.rot x 2))) ∧ w' = w := by
  go_enter Tryd.func53, Tryd.ntmps53
  go_wp2_with fail
  refine (rotl_2 x _).mono ?_
  rintro e w' ⟨rfl, rfl⟩
  go_wp2
  go_ret
  exact ⟨rfl, rfl⟩
set_option maxHeartbeats 400000 in
theorem rrot_2 (x : BitVec 32) (w : World) :
    Calls Tryd.prog 51 #[.int .u32 (Sha.U x), .int .i64 2] w fun e w' => e = .returned (.int .u32 (Sha.U (Sha.rot x 2))) ∧ ∃ n, w' = w.drewN n := by
  go_enter Tryd.func51, Tryd.ntmps51
  go_wp2
  go_quiet (fail)
  go_wp2
  go_ret
  exact ⟨congrArg (fun z => Ending.returned (.int .u32 z)) (Sha.U_rot x 2), _, rfl⟩

theorem and31_6 : bits .and .u64 (IntKind.u64.wrap (-6)) 31 = 26 := by decide +kernel
set_option maxHeartbeats 400000 in
theorem rotl_6 (x : BitVec 32) (w : World) :
    Calls Tryd.prog 54 #[.int .u32 (Sha.U x), .int .i64 (-6)] w fun e w' => e = .returned (.int .u32 (Sha.U (Sha.rot x 6))) ∧ w' = w := by
  have h31 := and31_6
  go_enter Tryd.func54, Tryd.ntmps54
  go_wp2
  go_ret
  exact ⟨congrArg (fun z => Ending.returned (.int .u32 z)) (Sha.U_rotl x 6), rfl⟩
set_option maxHeartbeats 400000 in
theorem srot_6 (x : BitVec 32) (w : World) :
    Calls Tryd.prog 53 #[.int .u32 (Sha.U x), .int .i64 6] w fun e w' => e = .returned (.int .u32 (Sha.U (Sha.rot x 6))) ∧ w' = w := by
  go_enter Tryd.func53, Tryd.ntmps53
  go_wp2_with fail
  refine (rotl_6 x _).mono ?_
  rintro e w' ⟨rfl, rfl⟩
  go_wp2
  go_ret
  exact ⟨rfl, rfl⟩
set_option maxHeartbeats 400000 in
theorem rrot_6 (x : BitVec 32) (w : World) :
    Calls Tryd.prog 51 #[.int .u32 (Sha.U x), .int .i64 6] w fun e w' => e = .returned (.int .u32 (Sha.U (Sha.rot x 6))) ∧ ∃ n, w' = w.drewN n := by
  go_enter Tryd.func51, Tryd.ntmps51
  go_wp2
  go_quiet (fail)
  go_wp2
  go_ret
  exact ⟨congrArg (fun z => Ending.returned (.int .u32 z)) (Sha.U_rot x 6), _, rfl⟩

theorem and31_7 : bits .and .u64 (IntKind.u64.wrap (-7)) 31 = 25 := by decide +kernel
set_option maxHeartbeats 400000 in
theorem rotl_7 (x : BitVec 32) (w : World) :
    Calls Tryd.prog 54 #[.int .u32 (Sha.U x), .int .i64 (-7)] w fun e w' => e = .returned (.int .u32 (Sha.U (Sha.rot x 7))) ∧ w' = w := by
  have h31 := and31_7
  go_enter Tryd.func54, Tryd.ntmps54
  go_wp2
  go_ret
  exact ⟨congrArg (fun z => Ending.returned (.int .u32 z)) (Sha.U_rotl x 7), rfl⟩
set_option maxHeartbeats 400000 in
theorem srot_7 (x : BitVec 32) (w : World) :
    Calls Tryd.prog 53 #[.int .u32 (Sha.U x), .int .i64 7] w fun e w' => e = .returned (.int .u32 (Sha.U (Sha.rot x 7))) ∧ w' = w := by
  go_enter Tryd.func53, Tryd.ntmps53
  go_wp2_with fail
  refine (rotl_7 x _).mono ?_
  rintro e w' ⟨rfl, rfl⟩
  go_wp2
  go_ret
  exact ⟨rfl, rfl⟩
set_option maxHeartbeats 400000 in
theorem rrot_7 (x : BitVec 32) (w : World) :
    Calls Tryd.prog 51 #[.int .u32 (Sha.U x), .int .i64 7] w fun e w' => e = .returned (.int .u32 (Sha.U (Sha.rot x 7))) ∧ ∃ n, w' = w.drewN n := by
  go_enter Tryd.func51, Tryd.ntmps51
  go_wp2
  go_quiet (fail)
  go_wp2
  go_ret
  exact ⟨congrArg (fun z => Ending.returned (.int .u32 z)) (Sha.U_rot x 7), _, rfl⟩

theorem and31_11 : bits .and .u64 (IntKind.u64.wrap (-11)) 31 = 21 := by decide +kernel
set_option maxHeartbeats 400000 in
theorem rotl_11 (x : BitVec 32) (w : World) :
    Calls Tryd.prog 54 #[.int .u32 (Sha.U x), .int .i64 (-11)] w fun e w' => e = .returned (.int .u32 (Sha.U (Sha.rot x 11))) ∧ w' = w := by
  have h31 := and31_11
  go_enter Tryd.func54, Tryd.ntmps54
  go_wp2
  go_ret
  exact ⟨congrArg (fun z => Ending.returned (.int .u32 z)) (Sha.U_rotl x 11), rfl⟩
set_option maxHeartbeats 400000 in
theorem srot_11 (x : BitVec 32) (w : World) :
    Calls Tryd.prog 53 #[.int .u32 (Sha.U x), .int .i64 11] w fun e w' => e = .returned (.int .u32 (Sha.U (Sha.rot x 11))) ∧ w' = w := by
  go_enter Tryd.func53, Tryd.ntmps53
  go_wp2_with fail
  refine (rotl_11 x _).mono ?_
  rintro e w' ⟨rfl, rfl⟩
  go_wp2
  go_ret
  exact ⟨rfl, rfl⟩
set_option maxHeartbeats 400000 in
theorem rrot_11 (x : BitVec 32) (w : World) :
    Calls Tryd.prog 51 #[.int .u32 (Sha.U x), .int .i64 11] w fun e w' => e = .returned (.int .u32 (Sha.U (Sha.rot x 11))) ∧ ∃ n, w' = w.drewN n := by
  go_enter Tryd.func51, Tryd.ntmps51
  go_wp2
  go_quiet (fail)
  go_wp2
  go_ret
  exact ⟨congrArg (fun z => Ending.returned (.int .u32 z)) (Sha.U_rot x 11), _, rfl⟩

theorem and31_13 : bits .and .u64 (IntKind.u64.wrap (-13)) 31 = 19 := by decide +kernel
set_option maxHeartbeats 400000 in
theorem rotl_13 (x : BitVec 32) (w : World) :
    Calls Tryd.prog 54 #[.int .u32 (Sha.U x), .int .i64 (-13)] w fun e w' => e = .returned (.int .u32 (Sha.U (Sha.rot x 13))) ∧ w' = w := by
  have h31 := and31_13
  go_enter Tryd.func54, Tryd.ntmps54
  go_wp2
  go_ret
  exact ⟨congrArg (fun z => Ending.returned (.int .u32 z)) (Sha.U_rotl x 13), rfl⟩
set_option maxHeartbeats 400000 in
theorem srot_13 (x : BitVec 32) (w : World) :
    Calls Tryd.prog 53 #[.int .u32 (Sha.U x), .int .i64 13] w fun e w' => e = .returned (.int .u32 (Sha.U (Sha.rot x 13))) ∧ w' = w := by
  go_enter Tryd.func53, Tryd.ntmps53
  go_wp2_with fail
  refine (rotl_13 x _).mono ?_
  rintro e w' ⟨rfl, rfl⟩
  go_wp2
  go_ret
  exact ⟨rfl, rfl⟩
set_option maxHeartbeats 400000 in
theorem rrot_13 (x : BitVec 32) (w : World) :
    Calls Tryd.prog 51 #[.int .u32 (Sha.U x), .int .i64 13] w fun e w' => e = .returned (.int .u32 (Sha.U (Sha.rot x 13))) ∧ ∃ n, w' = w.drewN n := by
  go_enter Tryd.func51, Tryd.ntmps51
  go_wp2
  go_quiet (fail)
  go_wp2
  go_ret
  exact ⟨congrArg (fun z => Ending.returned (.int .u32 z)) (Sha.U_rot x 13), _, rfl⟩

theorem and31_17 : bits .and .u64 (IntKind.u64.wrap (-17)) 31 = 15 := by decide +kernel
set_option maxHeartbeats 400000 in
theorem rotl_17 (x : BitVec 32) (w : World) :
    Calls Tryd.prog 54 #[.int .u32 (Sha.U x), .int .i64 (-17)] w fun e w' => e = .returned (.int .u32 (Sha.U (Sha.rot x 17))) ∧ w' = w := by
  have h31 := and31_17
  go_enter Tryd.func54, Tryd.ntmps54
  go_wp2
  go_ret
  exact ⟨congrArg (fun z => Ending.returned (.int .u32 z)) (Sha.U_rotl x 17), rfl⟩
set_option maxHeartbeats 400000 in
theorem srot_17 (x : BitVec 32) (w : World) :
    Calls Tryd.prog 53 #[.int .u32 (Sha.U x), .int .i64 17] w fun e w' => e = .returned (.int .u32 (Sha.U (Sha.rot x 17))) ∧ w' = w := by
  go_enter Tryd.func53, Tryd.ntmps53
  go_wp2_with fail
  refine (rotl_17 x _).mono ?_
  rintro e w' ⟨rfl, rfl⟩
  go_wp2
  go_ret
  exact ⟨rfl, rfl⟩
set_option maxHeartbeats 400000 in
theorem rrot_17 (x : BitVec 32) (w : World) :
    Calls Tryd.prog 51 #[.int .u32 (Sha.U x), .int .i64 17] w fun e w' => e = .returned (.int .u32 (Sha.U (Sha.rot x 17))) ∧ ∃ n, w' = w.drewN n := by
  go_enter Tryd.func51, Tryd.ntmps51
  go_wp2
  go_quiet (fail)
  go_wp2
  go_ret
  exact ⟨congrArg (fun z => Ending.returned (.int .u32 z)) (Sha.U_rot x 17), _, rfl⟩

theorem and31_18 : bits .and .u64 (IntKind.u64.wrap (-18)) 31 = 14 := by decide +kernel
set_option maxHeartbeats 400000 in
theorem rotl_18 (x : BitVec 32) (w : World) :
    Calls Tryd.prog 54 #[.int .u32 (Sha.U x), .int .i64 (-18)] w fun e w' => e = .returned (.int .u32 (Sha.U (Sha.rot x 18))) ∧ w' = w := by
  have h31 := and31_18
  go_enter Tryd.func54, Tryd.ntmps54
  go_wp2
  go_ret
  exact ⟨congrArg (fun z => Ending.returned (.int .u32 z)) (Sha.U_rotl x 18), rfl⟩
set_option maxHeartbeats 400000 in
theorem srot_18 (x : BitVec 32) (w : World) :
    Calls Tryd.prog 53 #[.int .u32 (Sha.U x), .int .i64 18] w fun e w' => e = .returned (.int .u32 (Sha.U (Sha.rot x 18))) ∧ w' = w := by
  go_enter Tryd.func53, Tryd.ntmps53
  go_wp2_with fail
  refine (rotl_18 x _).mono ?_
  rintro e w' ⟨rfl, rfl⟩
  go_wp2
  go_ret
  exact ⟨rfl, rfl⟩
set_option maxHeartbeats 400000 in
theorem rrot_18 (x : BitVec 32) (w : World) :
    Calls Tryd.prog 51 #[.int .u32 (Sha.U x), .int .i64 18] w fun e w' => e = .returned (.int .u32 (Sha.U (Sha.rot x 18))) ∧ ∃ n, w' = w.drewN n := by
  go_enter Tryd.func51, Tryd.ntmps51
  go_wp2
  go_quiet (fail)
  go_wp2
  go_ret
  exact ⟨congrArg (fun z => Ending.returned (.int .u32 z)) (Sha.U_rot x 18), _, rfl⟩

theorem and31_19 : bits .and .u64 (IntKind.u64.wrap (-19)) 31 = 13 := by decide +kernel
set_option maxHeartbeats 400000 in
theorem rotl_19 (x : BitVec 32) (w : World) :
    Calls Tryd.prog 54 #[.int .u32 (Sha.U x), .int .i64 (-19)] w fun e w' => e = .returned (.int .u32 (Sha.U (Sha.rot x 19))) ∧ w' = w := by
  have h31 := and31_19
  go_enter Tryd.func54, Tryd.ntmps54
  go_wp2
  go_ret
  exact ⟨congrArg (fun z => Ending.returned (.int .u32 z)) (Sha.U_rotl x 19), rfl⟩
set_option maxHeartbeats 400000 in
theorem srot_19 (x : BitVec 32) (w : World) :
    Calls Tryd.prog 53 #[.int .u32 (Sha.U x), .int .i64 19] w fun e w' => e = .returned (.int .u32 (Sha.U (Sha.rot x 19))) ∧ w' = w := by
  go_enter Tryd.func53, Tryd.ntmps53
  go_wp2_with fail
  refine (rotl_19 x _).mono ?_
  rintro e w' ⟨rfl, rfl⟩
  go_wp2
  go_ret
  exact ⟨rfl, rfl⟩
set_option maxHeartbeats 400000 in
theorem rrot_19 (x : BitVec 32) (w : World) :
    Calls Tryd.prog 51 #[.int .u32 (Sha.U x), .int .i64 19] w fun e w' => e = .returned (.int .u32 (Sha.U (Sha.rot x 19))) ∧ ∃ n, w' = w.drewN n := by
  go_enter Tryd.func51, Tryd.ntmps51
  go_wp2
  go_quiet (fail)
  go_wp2
  go_ret
  exact ⟨congrArg (fun z => Ending.returned (.int .u32 z)) (Sha.U_rot x 19), _, rfl⟩

theorem and31_22 : bits .and .u64 (IntKind.u64.wrap (-22)) 31 = 10 := by decide +kernel
set_option maxHeartbeats 400000 in
theorem rotl_22 (x : BitVec 32) (w : World) :
    Calls Tryd.prog 54 #[.int .u32 (Sha.U x), .int .i64 (-22)] w fun e w' => e = .returned (.int .u32 (Sha.U (Sha.rot x 22))) ∧ w' = w := by
  have h31 := and31_22
  go_enter Tryd.func54, Tryd.ntmps54
  go_wp2
  go_ret
  exact ⟨congrArg (fun z => Ending.returned (.int .u32 z)) (Sha.U_rotl x 22), rfl⟩
set_option maxHeartbeats 400000 in
theorem srot_22 (x : BitVec 32) (w : World) :
    Calls Tryd.prog 53 #[.int .u32 (Sha.U x), .int .i64 22] w fun e w' => e = .returned (.int .u32 (Sha.U (Sha.rot x 22))) ∧ w' = w := by
  go_enter Tryd.func53, Tryd.ntmps53
  go_wp2_with fail
  refine (rotl_22 x _).mono ?_
  rintro e w' ⟨rfl, rfl⟩
  go_wp2
  go_ret
  exact ⟨rfl, rfl⟩
set_option maxHeartbeats 400000 in
theorem rrot_22 (x : BitVec 32) (w : World) :
    Calls Tryd.prog 51 #[.int .u32 (Sha.U x), .int .i64 22] w fun e w' => e = .returned (.int .u32 (Sha.U (Sha.rot x 22))) ∧ ∃ n, w' = w.drewN n := by
  go_enter Tryd.func51, Tryd.ntmps51
  go_wp2
  go_quiet (fail)
  go_wp2
  go_ret
  exact ⟨congrArg (fun z => Ending.returned (.int .u32 z)) (Sha.U_rot x 22), _, rfl⟩

theorem and31_25 : bits .and .u64 (IntKind.u64.wrap (-25)) 31 = 7 := by decide +kernel
set_option maxHeartbeats 400000 in
theorem rotl_25 (x : BitVec 32) (w : World) :
    Calls Tryd.prog 54 #[.int .u32 (Sha.U x), .int .i64 (-25)] w fun e w' => e = .returned (.int .u32 (Sha.U (Sha.rot x 25))) ∧ w' = w := by
  have h31 := and31_25
  go_enter Tryd.func54, Tryd.ntmps54
  go_wp2
  go_ret
  exact ⟨congrArg (fun z => Ending.returned (.int .u32 z)) (Sha.U_rotl x 25), rfl⟩
set_option maxHeartbeats 400000 in
theorem srot_25 (x : BitVec 32) (w : World) :
    Calls Tryd.prog 53 #[.int .u32 (Sha.U x), .int .i64 25] w fun e w' => e = .returned (.int .u32 (Sha.U (Sha.rot x 25))) ∧ w' = w := by
  go_enter Tryd.func53, Tryd.ntmps53
  go_wp2_with fail
  refine (rotl_25 x _).mono ?_
  rintro e w' ⟨rfl, rfl⟩
  go_wp2
  go_ret
  exact ⟨rfl, rfl⟩
set_option maxHeartbeats 400000 in
theorem rrot_25 (x : BitVec 32) (w : World) :
    Calls Tryd.prog 51 #[.int .u32 (Sha.U x), .int .i64 25] w fun e w' => e = .returned (.int .u32 (Sha.U (Sha.rot x 25))) ∧ ∃ n, w' = w.drewN n := by
  go_enter Tryd.func51, Tryd.ntmps51
  go_wp2
  go_quiet (fail)
  go_wp2
  go_ret
  exact ⟨congrArg (fun z => Ending.returned (.int .u32 z)) (Sha.U_rot x 25), _, rfl⟩

end Go.Proofs.YtjdmpanemdhbbaaDoor
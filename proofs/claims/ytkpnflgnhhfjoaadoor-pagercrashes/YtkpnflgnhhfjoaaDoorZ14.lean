/- The check sums over any slice of bytes; bytes written and read as numbers. -/
import Derived.Test.YtkpnflgnhhfjoaaDoorZ13
namespace Go.Proofs.YtkpnflgnhhfjoaaDoor.Fr
open Go.RowKit

set_option maxHeartbeats 400000 in
theorem more_none (s : BitVec 32) (p : Option Addr) (cap : Nat) (w : World) :
    Calls Tryd.prog 80 #[.int .u32 (Crc.U s), .slice p 0 cap] w fun e w' => e = .returned (.int .u32 (Crc.U s)) ∧ w' = w := by
  go_enter Tryd.func80, Tryd.ntmps80
  go_wp2
  go_loop [5, 7, 12] (fun r c i => i = .int .i64 0 ∧ r = .int .u32 (bits .xor .u32 IntKind.u32.max (Crc.U s))) (fun _ _ i => 0)
  case atStart => exact ⟨rfl, rfl⟩
  case round =>
    obtain ⟨rfl, rfl⟩ := hrel
    go_wp2
    go_ret
    exact ⟨by rw [Crc.U_not, Crc.U_not, BitVec.not_not]; rfl, rfl⟩

theorem U_crc (cs : List Nat) : Crc.U (Crc.more 0#32 cs) = (Frame.crc cs : Int) := rfl
theorem more_any0 (v : Value) (cs : List Nat) (w : World) (h : SliceIn w v cs) (ht : TabIn w) :
    Calls Tryd.prog 80 #[.int .u32 0, v] w fun e w' => e = .returned (.int .u32 (Frame.crc cs : Nat)) ∧ w = w' := by
  rw [show (0 : Int) = Crc.U 0#32 by decide, ← U_crc]
  obtain ⟨p, cap, rfl, hl, h⟩ := h
  rcases h with rfl | ⟨b, off, rfl, h⟩
  · rw [Crc.more_nil]
    exact (more_none 0#32 p cap w).mono fun e w' h => ⟨h.1, h.2.symm⟩
  · exact (more_some 0#32 b off cap cs w hl.2 h ht).mono fun e w' h => ⟨h.1, h.2.symm⟩
/-- crc.Sum, the document's own Sum -/
theorem sum_any (v : Value) (cs : List Nat) (w : World) (h : SliceIn w v cs) (ht : TabIn w) :
    Calls Tryd.prog 72 #[v] w fun e w' => e = .returned (.int .u32 (Frame.crc cs : Nat)) ∧ w = w' := by
  go_enter Tryd.func72, Tryd.ntmps72
  go_wp2_with fail
  refine (more_any0 v cs _ h ht).mono ?_
  rintro e w' ⟨rfl, rfl⟩
  go_wp2
  go_ret
  exact ⟨rfl, rfl⟩
/-! lay -/
end Go.Proofs.YtkpnflgnhhfjoaaDoor.Fr

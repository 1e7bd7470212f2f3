/- The document's constant(t) and word(b, at). -/
import Derived.Test.YtjdmpanemdhbbaaDoorRot
namespace Go.Proofs.YtjdmpanemdhbbaaDoor
open Go.RowKit

theorem kAt_U : ∀ t : Fin 64, ((Sha.kNat.getD t.val 0 : Nat) : Int) = Sha.U (Sha.kAt t.val) := by decide +kernel
theorem kVal (t : Nat) (ht : t < (Sha.kNat.map fun n => Value.int .u32 (n : Nat)).length) : (Sha.kNat.map fun n => Value.int .u32 (n : Nat))[t] = .int .u32 (Sha.U (Sha.kAt t)) := by
  have ht' : t < 64 := by simpa [Sha.kNat] using ht
  rw [← kAt_U ⟨t, ht'⟩, List.getElem_map]
  have : t < Sha.kNat.length := by simpa [Sha.kNat] using ht'
  simp [this]
set_option maxHeartbeats 400000 in
theorem const_any (t : Nat) (ht : t < 64) (w : World) :
    Calls Tryd.prog 52 #[.int .i64 (t : Int)] w fun e w' => e = .returned (.int .u32 (Sha.U (Sha.kAt t))) ∧ Below w.heap.size w w' := by
  go_enter Tryd.func52, Tryd.ntmps52
  go_wp2
  go_ret
  exact ⟨congrArg Ending.returned (kVal t (by simpa [Sha.kNat] using ht)), (Below.refl _ _).alloc (Nat.le_refl _) _⟩

theorem word_U (c0 c1 c2 c3 : Nat) : bits BinOp.or IntKind.u32 (bits BinOp.or IntKind.u32 (bits BinOp.or IntKind.u32 ((c0 : Int) % 4294967296 * 16777216 % 4294967296) ((c1 : Int) % 4294967296 * 65536 % 4294967296)) ((c2 : Int) % 4294967296 * 256 % 4294967296)) ((c3 : Int) % 4294967296) = Sha.U (Sha.word4 c0 c1 c2 c3) := by
  have e24 := fun x : BitVec 32 => Sha.U_shl x 24
  have e16 := fun x : BitVec 32 => Sha.U_shl x 16
  have e8 := fun x : BitVec 32 => Sha.U_shl x 8
  rw [Sha.U_byte c0, Sha.U_byte c1, Sha.U_byte c2, Sha.U_byte c3]
  rw [show (16777216 : Int) = 2 ^ 24 from by decide, show (65536 : Int) = 2 ^ 16 from by decide, show (256 : Int) = 2 ^ 8 from by decide, e24, e16, e8, Sha.U_or, Sha.U_or, Sha.U_or]
  rfl
set_option maxHeartbeats 400000 in
theorem word_cells (t : Nat) (ht : t < 16) (w : World) (b off cap : Nat) (c0 c1 c2 c3 : Nat) (h0 : w.cell? ⟨b, off + 4 * t, none⟩ = some (.int .u8 c0)) (h1 : w.cell? ⟨b, off + (4 * t + 1), none⟩ = some (.int .u8 c1)) (h2 : w.cell? ⟨b, off + (4 * t + 2), none⟩ = some (.int .u8 c2)) (h3 : w.cell? ⟨b, off + (4 * t + 3), none⟩ = some (.int .u8 c3)) :
    Calls Tryd.prog 50 #[.slice (some ⟨b, off, none⟩) 64 cap, .int .i64 (4 * t : Int)] w fun e w' => e = .returned (.int .u32 (Sha.U (Sha.word4 c0 c1 c2 c3))) ∧ ∃ n, w' = w.drewN n := by
  go_enter Tryd.func50, Tryd.ntmps50
  go_wp2
  go_quiet (fail)
  go_wp2
  go_ret
  exact ⟨congrArg (fun z => Ending.returned (.int .u32 z)) (word_U c0 c1 c2 c3), _, rfl⟩
end Go.Proofs.YtjdmpanemdhbbaaDoor

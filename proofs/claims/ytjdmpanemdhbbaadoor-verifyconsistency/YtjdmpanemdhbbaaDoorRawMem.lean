/- The struct of a proof in memory. -/
import Derived.Test.YtjdmpanemdhbbaaDoorTwoMem
import Derived.Test.YtjdmpanemdhbbaaDoorOpenH
namespace Go.Proofs.YtjdmpanemdhbbaaDoor
open Go.RowKit

def RawIs (w : World) (g : Nat) (m n : Int) (a b : List Nat) (v : Value) : Prop := (IsH a ∧ IsH b) ∧ Row w g 26 (rawCells m n a b v)
theorem RawIs.next {w w' : World} {g : Nat} {m n : Int} {a b : List Nat} {v : Value} (h : RawIs w g m n a b v) (hb : Below w.heap.size w w') : RawIs w' g m n a b v := ⟨h.1, h.2.later hb h.2.lt⟩
theorem f26_0 : FieldAt 26 0 0 := fun w g off => by kernel_rfl
theorem f26_1 : FieldAt 26 1 1 := fun w g off => by kernel_rfl
theorem f26_2 : FieldAt 26 2 2 := fun w g off => by kernel_rfl
theorem f26_3 : FieldAt 26 3 34 := fun w g off => by kernel_rfl
theorem f26_4 : FieldAt 26 4 66 := fun w g off => by kernel_rfl
section
variable {w : World} {g : Nat} {m n : Int} {a b : List Nat} {v : Value}
theorem RawIs.fm (h : RawIs w g m n a b v) : w.cell? ⟨g, 0 + 0, none⟩ = some (.int .i64 m) := h.2.at 0 _ rfl
theorem RawIs.fn (h : RawIs w g m n a b v) : w.cell? ⟨g, 0 + 1, none⟩ = some (.int .i64 n) := h.2.at 1 _ rfl
theorem raw_a (ha : IsH a) (j : Nat) (hj : j < 32) : (rawCells m n a b v)[0 + 2 + j]? = some (.int .u8 (a.getD j 0 : Nat)) := by
  unfold rawCells
  rw [show 0 + 2 + j = j + 1 + 1 by omega, List.getElem?_cons_succ, List.getElem?_cons_succ, List.getElem?_append_left (by rw [bcells_length, ha.1]; exact hj)]
  exact bcells_at a j (by rw [ha.1]; exact hj)
theorem raw_b (ha : IsH a) (hb : IsH b) (j : Nat) (hj : j < 32) : (rawCells m n a b v)[0 + 34 + j]? = some (.int .u8 (b.getD j 0 : Nat)) := by
  unfold rawCells
  rw [show 0 + 34 + j = 32 + j + 1 + 1 by omega, List.getElem?_cons_succ, List.getElem?_cons_succ, List.getElem?_append_right (by rw [bcells_length, ha.1]; omega), bcells_length, ha.1, show 32 + j - 32 = j by omega, List.getElem?_append_left (by rw [bcells_length, hb.1]; exact hj)]
  exact bcells_at b j (by rw [hb.1]; exact hj)
theorem raw_v (ha : IsH a) (hb : IsH b) : (rawCells m n a b v)[0 + 66]? = some v := by
  unfold rawCells
  rw [show 0 + 66 = 32 + (32 + 0) + 1 + 1 from rfl, List.getElem?_cons_succ, List.getElem?_cons_succ, List.getElem?_append_right (by rw [bcells_length, ha.1]; omega), bcells_length, ha.1, show 32 + (32 + 0) - 32 = 32 from rfl, List.getElem?_append_right (by rw [bcells_length, hb.1]; omega), bcells_length, hb.1]
  rfl
theorem RawIs.fa (h : RawIs w g m n a b v) : HAt w (.pointer (some ⟨g, 0 + 2, none⟩)) a := ⟨h.1.1, g, 0 + 2, rfl, fun j hj => h.2.at _ _ (raw_a h.1.1 j hj)⟩
theorem RawIs.fb (h : RawIs w g m n a b v) : HAt w (.pointer (some ⟨g, 0 + 34, none⟩)) b := ⟨h.1.2, g, 0 + 34, rfl, fun j hj => h.2.at _ _ (raw_b h.1.1 h.1.2 j hj)⟩
theorem RawIs.fv (h : RawIs w g m n a b v) : w.cell? ⟨g, 0 + 66, none⟩ = some v := h.2.at _ _ (raw_v h.1.1 h.1.2)
end
end Go.Proofs.YtjdmpanemdhbbaaDoor

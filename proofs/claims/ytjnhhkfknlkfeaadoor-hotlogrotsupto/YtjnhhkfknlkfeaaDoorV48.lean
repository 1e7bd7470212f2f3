/- Layer 14: all that is in use is read as it was. Layer 14: the document's Drop. Layer 14: the stand gives a place up. -/
import Derived.Test.YtjnhhkfknlkfeaaDoorV47
namespace Go.Proofs.YtjnhhkfknlkfeaaDoor
open Go.RowKit Go.Maps


/-- bytes that may be spoilt: they lie in a block of their own, B or later -/
def Spl (B : Nat) (W : World) (v : Value) (L : Nat) : Prop := (∃ p c, v = .slice p L c) ∧ (0 < L → ∃ g off cap cur, v = .slice (some ⟨g, off, none⟩) L cap ∧ B ≤ g ∧ Row W g 5 cur ∧ off + L ≤ cur.length)
theorem row57 {W : World} {v : Value} {k : Nat} {bl : List Value} (h : W.ownsRow 0 28 1 v k bl) (i : Nat) (hi : i < k) : ∃ b, (∀ w', (Instr.indexAt 57 v (.int .i64 (i : Nat))).run Tryd.prog w' = .ok (.pointer (some ⟨b, i * 1, none⟩)) w') ∧ ∀ W' : World, W'.ownsRow 0 28 1 v k bl → W'.cell? ⟨b, i * 1, none⟩ = some (bl.getD i default) := by
  obtain ⟨b, h1, h2, _⟩ := own_index h und57 sz28 i hi
  refine ⟨b, h2, fun W' h' => ?_⟩
  obtain ⟨b', e, _, h3⟩ := own_index h' und57 sz28 i hi
  rw [h1] at e
  injection e with e
  subst e
  have hl : bl.length = k := by have := h'.1; omega
  have h4 := h3 0 (by decide)
  rw [Nat.add_zero] at h4
  rw [h4, Nat.mul_one, List.getD_eq_getElem?_getD, List.getElem?_eq_getElem (by omega), Option.getD_some]
theorem toP_at (us : List (Nat × List Nat)) (i : Nat) (h : i < us.length) : (us.map toP).getD i default = toP (us.getD i default) := by
  simp [List.getD_eq_getElem?_getD, h]
theorem getD_in {α : Type} [Inhabited α] (l : List α) (i : Nat) (h : i < l.length) : l.getD i default ∈ l := by
  rw [List.getD_eq_getElem?_getD, List.getElem?_eq_getElem h, Option.getD_some]
  exact List.getElem_mem h
end Go.Proofs.YtjnhhkfknlkfeaaDoor

namespace Go.Proofs.YtjnhhkfknlkfeaaDoor
open Go.RowKit Go.Maps


/-- a row of slices of bytes -/
def BL (W : World) (v : Value) (l : List Value) : Prop := W.ownsRow 0 28 1 v l.length l
/-- all but one -/
def but {α : Type} (l : List α) (k : Nat) : List α := l.take k ++ l.drop (k + 1)
end Go.Proofs.YtjnhhkfknlkfeaaDoor

namespace Go.Proofs.YtjnhhkfknlkfeaaDoor
open Go.RowKit Go.Maps

end Go.Proofs.YtjnhhkfknlkfeaaDoor

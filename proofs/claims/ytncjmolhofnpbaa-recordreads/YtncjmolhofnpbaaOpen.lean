/- What every law of this seat has in common: slices that come in, the witness's world. -/
import Derived.Test.YtncjmolhofnpbaaR20
import Derived.ProofKit
import Derived.OpenShut
import Derived.ChangeOld
import Derived.Below
import Derived.SizedLaws
import Derived.Deep.DeepHandedRow
import Derived.LaidLaws
namespace Go.Proofs.Ytncjmolhofnpbaa
open Go.ChangeShapes Go.WideShapes Go.ChangeAt Go.RowKit

theorem own : ownKnob Try.prog.godebug = none := by kernel_rfl
theorem laidOut : laidOutB Try.prog = true := by kernel_rfl
theorem cells5 : Try.prog.cellsOf 5 = 1 := by kernel_rfl
theorem cells3 : Try.prog.cellsOf 3 = 1 := by kernel_rfl
theorem getD_lt (l : List Nat) (h : ∀ z ∈ l, z < 256) (j : Nat) : l.getD j 0 < 256 := by
  by_cases hj : j < l.length
  · simpa [hj] using h _ (List.getElem_mem hj)
  · simp [hj]
set_option maxRecDepth 100000 in
/-- A SLICE OF BYTES THAT CAME IN -/
theorem open_bytes {H : Type} {enc : TypeId × Value → H} {W : World} {v : Value} {d : DataW H} {p : List MemPlace} {base : Nat}
    (hv : Value.okWide Try.prog W .any base 28 v) (h : DataW.Trod enc Try.prog W 0 (fun _ => true) true 28 v d p) : ∃ cs, SliceIn W v cs ∧ (cs = [] ∨ ∃ elems spare, d = .slice elems spare ∧ elems.length = cs.length) := by
  obtain ⟨a0, len0, cap0, rfl⟩ := okWide_slice Try.underlying28 hv
  obtain ⟨fuel, hf⟩ := h
  rcases open_ints Try.underlying28 Try.underlying5 cells5 hf with ⟨hcs, _⟩ | ⟨x, l, c, zs, hcs, _, hl, hm, hz, hx, hcell, hwz⟩
  · simp [Value.cells] at hcs
    obtain ⟨rfl, rfl, rfl⟩ := hcs
    exact ⟨[], ⟨none, 0, rfl, by decide, Or.inl rfl⟩, Or.inl rfl⟩
  · simp [Value.cells] at hcs
    obtain ⟨rfl, rfl, rfl⟩ := hcs
    have hz' : zs.length = cap0 := by simpa using hz
    unfold maxLen at hm
    have hlen : ((zs.take len0).map Int.toNat).length = len0 := by simp; omega
    have hbd : ∀ z ∈ zs, 0 ≤ z ∧ z ≤ 255 := fun z hz => by
      have := hwz z hz
      simpa [Lit.wf, IntKind.min, IntKind.max, IntKind.signed, IntKind.bits] using this
    by_cases h0 : len0 = 0
    · subst h0
      exact ⟨[], ⟨some x, cap0, rfl, by simp, Or.inl rfl⟩, Or.inl rfl⟩
    · obtain ⟨b, off, rfl, hc⟩ := ints_at hcell (by omega)
      refine ⟨(zs.take len0).map Int.toNat, ⟨some ⟨b, off, none⟩, cap0, by rw [hlen], by omega, Or.inr ⟨b, off, rfl, fun j hj => ?_, fun j => ?_⟩⟩, Or.inr ⟨_, _, congrArg Prod.fst hx, by simp [lits]⟩⟩
      · rw [hlen] at hj
        have h1 := hc j (by omega)
        rw [h1]
        have hj' : j < zs.length := by omega
        have h2 := hbd zs[j] (List.getElem_mem hj')
        simp [hj, hj', Int.toNat_of_nonneg h2.1]
      · apply getD_lt
        intro z hz
        obtain ⟨y, hy, rfl⟩ := List.mem_map.1 hz
        have := hbd y (List.mem_of_mem_take hy)
        omega

theorem bytes5 : Try.prog.bytesOf 5 = 1 := by kernel_rfl

/-- WHAT THE FORM's OWN REACH GIVES of a slice of bytes -/
theorem reach {H : Type} {ts : List TypeId} {ds : List (DataW H)} (h : (DataW.weightsEach Try.prog ts ds).all (· ≤ reachBytes) = true) {j : Nat} {d : DataW H} {cs : List Nat} (ht : ts[j]? = some 28) (hd : ds[j]? = some d)
    (hc : cs = [] ∨ ∃ elems spare, d = .slice elems spare ∧ elems.length = cs.length) : cs.length ≤ 140737488351232 := by
  rcases hc with rfl | ⟨elems, spare, rfl, hl⟩
  · simp
  · have := sized_slice h ht hd Try.underlying28
    rw [bytes5] at this
    unfold reachBytes at this
    omega

theorem bulk_length {H : Type} (l : List (DataW H)) : l.length ≤ Rows.uptoBulkAll l := by
  induction l with
  | nil => simp [Rows.uptoBulkAll]
  | cons x r ih =>
    have h1 : 1 ≤ Rows.uptoBulk x := by
      cases x with
      | lit l => cases l <;> simp [Rows.uptoBulk]
      | nil => simp [Rows.uptoBulk]
      | ptr d => simp [Rows.uptoBulk]
      | slice elems spare => simp [Rows.uptoBulk]
      | agg parts => simp [Rows.uptoBulk]
      | iface t d => simp [Rows.uptoBulk]
      | map entries => simp [Rows.uptoBulk]
      | held h => simp [Rows.uptoBulk]
    simp only [Rows.uptoBulkAll, List.length_cons]
    omega
/-- WHAT THE SECOND FORM's BOUND GIVES of a slice of bytes -/
theorem bulk {H : Type} {d : DataW H} {cs : List Nat} (hc : cs = [] ∨ ∃ elems spare, d = .slice elems spare ∧ elems.length = cs.length) : cs.length ≤ Rows.uptoBulk d := by
  rcases hc with rfl | ⟨elems, spare, rfl, hl⟩
  · simp
  · have := bulk_length elems
    simp only [Rows.uptoBulk]
    omega

theorem bytes3 : Try.prog.bytesOf 3 = 8 := by kernel_rfl
def laidOn (W : World) : World := W
end Go.Proofs.Ytncjmolhofnpbaa

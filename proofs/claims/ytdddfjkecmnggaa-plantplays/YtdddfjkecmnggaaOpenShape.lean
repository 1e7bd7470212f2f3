/- A shape that comes in: a struct of two slices of numbers. -/
import Derived.Test.YtdddfjkecmnggaaOpen
import Derived.Lib.SmallJoins
namespace Go.Proofs.Ytdddfjkecmnggaa
open Go.ChangeShapes Go.WideShapes Go.ChangeAt Go.RowKit

theorem cells24 : Try.prog.cellsOf 24 = 2 := by kernel_rfl
set_option maxRecDepth 100000 in
/-- A SLICE OF NUMBERS INSIDE IT -/
theorem open_field {H : Type} {enc : TypeId × Value → H} {W : World} {v : Value} {y : DataW H × List MemPlace} {n : Nat}
    (hf : DataW.trod enc Try.prog W 0 (fun _ => true) true n 22 [v] = some y) : ∃ l : List Int, (l.length < 4611686018427387904 → IntsIn W v l) ∧ (l = [] ∨ ∃ elems spare, y.1 = .slice elems spare ∧ elems.length = l.length) := by
  rcases open_ints Try.underlying22 Try.underlying3 cells3 hf with ⟨hcs, _⟩ | ⟨x, l, c, zs, hcs, _, hl, hm, hz, hx, hcell, hwz⟩
  · simp at hcs
    subst hcs
    exact ⟨[], fun _ => ⟨none, 0, rfl, by decide, by decide, Or.inl rfl⟩, Or.inl rfl⟩
  · simp at hcs
    subst hcs
    have hz' : zs.length = c := by simpa using hz
    have hlen : (zs.take l).length = l := by simp; omega
    by_cases h0 : l = 0
    · subst h0
      exact ⟨[], fun _ => ⟨some x, c, rfl, by simp, by decide, Or.inl rfl⟩, Or.inl rfl⟩
    · obtain ⟨b, off, rfl, hc⟩ := ints_at hcell (by omega)
      refine ⟨zs.take l, fun h62 => ⟨some ⟨b, off, none⟩, c, by rw [hlen], by omega, h62, Or.inr ⟨b, off, rfl, fun j hj => ?_⟩⟩, Or.inr ⟨_, _, congrArg Prod.fst hx, by simp [lits]⟩⟩
      rw [hlen] at hj
      have h1 := hc j (by omega)
      rw [h1]
      have hj' : j < zs.length := by omega
      simp [hj, hj']
theorem und24 : ∃ f0 f1 : Field, Try.prog.underlying 24 = some (.struct #[f0, f1]) ∧ f0.type = 22 ∧ f1.type = 22 := ⟨_, _, Try.underlying24, rfl, rfl⟩
/-- WHAT THE FORM's OWN REACH GIVES of its two slices -/
theorem reach_shape {H : Type} {ts : List TypeId} {ds : List (DataW H)} (h : (DataW.weightsEach Try.prog ts ds).all (· ≤ reachBytes) = true) {j : Nat} {d0 d1 : DataW H} (ht : ts[j]? = some 24) (hd : ds[j]? = some (.agg [d0, d1])) {l0 l1 : List Int}
    (h0 : l0 = [] ∨ ∃ elems spare, d0 = .slice elems spare ∧ elems.length = l0.length) (h1 : l1 = [] ∨ ∃ elems spare, d1 = .slice elems spare ∧ elems.length = l1.length) : l0.length ≤ 17592186043904 ∧ l1.length ≤ 17592186043904 := by
  have hin : ∀ x ∈ DataW.weightsEach Try.prog [22, 22] [d0, d1], x ≤ reachBytes := by
    intro x hx
    have hm : x ∈ DataW.weights Try.prog 24 (.agg [d0, d1] : DataW H) := by
      simp only [DataW.weights, Try.underlying24]
      exact hx
    have := List.all_eq_true.1 h _ (DataW.weights_mem_each ht hd x hm)
    simpa using this
  have hall : (DataW.weightsEach Try.prog [22, 22] [d0, d1]).all (· ≤ reachBytes) = true := List.all_eq_true.2 fun x hx => by simpa using hin x hx
  exact ⟨reach_nums hall (j := 0) rfl rfl h0, reach_nums hall (j := 1) rfl rfl h1⟩
end Go.Proofs.Ytdddfjkecmnggaa

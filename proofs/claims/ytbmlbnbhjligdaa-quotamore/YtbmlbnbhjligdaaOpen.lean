/- What comes in: shapes, configs, rows of numbers. -/
import Derived.Test.YtbmlbnbhjligdaaI12
import Derived.Test.YtbmlbnbhjligdaaRows
import Derived.Test.YtbmlbnbhjligdaaChecked
import Derived.ProofKit
import Derived.OpenShut
import Derived.ChangeOld
import Derived.Below
import Derived.SizedLaws
import Derived.Deep.DeepHandedRow
import Derived.Lib.SmallJoins
namespace Go.Proofs.Ytbmlbnbhjligdaa
open Go.ChangeShapes Go.WideShapes Go.ChangeAt Go.RowKit

theorem own : ownKnob Try.prog.godebug = none := by kernel_rfl
theorem laidOut : laidOutB Try.prog = true := by kernel_rfl
theorem cells3 : Try.prog.cellsOf 3 = 1 := by kernel_rfl
theorem cells24 : Try.prog.cellsOf 24 = 2 := by kernel_rfl
theorem cells26 : Try.prog.cellsOf 26 = 1 := by kernel_rfl
theorem bytes3 : Try.prog.bytesOf 3 = 8 := by kernel_rfl
set_option maxRecDepth 100000 in
/-- a slice of numbers: what it holds -/
theorem open_field {H : Type} {enc : TypeId × Value → H} {W : World} {v : Value} {y : DataW H × List MemPlace} {n : Nat}
    (hf : DataW.trod enc Try.prog W 0 (fun _ => true) true n 22 [v] = some y) : ∃ l : List Int, (l.length < 4611686018427387904 → IntsIn W v l) ∧ (l = [] ∨ ∃ elems spare, y.1 = .slice elems spare ∧ elems.length = l.length) := by
  rcases open_ints Try.underlying22 Try.underlying3 cells3 hf with ⟨hcs, _⟩ | ⟨x, l, c, zs, hcs, _, hl, hm, hz, hx, hcell, hwz⟩
  · simp at hcs
    subst hcs
    exact ⟨[], fun _ => IntsIn.nil W, Or.inl rfl⟩
  · simp at hcs
    subst hcs
    have hz' : zs.length = c := by simpa using hz
    have hlen : (zs.take l).length = l := by simp; omega
    have hbd : ∀ z ∈ zs.take l, -9223372036854775808 ≤ z ∧ z ≤ 9223372036854775807 := fun z hz => by
      have := hwz z (List.mem_of_mem_take hz)
      simpa [Lit.wf, IntKind.min, IntKind.max, IntKind.signed, IntKind.bits] using this
    by_cases h0 : l = 0
    · subst h0
      exact ⟨[], fun _ => ⟨some x, c, rfl, by simp, by decide, Or.inl rfl, fun z hz => by cases hz⟩, Or.inl rfl⟩
    · obtain ⟨b, off, rfl, hc⟩ := ints_at hcell (by omega)
      refine ⟨zs.take l, fun h62 => ⟨some ⟨b, off, none⟩, c, by rw [hlen], by omega, h62, Or.inr ⟨b, off, rfl, fun j hj => ?_⟩, hbd⟩, Or.inr ⟨_, _, congrArg Prod.fst hx, by simp [lits]⟩⟩
      rw [hlen] at hj
      have h1 := hc j (by omega)
      rw [h1]
      have hj' : j < zs.length := by omega
      simp [nth, hj, hj']
/-- a slice of numbers that came in -/
theorem open_nums {H : Type} {enc : TypeId × Value → H} {W : World} {v : Value} {d : DataW H} {p : List MemPlace} {base : Nat}
    (hv : Value.okWide Try.prog W .any base 22 v) (h : DataW.Trod enc Try.prog W 0 (fun _ => true) true 22 v d p) : ∃ l : List Int, (l.length < 4611686018427387904 → IntsIn W v l) ∧ (l = [] ∨ ∃ elems spare, d = .slice elems spare ∧ elems.length = l.length) ∧ True := by
  obtain ⟨a0, len0, cap0, rfl⟩ := okWide_slice Try.underlying22 hv
  obtain ⟨fuel, hf⟩ := h
  obtain ⟨l, h1, h2⟩ := open_field (v := .slice a0 len0 cap0) hf
  exact ⟨l, h1, h2, trivial⟩
/-- a config that came in -/
theorem open_cfg {H : Type} {enc : TypeId × Value → H} {W : World} {v : Value} {d : DataW H} {p : List MemPlace} {base : Nat}
    (hv : Value.okWide Try.prog W .any base 26 v) (h : DataW.Trod enc Try.prog W 0 (fun _ => true) true 26 v d p) : ∃ z : Int, v = .agg #[.int .i64 z] := by
  obtain ⟨cs, rfl, hsz⟩ := okWide_struct Try.underlying26 hv
  obtain ⟨fuel, hf⟩ := h
  obtain ⟨y0, n, _, hl, h0⟩ := trod_struct1 Try.underlying26 hf
  obtain ⟨z, e0, _, _⟩ := DataW.trod_int Try.underlying3 h0
  refine ⟨z, ?_⟩
  rw [cells26] at hsz
  obtain ⟨l⟩ := cs
  match l, hsz with
  | [c], _ =>
    have e : c = .int .i64 z := by simpa [Value.cells, cells3] using e0
    rw [e]
theorem reach_nums {H : Type} {ts : List TypeId} {ds : List (DataW H)} (h : (DataW.weightsEach Try.prog ts ds).all (· ≤ reachBytes) = true) {j : Nat} {d : DataW H} {cs : List Int} (ht : ts[j]? = some 22) (hd : ds[j]? = some d)
    (hc : cs = [] ∨ ∃ elems spare, d = .slice elems spare ∧ elems.length = cs.length) : cs.length ≤ 17592186043904 := by
  rcases hc with rfl | ⟨elems, spare, rfl, hl⟩
  · simp
  · have := sized_slice h ht hd Try.underlying22
    rw [bytes3] at this
    unfold reachBytes at this
    omega
/-- WHAT THE FORM's OWN REACH GIVES of a shape's two slices -/
theorem reach_shape {H : Type} {ts : List TypeId} {ds : List (DataW H)} (h : (DataW.weightsEach Try.prog ts ds).all (· ≤ reachBytes) = true) {j : Nat} {d0 d1 : DataW H} (ht : ts[j]? = some 24) (hd : ds[j]? = some (.agg [d0, d1])) {l0 l1 : List Int}
    (h0 : l0 = [] ∨ ∃ elems spare, d0 = .slice elems spare ∧ elems.length = l0.length) (h1 : l1 = [] ∨ ∃ elems spare, d1 = .slice elems spare ∧ elems.length = l1.length) : l0.length ≤ 17592186043904 ∧ l1.length ≤ 17592186043904 := by
  have hin : ∀ x ∈ DataW.weightsEach Try.prog [22, 22] [d0, d1], x ≤ reachBytes := by
    intro x hx
    have hm : x ∈ DataW.weights Try.prog 24 (.agg [d0, d1] : DataW H) := by
      simp only [DataW.weights, Try.underlying24]
      exact hx
    have := List.all_eq_true.1 h _ (DataW.weights_mem_each ht hd x hm)
    simpa using this
  have hall : (DataW.weightsEach Try.prog [22, 22] [d0, d1]).all (· ≤ reachBytes) = true := List.all_eq_true.2 fun x hx => by simpa using hin x hx
  exact ⟨reach_nums hall (j := 0) rfl rfl h0, reach_nums hall (j := 1) rfl rfl h1⟩
def laidOn (W : World) : World := W
end Go.Proofs.Ytbmlbnbhjligdaa

/- Layer 14: places that come in. -/
import Derived.Test.YthgidfoidbgnaaaDoorE45
import Derived.Test.YthgidfoidbgnaaaDoorE43
namespace Go.Proofs.YthgidfoidbgnaaaDoor
open Go.ChangeShapes Go.WideShapes Go.ChangeAt Go.RowKit Go.Deep

theorem cells30p : Tryd.prog.cellsOf 30 = 4 := by kernel_rfl
theorem cells4p : Tryd.prog.cellsOf 4 = 1 := by kernel_rfl
theorem und30p : ∃ f0 f1 f2 f3 : Field, Tryd.prog.underlying 30 = some (.struct #[f0, f1, f2, f3]) ∧ (f0.type = 3 ∧ f0.offset = 0) ∧ (f1.type = 3 ∧ f1.offset = 1) ∧ (f2.type = 3 ∧ f2.offset = 2) ∧ (f3.type = 4 ∧ f3.offset = 3) :=
 ⟨_, _, _, _, Tryd.underlying30, ⟨rfl, rfl⟩, ⟨rfl, rfl⟩, ⟨rfl, rfl⟩, rfl, rfl⟩
set_option maxRecDepth 100000 in
/-- one place, from its four cells -/
theorem open_place {H : Type} {enc : TypeId × Value → H} {W : World} {cs : List Value} {y : DataW H × List MemPlace} {n : Nat} (hf : DataW.trod enc Tryd.prog W 0 (fun _ => true) true n 30 cs = some y) : ∃ x : Pq, cs = x.cells ∧ x.ok := by
 obtain ⟨f0, f1, f2, f3, hu, ⟨t0, o0⟩, ⟨t1, o1⟩, ⟨t2, o2⟩, t3, o3⟩ := und30p
 obtain ⟨xs, m, _, hxy, hl, hxl, hx⟩ := DataW.trod_struct hu hf
 rw [cells30p] at hl
 match cs, hl, xs, hxl with
 | [v0, v1, v2, v3], _, [y0, y1, y2, y3], _ =>
  have g0 := hx 0 f0 rfl
  have g1 := hx 1 f1 rfl
  have g2 := hx 2 f2 rfl
  have g3 := hx 3 f3 rfl
  simp only [t0, t1, t2, t3, o0, o1, o2, o3, cells3, cells4p] at g0 g1 g2 g3
  simp at g0 g1 g2 g3
  obtain ⟨z0, rfl, i0⟩ := open_i64 g0
  obtain ⟨z1, rfl, i1⟩ := open_i64 g1
  obtain ⟨z2, rfl, i2⟩ := open_i64 g2
  obtain ⟨b, hb, _⟩ := DataW.trod_bool Tryd.underlying4 g3
  simp at hb
  subst hb
  exact ⟨⟨z0, z1, z2, b⟩, rfl, i0, i1, i2⟩
end Go.Proofs.YthgidfoidbgnaaaDoor

/- The calls that look at a plant or at a device, and the step. -/
import Derived.Test.YtgkmegcejekbcaaRep
import Derived.WalkKit
import Derived.WalkSpells
import Derived.WalkLawsBesides
import Derived.BigQuiet
import Derived.Deep.QuietTactic
import Derived.Test.YtgkmegcejekbcaaHeadOne
namespace Go.Proofs.Ytgkmegcejekbcaa
open Go.RowKit Go.Maps

abbrev ptr (g : Nat) : Value := .pointer (some ⟨g, 0, none⟩)

theorem on_cells (w : World) (g : Nat) (b : Bool) (c1 : w.cell? ⟨g, 1, none⟩ = some (.bool b)) : Calls Try.prog 35 #[ptr g] w fun e w' => e = .returned (.bool b) ∧ w' = w := by
  go_enter Try.func35, Try.ntmps35
  go_wp2
  go_ret
  exact ⟨rfl, rfl⟩
theorem steps_cells (w : World) (g : Nat) (n : Int) (c1 : w.cell? ⟨g, 3, none⟩ = some (.int .i64 n)) : Calls Try.prog 34 #[ptr g] w fun e w' => e = .returned (.int .i64 n) ∧ w' = w := by
  go_enter Try.func34, Try.ntmps34
  go_wp2
  go_ret
  exact ⟨rfl, rfl⟩
theorem now_cells (w : World) (g : Nat) (n : Int) (c1 : w.cell? ⟨g, 4, none⟩ = some (.int .i64 n)) : Calls Try.prog 57 #[ptr g] w fun e w' => e = .returned (.int .i64 n) ∧ w' = w := by
  go_enter Try.func57, Try.ntmps57
  go_wp2
  go_ret
  exact ⟨rfl, rfl⟩
theorem device_in (w : World) (g db n cap gi i : Nat) (c0 : w.cell? ⟨g, 0, none⟩ = some (.slice (some ⟨db, 0, none⟩) n cap)) (hi : i < n) (ci : w.cell? ⟨db, i, none⟩ = some (ptr gi)) :
    Calls Try.prog 41 #[ptr g, .int .i64 (i : Int)] w fun e w' => e = .returned (ptr gi) ∧ w' = w := by
  have h1 : decide ((i : Int) < 0) = false := by simp
  have h2 : decide ((n : Int) ≤ (i : Int)) = false := by simp; omega
  go_enter Try.func41, Try.ntmps41
  go_wp2
  go_ret
  exact ⟨rfl, rfl⟩
theorem device_out (w : World) (g db n cap : Nat) (d : Int) (c0 : w.cell? ⟨g, 0, none⟩ = some (.slice (some ⟨db, 0, none⟩) n cap)) (hd : d < 0 ∨ (n : Int) ≤ d) :
    Calls Try.prog 41 #[ptr g, .int .i64 d] w fun e w' => e = .returned (.pointer none) ∧ w' = w := by
  by_cases h0 : d < 0
  · have h1 : decide (d < 0) = true := by simpa using h0
    go_enter Try.func41, Try.ntmps41
    go_wp2
    go_ret
    exact ⟨rfl, rfl⟩
  · have h1 : decide (d < 0) = false := by simpa using h0
    have h2 : decide ((n : Int) ≤ d) = true := by simp; omega
    go_enter Try.func41, Try.ntmps41
    go_wp2
    go_ret
    exact ⟨rfl, rfl⟩
theorem step_off (w : World) (g : Nat) (c2 : w.cell? ⟨g, 2, none⟩ = some (.int .i64 0)) (f : ∀ i, w.frozen? ⟨g, i, none⟩ = false) (x : Value) (c1 : w.cell? ⟨g, 1, none⟩ = some x) :
    Calls Try.prog 42 #[ptr g] w fun e w' => e = .returned (.bool false) ∧ w' = (w.setCell ⟨g, 1, none⟩ (.bool false)).setCell ⟨g, 2, none⟩ (.int .i64 (-1)) := by
  go_enter Try.func42, Try.ntmps42
  go_wp2
  go_ret
  exact ⟨rfl, rfl⟩
theorem step_fuse (w : World) (g : Nat) (fu st : Int) (c2 : w.cell? ⟨g, 2, none⟩ = some (.int .i64 fu)) (c3 : w.cell? ⟨g, 3, none⟩ = some (.int .i64 st)) (f : ∀ i, w.frozen? ⟨g, i, none⟩ = false) (h0 : 0 < fu) (h1 : fu ≤ 9223372036854775807) (h2 : 0 ≤ st) (h3 : st < 4611686018427387904) :
    Calls Try.prog 42 #[ptr g] w fun e w' => e = .returned (.bool true) ∧ w' = (w.setCell ⟨g, 2, none⟩ (.int .i64 (fu - 1))).setCell ⟨g, 3, none⟩ (.int .i64 (st + 1)) := by
  have e1 : (fu == 0) = false := by simp; omega
  have e2 : decide (0 < fu) = true := by simpa using h0
  go_enter Try.func42, Try.ntmps42
  go_wp2
  go_ret
  exact ⟨rfl, rfl⟩
theorem step_none (w : World) (g : Nat) (fu st : Int) (c2 : w.cell? ⟨g, 2, none⟩ = some (.int .i64 fu)) (c3 : w.cell? ⟨g, 3, none⟩ = some (.int .i64 st)) (f : ∀ i, w.frozen? ⟨g, i, none⟩ = false) (h0 : fu < 0) (h2 : 0 ≤ st) (h3 : st < 4611686018427387904) :
    Calls Try.prog 42 #[ptr g] w fun e w' => e = .returned (.bool true) ∧ w' = w.setCell ⟨g, 3, none⟩ (.int .i64 (st + 1)) := by
  have e1 : (fu == 0) = false := by simp; omega
  have e2 : decide (0 < fu) = false := by simp; omega
  go_enter Try.func42, Try.ntmps42
  go_wp2
  go_ret
  exact ⟨rfl, rfl⟩

section
variable {w : World} {c : Nat → Colour} {t g db cap : Nat} {gs : Nat → Nat} {m : Pl}
theorem PlantAt.c0 (h : PlantAt w c t g db cap gs m) : w.cell? ⟨g, 0, none⟩ = some (.slice (some ⟨db, 0, none⟩) m.n cap) := h.row.at 0 _ rfl
theorem PlantAt.c1 (h : PlantAt w c t g db cap gs m) : w.cell? ⟨g, 1, none⟩ = some (.bool m.on) := h.row.at 1 _ rfl
theorem PlantAt.c2 (h : PlantAt w c t g db cap gs m) : w.cell? ⟨g, 2, none⟩ = some (.int .i64 m.fuse) := h.row.at 2 _ rfl
theorem PlantAt.c3 (h : PlantAt w c t g db cap gs m) : w.cell? ⟨g, 3, none⟩ = some (.int .i64 (m.steps : Nat)) := h.row.at 3 _ rfl
theorem PlantAt.c4 (h : PlantAt w c t g db cap gs m) : w.cell? ⟨g, 4, none⟩ = some (.int .i64 m.clock) := h.row.at 4 _ rfl

/-- a step, as the plant has it -/
theorem step_any (h : PlantAt w c t g db cap gs m) (hst : m.steps < 4611686018427387904) (hf1 : m.fuse ≤ 9223372036854775807) :
    Calls Try.prog 42 #[ptr g] w fun e w' => e = .returned (.bool m.stepOk) ∧ PlantAt w' c t g db cap gs m.step ∧ Ch (· = g) w w' := by
  have fz : ∀ i, w.frozen? ⟨g, i, none⟩ = false := fun i => h.row.frozen i
  have hch : ∀ i v, Ch (· = g) w (w.setCell ⟨g, i, none⟩ v) := fun i v => (Ch.refl (· = g) w).setCell (g := g) (Or.inl rfl) i v
  rcases Int.lt_trichotomy m.fuse 0 with h0 | h0 | h0
  · refine (step_none w g m.fuse _ h.c2 h.c3 fz h0 (by omega) (by omega)).mono ?_
    rintro e w' ⟨rfl, rfl⟩
    have hne : ¬ m.fuse = 0 := by omega
    refine ⟨by simp [Pl.stepOk, hne], h.head m.step ?_ ?_ ?_ (hch _ _) ?_, hch _ _⟩
    · simp [Pl.step, hne]
    · simp [Pl.step, hne]
    · simp [Pl.step, hne]
    · have := h.row.setCell 3 (.int .i64 ((m.steps : Int) + 1))
      have h2 : ¬ 0 < m.fuse := by omega
      simpa [plCells, Pl.step, hne, h2, Pl.n] using this
  · refine (step_off w g (by rw [← h0]; exact h.c2) fz _ h.c1).mono ?_
    rintro e w' ⟨rfl, rfl⟩
    have hc2 := (hch 1 (.bool false)).setCell (g := g) (Or.inl rfl) 2 (.int .i64 (-1))
    refine ⟨by simp [Pl.stepOk, h0], h.head m.step ?_ ?_ ?_ hc2 ?_, hc2⟩
    · simp [Pl.step, h0]
    · simp [Pl.step, h0]
    · simp [Pl.step, h0]
    · have := (h.row.setCell 1 (.bool false)).setCell 2 (.int .i64 (-1))
      simpa [plCells, Pl.step, h0, Pl.n] using this
  · refine (step_fuse w g m.fuse _ h.c2 h.c3 fz h0 hf1 (by omega) (by omega)).mono ?_
    rintro e w' ⟨rfl, rfl⟩
    have hne : ¬ m.fuse = 0 := by omega
    have hc2 := (hch 2 (.int .i64 (m.fuse - 1))).setCell (g := g) (Or.inl rfl) 3 (.int .i64 ((m.steps : Int) + 1))
    refine ⟨by simp [Pl.stepOk, hne], h.head m.step ?_ ?_ ?_ hc2 ?_, hc2⟩
    · simp [Pl.step, hne]
    · simp [Pl.step, hne]
    · simp [Pl.step, hne]
    · have := (h.row.setCell 2 (.int .i64 (m.fuse - 1))).setCell 3 (.int .i64 ((m.steps : Int) + 1))
      simpa [plCells, Pl.step, hne, h0, Pl.n] using this
end
end Go.Proofs.Ytgkmegcejekbcaa

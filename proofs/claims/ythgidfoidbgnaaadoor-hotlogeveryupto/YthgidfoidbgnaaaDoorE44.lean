/- Layer 14: with which places a disk is opened. -/
import Derived.Test.YthgidfoidbgnaaaDoorE43
namespace Go.Proofs.YthgidfoidbgnaaaDoor
open Go.RowKit Go.Maps


theorem plo_pls {W : World} {v : Value} {ps : List Pq} (h : PlO W v ps) (hok : ∀ x ∈ ps, x.ok) (hl : ps.length ≤ 140737488355328) : PlsIn W v ps := by
 rcases h.2 with ⟨rfl, h0⟩ | ⟨g, cap, cur, rfl, _, hg, hcap, _⟩
 ·have : ps = [] := List.length_eq_zero_iff.1 h0
  subst this
  exact plsNil W
 ·refine ⟨some ⟨g, 0, none⟩, cap, rfl, hcap, hl, Or.inr ⟨g, 0, rfl, fun i hi j hj => ?_⟩, hok⟩
  rw [Nat.zero_add, own_cellAt h (i * 4 + j) (by omega), pcl_at ps i j hi hj]
end Go.Proofs.YthgidfoidbgnaaaDoor

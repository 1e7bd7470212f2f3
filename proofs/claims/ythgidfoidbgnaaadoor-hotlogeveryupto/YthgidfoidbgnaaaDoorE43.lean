/- Layer 14: the document's Open. -/
import Derived.Test.YthgidfoidbgnaaaDoorE42
namespace Go.Proofs.YthgidfoidbgnaaaDoor
open Go.RowKit Go.Maps


theorem info28z : (Tryd.prog.info? 28).map (fun i => (i.zero, i.size, i.bytes)) = some (some (.slice none 0 0), 1, 24) := by kernel_rfl
theorem own_ne {W : World} {base e sz n : Nat} {v : Value} {xs : List Value} (h : W.ownsRow base e sz v n xs) {b T : Nat} {cs : List Value} (hb : v.ownBlock = some b) (hr : Row W b T cs) (hT : T ≠ e) : False := by
 rcases h.2 with ⟨rfl, _⟩ | ⟨g, cap, cur, rfl, _, hg, _⟩
 ·cases hb
 ·injection hb with hb
  have hb : g = b := hb
  subst hb
  unfold Row at hr
  rw [hg] at hr
  injection hr with hr
  injection hr with _ hr
  exact hT hr.symm
theorem own_ne2 {W : World} {base e sz n base' e' sz' n' : Nat} {v v' : Value} {xs xs' : List Value} (h : W.ownsRow base e sz v n xs) (h' : W.ownsRow base' e' sz' v' n' xs') {b : Nat} (hb : v.ownBlock = some b) (hb' : v'.ownBlock = some b) (hT : e ≠ e') : False := by
 rcases h.2 with ⟨rfl, _⟩ | ⟨g, cap, cur, rfl, _, hg, _⟩
 ·cases hb
 ·injection hb with hb
  have hb : g = b := hb
  subst hb
  rcases h'.2 with ⟨rfl, _⟩ | ⟨g', cap', cur', rfl, _, hg', _⟩
  ·cases hb'
  ·injection hb' with hb'
   have hb' : g' = g := hb'
   subst hb'
   rw [hg] at hg'
   injection hg' with hr
   injection hr with _ hr
   exact hT hr
theorem sz4b : (Tryd.prog.info? 4).map (·.size) = some 1 := by kernel_rfl
theorem sz43 : (Tryd.prog.info? 43).map (·.size) = some 1 := by kernel_rfl
theorem sz57 : (Tryd.prog.info? 57).map (·.size) = some 1 := by kernel_rfl
theorem appTy57 {w : World} (ty ty' : TypeId) (v vx : Value) : (Builtin.append_ #[57, 57] ty #[v, vx]).run Tryd.prog w = (Builtin.append_ #[57, 57] ty' #[v, vx]).run Tryd.prog w := rfl
section
variable {w W W' : World} {gr d n q : Nat} {vU vB : Value} {qs : List (Nat × Nat)}
end
end Go.Proofs.YthgidfoidbgnaaaDoor

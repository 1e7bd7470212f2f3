/- Layer 14: the document's Open. -/
import Derived.Test.YtjnhhkfknlkfeaaDoorV42
namespace Go.Proofs.YtjnhhkfknlkfeaaDoor
open Go.RowKit Go.Maps


/-- as many rows of nothing -/
def BsO (W : World) (v : Value) (k : Nat) : Prop := W.ownsRow 0 28 1 v k (List.replicate k (.slice none 0 0))
theorem info28z : (Tryd.prog.info? 28).map (fun i => (i.zero, i.size, i.bytes)) = some (some (.slice none 0 0), 1, 24) := by kernel_rfl
theorem own_ne {W : World} {base e sz n : Nat} {v : Value} {xs : List Value} (h : W.ownsRow base e sz v n xs) {b T : Nat} {cs : List Value} (hb : v.ownBlock = some b) (hr : Row W b T cs) (hT : T ≠ e) : False := by
  rcases h.2 with ⟨rfl, _⟩ | ⟨g, cap, cur, rfl, _, hg, _⟩
  · cases hb
  · injection hb with hb
    have hb : g = b := hb
    subst hb
    unfold Row at hr
    rw [hg] at hr
    injection hr with hr
    injection hr with _ hr
    exact hT hr.symm
theorem own_ne2 {W : World} {base e sz n base' e' sz' n' : Nat} {v v' : Value} {xs xs' : List Value} (h : W.ownsRow base e sz v n xs) (h' : W.ownsRow base' e' sz' v' n' xs') {b : Nat} (hb : v.ownBlock = some b) (hb' : v'.ownBlock = some b) (hT : e ≠ e') : False := by
  rcases h.2 with ⟨rfl, _⟩ | ⟨g, cap, cur, rfl, _, hg, _⟩
  · cases hb
  · injection hb with hb
    have hb : g = b := hb
    subst hb
    rcases h'.2 with ⟨rfl, _⟩ | ⟨g', cap', cur', rfl, _, hg', _⟩
    · cases hb'
    · injection hb' with hb'
      have hb' : g' = g := hb'
      subst hb'
      rw [hg] at hg'
      injection hg' with hr
      injection hr with _ hr
      exact hT hr
theorem sz43 : (Tryd.prog.info? 43).map (·.size) = some 1 := by kernel_rfl
theorem sz57 : (Tryd.prog.info? 57).map (·.size) = some 1 := by kernel_rfl
theorem appTy57 {w : World} (ty ty' : TypeId) (v vx : Value) : (Builtin.append_ #[57, 57] ty #[v, vx]).run Tryd.prog w = (Builtin.append_ #[57, 57] ty' #[v, vx]).run Tryd.prog w := rfl
/-- the document's disk while it is opened -/
structure RO (w W : World) (gr d n : Nat) (vU vB : Value) (qs : List (Nat × Nat)) : Prop where
  row : Row W gr 60 [.int .i64 (d : Nat), .int .i64 (n : Nat), vU, vB]
  u : PlO W vU (qs.map (pqOf d))
  b : BsO W vB qs.length
  below : Below w.heap.size w W
  ge : w.heap.size ≤ gr
  ug : ∀ b, vU.ownBlock = some b → w.heap.size ≤ b
  bg : ∀ b, vB.ownBlock = some b → w.heap.size ≤ b
section
variable {w W W' : World} {gr d n q : Nat} {vU vB : Value} {qs : List (Nat × Nat)}
end
end Go.Proofs.YtjnhhkfknlkfeaaDoor

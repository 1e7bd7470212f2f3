/- tree.Inclusion and tree.Consistency, and the document's: any number. -/
import Derived.Test.YtjdmpanemdhbbaaDoorClosure
namespace Go.Proofs.YtjdmpanemdhbbaaDoor
open Go.RowKit

def inclAns (hs : List (List Nat)) (m : Int) : List (List Nat) := if 0 ≤ m ∧ m < (hs.length : Int) then Tree.incl hs m.toNat else []
def inclErr (hs : List (List Nat)) (m : Int) : Int := if 0 ≤ m ∧ m < (hs.length : Int) then 0 else 50
def consAns (hs : List (List Nat)) (m : Int) : List (List Nat) := if 1 ≤ m ∧ m ≤ (hs.length : Int) then Tree.part hs m.toNat true else []
def consErr (hs : List (List Nat)) (m : Int) : Int := if 0 ≤ m ∧ m ≤ (hs.length : Int) then 0 else 50
/-- what is told: a row of the call's own, and a number -/
def Tells (w : World) (hs : List (List Nat)) (err : Int) (e : Ending) (w' : World) : Prop := ∃ v', e = .returned (.tuple #[v', .int .i64 err]) ∧ HOwn w' w.heap.size v' hs ∧ Below w.heap.size w w'

section
variable {w : World} {ops : Array Oper} {rest : List Oper} {o : Oper} {a : Act} {Q : Exit → Act → World → Prop}
theorem wl_alloc1 {t : Nat} (z : Value) (hz : (Tryd.prog.info? t).map (·.zero) = some (some z)) (h1 : z.cells = #[z]) (hgd : o.guard = none) (ho : o.op = .alloc t)
    (h : ∀ w', Row w' w.heap.size t [z] → w'.heap.size = w.heap.size + 1 → Below w.heap.size w w' → wpList Tryd.prog ops Q rest (a.put o.dst (.pointer (some ⟨w.heap.size, 0, none⟩))) w') : wpList Tryd.prog ops Q (o :: rest) a w := by
  obtain ⟨i, hi, hsz⟩ := Option.map_eq_some_iff.1 hz
  exact wpList_value hgd _ (w.alloc (.cells #[z] t)) (by simp [execOp, ho, Instr.alloc, zeroValue, typeInfo, hi, hsz, newVar, newRow, h1]) (h _ (Row.new w t [z]) (by simp) (below_alloc w _))
theorem wl_makeFunc (fn : Fn) (x y : Operand) (hgd : Region.wanted o (yielded ops a.tmps) = true) (ho : o.op = .makeFunc fn #[] #[x, y]) (vx vy : Value) (hx : a.eval x = vx) (hy : a.eval y = vy)
    (h : wpList Tryd.prog ops Q rest (a.put o.dst (.func fn #[] #[vx, vy])) w) : wpList Tryd.prog ops Q (o :: rest) a w :=
  wl hgd _ w (by simp [execOp, ho, hx, hy, Instr.makeFunc]) h
theorem wl_store1 {t : Nat} (hs : OneS t) (x y : Operand) (hgd : Region.wanted o (yielded ops a.tmps) = true) (hdst : o.dst = none) (ho : o.op = .store t x y) (g T : Nat) (u : Value) (hx : a.eval x = .pointer (some ⟨g, 0, none⟩)) (v : Value) (hy : a.eval y = v) (hv : OneV v) (hr : Row w g T [u])
    (h : ∀ w', Row w' g T [v] → Only g w w' → w'.heap.size = w.heap.size → wpList Tryd.prog ops Q rest a w') : wpList Tryd.prog ops Q (o :: rest) a w :=
  wlSkip hgd hdst _ (rx_store1 hs x y ho g 0 T [u] hx v hy hv hr (by simp)) (h _ (hr.one v) ((Only.refl g w).setRow _) (by simp [World.setRow]))
theorem wl_load1 {t : Nat} (ht : OneT t) (x : Operand) (hgd : Region.wanted o (yielded ops a.tmps) = true) (ho : o.op = .load t x) (g i : Nat) (hx : a.eval x = .pointer (some ⟨g, i, none⟩)) (v : Value) (hc : w.cell? ⟨g, i, none⟩ = some v)
    (h : wpList Tryd.prog ops Q rest (a.put o.dst v) w) : wpList Tryd.prog ops Q (o :: rest) a w := wl hgd _ _ (rx_load1 ht x ho g i hx v hc) h
end
theorem zero24 : (Tryd.prog.info? 24).map (·.zero) = some (some (.slice none 0 0)) := by kernel_rfl
theorem zero48 : (Tryd.prog.info? 58).map (·.zero) = some (some .nilFunc) := by kernel_rfl
theorem zero50 : (Tryd.prog.info? 59).map (·.zero) = some (some .nilFunc) := by kernel_rfl

set_option maxHeartbeats 1000000 in
theorem incl_bad (v : Value) (hs : List (List Nat)) (m : Int) (w : World) (h : HIn w v hs) (hm : m < 0 ∨ (hs.length : Int) ≤ m) :
    Calls Tryd.prog 17 #[v, .int .i64 m] w fun e w' => Tells w (inclAns hs m) (inclErr hs m) e w' := by
  have HA : Hid (inclAns hs m = [] ∧ inclErr hs m = 50) := by
    unfold inclAns inclErr
    exact ⟨if_neg (by omega), if_neg (by omega)⟩
  rcases hm with hm | hm
  · go_enter Tryd.func17, Tryd.ntmps17
    go_wp2_with (first | (refine wl_len (.tmp 12) rfl rfl v hs rfl h ?_))
    go_ret2
    exact ⟨_, by rw [HA.out.2]; rfl, by rw [HA.out.1]; exact HOwn.nil w _, Below.refl _ _⟩
  · have h0 : ¬ m < 0 := by omega
    go_enter Tryd.func17, Tryd.ntmps17
    go_wp2_with (first | (refine wl_len (.tmp 12) rfl rfl v hs rfl h ?_))
    go_ret2
    exact ⟨_, by rw [HA.out.2]; rfl, by rw [HA.out.1]; exact HOwn.nil w _, Below.refl _ _⟩

set_option maxHeartbeats 1000000 in
theorem cons_bad (v : Value) (hs : List (List Nat)) (m : Int) (w : World) (h : HIn w v hs) (hm : m < 0 ∨ (hs.length : Int) < m) :
    Calls Tryd.prog 18 #[v, .int .i64 m] w fun e w' => Tells w (consAns hs m) (consErr hs m) e w' := by
  have HA : Hid (consAns hs m = [] ∧ consErr hs m = 50) := by
    unfold consAns consErr
    exact ⟨if_neg (by omega), if_neg (by omega)⟩
  rcases hm with hm | hm
  · go_enter Tryd.func18, Tryd.ntmps18
    go_wp2_with (first | (refine wl_len (.tmp 12) rfl rfl v hs rfl h ?_))
    go_ret2
    exact ⟨_, by rw [HA.out.2]; rfl, by rw [HA.out.1]; exact HOwn.nil w _, Below.refl _ _⟩
  · have h0 : ¬ m < 0 := by omega
    go_enter Tryd.func18, Tryd.ntmps18
    go_wp2_with (first | (refine wl_len (.tmp 12) rfl rfl v hs rfl h ?_))
    go_ret2
    exact ⟨_, by rw [HA.out.2]; rfl, by rw [HA.out.1]; exact HOwn.nil w _, Below.refl _ _⟩

set_option maxHeartbeats 1000000 in
theorem cons_zero (v : Value) (hs : List (List Nat)) (w : World) (h : HIn w v hs) :
    Calls Tryd.prog 18 #[v, .int .i64 0] w fun e w' => Tells w (consAns hs 0) (consErr hs 0) e w' := by
  have HA : Hid (consAns hs 0 = [] ∧ consErr hs 0 = 0) := by
    unfold consAns consErr
    exact ⟨if_neg (by omega), if_pos (by omega)⟩
  have h2 : ¬ (hs.length : Int) < 0 := by omega
  go_enter Tryd.func18, Tryd.ntmps18
  go_wp2_with (first
    | (refine wl_len (.tmp 12) rfl rfl v hs rfl h ?_))
  go_ret2
  exact ⟨_, by rw [HA.out.2]; rfl, by rw [HA.out.1]; exact HOwn.nil w _, Below.refl _ _⟩

end Go.Proofs.YtjdmpanemdhbbaaDoor

/- A Grow in memory. -/
import Derived.Test.YtmjbjepmnjocjaaDoorTMath2
import Derived.Test.YtmjbjepmnjocjaaDoorInclB
namespace Go.Proofs.YtmjbjepmnjocjaaDoor
open Go.RowKit

/-- append, and where its result lies: where it lay, or in a new block -/
theorem run_happend2 {w : World} (base : Nat) (v vx : Value) (hs ys : List (List Nat)) (hown : HOwn w base v hs) (hin : HIn w vx ys) (hne : ys ≠ []) (hsz : (hs.length + ys.length) * 32 ≤ 140737488355328) (hbase : base ≤ w.heap.size) :
    ∃ v' w', (Builtin.append_ #[24, 24] 24 #[v, vx]).run Tryd.prog w = .ok v' w' ∧ HOwn w' base v' (hs ++ ys) ∧ w.grownBy w' v.ownBlock ∧ (v'.ownBlock = v.ownBlock ∨ ∀ k, v'.ownBlock = some k → w.heap.size ≤ k) := by
  obtain ⟨v', w', hr, ho', hg⟩ := run_happend base 24 v vx hs ys hown hin hsz hbase
  refine ⟨v', w', hr, ho', hg, ?_⟩
  obtain ⟨i, hi, hz0, hz1, hz2⟩ := info_parts info27
  rcases hown.2.2 with ⟨rfl, h0⟩ | ⟨g, cap', cur, rfl, hbg, hgb, hcap, hmax, hcs, htake⟩
  · right
    have hs0 : hs = [] := List.length_eq_zero_iff.1 h0
    subst hs0
    obtain ⟨v2, w2, hr2, ho2, _⟩ := run_happend w.heap.size 24 (.slice none 0 0) vx [] ys (HOwn.nil w _) hin hsz (Nat.le_refl _)
    rw [hr] at hr2
    injection hr2 with e1 e2
    subst e1 e2
    exact fun k hk => (ho2.2.lt k hk).1
  · obtain ⟨hay, p, cap, rfl, hl, hin⟩ := hin
    rcases hin with h | ⟨b, off, rfl, hc, _⟩
    · exact absurd h hne
    have hnews : ∀ j u, (bcells ys.flatten)[j]? = some u → w.cell? ((⟨b, off, none⟩ : Addr).add j) = some u := fun j u hu => by
      have hj : j < ys.flatten.length := by
        have := (List.getElem?_eq_some_iff.1 hu).1
        rwa [bcells_length] at this
      rw [add_none, hc j hj, ← hu, bcells_at _ j hj]
    have hnl : (bcells ys.flatten).length = ys.length * i.size := by rw [bcells_length, flat_length ys hay, hz1]
    by_cases hroom : hs.length + ys.length ≤ cap'
    · have hr2 := run_append_room (P := Tryd.prog) w 24 24 27 i Tryd.underlying24 hi g hs.length cap' cur hgb ⟨b, off, none⟩ ys.length cap (bcells ys.flatten) hnl hnews (bcells_one _) hroom (by rw [hnl, hz1, hcs]; omega)
      rw [hr] at hr2
      left
      injection hr2 with e1 e2
      rw [e1]
      rfl
    · have hlen : 0 < hs.length ∨ hs.length = 0 := by omega
      have hr2 := run_append_grow (P := Tryd.prog) w 24 24 27 i (.agg (zerosU8 32).toArray) Tryd.underlying24 hi hz0 ⟨g, 0, none⟩ hs.length cap' (bcells hs.flatten) (by rw [bcells_length, flat_length hs hown.1, hz1]) (hown.2.cells (g := g) rfl) ⟨b, off, none⟩ ys.length cap (bcells ys.flatten) hnl hnews (by omega) (by unfold maxLen at hmax; omega) (growslice_fits (by omega) (by rw [hz2]; omega))
      rw [hr] at hr2
      right
      injection hr2 with e1 e2
      intro k hk
      rw [e1] at hk
      injection hk with hk
      exact Nat.le_of_eq hk

/-- a Grow at block g, its row at v, that has taken these leaves -/
def GrowAt (w : World) (g : Nat) (v : Value) (hs : List (List Nat)) : Prop := AllH hs ∧ Row w g 53 [.int .i64 (hs.length : Nat), v] ∧ HOwn w 2 v (Tree.peaks hs) ∧ v.ownBlock ≠ some g
/-- nothing has turned but block g and the row k -/
structure Kept (g : Nat) (k : Option Nat) (w w' : World) : Prop where
  os : w'.os = w.os
  tape : w'.tape = w.tape
  output : w'.output = w.output
  size : w.heap.size ≤ w'.heap.size
  block : ∀ i, i < w.heap.size → i ≠ g → k ≠ some i → w'.heap[i]? = w.heap[i]?
theorem own_kept {w w' : World} {base : Nat} {v : Value} {hs : List (List Nat)} (h : HOwn w base v hs) (hb : ∀ b, v.ownBlock = some b → w'.heap[b]? = w.heap[b]?) : HOwn w' base v hs := by
  obtain ⟨ha, hl, h⟩ := h
  refine ⟨ha, hl, ?_⟩
  rcases h with ⟨rfl, h⟩ | ⟨g, cap, cur, rfl, h0, hg, h⟩
  · exact Or.inl ⟨rfl, h⟩
  · exact Or.inr ⟨g, cap, cur, rfl, h0, (hb g rfl).trans hg, h⟩
theorem GrowAt.below {w w' : World} {g : Nat} {v : Value} {hs : List (List Nat)} (h : GrowAt w g v hs) (hb : Below w.heap.size w w') : GrowAt w' g v hs :=
  ⟨h.1, h.2.1.later hb h.2.1.lt, h.2.2.1.later hb (Nat.le_refl _), h.2.2.2⟩
theorem GrowAt.len {w : World} {g : Nat} {v : Value} {hs : List (List Nat)} (h : GrowAt w g v hs) : w.cell? ⟨g, 0, none⟩ = some (.int .i64 (hs.length : Nat)) := h.2.1.at 0 _ rfl
theorem GrowAt.full {w : World} {g : Nat} {v : Value} {hs : List (List Nat)} (h : GrowAt w g v hs) : w.cell? ⟨g, 1, none⟩ = some v := h.2.1.at 1 _ rfl

theorem run_build53 (w : World) : (Instr.build 53 #[]).run Tryd.prog w = .ok (.agg ([.int .i64 0, .slice none 0 0] : List Value).toArray) w := by kernel_rfl
theorem f53_0 : FieldAt 53 0 0 := fun w g off => by kernel_rfl
theorem f53_1 : FieldAt 53 1 1 := fun w g off => by kernel_rfl
section
variable {w : World} {ops : Array Oper} {rest : List Oper} {o : Oper} {a : Act} {Q : Exit → Act → World → Prop}
theorem wl_build53 (hgd : Region.wanted o (yielded ops a.tmps) = true) (ho : o.op = .build 53 #[]) (h : wpList Tryd.prog ops Q rest (a.put o.dst (.agg ([.int .i64 0, .slice none 0 0] : List Value).toArray)) w) : wpList Tryd.prog ops Q (o :: rest) a w :=
  wl hgd _ w (by simp [execOp, ho, run_build53]) h
theorem rx_field {T i k : Nat} (hf : FieldAt T i k) (x : Operand) (ho : o.op = .fieldAddr T x i) (g off : Nat) (hx : a.eval x = .pointer (some ⟨g, off, none⟩)) : (execOp a.eval o).run Tryd.prog w = .ok (.value (.pointer (some ⟨g, off + k, none⟩))) w := by
  simp [execOp, ho, hx, hf w g off]
end

set_option maxHeartbeats 400000 in
theorem newGrow_any (w : World) :
    Calls Tryd.prog 21 #[] w fun e w' => e = .returned (.pointer (some ⟨w.heap.size, 0, none⟩)) ∧ GrowAt w' w.heap.size (.slice none 0 0) [] ∧ Below w.heap.size w w' := by
  go_enter Tryd.func21, Tryd.ntmps21
  go_wp2_with (first
    | (refine wl_build53 rfl rfl ?_)
    | (refine wpList_box (.tmp 1) rfl rfl [.int .i64 0, .slice none 0 0] rfl ?_; intro w1 r1 s1 b1; have R1 : Hid (GrowAt w1 w.heap.size (.slice none 0 0) [] ∧ Below w.heap.size w w1) := ⟨⟨AllH.nil, r1, by rw [Tree.peaks_none [] rfl]; exact HOwn.nil _ _, by intro e; cases e⟩, b1⟩; clear r1 s1 b1))
  go_ret
  exact ⟨rfl, R1.out.1, R1.out.2⟩
set_option maxHeartbeats 400000 in
theorem growSize_any (g : Nat) (v : Value) (hs : List (List Nat)) (w : World) (h : GrowAt w g v hs) :
    Calls Tryd.prog 22 #[.pointer (some ⟨g, 0, none⟩)] w fun e w' => e = .returned (.int .i64 (hs.length : Nat)) ∧ w = w' := by
  have h0 := h.len
  go_enter Tryd.func22, Tryd.ntmps22
  go_wp2
  go_ret
  exact ⟨rfl, rfl⟩
end Go.Proofs.YtmjbjepmnjocjaaDoor

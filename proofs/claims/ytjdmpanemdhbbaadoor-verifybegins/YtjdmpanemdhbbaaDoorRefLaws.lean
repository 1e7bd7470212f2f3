/- The walk of the document's own Sum. -/
import Derived.Test.YtjdmpanemdhbbaaDoorPiece
import Derived.Test.YtjdmpanemdhbbaaDoorSum
namespace Go.Proofs.YtjdmpanemdhbbaaDoor
open Go.RowKit

section
variable {w : World} {ops : Array Oper} {rest : List Oper} {o : Oper} {a : Act} {Q : Exit → Act → World → Prop}
theorem run_litb0 : (Instr.buildSlice 57 0 #[]).run Tryd.prog w = .ok (.slice (some ⟨w.heap.size, 0, none⟩) 0 0) (w.alloc (.cells #[] 5)) := by
  kernel_rfl
theorem wpList_litb0 (hgd : o.guard = none) (ho : o.op = .buildSlice 57 0 #[])
    (h : ∀ w', BOwn w' w.heap.size (.slice (some ⟨w.heap.size, 0, none⟩) 0 0) [] → w'.heap.size = w.heap.size + 1 → Below w.heap.size w w' → wpList Tryd.prog ops Q rest (a.put o.dst (.slice (some ⟨w.heap.size, 0, none⟩) 0 0)) w') : wpList Tryd.prog ops Q (o :: rest) a w :=
  wpList_value hgd _ _ (by simp [execOp, ho, run_litb0]) (h (w.alloc (.cells #[] 5)) (BOwn.new w _ (Nat.le_refl _)) (by simp) ((Below.refl _ _).alloc (Nat.le_refl _) _))
theorem run_litb1 (c : Int) : (Instr.buildSlice 57 1 #[(0, .int .u8 c)]).run Tryd.prog w = .ok (.slice (some ⟨w.heap.size, 0, none⟩) 1 1) (w.alloc (.cells #[.int .u8 c] 5)) := by
  kernel_rfl
theorem wpList_litb1 (x : Operand) (hgd : o.guard = none) (ho : o.op = .buildSlice 57 1 #[(0, x)]) (c : Nat) (hc : c < 256) (hx : a.eval x = .int .u8 (c : Nat))
    (h : ∀ w', SliceIn w' (.slice (some ⟨w.heap.size, 0, none⟩) 1 1) [c] → w'.heap.size = w.heap.size + 1 → Below w.heap.size w w' → wpList Tryd.prog ops Q rest (a.put o.dst (.slice (some ⟨w.heap.size, 0, none⟩) 1 1)) w') : wpList Tryd.prog ops Q (o :: rest) a w := by
  refine wpList_value hgd _ _ (by simp [execOp, ho, hx, run_litb1]) (h (w.alloc (.cells #[.int .u8 (c : Nat)] 5)) ?_ (by simp) ((Below.refl _ _).alloc (Nat.le_refl _) _))
  have hr := Row.new w 5 [.int .u8 (c : Nat)]
  refine ⟨_, 1, rfl, ⟨Nat.le_refl _, by simp⟩, Or.inr ⟨w.heap.size, 0, rfl, fun j hj => ?_, fun j => ?_⟩⟩
  · have hj0 : j = 0 := by simp at hj; omega
    subst hj0
    exact hr.at 0 _ rfl
  · cases j with
    | zero => simpa using hc
    | succ j => simp
/-- 64 bytes out of a slice -/
theorem wpList_piece (x lo hi : Operand) (hgd : o.guard = none) (ho : o.op = .slice 57 x (some lo) (some hi) none) (b len cap k : Nat) (hx : a.eval x = .slice (some ⟨b, 0, none⟩) len cap) (hlo : a.eval lo = .int .i64 (k : Nat)) (E : Nat) (hE : E = k + 64) (hhi : a.eval hi = .int .i64 (E : Nat)) (hk : E ≤ cap)
    (h : wpList Tryd.prog ops Q rest (a.put o.dst (.slice (some ⟨b, k, none⟩) 64 (cap - k))) w) : wpList Tryd.prog ops Q (o :: rest) a w := by
  obtain ⟨i, hi', hsz⟩ := Option.map_eq_some_iff.1 info5
  refine wpList_value hgd _ w ?_ h
  have h1 : ¬ cap = k := by omega
  have h2 : k ≤ E := by omega
  have h3 : E - k = 64 := by omega
  simp [execOp, ho, hx, hlo, hhi, Instr.sliceAt, Instr.slice, run_underlying Tryd.underlying57, Instr.sliceBounds, Instr.sliceBound, asIntOf, sizeOf, typeInfo, hi', hsz, hk, h1, h2, h3, add_none]
theorem run_build25 : (Instr.build 23 #[]).run Tryd.prog w = .ok (.agg (zerosU8 32).toArray) w := by
  kernel_rfl
theorem wpList_build25 (hgd : o.guard = none) (ho : o.op = .build 23 #[]) (h : wpList Tryd.prog ops Q rest (a.put o.dst (.agg (zerosU8 32).toArray)) w) : wpList Tryd.prog ops Q (o :: rest) a w :=
  wpList_value hgd _ w (by simp [execOp, ho, run_build25]) h
end
theorem BOwn.shape {w : World} {base : Nat} {v : Value} {cs : List Nat} (h : BOwn w base v cs) (hne : 0 < cs.length) : ∃ g cap, v = .slice (some ⟨g, 0, none⟩) cs.length cap ∧ cs.length ≤ cap ∧ base ≤ g ∧ g < w.heap.size ∧ ∀ j, j < cs.length → w.cell? ⟨g, j, none⟩ = some (.int .u8 (cs.getD j 0 : Nat)) := by
  rcases h.2 with ⟨rfl, h0⟩ | ⟨g, cap, cur, rfl, _, hg, hcap, hmax, hsz, htake⟩
  · omega
  · have hlt := h.lt g rfl
    refine ⟨g, cap, rfl, hcap, hlt.1, hlt.2, fun j hj => ?_⟩
    have h2 := h.cells (g := g) rfl j _ (bcells_at cs j hj)
    rw [add_none, Nat.zero_add] at h2
    exact h2
theorem BOwn.drewN {w : World} {base : Nat} {v : Value} {cs : List Nat} (h : BOwn w base v cs) (n : Nat) : BOwn (w.drewN n) base v cs := h

theorem out_at (V : Sha.W8) (k : Nat) (hk : k < 32) : (Sha.outBytes V).getD k 0 = (V.list.getD (k / 4) 0).toNat / 2 ^ (24 - 8 * (k % 4)) % 256 := by
  rcases (show k = 0 ∨ k = 1 ∨ k = 2 ∨ k = 3 ∨ k = 4 ∨ k = 5 ∨ k = 6 ∨ k = 7 ∨ k = 8 ∨ k = 9 ∨ k = 10 ∨ k = 11 ∨ k = 12 ∨ k = 13 ∨ k = 14 ∨ k = 15 ∨ k = 16 ∨ k = 17 ∨ k = 18 ∨ k = 19 ∨ k = 20 ∨ k = 21 ∨ k = 22 ∨ k = 23 ∨ k = 24 ∨ k = 25 ∨ k = 26 ∨ k = 27 ∨ k = 28 ∨ k = 29 ∨ k = 30 ∨ k = 31 by omega) with rfl | rfl | rfl | rfl | rfl | rfl | rfl | rfl | rfl | rfl | rfl | rfl | rfl | rfl | rfl | rfl | rfl | rfl | rfl | rfl | rfl | rfl | rfl | rfl | rfl | rfl | rfl | rfl | rfl | rfl | rfl | rfl
  all_goals first | rfl | exact (congrArg (· % 256) (Nat.div_one _)).symm
/-- the text up to k noughts -/
def textTo (cs : List Nat) (k : Nat) : List Nat := cs ++ ([128] ++ List.replicate k 0)
theorem textTo_length (cs : List Nat) (k : Nat) : (textTo cs k).length = cs.length + 1 + k := by simp [textTo]; omega
theorem textTo_next (cs : List Nat) (k : Nat) : textTo cs (k + 1) = textTo cs k ++ [0] := by
  unfold textTo
  rw [List.replicate_succ', List.append_assoc, List.append_assoc]
theorem textTo_zero (cs : List Nat) : textTo cs 0 = cs ++ [128] := by simp [textTo]
theorem textTo_all (cs : List Nat) : textTo cs (Sha.zeros cs.length) = cs ++ endTo cs.length 0 := by simp [textTo, endTo]
theorem text_lt (cs : List Nat) (hc : ∀ j : Nat, cs.getD j 0 < 256) (k : Nat) : ∀ j : Nat, (cs ++ endTo cs.length k).getD j 0 < 256 := by
  intro j
  by_cases hj : j < cs.length
  · have := hc j
    simpa [List.getElem?_append_left hj] using this
  · by_cases hj2 : j - cs.length < (endTo cs.length k).length
    · have hm : (endTo cs.length k)[j - cs.length] ∈ Sha.pad cs.length := by
        rw [← endTo_all]
        unfold endTo
        have h1 : (endTo cs.length k)[j - cs.length] ∈ endTo cs.length k := List.getElem_mem hj2
        unfold endTo at h1
        rcases List.mem_append.1 h1 with h1 | h1
        · exact List.mem_append_left _ h1
        · refine List.mem_append_right _ ?_
          rw [List.take_of_length_le (by simp [Sha.lenBytes])]
          exact List.mem_of_mem_take h1
      have := pad_lt cs.length _ hm
      simpa [List.getElem?_append_right (Nat.le_of_not_lt hj), hj2] using this
    · simp [List.getElem?_append_right (Nat.le_of_not_lt hj), hj2]
theorem start_cells : (#[.int .u32 1779033703, .int .u32 3144134277, .int .u32 1013904242, .int .u32 2773480762, .int .u32 1359893119, .int .u32 2600822924, .int .u32 528734635, .int .u32 1541459225] : Array Value) = (wcells Sha.start.list).toArray := by
  kernel_rfl
end Go.Proofs.YtjdmpanemdhbbaaDoor

/- Layer 14: scripts, as the statements are given them. -/
import Derived.Test.YthgidfoidbgnaaaDoorE55
namespace Go.Proofs.YthgidfoidbgnaaaDoor
open Go.RowKit Go.Maps

/-- a thing to be done -/
structure OpD where
 k : Int
 n : Int
 vy : Value
 px : Pq
 vk : Value
 bs : List Nat
 ks : List Int
instance : Inhabited OpD := ⟨⟨0, 0, .slice none 0 0, default, .slice none 0 0, [], []⟩⟩
def OpD.cells (o : OpD) : List Value := opC o.k o.n o.vy o.px o.vk
def OpD.ok (w : World) (o : OpD) : Prop := OpI w o.k o.n o.vy o.bs o.px o.vk o.ks
def OpsIn (W : World) (v : Value) (L : List OpD) : Prop :=
 ∃ p cap, v = .slice p L.length cap ∧ L.length ≤ cap ∧ L.length ≤ 1048576 ∧ (L = [] ∨ ∃ b off, p = some ⟨b, off, none⟩ ∧ ∀ i, i < L.length → ∀ j, j < 8 → W.cell? ⟨b, off + (i * 8 + j), none⟩ = (L.getD i default).cells[j]?) ∧ ∀ o ∈ L, o.ok W
theorem und22o : Tryd.prog.underlying 22 = some (.slice 33) := by kernel_rfl
theorem sz33 : (Tryd.prog.info? 33).map (·.size) = some 8 := by kernel_rfl
theorem ix_op {w : World} {v : Value} {us : List OpD} (hin : OpsIn w v us) (k : Nat) (hk : k < us.length) : ∃ b j, (∀ w', (Instr.indexAt 22 v (.int .i64 (k : Nat))).run Tryd.prog w' = .ok (.pointer (some ⟨b, j, none⟩)) w') ∧ (us.getD k default).ok w ∧ ∀ W, Below w.heap.size w W → ∀ (i : Nat) u, (us.getD k default).cells[i]? = some u → W.cell? ⟨b, j + i, none⟩ = some u := by
 obtain ⟨i3, hi3, hsz⟩ := Option.map_eq_some_iff.1 sz33
 obtain ⟨p, cap, rfl, hl, _, h, hop⟩ := hin
 rcases h with rfl | ⟨b, off, rfl, hc⟩
 ·simp at hk
 ·have hm : us.getD k default ∈ us := by rw [List.getD_eq_getElem?_getD, List.getElem?_eq_getElem hk]; exact List.getElem_mem hk
  refine ⟨b, off + k * 8, fun w' => by simp [Instr.indexAt, asIntOf, run_underlying und22o, hk, sizeOf, typeInfo, hi3, hsz, add_none], hop _ hm, fun W hW i u hu => ?_⟩
  have hi : i < 8 := by
   have := (List.getElem?_eq_some_iff.1 hu).1
   simpa [OpD.cells, opC] using this
  have h9 := hc k hk i hi
  rw [hu] at h9
  rw [Nat.add_assoc]
  exact cell_later hW h9
theorem run_lenOp {w w0 : World} {a : Act} {o : Oper} {v : Value} {us : List OpD} (h : OpsIn w0 v us) (x : Operand) (ho : o.op = .call { callee := .builtin .len, args := #[x], argTypes := #[22] }) (hx : a.eval x = v) : (execOp a.eval o).run Tryd.prog w = .ok (.value (.int .i64 (us.length : Nat))) w := by
 obtain ⟨p, cap, rfl, _⟩ := h
 exact run_lenZ sl22 x ho p _ _ hx
theorem elem22o : Tryd.prog.elem 22 = 33 := by kernel_rfl
theorem cut_ops {w : World} {v : Value} {L : List OpD} (h : OpsIn w v L) (hl : 12 < L.length) : ∃ v1, (∀ w', (Instr.slice 22 v none (some (.int .i64 12)) none).run Tryd.prog w' = .ok v1 w') ∧ OpsIn w v1 (L.take 12) := by
 obtain ⟨i, hi3, hsz⟩ := Option.map_eq_some_iff.1 sz33
 have hsize : ∀ w' : World, (sizeOf 33).run Tryd.prog w' = .ok 8 w' := fun w' => by simp [sizeOf, typeInfo, hi3, hsz]
 obtain ⟨p, cap, rfl, h1, h2, h3, h4⟩ := h
 have ht : (L.take 12).length = 12 := by rw [List.length_take]; omega
 rcases h3 with rfl | ⟨b, off, rfl, h3⟩
 ·simp at hl
 ·refine ⟨sliced (some ⟨b, off, none⟩) 0 12 cap 8, fun w' => by rw [show (Value.int .i64 12) = .int .i64 ((12 : Nat) : Int) from rfl, run_slice_h _ _ _ _ _ sl22 _ _ (by omega) (by omega), elem22o, hsize]; rfl, ⟨some ⟨b, off, none⟩, cap, ?_, by omega, by omega, Or.inr ⟨b, off, rfl, fun i hi j hj => ?_⟩, fun o ho => h4 o (List.mem_of_mem_take ho)⟩⟩
  ·rw [ht]
   simp [sliced, add_none]
  ·rw [ht] at hi
   have e : (L.take 12).getD i default = L.getD i default := by rw [List.getD_eq_getElem?_getD, List.getD_eq_getElem?_getD, List.getElem?_take, if_pos hi]
   rw [h3 i (by omega) j hj, e]
theorem Std.below {w W : World} {gp gs gr n K E : Nat} (h : Std w W gp gs gr n K E) : Below w.heap.size w W := by
 obtain ⟨c, gh, gf, gm, m, us, vu, vb, bl, ever, dims, h1, _⟩ := h
 exact h1.pl.below
theorem Std.mono {w W : World} {gp gs gr n K E K' E' : Nat} (h : Std w W gp gs gr n K E) (hk : K ≤ K') (he : E ≤ E') : Std w W gp gs gr n K' E' := by
 obtain ⟨c, gh, gf, gm, m, us, vu, vb, bl, ever, dims, h1, h2, h3, h4, h5, h6⟩ := h
 exact ⟨c, gh, gf, gm, m, us, vu, vb, bl, ever, dims, h1.mono hk, h2, h3, by omega, by omega, by omega⟩
/-- a stand that was begun -/
theorem Std.new {w W : World} {c : Nat → Colour} {gp gh gf gm gs gr n : Nat} {m : Pl} (h : HtW w W c gp gh gf gm m n [] 0) (hs : Row W gs 38 (scells gp gh gr 0 0)) (hr : Row W gr 60 (rcells0 1 (n : Nat))) (o1 : Out w W c gh gf gm gs) (o2 : Out w W c gh gf gm gr) : Std w W gp gs gr n 4096 0 :=
 ⟨c, gh, gf, gm, m, [], _, _, _, 0, 0, h.mono (by omega), Sd.new hs hr o1 o2, RoomInv.none _, Nat.le_refl _, Nat.le_refl _, Nat.le_refl _⟩
end Go.Proofs.YthgidfoidbgnaaaDoor

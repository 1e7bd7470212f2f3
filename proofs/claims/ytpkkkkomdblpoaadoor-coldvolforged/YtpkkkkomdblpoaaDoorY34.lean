/- Layer 15: the law of two tapes. -/
import Derived.Test.YtpkkkkomdblpoaaDoorY33
namespace Go.Proofs.YtpkkkkomdblpoaaDoor
open Go.RowKit Go.Maps

open Cold
def RowsIn (w : World) (v : Value) (L : List (List Nat)) : Prop :=
 ∃ p cap, v = .slice p L.length cap ∧ L.length ≤ 9223372036854775807 ∧ (L = [] ∨ ∃ b off, p = some ⟨b, off, none⟩ ∧ ∀ i, i < L.length → ∃ u, w.cell? ⟨b, off + i, none⟩ = some u ∧ SliceIn w u (L.getD i []))
theorem und65 : Tryd.prog.underlying 65 = some (.slice 38) := by kernel_rfl
theorem RowsIn.ix {w : World} {v : Value} {L : List (List Nat)} (h : RowsIn w v L) (k : Nat) (hk : k < L.length) : ∃ b j u, (∀ w', (Instr.indexAt 65 v (.int .i64 (k : Nat))).run Tryd.prog w' = .ok (.pointer (some ⟨b, j, none⟩)) w') ∧ (∀ W, Below w.heap.size w W → W.cell? ⟨b, j, none⟩ = some u ∧ SliceIn W u (L.getD k [])) ∧ (L.getD k [] = [] ∨ ∀ g, u.ownBlock = some g → g < w.heap.size) := by
 obtain ⟨i3, hi3, hsz⟩ := Option.map_eq_some_iff.1 sz38
 obtain ⟨p, cap, rfl, hl, h⟩ := h
 rcases h with rfl | ⟨b, off, rfl, hc⟩
 ·simp at hk
 ·obtain ⟨u, h1, h2⟩ := hc k hk
  refine ⟨b, off + k, u, fun w' => by simp [Instr.indexAt, asIntOf, run_underlying und65, hk, sizeOf, typeInfo, hi3, hsz, add_none], fun W hW => ⟨cell_later hW h1, h2.later hW⟩, ?_⟩
  by_cases q : L.getD k [] = []
  ·exact Or.inl q
  ·exact Or.inr fun g e => slice_blk h2 q g e
theorem run_lenR {w w0 : World} {a : Act} {o : Oper} {v : Value} {L : List (List Nat)} (h : RowsIn w0 v L) (x : Operand) (ho : o.op = .call { callee := .builtin .len, args := #[x], argTypes := #[65] }) (hx : a.eval x = v) : (execOp a.eval o).run Tryd.prog w = .ok (.value (.int .i64 (L.length : Nat))) w := by
 obtain ⟨p, cap, rfl, _⟩ := h
 exact run_lenZ sl65 x ho p _ _ hx
theorem RowsIn.few {w : World} {v : Value} {L : List (List Nat)} (h : RowsIn w v L) : L.length ≤ 9223372036854775807 := by
 obtain ⟨_, _, _, h1, _⟩ := h
 exact h1
theorem plA_form (d : Nat) (os : List Ob) (bs : List Nat) (er : Int) : ∃ x y z, plA d os bs er = plC x y z false ∧ (er = 0 → x = (d : Nat) ∧ y = (wide os : Nat) ∧ z = (nb bs.length : Nat)) ∧ (er ≠ 0 → x = 0 ∧ y = 0 ∧ z = 0) := by
 unfold plA
 by_cases h : er = 0
 ·rw [if_pos h]; exact ⟨_, _, _, rfl, fun _ => ⟨rfl, rfl, rfl⟩, fun q => absurd h q⟩
 ·rw [if_neg h]; exact ⟨_, _, _, rfl, fun q => absurd q h, fun _ => ⟨rfl, rfl, rfl⟩⟩
end Go.Proofs.YtpkkkkomdblpoaaDoor

/- The law ChunkChecks, walked out of its callees' contracts. -/
import Derived.Test.YtfnncccioipjcaaDoorRCheck
import Derived.Test.YtfnncccioipjcaaDoorCShown
import Derived.Test.YtfnncccioipjcaaDoorOpenH
namespace Go.Proofs.YtfnncccioipjcaaDoor
open Go.RowKit

def HeldIs (w : World) (g : Nat) (i n : Int) (v : Value) (r : List Nat) : Prop := IsH r ∧ Row w g 45 (heldCells i n v r)
theorem HeldIs.next {w w' : World} {g : Nat} {i n : Int} {v : Value} {r : List Nat} (h : HeldIs w g i n v r) (hb : Below w.heap.size w w') : HeldIs w' g i n v r := ⟨h.1, h.2.later hb h.2.lt⟩
theorem f45_0 : FieldAt 45 0 0 := fun w g off => by kernel_rfl
theorem f45_1 : FieldAt 45 1 1 := fun w g off => by kernel_rfl
theorem f45_2 : FieldAt 45 2 2 := fun w g off => by kernel_rfl
theorem f45_3 : FieldAt 45 3 3 := fun w g off => by kernel_rfl
section
variable {w : World} {g : Nat} {i n : Int} {r : List Nat} {v : Value}
theorem HeldIs.fi (h : HeldIs w g i n v r) : w.cell? ⟨g, 0 + 0, none⟩ = some (.int .i64 i) := h.2.at 0 _ rfl
theorem HeldIs.fn (h : HeldIs w g i n v r) : w.cell? ⟨g, 0 + 1, none⟩ = some (.int .i64 n) := h.2.at 1 _ rfl
theorem HeldIs.fv (h : HeldIs w g i n v r) : w.cell? ⟨g, 0 + 2, none⟩ = some v := h.2.at 2 _ rfl
theorem HeldIs.fr (h : HeldIs w g i n v r) : HAt w (.pointer (some ⟨g, 0 + 3, none⟩)) r := ⟨h.1, g, 0 + 3, rfl, fun j hj => h.2.at _ _ (by
  unfold heldCells
  rw [show 0 + 3 + j = j + 1 + 1 + 1 by omega, List.getElem?_cons_succ, List.getElem?_cons_succ, List.getElem?_cons_succ]
  exact bcells_at r j (by rw [h.1.1]; exact hj))⟩
end
section
variable {w : World} {ops : Array Oper} {rest : List Oper} {o : Oper} {a : Act} {Q : Exit → Act → World → Prop}
theorem wl_fieldC {T i k : Nat} (hf : FieldAt T i k) (x : Operand) (hgd : Region.wanted o (yielded ops a.tmps) = true) (ho : o.op = .fieldAddr T x i) (g off : Nat) (hx : a.eval x = .pointer (some ⟨g, off, none⟩))
    (h : wpList Tryd.prog ops Q rest (a.put o.dst (.pointer (some ⟨g, off + k, none⟩))) w) : wpList Tryd.prog ops Q (o :: rest) a w :=
  wl hgd _ _ (by simp only [execOp, ho, hx, hf w g off, Sem.run_bind, Sem.run_pure, Result.andThen_ok]) h
end
set_option maxHeartbeats 8000000 in
set_option maxRecDepth 100000 in
theorem chunkChecks_any (vc v : Value) (cs : List Nat) (i n : Int) (row : List (List Nat)) (r : List Nat) (w : World) (hc : SliceIn w vc cs) (h : HIn w v row) (hr : IsH r) (ht : TabIn w) (hst : StartIn w) (hn0 : -9223372036854775808 ≤ n) (hn : n ≤ 9223372036854775807) :
    Calls Tryd.prog 5 #[vc, heldV i n v r] w fun e w' => e = .returned (.bool true) ∧ Below w.heap.size w w' := by
  obtain ⟨g, hg⟩ : ∃ g, g = w.heap.size := ⟨_, rfl⟩
  obtain ⟨b, hb⟩ : ∃ b, Cut.check cs i n row r = b := ⟨_, rfl⟩
  have HB : Hid (Cut.check cs i n row r = b) := hb
  clear hb
  go_enter Tryd.func5, Tryd.ntmps5
  go_wp2_with ((first
    | (refine wpList_box (.tmp 1) rfl rfl (heldCells i n v r) rfl ?_; rw [← hg]; intro w1 r1 s1 b1; have R1 : Hid (HeldIs w1 g i n v r ∧ Below w.heap.size w w1) := ⟨⟨hr, r1⟩, hg ▸ b1⟩; clear r1 s1 b1 hg)
    | (go_at_call 18; refine (cshown_any w1 (ht.later R1.out.2) (hst.later R1.out.2)).mono ?_; rintro e w2 ⟨rfl, b2⟩; have R2 : Hid (HeldIs w2 g i n v r ∧ Below w.heap.size w w2) := ⟨R1.out.1.next b2, below_append R1.out.2 b2⟩; clear b2)
    | (refine wl_fieldC f45_0 (.tmp 3) rfl rfl g 0 rfl ?_)
    | (refine wl_fieldC f45_1 (.tmp 3) rfl rfl g 0 rfl ?_)
    | (refine wl_fieldC f45_2 (.tmp 3) rfl rfl g 0 rfl ?_)
    | (refine wl_fieldC f45_3 (.tmp 3) rfl rfl g 0 rfl ?_)
    | (refine wl_load1 one3 (.tmp 10) rfl rfl g (0 + 0) rfl (.int .i64 i) R2.out.1.fi ?_)
    | (refine wl_load1 one3 (.tmp 12) rfl rfl g (0 + 1) rfl (.int .i64 n) R2.out.1.fn ?_)
    | (refine wl_load1 one24 (.tmp 14) rfl rfl g (0 + 2) rfl v R2.out.1.fv ?_)
    | (refine wl_load (.tmp 16) rfl rfl _ rfl r R2.out.1.fr ?_)
    | (go_at_call 25; refine (ccheck_any vc v cs i n row r w2 (hc.later R2.out.2) (h.later R2.out.2) hr (ht.later R2.out.2) (hst.later R2.out.2) hn0 hn).mono ?_; rw [HB.out]; rintro e w3 ⟨rfl, b3⟩; have R3 : Hid (HeldIs w3 g i n v r ∧ Below w.heap.size w w3) := ⟨R2.out.1.next b3, below_append R2.out.2 b3⟩; clear b3)
    | (refine wl_load1 one3 (.tmp 20) rfl rfl g (0 + 0) rfl (.int .i64 i) R3.out.1.fi ?_)
    | (refine wl_load1 one3 (.tmp 22) rfl rfl g (0 + 1) rfl (.int .i64 n) R3.out.1.fn ?_)
    | (refine wl_load1 one24 (.tmp 24) rfl rfl g (0 + 2) rfl v R3.out.1.fv ?_)
    | (refine wl_load (.tmp 26) rfl rfl _ rfl r R3.out.1.fr ?_)
    | (go_at_call 26; refine (rcheck_any vc v cs i n row r w3 (hc.later R3.out.2) (h.later R3.out.2) hr hn).mono ?_; rw [HB.out]; rintro e w4 ⟨rfl, b4⟩; have R4 : Hid (Below w.heap.size w w4) := below_append R3.out.2 b4; clear b4)); try simp only [Act.put, List.setIfInBounds_toArray, List.set_cons_succ, List.set_cons_zero])
  go_ret
  exact ⟨by cases b <;> rfl, R4.out⟩
end Go.Proofs.YtfnncccioipjcaaDoor

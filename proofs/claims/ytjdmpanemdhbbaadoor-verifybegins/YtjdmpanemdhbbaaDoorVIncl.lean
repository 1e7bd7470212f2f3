/- verify.Inclusion, and the document's: any numbers. -/
import Derived.Test.YtjdmpanemdhbbaaDoorRUp
namespace Go.Proofs.YtjdmpanemdhbbaaDoor
open Go.RowKit

theorem inclOk_bad {leaf root : List Nat} {m n : Int} {row : List (List Nat)} (h : m < 0 ∨ n ≤ m) : Tree.inclOk leaf m n row root = false := by
  unfold Tree.inclOk
  rw [decide_eq_false (by omega), Bool.false_and]
theorem inclOk_good {leaf root : List Nat} {m n : Nat} {row : List (List Nat)} (h : m < n) : Tree.inclOk leaf m n row root = decide (Tree.up leaf m n row = some root) := by
  unfold Tree.inclOk
  rw [decide_eq_true (by omega), Bool.true_and, Int.toNat_natCast, Int.toNat_natCast]
theorem inclOk_no {leaf root : List Nat} {m n : Nat} {row : List (List Nat)} (h : m < n) (hu : Tree.up leaf m n row = none) : Tree.inclOk leaf m n row root = false := by rw [inclOk_good h, hu]; rfl
theorem inclOk_yes {leaf root z : List Nat} {m n : Nat} {row : List (List Nat)} (h : m < n) (hu : Tree.up leaf m n row = some z) : Tree.inclOk leaf m n row root = decide (z = root) := by rw [inclOk_good h, hu]; simp

set_option maxHeartbeats 1000000 in
theorem vincl_bad (leaf root : List Nat) (m n : Int) (v : Value) (row : List (List Nat)) (w : World) (hl : IsH leaf) (hr : IsH root) (hm : m < 0 ∨ n ≤ m) :
    Calls Tryd.prog 10 #[hv leaf, .int .i64 m, .int .i64 n, v, hv root] w fun e w' => e = .returned (.bool (Tree.inclOk leaf m n row root)) ∧ Below w.heap.size w w' := by
  have HU : Hid (Tree.inclOk leaf m n row root = false) := inclOk_bad hm
  have HH : Hid (IsH leaf ∧ IsH root) := ⟨hl, hr⟩
  clear hl hr
  by_cases h0 : m < 0
  · clear hm
    go_enter Tryd.func10, Tryd.ntmps10
    go_wp2_with (first
      | (refine wl_box (.tmp 0) rfl rfl leaf HH.out.1 rfl ?_; intro w1 r1 s1 b1; have R1 : Hid (Below w.heap.size w w1) := b1; clear r1 s1 b1)
      | (refine wl_box (.tmp 4) rfl rfl root HH.out.2 rfl ?_; intro w2 r2 s2 b2; have R2 : Hid (Below w.heap.size w w2) := below_append R1.out b2; clear r2 s2 b2))
    go_ret
    exact ⟨by rw [HU.out]; rfl, R2.out⟩
  · have h1 : n ≤ m := by omega
    clear hm
    go_enter Tryd.func10, Tryd.ntmps10
    go_wp2_with (first
      | (refine wl_box (.tmp 0) rfl rfl leaf HH.out.1 rfl ?_; intro w1 r1 s1 b1; have R1 : Hid (Below w.heap.size w w1) := b1; clear r1 s1 b1)
      | (refine wl_box (.tmp 4) rfl rfl root HH.out.2 rfl ?_; intro w2 r2 s2 b2; have R2 : Hid (Below w.heap.size w w2) := below_append R1.out b2; clear r2 s2 b2))
    go_ret
    exact ⟨by rw [HU.out]; rfl, R2.out⟩

set_option maxHeartbeats 1000000 in
theorem rincl_bad (leaf root : List Nat) (m n : Int) (v : Value) (row : List (List Nat)) (w : World) (hl : IsH leaf) (hr : IsH root) (hm : m < 0 ∨ n ≤ m) :
    Calls Tryd.prog 11 #[hv leaf, .int .i64 m, .int .i64 n, v, hv root] w fun e w' => e = .returned (.bool (Tree.inclOk leaf m n row root)) ∧ Below w.heap.size w w' := by
  have HU : Hid (Tree.inclOk leaf m n row root = false) := inclOk_bad hm
  have HH : Hid (IsH leaf ∧ IsH root) := ⟨hl, hr⟩
  clear hl hr
  by_cases h0 : m < 0
  · clear hm
    go_enter Tryd.func11, Tryd.ntmps11
    go_wp2_with (first
      | (refine wl_box (.tmp 0) rfl rfl leaf HH.out.1 rfl ?_; intro w1 r1 s1 b1; have R1 : Hid (Below w.heap.size w w1) := b1; clear r1 s1 b1)
      | (refine wl_box (.tmp 4) rfl rfl root HH.out.2 rfl ?_; intro w2 r2 s2 b2; have R2 : Hid (Below w.heap.size w w2) := below_append R1.out b2; clear r2 s2 b2))
    go_ret
    exact ⟨by rw [HU.out]; rfl, R2.out⟩
  · have h1 : n ≤ m := by omega
    clear hm
    go_enter Tryd.func11, Tryd.ntmps11
    go_wp2_with (first
      | (refine wl_box (.tmp 0) rfl rfl leaf HH.out.1 rfl ?_; intro w1 r1 s1 b1; have R1 : Hid (Below w.heap.size w w1) := b1; clear r1 s1 b1)
      | (refine wl_box (.tmp 4) rfl rfl root HH.out.2 rfl ?_; intro w2 r2 s2 b2; have R2 : Hid (Below w.heap.size w w2) := below_append R1.out b2; clear r2 s2 b2))
    go_ret
    exact ⟨by rw [HU.out]; rfl, R2.out⟩

set_option maxHeartbeats 2000000 in
set_option maxRecDepth 100000 in
theorem vincl_good (leaf root : List Nat) (m n : Nat) (v : Value) (row : List (List Nat)) (w : World) (hl : IsH leaf) (hr : IsH root) (h : HIn w v row) (ht : TabIn w) (hst : StartIn w) (hm : m < n) (hn : n ≤ 9223372036854775807) :
    Calls Tryd.prog 10 #[hv leaf, .int .i64 (m : Nat), .int .i64 (n : Nat), v, hv root] w fun e w' => e = .returned (.bool (Tree.inclOk leaf m n row root)) ∧ Below w.heap.size w w' := by
  have HH : Hid (IsH leaf ∧ IsH root) := ⟨hl, hr⟩
  have h0 : ¬ (m : Int) < 0 := by omega
  have h1 : ¬ (n : Int) ≤ (m : Int) := by omega
  obtain ⟨B, hB⟩ : ∃ B, B = w.heap.size := ⟨_, rfl⟩
  have HB : Hid (B = w.heap.size) := hB
  clear hl hr hB
  go_enter Tryd.func10, Tryd.ntmps10
  go_wp2_with (first
    | (refine wl_box (.tmp 0) rfl rfl leaf HH.out.1 rfl ?_; rw [← HB.out]; intro w1 r1 s1 b1; have R1 : Hid (HIs w1 B leaf ∧ Below w.heap.size w w1 ∧ w1.heap.size = B + 1) := ⟨r1, HB.out ▸ b1, s1⟩; clear r1 s1 b1)
    | (refine wl_box (.tmp 4) rfl rfl root HH.out.2 rfl ?_; rw [R1.out.2.2]; intro w2 r2 s2 b2; have R2 : Hid (HIs w2 B leaf ∧ HIs w2 (B + 1) root ∧ Below w.heap.size w w2 ∧ w2.heap.size = B + 2) := ⟨R1.out.1.next (R1.out.2.2 ▸ b2), r2, below_append R1.out.2.1 (R1.out.2.2 ▸ b2), s2⟩; clear r2 s2 b2)
    | (refine wl_alloc1 .nilFunc zero44 rfl rfl rfl ?_; rw [R2.out.2.2.2]; intro w3 r3 s3 b3; have R3 : Hid (HIs w3 B leaf ∧ HIs w3 (B + 1) root ∧ Below w.heap.size w w3 ∧ Row w3 (B + 2) 44 [.nilFunc]) := ⟨R2.out.1.next (R2.out.2.2.2 ▸ b3), R2.out.2.1.next (R2.out.2.2.2 ▸ b3), below_append R2.out.2.2.1 (R2.out.2.2.2 ▸ b3), r3⟩; clear r3 s3 b3)
    | (refine wl_makeFunc (.func 23) (.tmp 5) (.tmp 11) rfl rfl (pt B) (pt (B + 2)) rfl rfl ?_)
    | (refine wl_store1 size44 (.tmp 11) (.tmp 21) rfl rfl rfl (B + 2) 44 .nilFunc rfl (fv23 B (B + 2)) rfl ⟨rfl, rfl⟩ R3.out.2.2.2 ?_; intro w4 r4 o4 s4; have R4 : Hid (HIs w4 B leaf ∧ HIs w4 (B + 1) root ∧ Below w.heap.size w w4 ∧ Row w4 (B + 2) 44 [fv23 B (B + 2)]) := ⟨R3.out.1.other o4 (by omega), R3.out.2.1.other o4 (by omega), R3.out.2.2.1.trans (o4.below (by rw [← HB.out]; omega) R3.out.2.2.1.size), r4⟩; clear r4 o4 s4)
    | (refine wl_load1 one44 (.tmp 11) rfl rfl (B + 2) 0 rfl (.func (.func 23) #[] #[.pointer (some ⟨B, 0, none⟩), .pointer (some ⟨B + 2, 0, none⟩)]) (R4.out.2.2.2.at 0 _ rfl) ?_))
  refine (up1_any B (B + 2) leaf n m v row w4 (by omega) hn hm (h.later R4.out.2.2.1) (ht.later R4.out.2.2.1) (hst.later R4.out.2.2.1) R4.out.1 R4.out.2.2.2).mono ?_
  rcases hO : Tree.up leaf m n row with _ | z
  · intro e w5 t5
    obtain ⟨q, rfl, hq, b5⟩ := t5.no
    have HU : Hid (Tree.inclOk leaf m n row root = false) := inclOk_no hm hO
    have R5 : Hid (Below w.heap.size w w5 ∧ IsH q) := ⟨below_append R4.out.2.2.1 b5, hq⟩
    clear t5 hq b5 hO R4
    go_wp2_with (first
      | (refine wl_new rfl rfl rfl rfl rfl (.tmp 28) rfl q R5.out.2 (fun _ => rfl) (fun _ => rfl) ?_; intro w6 r6 s6 b6; have R6 : Hid (Below w.heap.size w w6) := below_append R5.out.1 b6; clear r6 s6 b6))
    go_ret
    exact ⟨by rw [HU.out]; rfl, R6.out⟩
  · intro e w5 t5
    obtain ⟨rfl, hz, b5⟩ := t5.yes
    have HU : Hid (Tree.inclOk leaf m n row root = decide (z = root)) := inclOk_yes hm hO
    have R5 : Hid (Below w.heap.size w w5 ∧ IsH z ∧ HIs w5 (B + 1) root) := ⟨below_append R4.out.2.2.1 b5, hz, R4.out.2.1.next b5⟩
    clear t5 hz b5 hO R4
    obtain ⟨bb, hbb⟩ : ∃ bb, decide (z = root) = bb := ⟨_, rfl⟩
    have HBB : Hid (decide (z = root) = bb) := hbb
    rw [hbb] at HU
    clear hbb
    go_wp2_with (first
      | (refine wl_new rfl rfl rfl rfl rfl (.tmp 28) rfl z R5.out.2.1 (fun _ => rfl) (fun _ => rfl) ?_; intro w6 r6 s6 b6; have R6 : Hid (Below w.heap.size w w6 ∧ HIs w6 (B + 1) root ∧ HIs w6 w5.heap.size z) := ⟨below_append R5.out.1 b6, R5.out.2.2.next b6, r6⟩; clear r6 s6 b6)
      | (refine wl_load (.tmp 12) rfl rfl _ rfl z R6.out.2.2.at ?_)
      | (refine wl_load (.tmp 9) rfl rfl _ rfl root R6.out.2.1.at ?_)
      | (refine wl_eq (.tmp 32) (.tmp 33) rfl rfl z root R5.out.2.1 R5.out.2.2.1 rfl rfl ?_; rw [HBB.out]))
    go_ret
    exact ⟨by rw [HU.out]; rfl, R6.out.1⟩
set_option maxHeartbeats 2000000 in
set_option maxRecDepth 100000 in
theorem rincl_good (leaf root : List Nat) (m n : Nat) (v : Value) (row : List (List Nat)) (w : World) (hl : IsH leaf) (hr : IsH root) (h : HIn w v row) (hm : m < n) (hn : n ≤ 9223372036854775807) :
    Calls Tryd.prog 11 #[hv leaf, .int .i64 (m : Nat), .int .i64 (n : Nat), v, hv root] w fun e w' => e = .returned (.bool (Tree.inclOk leaf m n row root)) ∧ Below w.heap.size w w' := by
  have HH : Hid (IsH leaf ∧ IsH root) := ⟨hl, hr⟩
  have h0 : ¬ (m : Int) < 0 := by omega
  have h1 : ¬ (n : Int) ≤ (m : Int) := by omega
  clear hl hr
  go_enter Tryd.func11, Tryd.ntmps11
  go_wp2_with (first
    | (refine wl_box (.tmp 0) rfl rfl leaf HH.out.1 rfl ?_; intro w1 r1 s1 b1; have R1 : Hid (HIs w1 w.heap.size leaf ∧ Below w.heap.size w w1) := ⟨r1, b1⟩; clear r1 s1 b1)
    | (refine wl_box (.tmp 4) rfl rfl root HH.out.2 rfl ?_; intro w2 r2 s2 b2; have R2 : Hid (HIs w2 w.heap.size leaf ∧ HIs w2 w1.heap.size root ∧ Below w.heap.size w w2) := ⟨R1.out.1.next b2, r2, below_append R1.out.2 b2⟩; clear r2 s2 b2)
    | (refine wl_load (.tmp 5) rfl rfl _ rfl leaf R2.out.1.at ?_))
  generalize w1.heap.size = gr at R2 ⊢
  refine (rup_any leaf HH.out.1 n m v row w2 (by omega) hn hm (h.later R2.out.2.2)).mono ?_
  rcases hO : Tree.up leaf m n row with _ | z
  · intro e w5 t5
    obtain ⟨q, rfl, hq, b5⟩ := t5.no
    have HU : Hid (Tree.inclOk leaf m n row root = false) := inclOk_no hm hO
    have R5 : Hid (Below w.heap.size w w5 ∧ IsH q) := ⟨below_append R2.out.2.2 b5, hq⟩
    clear t5 hq b5 hO R2
    go_wp2_with (first
      | (refine wl_new rfl rfl rfl rfl rfl (.tmp 26) rfl q R5.out.2 (fun _ => rfl) (fun _ => rfl) ?_; intro w6 r6 s6 b6; have R6 : Hid (Below w.heap.size w w6) := below_append R5.out.1 b6; clear r6 s6 b6))
    go_ret
    exact ⟨by rw [HU.out]; rfl, R6.out⟩
  · intro e w5 t5
    obtain ⟨rfl, hz, b5⟩ := t5.yes
    have HU : Hid (Tree.inclOk leaf m n row root = decide (z = root)) := inclOk_yes hm hO
    have R5 : Hid (Below w.heap.size w w5 ∧ IsH z ∧ HIs w5 gr root) := ⟨below_append R2.out.2.2 b5, hz, R2.out.2.1.next b5⟩
    clear t5 hz b5 hO R2
    obtain ⟨bb, hbb⟩ : ∃ bb, decide (z = root) = bb := ⟨_, rfl⟩
    have HBB : Hid (decide (z = root) = bb) := hbb
    rw [hbb] at HU
    clear hbb
    go_wp2_with (first
      | (refine wl_new rfl rfl rfl rfl rfl (.tmp 26) rfl z R5.out.2.1 (fun _ => rfl) (fun _ => rfl) ?_; intro w6 r6 s6 b6; have R6 : Hid (Below w.heap.size w w6 ∧ HIs w6 gr root ∧ HIs w6 w5.heap.size z) := ⟨below_append R5.out.1 b6, R5.out.2.2.next b6, r6⟩; clear r6 s6 b6)
      | (refine wl_load (.tmp 11) rfl rfl _ rfl z R6.out.2.2.at ?_)
      | (refine wl_load (.tmp 9) rfl rfl _ rfl root R6.out.2.1.at ?_)
      | (refine wl_eq (.tmp 30) (.tmp 31) rfl rfl z root R5.out.2.1 R5.out.2.2.1 rfl rfl ?_; rw [HBB.out]))
    go_ret
    exact ⟨by rw [HU.out]; rfl, R6.out.1⟩

theorem vincl_any (leaf root : List Nat) (m n : Int) (v : Value) (row : List (List Nat)) (w : World) (hl : IsH leaf) (hr : IsH root) (h : HIn w v row) (ht : TabIn w) (hst : StartIn w) (hn : n ≤ 9223372036854775807) :
    Calls Tryd.prog 10 #[hv leaf, .int .i64 m, .int .i64 n, v, hv root] w fun e w' => e = .returned (.bool (Tree.inclOk leaf m n row root)) ∧ Below w.heap.size w w' := by
  by_cases hm : m < 0 ∨ n ≤ m
  · exact vincl_bad leaf root m n v row w hl hr hm
  · obtain ⟨k, rfl⟩ : ∃ k : Nat, m = (k : Int) := ⟨m.toNat, by omega⟩
    obtain ⟨j, rfl⟩ : ∃ j : Nat, n = (j : Int) := ⟨n.toNat, by omega⟩
    exact vincl_good leaf root k j v row w hl hr h ht hst (by omega) (by omega)
theorem rincl_any (leaf root : List Nat) (m n : Int) (v : Value) (row : List (List Nat)) (w : World) (hl : IsH leaf) (hr : IsH root) (h : HIn w v row) (hn : n ≤ 9223372036854775807) :
    Calls Tryd.prog 11 #[hv leaf, .int .i64 m, .int .i64 n, v, hv root] w fun e w' => e = .returned (.bool (Tree.inclOk leaf m n row root)) ∧ Below w.heap.size w w' := by
  by_cases hm : m < 0 ∨ n ≤ m
  · exact rincl_bad leaf root m n v row w hl hr hm
  · obtain ⟨k, rfl⟩ : ∃ k : Nat, m = (k : Int) := ⟨m.toNat, by omega⟩
    obtain ⟨j, rfl⟩ : ∃ j : Nat, n = (j : Int) := ⟨n.toNat, by omega⟩
    exact rincl_good leaf root k j v row w hl hr h (by omega) (by omega)
end Go.Proofs.YtjdmpanemdhbbaaDoor

/- tree.Inclusion and tree.Consistency where there is a proof. -/
import Derived.Test.YtjdmpanemdhbbaaDoorIncl
namespace Go.Proofs.YtjdmpanemdhbbaaDoor
open Go.RowKit

set_option maxHeartbeats 1000000 in
set_option maxRecDepth 100000 in
theorem incl_good (v : Value) (hs : List (List Nat)) (m : Nat) (w : World) (h : HIn w v hs) (ht : TabIn w) (hst : StartIn w) (hm : m < hs.length) (hmax : hs.length ≤ 1099511627776) :
    Calls Tryd.prog 17 #[v, .int .i64 (m : Nat)] w fun e w' => Tells w (inclAns hs m) (inclErr hs m) e w' := by
  have HA : Hid (inclAns hs m = Tree.incl hs m ∧ inclErr hs m = 0) := by
    unfold inclAns inclErr
    refine ⟨?_, if_pos (by omega)⟩
    rw [if_pos (by omega)]
    rfl
  have h1 : ¬ (m : Int) < 0 := by omega
  have h2 : ¬ (hs.length : Int) ≤ (m : Int) := by omega
  have hP : ([] : List (List Nat)).length + (Tree.incl hs m).length ≤ 1000 := by have := incl_short hs m hmax; simp; omega
  obtain ⟨B, hB⟩ : ∃ B, B = w.heap.size := ⟨_, rfl⟩
  have HB : Hid (B = w.heap.size) := hB
  have HL : Hid (Lie w (B + 1) B (B + 2)) := by refine ⟨?_, ?_, ?_, ?_, ?_⟩ <;> omega
  clear hB
  go_enter Tryd.func17, Tryd.ntmps17
  go_wp2_with (first
    | (refine wl_len (.tmp 12) rfl rfl v hs rfl h ?_)
    | (refine wl_alloc1 (.slice none 0 0) zero24 rfl rfl rfl ?_; rw [← HB.out]; intro w1 r1 s1 b1; have R1 : Hid (Row w1 B 24 [.slice none 0 0] ∧ w1.heap.size = B + 1 ∧ Below B w w1) := ⟨r1, s1, b1⟩; clear r1 s1 b1)
    | (refine wl_alloc1 .nilFunc zero48 rfl rfl rfl ?_; rw [R1.out.2.1]; intro w2 r2 s2 b2; have R2 : Hid (Row w2 B 24 [.slice none 0 0] ∧ Row w2 (B + 1) 58 [.nilFunc] ∧ w2.heap.size = B + 2 ∧ Below B w w2) := ⟨R1.out.1.later b2 (by omega), r2, by omega, R1.out.2.2.trans (b2.mono (by omega))⟩; clear r2 s2 b2 R1)
    | (refine wl_makeFunc (.func 32) (.tmp 7) (.tmp 6) rfl rfl (pt (B + 1)) (pt B) rfl rfl ?_)
    | (refine wl_store1 size48 (.tmp 7) (.tmp 16) rfl rfl rfl (B + 1) 58 .nilFunc rfl (fv33 (B + 1) B) rfl ⟨rfl, rfl⟩ R2.out.2.1 ?_; intro w3 r3 o3 s3; have R3 : Hid (PrIn w3 (B + 1) B 58 (B + 2) (fv33 (B + 1) B) [] ∧ Row w3 (B + 1) 58 [fv33 (B + 1) B] ∧ Below w.heap.size w w3) := ⟨⟨.slice none 0 0, r3, o3.row (by omega) R2.out.1, HOwn.nil _ _, by rw [s3, R2.out.2.2.1]; exact Nat.le_refl _⟩, r3, HB.out ▸ (R2.out.2.2.2.trans (o3.below (by omega) (by have := R2.out.2.2.1; omega)))⟩; clear r3 o3 s3 R2)
    | (refine wl_load1 one48 (.tmp 7) rfl rfl (B + 1) 0 rfl (.func (.func 32) #[] #[.pointer (some ⟨B + 1, 0, none⟩), .pointer (some ⟨B, 0, none⟩)]) (R3.out.2.1.at 0 _ rfl) ?_)
    | (go_at_call 32; refine (incl1_any w ht hst (B + 1) B (B + 2) HL.out hs.length v hs m [] w3 rfl hmax hm hP h R3.out.1 R3.out.2.2).mono ?_; rintro e w4 ⟨rfl, p4, b4⟩; obtain ⟨pv, q1, q2, q3, q4⟩ := p4; have R4 : Hid (Row w4 B 24 [pv] ∧ HOwn w4 w.heap.size pv (Tree.incl hs m) ∧ Below w.heap.size w w4) := ⟨q2, q3.weaken (by have := HB.out; omega), b4⟩; clear q1 q2 q3 q4 b4)
    | (refine wl_load1 one24 (.tmp 6) rfl rfl B 0 rfl pv (R4.out.1.at 0 _ rfl) ?_))
  go_ret2
  exact ⟨_, by rw [HA.out.2]; rfl, by rw [HA.out.1]; exact R4.out.2.1, R4.out.2.2⟩

set_option maxHeartbeats 1000000 in
set_option maxRecDepth 100000 in
theorem cons_good (v : Value) (hs : List (List Nat)) (m : Nat) (w : World) (h : HIn w v hs) (ht : TabIn w) (hst : StartIn w) (h1m : 1 ≤ m) (hm : m ≤ hs.length) (hmax : hs.length ≤ 1099511627776) :
    Calls Tryd.prog 18 #[v, .int .i64 (m : Nat)] w fun e w' => Tells w (consAns hs m) (consErr hs m) e w' := by
  have HA : Hid (consAns hs m = Tree.part hs m true ∧ consErr hs m = 0) := by
    unfold consAns consErr
    refine ⟨?_, if_pos (by omega)⟩
    rw [if_pos (by omega)]
    rfl
  have h1 : ¬ (m : Int) < 0 := by omega
  have h2 : ¬ (hs.length : Int) < (m : Int) := by omega
  have h3 : ¬ (m : Int) = 0 := by omega
  have h3' : ((m : Int) == 0) = false := by simpa using h3
  have hP : ([] : List (List Nat)).length + (Tree.part hs m true).length ≤ 1000 := by have := part_short hs m true hmax; simp; omega
  obtain ⟨B, hB⟩ : ∃ B, B = w.heap.size := ⟨_, rfl⟩
  have HB : Hid (B = w.heap.size) := hB
  have HL : Hid (Lie w (B + 1) B (B + 2)) := by refine ⟨?_, ?_, ?_, ?_, ?_⟩ <;> omega
  clear hB
  go_enter Tryd.func18, Tryd.ntmps18
  go_wp2_with (first
    | (refine wl_len (.tmp 12) rfl rfl v hs rfl h ?_)
    | (refine wl_alloc1 (.slice none 0 0) zero24 rfl rfl rfl ?_; rw [← HB.out]; intro w1 r1 s1 b1; have R1 : Hid (Row w1 B 24 [.slice none 0 0] ∧ w1.heap.size = B + 1 ∧ Below B w w1) := ⟨r1, s1, b1⟩; clear r1 s1 b1)
    | (refine wl_alloc1 .nilFunc zero50 rfl rfl rfl ?_; rw [R1.out.2.1]; intro w2 r2 s2 b2; have R2 : Hid (Row w2 B 24 [.slice none 0 0] ∧ Row w2 (B + 1) 59 [.nilFunc] ∧ w2.heap.size = B + 2 ∧ Below B w w2) := ⟨R1.out.1.later b2 (by omega), r2, by omega, R1.out.2.2.trans (b2.mono (by omega))⟩; clear r2 s2 b2 R1)
    | (refine wl_makeFunc (.func 33) (.tmp 6) (.tmp 7) rfl rfl (pt B) (pt (B + 1)) rfl rfl ?_)
    | (refine wl_store1 size50 (.tmp 7) (.tmp 18) rfl rfl rfl (B + 1) 59 .nilFunc rfl (fv35 (B + 1) B) rfl ⟨rfl, rfl⟩ R2.out.2.1 ?_; intro w3 r3 o3 s3; have R3 : Hid (PrIn w3 (B + 1) B 59 (B + 2) (fv35 (B + 1) B) [] ∧ Row w3 (B + 1) 59 [fv35 (B + 1) B] ∧ Below w.heap.size w w3) := ⟨⟨.slice none 0 0, r3, o3.row (by omega) R2.out.1, HOwn.nil _ _, by rw [s3, R2.out.2.2.1]; exact Nat.le_refl _⟩, r3, HB.out ▸ (R2.out.2.2.2.trans (o3.below (by omega) (by have := R2.out.2.2.1; omega)))⟩; clear r3 o3 s3 R2)
    | (refine wl_load1 one50 (.tmp 7) rfl rfl (B + 1) 0 rfl (.func (.func 33) #[] #[.pointer (some ⟨B, 0, none⟩), .pointer (some ⟨B + 1, 0, none⟩)]) (R3.out.2.1.at 0 _ rfl) ?_)
    | (go_at_call 33; refine (cons1_any w ht hst (B + 1) B (B + 2) HL.out hs.length v hs m true [] w3 rfl hmax h1m hm hP h R3.out.1 R3.out.2.2).mono ?_; rintro e w4 ⟨rfl, p4, b4⟩; obtain ⟨pv, q1, q2, q3, q4⟩ := p4; have R4 : Hid (Row w4 B 24 [pv] ∧ HOwn w4 w.heap.size pv (Tree.part hs m true) ∧ Below w.heap.size w w4) := ⟨q2, q3.weaken (by have := HB.out; omega), b4⟩; clear q1 q2 q3 q4 b4)
    | (refine wl_load1 one24 (.tmp 6) rfl rfl B 0 rfl pv (R4.out.1.at 0 _ rfl) ?_))
  go_ret2
  exact ⟨_, by rw [HA.out.2]; rfl, by rw [HA.out.1]; exact R4.out.2.1, R4.out.2.2⟩

theorem incl_any (v : Value) (hs : List (List Nat)) (m : Int) (w : World) (h : HIn w v hs) (ht : TabIn w) (hst : StartIn w) (hmax : hs.length ≤ 1099511627776) :
    Calls Tryd.prog 17 #[v, .int .i64 m] w fun e w' => Tells w (inclAns hs m) (inclErr hs m) e w' := by
  by_cases hm : m < 0 ∨ (hs.length : Int) ≤ m
  · exact incl_bad v hs m w h hm
  · obtain ⟨k, rfl⟩ : ∃ k : Nat, m = (k : Int) := ⟨m.toNat, by omega⟩
    exact incl_good v hs k w h ht hst (by omega) hmax
theorem cons_any (v : Value) (hs : List (List Nat)) (m : Int) (w : World) (h : HIn w v hs) (ht : TabIn w) (hst : StartIn w) (hmax : hs.length ≤ 1099511627776) :
    Calls Tryd.prog 18 #[v, .int .i64 m] w fun e w' => Tells w (consAns hs m) (consErr hs m) e w' := by
  by_cases hm : m < 0 ∨ (hs.length : Int) < m
  · exact cons_bad v hs m w h hm
  · obtain ⟨k, rfl⟩ : ∃ k : Nat, m = (k : Int) := ⟨m.toNat, by omega⟩
    by_cases h0 : k = 0
    · subst h0
      exact cons_zero v hs w h
    · exact cons_good v hs k w h ht hst (by omega) (by omega) hmax
end Go.Proofs.YtjdmpanemdhbbaaDoor

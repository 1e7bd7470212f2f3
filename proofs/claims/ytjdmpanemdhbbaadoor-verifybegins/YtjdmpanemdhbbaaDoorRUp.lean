/- The document's way up. -/
import Derived.Test.YtjdmpanemdhbbaaDoorUp
namespace Go.Proofs.YtjdmpanemdhbbaaDoor
open Go.RowKit

theorem UpTold.mapped {w w' : World} {O : Option (List Nat)} {q r : List Nat} {e : Ending} {f : List Nat → List Nat} {bb : Bool} (hb : O.isSome = bb) (hy : ∀ y, O = some y → q = y) (he : e = .returned (.tuple #[hv r, .bool bb])) (hr : r = f q) (hh : IsH r) (hbl : Below w.heap.size w w') : UpTold w (O.map f) e w' := by
  refine ⟨r, by rw [he, Option.isSome_map, hb], hh, fun y h => ?_, hbl⟩
  obtain ⟨z, hz, rfl⟩ := Option.map_eq_some_iff.1 h
  rw [hr, hy z hz]
set_option maxHeartbeats 1000000 in
set_option maxRecDepth 100000 in
theorem rup_one (x : List Nat) (m : Nat) (v : Value) (row : List (List Nat)) (W : World) (h : HIn W v row) (hx : IsH x) :
    Calls Tryd.prog 26 #[hv x, .int .i64 (m : Nat), .int .i64 1, v] W fun e W' => UpTold W (Tree.up x m 1 row) e W' := by
  obtain ⟨k, hk⟩ : ∃ k, row.length = k := ⟨_, rfl⟩
  have HK : Hid (row.length = k) := hk
  have HX : Hid (IsH x) := hx
  clear hx
  by_cases hk0 : k = 0
  · have HU : Hid (Tree.up x m 1 row = some x) := by show _ = _; rw [Tree.up_one _ _ _ _ (by decide), if_pos (by omega)]
    clear hk
    subst hk0
    go_enter Tryd.func26, Tryd.ntmps26
    go_wp2_with (first
      | (refine wl_box (.tmp 0) rfl rfl x HX.out rfl ?_; intro w1 r1 s1 b1; have R1 : Hid (HIs w1 W.heap.size x ∧ Below W.heap.size W w1) := ⟨r1, b1⟩; clear r1 s1 b1)
      | (refine wl_alloc rfl rfl ?_; intro w2 r2 s2 b2; have R2 : Hid (HIs w2 w1.heap.size noH ∧ HIs w2 W.heap.size x ∧ Below W.heap.size W w2 ∧ W.heap.size ≤ w1.heap.size) := ⟨r2, R1.out.1.next b2, below_append R1.out.2 b2, R1.out.2.size⟩; clear r2 s2 b2)
      | (refine wl_load (.tmp 4) rfl rfl _ rfl x R2.out.2.1.at ?_)
      | (refine wl_lenN (.tmp 20) rfl rfl v row rfl h 0 HK.out ?_)
      | (refine wl_store (.tmp 8) (.tmp 19) rfl rfl rfl w1.heap.size rfl noH x HX.out rfl R2.out.1 ?_; intro w7 r7 o7 s7; have R7 : Hid (HIs w7 w1.heap.size x ∧ Below W.heap.size W w7) := ⟨r7, R2.out.2.2.1.trans (o7.below R2.out.2.2.2 R2.out.2.2.1.size)⟩; clear r7 o7 s7))
    exact bodyPost_ret (results_HB Tryd.results26 _ _ w1.heap.size rfl _ R7.out.1 _ rfl) rfl ⟨x, by rw [HU.out]; rfl, HX.out, (fun y hy => by rw [HU.out] at hy; exact Option.some.inj hy), R7.out.2⟩
  · have HU : Hid (Tree.up x m 1 row = none) := by show _ = _; rw [Tree.up_one _ _ _ _ (by decide), if_neg (by omega)]
    have hne : ((k : Int) == 0) = false := by simp; omega
    have hne' : ¬ ((k : Int) = 0) := by omega
    clear hk
    go_enter Tryd.func26, Tryd.ntmps26
    go_wp2_with (first
      | (refine wl_box (.tmp 0) rfl rfl x HX.out rfl ?_; intro w1 r1 s1 b1; have R1 : Hid (HIs w1 W.heap.size x ∧ Below W.heap.size W w1) := ⟨r1, b1⟩; clear r1 s1 b1)
      | (refine wl_alloc rfl rfl ?_; intro w2 r2 s2 b2; have R2 : Hid (HIs w2 w1.heap.size noH ∧ HIs w2 W.heap.size x ∧ Below W.heap.size W w2 ∧ W.heap.size ≤ w1.heap.size) := ⟨r2, R1.out.1.next b2, below_append R1.out.2 b2, R1.out.2.size⟩; clear r2 s2 b2)
      | (refine wl_load (.tmp 4) rfl rfl _ rfl x R2.out.2.1.at ?_)
      | (refine wl_lenN (.tmp 20) rfl rfl v row rfl h k HK.out ?_)
      | (refine wl_store (.tmp 8) (.tmp 19) rfl rfl rfl w1.heap.size rfl noH x HX.out rfl R2.out.1 ?_; intro w7 r7 o7 s7; have R7 : Hid (HIs w7 w1.heap.size x ∧ Below W.heap.size W w7) := ⟨r7, R2.out.2.2.1.trans (o7.below R2.out.2.2.2 R2.out.2.2.1.size)⟩; clear r7 o7 s7))
    exact bodyPost_ret (results_HB Tryd.results26 _ _ w1.heap.size rfl _ R7.out.1 _ rfl) rfl ⟨x, by rw [HU.out]; rfl, HX.out, (fun y hy => by rw [HU.out] at hy; cases hy), R7.out.2⟩
set_option maxHeartbeats 1000000 in
set_option maxRecDepth 100000 in
theorem rup_none (x : List Nat) (m n : Nat) (v : Value) (row : List (List Nat)) (W : World) (h : HIn W v row) (hx : IsH x) (h2 : 2 ≤ n) (hr : row.length = 0) :
    Calls Tryd.prog 26 #[hv x, .int .i64 (m : Nat), .int .i64 (n : Nat), v] W fun e W' => UpTold W (Tree.up x m n row) e W' := by
  have HK : Hid (row.length = 0) := hr
  have HX : Hid (IsH x) := hx
  have HU : Hid (Tree.up x m n row = none) := Tree.up_none _ _ _ _ h2 hr
  have hne1 : ((n : Int) == 1) = false := by simp; omega
  have hne1' : ¬ ((n : Int) = 1) := by omega
  clear hr hx
  go_enter Tryd.func26, Tryd.ntmps26
  go_wp2_with (first
    | (refine wl_box (.tmp 0) rfl rfl x HX.out rfl ?_; intro w1 r1 s1 b1; have R1 : Hid (HIs w1 W.heap.size x ∧ Below W.heap.size W w1) := ⟨r1, b1⟩; clear r1 s1 b1)
    | (refine wl_alloc rfl rfl ?_; intro w2 r2 s2 b2; have R2 : Hid (HIs w2 w1.heap.size noH ∧ HIs w2 W.heap.size x ∧ Below W.heap.size W w2 ∧ W.heap.size ≤ w1.heap.size) := ⟨r2, R1.out.1.next b2, below_append R1.out.2 b2, R1.out.2.size⟩; clear r2 s2 b2)
    | (refine wl_load (.tmp 4) rfl rfl _ rfl x R2.out.2.1.at ?_)
    | (refine wl_lenN (.tmp 23) rfl rfl v row rfl h 0 HK.out ?_)
    | (refine wl_store (.tmp 8) (.tmp 26) rfl rfl rfl w1.heap.size rfl noH x HX.out rfl R2.out.1 ?_; intro w7 r7 o7 s7; have R7 : Hid (HIs w7 w1.heap.size x ∧ Below W.heap.size W w7) := ⟨r7, R2.out.2.2.1.trans (o7.below R2.out.2.2.2 R2.out.2.2.1.size)⟩; clear r7 o7 s7))
  exact bodyPost_ret (results_HB Tryd.results26 _ _ w1.heap.size rfl _ R7.out.1 _ rfl) rfl ⟨x, by rw [HU.out]; rfl, HX.out, (fun y hy => by rw [HU.out] at hy; cases hy), R7.out.2⟩

set_option maxHeartbeats 8000000 in
set_option maxRecDepth 100000 in
theorem rup_any (x : List Nat) (hx : IsH x) : ∀ (n m : Nat) (v : Value) (row : List (List Nat)) (W : World), 1 ≤ n → n ≤ 9223372036854775807 → m < n → HIn W v row →
    Calls Tryd.prog 26 #[hv x, .int .i64 (m : Nat), .int .i64 (n : Nat), v] W fun e W' => UpTold W (Tree.up x m n row) e W' := by
  have HX : Hid (IsH x) := hx
  clear hx
  intro n
  induction n using Nat.strongRecOn with
  | _ n ih =>
  intro m v row W h1 hmax hm h
  by_cases hn1 : n = 1
  · subst hn1
    exact rup_one x m v row W h HX.out
  have h2 : 2 ≤ n := by omega
  by_cases hr : row.length = 0
  · exact rup_none x m n v row W h HX.out h2 hr
  have hlm := h.max
  obtain ⟨N, hN⟩ : ∃ N, row.length = N + 1 := ⟨row.length - 1, by omega⟩
  have HN : Hid (row.length = N + 1) := hN
  have hNm : N + 1 ≤ 9223372036854775807 := by omega
  have hneN : ((N : Int) + 1 == 0) = false := by simp; omega
  have hneN' : ¬ ((N : Int) + 1 = 0) := by omega
  have hne1 : ((n : Int) == 1) = false := by simp; omega
  have hne1' : ¬ ((n : Int) = 1) := by omega
  have hk := Tree.half_lt n h2
  have hkp := Tree.half_pos n
  have HK : Hid (∀ W, Calls Tryd.prog 41 #[.int .i64 (n : Nat)] W fun e w' => e = .returned (.int .i64 (Tree.half n : Nat)) ∧ W = w') := fun W => below41 n W h2 hmax
  have hLast : Tree.lastOf row = row.getD N [] := by unfold Tree.lastOf; rw [hN]; rfl
  have hOth : Tree.othersOf row = row.take N := by unfold Tree.othersOf; rw [hN]; rfl
  have HPT : Hid (IsH (row.getD N [])) := by rw [← hLast]; exact last_isH h.all hr
  by_cases hlow : m < Tree.half n
  · have HU : Hid (Tree.up x m n row = (Tree.up x m (Tree.half n) (Tree.othersOf row)).map fun h => Tree.node h (Tree.lastOf row)) := Tree.up_low x m n row h2 hr hlow
    rw [hLast, hOth] at HU
    clear hN hr hLast hOth hlm
    generalize Tree.half n = k at hk hkp HK HU hlow
    have hlow' : (m : Int) < (k : Int) := by omega
    obtain ⟨p, hp⟩ : ∃ p, row.getD N [] = p := ⟨_, rfl⟩
    obtain ⟨ys, hys⟩ : ∃ ys, row.take N = ys := ⟨_, rfl⟩
    have HPY : Hid (row.getD N [] = p ∧ row.take N = ys) := ⟨hp, hys⟩
    rw [hp, hys] at HU
    rw [hp] at HPT
    clear hp hys
    go_enter Tryd.func26, Tryd.ntmps26
    go_wp2_with (first
      | (refine wl_box (.tmp 0) rfl rfl x HX.out rfl ?_; intro w0 r0 s0 b0; have R0 : Hid (HIs w0 W.heap.size x ∧ Below W.heap.size W w0) := ⟨r0, b0⟩; clear r0 s0 b0)
      | (refine wl_alloc rfl rfl ?_; intro w1 r1 s1 b1; have R1 : Hid (HIs w1 w0.heap.size noH ∧ HIs w1 W.heap.size x ∧ Below W.heap.size W w1 ∧ W.heap.size ≤ w0.heap.size) := ⟨r1, R0.out.1.next b1, below_append R0.out.2 b1, R0.out.2.size⟩; clear r1 s1 b1)
      | (refine wl_lenN (.tmp 23) rfl rfl v row rfl h (N + 1) HN.out ?_)
      | (refine wl_lenN (.tmp 28) rfl rfl v row rfl h (N + 1) HN.out ?_)
      | (refine wl_lenN (.tmp 34) rfl rfl v row rfl h (N + 1) HN.out ?_)
      | (refine wl_index (.tmp 27) (.tmp 30) rfl rfl v row rfl (h.later R1.out.2.2.1) _ N rfl (by omega) (by have := HN.out; omega) ?_; intro pa a5; rw [HPY.out.1] at a5; have A5 : Hid (HAt w1 pa p) := a5; clear a5)
      | (refine wl_load (.tmp 31) rfl rfl pa rfl p A5.out ?_)
      | (refine wl_new rfl rfl rfl rfl rfl (.tmp 32) rfl p HPT.out (fun _ => rfl) (fun _ => rfl) ?_; intro w2 r2 s2 b2; have R2 : Hid (HIs w2 w0.heap.size noH ∧ HIs w2 W.heap.size x ∧ Below W.heap.size W w2 ∧ W.heap.size ≤ w0.heap.size ∧ HIs w2 w1.heap.size p) := ⟨R1.out.1.next b2, R1.out.2.1.next b2, below_append R1.out.2.2.1 b2, R1.out.2.2.2, r2⟩; clear r2 s2 b2)
      | (refine wl_to (.tmp 33) (.tmp 36) rfl rfl v row rfl (h.later R2.out.2.2.1) _ N rfl (by omega) (by have := HN.out; omega) ?_; intro vo s6; rw [HPY.out.2] at s6; have S6 : Hid (HIn w2 vo ys) := s6; clear s6)
      | (go_at_call 41; refine (HK.out _).mono ?_; rintro e w3 ⟨rfl, w3e⟩; have R3 : Hid (HIs w3 w0.heap.size noH ∧ HIs w3 W.heap.size x ∧ Below W.heap.size W w3 ∧ W.heap.size ≤ w0.heap.size ∧ HIs w3 w1.heap.size p ∧ HIn w3 vo ys) := (by rw [← w3e]; exact ⟨R2.out.1, R2.out.2.1, R2.out.2.2.1, R2.out.2.2.2.1, R2.out.2.2.2.2, S6.out⟩); clear w3e)
      | (refine wl_load (.tmp 4) rfl rfl _ rfl x R3.out.2.1.at ?_))
    refine (ih k (by omega) m vo ys w3 (by omega) (by omega) (by omega) R3.out.2.2.2.2.2).mono ?_
    rintro e w4 ⟨q, rfl, hq, hy, b4⟩
    obtain ⟨bb, hbb⟩ : ∃ bb, (Tree.up x m k ys).isSome = bb := ⟨_, rfl⟩
    rw [hbb]
    have HB : Hid ((Tree.up x m k ys).isSome = bb ∧ ∀ y, (Tree.up x m k ys) = some y → q = y) := ⟨hbb, hy⟩
    generalize w0.heap.size = g0 at R3 ⊢
    generalize w1.heap.size = gp at R3 ⊢
    have R4 : Hid (HIs w4 g0 noH ∧ (Below W.heap.size W w4 ∧ W.heap.size ≤ g0) ∧ HIs w4 gp p ∧ IsH q) := ⟨R3.out.1.next b4, ⟨below_append R3.out.2.2.1 b4, R3.out.2.2.2.1⟩, R3.out.2.2.2.2.1.next b4, hq⟩
    clear hq hy b4 hbb R3
    go_wp2_with (first
      | (refine wl_new rfl rfl rfl rfl rfl (.tmp 49) rfl q R4.out.2.2.2 (fun _ => rfl) (fun _ => rfl) ?_; intro w5 r5 s5 b5; have R5 : Hid (HIs w5 g0 noH ∧ (Below W.heap.size W w5 ∧ W.heap.size ≤ g0) ∧ HIs w5 gp p ∧ HIs w5 w4.heap.size q) := ⟨R4.out.1.next b5, ⟨below_append R4.out.2.1.1 b5, R4.out.2.1.2⟩, R4.out.2.2.1.next b5, r5⟩; clear r5 s5 b5)
      | (refine wl_load (.tmp 10) rfl rfl _ rfl p R5.out.2.2.1.at ?_)
      | (refine wl_load (.tmp 13) rfl rfl _ rfl q R5.out.2.2.2.at ?_)
      | (go_at_call 36; refine (refNode_any q p R4.out.2.2.2 HPT.out w5).mono ?_; rintro e w6 ⟨rfl, b6⟩; have R6 : Hid (HIs w6 g0 noH ∧ (Below W.heap.size W w6 ∧ W.heap.size ≤ g0)) := ⟨R5.out.1.next b6, below_append R5.out.2.1.1 b6, R5.out.2.1.2⟩; clear b6)
      | (refine wl_store (.tmp 8) (.tmp 53) rfl rfl rfl g0 rfl noH (Tree.node q p) (node_isH _ _) rfl R6.out.1 ?_; intro w7 r7 o7 s7; have R7 : Hid (HIs w7 g0 (Tree.node q p) ∧ Below W.heap.size W w7) := ⟨r7, R6.out.2.1.trans (o7.below R6.out.2.2 R6.out.2.1.size)⟩; clear r7 o7 s7))
    refine bodyPost_ret (results_HB Tryd.results26 _ _ g0 rfl _ R7.out.1 _ rfl) rfl ?_
    rw [HU.out]
    exact UpTold.mapped HB.out.1 HB.out.2 rfl rfl (node_isH _ _) R7.out.2
  · have HU : Hid (Tree.up x m n row = (Tree.up x (m - Tree.half n) (n - Tree.half n) (Tree.othersOf row)).map fun h => Tree.node (Tree.lastOf row) h) := Tree.up_high x m n row h2 hr hlow
    rw [hLast, hOth] at HU
    clear hN hr hLast hOth hlm
    generalize Tree.half n = k at hk hkp HK HU hlow
    have hlow' : ¬ (m : Int) < (k : Int) := by omega
    obtain ⟨p, hp⟩ : ∃ p, row.getD N [] = p := ⟨_, rfl⟩
    obtain ⟨ys, hys⟩ : ∃ ys, row.take N = ys := ⟨_, rfl⟩
    have HPY : Hid (row.getD N [] = p ∧ row.take N = ys) := ⟨hp, hys⟩
    rw [hp, hys] at HU
    rw [hp] at HPT
    clear hp hys
    go_enter Tryd.func26, Tryd.ntmps26
    go_wp2_with (first
      | (refine wl_box (.tmp 0) rfl rfl x HX.out rfl ?_; intro w0 r0 s0 b0; have R0 : Hid (HIs w0 W.heap.size x ∧ Below W.heap.size W w0) := ⟨r0, b0⟩; clear r0 s0 b0)
      | (refine wl_alloc rfl rfl ?_; intro w1 r1 s1 b1; have R1 : Hid (HIs w1 w0.heap.size noH ∧ HIs w1 W.heap.size x ∧ Below W.heap.size W w1 ∧ W.heap.size ≤ w0.heap.size) := ⟨r1, R0.out.1.next b1, below_append R0.out.2 b1, R0.out.2.size⟩; clear r1 s1 b1)
      | (refine wl_lenN (.tmp 23) rfl rfl v row rfl h (N + 1) HN.out ?_)
      | (refine wl_lenN (.tmp 28) rfl rfl v row rfl h (N + 1) HN.out ?_)
      | (refine wl_lenN (.tmp 34) rfl rfl v row rfl h (N + 1) HN.out ?_)
      | (refine wl_index (.tmp 27) (.tmp 30) rfl rfl v row rfl (h.later R1.out.2.2.1) _ N rfl (by omega) (by have := HN.out; omega) ?_; intro pa a5; rw [HPY.out.1] at a5; have A5 : Hid (HAt w1 pa p) := a5; clear a5)
      | (refine wl_load (.tmp 31) rfl rfl pa rfl p A5.out ?_)
      | (refine wl_new rfl rfl rfl rfl rfl (.tmp 32) rfl p HPT.out (fun _ => rfl) (fun _ => rfl) ?_; intro w2 r2 s2 b2; have R2 : Hid (HIs w2 w0.heap.size noH ∧ HIs w2 W.heap.size x ∧ Below W.heap.size W w2 ∧ W.heap.size ≤ w0.heap.size ∧ HIs w2 w1.heap.size p) := ⟨R1.out.1.next b2, R1.out.2.1.next b2, below_append R1.out.2.2.1 b2, R1.out.2.2.2, r2⟩; clear r2 s2 b2)
      | (refine wl_to (.tmp 33) (.tmp 36) rfl rfl v row rfl (h.later R2.out.2.2.1) _ N rfl (by omega) (by have := HN.out; omega) ?_; intro vo s6; rw [HPY.out.2] at s6; have S6 : Hid (HIn w2 vo ys) := s6; clear s6)
      | (go_at_call 41; refine (HK.out _).mono ?_; rintro e w3 ⟨rfl, w3e⟩; have R3 : Hid (HIs w3 w0.heap.size noH ∧ HIs w3 W.heap.size x ∧ Below W.heap.size W w3 ∧ W.heap.size ≤ w0.heap.size ∧ HIs w3 w1.heap.size p ∧ HIn w3 vo ys) := (by rw [← w3e]; exact ⟨R2.out.1, R2.out.2.1, R2.out.2.2.1, R2.out.2.2.2.1, R2.out.2.2.2.2, S6.out⟩); clear w3e)
      | (refine wl_load (.tmp 4) rfl rfl _ rfl x R3.out.2.1.at ?_))
    rw [show (m : Int) - (k : Int) = ((m - k : Nat) : Int) by omega, show (n : Int) - (k : Int) = ((n - k : Nat) : Int) by omega]
    refine (ih (n - k) (by omega) (m - k) vo ys w3 (by omega) (by omega) (by omega) R3.out.2.2.2.2.2).mono ?_
    rintro e w4 ⟨q, rfl, hq, hy, b4⟩
    obtain ⟨bb, hbb⟩ : ∃ bb, (Tree.up x (m - k) (n - k) ys).isSome = bb := ⟨_, rfl⟩
    rw [hbb]
    have HB : Hid ((Tree.up x (m - k) (n - k) ys).isSome = bb ∧ ∀ y, (Tree.up x (m - k) (n - k) ys) = some y → q = y) := ⟨hbb, hy⟩
    generalize w0.heap.size = g0 at R3 ⊢
    generalize w1.heap.size = gp at R3 ⊢
    have R4 : Hid (HIs w4 g0 noH ∧ (Below W.heap.size W w4 ∧ W.heap.size ≤ g0) ∧ HIs w4 gp p ∧ IsH q) := ⟨R3.out.1.next b4, ⟨below_append R3.out.2.2.1 b4, R3.out.2.2.2.1⟩, R3.out.2.2.2.2.1.next b4, hq⟩
    clear hq hy b4 hbb R3
    go_wp2_with (first
      | (refine wl_new rfl rfl rfl rfl rfl (.tmp 65) rfl q R4.out.2.2.2 (fun _ => rfl) (fun _ => rfl) ?_; intro w5 r5 s5 b5; have R5 : Hid (HIs w5 g0 noH ∧ (Below W.heap.size W w5 ∧ W.heap.size ≤ g0) ∧ HIs w5 gp p ∧ HIs w5 w4.heap.size q) := ⟨R4.out.1.next b5, ⟨below_append R4.out.2.1.1 b5, R4.out.2.1.2⟩, R4.out.2.2.1.next b5, r5⟩; clear r5 s5 b5)
      | (refine wl_load (.tmp 10) rfl rfl _ rfl p R5.out.2.2.1.at ?_)
      | (refine wl_load (.tmp 15) rfl rfl _ rfl q R5.out.2.2.2.at ?_)
      | (go_at_call 36; refine (refNode_any p q HPT.out R4.out.2.2.2 w5).mono ?_; rintro e w6 ⟨rfl, b6⟩; have R6 : Hid (HIs w6 g0 noH ∧ (Below W.heap.size W w6 ∧ W.heap.size ≤ g0)) := ⟨R5.out.1.next b6, below_append R5.out.2.1.1 b6, R5.out.2.1.2⟩; clear b6)
      | (refine wl_store (.tmp 8) (.tmp 69) rfl rfl rfl g0 rfl noH (Tree.node p q) (node_isH _ _) rfl R6.out.1 ?_; intro w7 r7 o7 s7; have R7 : Hid (HIs w7 g0 (Tree.node p q) ∧ Below W.heap.size W w7) := ⟨r7, R6.out.2.1.trans (o7.below R6.out.2.2 R6.out.2.1.size)⟩; clear r7 o7 s7))
    refine bodyPost_ret (results_HB Tryd.results26 _ _ g0 rfl _ R7.out.1 _ rfl) rfl ?_
    rw [HU.out]
    exact UpTold.mapped HB.out.1 HB.out.2 rfl rfl (node_isH _ _) R7.out.2
end Go.Proofs.YtjdmpanemdhbbaaDoor

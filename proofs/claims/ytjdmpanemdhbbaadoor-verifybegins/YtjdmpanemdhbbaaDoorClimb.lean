/- The statements' own ways: climb and fresh. -/
import Derived.Test.YtjdmpanemdhbbaaDoorDraw
import Derived.Test.YtjdmpanemdhbbaaDoorTwo
namespace Go.Proofs.YtjdmpanemdhbbaaDoor
open Go.RowKit

theorem up_isH {x z : List Nat} (hx : IsH x) : ∀ {n m : Nat} {r : List (List Nat)}, AllH r → Tree.up x m n r = some z → IsH z := by
  intro n m r _ hz
  by_cases h2 : 2 ≤ n
  · by_cases hm : m < Tree.half n
    · obtain ⟨q, _, rfl⟩ := Tree.up_some_low h2 hz hm
      exact node_isH _ _
    · obtain ⟨q, _, rfl⟩ := Tree.up_some_high h2 hz hm
      exact node_isH _ _
  · rw [(Tree.up_some_one (by omega) hz).1]
    exact hx
theorem two_isH {a : List Nat} (ha : IsH a) : ∀ {n m : Nat} {r : List (List Nat)} {whole : Bool} {z : List Nat × List Nat}, AllH r → Tree.two m n a r whole = some z → IsH z.1 ∧ IsH z.2 := by
  intro n
  induction n using Nat.strongRecOn with
  | _ n ih =>
  intro m r whole z hr hz
  by_cases hmn : m = n
  · cases whole with
    | true =>
      obtain ⟨rfl, _⟩ := Tree.two_some_whole hmn hz
      exact ⟨ha, ha⟩
    | false =>
      obtain ⟨rfl, hl⟩ := Tree.two_some_part hmn hz
      exact ⟨last_isH hr (by omega), last_isH hr (by omega)⟩
  · by_cases h2 : 2 ≤ n
    · by_cases hm : m ≤ Tree.half n
      · obtain ⟨q, hq, rfl⟩ := Tree.two_some_low h2 hmn hz hm
        exact ⟨(ih _ (Tree.half_lt n h2) (others_all hr) hq).1, node_isH _ _⟩
      · obtain ⟨q, hq, rfl⟩ := Tree.two_some_high h2 hmn hz hm
        exact ⟨node_isH _ _, node_isH _ _⟩
    · have hr0 := Tree.two_some_len (fun h => hmn h.1) hz
      rw [Tree.two, if_neg (fun h => hmn h.1), if_neg hr0, if_neg hmn, dif_pos (by omega)] at hz
      cases hz
set_option maxHeartbeats 1000000 in
set_option maxRecDepth 100000 in
theorem climb_one (x : List Nat) (hx : IsH x) (m : Nat) (v : Value) (W : World) :
    Calls Tryd.prog 38 #[hv x, .int .i64 (m : Nat), .int .i64 1, v] W fun e W' => e = .returned (hv x) ∧ Below W.heap.size W W' := by
  have HX : Hid (IsH x) := hx
  clear hx
  obtain ⟨B, hB⟩ : ∃ B, B = W.heap.size := ⟨_, rfl⟩
  have HB : Hid (B = W.heap.size) := hB
  clear hB
  go_enter Tryd.func38, Tryd.ntmps38
  go_wp2_with (first
    | (refine wl_box (.tmp 0) rfl rfl x HX.out rfl ?_; rw [← HB.out]; intro w1 r1 s1 b1; have R1 : Hid (HIs w1 B x ∧ Below W.heap.size W w1 ∧ w1.heap.size = B + 1) := ⟨r1, HB.out ▸ b1, s1⟩; clear r1 s1 b1)
    | (refine wl_alloc rfl rfl ?_; rw [R1.out.2.2]; intro w2 r2 s2 b2; have R2 : Hid (HIs w2 B x ∧ HIs w2 (B + 1) noH ∧ Below W.heap.size W w2 ∧ w2.heap.size = B + 2) := ⟨R1.out.1.next (R1.out.2.2 ▸ b2), r2, below_append R1.out.2.1 (R1.out.2.2 ▸ b2), s2⟩; clear r2 s2 b2)
    | (refine wl_load (.tmp 4) rfl rfl _ rfl x R2.out.1.at ?_)
    | (refine wl_store (.tmp 8) (.tmp 18) rfl rfl rfl (B + 1) rfl noH x HX.out rfl R2.out.2.1 ?_; intro w7 r7 o7 s7; have R7 : Hid (HIs w7 (B + 1) x ∧ Below W.heap.size W w7) := ⟨r7, R2.out.2.2.1.trans (o7.below (by have := HB.out; omega) R2.out.2.2.1.size)⟩; clear r7 o7 s7))
  exact bodyPost_ret (results_H Tryd.results38 _ _ (B + 1) rfl _ R7.out.1) rfl ⟨rfl, R7.out.2⟩
set_option maxHeartbeats 8000000 in
set_option maxRecDepth 100000 in
theorem climb_any (x : List Nat) (hx : IsH x) : ∀ (n m : Nat) (v : Value) (row : List (List Nat)) (W : World) (z : List Nat), 1 ≤ n → n ≤ 9223372036854775807 → m < n → HIn W v row → Tree.up x m n row = some z →
    Calls Tryd.prog 38 #[hv x, .int .i64 (m : Nat), .int .i64 (n : Nat), v] W fun e W' => e = .returned (hv z) ∧ Below W.heap.size W W' := by
  intro n
  induction n using Nat.strongRecOn with
  | _ n ih =>
  intro m v row W z h1 hmax hm h hz
  by_cases hn1 : n = 1
  · subst hn1
    obtain ⟨rfl, _⟩ := Tree.up_some_one (by decide) hz
    exact climb_one z hx m v W
  have h2 : 2 ≤ n := by omega
  have hr := Tree.up_some_len h2 hz
  have HX : Hid (IsH x) := hx
  have hne1 : ((n : Int) == 1) = false := by simp; omega
  have hne1' : ¬ ((n : Int) = 1) := by omega
  have hlm := h.max
  obtain ⟨N, hN⟩ : ∃ N, row.length = N + 1 := ⟨row.length - 1, by omega⟩
  have HN : Hid (row.length = N + 1) := hN
  have hNm : N + 1 ≤ 9223372036854775807 := by omega
  have hneN : ((N : Int) + 1 == 0) = false := by simp; omega
  have hneN' : ¬ ((N : Int) + 1 = 0) := by omega
  have hLast : Tree.lastOf row = row.getD N [] := by unfold Tree.lastOf; rw [hN]; rfl
  have hOth : Tree.othersOf row = row.take N := by unfold Tree.othersOf; rw [hN]; rfl
  have HPT : Hid (IsH (row.getD N [])) := by rw [← hLast]; exact last_isH h.all hr
  have hk := Tree.half_lt n h2
  have hkp := Tree.half_pos n
  have HK : Hid (∀ W, Calls Tryd.prog 37 #[.int .i64 (n : Nat)] W fun e w' => e = .returned (.int .i64 (Tree.half n : Nat)) ∧ W = w') := fun W => below37 n W h2 hmax
  obtain ⟨B, hB⟩ : ∃ B, B = W.heap.size := ⟨_, rfl⟩
  have HB : Hid (B = W.heap.size) := hB
  clear hB
  by_cases hlow : m < Tree.half n
  · obtain ⟨q, hq, hzz⟩ := Tree.up_some_low h2 hz hlow
    rw [hLast] at hzz
    rw [hOth] at hq
    generalize Tree.half n = k at hk hkp HK hq hlow
    have hlow' : (m : Int) < (k : Int) := by omega
    obtain ⟨p, hp⟩ : ∃ p, row.getD N [] = p := ⟨_, rfl⟩
    obtain ⟨ys, hys⟩ : ∃ ys, row.take N = ys := ⟨_, rfl⟩
    obtain ⟨vo, ro, so⟩ := run_hto h N (by omega)
    have HA : Hid ((∀ w', (Instr.slice 24 v none (some (.int .i64 (N : Nat))) none).run Tryd.prog w' = .ok vo w') ∧ HIn W vo ys) := ⟨ro, hys ▸ so⟩
    have HPY : Hid (row.getD N [] = p ∧ row.take N = ys) := ⟨hp, hys⟩
    rw [hp] at HPT
    have HZ : Hid (z = Tree.node q p) := by rw [← hp]; exact hzz
    have HQ : Hid (Tree.up x m k ys = some q) := hys ▸ hq
    clear hN hr hp hys hLast hOth hlm hq hzz ro so hz
    go_enter Tryd.func38, Tryd.ntmps38
    go_wp2_with (first
      | (refine wl_box (.tmp 0) rfl rfl x HX.out rfl ?_; rw [← HB.out]; intro w1 r1 s1 b1; have R1 : Hid (HIs w1 B x ∧ Below W.heap.size W w1 ∧ w1.heap.size = B + 1) := ⟨r1, HB.out ▸ b1, s1⟩; clear r1 s1 b1)
      | (refine wl_alloc rfl rfl ?_; rw [R1.out.2.2]; intro w2 r2 s2 b2; have R2 : Hid (HIs w2 B x ∧ HIs w2 (B + 1) noH ∧ Below W.heap.size W w2 ∧ w2.heap.size = B + 2) := ⟨R1.out.1.next (R1.out.2.2 ▸ b2), r2, below_append R1.out.2.1 (R1.out.2.2 ▸ b2), s2⟩; clear r2 s2 b2)
      | (refine wl_lenN (.tmp 14) rfl rfl v row rfl h (N + 1) HN.out ?_)
      | (go_at_call 37; refine (HK.out _).mono ?_; rintro e w' ⟨rfl, rfl⟩)
      | (refine wl_lenN (.tmp 22) rfl rfl v row rfl h (N + 1) HN.out ?_)
      | (refine wl_index (.tmp 21) (.tmp 24) rfl rfl v row rfl (h.later R2.out.2.2.1) _ N rfl (by omega) (by have := HN.out; omega) ?_; intro pa a5; rw [HPY.out.1] at a5; have A5 : Hid (HAt w2 pa p) := a5; clear a5)
      | (refine wl_load (.tmp 25) rfl rfl pa rfl p A5.out ?_)
      | (refine wl_new rfl rfl rfl rfl rfl (.tmp 26) rfl p HPT.out (fun _ => rfl) (fun _ => rfl) ?_; rw [R2.out.2.2.2]; intro w4 r4 s4 b4; have R4 : Hid (HIs w4 B x ∧ HIs w4 (B + 1) noH ∧ Below W.heap.size W w4 ∧ HIs w4 (B + 2) p) := ⟨R2.out.1.next (R2.out.2.2.2 ▸ b4), R2.out.2.1.next (R2.out.2.2.2 ▸ b4), below_append R2.out.2.2.1 (R2.out.2.2.2 ▸ b4), r4⟩; clear r4 s4 b4))
    obtain ⟨w5, hw5⟩ : ∃ w5, w5 = w4 := ⟨_, rfl⟩
    rw [← hw5]
    have R5 : Hid (HIs w5 B x ∧ HIs w5 (B + 1) noH ∧ Below W.heap.size W w5 ∧ HIs w5 (B + 2) p) := by rw [hw5]; exact R4.out
    clear hw5 R4
    have HQH : Hid (IsH q) := up_isH HX.out (HA.out.2.all) HQ.out
    obtain ⟨z0, hz0⟩ : ∃ z0 : World, z0 = { w5 with drawn := w5.drawn + 1 } := ⟨_, rfl⟩
    have hS : (Below W.heap.size W z0 ∧ HIs z0 B x ∧ HIs z0 (B + 1) noH ∧ HIs z0 (B + 2) p) := by rw [hz0]; exact ⟨below_append R5.out.2.2.1 (below_drawn w5 _), R5.out.1, R5.out.2.1, R5.out.2.2.2⟩
    refine wp_region_until (S := fun W' => (Below W.heap.size W W' ∧ HIs W' B x ∧ HIs W' (B + 1) noH ∧ HIs W' (B + 2) p)) 11 (by kernel_rfl) ?_
    show wpAnyU _ _ _ _ _ _ 12 (Array.replicate 12 false) _ _
    rw [← hz0]
    clear hz0
    refine takeU (i := 0) (some 30) rfl rfl (by kernel_rfl) (by kernel_rfl) (by kernel_rfl) (by kernel_rfl) (by kernel_rfl) (fun _ _ _ h => h) (yRunW rfl (hv x) (fun W hW => rx_load (.tmp 4) rfl (.pointer (some ⟨B, 0, none⟩)) rfl x (hW.2.1.at))) hS ?_
    simp only [Act.put, List.setIfInBounds_toArray, List.set_cons_succ, List.set_cons_zero]
    refine takeU (i := 1) (some 31) rfl rfl (by kernel_rfl) (by kernel_rfl) (by kernel_rfl) (by kernel_rfl) (by kernel_rfl) (fun _ _ _ h => h) (yMoveW rfl (.tmp 1) rfl (.int .i64 (m : Nat)) rfl) hS ?_
    simp only [Act.put, List.setIfInBounds_toArray, List.set_cons_succ, List.set_cons_zero]
    refine takeU (i := 2) (some 32) rfl rfl (by kernel_rfl) (by kernel_rfl) (by kernel_rfl) (by kernel_rfl) (by kernel_rfl) (fun _ _ _ h => h) (yMoveW rfl (.tmp 9) rfl (.int .i64 (k : Nat)) rfl) hS ?_
    simp only [Act.put, List.setIfInBounds_toArray, List.set_cons_succ, List.set_cons_zero]
    refine takeU (i := 3) (some 33) rfl rfl (by kernel_rfl) (by kernel_rfl) (by kernel_rfl) (by kernel_rfl) (by kernel_rfl) (fun _ _ _ h => h) (yMoveW rfl (.tmp 3) rfl (v) rfl) hS ?_
    simp only [Act.put, List.setIfInBounds_toArray, List.set_cons_succ, List.set_cons_zero]
    refine takeU (i := 4) (some 34) rfl rfl (by kernel_rfl) (by kernel_rfl) (by kernel_rfl) (by kernel_rfl) (by kernel_rfl) (fun _ _ _ h => h) (yMoveW rfl (.tmp 3) rfl (v) rfl) hS ?_
    simp only [Act.put, List.setIfInBounds_toArray, List.set_cons_succ, List.set_cons_zero]
    refine takeU (i := 5) (some 35) rfl rfl (by kernel_rfl) (by kernel_rfl) (by kernel_rfl) (by kernel_rfl) (by kernel_rfl) (fun _ _ _ h => h) (yLen rfl (.tmp 34) rfl v row rfl _ (h) (N + 1) HN.out) hS ?_
    simp only [Act.put, List.setIfInBounds_toArray, List.set_cons_succ, List.set_cons_zero]
    refine takeU (i := 6) (some 36) rfl rfl (by kernel_rfl) (by kernel_rfl) (by kernel_rfl) (by kernel_rfl) (by kernel_rfl) (fun _ _ _ h => h) (yRunW rfl (.int .i64 (N : Nat)) (fun _ _ => rx_pred (.tmp 35) (.const (.int .i64 1)) rfl N rfl rfl (by omega))) hS ?_
    simp only [Act.put, List.setIfInBounds_toArray, List.set_cons_succ, List.set_cons_zero]
    refine takeU (i := 7) (some 37) rfl rfl (by kernel_rfl) (by kernel_rfl) (by kernel_rfl) (by kernel_rfl) (by kernel_rfl) (fun _ _ _ h => h) (yRunW rfl vo (fun _ _ => rx_sub (.tmp 33) none (some (.tmp 36)) rfl v vo rfl HA.out.1)) hS ?_
    simp only [Act.put, List.setIfInBounds_toArray, List.set_cons_succ, List.set_cons_zero]
    refine takeU (i := 9) (some 39) rfl rfl (by kernel_rfl) (by kernel_rfl) (by kernel_rfl) (by kernel_rfl) (by kernel_rfl) (fun _ _ _ h => h) (yRunW rfl (hv p) (fun W hW => rx_load (.tmp 10) rfl (.pointer (some ⟨(B + 2), 0, none⟩)) rfl p (hW.2.2.2.at))) hS ?_
    simp only [Act.put, List.setIfInBounds_toArray, List.set_cons_succ, List.set_cons_zero]
    refine oneU (i := 8) (by kernel_rfl) ?_
    refine opCallW (some 38) rfl rfl rfl 38 _ (run_call en38' [.tmp 30, .tmp 31, .tmp 32, .tmp 37] _ rfl [hv x, .int .i64 (m : Nat), .int .i64 (k : Nat), vo] rfl) ?_
    refine (ih k (by omega) m vo ys _ q (by omega) (by omega) (by omega) (HA.out.2.later hS.1) HQ.out).mono ?_
    rintro e z1 ⟨rfl, bb⟩
    have hS' : (Below W.heap.size W z1 ∧ HIs z1 B x ∧ HIs z1 (B + 1) noH ∧ HIs z1 (B + 2) p) := ⟨below_append hS.1 bb, hS.2.1.next bb, hS.2.2.1.next bb, hS.2.2.2.next bb⟩
    refine ⟨_, rfl, fun _ => hS', ?_⟩
    clear hS bb
    have hS := hS'
    clear hS'
    simp only [Act.put, List.setIfInBounds_toArray, List.set_cons_succ, List.set_cons_zero]
    refine oneU (i := 10) (by kernel_rfl) ?_
    refine opCallW (some 40) rfl rfl rfl 36 _ (run_call en36' [.tmp 38, .tmp 39] _ rfl [hv q, hv p] rfl) ?_
    refine (refNode_any q p HQH.out HPT.out _).mono ?_
    rintro e z2 ⟨rfl, bb⟩
    have hS' : (Below W.heap.size W z2 ∧ HIs z2 B x ∧ HIs z2 (B + 1) noH ∧ HIs z2 (B + 2) p) := ⟨below_append hS.1 bb, hS.2.1.next bb, hS.2.2.1.next bb, hS.2.2.2.next bb⟩
    refine ⟨_, rfl, fun _ => hS', ?_⟩
    clear hS bb
    have hS := hS'
    clear hS'
    simp only [Act.put, List.setIfInBounds_toArray, List.set_cons_succ, List.set_cons_zero]
    refine oneU (i := 11) (by kernel_rfl) ?_
    refine opSkip rfl rfl rfl _ (rx_store (.tmp 8) (.tmp 40) rfl (B + 1) rfl noH (Tree.node q p) (node_isH _ _) rfl hS.2.2.1) ?_
    have oo : Only (B + 1) z2 (z2.setRow (B + 1) (bcells (Tree.node q p)).toArray) := (Only.refl (B + 1) z2).setRow _
    have R7 : Hid (HIs (z2.setRow (B + 1) (bcells (Tree.node q p)).toArray) (B + 1) (Tree.node q p) ∧ Below W.heap.size W (z2.setRow (B + 1) (bcells (Tree.node q p)).toArray)) := ⟨his_store (node_isH _ _) hS.2.2.1, hS.1.trans (oo.below (by have := HB.out; omega) hS.1.size)⟩
    refine ⟨fun h => absurd h (by decide), ?_⟩
    clear hS oo
    generalize z2.setRow (B + 1) (bcells (Tree.node q p)).toArray = w9 at R7 ⊢
    refine wpAnyU_done (by kernel_rfl) ?_ _
    go_wp2_with fail
    exact bodyPost_ret (results_H Tryd.results38 _ _ (B + 1) rfl _ R7.out.1) rfl ⟨by rw [HZ.out], R7.out.2⟩
  · obtain ⟨q, hq, hzz⟩ := Tree.up_some_high h2 hz hlow
    rw [hLast] at hzz
    rw [hOth] at hq
    generalize Tree.half n = k at hk hkp HK hq hlow
    have hlow' : ¬ (m : Int) < (k : Int) := by omega
    obtain ⟨p, hp⟩ : ∃ p, row.getD N [] = p := ⟨_, rfl⟩
    obtain ⟨ys, hys⟩ : ∃ ys, row.take N = ys := ⟨_, rfl⟩
    obtain ⟨vo, ro, so⟩ := run_hto h N (by omega)
    have HA : Hid ((∀ w', (Instr.slice 24 v none (some (.int .i64 (N : Nat))) none).run Tryd.prog w' = .ok vo w') ∧ HIn W vo ys) := ⟨ro, hys ▸ so⟩
    have HPY : Hid (row.getD N [] = p ∧ row.take N = ys) := ⟨hp, hys⟩
    rw [hp] at HPT
    have HZ : Hid (z = Tree.node p q) := by rw [← hp]; exact hzz
    have HQ : Hid (Tree.up x (m - k) (n - k) ys = some q) := hys ▸ hq
    clear hN hr hp hys hLast hOth hlm hq hzz ro so hz
    go_enter Tryd.func38, Tryd.ntmps38
    go_wp2_with (first
      | (refine wl_box (.tmp 0) rfl rfl x HX.out rfl ?_; rw [← HB.out]; intro w1 r1 s1 b1; have R1 : Hid (HIs w1 B x ∧ Below W.heap.size W w1 ∧ w1.heap.size = B + 1) := ⟨r1, HB.out ▸ b1, s1⟩; clear r1 s1 b1)
      | (refine wl_alloc rfl rfl ?_; rw [R1.out.2.2]; intro w2 r2 s2 b2; have R2 : Hid (HIs w2 B x ∧ HIs w2 (B + 1) noH ∧ Below W.heap.size W w2 ∧ w2.heap.size = B + 2) := ⟨R1.out.1.next (R1.out.2.2 ▸ b2), r2, below_append R1.out.2.1 (R1.out.2.2 ▸ b2), s2⟩; clear r2 s2 b2)
      | (refine wl_lenN (.tmp 14) rfl rfl v row rfl h (N + 1) HN.out ?_)
      | (go_at_call 37; refine (HK.out _).mono ?_; rintro e w' ⟨rfl, rfl⟩)
      | (refine wl_lenN (.tmp 22) rfl rfl v row rfl h (N + 1) HN.out ?_)
      | (refine wl_index (.tmp 21) (.tmp 24) rfl rfl v row rfl (h.later R2.out.2.2.1) _ N rfl (by omega) (by have := HN.out; omega) ?_; intro pa a5; rw [HPY.out.1] at a5; have A5 : Hid (HAt w2 pa p) := a5; clear a5)
      | (refine wl_load (.tmp 25) rfl rfl pa rfl p A5.out ?_)
      | (refine wl_new rfl rfl rfl rfl rfl (.tmp 26) rfl p HPT.out (fun _ => rfl) (fun _ => rfl) ?_; rw [R2.out.2.2.2]; intro w4 r4 s4 b4; have R4 : Hid (HIs w4 B x ∧ HIs w4 (B + 1) noH ∧ Below W.heap.size W w4 ∧ HIs w4 (B + 2) p) := ⟨R2.out.1.next (R2.out.2.2.2 ▸ b4), R2.out.2.1.next (R2.out.2.2.2 ▸ b4), below_append R2.out.2.2.1 (R2.out.2.2.2 ▸ b4), r4⟩; clear r4 s4 b4))
    obtain ⟨w5, hw5⟩ : ∃ w5, w5 = w4 := ⟨_, rfl⟩
    rw [← hw5]
    have R5 : Hid (HIs w5 B x ∧ HIs w5 (B + 1) noH ∧ Below W.heap.size W w5 ∧ HIs w5 (B + 2) p) := by rw [hw5]; exact R4.out
    clear hw5 R4
    have HQH : Hid (IsH q) := up_isH HX.out (HA.out.2.all) HQ.out
    obtain ⟨z0, hz0⟩ : ∃ z0 : World, z0 = { w5 with drawn := w5.drawn + 1 } := ⟨_, rfl⟩
    have hS : (Below W.heap.size W z0 ∧ HIs z0 B x ∧ HIs z0 (B + 1) noH ∧ HIs z0 (B + 2) p) := by rw [hz0]; exact ⟨below_append R5.out.2.2.1 (below_drawn w5 _), R5.out.1, R5.out.2.1, R5.out.2.2.2⟩
    refine wp_region_until (S := fun W' => (Below W.heap.size W W' ∧ HIs W' B x ∧ HIs W' (B + 1) noH ∧ HIs W' (B + 2) p)) 15 (by kernel_rfl) ?_
    show wpAnyU _ _ _ _ _ _ 16 (Array.replicate 16 false) _ _
    rw [← hz0]
    clear hz0
    refine takeU (i := 0) (some 41) rfl rfl (by kernel_rfl) (by kernel_rfl) (by kernel_rfl) (by kernel_rfl) (by kernel_rfl) (fun _ _ _ h => h) (yRunW rfl (hv p) (fun W hW => rx_load (.tmp 10) rfl (.pointer (some ⟨(B + 2), 0, none⟩)) rfl p (hW.2.2.2.at))) hS ?_
    simp only [Act.put, List.setIfInBounds_toArray, List.set_cons_succ, List.set_cons_zero]
    refine takeU (i := 1) (some 42) rfl rfl (by kernel_rfl) (by kernel_rfl) (by kernel_rfl) (by kernel_rfl) (by kernel_rfl) (fun _ _ _ h => h) (yRunW rfl (hv x) (fun W hW => rx_load (.tmp 4) rfl (.pointer (some ⟨B, 0, none⟩)) rfl x (hW.2.1.at))) hS ?_
    simp only [Act.put, List.setIfInBounds_toArray, List.set_cons_succ, List.set_cons_zero]
    refine takeU (i := 2) (some 43) rfl rfl (by kernel_rfl) (by kernel_rfl) (by kernel_rfl) (by kernel_rfl) (by kernel_rfl) (fun _ _ _ h => h) (yMoveW rfl (.tmp 1) rfl (.int .i64 (m : Nat)) rfl) hS ?_
    simp only [Act.put, List.setIfInBounds_toArray, List.set_cons_succ, List.set_cons_zero]
    refine takeU (i := 3) (some 44) rfl rfl (by kernel_rfl) (by kernel_rfl) (by kernel_rfl) (by kernel_rfl) (by kernel_rfl) (fun _ _ _ h => h) (yMoveW rfl (.tmp 9) rfl (.int .i64 (k : Nat)) rfl) hS ?_
    simp only [Act.put, List.setIfInBounds_toArray, List.set_cons_succ, List.set_cons_zero]
    refine takeU (i := 4) (some 45) rfl rfl (by kernel_rfl) (by kernel_rfl) (by kernel_rfl) (by kernel_rfl) (by kernel_rfl) (fun _ _ _ h => h) (yRunW rfl (.int .i64 ((m - k : Nat) : Int)) (fun _ _ => rx_minus (.tmp 43) (.tmp 44) rfl m k rfl rfl (by omega) (by omega))) hS ?_
    simp only [Act.put, List.setIfInBounds_toArray, List.set_cons_succ, List.set_cons_zero]
    refine takeU (i := 5) (some 46) rfl rfl (by kernel_rfl) (by kernel_rfl) (by kernel_rfl) (by kernel_rfl) (by kernel_rfl) (fun _ _ _ h => h) (yMoveW rfl (.tmp 2) rfl (.int .i64 (n : Nat)) rfl) hS ?_
    simp only [Act.put, List.setIfInBounds_toArray, List.set_cons_succ, List.set_cons_zero]
    refine takeU (i := 6) (some 47) rfl rfl (by kernel_rfl) (by kernel_rfl) (by kernel_rfl) (by kernel_rfl) (by kernel_rfl) (fun _ _ _ h => h) (yMoveW rfl (.tmp 9) rfl (.int .i64 (k : Nat)) rfl) hS ?_
    simp only [Act.put, List.setIfInBounds_toArray, List.set_cons_succ, List.set_cons_zero]
    refine takeU (i := 7) (some 48) rfl rfl (by kernel_rfl) (by kernel_rfl) (by kernel_rfl) (by kernel_rfl) (by kernel_rfl) (fun _ _ _ h => h) (yRunW rfl (.int .i64 ((n - k : Nat) : Int)) (fun _ _ => rx_minus (.tmp 46) (.tmp 47) rfl n k rfl rfl (by omega) (by omega))) hS ?_
    simp only [Act.put, List.setIfInBounds_toArray, List.set_cons_succ, List.set_cons_zero]
    refine takeU (i := 8) (some 49) rfl rfl (by kernel_rfl) (by kernel_rfl) (by kernel_rfl) (by kernel_rfl) (by kernel_rfl) (fun _ _ _ h => h) (yMoveW rfl (.tmp 3) rfl (v) rfl) hS ?_
    simp only [Act.put, List.setIfInBounds_toArray, List.set_cons_succ, List.set_cons_zero]
    refine takeU (i := 9) (some 50) rfl rfl (by kernel_rfl) (by kernel_rfl) (by kernel_rfl) (by kernel_rfl) (by kernel_rfl) (fun _ _ _ h => h) (yMoveW rfl (.tmp 3) rfl (v) rfl) hS ?_
    simp only [Act.put, List.setIfInBounds_toArray, List.set_cons_succ, List.set_cons_zero]
    refine takeU (i := 10) (some 51) rfl rfl (by kernel_rfl) (by kernel_rfl) (by kernel_rfl) (by kernel_rfl) (by kernel_rfl) (fun _ _ _ h => h) (yLen rfl (.tmp 50) rfl v row rfl _ (h) (N + 1) HN.out) hS ?_
    simp only [Act.put, List.setIfInBounds_toArray, List.set_cons_succ, List.set_cons_zero]
    refine takeU (i := 11) (some 52) rfl rfl (by kernel_rfl) (by kernel_rfl) (by kernel_rfl) (by kernel_rfl) (by kernel_rfl) (fun _ _ _ h => h) (yRunW rfl (.int .i64 (N : Nat)) (fun _ _ => rx_pred (.tmp 51) (.const (.int .i64 1)) rfl N rfl rfl (by omega))) hS ?_
    simp only [Act.put, List.setIfInBounds_toArray, List.set_cons_succ, List.set_cons_zero]
    refine takeU (i := 12) (some 53) rfl rfl (by kernel_rfl) (by kernel_rfl) (by kernel_rfl) (by kernel_rfl) (by kernel_rfl) (fun _ _ _ h => h) (yRunW rfl vo (fun _ _ => rx_sub (.tmp 49) none (some (.tmp 52)) rfl v vo rfl HA.out.1)) hS ?_
    simp only [Act.put, List.setIfInBounds_toArray, List.set_cons_succ, List.set_cons_zero]
    refine oneU (i := 13) (by kernel_rfl) ?_
    refine opCallW (some 54) rfl rfl rfl 38 _ (run_call en38' [.tmp 42, .tmp 45, .tmp 48, .tmp 53] _ rfl [hv x, .int .i64 ((m - k) : Nat), .int .i64 ((n - k) : Nat), vo] rfl) ?_
    refine (ih (n - k) (by omega) (m - k) vo ys _ q (by omega) (by omega) (by omega) (HA.out.2.later hS.1) HQ.out).mono ?_
    rintro e z1 ⟨rfl, bb⟩
    have hS' : (Below W.heap.size W z1 ∧ HIs z1 B x ∧ HIs z1 (B + 1) noH ∧ HIs z1 (B + 2) p) := ⟨below_append hS.1 bb, hS.2.1.next bb, hS.2.2.1.next bb, hS.2.2.2.next bb⟩
    refine ⟨_, rfl, fun _ => hS', ?_⟩
    clear hS bb
    have hS := hS'
    clear hS'
    simp only [Act.put, List.setIfInBounds_toArray, List.set_cons_succ, List.set_cons_zero]
    refine oneU (i := 14) (by kernel_rfl) ?_
    refine opCallW (some 55) rfl rfl rfl 36 _ (run_call en36' [.tmp 41, .tmp 54] _ rfl [hv p, hv q] rfl) ?_
    refine (refNode_any p q HPT.out HQH.out _).mono ?_
    rintro e z2 ⟨rfl, bb⟩
    have hS' : (Below W.heap.size W z2 ∧ HIs z2 B x ∧ HIs z2 (B + 1) noH ∧ HIs z2 (B + 2) p) := ⟨below_append hS.1 bb, hS.2.1.next bb, hS.2.2.1.next bb, hS.2.2.2.next bb⟩
    refine ⟨_, rfl, fun _ => hS', ?_⟩
    clear hS bb
    have hS := hS'
    clear hS'
    simp only [Act.put, List.setIfInBounds_toArray, List.set_cons_succ, List.set_cons_zero]
    refine oneU (i := 15) (by kernel_rfl) ?_
    refine opSkip rfl rfl rfl _ (rx_store (.tmp 8) (.tmp 55) rfl (B + 1) rfl noH (Tree.node p q) (node_isH _ _) rfl hS.2.2.1) ?_
    have oo : Only (B + 1) z2 (z2.setRow (B + 1) (bcells (Tree.node p q)).toArray) := (Only.refl (B + 1) z2).setRow _
    have R7 : Hid (HIs (z2.setRow (B + 1) (bcells (Tree.node p q)).toArray) (B + 1) (Tree.node p q) ∧ Below W.heap.size W (z2.setRow (B + 1) (bcells (Tree.node p q)).toArray)) := ⟨his_store (node_isH _ _) hS.2.2.1, hS.1.trans (oo.below (by have := HB.out; omega) hS.1.size)⟩
    refine ⟨fun h => absurd h (by decide), ?_⟩
    clear hS oo
    generalize z2.setRow (B + 1) (bcells (Tree.node p q)).toArray = w9 at R7 ⊢
    refine wpAnyU_done (by kernel_rfl) ?_ _
    go_wp2_with fail
    exact bodyPost_ret (results_H Tryd.results38 _ _ (B + 1) rfl _ R7.out.1) rfl ⟨by rw [HZ.out], R7.out.2⟩
set_option maxHeartbeats 2000000 in
set_option maxRecDepth 100000 in
theorem fresh_whole (a : List Nat) (ha : IsH a) (n : Nat) (v : Value) (W : World) :
    Calls Tryd.prog 39 #[.int .i64 (n : Nat), .int .i64 (n : Nat), hv a, v, .bool true] W fun e W' => e = .returned (hv a) ∧ Below W.heap.size W W' := by
  have HX : Hid (IsH a) := ha
  clear ha
  obtain ⟨B, hB⟩ : ∃ B, B = W.heap.size := ⟨_, rfl⟩
  have HB : Hid (B = W.heap.size) := hB
  clear hB
  go_enter Tryd.func39, Tryd.ntmps39
  go_wp2_with (first
    | (refine wl_box (.tmp 2) rfl rfl a HX.out rfl ?_; rw [← HB.out]; intro w1 r1 s1 b1; have R1 : Hid (HIs w1 B a ∧ Below W.heap.size W w1 ∧ w1.heap.size = B + 1) := ⟨r1, HB.out ▸ b1, s1⟩; clear r1 s1 b1)
    | (refine wl_alloc rfl rfl ?_; rw [R1.out.2.2]; intro w2 r2 s2 b2; have R2 : Hid (HIs w2 B a ∧ HIs w2 (B + 1) noH ∧ Below W.heap.size W w2 ∧ w2.heap.size = B + 2) := ⟨R1.out.1.next (R1.out.2.2 ▸ b2), r2, below_append R1.out.2.1 (R1.out.2.2 ▸ b2), s2⟩; clear r2 s2 b2)
    | (refine wl_load (.tmp 7) rfl rfl _ rfl a R2.out.1.at ?_)
    | (refine wl_store (.tmp 10) (.tmp 24) rfl rfl rfl (B + 1) rfl noH a HX.out rfl R2.out.2.1 ?_; intro w7 r7 o7 s7; have R7 : Hid (HIs w7 (B + 1) a ∧ Below W.heap.size W w7) := ⟨r7, R2.out.2.2.1.trans (o7.below (by have := HB.out; omega) R2.out.2.2.1.size)⟩; clear r7 o7 s7))
  exact bodyPost_ret (results_H Tryd.results39 _ _ (B + 1) rfl _ R7.out.1) rfl ⟨rfl, R7.out.2⟩
set_option maxHeartbeats 2000000 in
set_option maxRecDepth 100000 in
theorem fresh_last (a : List Nat) (ha : IsH a) (n : Nat) (v : Value) (row : List (List Nat)) (W : World) (h : HIn W v row) (hr : row.length ≠ 0) :
    Calls Tryd.prog 39 #[.int .i64 (n : Nat), .int .i64 (n : Nat), hv a, v, .bool false] W fun e W' => e = .returned (hv (Tree.lastOf row)) ∧ Below W.heap.size W W' := by
  have HX : Hid (IsH a) := ha
  clear ha
  have hlm := h.max
  obtain ⟨N, hN⟩ : ∃ N, row.length = N + 1 := ⟨row.length - 1, by omega⟩
  have HN : Hid (row.length = N + 1) := hN
  have hNm : N + 1 ≤ 9223372036854775807 := by omega
  have hneN : ((N : Int) + 1 == 0) = false := by simp; omega
  have hneN' : ¬ ((N : Int) + 1 = 0) := by omega
  have hLast : Tree.lastOf row = row.getD N [] := by unfold Tree.lastOf; rw [hN]; rfl
  have hOth : Tree.othersOf row = row.take N := by unfold Tree.othersOf; rw [hN]; rfl
  have HPT : Hid (IsH (row.getD N [])) := by rw [← hLast]; exact last_isH h.all hr
  obtain ⟨B, hB⟩ : ∃ B, B = W.heap.size := ⟨_, rfl⟩
  have HB : Hid (B = W.heap.size) := hB
  clear hB
  rw [hLast]
  obtain ⟨p, hp⟩ : ∃ p, row.getD N [] = p := ⟨_, rfl⟩
  have HPY : Hid (row.getD N [] = p ∧ True) := ⟨hp, trivial⟩
  rw [hp] at HPT ⊢
  clear hN hr hp hLast hOth hlm
  go_enter Tryd.func39, Tryd.ntmps39
  go_wp2_with (first
    | (refine wl_box (.tmp 2) rfl rfl a HX.out rfl ?_; rw [← HB.out]; intro w1 r1 s1 b1; have R1 : Hid (HIs w1 B a ∧ Below W.heap.size W w1 ∧ w1.heap.size = B + 1) := ⟨r1, HB.out ▸ b1, s1⟩; clear r1 s1 b1)
    | (refine wl_alloc rfl rfl ?_; rw [R1.out.2.2]; intro w2 r2 s2 b2; have R2 : Hid (HIs w2 B a ∧ HIs w2 (B + 1) noH ∧ Below W.heap.size W w2 ∧ w2.heap.size = B + 2) := ⟨R1.out.1.next (R1.out.2.2 ▸ b2), r2, below_append R1.out.2.1 (R1.out.2.2 ▸ b2), s2⟩; clear r2 s2 b2)
    | (refine wl_lenN (.tmp 20) rfl rfl v row rfl h (N + 1) HN.out ?_)
    | (refine wl_lenN (.tmp 26) rfl rfl v row rfl h (N + 1) HN.out ?_)
    | (refine wl_index (.tmp 25) (.tmp 28) rfl rfl v row rfl (h.later R2.out.2.2.1) _ N rfl (by omega) (by have := HN.out; omega) ?_; intro pa a5; rw [HPY.out.1] at a5; have A5 : Hid (HAt w2 pa p) := a5; clear a5)
    | (refine wl_load (.tmp 29) rfl rfl pa rfl p A5.out ?_)
    | (refine wl_new rfl rfl rfl rfl rfl (.tmp 30) rfl p HPT.out (fun _ => rfl) (fun _ => rfl) ?_; rw [R2.out.2.2.2]; intro w4 r4 s4 b4; have R4 : Hid (HIs w4 B a ∧ HIs w4 (B + 1) noH ∧ Below W.heap.size W w4 ∧ HIs w4 (B + 2) p) := ⟨R2.out.1.next (R2.out.2.2.2 ▸ b4), R2.out.2.1.next (R2.out.2.2.2 ▸ b4), below_append R2.out.2.2.1 (R2.out.2.2.2 ▸ b4), r4⟩; clear r4 s4 b4)
    | (refine wl_load (.tmp 11) rfl rfl _ rfl p R4.out.2.2.2.at ?_)
    | (refine wl_store (.tmp 10) (.tmp 34) rfl rfl rfl (B + 1) rfl noH p HPT.out rfl R4.out.2.1 ?_; intro w7 r7 o7 s7; have R7 : Hid (HIs w7 (B + 1) p ∧ Below W.heap.size W w7) := ⟨r7, R4.out.2.2.1.trans (o7.below (by have := HB.out; omega) R4.out.2.2.1.size)⟩; clear r7 o7 s7))
  exact bodyPost_ret (results_H Tryd.results39 _ _ (B + 1) rfl _ R7.out.1) rfl ⟨rfl, R7.out.2⟩
set_option maxHeartbeats 8000000 in
set_option maxRecDepth 100000 in
theorem fresh_any (a : List Nat) (ha : IsH a) : ∀ (n m : Nat) (whole : Bool) (v : Value) (row : List (List Nat)) (W : World) (z : List Nat × List Nat), 1 ≤ m → n ≤ 9223372036854775807 → m ≤ n → HIn W v row → Tree.two m n a row whole = some z →
    Calls Tryd.prog 39 #[.int .i64 (m : Nat), .int .i64 (n : Nat), hv a, v, .bool whole] W fun e W' => e = .returned (hv z.2) ∧ Below W.heap.size W W' := by
  intro n
  induction n using Nat.strongRecOn with
  | _ n ih =>
  intro m whole v row W z h1 hmax hm h hz
  by_cases hmn : m = n
  · subst hmn
    cases whole with
    | true =>
      obtain ⟨rfl, _⟩ := Tree.two_some_whole rfl hz
      exact fresh_whole a ha m v W
    | false =>
      obtain ⟨rfl, hl⟩ := Tree.two_some_part rfl hz
      exact fresh_last a ha m v row W h (by omega)
  have h2 : 2 ≤ n := by omega
  have hr := Tree.two_some_len (fun h => hmn h.1) hz
  have HX : Hid (IsH a) := ha
  have hne1 : ((m : Int) == (n : Int)) = false := by simp; omega
  have hne1' : ¬ ((m : Int) = (n : Int)) := by omega
  have hge : ¬ (n : Int) ≤ (m : Int) := by omega
  have hlm := h.max
  obtain ⟨N, hN⟩ : ∃ N, row.length = N + 1 := ⟨row.length - 1, by omega⟩
  have HN : Hid (row.length = N + 1) := hN
  have hNm : N + 1 ≤ 9223372036854775807 := by omega
  have hneN : ((N : Int) + 1 == 0) = false := by simp; omega
  have hneN' : ¬ ((N : Int) + 1 = 0) := by omega
  have hLast : Tree.lastOf row = row.getD N [] := by unfold Tree.lastOf; rw [hN]; rfl
  have hOth : Tree.othersOf row = row.take N := by unfold Tree.othersOf; rw [hN]; rfl
  have HPT : Hid (IsH (row.getD N [])) := by rw [← hLast]; exact last_isH h.all hr
  have hk := Tree.half_lt n h2
  have hkp := Tree.half_pos n
  have HK : Hid (∀ W, Calls Tryd.prog 37 #[.int .i64 (n : Nat)] W fun e w' => e = .returned (.int .i64 (Tree.half n : Nat)) ∧ W = w') := fun W => below37 n W h2 hmax
  obtain ⟨B, hB⟩ : ∃ B, B = W.heap.size := ⟨_, rfl⟩
  have HB : Hid (B = W.heap.size) := hB
  clear hB
  by_cases hlow : m ≤ Tree.half n
  · obtain ⟨q, hq, hzz⟩ := Tree.two_some_low h2 hmn hz hlow
    rw [hLast] at hzz
    rw [hOth] at hq
    generalize Tree.half n = k at hk hkp HK hq hlow
    have hlow' : (m : Int) ≤ (k : Int) := by omega
    obtain ⟨p, hp⟩ : ∃ p, row.getD N [] = p := ⟨_, rfl⟩
    obtain ⟨ys, hys⟩ : ∃ ys, row.take N = ys := ⟨_, rfl⟩
    obtain ⟨vo, ro, so⟩ := run_hto h N (by omega)
    have HA : Hid ((∀ w', (Instr.slice 24 v none (some (.int .i64 (N : Nat))) none).run Tryd.prog w' = .ok vo w') ∧ HIn W vo ys) := ⟨ro, hys ▸ so⟩
    have HPY : Hid (row.getD N [] = p ∧ row.take N = ys) := ⟨hp, hys⟩
    rw [hp] at HPT
    have HZ : Hid (z.2 = Tree.node q.2 p) := by rw [← hp, hzz]; rfl
    have HQ : Hid (Tree.two m k a ys whole = some q) := hys ▸ hq
    have HQH : Hid (IsH q.2) := (two_isH HX.out (HA.out.2.all) HQ.out).2
    clear hN hr hp hys hLast hOth hlm hq hzz ro so hz
    go_enter Tryd.func39, Tryd.ntmps39
    go_wp2_with (first
      | (refine wl_box (.tmp 2) rfl rfl a HX.out rfl ?_; rw [← HB.out]; intro w1 r1 s1 b1; have R1 : Hid (HIs w1 B a ∧ Below W.heap.size W w1 ∧ w1.heap.size = B + 1) := ⟨r1, HB.out ▸ b1, s1⟩; clear r1 s1 b1)
      | (refine wl_alloc rfl rfl ?_; rw [R1.out.2.2]; intro w2 r2 s2 b2; have R2 : Hid (HIs w2 B a ∧ HIs w2 (B + 1) noH ∧ Below W.heap.size W w2 ∧ w2.heap.size = B + 2) := ⟨R1.out.1.next (R1.out.2.2 ▸ b2), r2, below_append R1.out.2.1 (R1.out.2.2 ▸ b2), s2⟩; clear r2 s2 b2)
      | (refine wl_lenN (.tmp 20) rfl rfl v row rfl h (N + 1) HN.out ?_)
      | (go_at_call 37; refine (HK.out _).mono ?_; rintro e w' ⟨rfl, rfl⟩)
      | (refine wl_lenN (.tmp 26) rfl rfl v row rfl h (N + 1) HN.out ?_)
      | (refine wl_index (.tmp 25) (.tmp 28) rfl rfl v row rfl (h.later R2.out.2.2.1) _ N rfl (by omega) (by have := HN.out; omega) ?_; intro pa a5; rw [HPY.out.1] at a5; have A5 : Hid (HAt w2 pa p) := a5; clear a5)
      | (refine wl_load (.tmp 29) rfl rfl pa rfl p A5.out ?_)
      | (refine wl_new rfl rfl rfl rfl rfl (.tmp 30) rfl p HPT.out (fun _ => rfl) (fun _ => rfl) ?_; rw [R2.out.2.2.2]; intro w4 r4 s4 b4; have R4 : Hid (HIs w4 B a ∧ HIs w4 (B + 1) noH ∧ Below W.heap.size W w4 ∧ HIs w4 (B + 2) p) := ⟨R2.out.1.next (R2.out.2.2.2 ▸ b4), R2.out.2.1.next (R2.out.2.2.2 ▸ b4), below_append R2.out.2.2.1 (R2.out.2.2.2 ▸ b4), r4⟩; clear r4 s4 b4))
    obtain ⟨w5, hw5⟩ : ∃ w5, w5 = w4 := ⟨_, rfl⟩
    rw [← hw5]
    have R5 : Hid (HIs w5 B a ∧ HIs w5 (B + 1) noH ∧ Below W.heap.size W w5 ∧ HIs w5 (B + 2) p) := by rw [hw5]; exact R4.out
    clear hw5 R4
    obtain ⟨z0, hz0⟩ : ∃ z0 : World, z0 = { w5 with drawn := w5.drawn + 1 } := ⟨_, rfl⟩
    have hS : (Below W.heap.size W z0 ∧ HIs z0 B a ∧ HIs z0 (B + 1) noH ∧ HIs z0 (B + 2) p) := by rw [hz0]; exact ⟨below_append R5.out.2.2.1 (below_drawn w5 _), R5.out.1, R5.out.2.1, R5.out.2.2.2⟩
    refine wp_region_until (S := fun W' => (Below W.heap.size W W' ∧ HIs W' B a ∧ HIs W' (B + 1) noH ∧ HIs W' (B + 2) p)) 12 (by kernel_rfl) ?_
    show wpAnyU _ _ _ _ _ _ 13 (Array.replicate 13 false) _ _
    rw [← hz0]
    clear hz0
    refine takeU (i := 0) (some 40) rfl rfl (by kernel_rfl) (by kernel_rfl) (by kernel_rfl) (by kernel_rfl) (by kernel_rfl) (fun _ _ _ h => h) (yMoveW rfl (.tmp 0) rfl (.int .i64 (m : Nat)) rfl) hS ?_
    simp only [Act.put, List.setIfInBounds_toArray, List.set_cons_succ, List.set_cons_zero]
    refine takeU (i := 1) (some 41) rfl rfl (by kernel_rfl) (by kernel_rfl) (by kernel_rfl) (by kernel_rfl) (by kernel_rfl) (fun _ _ _ h => h) (yMoveW rfl (.tmp 12) rfl (.int .i64 (k : Nat)) rfl) hS ?_
    simp only [Act.put, List.setIfInBounds_toArray, List.set_cons_succ, List.set_cons_zero]
    refine takeU (i := 2) (some 42) rfl rfl (by kernel_rfl) (by kernel_rfl) (by kernel_rfl) (by kernel_rfl) (by kernel_rfl) (fun _ _ _ h => h) (yRunW rfl (hv a) (fun W hW => rx_load (.tmp 7) rfl (.pointer (some ⟨B, 0, none⟩)) rfl a (hW.2.1.at))) hS ?_
    simp only [Act.put, List.setIfInBounds_toArray, List.set_cons_succ, List.set_cons_zero]
    refine takeU (i := 3) (some 43) rfl rfl (by kernel_rfl) (by kernel_rfl) (by kernel_rfl) (by kernel_rfl) (by kernel_rfl) (fun _ _ _ h => h) (yMoveW rfl (.tmp 3) rfl (v) rfl) hS ?_
    simp only [Act.put, List.setIfInBounds_toArray, List.set_cons_succ, List.set_cons_zero]
    refine takeU (i := 4) (some 44) rfl rfl (by kernel_rfl) (by kernel_rfl) (by kernel_rfl) (by kernel_rfl) (by kernel_rfl) (fun _ _ _ h => h) (yMoveW rfl (.tmp 3) rfl (v) rfl) hS ?_
    simp only [Act.put, List.setIfInBounds_toArray, List.set_cons_succ, List.set_cons_zero]
    refine takeU (i := 5) (some 45) rfl rfl (by kernel_rfl) (by kernel_rfl) (by kernel_rfl) (by kernel_rfl) (by kernel_rfl) (fun _ _ _ h => h) (yLen rfl (.tmp 44) rfl v row rfl _ (h) (N + 1) HN.out) hS ?_
    simp only [Act.put, List.setIfInBounds_toArray, List.set_cons_succ, List.set_cons_zero]
    refine takeU (i := 6) (some 46) rfl rfl (by kernel_rfl) (by kernel_rfl) (by kernel_rfl) (by kernel_rfl) (by kernel_rfl) (fun _ _ _ h => h) (yRunW rfl (.int .i64 (N : Nat)) (fun _ _ => rx_pred (.tmp 45) (.const (.int .i64 1)) rfl N rfl rfl (by omega))) hS ?_
    simp only [Act.put, List.setIfInBounds_toArray, List.set_cons_succ, List.set_cons_zero]
    refine takeU (i := 7) (some 47) rfl rfl (by kernel_rfl) (by kernel_rfl) (by kernel_rfl) (by kernel_rfl) (by kernel_rfl) (fun _ _ _ h => h) (yRunW rfl vo (fun _ _ => rx_sub (.tmp 43) none (some (.tmp 46)) rfl v vo rfl HA.out.1)) hS ?_
    simp only [Act.put, List.setIfInBounds_toArray, List.set_cons_succ, List.set_cons_zero]
    refine takeU (i := 8) (some 48) rfl rfl (by kernel_rfl) (by kernel_rfl) (by kernel_rfl) (by kernel_rfl) (by kernel_rfl) (fun _ _ _ h => h) (yMoveW rfl (.tmp 4) rfl (.bool whole) rfl) hS ?_
    simp only [Act.put, List.setIfInBounds_toArray, List.set_cons_succ, List.set_cons_zero]
    refine takeU (i := 10) (some 50) rfl rfl (by kernel_rfl) (by kernel_rfl) (by kernel_rfl) (by kernel_rfl) (by kernel_rfl) (fun _ _ _ h => h) (yRunW rfl (hv p) (fun W hW => rx_load (.tmp 11) rfl (.pointer (some ⟨(B + 2), 0, none⟩)) rfl p (hW.2.2.2.at))) hS ?_
    simp only [Act.put, List.setIfInBounds_toArray, List.set_cons_succ, List.set_cons_zero]
    refine oneU (i := 9) (by kernel_rfl) ?_
    refine opCallW (some 49) rfl rfl rfl 39 _ (run_call en39' [.tmp 40, .tmp 41, .tmp 42, .tmp 47, .tmp 48] _ rfl [.int .i64 (m : Nat), .int .i64 (k : Nat), hv a, vo, .bool whole] rfl) ?_
    refine (ih k (by omega) m whole vo ys _ q h1 (by omega) (by omega) (HA.out.2.later hS.1) HQ.out).mono ?_
    rintro e z1 ⟨rfl, bb⟩
    have hS' : (Below W.heap.size W z1 ∧ HIs z1 B a ∧ HIs z1 (B + 1) noH ∧ HIs z1 (B + 2) p) := ⟨below_append hS.1 bb, hS.2.1.next bb, hS.2.2.1.next bb, hS.2.2.2.next bb⟩
    refine ⟨_, rfl, fun _ => hS', ?_⟩
    clear hS bb
    have hS := hS'
    clear hS'
    simp only [Act.put, List.setIfInBounds_toArray, List.set_cons_succ, List.set_cons_zero]
    refine oneU (i := 11) (by kernel_rfl) ?_
    refine opCallW (some 51) rfl rfl rfl 36 _ (run_call en36' [.tmp 49, .tmp 50] _ rfl [hv q.2, hv p] rfl) ?_
    refine (refNode_any q.2 p HQH.out HPT.out _).mono ?_
    rintro e z2 ⟨rfl, bb⟩
    have hS' : (Below W.heap.size W z2 ∧ HIs z2 B a ∧ HIs z2 (B + 1) noH ∧ HIs z2 (B + 2) p) := ⟨below_append hS.1 bb, hS.2.1.next bb, hS.2.2.1.next bb, hS.2.2.2.next bb⟩
    refine ⟨_, rfl, fun _ => hS', ?_⟩
    clear hS bb
    have hS := hS'
    clear hS'
    simp only [Act.put, List.setIfInBounds_toArray, List.set_cons_succ, List.set_cons_zero]
    refine oneU (i := 12) (by kernel_rfl) ?_
    refine opSkip rfl rfl rfl _ (rx_store (.tmp 10) (.tmp 51) rfl (B + 1) rfl noH (Tree.node q.2 p) (node_isH _ _) rfl hS.2.2.1) ?_
    have oo : Only (B + 1) z2 (z2.setRow (B + 1) (bcells (Tree.node q.2 p)).toArray) := (Only.refl (B + 1) z2).setRow _
    have R7 : Hid (HIs (z2.setRow (B + 1) (bcells (Tree.node q.2 p)).toArray) (B + 1) (Tree.node q.2 p) ∧ Below W.heap.size W (z2.setRow (B + 1) (bcells (Tree.node q.2 p)).toArray)) := ⟨his_store (node_isH _ _) hS.2.2.1, hS.1.trans (oo.below (by have := HB.out; omega) hS.1.size)⟩
    refine ⟨fun h => absurd h (by decide), ?_⟩
    clear hS oo
    generalize z2.setRow (B + 1) (bcells (Tree.node q.2 p)).toArray = w9 at R7 ⊢
    refine wpAnyU_done (by kernel_rfl) ?_ _
    go_wp2_with fail
    exact bodyPost_ret (results_H Tryd.results39 _ _ (B + 1) rfl _ R7.out.1) rfl ⟨by rw [HZ.out], R7.out.2⟩
  · obtain ⟨q, hq, hzz⟩ := Tree.two_some_high h2 hmn hz hlow
    rw [hLast] at hzz
    rw [hOth] at hq
    generalize Tree.half n = k at hk hkp HK hq hlow
    have hlow' : ¬ (m : Int) ≤ (k : Int) := by omega
    obtain ⟨p, hp⟩ : ∃ p, row.getD N [] = p := ⟨_, rfl⟩
    obtain ⟨ys, hys⟩ : ∃ ys, row.take N = ys := ⟨_, rfl⟩
    obtain ⟨vo, ro, so⟩ := run_hto h N (by omega)
    have HA : Hid ((∀ w', (Instr.slice 24 v none (some (.int .i64 (N : Nat))) none).run Tryd.prog w' = .ok vo w') ∧ HIn W vo ys) := ⟨ro, hys ▸ so⟩
    have HPY : Hid (row.getD N [] = p ∧ row.take N = ys) := ⟨hp, hys⟩
    rw [hp] at HPT
    have HZ : Hid (z.2 = Tree.node p q.2) := by rw [← hp, hzz]; rfl
    have HQ : Hid (Tree.two (m - k) (n - k) a ys false = some q) := hys ▸ hq
    have HQH : Hid (IsH q.2) := (two_isH HX.out (HA.out.2.all) HQ.out).2
    clear hN hr hp hys hLast hOth hlm hq hzz ro so hz
    go_enter Tryd.func39, Tryd.ntmps39
    go_wp2_with (first
      | (refine wl_box (.tmp 2) rfl rfl a HX.out rfl ?_; rw [← HB.out]; intro w1 r1 s1 b1; have R1 : Hid (HIs w1 B a ∧ Below W.heap.size W w1 ∧ w1.heap.size = B + 1) := ⟨r1, HB.out ▸ b1, s1⟩; clear r1 s1 b1)
      | (refine wl_alloc rfl rfl ?_; rw [R1.out.2.2]; intro w2 r2 s2 b2; have R2 : Hid (HIs w2 B a ∧ HIs w2 (B + 1) noH ∧ Below W.heap.size W w2 ∧ w2.heap.size = B + 2) := ⟨R1.out.1.next (R1.out.2.2 ▸ b2), r2, below_append R1.out.2.1 (R1.out.2.2 ▸ b2), s2⟩; clear r2 s2 b2)
      | (refine wl_lenN (.tmp 20) rfl rfl v row rfl h (N + 1) HN.out ?_)
      | (go_at_call 37; refine (HK.out _).mono ?_; rintro e w' ⟨rfl, rfl⟩)
      | (refine wl_lenN (.tmp 26) rfl rfl v row rfl h (N + 1) HN.out ?_)
      | (refine wl_index (.tmp 25) (.tmp 28) rfl rfl v row rfl (h.later R2.out.2.2.1) _ N rfl (by omega) (by have := HN.out; omega) ?_; intro pa a5; rw [HPY.out.1] at a5; have A5 : Hid (HAt w2 pa p) := a5; clear a5)
      | (refine wl_load (.tmp 29) rfl rfl pa rfl p A5.out ?_)
      | (refine wl_new rfl rfl rfl rfl rfl (.tmp 30) rfl p HPT.out (fun _ => rfl) (fun _ => rfl) ?_; rw [R2.out.2.2.2]; intro w4 r4 s4 b4; have R4 : Hid (HIs w4 B a ∧ HIs w4 (B + 1) noH ∧ Below W.heap.size W w4 ∧ HIs w4 (B + 2) p) := ⟨R2.out.1.next (R2.out.2.2.2 ▸ b4), R2.out.2.1.next (R2.out.2.2.2 ▸ b4), below_append R2.out.2.2.1 (R2.out.2.2.2 ▸ b4), r4⟩; clear r4 s4 b4))
    obtain ⟨w5, hw5⟩ : ∃ w5, w5 = w4 := ⟨_, rfl⟩
    rw [← hw5]
    have R5 : Hid (HIs w5 B a ∧ HIs w5 (B + 1) noH ∧ Below W.heap.size W w5 ∧ HIs w5 (B + 2) p) := by rw [hw5]; exact R4.out
    clear hw5 R4
    obtain ⟨z0, hz0⟩ : ∃ z0 : World, z0 = { w5 with drawn := w5.drawn + 1 } := ⟨_, rfl⟩
    have hS : (Below W.heap.size W z0 ∧ HIs z0 B a ∧ HIs z0 (B + 1) noH ∧ HIs z0 (B + 2) p) := by rw [hz0]; exact ⟨below_append R5.out.2.2.1 (below_drawn w5 _), R5.out.1, R5.out.2.1, R5.out.2.2.2⟩
    refine wp_region_until (S := fun W' => (Below W.heap.size W W' ∧ HIs W' B a ∧ HIs W' (B + 1) noH ∧ HIs W' (B + 2) p)) 15 (by kernel_rfl) ?_
    show wpAnyU _ _ _ _ _ _ 16 (Array.replicate 16 false) _ _
    rw [← hz0]
    clear hz0
    refine takeU (i := 0) (some 52) rfl rfl (by kernel_rfl) (by kernel_rfl) (by kernel_rfl) (by kernel_rfl) (by kernel_rfl) (fun _ _ _ h => h) (yRunW rfl (hv p) (fun W hW => rx_load (.tmp 11) rfl (.pointer (some ⟨(B + 2), 0, none⟩)) rfl p (hW.2.2.2.at))) hS ?_
    simp only [Act.put, List.setIfInBounds_toArray, List.set_cons_succ, List.set_cons_zero]
    refine takeU (i := 1) (some 53) rfl rfl (by kernel_rfl) (by kernel_rfl) (by kernel_rfl) (by kernel_rfl) (by kernel_rfl) (fun _ _ _ h => h) (yMoveW rfl (.tmp 0) rfl (.int .i64 (m : Nat)) rfl) hS ?_
    simp only [Act.put, List.setIfInBounds_toArray, List.set_cons_succ, List.set_cons_zero]
    refine takeU (i := 2) (some 54) rfl rfl (by kernel_rfl) (by kernel_rfl) (by kernel_rfl) (by kernel_rfl) (by kernel_rfl) (fun _ _ _ h => h) (yMoveW rfl (.tmp 12) rfl (.int .i64 (k : Nat)) rfl) hS ?_
    simp only [Act.put, List.setIfInBounds_toArray, List.set_cons_succ, List.set_cons_zero]
    refine takeU (i := 3) (some 55) rfl rfl (by kernel_rfl) (by kernel_rfl) (by kernel_rfl) (by kernel_rfl) (by kernel_rfl) (fun _ _ _ h => h) (yRunW rfl (.int .i64 ((m - k : Nat) : Int)) (fun _ _ => rx_minus (.tmp 53) (.tmp 54) rfl m k rfl rfl (by omega) (by omega))) hS ?_
    simp only [Act.put, List.setIfInBounds_toArray, List.set_cons_succ, List.set_cons_zero]
    refine takeU (i := 4) (some 56) rfl rfl (by kernel_rfl) (by kernel_rfl) (by kernel_rfl) (by kernel_rfl) (by kernel_rfl) (fun _ _ _ h => h) (yMoveW rfl (.tmp 1) rfl (.int .i64 (n : Nat)) rfl) hS ?_
    simp only [Act.put, List.setIfInBounds_toArray, List.set_cons_succ, List.set_cons_zero]
    refine takeU (i := 5) (some 57) rfl rfl (by kernel_rfl) (by kernel_rfl) (by kernel_rfl) (by kernel_rfl) (by kernel_rfl) (fun _ _ _ h => h) (yMoveW rfl (.tmp 12) rfl (.int .i64 (k : Nat)) rfl) hS ?_
    simp only [Act.put, List.setIfInBounds_toArray, List.set_cons_succ, List.set_cons_zero]
    refine takeU (i := 6) (some 58) rfl rfl (by kernel_rfl) (by kernel_rfl) (by kernel_rfl) (by kernel_rfl) (by kernel_rfl) (fun _ _ _ h => h) (yRunW rfl (.int .i64 ((n - k : Nat) : Int)) (fun _ _ => rx_minus (.tmp 56) (.tmp 57) rfl n k rfl rfl (by omega) (by omega))) hS ?_
    simp only [Act.put, List.setIfInBounds_toArray, List.set_cons_succ, List.set_cons_zero]
    refine takeU (i := 7) (some 59) rfl rfl (by kernel_rfl) (by kernel_rfl) (by kernel_rfl) (by kernel_rfl) (by kernel_rfl) (fun _ _ _ h => h) (yRunW rfl (hv a) (fun W hW => rx_load (.tmp 7) rfl (.pointer (some ⟨B, 0, none⟩)) rfl a (hW.2.1.at))) hS ?_
    simp only [Act.put, List.setIfInBounds_toArray, List.set_cons_succ, List.set_cons_zero]
    refine takeU (i := 8) (some 60) rfl rfl (by kernel_rfl) (by kernel_rfl) (by kernel_rfl) (by kernel_rfl) (by kernel_rfl) (fun _ _ _ h => h) (yMoveW rfl (.tmp 3) rfl (v) rfl) hS ?_
    simp only [Act.put, List.setIfInBounds_toArray, List.set_cons_succ, List.set_cons_zero]
    refine takeU (i := 9) (some 61) rfl rfl (by kernel_rfl) (by kernel_rfl) (by kernel_rfl) (by kernel_rfl) (by kernel_rfl) (fun _ _ _ h => h) (yMoveW rfl (.tmp 3) rfl (v) rfl) hS ?_
    simp only [Act.put, List.setIfInBounds_toArray, List.set_cons_succ, List.set_cons_zero]
    refine takeU (i := 10) (some 62) rfl rfl (by kernel_rfl) (by kernel_rfl) (by kernel_rfl) (by kernel_rfl) (by kernel_rfl) (fun _ _ _ h => h) (yLen rfl (.tmp 61) rfl v row rfl _ (h) (N + 1) HN.out) hS ?_
    simp only [Act.put, List.setIfInBounds_toArray, List.set_cons_succ, List.set_cons_zero]
    refine takeU (i := 11) (some 63) rfl rfl (by kernel_rfl) (by kernel_rfl) (by kernel_rfl) (by kernel_rfl) (by kernel_rfl) (fun _ _ _ h => h) (yRunW rfl (.int .i64 (N : Nat)) (fun _ _ => rx_pred (.tmp 62) (.const (.int .i64 1)) rfl N rfl rfl (by omega))) hS ?_
    simp only [Act.put, List.setIfInBounds_toArray, List.set_cons_succ, List.set_cons_zero]
    refine takeU (i := 12) (some 64) rfl rfl (by kernel_rfl) (by kernel_rfl) (by kernel_rfl) (by kernel_rfl) (by kernel_rfl) (fun _ _ _ h => h) (yRunW rfl vo (fun _ _ => rx_sub (.tmp 60) none (some (.tmp 63)) rfl v vo rfl HA.out.1)) hS ?_
    simp only [Act.put, List.setIfInBounds_toArray, List.set_cons_succ, List.set_cons_zero]
    refine oneU (i := 13) (by kernel_rfl) ?_
    refine opCallW (some 65) rfl rfl rfl 39 _ (run_call en39' [.tmp 55, .tmp 58, .tmp 59, .tmp 64, .const (.bool false)] _ rfl [.int .i64 ((m - k) : Nat), .int .i64 ((n - k) : Nat), hv a, vo, .bool false] rfl) ?_
    refine (ih (n - k) (by omega) (m - k) false vo ys _ q (by omega) (by omega) (by omega) (HA.out.2.later hS.1) HQ.out).mono ?_
    rintro e z1 ⟨rfl, bb⟩
    have hS' : (Below W.heap.size W z1 ∧ HIs z1 B a ∧ HIs z1 (B + 1) noH ∧ HIs z1 (B + 2) p) := ⟨below_append hS.1 bb, hS.2.1.next bb, hS.2.2.1.next bb, hS.2.2.2.next bb⟩
    refine ⟨_, rfl, fun _ => hS', ?_⟩
    clear hS bb
    have hS := hS'
    clear hS'
    simp only [Act.put, List.setIfInBounds_toArray, List.set_cons_succ, List.set_cons_zero]
    refine oneU (i := 14) (by kernel_rfl) ?_
    refine opCallW (some 66) rfl rfl rfl 36 _ (run_call en36' [.tmp 52, .tmp 65] _ rfl [hv p, hv q.2] rfl) ?_
    refine (refNode_any p q.2 HPT.out HQH.out _).mono ?_
    rintro e z2 ⟨rfl, bb⟩
    have hS' : (Below W.heap.size W z2 ∧ HIs z2 B a ∧ HIs z2 (B + 1) noH ∧ HIs z2 (B + 2) p) := ⟨below_append hS.1 bb, hS.2.1.next bb, hS.2.2.1.next bb, hS.2.2.2.next bb⟩
    refine ⟨_, rfl, fun _ => hS', ?_⟩
    clear hS bb
    have hS := hS'
    clear hS'
    simp only [Act.put, List.setIfInBounds_toArray, List.set_cons_succ, List.set_cons_zero]
    refine oneU (i := 15) (by kernel_rfl) ?_
    refine opSkip rfl rfl rfl _ (rx_store (.tmp 10) (.tmp 66) rfl (B + 1) rfl noH (Tree.node p q.2) (node_isH _ _) rfl hS.2.2.1) ?_
    have oo : Only (B + 1) z2 (z2.setRow (B + 1) (bcells (Tree.node p q.2)).toArray) := (Only.refl (B + 1) z2).setRow _
    have R7 : Hid (HIs (z2.setRow (B + 1) (bcells (Tree.node p q.2)).toArray) (B + 1) (Tree.node p q.2) ∧ Below W.heap.size W (z2.setRow (B + 1) (bcells (Tree.node p q.2)).toArray)) := ⟨his_store (node_isH _ _) hS.2.2.1, hS.1.trans (oo.below (by have := HB.out; omega) hS.1.size)⟩
    refine ⟨fun h => absurd h (by decide), ?_⟩
    clear hS oo
    generalize z2.setRow (B + 1) (bcells (Tree.node p q.2)).toArray = w9 at R7 ⊢
    refine wpAnyU_done (by kernel_rfl) ?_ _
    go_wp2_with fail
    exact bodyPost_ret (results_H Tryd.results39 _ _ (B + 1) rfl _ R7.out.1) rfl ⟨by rw [HZ.out], R7.out.2⟩
end Go.Proofs.YtjdmpanemdhbbaaDoor

/- The statements' own collisions: parts. -/
import Derived.Test.YtjdmpanemdhbbaaDoorClimb
namespace Go.Proofs.YtjdmpanemdhbbaaDoor
open Go.RowKit

structure CoS (W Wc : World) (B gp gl gg : Nat) (x p lf rg : List Nat) : Prop where
  x : HIs Wc B x
  p : HIs Wc gp p
  l : HIs Wc gl lf
  r : HIs Wc gg rg
  b : Below W.heap.size W Wc
theorem CoS.next {W Wc W' : World} {B gp gl gg : Nat} {x p lf rg : List Nat} (h : CoS W Wc B gp gl gg x p lf rg) (hb : Below Wc.heap.size Wc W') : CoS W W' B gp gl gg x p lf rg :=
  ⟨h.x.next hb, h.p.next hb, h.l.next hb, h.r.next hb, below_append h.b hb⟩

set_option maxHeartbeats 16000000 in
set_option maxRecDepth 100000 in
theorem parts_any (a : List Nat) (ha : IsH a) : ∀ (n m : Nat) (whole : Bool) (vl vr : Value) (hs row : List (List Nat)) (W : World) (old : List Nat), hs.length = n → n ≤ 1099511627776 → 1 ≤ m → m ≤ n → HIn W vl hs → HIn W vr row → Tree.two m n a row whole = some (old, Tree.root hs) → old ≠ Tree.root (hs.take m) →
    Calls Tryd.prog 21 #[.int .i64 (m : Nat), vl, hv a, vr, .bool whole] W fun e W' => e = .returned (.bool true) ∧ Below W.heap.size W W' := by
  intro n
  induction n using Nat.strongRecOn with
  | _ n ih =>
  intro m whole vl vr hs row W old hn hmax h1 hm hh h hu hne
  by_cases hmn : m = n
  · exfalso
    rw [List.take_of_length_le (by omega)] at hne
    cases whole with
    | true =>
      obtain ⟨e, _⟩ := Tree.two_some_whole hmn hu
      exact hne ((congrArg Prod.fst e).trans (congrArg Prod.snd e).symm)
    | false =>
      obtain ⟨e, _⟩ := Tree.two_some_part hmn hu
      exact hne ((congrArg Prod.fst e).trans (congrArg Prod.snd e).symm)
  have h2 : 2 ≤ n := by omega
  have hr := Tree.two_some_len (fun h => hmn h.1) hu
  have hmn' : ¬ (n : Int) ≤ (m : Int) := by omega
  have HX : Hid (IsH a) := ha
  have hlm := h.max
  obtain ⟨N, hN⟩ : ∃ N, row.length = N + 1 := ⟨row.length - 1, by omega⟩
  have HN : Hid (row.length = N + 1) := hN
  have hNm : N + 1 ≤ 9223372036854775807 := by omega
  have hneN : ((N : Int) + 1 == 0) = false := by simp; omega
  have hneN' : ¬ ((N : Int) + 1 = 0) := by omega
  have hLast : Tree.lastOf row = row.getD N [] := by unfold Tree.lastOf; rw [hN]; rfl
  have hOth : Tree.othersOf row = row.take N := by unfold Tree.othersOf; rw [hN]; rfl
  have HPT : Hid (IsH (row.getD N [])) := by rw [← hLast]; exact last_isH h.all hr
  have hk := Tree.half_lt n h2
  have hkp := Tree.half_pos n
  have HK : Hid (∀ W, Calls Tryd.prog 37 #[.int .i64 (n : Nat)] W fun e w' => e = .returned (.int .i64 (Tree.half n : Nat)) ∧ W = w') := fun W => below37 n W h2 (by omega)
  have HHN : Hid (hs.length = n) := hn
  have hlt2 : ¬ (n : Int) < 2 := by omega
  have hroot : Tree.root hs = Tree.node (Tree.root (hs.take (Tree.half n))) (Tree.root (hs.drop (Tree.half n))) := by
    have := Tree.root_two hs (by omega)
    rwa [hn] at this
  have htake : ¬ m ≤ Tree.half n → Tree.root (hs.take m) = Tree.node (Tree.root (hs.take (Tree.half n))) (Tree.root ((hs.drop (Tree.half n)).take (m - Tree.half n))) := fun hlow => by
    have := Tree.root_take hs m (by rw [hn]; omega) (by omega) (by omega)
    rwa [hn] at this
  obtain ⟨B, hB⟩ : ∃ B, B = W.heap.size := ⟨_, rfl⟩
  have HB : Hid (B = W.heap.size) := hB
  clear hB
  by_cases hlow : m ≤ Tree.half n
  · obtain ⟨q, hq, hzz⟩ := Tree.two_some_low h2 hmn hu hlow
    rw [hLast] at hzz
    rw [hOth] at hq
    have hz1 := congrArg Prod.fst hzz
    have hz2 := congrArg Prod.snd hzz
    simp only at hz1 hz2
    rw [hroot] at hz2

    generalize Tree.half n = k at hk hkp HK hq hlow hz2
    have hlow' : (m : Int) ≤ (k : Int) := by omega
    obtain ⟨p, hp⟩ : ∃ p, row.getD N [] = p := ⟨_, rfl⟩
    obtain ⟨ys, hys⟩ : ∃ ys, row.take N = ys := ⟨_, rfl⟩
    have HPY : Hid (row.getD N [] = p ∧ row.take N = ys) := ⟨hp, hys⟩
    rw [hp] at HPT hzz hz2
    have HQ : Hid (Tree.two m k a ys whole = some q) := hys ▸ hq
    have HYS : Hid (AllH ys) := by rw [← hys]; exact h.all.take N
    have HQH : Hid (IsH q.2) := (two_isH HX.out HYS.out HQ.out).2
    obtain ⟨vo, ro, so⟩ := run_hto h N (by omega)
    obtain ⟨va, ra, sa⟩ := run_hto hh k (by omega)
    obtain ⟨vb, rb, sb⟩ := run_hfrom hh k (by omega)
    obtain ⟨ta, hta⟩ : ∃ ta, ta = hs.take k := ⟨_, rfl⟩
    obtain ⟨tb, htb⟩ : ∃ tb, tb = hs.drop k := ⟨_, rfl⟩
    have HTA : Hid ((∀ w', (Instr.slice 24 vl none (some (.int .i64 (k : Nat))) none).run Tryd.prog w' = .ok va w') ∧ HIn W va ta ∧ ta.length = k) := ⟨ra, hta ▸ sa, by rw [hta, List.length_take]; omega⟩
    have HTB : Hid ((∀ w', (Instr.slice 24 vl (some (.int .i64 (k : Nat))) none none).run Tryd.prog w' = .ok vb w') ∧ HIn W vb tb ∧ tb.length = n - k) := ⟨rb, htb ▸ sb, by rw [htb, List.length_drop]; omega⟩
    have HEQ : Hid (Tree.node q.2 p = Tree.node (Tree.root ta) (Tree.root tb)) := by rw [hta, htb]; exact hz2.symm
    have HNE : Hid (q.1 ≠ Tree.root (ta.take m)) := by
      rw [hta, List.take_take, Nat.min_eq_left hlow, ← hz1]
      exact hne
    have HRT : Hid (IsH (Tree.root ta) ∧ IsH (Tree.root tb)) := ⟨HTA.out.2.1.all.root, HTB.out.2.1.all.root⟩
    clear hN hr hp hys hLast hOth hlm hq hzz ro so ra sa rb sb hta htb hu hne hroot hz1 hz2 htake
    obtain ⟨lf, hlf⟩ : ∃ lf, lf = Tree.root ta := ⟨_, rfl⟩
    obtain ⟨rg, hrg⟩ : ∃ rg, rg = Tree.root tb := ⟨_, rfl⟩
    rw [← hlf, ← hrg] at HEQ HRT
    have HLR : Hid (lf = Tree.root ta ∧ rg = Tree.root tb) := ⟨hlf, hrg⟩
    clear hlf hrg
    go_enter Tryd.func21, Tryd.ntmps21
    go_wp2_with ((first
      | (refine wl_box (.tmp 2) rfl rfl a HX.out rfl ?_; rw [← HB.out]; intro w1 r1 s1 b1; have R1 : Hid (HIs w1 B a ∧ Below W.heap.size W w1) := ⟨r1, HB.out ▸ b1⟩; clear r1 s1 b1)
      | (refine wl_lenN (.tmp 19) rfl rfl vl hs rfl hh n HHN.out ?_)
      | (refine wl_lenN (.tmp 25) rfl rfl vr row rfl h (N + 1) HN.out ?_)

      | (go_at_call 37; refine (HK.out _).mono ?_; rintro e w' ⟨rfl, rfl⟩)
      | (refine wl_lenN (.tmp 32) rfl rfl vr row rfl h (N + 1) HN.out ?_)
      | (refine wl_index (.tmp 31) (.tmp 34) rfl rfl vr row rfl (h.later R1.out.2) _ N rfl (by omega) (by have := HN.out; omega) ?_; intro pa a5; rw [HPY.out.1] at a5; have A5 : Hid (HAt w1 pa p) := a5; clear a5)
      | (refine wl_load (.tmp 35) rfl rfl pa rfl p A5.out ?_)
      | (refine wl_new rfl rfl rfl rfl rfl (.tmp 36) rfl p HPT.out (fun _ => rfl) (fun _ => rfl) ?_; intro w2 r2 s2 b2; have R2 : Hid (HIs w2 B a ∧ HIs w2 w1.heap.size p ∧ Below W.heap.size W w2) := ⟨R1.out.1.next b2, r2, below_append R1.out.2 b2⟩; clear r2 s2 b2)
      | (refine wl_lenN (.tmp 38) rfl rfl vr row rfl h (N + 1) HN.out ?_)
      | (refine wl_to (.tmp 37) (.tmp 40) rfl rfl vr row rfl (h.later R2.out.2.2) _ N rfl (by omega) (by have := HN.out; omega) ?_; intro vo s6; rw [HPY.out.2] at s6; have S6 : Hid (HIn w2 vo ys) := s6; clear s6)
      | (refine wl rfl va _ (rx_sub (.tmp 42) none (some (.tmp 43)) rfl vl va rfl HTA.out.1) ?_)); try simp only [Act.put, List.setIfInBounds_toArray, List.set_cons_succ, List.set_cons_zero])
    refine (refRoot_any k va ta w2 HTA.out.2.2 (by omega) (HTA.out.2.1.later R2.out.2.2)).mono ?_
    rw [← HLR.out.1]
    rintro e w3 ⟨rfl, b3⟩
    have R3 : Hid (HIs w3 B a ∧ HIs w3 w1.heap.size p ∧ Below W.heap.size W w3 ∧ HIn w3 vo ys) := ⟨R2.out.1.next b3, R2.out.2.1.next b3, below_append R2.out.2.2 b3, S6.out.later b3⟩
    clear b3
    go_wp2_with ((first
      | (refine wl_new rfl rfl rfl rfl rfl (.tmp 45) rfl lf HRT.out.1 (fun _ => rfl) (fun _ => rfl) ?_; intro w4 r4 s4 b4; have R4 : Hid (HIs w4 B a ∧ HIs w4 w1.heap.size p ∧ Below W.heap.size W w4 ∧ HIn w4 vo ys ∧ HIs w4 w3.heap.size lf) := ⟨R3.out.1.next b4, R3.out.2.1.next b4, below_append R3.out.2.2.1 b4, R3.out.2.2.2.later b4, r4⟩; clear r4 s4 b4)
      | (refine wl rfl vb _ (rx_sub (.tmp 46) (some (.tmp 47)) none rfl vl vb rfl HTB.out.1) ?_)); try simp only [Act.put, List.setIfInBounds_toArray, List.set_cons_succ, List.set_cons_zero])
    refine (refRoot_any (n - k) vb tb w4 HTB.out.2.2 (by omega) (HTB.out.2.1.later R4.out.2.2.1)).mono ?_
    rw [← HLR.out.2]
    rintro e w5 ⟨rfl, b5⟩
    have R5 : Hid (HIs w5 B a ∧ HIs w5 w1.heap.size p ∧ Below W.heap.size W w5 ∧ HIn w5 vo ys ∧ HIs w5 w3.heap.size lf) := ⟨R4.out.1.next b5, R4.out.2.1.next b5, below_append R4.out.2.2.1 b5, R4.out.2.2.2.1.later b5, R4.out.2.2.2.2.next b5⟩
    clear b5
    go_wp2_with ((first
      | (refine wl_new rfl rfl rfl rfl rfl (.tmp 49) rfl rg HRT.out.2 (fun _ => rfl) (fun _ => rfl) ?_; intro w6 r6 s6 b6; have R6 : Hid (CoS W w6 B w1.heap.size w3.heap.size w5.heap.size a p lf rg ∧ HIn w6 vo ys) := ⟨⟨R5.out.1.next b6, R5.out.2.1.next b6, R5.out.2.2.2.2.next b6, r6, below_append R5.out.2.2.1 b6⟩, R5.out.2.2.2.1.later b6⟩; clear r6 s6 b6; generalize w1.heap.size = gp at R6 ⊢; generalize w3.heap.size = gl at R6 ⊢; generalize w5.heap.size = gg at R6 ⊢)
      | (refine wl_load (.tmp 7) rfl rfl _ rfl a R6.out.1.x.at ?_)
      | (refine wl_lenN (.tmp 80) rfl rfl vl hs rfl hh n HHN.out ?_)); try simp only [Act.put, List.setIfInBounds_toArray, List.set_cons_succ, List.set_cons_zero])
    refine (fresh_any a HX.out k m whole vo ys w6 q h1 (by omega) (by omega) R6.out.2 HQ.out).mono ?_
    rintro e w7 ⟨rfl, b7⟩
    have R7 : Hid (CoS W w7 B gp gl gg a p lf rg ∧ HIn w7 vo ys) := ⟨R6.out.1.next b7, R6.out.2.later b7⟩
    clear b7 R6
    obtain ⟨y, hy⟩ : ∃ y, q.2 = y := ⟨_, rfl⟩
    rw [hy] at HEQ HQH ⊢
    have HY : Hid (q.2 = y) := hy
    clear hy
    by_cases hyq : y = lf
    · have HYQ : Hid (decide (y = lf) = true) := decide_eq_true hyq
      by_cases hpc : p = rg
      · have HPC : Hid (decide (p = rg) = true) := decide_eq_true hpc
        have HQ2 : Hid (Tree.two m k a ys whole = some (q.1, Tree.root ta)) := by show _ = _; rw [HQ.out, ← HLR.out.1, ← hyq, ← HY.out]
        have HN2 : Hid (q.1 ≠ Tree.root (ta.take m)) := HNE.out
        clear hyq hpc
        go_wp2_with ((first
          | (refine wl_new rfl rfl rfl rfl rfl (.tmp 58) rfl y HQH.out (fun _ => rfl) (fun _ => rfl) ?_; intro w8 r8 s8 b8; have R8 : Hid ((CoS W w8 B gp gl gg a p lf rg ∧ HIn w8 vo ys) ∧ HIs w8 w7.heap.size y) := ⟨⟨R7.out.1.next b8, R7.out.2.later b8⟩, r8⟩; clear r8 s8 b8; generalize w7.heap.size = gy at R8 ⊢)
          | (refine wl_load (.tmp 17) rfl rfl _ rfl y R8.out.2.at ?_)
          | (refine wl_load (.tmp 15) rfl rfl _ rfl lf R8.out.1.1.l.at ?_)
          | (refine wl_load (.tmp 16) rfl rfl _ rfl rg R8.out.1.1.r.at ?_)
          | (refine wl_load (.tmp 13) rfl rfl _ rfl p R8.out.1.1.p.at ?_)
          | (refine wl_ne (.tmp 59) (.tmp 60) rfl rfl y lf HQH.out HRT.out.1 rfl rfl ?_; rw [HYQ.out]; simp only [Bool.not_true])
          | (refine wl_ne (.tmp 63) (.tmp 64) rfl rfl p rg HPT.out HRT.out.2 rfl rfl ?_; rw [HPC.out]; simp only [Bool.not_true])); try simp only [Act.put, List.setIfInBounds_toArray, List.set_cons_succ, List.set_cons_zero])
        refine wp_region_held (S := fun W' => Below w8.heap.size w8 W') (by kernel_rfl) ?_
        show wpAnyH _ _ _ _ _ 9 (Array.replicate 9 false) _ _
        have hS : Below w8.heap.size w8 { w8 with drawn := w8.drawn + 1 } := below_drawn w8 _
        refine takeH (i := 0) (some 74) rfl rfl (by kernel_rfl) (by kernel_rfl) (by kernel_rfl) (fun _ _ _ h => h) (yMoveW rfl (.tmp 0) rfl (.int .i64 (m : Nat)) rfl) hS ?_
        simp only [Act.put, List.setIfInBounds_toArray, List.set_cons_succ, List.set_cons_zero]
        refine takeH (i := 1) (some 75) rfl rfl (by kernel_rfl) (by kernel_rfl) (by kernel_rfl) (fun _ _ _ h => h) (yMoveW rfl (.tmp 1) rfl (vl) rfl) hS ?_
        simp only [Act.put, List.setIfInBounds_toArray, List.set_cons_succ, List.set_cons_zero]
        refine takeH (i := 2) (some 76) rfl rfl (by kernel_rfl) (by kernel_rfl) (by kernel_rfl) (fun _ _ _ h => h) (yMoveW rfl (.tmp 12) rfl (.int .i64 (k : Nat)) rfl) hS ?_
        simp only [Act.put, List.setIfInBounds_toArray, List.set_cons_succ, List.set_cons_zero]
        refine takeH (i := 3) (some 77) rfl rfl (by kernel_rfl) (by kernel_rfl) (by kernel_rfl) (fun _ _ _ h => h) (yRunW rfl va (fun _ _ => rx_sub (.tmp 75) none (some (.tmp 76)) rfl vl va rfl HTA.out.1)) hS ?_
        simp only [Act.put, List.setIfInBounds_toArray, List.set_cons_succ, List.set_cons_zero]
        refine takeH (i := 4) (some 78) rfl rfl (by kernel_rfl) (by kernel_rfl) (by kernel_rfl) (fun _ _ _ h => h) (yRunW rfl (hv a) (fun W hW => rx_load (.tmp 7) rfl (.pointer (some ⟨B, 0, none⟩)) rfl a ((R8.out.1.1.next hW).x.at))) hS ?_
        simp only [Act.put, List.setIfInBounds_toArray, List.set_cons_succ, List.set_cons_zero]
        refine takeH (i := 5) (some 79) rfl rfl (by kernel_rfl) (by kernel_rfl) (by kernel_rfl) (fun _ _ _ h => h) (yMoveW rfl (.tmp 14) rfl (vo) rfl) hS ?_
        simp only [Act.put, List.setIfInBounds_toArray, List.set_cons_succ, List.set_cons_zero]
        refine takeH (i := 6) (some 80) rfl rfl (by kernel_rfl) (by kernel_rfl) (by kernel_rfl) (fun _ _ _ h => h) (yMoveW rfl (.tmp 4) rfl (.bool whole) rfl) hS ?_
        simp only [Act.put, List.setIfInBounds_toArray, List.set_cons_succ, List.set_cons_zero]
        refine oneH (i := 7) (by kernel_rfl) ?_
        refine opCallW (some 81) rfl rfl rfl 21 _ (run_call en21' [.tmp 74, .tmp 77, .tmp 78, .tmp 79, .tmp 80] _ rfl [.int .i64 (m : Nat), va, hv a, vo, .bool whole] rfl) ?_
        refine (ih k (by omega) m whole va vo ta ys _ q.1 HTA.out.2.2 (by omega) (by omega) (by omega) (HTA.out.2.1.later (below_append R8.out.1.1.b hS)) (R8.out.1.2.later hS) HQ2.out HN2.out).mono ?_
        rintro e u1 ⟨rfl, bb⟩
        have hS' : Below w8.heap.size w8 u1 := below_append hS bb
        refine ⟨_, rfl, hS', ?_⟩
        clear hS bb
        have hS := hS'
        clear hS'
        simp only [Act.put, List.setIfInBounds_toArray, List.set_cons_succ, List.set_cons_zero]
        refine takeH (i := 8) (some 10) rfl rfl (by kernel_rfl) (by kernel_rfl) (by kernel_rfl) (fun _ _ _ h => h) (yAssign rfl (.tmp 81) rfl (.bool true) rfl) hS ?_
        simp only [Act.put, List.setIfInBounds_toArray, List.set_cons_succ, List.set_cons_zero]
        refine wpAnyH_done (by kernel_rfl) ?_ _
        have HB9 : Hid (Below W.heap.size W _) := below_append R8.out.1.1.b hS
        clear hS
        go_wp2_with fail
        go_ret
        exact ⟨rfl, HB9.out⟩
      · have HPC : Hid (decide (p = rg) = false) := decide_eq_false hpc
        clear hyq hpc
        go_wp2_with ((first
          | (refine wl_new rfl rfl rfl rfl rfl (.tmp 58) rfl y HQH.out (fun _ => rfl) (fun _ => rfl) ?_; intro w8 r8 s8 b8; have R8 : Hid ((CoS W w8 B gp gl gg a p lf rg ∧ HIn w8 vo ys) ∧ HIs w8 w7.heap.size y) := ⟨⟨R7.out.1.next b8, R7.out.2.later b8⟩, r8⟩; clear r8 s8 b8; generalize w7.heap.size = gy at R8 ⊢)
          | (refine wl_load (.tmp 17) rfl rfl _ rfl y R8.out.2.at ?_)
          | (refine wl_load (.tmp 15) rfl rfl _ rfl lf R8.out.1.1.l.at ?_)
          | (refine wl_load (.tmp 16) rfl rfl _ rfl rg R8.out.1.1.r.at ?_)
          | (refine wl_load (.tmp 13) rfl rfl _ rfl p R8.out.1.1.p.at ?_)
          | (refine wl_ne (.tmp 59) (.tmp 60) rfl rfl y lf HQH.out HRT.out.1 rfl rfl ?_; rw [HYQ.out]; simp only [Bool.not_true])
          | (refine wl_ne (.tmp 63) (.tmp 64) rfl rfl p rg HPT.out HRT.out.2 rfl rfl ?_; rw [HPC.out]; simp only [Bool.not_false])); try simp only [Act.put, List.setIfInBounds_toArray, List.set_cons_succ, List.set_cons_zero])
        refine wp_region_held (S := fun W' => Below w8.heap.size w8 W') (by kernel_rfl) ?_
        show wpAnyH _ _ _ _ _ 8 (Array.replicate 8 false) _ _
        have hS : Below w8.heap.size w8 { w8 with drawn := w8.drawn + 1 } := below_drawn w8 _
        refine takeH (i := 0) (some 67) rfl rfl (by kernel_rfl) (by kernel_rfl) (by kernel_rfl) (fun _ _ _ h => h) (yRunW rfl (hv y) (fun W hW => rx_load (.tmp 17) rfl (.pointer (some ⟨gy, 0, none⟩)) rfl y ((R8.out.2.next hW).at))) hS ?_
        simp only [Act.put, List.setIfInBounds_toArray, List.set_cons_succ, List.set_cons_zero]
        refine takeH (i := 1) (some 68) rfl rfl (by kernel_rfl) (by kernel_rfl) (by kernel_rfl) (fun _ _ _ h => h) (yRunW rfl (hv p) (fun W hW => rx_load (.tmp 13) rfl (.pointer (some ⟨gp, 0, none⟩)) rfl p ((R8.out.1.1.next hW).p.at))) hS ?_
        simp only [Act.put, List.setIfInBounds_toArray, List.set_cons_succ, List.set_cons_zero]
        refine takeH (i := 3) (some 70) rfl rfl (by kernel_rfl) (by kernel_rfl) (by kernel_rfl) (fun _ _ _ h => h) (yRunW rfl (hv lf) (fun W hW => rx_load (.tmp 15) rfl (.pointer (some ⟨gl, 0, none⟩)) rfl lf ((R8.out.1.1.next hW).l.at))) hS ?_
        simp only [Act.put, List.setIfInBounds_toArray, List.set_cons_succ, List.set_cons_zero]
        refine takeH (i := 4) (some 71) rfl rfl (by kernel_rfl) (by kernel_rfl) (by kernel_rfl) (fun _ _ _ h => h) (yRunW rfl (hv rg) (fun W hW => rx_load (.tmp 16) rfl (.pointer (some ⟨gg, 0, none⟩)) rfl rg ((R8.out.1.1.next hW).r.at))) hS ?_
        simp only [Act.put, List.setIfInBounds_toArray, List.set_cons_succ, List.set_cons_zero]
        refine oneH (i := 2) (by kernel_rfl) ?_
        refine opCallW (some 69) rfl rfl rfl 36 _ (run_call en36' [.tmp 67, .tmp 68] _ rfl [hv y, hv p] rfl) ?_
        refine (refNode_any y p HQH.out HPT.out _).mono ?_
        rintro e t1 ⟨rfl, bb⟩
        have hS' : Below w8.heap.size w8 t1 := below_append hS bb
        refine ⟨_, rfl, hS', ?_⟩
        clear hS bb
        have hS := hS'
        clear hS'
        simp only [Act.put, List.setIfInBounds_toArray, List.set_cons_succ, List.set_cons_zero]
        refine oneH (i := 5) (by kernel_rfl) ?_
        refine opCallW (some 72) rfl rfl rfl 36 _ (run_call en36' [.tmp 70, .tmp 71] _ rfl [hv lf, hv rg] rfl) ?_
        refine (refNode_any lf rg HRT.out.1 HRT.out.2 _).mono ?_
        rintro e t2 ⟨rfl, bb⟩
        have hS' : Below w8.heap.size w8 t2 := below_append hS bb
        refine ⟨_, rfl, hS', ?_⟩
        clear hS bb
        have hS := hS'
        clear hS'
        simp only [Act.put, List.setIfInBounds_toArray, List.set_cons_succ, List.set_cons_zero]
        refine takeH (i := 6) (some 73) rfl rfl (by kernel_rfl) (by kernel_rfl) (by kernel_rfl) (fun _ _ _ h => h) (yRunW rfl (.bool true) (fun _ _ => rx_eqB (.tmp 69) (.tmp 72) rfl (Tree.node y p) (Tree.node lf rg) (node_isH _ _) (node_isH _ _) rfl rfl true (decide_eq_true HEQ.out))) hS ?_
        simp only [Act.put, List.setIfInBounds_toArray, List.set_cons_succ, List.set_cons_zero]
        refine takeH (i := 7) (some 10) rfl rfl (by kernel_rfl) (by kernel_rfl) (by kernel_rfl) (fun _ _ _ h => h) (yAssign rfl (.tmp 73) rfl (.bool true) rfl) hS ?_
        simp only [Act.put, List.setIfInBounds_toArray, List.set_cons_succ, List.set_cons_zero]
        refine wpAnyH_done (by kernel_rfl) ?_ _
        have HB9 : Hid (Below W.heap.size W _) := below_append R8.out.1.1.b hS
        clear hS
        go_wp2_with fail
        go_ret
        exact ⟨rfl, HB9.out⟩
    · have HYQ : Hid (decide (y = lf) = false) := decide_eq_false hyq
      have HPC : Hid (True) := trivial
      clear hyq HPC
      go_wp2_with ((first
        | (refine wl_new rfl rfl rfl rfl rfl (.tmp 58) rfl y HQH.out (fun _ => rfl) (fun _ => rfl) ?_; intro w8 r8 s8 b8; have R8 : Hid ((CoS W w8 B gp gl gg a p lf rg ∧ HIn w8 vo ys) ∧ HIs w8 w7.heap.size y) := ⟨⟨R7.out.1.next b8, R7.out.2.later b8⟩, r8⟩; clear r8 s8 b8; generalize w7.heap.size = gy at R8 ⊢)
        | (refine wl_load (.tmp 17) rfl rfl _ rfl y R8.out.2.at ?_)
        | (refine wl_load (.tmp 15) rfl rfl _ rfl lf R8.out.1.1.l.at ?_)
        | (refine wl_load (.tmp 16) rfl rfl _ rfl rg R8.out.1.1.r.at ?_)
        | (refine wl_load (.tmp 13) rfl rfl _ rfl p R8.out.1.1.p.at ?_)
        | (refine wl_ne (.tmp 59) (.tmp 60) rfl rfl y lf HQH.out HRT.out.1 rfl rfl ?_; rw [HYQ.out]; simp only [Bool.not_false])
        | (refine wl_ne (.tmp 63) (.tmp 64) rfl rfl p rg HPT.out HRT.out.2 rfl rfl ?_; rw [HPC.out]; simp only [Bool.not_false])); try simp only [Act.put, List.setIfInBounds_toArray, List.set_cons_succ, List.set_cons_zero])
      refine wp_region_held (S := fun W' => Below w8.heap.size w8 W') (by kernel_rfl) ?_
      show wpAnyH _ _ _ _ _ 8 (Array.replicate 8 false) _ _
      have hS : Below w8.heap.size w8 { w8 with drawn := w8.drawn + 1 } := below_drawn w8 _
      refine takeH (i := 0) (some 67) rfl rfl (by kernel_rfl) (by kernel_rfl) (by kernel_rfl) (fun _ _ _ h => h) (yRunW rfl (hv y) (fun W hW => rx_load (.tmp 17) rfl (.pointer (some ⟨gy, 0, none⟩)) rfl y ((R8.out.2.next hW).at))) hS ?_
      simp only [Act.put, List.setIfInBounds_toArray, List.set_cons_succ, List.set_cons_zero]
      refine takeH (i := 1) (some 68) rfl rfl (by kernel_rfl) (by kernel_rfl) (by kernel_rfl) (fun _ _ _ h => h) (yRunW rfl (hv p) (fun W hW => rx_load (.tmp 13) rfl (.pointer (some ⟨gp, 0, none⟩)) rfl p ((R8.out.1.1.next hW).p.at))) hS ?_
      simp only [Act.put, List.setIfInBounds_toArray, List.set_cons_succ, List.set_cons_zero]
      refine takeH (i := 3) (some 70) rfl rfl (by kernel_rfl) (by kernel_rfl) (by kernel_rfl) (fun _ _ _ h => h) (yRunW rfl (hv lf) (fun W hW => rx_load (.tmp 15) rfl (.pointer (some ⟨gl, 0, none⟩)) rfl lf ((R8.out.1.1.next hW).l.at))) hS ?_
      simp only [Act.put, List.setIfInBounds_toArray, List.set_cons_succ, List.set_cons_zero]
      refine takeH (i := 4) (some 71) rfl rfl (by kernel_rfl) (by kernel_rfl) (by kernel_rfl) (fun _ _ _ h => h) (yRunW rfl (hv rg) (fun W hW => rx_load (.tmp 16) rfl (.pointer (some ⟨gg, 0, none⟩)) rfl rg ((R8.out.1.1.next hW).r.at))) hS ?_
      simp only [Act.put, List.setIfInBounds_toArray, List.set_cons_succ, List.set_cons_zero]
      refine oneH (i := 2) (by kernel_rfl) ?_
      refine opCallW (some 69) rfl rfl rfl 36 _ (run_call en36' [.tmp 67, .tmp 68] _ rfl [hv y, hv p] rfl) ?_
      refine (refNode_any y p HQH.out HPT.out _).mono ?_
      rintro e t1 ⟨rfl, bb⟩
      have hS' : Below w8.heap.size w8 t1 := below_append hS bb
      refine ⟨_, rfl, hS', ?_⟩
      clear hS bb
      have hS := hS'
      clear hS'
      simp only [Act.put, List.setIfInBounds_toArray, List.set_cons_succ, List.set_cons_zero]
      refine oneH (i := 5) (by kernel_rfl) ?_
      refine opCallW (some 72) rfl rfl rfl 36 _ (run_call en36' [.tmp 70, .tmp 71] _ rfl [hv lf, hv rg] rfl) ?_
      refine (refNode_any lf rg HRT.out.1 HRT.out.2 _).mono ?_
      rintro e t2 ⟨rfl, bb⟩
      have hS' : Below w8.heap.size w8 t2 := below_append hS bb
      refine ⟨_, rfl, hS', ?_⟩
      clear hS bb
      have hS := hS'
      clear hS'
      simp only [Act.put, List.setIfInBounds_toArray, List.set_cons_succ, List.set_cons_zero]
      refine takeH (i := 6) (some 73) rfl rfl (by kernel_rfl) (by kernel_rfl) (by kernel_rfl) (fun _ _ _ h => h) (yRunW rfl (.bool true) (fun _ _ => rx_eqB (.tmp 69) (.tmp 72) rfl (Tree.node y p) (Tree.node lf rg) (node_isH _ _) (node_isH _ _) rfl rfl true (decide_eq_true HEQ.out))) hS ?_
      simp only [Act.put, List.setIfInBounds_toArray, List.set_cons_succ, List.set_cons_zero]
      refine takeH (i := 7) (some 10) rfl rfl (by kernel_rfl) (by kernel_rfl) (by kernel_rfl) (fun _ _ _ h => h) (yAssign rfl (.tmp 73) rfl (.bool true) rfl) hS ?_
      simp only [Act.put, List.setIfInBounds_toArray, List.set_cons_succ, List.set_cons_zero]
      refine wpAnyH_done (by kernel_rfl) ?_ _
      have HB9 : Hid (Below W.heap.size W _) := below_append R8.out.1.1.b hS
      clear hS
      go_wp2_with fail
      go_ret
      exact ⟨rfl, HB9.out⟩
  · obtain ⟨q, hq, hzz⟩ := Tree.two_some_high h2 hmn hu hlow
    rw [hLast] at hzz
    rw [hOth] at hq
    have hz1 := congrArg Prod.fst hzz
    have hz2 := congrArg Prod.snd hzz
    simp only at hz1 hz2
    rw [hroot] at hz2
    have htk := htake hlow
    generalize Tree.half n = k at hk hkp HK hq hlow hz2 htk
    have hlow' : ¬ (m : Int) ≤ (k : Int) := by omega
    obtain ⟨p, hp⟩ : ∃ p, row.getD N [] = p := ⟨_, rfl⟩
    obtain ⟨ys, hys⟩ : ∃ ys, row.take N = ys := ⟨_, rfl⟩
    have HPY : Hid (row.getD N [] = p ∧ row.take N = ys) := ⟨hp, hys⟩
    rw [hp] at HPT hzz hz2
    have HQ : Hid (Tree.two (m - k) (n - k) a ys false = some q) := hys ▸ hq
    have HYS : Hid (AllH ys) := by rw [← hys]; exact h.all.take N
    have HQH : Hid (IsH q.2) := (two_isH HX.out HYS.out HQ.out).2
    obtain ⟨vo, ro, so⟩ := run_hto h N (by omega)
    obtain ⟨va, ra, sa⟩ := run_hto hh k (by omega)
    obtain ⟨vb, rb, sb⟩ := run_hfrom hh k (by omega)
    obtain ⟨ta, hta⟩ : ∃ ta, ta = hs.take k := ⟨_, rfl⟩
    obtain ⟨tb, htb⟩ : ∃ tb, tb = hs.drop k := ⟨_, rfl⟩
    have HTA : Hid ((∀ w', (Instr.slice 24 vl none (some (.int .i64 (k : Nat))) none).run Tryd.prog w' = .ok va w') ∧ HIn W va ta ∧ ta.length = k) := ⟨ra, hta ▸ sa, by rw [hta, List.length_take]; omega⟩
    have HTB : Hid ((∀ w', (Instr.slice 24 vl (some (.int .i64 (k : Nat))) none none).run Tryd.prog w' = .ok vb w') ∧ HIn W vb tb ∧ tb.length = n - k) := ⟨rb, htb ▸ sb, by rw [htb, List.length_drop]; omega⟩
    have HEQ : Hid (Tree.node p q.2 = Tree.node (Tree.root ta) (Tree.root tb)) := by rw [hta, htb]; exact hz2.symm
    have HNE : Hid (p = Tree.root ta → q.1 ≠ Tree.root (tb.take (m - k))) := fun e1 e2 => by
      refine hne ?_
      rw [hz1, htk, ← hta, ← htb, ← e1, ← e2, hp]
    have HRT : Hid (IsH (Tree.root ta) ∧ IsH (Tree.root tb)) := ⟨HTA.out.2.1.all.root, HTB.out.2.1.all.root⟩
    clear hN hr hp hys hLast hOth hlm hq hzz ro so ra sa rb sb hta htb hu hne hroot hz1 hz2 htake htk
    obtain ⟨lf, hlf⟩ : ∃ lf, lf = Tree.root ta := ⟨_, rfl⟩
    obtain ⟨rg, hrg⟩ : ∃ rg, rg = Tree.root tb := ⟨_, rfl⟩
    rw [← hlf, ← hrg] at HEQ HRT
    have HLR : Hid (lf = Tree.root ta ∧ rg = Tree.root tb) := ⟨hlf, hrg⟩
    clear hlf hrg
    go_enter Tryd.func21, Tryd.ntmps21
    go_wp2_with ((first
      | (refine wl_box (.tmp 2) rfl rfl a HX.out rfl ?_; rw [← HB.out]; intro w1 r1 s1 b1; have R1 : Hid (HIs w1 B a ∧ Below W.heap.size W w1) := ⟨r1, HB.out ▸ b1⟩; clear r1 s1 b1)
      | (refine wl_lenN (.tmp 19) rfl rfl vl hs rfl hh n HHN.out ?_)
      | (refine wl_lenN (.tmp 25) rfl rfl vr row rfl h (N + 1) HN.out ?_)

      | (go_at_call 37; refine (HK.out _).mono ?_; rintro e w' ⟨rfl, rfl⟩)
      | (refine wl_lenN (.tmp 32) rfl rfl vr row rfl h (N + 1) HN.out ?_)
      | (refine wl_index (.tmp 31) (.tmp 34) rfl rfl vr row rfl (h.later R1.out.2) _ N rfl (by omega) (by have := HN.out; omega) ?_; intro pa a5; rw [HPY.out.1] at a5; have A5 : Hid (HAt w1 pa p) := a5; clear a5)
      | (refine wl_load (.tmp 35) rfl rfl pa rfl p A5.out ?_)
      | (refine wl_new rfl rfl rfl rfl rfl (.tmp 36) rfl p HPT.out (fun _ => rfl) (fun _ => rfl) ?_; intro w2 r2 s2 b2; have R2 : Hid (HIs w2 B a ∧ HIs w2 w1.heap.size p ∧ Below W.heap.size W w2) := ⟨R1.out.1.next b2, r2, below_append R1.out.2 b2⟩; clear r2 s2 b2)
      | (refine wl_lenN (.tmp 38) rfl rfl vr row rfl h (N + 1) HN.out ?_)
      | (refine wl_to (.tmp 37) (.tmp 40) rfl rfl vr row rfl (h.later R2.out.2.2) _ N rfl (by omega) (by have := HN.out; omega) ?_; intro vo s6; rw [HPY.out.2] at s6; have S6 : Hid (HIn w2 vo ys) := s6; clear s6)
      | (refine wl rfl va _ (rx_sub (.tmp 42) none (some (.tmp 43)) rfl vl va rfl HTA.out.1) ?_)); try simp only [Act.put, List.setIfInBounds_toArray, List.set_cons_succ, List.set_cons_zero])
    refine (refRoot_any k va ta w2 HTA.out.2.2 (by omega) (HTA.out.2.1.later R2.out.2.2)).mono ?_
    rw [← HLR.out.1]
    rintro e w3 ⟨rfl, b3⟩
    have R3 : Hid (HIs w3 B a ∧ HIs w3 w1.heap.size p ∧ Below W.heap.size W w3 ∧ HIn w3 vo ys) := ⟨R2.out.1.next b3, R2.out.2.1.next b3, below_append R2.out.2.2 b3, S6.out.later b3⟩
    clear b3
    go_wp2_with ((first
      | (refine wl_new rfl rfl rfl rfl rfl (.tmp 45) rfl lf HRT.out.1 (fun _ => rfl) (fun _ => rfl) ?_; intro w4 r4 s4 b4; have R4 : Hid (HIs w4 B a ∧ HIs w4 w1.heap.size p ∧ Below W.heap.size W w4 ∧ HIn w4 vo ys ∧ HIs w4 w3.heap.size lf) := ⟨R3.out.1.next b4, R3.out.2.1.next b4, below_append R3.out.2.2.1 b4, R3.out.2.2.2.later b4, r4⟩; clear r4 s4 b4)
      | (refine wl rfl vb _ (rx_sub (.tmp 46) (some (.tmp 47)) none rfl vl vb rfl HTB.out.1) ?_)); try simp only [Act.put, List.setIfInBounds_toArray, List.set_cons_succ, List.set_cons_zero])
    refine (refRoot_any (n - k) vb tb w4 HTB.out.2.2 (by omega) (HTB.out.2.1.later R4.out.2.2.1)).mono ?_
    rw [← HLR.out.2]
    rintro e w5 ⟨rfl, b5⟩
    have R5 : Hid (HIs w5 B a ∧ HIs w5 w1.heap.size p ∧ Below W.heap.size W w5 ∧ HIn w5 vo ys ∧ HIs w5 w3.heap.size lf) := ⟨R4.out.1.next b5, R4.out.2.1.next b5, below_append R4.out.2.2.1 b5, R4.out.2.2.2.1.later b5, R4.out.2.2.2.2.next b5⟩
    clear b5
    go_wp2_with ((first
      | (refine wl_new rfl rfl rfl rfl rfl (.tmp 49) rfl rg HRT.out.2 (fun _ => rfl) (fun _ => rfl) ?_; intro w6 r6 s6 b6; have R6 : Hid (CoS W w6 B w1.heap.size w3.heap.size w5.heap.size a p lf rg ∧ HIn w6 vo ys) := ⟨⟨R5.out.1.next b6, R5.out.2.1.next b6, R5.out.2.2.2.2.next b6, r6, below_append R5.out.2.2.1 b6⟩, R5.out.2.2.2.1.later b6⟩; clear r6 s6 b6; generalize w1.heap.size = gp at R6 ⊢; generalize w3.heap.size = gl at R6 ⊢; generalize w5.heap.size = gg at R6 ⊢)
      | (refine wl_load (.tmp 7) rfl rfl _ rfl a R6.out.1.x.at ?_)
      | (refine wl_lenN (.tmp 80) rfl rfl vl hs rfl hh n HHN.out ?_)); try simp only [Act.put, List.setIfInBounds_toArray, List.set_cons_succ, List.set_cons_zero])
    rw [show (m : Int) - (k : Int) = ((m - k : Nat) : Int) by omega, show (n : Int) - (k : Int) = ((n - k : Nat) : Int) by omega]
    refine (fresh_any a HX.out (n - k) (m - k) false vo ys w6 q (by omega) (by omega) (by omega) R6.out.2 HQ.out).mono ?_
    rintro e w7 ⟨rfl, b7⟩
    have R7 : Hid (CoS W w7 B gp gl gg a p lf rg ∧ HIn w7 vo ys) := ⟨R6.out.1.next b7, R6.out.2.later b7⟩
    clear b7 R6
    obtain ⟨y, hy⟩ : ∃ y, q.2 = y := ⟨_, rfl⟩
    rw [hy] at HEQ HQH ⊢
    have HY : Hid (q.2 = y) := hy
    clear hy
    by_cases hyq : y = rg
    · have HYQ : Hid (decide (y = rg) = true) := decide_eq_true hyq
      by_cases hpc : p = lf
      · have HPC : Hid (decide (p = lf) = true) := decide_eq_true hpc
        have HQ2 : Hid (Tree.two (m - k) (n - k) a ys false = some (q.1, Tree.root tb)) := by show _ = _; rw [HQ.out, ← HLR.out.2, ← hyq, ← HY.out]
        have HN2 : Hid (q.1 ≠ Tree.root (tb.take (m - k))) := HNE.out (hpc.trans HLR.out.1)
        clear hyq hpc
        go_wp2_with ((first
          | (refine wl_new rfl rfl rfl rfl rfl (.tmp 90) rfl y HQH.out (fun _ => rfl) (fun _ => rfl) ?_; intro w8 r8 s8 b8; have R8 : Hid ((CoS W w8 B gp gl gg a p lf rg ∧ HIn w8 vo ys) ∧ HIs w8 w7.heap.size y) := ⟨⟨R7.out.1.next b8, R7.out.2.later b8⟩, r8⟩; clear r8 s8 b8; generalize w7.heap.size = gy at R8 ⊢)
          | (refine wl_load (.tmp 18) rfl rfl _ rfl y R8.out.2.at ?_)
          | (refine wl_load (.tmp 15) rfl rfl _ rfl lf R8.out.1.1.l.at ?_)
          | (refine wl_load (.tmp 16) rfl rfl _ rfl rg R8.out.1.1.r.at ?_)
          | (refine wl_load (.tmp 13) rfl rfl _ rfl p R8.out.1.1.p.at ?_)
          | (refine wl_ne (.tmp 91) (.tmp 92) rfl rfl y rg HQH.out HRT.out.2 rfl rfl ?_; rw [HYQ.out]; simp only [Bool.not_true])
          | (refine wl_ne (.tmp 95) (.tmp 96) rfl rfl p lf HPT.out HRT.out.1 rfl rfl ?_; rw [HPC.out]; simp only [Bool.not_true])); try simp only [Act.put, List.setIfInBounds_toArray, List.set_cons_succ, List.set_cons_zero])
        refine wp_region_held (S := fun W' => Below w8.heap.size w8 W') (by kernel_rfl) ?_
        show wpAnyH _ _ _ _ _ 10 (Array.replicate 10 false) _ _
        have hS : Below w8.heap.size w8 { w8 with drawn := w8.drawn + 1 } := below_drawn w8 _
        refine takeH (i := 0) (some 106) rfl rfl (by kernel_rfl) (by kernel_rfl) (by kernel_rfl) (fun _ _ _ h => h) (yMoveW rfl (.tmp 0) rfl (.int .i64 (m : Nat)) rfl) hS ?_
        simp only [Act.put, List.setIfInBounds_toArray, List.set_cons_succ, List.set_cons_zero]
        refine takeH (i := 1) (some 107) rfl rfl (by kernel_rfl) (by kernel_rfl) (by kernel_rfl) (fun _ _ _ h => h) (yMoveW rfl (.tmp 12) rfl (.int .i64 (k : Nat)) rfl) hS ?_
        simp only [Act.put, List.setIfInBounds_toArray, List.set_cons_succ, List.set_cons_zero]
        refine takeH (i := 2) (some 108) rfl rfl (by kernel_rfl) (by kernel_rfl) (by kernel_rfl) (fun _ _ _ h => h) (yRunW rfl (.int .i64 ((m - k : Nat) : Int)) (fun _ _ => rx_minus (.tmp 106) (.tmp 107) rfl m k rfl rfl (by omega) (by omega))) hS ?_
        simp only [Act.put, List.setIfInBounds_toArray, List.set_cons_succ, List.set_cons_zero]
        refine takeH (i := 3) (some 109) rfl rfl (by kernel_rfl) (by kernel_rfl) (by kernel_rfl) (fun _ _ _ h => h) (yMoveW rfl (.tmp 1) rfl (vl) rfl) hS ?_
        simp only [Act.put, List.setIfInBounds_toArray, List.set_cons_succ, List.set_cons_zero]
        refine takeH (i := 4) (some 110) rfl rfl (by kernel_rfl) (by kernel_rfl) (by kernel_rfl) (fun _ _ _ h => h) (yMoveW rfl (.tmp 12) rfl (.int .i64 (k : Nat)) rfl) hS ?_
        simp only [Act.put, List.setIfInBounds_toArray, List.set_cons_succ, List.set_cons_zero]
        refine takeH (i := 5) (some 111) rfl rfl (by kernel_rfl) (by kernel_rfl) (by kernel_rfl) (fun _ _ _ h => h) (yRunW rfl vb (fun _ _ => rx_sub (.tmp 109) (some (.tmp 110)) none rfl vl vb rfl HTB.out.1)) hS ?_
        simp only [Act.put, List.setIfInBounds_toArray, List.set_cons_succ, List.set_cons_zero]
        refine takeH (i := 6) (some 112) rfl rfl (by kernel_rfl) (by kernel_rfl) (by kernel_rfl) (fun _ _ _ h => h) (yRunW rfl (hv a) (fun W hW => rx_load (.tmp 7) rfl (.pointer (some ⟨B, 0, none⟩)) rfl a ((R8.out.1.1.next hW).x.at))) hS ?_
        simp only [Act.put, List.setIfInBounds_toArray, List.set_cons_succ, List.set_cons_zero]
        refine takeH (i := 7) (some 113) rfl rfl (by kernel_rfl) (by kernel_rfl) (by kernel_rfl) (fun _ _ _ h => h) (yMoveW rfl (.tmp 14) rfl (vo) rfl) hS ?_
        simp only [Act.put, List.setIfInBounds_toArray, List.set_cons_succ, List.set_cons_zero]
        refine oneH (i := 8) (by kernel_rfl) ?_
        refine opCallW (some 114) rfl rfl rfl 21 _ (run_call en21' [.tmp 108, .tmp 111, .tmp 112, .tmp 113, .const (.bool false)] _ rfl [.int .i64 ((m - k) : Nat), vb, hv a, vo, .bool false] rfl) ?_
        refine (ih (n - k) (by omega) (m - k) false vb vo tb ys _ q.1 HTB.out.2.2 (by omega) (by omega) (by omega) (HTB.out.2.1.later (below_append R8.out.1.1.b hS)) (R8.out.1.2.later hS) HQ2.out HN2.out).mono ?_
        rintro e u1 ⟨rfl, bb⟩
        have hS' : Below w8.heap.size w8 u1 := below_append hS bb
        refine ⟨_, rfl, hS', ?_⟩
        clear hS bb
        have hS := hS'
        clear hS'
        simp only [Act.put, List.setIfInBounds_toArray, List.set_cons_succ, List.set_cons_zero]
        refine takeH (i := 9) (some 10) rfl rfl (by kernel_rfl) (by kernel_rfl) (by kernel_rfl) (fun _ _ _ h => h) (yAssign rfl (.tmp 114) rfl (.bool true) rfl) hS ?_
        simp only [Act.put, List.setIfInBounds_toArray, List.set_cons_succ, List.set_cons_zero]
        refine wpAnyH_done (by kernel_rfl) ?_ _
        have HB9 : Hid (Below W.heap.size W _) := below_append R8.out.1.1.b hS
        clear hS
        go_wp2_with fail
        go_ret
        exact ⟨rfl, HB9.out⟩
      · have HPC : Hid (decide (p = lf) = false) := decide_eq_false hpc
        clear hyq hpc
        go_wp2_with ((first
          | (refine wl_new rfl rfl rfl rfl rfl (.tmp 90) rfl y HQH.out (fun _ => rfl) (fun _ => rfl) ?_; intro w8 r8 s8 b8; have R8 : Hid ((CoS W w8 B gp gl gg a p lf rg ∧ HIn w8 vo ys) ∧ HIs w8 w7.heap.size y) := ⟨⟨R7.out.1.next b8, R7.out.2.later b8⟩, r8⟩; clear r8 s8 b8; generalize w7.heap.size = gy at R8 ⊢)
          | (refine wl_load (.tmp 18) rfl rfl _ rfl y R8.out.2.at ?_)
          | (refine wl_load (.tmp 15) rfl rfl _ rfl lf R8.out.1.1.l.at ?_)
          | (refine wl_load (.tmp 16) rfl rfl _ rfl rg R8.out.1.1.r.at ?_)
          | (refine wl_load (.tmp 13) rfl rfl _ rfl p R8.out.1.1.p.at ?_)
          | (refine wl_ne (.tmp 91) (.tmp 92) rfl rfl y rg HQH.out HRT.out.2 rfl rfl ?_; rw [HYQ.out]; simp only [Bool.not_true])
          | (refine wl_ne (.tmp 95) (.tmp 96) rfl rfl p lf HPT.out HRT.out.1 rfl rfl ?_; rw [HPC.out]; simp only [Bool.not_false])); try simp only [Act.put, List.setIfInBounds_toArray, List.set_cons_succ, List.set_cons_zero])
        refine wp_region_held (S := fun W' => Below w8.heap.size w8 W') (by kernel_rfl) ?_
        show wpAnyH _ _ _ _ _ 8 (Array.replicate 8 false) _ _
        have hS : Below w8.heap.size w8 { w8 with drawn := w8.drawn + 1 } := below_drawn w8 _
        refine takeH (i := 0) (some 99) rfl rfl (by kernel_rfl) (by kernel_rfl) (by kernel_rfl) (fun _ _ _ h => h) (yRunW rfl (hv p) (fun W hW => rx_load (.tmp 13) rfl (.pointer (some ⟨gp, 0, none⟩)) rfl p ((R8.out.1.1.next hW).p.at))) hS ?_
        simp only [Act.put, List.setIfInBounds_toArray, List.set_cons_succ, List.set_cons_zero]
        refine takeH (i := 1) (some 100) rfl rfl (by kernel_rfl) (by kernel_rfl) (by kernel_rfl) (fun _ _ _ h => h) (yRunW rfl (hv y) (fun W hW => rx_load (.tmp 18) rfl (.pointer (some ⟨gy, 0, none⟩)) rfl y ((R8.out.2.next hW).at))) hS ?_
        simp only [Act.put, List.setIfInBounds_toArray, List.set_cons_succ, List.set_cons_zero]
        refine takeH (i := 3) (some 102) rfl rfl (by kernel_rfl) (by kernel_rfl) (by kernel_rfl) (fun _ _ _ h => h) (yRunW rfl (hv lf) (fun W hW => rx_load (.tmp 15) rfl (.pointer (some ⟨gl, 0, none⟩)) rfl lf ((R8.out.1.1.next hW).l.at))) hS ?_
        simp only [Act.put, List.setIfInBounds_toArray, List.set_cons_succ, List.set_cons_zero]
        refine takeH (i := 4) (some 103) rfl rfl (by kernel_rfl) (by kernel_rfl) (by kernel_rfl) (fun _ _ _ h => h) (yRunW rfl (hv rg) (fun W hW => rx_load (.tmp 16) rfl (.pointer (some ⟨gg, 0, none⟩)) rfl rg ((R8.out.1.1.next hW).r.at))) hS ?_
        simp only [Act.put, List.setIfInBounds_toArray, List.set_cons_succ, List.set_cons_zero]
        refine oneH (i := 2) (by kernel_rfl) ?_
        refine opCallW (some 101) rfl rfl rfl 36 _ (run_call en36' [.tmp 99, .tmp 100] _ rfl [hv p, hv y] rfl) ?_
        refine (refNode_any p y HPT.out HQH.out _).mono ?_
        rintro e t1 ⟨rfl, bb⟩
        have hS' : Below w8.heap.size w8 t1 := below_append hS bb
        refine ⟨_, rfl, hS', ?_⟩
        clear hS bb
        have hS := hS'
        clear hS'
        simp only [Act.put, List.setIfInBounds_toArray, List.set_cons_succ, List.set_cons_zero]
        refine oneH (i := 5) (by kernel_rfl) ?_
        refine opCallW (some 104) rfl rfl rfl 36 _ (run_call en36' [.tmp 102, .tmp 103] _ rfl [hv lf, hv rg] rfl) ?_
        refine (refNode_any lf rg HRT.out.1 HRT.out.2 _).mono ?_
        rintro e t2 ⟨rfl, bb⟩
        have hS' : Below w8.heap.size w8 t2 := below_append hS bb
        refine ⟨_, rfl, hS', ?_⟩
        clear hS bb
        have hS := hS'
        clear hS'
        simp only [Act.put, List.setIfInBounds_toArray, List.set_cons_succ, List.set_cons_zero]
        refine takeH (i := 6) (some 105) rfl rfl (by kernel_rfl) (by kernel_rfl) (by kernel_rfl) (fun _ _ _ h => h) (yRunW rfl (.bool true) (fun _ _ => rx_eqB (.tmp 101) (.tmp 104) rfl (Tree.node p y) (Tree.node lf rg) (node_isH _ _) (node_isH _ _) rfl rfl true (decide_eq_true HEQ.out))) hS ?_
        simp only [Act.put, List.setIfInBounds_toArray, List.set_cons_succ, List.set_cons_zero]
        refine takeH (i := 7) (some 10) rfl rfl (by kernel_rfl) (by kernel_rfl) (by kernel_rfl) (fun _ _ _ h => h) (yAssign rfl (.tmp 105) rfl (.bool true) rfl) hS ?_
        simp only [Act.put, List.setIfInBounds_toArray, List.set_cons_succ, List.set_cons_zero]
        refine wpAnyH_done (by kernel_rfl) ?_ _
        have HB9 : Hid (Below W.heap.size W _) := below_append R8.out.1.1.b hS
        clear hS
        go_wp2_with fail
        go_ret
        exact ⟨rfl, HB9.out⟩
    · have HYQ : Hid (decide (y = rg) = false) := decide_eq_false hyq
      have HPC : Hid (True) := trivial
      clear hyq HPC
      go_wp2_with ((first
        | (refine wl_new rfl rfl rfl rfl rfl (.tmp 90) rfl y HQH.out (fun _ => rfl) (fun _ => rfl) ?_; intro w8 r8 s8 b8; have R8 : Hid ((CoS W w8 B gp gl gg a p lf rg ∧ HIn w8 vo ys) ∧ HIs w8 w7.heap.size y) := ⟨⟨R7.out.1.next b8, R7.out.2.later b8⟩, r8⟩; clear r8 s8 b8; generalize w7.heap.size = gy at R8 ⊢)
        | (refine wl_load (.tmp 18) rfl rfl _ rfl y R8.out.2.at ?_)
        | (refine wl_load (.tmp 15) rfl rfl _ rfl lf R8.out.1.1.l.at ?_)
        | (refine wl_load (.tmp 16) rfl rfl _ rfl rg R8.out.1.1.r.at ?_)
        | (refine wl_load (.tmp 13) rfl rfl _ rfl p R8.out.1.1.p.at ?_)
        | (refine wl_ne (.tmp 91) (.tmp 92) rfl rfl y rg HQH.out HRT.out.2 rfl rfl ?_; rw [HYQ.out]; simp only [Bool.not_false])
        | (refine wl_ne (.tmp 95) (.tmp 96) rfl rfl p lf HPT.out HRT.out.1 rfl rfl ?_; rw [HPC.out]; simp only [Bool.not_false])); try simp only [Act.put, List.setIfInBounds_toArray, List.set_cons_succ, List.set_cons_zero])
      refine wp_region_held (S := fun W' => Below w8.heap.size w8 W') (by kernel_rfl) ?_
      show wpAnyH _ _ _ _ _ 8 (Array.replicate 8 false) _ _
      have hS : Below w8.heap.size w8 { w8 with drawn := w8.drawn + 1 } := below_drawn w8 _
      refine takeH (i := 0) (some 99) rfl rfl (by kernel_rfl) (by kernel_rfl) (by kernel_rfl) (fun _ _ _ h => h) (yRunW rfl (hv p) (fun W hW => rx_load (.tmp 13) rfl (.pointer (some ⟨gp, 0, none⟩)) rfl p ((R8.out.1.1.next hW).p.at))) hS ?_
      simp only [Act.put, List.setIfInBounds_toArray, List.set_cons_succ, List.set_cons_zero]
      refine takeH (i := 1) (some 100) rfl rfl (by kernel_rfl) (by kernel_rfl) (by kernel_rfl) (fun _ _ _ h => h) (yRunW rfl (hv y) (fun W hW => rx_load (.tmp 18) rfl (.pointer (some ⟨gy, 0, none⟩)) rfl y ((R8.out.2.next hW).at))) hS ?_
      simp only [Act.put, List.setIfInBounds_toArray, List.set_cons_succ, List.set_cons_zero]
      refine takeH (i := 3) (some 102) rfl rfl (by kernel_rfl) (by kernel_rfl) (by kernel_rfl) (fun _ _ _ h => h) (yRunW rfl (hv lf) (fun W hW => rx_load (.tmp 15) rfl (.pointer (some ⟨gl, 0, none⟩)) rfl lf ((R8.out.1.1.next hW).l.at))) hS ?_
      simp only [Act.put, List.setIfInBounds_toArray, List.set_cons_succ, List.set_cons_zero]
      refine takeH (i := 4) (some 103) rfl rfl (by kernel_rfl) (by kernel_rfl) (by kernel_rfl) (fun _ _ _ h => h) (yRunW rfl (hv rg) (fun W hW => rx_load (.tmp 16) rfl (.pointer (some ⟨gg, 0, none⟩)) rfl rg ((R8.out.1.1.next hW).r.at))) hS ?_
      simp only [Act.put, List.setIfInBounds_toArray, List.set_cons_succ, List.set_cons_zero]
      refine oneH (i := 2) (by kernel_rfl) ?_
      refine opCallW (some 101) rfl rfl rfl 36 _ (run_call en36' [.tmp 99, .tmp 100] _ rfl [hv p, hv y] rfl) ?_
      refine (refNode_any p y HPT.out HQH.out _).mono ?_
      rintro e t1 ⟨rfl, bb⟩
      have hS' : Below w8.heap.size w8 t1 := below_append hS bb
      refine ⟨_, rfl, hS', ?_⟩
      clear hS bb
      have hS := hS'
      clear hS'
      simp only [Act.put, List.setIfInBounds_toArray, List.set_cons_succ, List.set_cons_zero]
      refine oneH (i := 5) (by kernel_rfl) ?_
      refine opCallW (some 104) rfl rfl rfl 36 _ (run_call en36' [.tmp 102, .tmp 103] _ rfl [hv lf, hv rg] rfl) ?_
      refine (refNode_any lf rg HRT.out.1 HRT.out.2 _).mono ?_
      rintro e t2 ⟨rfl, bb⟩
      have hS' : Below w8.heap.size w8 t2 := below_append hS bb
      refine ⟨_, rfl, hS', ?_⟩
      clear hS bb
      have hS := hS'
      clear hS'
      simp only [Act.put, List.setIfInBounds_toArray, List.set_cons_succ, List.set_cons_zero]
      refine takeH (i := 6) (some 105) rfl rfl (by kernel_rfl) (by kernel_rfl) (by kernel_rfl) (fun _ _ _ h => h) (yRunW rfl (.bool true) (fun _ _ => rx_eqB (.tmp 101) (.tmp 104) rfl (Tree.node p y) (Tree.node lf rg) (node_isH _ _) (node_isH _ _) rfl rfl true (decide_eq_true HEQ.out))) hS ?_
      simp only [Act.put, List.setIfInBounds_toArray, List.set_cons_succ, List.set_cons_zero]
      refine takeH (i := 7) (some 10) rfl rfl (by kernel_rfl) (by kernel_rfl) (by kernel_rfl) (fun _ _ _ h => h) (yAssign rfl (.tmp 105) rfl (.bool true) rfl) hS ?_
      simp only [Act.put, List.setIfInBounds_toArray, List.set_cons_succ, List.set_cons_zero]
      refine wpAnyH_done (by kernel_rfl) ?_ _
      have HB9 : Hid (Below W.heap.size W _) := below_append R8.out.1.1.b hS
      clear hS
      go_wp2_with fail
      go_ret
      exact ⟨rfl, HB9.out⟩
end Go.Proofs.YtjdmpanemdhbbaaDoor

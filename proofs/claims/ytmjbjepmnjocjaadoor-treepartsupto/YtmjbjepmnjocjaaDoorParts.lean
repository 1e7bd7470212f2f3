/- The law TreeParts, walked out of its callees' contracts. -/
import Derived.Test.YtmjbjepmnjocjaaDoorGrows
namespace Go.Proofs.YtmjbjepmnjocjaaDoor
open Go.RowKit

/-- the Grow has taken the first m -/
structure PaS (w0 : World) (g6 g7 g8 G : Nat) (r la ra : List Nat) (hs : List (List Nat)) (m : Nat) (W : World) : Prop where
  g : ∃ vg, GrowAt W G vg (hs.take m) ∧ ∀ k, vg.ownBlock = some k → w0.heap.size ≤ k
  bl : Below w0.heap.size w0 W
  h6 : HIs W g6 r
  h7 : HIs W g7 la
  h8 : HIs W g8 ra
theorem PaS.next {w0 W W' : World} {g6 g7 g8 G : Nat} {r la ra : List Nat} {hs : List (List Nat)} {m : Nat} (h : PaS w0 g6 g7 g8 G r la ra hs m W) (hb : Below W.heap.size W W') : PaS w0 g6 g7 g8 G r la ra hs m W' := by
  obtain ⟨⟨vg, hg, hk⟩, ho, h6, h7, h8⟩ := h
  exact ⟨⟨vg, hg.below hb, hk⟩, below_append ho hb, h6.next hb, h7.next hb, h8.next hb⟩
theorem PaS.tab {w0 W : World} {g6 g7 g8 G : Nat} {r la ra : List Nat} {hs : List (List Nat)} {m : Nat} (h : PaS w0 g6 g7 g8 G r la ra hs m W) (ht : TabIn w0) : TabIn W := ht.later h.bl
theorem PaS.start {w0 W : World} {g6 g7 g8 G : Nat} {r la ra : List Nat} {hs : List (List Nat)} {m : Nat} (h : PaS w0 g6 g7 g8 G r la ra hs m W) (ht : StartIn w0) : StartIn W := ht.later h.bl

set_option maxHeartbeats 1000000 in
set_option maxRecDepth 100000 in
theorem treeParts_few (vl : Value) (ls : List Nat) (w : World) (hl : SliceIn w vl ls) (ht : TabIn w) (hst : StartIn w) (hll : ls.length < 2) :
    Calls Tryd.prog 6 #[vl] w fun e w' => e = .returned (.bool true) ∧ Below w.heap.size w w' := by
  go_enter Tryd.func6, Tryd.ntmps6
  go_wp2_with fail
  refine (shown_any w ht hst).mono ?_
  rintro e w1 ⟨rfl, b1⟩
  have R1 : Hid (Below w.heap.size w w1) := b1
  clear b1
  go_wp2_with fail
  refine (leaves_any vl ls w1 (hl.later R1.out) (by omega)).mono ?_
  rintro e w2 ⟨vh, rfl, o2, b2⟩
  have hin := o2.hin
  have R2 : Hid (Below w.heap.size w w2) := below_append R1.out b2
  obtain ⟨n, hn⟩ : ∃ n, n = ls.length := ⟨_, rfl⟩
  have HL0 : Hid ((lv ls ls.length).length = n) := by show _ = _; rw [lv_length, hn]
  have hn2 : (n : Int) < 2 := by omega
  generalize lv ls ls.length = hs at hin HL0
  clear o2 b2 hn R1
  go_wp2_with ((first
    | (refine wl_lenN (.tmp 17) rfl rfl vh hs rfl hin n HL0.out ?_)); try simp only [Act.put, List.setIfInBounds_toArray, List.set_cons_succ, List.set_cons_zero])
  go_ret
  exact ⟨rfl, R2.out⟩

set_option maxHeartbeats 8000000 in
set_option maxRecDepth 100000 in
theorem treeParts_many (vl : Value) (ls : List Nat) (w : World) (hl : SliceIn w vl ls) (ht : TabIn w) (hst : StartIn w) (hll : ls.length ≤ 1048576) (h2 : 2 ≤ ls.length) :
    Calls Tryd.prog 6 #[vl] w fun e w' => e = .returned (.bool true) ∧ Below w.heap.size w w' := by
  have h1lt := ht.lt
  go_enter Tryd.func6, Tryd.ntmps6
  go_wp2_with fail
  refine (shown_any w ht hst).mono ?_
  rintro e w1 ⟨rfl, b1⟩
  have R1 : Hid (Below w.heap.size w w1) := b1
  clear b1
  go_wp2_with fail
  refine (leaves_any vl ls w1 (hl.later R1.out) (by omega)).mono ?_
  rintro e w2 ⟨vh, rfl, o2, b2⟩
  have hin := o2.hin
  have R2 : Hid (Below w.heap.size w w2 ∧ TabIn w2 ∧ StartIn w2) := ⟨below_append R1.out b2, ht.later (below_append R1.out b2), hst.later (below_append R1.out b2)⟩
  obtain ⟨n, hn⟩ : ∃ n, n = ls.length := ⟨_, rfl⟩
  have HHs : Hid ((lv ls ls.length).length = n) := by show _ = _; rw [lv_length, hn]
  have HAL : Hid (AllH (lv ls ls.length)) := lv_all _ _
  have hn2 : 2 ≤ n := by omega
  have hn20 : n ≤ 1048576 := by omega
  have hn2' : ¬ (n : Int) < 2 := by omega
  generalize lv ls ls.length = hs at hin HHs HAL
  clear o2 b2 hn R1 h2 hll
  go_wp2_with ((first
    | (refine wl_lenN (.tmp 17) rfl rfl vh hs rfl hin n HHs.out ?_)); try simp only [Act.put, List.setIfInBounds_toArray, List.set_cons_succ, List.set_cons_zero])
  go_loop [5] (fun k => ∃ p : Nat, k = .int .i64 (p : Nat) ∧ IsPow p ∧ p < n) (fun k => n - (intOf k).toNat)
  case atStart => exact ⟨1, rfl, IsPow.one, by omega⟩
  case round =>
    obtain ⟨k, rfl, hp, hlt⟩ := hrel
    have HP : Hid (IsPow k) := hp
    have hpos := hp.pos
    clear hp
    by_cases hgo : 2 * k < n
    · have hgo' : 2 * (k : Int) < (n : Int) := by omega
      go_wp2_with ((first
        | (refine wl_lenN (.tmp 24) rfl rfl vh hs rfl hin n HHs.out ?_)); try simp only [Act.put, List.setIfInBounds_toArray, List.set_cons_succ, List.set_cons_zero])
      exact ⟨⟨2 * k, by go_num, HP.out.twice, by omega⟩, by simp [intOf]; omega⟩
    · have hgo' : ¬ 2 * (k : Int) < (n : Int) := by omega
      have HK : Hid (Tree.half n = k) := HP.out.half hlt (by omega)
      have HRN0 : Tree.root hs = Tree.node (Tree.root (hs.take k)) (Tree.root (hs.drop k)) := by
        have h1 := Tree.root_two hs (by rw [HHs.out]; exact hn2)
        rw [HHs.out, HK.out] at h1
        exact h1
      have HRN1 : Hid (Tree.root hs = Tree.node (Tree.root (hs.take k)) (Tree.root (hs.drop k))) := HRN0
      obtain ⟨va, ra', sa⟩ := run_hto hin k (by have := HHs.out; omega)
      obtain ⟨vb, rb', sb⟩ := run_hfrom hin k (by have := HHs.out; omega)
      have EA : Hid ((∀ w', (Instr.slice 24 vh none (some (.int .i64 (k : Nat))) none).run Tryd.prog w' = .ok va w') ∧ HIn w2 va (hs.take k) ∧ (hs.take k).length = k) := ⟨ra', sa, by rw [List.length_take, HHs.out]; omega⟩
      have EB : Hid ((∀ w', (Instr.slice 24 vh (some (.int .i64 (k : Nat))) none none).run Tryd.prog w' = .ok vb w') ∧ HIn w2 vb (hs.drop k) ∧ (hs.drop k).length = n - k) := ⟨rb', sb, by rw [List.length_drop, HHs.out]⟩
      clear ra' rb' sa sb HRN0 HP HK
      go_wp2_with ((first
        | (refine wl_lenN (.tmp 24) rfl rfl vh hs rfl hin n HHs.out ?_)); try simp only [Act.put, List.setIfInBounds_toArray, List.set_cons_succ, List.set_cons_zero])
      refine (root_any _ vh hs w2 HHs.out (by omega) hin R2.out.2.1 R2.out.2.2).mono ?_
      rintro e w3 ⟨rfl, b3⟩
      have R3 : Hid (Below w2.heap.size w2 w3 ∧ IsH (Tree.root hs)) := ⟨b3, HAL.out.root⟩
      clear b3
      obtain ⟨r, hr⟩ : ∃ r, r = Tree.root hs := ⟨_, rfl⟩
      rw [← hr] at R3 HRN1 ⊢
      have HRR : Hid (Tree.root hs = r) := hr.symm
      have HRI : Hid (IsH r) := R3.out.2
      clear hr
      go_wp2_with ((first
        | (refine wl_new rfl rfl rfl rfl rfl (.tmp 30) rfl r R3.out.2 (fun _ => rfl) (fun _ => rfl) ?_; intro w4 r4 s4 b4; have R4 : Hid (Below w2.heap.size w2 w4 ∧ HIs w4 w3.heap.size r) := ⟨below_append R3.out.1 b4, r4⟩; clear r4 s4 b4)
        | (refine wl rfl va _ (rx_sub (.tmp 31) none (some (.tmp 32)) rfl vh va rfl EA.out.1) ?_)); try simp only [Act.put, List.setIfInBounds_toArray, List.set_cons_succ, List.set_cons_zero])
      generalize w3.heap.size = g6 at R4 ⊢
      refine (root_any _ va (hs.take k) w4 EA.out.2.2 (by omega) (EA.out.2.1.later R4.out.1) (R2.out.2.1.later R4.out.1) (R2.out.2.2.later R4.out.1)).mono ?_
      rintro e w5 ⟨rfl, b5⟩
      have R5 : Hid (Below w2.heap.size w2 w5 ∧ HIs w5 g6 r ∧ IsH (Tree.root (hs.take k))) := ⟨below_append R4.out.1 b5, R4.out.2.next b5, (HAL.out.take k).root⟩
      clear b5 R4 R3
      generalize Tree.root (hs.take k) = la at R5 HRN1 ⊢
      go_wp2_with ((first
        | (refine wl_new rfl rfl rfl rfl rfl (.tmp 34) rfl la R5.out.2.2 (fun _ => rfl) (fun _ => rfl) ?_; intro w6 r6 s6 b6; have R6 : Hid (Below w2.heap.size w2 w6 ∧ HIs w6 g6 r ∧ HIs w6 w5.heap.size la) := ⟨below_append R5.out.1 b6, R5.out.2.1.next b6, r6⟩; clear r6 s6 b6)
        | (refine wl rfl vb _ (rx_sub (.tmp 35) (some (.tmp 36)) none rfl vh vb rfl EB.out.1) ?_)); try simp only [Act.put, List.setIfInBounds_toArray, List.set_cons_succ, List.set_cons_zero])
      generalize w5.heap.size = g7 at R6 ⊢
      refine (root_any _ vb (hs.drop k) w6 EB.out.2.2 (by omega) (EB.out.2.1.later R6.out.1) (R2.out.2.1.later R6.out.1) (R2.out.2.2.later R6.out.1)).mono ?_
      rintro e w7 ⟨rfl, b7⟩
      have R7 : Hid (Below w2.heap.size w2 w7 ∧ HIs w7 g6 r ∧ HIs w7 g7 la ∧ IsH (Tree.root (hs.drop k))) := ⟨below_append R6.out.1 b7, R6.out.2.1.next b7, R6.out.2.2.next b7, (HAL.out.drop k).root⟩
      clear b7 R6 R5
      generalize Tree.root (hs.drop k) = ra at R7 HRN1 ⊢
      have HRN : Hid (Tree.node la ra = r) := HRN1.out.symm
      clear HRN1 EA EB
      go_wp2_with ((first
        | (refine wl_new rfl rfl rfl rfl rfl (.tmp 38) rfl ra R7.out.2.2.2 (fun _ => rfl) (fun _ => rfl) ?_; intro w0 r0 s0 b0; have R8 : Hid (Below w2.heap.size w2 w0 ∧ HIs w0 g6 r ∧ HIs w0 g7 la ∧ HIs w0 w7.heap.size ra) := ⟨below_append R7.out.1 b0, R7.out.2.1.next b0, R7.out.2.2.1.next b0, r0⟩; clear r0 s0 b0)); try simp only [Act.put, List.setIfInBounds_toArray, List.set_cons_succ, List.set_cons_zero])
      generalize w7.heap.size = g8 at R8 ⊢
      have hB0 : Hid (Below w.heap.size w w0) := below_append R2.out.1 R8.out.1
      have ht0 : Hid (TabIn w0) := R2.out.2.1.later R8.out.1
      have hst0 : Hid (StartIn w0) := R2.out.2.2.later R8.out.1
      have hin0 : Hid (HIn w0 vh hs) := hin.later R8.out.1
      clear R7
      refine (newGrow_any w0).mono ?_
      rintro e w9 ⟨rfl, g9, b9⟩
      obtain ⟨G, hG⟩ : ∃ G, G = w0.heap.size := ⟨_, rfl⟩
      rw [← hG] at g9 ⊢
      have HG : Hid (1 < G ∧ w0.heap.size ≤ G) := ⟨by have := hB0.out.size; omega, by omega⟩
      have HI0 : Hid (PaS w0 g6 g7 g8 G r la ra hs 0 w9) := ⟨⟨.slice none 0 0, by rw [List.take_zero]; exact g9, fun k hk => by cases hk⟩, hG ▸ b9, R8.out.2.1.next (hG ▸ b9), R8.out.2.2.1.next (hG ▸ b9), R8.out.2.2.2.next (hG ▸ b9)⟩
      have LT6 : Hid (g6 < w0.heap.size ∧ g7 < w0.heap.size ∧ g8 < w0.heap.size) := ⟨R8.out.2.1.lt, R8.out.2.2.1.lt, R8.out.2.2.2.lt⟩
      clear g9 b9 hG R8
      go_wp2_with fail
      go_loopw [10] (fun i W => ∃ m : Nat, m ≤ n ∧ i = .int .i64 (m : Nat) ∧ PaS w0 g6 g7 g8 G r la ra hs m W) (fun i _ => n - (intOf i).toNat)
      case atStart => exact ⟨0, Nat.zero_le _, rfl, HI0.out⟩
      case round =>
        clear HI0
        obtain ⟨m, hm, rfl, hpa⟩ := hrel
        have HI : Hid (PaS w0 g6 g7 g8 G r la ra hs m wr) := hpa
        clear hpa
        by_cases hml : m < n
        · have hml' : (m : Int) < (n : Int) := by omega
          have HX : Hid (IsH (hs.getD m []) ∧ hs.take (m + 1) = hs.take m ++ [hs.getD m []]) := by
            have hmh : m < hs.length := by have := HHs.out; omega
            refine ⟨HAL.out.at m hmh, ?_⟩
            rw [List.take_succ_eq_append_getElem hmh]
            simp [hmh]
          have LT : Hid ((hs.take m).length = m) := by show _ = _; rw [List.length_take, HHs.out]; omega
          generalize hx : hs.getD m [] = x at HX
          have HXE : Hid (hs.getD m [] = x) := hx
          clear hx
          go_wp2_with ((first
            | (refine wl_lenN (.tmp 43) rfl rfl vh hs rfl hin n HHs.out ?_)
            | (refine wl_index (.tmp 49) (.tmp 50) rfl rfl vh hs rfl (hin0.out.later HI.out.bl) _ m rfl rfl (by have := HHs.out; omega) ?_; intro p hp; rw [HXE.out] at hp; have HPp : Hid (HAt wr p x) := hp; clear hp)
            | (refine wl_load (.tmp 51) rfl rfl p rfl x HPp.out ?_)); try simp only [Act.put, List.setIfInBounds_toArray, List.set_cons_succ, List.set_cons_zero])
          obtain ⟨vg, hvg, hvb⟩ := HI.out.g
          have HVB : Hid (∀ k, vg.ownBlock = some k → w0.heap.size ≤ k) := hvb
          refine (add_any G vg (hs.take m) x wr hvg HX.out.1 (HI.out.tab ht0.out) (HI.out.start hst0.out) HG.out.1 (by rw [LT.out]; omega)).mono ?_
          rintro e w10 ⟨rfl, vg', g10, k10, l10⟩
          have bk : Below w0.heap.size wr w10 := k10.below HG.out.2 HVB.out HI.out.bl.size
          have HJ : Hid (PaS w0 g6 g7 g8 G r la ra hs (m + 1) w10) := by
            refine ⟨⟨vg', by rw [HX.out.2]; exact g10, ?_⟩, HI.out.bl.trans bk, HI.out.h6.later bk LT6.out.1, HI.out.h7.later bk LT6.out.2.1, HI.out.h8.later bk LT6.out.2.2⟩
            rcases l10 with l | l
            · rw [l]
              exact HVB.out
            · exact fun k hk => Nat.le_trans HI.out.bl.size (l k hk)
          clear g10 k10 l10 hvg hvb HI bk
          go_wp2_with fail
          exact ⟨⟨m + 1, by omega, by go_num, HJ.out⟩, by simp [intOf]; omega⟩
        · have hml' : ¬ (m : Int) < (n : Int) := by omega
          obtain rfl : m = n := by omega
          have HTK : Hid (hs.take m = hs) := by show _ = _; rw [List.take_of_length_le (by rw [HHs.out]; exact Nat.le_refl _)]
          go_wp2_with ((first
            | (refine wl_lenN (.tmp 43) rfl rfl vh hs rfl hin m HHs.out ?_)); try simp only [Act.put, List.setIfInBounds_toArray, List.set_cons_succ, List.set_cons_zero])
          refine wp_region_held (S := PaS w0 g6 g7 g8 G r la ra hs m) (by kernel_rfl) ?_
          show wpAnyH _ _ _ _ _ 19 (Array.replicate 19 false) _ _
          have hS : PaS w0 g6 g7 g8 G r la ra hs m { wr with drawn := wr.drawn + 1 } := HI.out.next (below_drawn wr _)
          clear HI
          refine takeH (i := 0) (some 54) rfl rfl (by kernel_rfl) (by kernel_rfl) (by kernel_rfl) (fun _ _ _ h => h) (yRunW rfl (hv (r)) (fun W hW => rx_load (.tmp 6) rfl (.pointer (some ⟨g6, 0, none⟩)) rfl (r) (hW.h6.at))) hS ?_
          simp only [Act.put, List.setIfInBounds_toArray, List.set_cons_succ, List.set_cons_zero]
          refine takeH (i := 1) (some 55) rfl rfl (by kernel_rfl) (by kernel_rfl) (by kernel_rfl) (fun _ _ _ h => h) (yRunW rfl (hv (la)) (fun W hW => rx_load (.tmp 7) rfl (.pointer (some ⟨g7, 0, none⟩)) rfl (la) (hW.h7.at))) hS ?_
          simp only [Act.put, List.setIfInBounds_toArray, List.set_cons_succ, List.set_cons_zero]
          refine takeH (i := 2) (some 56) rfl rfl (by kernel_rfl) (by kernel_rfl) (by kernel_rfl) (fun _ _ _ h => h) (yRunW rfl (hv (ra)) (fun W hW => rx_load (.tmp 8) rfl (.pointer (some ⟨g8, 0, none⟩)) rfl (ra) (hW.h8.at))) hS ?_
          simp only [Act.put, List.setIfInBounds_toArray, List.set_cons_succ, List.set_cons_zero]
          refine oneH (i := 3) (by kernel_rfl) ?_
          refine opCallW (some 57) rfl rfl rfl 14 _ (run_call en14 [.tmp 55, .tmp 56] _ rfl [hv la, hv ra] rfl) ?_
          refine (node_any la ra hS.h7.1 hS.h8.1 _ (hS.tab ht0.out) (hS.start hst0.out)).mono ?_
          rintro e w12 ⟨rfl, bb⟩
          have hS' : PaS w0 g6 g7 g8 G r la ra hs m w12 := hS.next bb
          refine ⟨_, rfl, hS', ?_⟩
          clear hS bb
          have hS := hS'
          clear hS'
          simp only [Act.put, List.setIfInBounds_toArray, List.set_cons_succ, List.set_cons_zero]
          rw [HRN.out]
          refine takeH (i := 4) (some 58) rfl rfl (by kernel_rfl) (by kernel_rfl) (by kernel_rfl) (fun _ _ _ h => h) (yRunW rfl (.bool true) (fun _ _ => rx_same (.tmp 54) (.tmp 57) rfl (r) (HRI.out) rfl rfl)) hS ?_
          simp only [Act.put, List.setIfInBounds_toArray, List.set_cons_succ, List.set_cons_zero]
          refine takeH (i := 5) (some 59) rfl rfl (by kernel_rfl) (by kernel_rfl) (by kernel_rfl) (fun _ _ _ h => h) (yMoveW rfl (.tmp 58) rfl (.bool true) rfl) hS ?_
          simp only [Act.put, List.setIfInBounds_toArray, List.set_cons_succ, List.set_cons_zero]
          refine takeH (i := 6) (some 60) rfl rfl (by kernel_rfl) (by kernel_rfl) (by kernel_rfl) (fun _ _ _ h => h) (yMoveW rfl (.tmp 9) rfl (.pointer (some ⟨G, 0, none⟩)) rfl) hS ?_
          simp only [Act.put, List.setIfInBounds_toArray, List.set_cons_succ, List.set_cons_zero]
          refine takeH (i := 8) (some 62) rfl rfl (by kernel_rfl) (by kernel_rfl) (by kernel_rfl) (fun _ _ _ h => h) (yRunW rfl (hv (r)) (fun W hW => rx_load (.tmp 6) rfl (.pointer (some ⟨g6, 0, none⟩)) rfl (r) (hW.h6.at))) hS ?_
          simp only [Act.put, List.setIfInBounds_toArray, List.set_cons_succ, List.set_cons_zero]
          refine oneH (i := 7) (by kernel_rfl) ?_
          refine opCallW (some 61) rfl rfl rfl 23 _ (run_call en23 [.tmp 60] _ rfl [.pointer (some ⟨G, 0, none⟩)] rfl) ?_
          obtain ⟨vg, hvg, hvb⟩ := hS.g
          rw [HTK.out] at hvg
          refine (growRoot_any G vg hs _ hvg (hS.tab ht0.out) (hS.start hst0.out) (by rw [HHs.out]; omega)).mono ?_
          rintro e w13 ⟨rfl, bb⟩
          rw [HRR.out]
          have hS' : PaS w0 g6 g7 g8 G r la ra hs m w13 := hS.next bb
          refine ⟨_, rfl, hS', ?_⟩
          clear hS bb hvg hvb
          have hS := hS'
          clear hS'
          simp only [Act.put, List.setIfInBounds_toArray, List.set_cons_succ, List.set_cons_zero]
          refine takeH (i := 9) (some 63) rfl rfl (by kernel_rfl) (by kernel_rfl) (by kernel_rfl) (fun _ _ _ h => h) (yRunW rfl (.bool true) (fun _ _ => rx_same (.tmp 61) (.tmp 62) rfl (r) (HRI.out) rfl rfl)) hS ?_
          simp only [Act.put, List.setIfInBounds_toArray, List.set_cons_succ, List.set_cons_zero]
          refine takeH (i := 10) (some 64) rfl rfl (by kernel_rfl) (by kernel_rfl) (by kernel_rfl) (fun _ _ _ h => h) (yPickW rfl (.tmp 59) (.tmp 63) _ rfl rfl (.bool true) rfl) hS ?_
          simp only [Act.put, List.setIfInBounds_toArray, List.set_cons_succ, List.set_cons_zero]
          refine takeH (i := 11) (some 65) rfl rfl (by kernel_rfl) (by kernel_rfl) (by kernel_rfl) (fun _ _ _ h => h) (yMoveW rfl (.tmp 64) rfl (.bool true) rfl) hS ?_
          simp only [Act.put, List.setIfInBounds_toArray, List.set_cons_succ, List.set_cons_zero]
          refine takeH (i := 12) (some 66) rfl rfl (by kernel_rfl) (by kernel_rfl) (by kernel_rfl) (fun _ _ _ h => h) (yMoveW rfl (.tmp 9) rfl (.pointer (some ⟨G, 0, none⟩)) rfl) hS ?_
          simp only [Act.put, List.setIfInBounds_toArray, List.set_cons_succ, List.set_cons_zero]
          refine takeH (i := 14) (some 68) rfl rfl (by kernel_rfl) (by kernel_rfl) (by kernel_rfl) (fun _ _ _ h => h) (yMoveW rfl (.tmp 4) rfl (vh) rfl) hS ?_
          simp only [Act.put, List.setIfInBounds_toArray, List.set_cons_succ, List.set_cons_zero]
          refine takeH (i := 15) (some 69) rfl rfl (by kernel_rfl) (by kernel_rfl) (by kernel_rfl) (fun _ _ _ h => h) (yLen rfl (.tmp 68) rfl vh hs rfl w0 hin0.out m HHs.out) hS ?_
          simp only [Act.put, List.setIfInBounds_toArray, List.set_cons_succ, List.set_cons_zero]
          refine oneH (i := 13) (by kernel_rfl) ?_
          refine opCallW (some 67) rfl rfl rfl 22 _ (run_call en22 [.tmp 66] _ rfl [.pointer (some ⟨G, 0, none⟩)] rfl) ?_
          obtain ⟨vg, hvg, hvb⟩ := hS.g
          rw [HTK.out] at hvg
          refine (growSize_any G vg hs _ hvg).mono ?_
          rintro e w14 ⟨rfl, hw14⟩
          rw [← hw14, HHs.out]
          refine ⟨_, rfl, hS, ?_⟩
          clear hw14 hvg hvb
          simp only [Act.put, List.setIfInBounds_toArray, List.set_cons_succ, List.set_cons_zero]
          refine takeH (i := 16) (some 70) rfl rfl (by kernel_rfl) (by kernel_rfl) (by kernel_rfl) (fun _ _ _ h => h) (yIntEq rfl (.tmp 67) (.tmp 69) rfl .i64 (m : Nat) rfl rfl) hS ?_
          simp only [Act.put, List.setIfInBounds_toArray, List.set_cons_succ, List.set_cons_zero]
          refine takeH (i := 17) (some 71) rfl rfl (by kernel_rfl) (by kernel_rfl) (by kernel_rfl) (fun _ _ _ h => h) (yPickW rfl (.tmp 65) (.tmp 70) _ rfl rfl (.bool true) rfl) hS ?_
          simp only [Act.put, List.setIfInBounds_toArray, List.set_cons_succ, List.set_cons_zero]
          refine takeH (i := 18) (some 2) rfl rfl (by kernel_rfl) (by kernel_rfl) (by kernel_rfl) (fun _ _ _ h => h) (yAssign rfl (.tmp 71) rfl (.bool true) rfl) hS ?_
          simp only [Act.put, List.setIfInBounds_toArray, List.set_cons_succ, List.set_cons_zero]
          refine wpAnyH_done (by kernel_rfl) ?_ _
          have HB9 : Hid (Below w.heap.size w w13) := hB0.out.trans (hS.bl.mono hB0.out.size)
          clear hS
          go_wp2_with fail
          go_ret
          exact ⟨rfl, HB9.out⟩
theorem treeParts_any (vl : Value) (ls : List Nat) (w : World) (hl : SliceIn w vl ls) (ht : TabIn w) (hst : StartIn w) (hll : ls.length ≤ 1048576) :
    Calls Tryd.prog 6 #[vl] w fun e w' => e = .returned (.bool true) ∧ Below w.heap.size w w' := by
  by_cases h : ls.length < 2
  · exact treeParts_few vl ls w hl ht hst h
  · exact treeParts_many vl ls w hl ht hst hll (by omega)
end Go.Proofs.YtmjbjepmnjocjaaDoor

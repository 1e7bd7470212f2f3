/- The walk of 'shown': the document's two examples. -/
import Derived.Test.YtimcgkcdonbjpaaDoorShownLaws
namespace Go.Proofs.YtimcgkcdonbjpaaDoor
open Go.RowKit

section
variable {w : World} {ops : Array Oper} {rest : List Oper} {o : Oper} {a : Act} {Q : Exit → Act → World → Prop}
theorem wpList_lit2 (hgd : o.guard = none) (ho : o.op = .buildSlice 22 2 #[(0, .const (.int .u8 98)), (1, .const (.int .u8 99))])
    (h : ∀ w', SliceIn w' (.slice (some ⟨w.heap.size, 0, none⟩) 2 2) [98, 99] → w'.heap.size = w.heap.size + 1 → Below w.heap.size w w' → wpList Tryd.prog ops Q rest (a.put o.dst (.slice (some ⟨w.heap.size, 0, none⟩) 2 2)) w') : wpList Tryd.prog ops Q (o :: rest) a w :=
  wpList_value hgd _ _ (by simp [execOp, ho, Act.eval, run_lit2]) (h (w.alloc (.cells (bcells [98, 99]).toArray 5)) (lit_slice w [98, 99] (lt256 _ (by decide)) (by decide)) (by simp) ((Below.refl _ _).alloc (Nat.le_refl _) _))
end

section
variable {ops : Array Oper} {a : Act} {Q : Exit → Act → World → Prop} {S : World → Prop} {K : Act → World → Prop} {w : World}
theorem takeH {i : Nat} (d : Option Tmp) {oi : Oper} {v : Value} {fuel : Nat} {listed : Array Bool} (hi : ops[i]? = some oi) (hd : oi.dst = d)
    (hs : Region.noSelect ops = true) (hf : Region.free .any ops listed i = true) (hr : (Region.ready .any ops listed).contains i = true)
    (hQ : ∀ c a w, Q (.panic c) (a.put d v) w → Q (.panic c) a w) (hy : YieldsIf Tryd.prog ops S oi v a) (hS : S w)
    (h : wpAnyH Tryd.prog .any ops Q S fuel (listed.setIfInBounds i true) (a.put d v) w) : wpAnyH Tryd.prog .any ops Q S (fuel + 1) listed a w := by
  subst hd
  exact wpAnyH_take hi hs hf hr hQ hy hS h
theorem opCall' {i : Nat} (d : Option Tmp) {o : Oper} (hi : ops[i]? = some o) (hd : o.dst = d) (hw : Region.wanted o (yielded ops a.tmps) = true) (x : Operand) (ts : Array TypeId) (ho : o.op = .call { callee := .value (.func 7), args := #[x], argTypes := ts }) (v : Value) (hx : a.eval x = v) (u : Value)
    (hc : Calls Tryd.prog 7 #[v] w fun e w' => e = .returned u ∧ Below w.heap.size w w') (h : ∀ w', Below w.heap.size w w' → K (a.put d u) w') : wpOp Tryd.prog ops Q i K a w := by
  subst hd
  exact opCall hi hw x ts ho v hx u hc h
theorem opLit3' {i : Nat} (d : Option Tmp) {o : Oper} (hi : ops[i]? = some o) (hd : o.dst = d) (hw : Region.wanted o (yielded ops a.tmps) = true) (ho : o.op = .buildSlice 22 3 #[(0, .const (.int .u8 97)), (1, .const (.int .u8 98)), (2, .const (.int .u8 99))])
    (h : K (a.put d (.slice (some ⟨w.heap.size, 0, none⟩) 3 3)) (w.alloc (.cells (bcells [97, 98, 99]).toArray 5))) : wpOp Tryd.prog ops Q i K a w := by
  subst hd
  exact opValue hi hw _ _ (by simp [execOp, ho, Act.eval, run_lit3]) h
end

set_option maxHeartbeats 3000000 in
set_option maxRecDepth 100000 in
theorem shown_any (w : World) (ht : TabIn w) (hst : StartIn w) :
    Calls Tryd.prog 6 #[] w fun e w' => e = .returned (.bool true) ∧ Below w.heap.size w w' := by
  have h1lt := ht.lt
  go_enter Tryd.func6, Tryd.ntmps6
  go_upto_region 1 with fail
  refine wp_region_lit ?_
  refine wpList_none rfl rfl ?_
  refine wpList_alloc_store (d := 1) rfl rfl rfl rfl rfl (.tmp 6) rfl noneBytes none_len (fun _ => rfl) (fun _ => rfl) ?_
  intro w1 r1 s1 b1
  refine wpList_nil ?_
  go_upto_region 2 with fail
  refine wp_region_lit ?_
  refine wpList_abc rfl rfl ?_
  refine wpList_alloc_store (d := 2) rfl rfl rfl rfl rfl (.tmp 7) rfl abcBytes abc_len (fun _ => rfl) (fun _ => rfl) ?_
  intro w2 r2 s2 b2
  refine wpList_nil ?_
  obtain ⟨g1, hg1⟩ : ∃ g1, g1 = w.heap.size := ⟨_, rfl⟩
  obtain ⟨g2, hg2⟩ : ∃ g2, g2 = w1.heap.size := ⟨_, rfl⟩
  obtain ⟨g, hg⟩ : ∃ g, g = w2.heap.size := ⟨_, rfl⟩
  have r1' := r1.later b2 (by omega)
  have b02 : Below w.heap.size w w2 := b1.trans (b2.mono (by omega))
  rw [← hg1] at r1' ⊢
  rw [← hg2] at r2 ⊢
  have hcall := new_any w2 (hst.later b02)
  rw [← hg] at hcall
  have HN : Hid (Calls Tryd.prog 10 #[] w2 fun e w' => e = .returned (.pointer (some ⟨g, 0, none⟩)) ∧ StIn w' g [] ∧ Below g w2 w') := hcall
  have H2 : Hid (Row w2 g1 25 (bcells noneBytes) ∧ Row w2 g2 25 (bcells abcBytes) ∧ Below w.heap.size w w2 ∧ g = w2.heap.size ∧ w.heap.size ≤ g1 ∧ g1 < g2 ∧ g2 < g) := ⟨r1', r2, b02, hg, by omega, by omega, by omega⟩
  clear hcall r1 r1' r2 b1 b2 b02 s1 s2 hg1 hg2 hg
  go_wp2_with fail
  refine HN.out.mono ?_
  rintro e w3 ⟨rfl, st3, b3⟩
  have b03 : Below w.heap.size w w3 := H2.out.2.2.1.trans (b3.mono (by have := H2.out; omega))
  have hg1g : 1 < g := by have := H2.out; omega
  have HC3 := stateSum_any g [] w3 st3 (ht.later b03) hg1g (by decide)
  rw [sha_none] at HC3
  have HD3 : Hid (Calls Tryd.prog 12 #[.pointer (some ⟨g, 0, none⟩)] w3 fun e w' => e = .returned (.agg (bcells noneBytes).toArray) ∧ Below w3.heap.size w3 w') := HC3
  have H3 : Hid (Row w3 g1 25 (bcells noneBytes) ∧ Row w3 g2 25 (bcells abcBytes) ∧ Below w.heap.size w w3 ∧ StIn w3 g []) := ⟨H2.out.1.later b3 (by have := H2.out; omega), H2.out.2.1.later b3 (by have := H2.out; omega), b03, st3⟩
  clear HC3 b3 b03 st3 HN
  go_wp2_with fail
  refine HD3.out.mono ?_
  rintro e w4 ⟨rfl, b4⟩
  simp only []
  go_step
  refine wpList_alloc_store (d := 4) rfl rfl rfl rfl rfl (.tmp 12) rfl noneBytes none_len (fun _ => rfl) (fun _ => rfl) ?_
  intro w5 r5 s5 b5
  refine wpList_nil ?_
  obtain ⟨g4, hg4⟩ : ∃ g4, g4 = w4.heap.size := ⟨_, rfl⟩
  rw [← hg4] at r5 ⊢
  have b45 : Below w3.heap.size w3 w5 := b4.trans (b5.mono b4.size)
  have hgw4 : g < g4 := by have := H3.out.2.2.2.lt; have := b4.size; omega
  have H5 : Hid (Row w5 g1 25 (bcells noneBytes) ∧ Row w5 g2 25 (bcells abcBytes) ∧ Row w5 g4 25 (bcells noneBytes) ∧ Below w.heap.size w w5 ∧ StIn w5 g [] ∧ w5.heap.size = g4 + 1) := ⟨H3.out.1.later b45 H3.out.1.lt, H3.out.2.1.later b45 H3.out.2.1.lt, r5, H3.out.2.2.1.trans (b45.mono H3.out.2.2.1.size), H3.out.2.2.2.later b45 H3.out.2.2.2.lt, by omega⟩
  clear r5 s5 b5 b4 b45 hg4 H3 HD3
  go_upto_region 7 with fail
  refine wp_region_lit ?_
  refine wpList_move (.tmp 3) rfl rfl _ rfl ?_
  refine wpList_litb1 (.const (.int .u8 97)) rfl rfl 97 (by decide) rfl ?_
  intro w6 l6 s6 b6
  have b06 : Below w.heap.size w w6 := H5.out.2.2.2.1.trans (b6.mono H5.out.2.2.2.1.size)
  have HW6 := write_any g _ [] [97] w6 (H5.out.2.2.2.2.1.later b6 H5.out.2.2.2.2.1.lt) (l6.offNe (fun p n c h => by cases h; have := H5.out.2.2.2.2.2; show w5.heap.size ≠ g; omega)) (ht.later b06) hg1g (by decide)
  have HX6 : Hid (Calls Tryd.prog 11 #[.pointer (some ⟨g, 0, none⟩), .slice (some ⟨w5.heap.size, 0, none⟩) 1 1] w6 fun e w' => e = .returned noResult ∧ StIn w' g ([] ++ [97]) ∧ Only g w6 w') := HW6
  have H6 : Hid (Row w6 g1 25 (bcells noneBytes) ∧ Row w6 g2 25 (bcells abcBytes) ∧ Row w6 g4 25 (bcells noneBytes) ∧ Below w.heap.size w w6) := ⟨H5.out.1.later b6 H5.out.1.lt, H5.out.2.1.later b6 H5.out.2.1.lt, H5.out.2.2.1.later b6 H5.out.2.2.1.lt, b06⟩
  have hsz6 : g4 < w6.heap.size := H6.out.2.2.1.lt
  clear HW6 l6 s6 b6 b06 H5
  go_wp2_with fail
  refine HX6.out.mono ?_
  rintro e w7 ⟨rfl, st7, o7⟩
  have hgw : w.heap.size ≤ g := by have := H2.out; omega
  have hg12 : g1 < g ∧ g2 < g := by have := H2.out; omega
  have H7 : Hid (Row w7 g1 25 (bcells noneBytes) ∧ Row w7 g2 25 (bcells abcBytes) ∧ Row w7 g4 25 (bcells noneBytes) ∧ Below w.heap.size w w7 ∧ StIn w7 g [97]) := ⟨o7.row (by omega) H6.out.1, o7.row (by omega) H6.out.2.1, o7.row (by omega) H6.out.2.2.1, H6.out.2.2.2.trans (o7.below hgw H6.out.2.2.2.size), st7⟩
  clear st7 o7 H6 HX6
  go_upto_region 8 with fail
  refine wp_region_lit ?_
  refine wpList_move (.tmp 3) rfl rfl _ rfl ?_
  refine wpList_lit2 rfl rfl ?_
  intro w8 l8 s8 b8
  have b08 : Below w.heap.size w w8 := H7.out.2.2.2.1.trans (b8.mono H7.out.2.2.2.1.size)
  have HW8 := write_any g _ [97] [98, 99] w8 (H7.out.2.2.2.2.later b8 H7.out.2.2.2.2.lt) (l8.offNe (fun p n c h => by cases h; have := H7.out.2.2.2.2.lt; show w7.heap.size ≠ g; omega)) (ht.later b08) hg1g (by decide)
  have HX8 : Hid (Calls Tryd.prog 11 #[.pointer (some ⟨g, 0, none⟩), .slice (some ⟨w7.heap.size, 0, none⟩) 2 2] w8 fun e w' => e = .returned noResult ∧ StIn w' g ([97] ++ [98, 99]) ∧ Only g w8 w') := HW8
  have H8 : Hid (Row w8 g1 25 (bcells noneBytes) ∧ Row w8 g2 25 (bcells abcBytes) ∧ Row w8 g4 25 (bcells noneBytes) ∧ Below w.heap.size w w8) := ⟨H7.out.1.later b8 H7.out.1.lt, H7.out.2.1.later b8 H7.out.2.1.lt, H7.out.2.2.1.later b8 H7.out.2.2.1.lt, b08⟩
  clear HW8 l8 s8 b8 b08 H7 hsz6
  go_wp2_with fail
  refine HX8.out.mono ?_
  rintro e w9 ⟨rfl, st9, o9⟩
  have b09 : Below w.heap.size w w9 := H8.out.2.2.2.trans (o9.below hgw H8.out.2.2.2.size)
  have HC9 := stateSum_any g ([97] ++ [98, 99]) w9 st9 (ht.later b09) hg1g (by decide)
  rw [show ([97] ++ [98, 99] : List Nat) = [97, 98, 99] from rfl, sha_abc] at HC9
  have HD9 : Hid (Calls Tryd.prog 12 #[.pointer (some ⟨g, 0, none⟩)] w9 fun e w' => e = .returned (.agg (bcells abcBytes).toArray) ∧ Below w9.heap.size w9 w') := HC9
  have H9 : Hid (Row w9 g1 25 (bcells noneBytes) ∧ Row w9 g2 25 (bcells abcBytes) ∧ Row w9 g4 25 (bcells noneBytes) ∧ Below w.heap.size w w9) := ⟨o9.row (by omega) H8.out.1, o9.row (by omega) H8.out.2.1, o9.row (by omega) H8.out.2.2.1, b09⟩
  clear st9 o9 H8 HX8 HC9 b09
  go_wp2_with fail
  refine HD9.out.mono ?_
  rintro e w10 ⟨rfl, b10⟩
  simp only []
  go_step
  refine wpList_alloc_store (d := 5) rfl rfl rfl rfl rfl (.tmp 20) rfl abcBytes abc_len (fun _ => rfl) (fun _ => rfl) ?_
  intro w11 r11 s11 b11
  refine wpList_nil ?_
  obtain ⟨g5, hg5⟩ : ∃ g5, g5 = w10.heap.size := ⟨_, rfl⟩
  rw [← hg5] at r11 ⊢
  have b911 : Below w9.heap.size w9 w11 := b10.trans (b11.mono b10.size)
  have b011 : Below w.heap.size w w11 := H9.out.2.2.2.trans (b911.mono H9.out.2.2.2.size)
  have hS0 : ShownS w g1 g2 g4 g5 w11 := ⟨H9.out.1.later b911 H9.out.1.lt, H9.out.2.1.later b911 H9.out.2.1.lt, H9.out.2.2.1.later b911 H9.out.2.2.1.lt, r11, ht.later b011, hst.later b011, b011⟩
  have HS0 : Hid (ShownS w g1 g2 g4 g5 w11) := hS0
  clear hS0 b011 b911 r11 s11 b11 b10 H9 HD9 hg5 ht hst H2
  go_upto_region 10 with fail
  refine wp_region_held (S := ShownS w g1 g2 g4 g5) (by kernel_rfl) ?_
  show wpAnyH _ _ _ _ _ 20 (Array.replicate 20 false) _ _
  have hS : ShownS w g1 g2 g4 g5 { w11 with drawn := w11.drawn + 1 } := HS0.out.later ⟨rfl, rfl, rfl, Nat.le_refl _, fun _ _ => rfl⟩
  clear HS0
  refine takeH (i := 1) (some 22) rfl rfl (by kernel_rfl) (by kernel_rfl) (by kernel_rfl) (fun _ _ _ h => h) (yLoad rfl (.tmp 1) rfl g1 rfl noneBytes none_len (fun w' h => h.1)) hS ?_
  simp only [Act.put, List.setIfInBounds_toArray, List.set_cons_succ, List.set_cons_zero]
  refine wpAnyH_all (rs := [0]) (by kernel_rfl) (by decide) ?_
  intro i hi
  obtain rfl : i = 0 := by simpa using hi
  refine opCall' (some 21) rfl rfl rfl (.const (.slice none 0 0)) _ rfl _ rfl _ (callNone hS.2.2.2.2.1 hS.2.2.2.2.2.1 _ (sliceNil _)) ?_
  intro wa ba
  have hSa := hS.later ba
  refine ⟨hSa, ?_⟩
  simp only [Act.put, List.setIfInBounds_toArray, List.set_cons_succ, List.set_cons_zero]
  clear hS ba
  have hS := hSa
  clear hSa
  refine takeH (i := 2) (some 23) rfl rfl (by kernel_rfl) (by kernel_rfl) (by kernel_rfl) (fun _ _ _ h => h) (yEql rfl (.tmp 21) (.tmp 22) rfl noneBytes rfl rfl rfl) hS ?_
  simp only [Act.put, List.setIfInBounds_toArray, List.set_cons_succ, List.set_cons_zero]
  refine takeH (i := 3) (some 24) rfl rfl (by kernel_rfl) (by kernel_rfl) (by kernel_rfl) (fun _ _ _ h => h) (yMove rfl (.tmp 23) rfl _ rfl) hS ?_
  simp only [Act.put, List.setIfInBounds_toArray, List.set_cons_succ, List.set_cons_zero]
  refine takeH (i := 6) (some 27) rfl rfl (by kernel_rfl) (by kernel_rfl) (by kernel_rfl) (fun _ _ _ h => h) (yLoad rfl (.tmp 2) rfl g2 rfl abcBytes abc_len (fun w' h => h.2.1)) hS ?_
  simp only [Act.put, List.setIfInBounds_toArray, List.set_cons_succ, List.set_cons_zero]
  refine wpAnyH_all (rs := [4]) (by kernel_rfl) (by decide) ?_
  intro i hi
  obtain rfl : i = 4 := by simpa using hi
  refine opLit3' (some 25) rfl rfl rfl rfl ?_
  have hSb := hS.later ((Below.refl _ wa).alloc (Nat.le_refl _) (.cells (bcells [97, 98, 99]).toArray 5))
  refine ⟨hSb, ?_⟩
  simp only [Act.put, List.setIfInBounds_toArray, List.set_cons_succ, List.set_cons_zero]
  have hlit := lit_slice wa [97, 98, 99] (lt256 _ (by decide)) (by decide)
  clear hS
  generalize wa.alloc (.cells (bcells [97, 98, 99]).toArray 5) = wb at *
  have hS := hSb
  clear hSb
  refine wpAnyH_all (rs := [5]) (by kernel_rfl) (by decide) ?_
  intro i hi
  obtain rfl : i = 5 := by simpa using hi
  refine opCall' (some 26) rfl rfl rfl (.tmp 25) _ rfl _ rfl _ (callAbc hS.2.2.2.2.1 hS.2.2.2.2.2.1 _ hlit) ?_
  intro wc bc
  have hSc := hS.later bc
  refine ⟨hSc, ?_⟩
  simp only [Act.put, List.setIfInBounds_toArray, List.set_cons_succ, List.set_cons_zero]
  clear hS bc hlit
  have hS := hSc
  clear hSc
  refine takeH (i := 7) (some 28) rfl rfl (by kernel_rfl) (by kernel_rfl) (by kernel_rfl) (fun _ _ _ h => h) (yEql rfl (.tmp 26) (.tmp 27) rfl abcBytes rfl rfl rfl) hS ?_
  simp only [Act.put, List.setIfInBounds_toArray, List.set_cons_succ, List.set_cons_zero]
  refine takeH (i := 8) (some 29) rfl rfl (by kernel_rfl) (by kernel_rfl) (by kernel_rfl) (fun _ _ _ h => h) (yPick rfl (.tmp 24) (.tmp 28) _ rfl rfl _ rfl) hS ?_
  simp only [Act.put, List.setIfInBounds_toArray, List.set_cons_succ, List.set_cons_zero]
  refine takeH (i := 9) (some 30) rfl rfl (by kernel_rfl) (by kernel_rfl) (by kernel_rfl) (fun _ _ _ h => h) (yMove rfl (.tmp 29) rfl _ rfl) hS ?_
  simp only [Act.put, List.setIfInBounds_toArray, List.set_cons_succ, List.set_cons_zero]
  refine takeH (i := 10) (some 31) rfl rfl (by kernel_rfl) (by kernel_rfl) (by kernel_rfl) (fun _ _ _ h => h) (yLoad rfl (.tmp 4) rfl g4 rfl noneBytes none_len (fun w' h => h.2.2.1)) hS ?_
  simp only [Act.put, List.setIfInBounds_toArray, List.set_cons_succ, List.set_cons_zero]
  refine takeH (i := 11) (some 32) rfl rfl (by kernel_rfl) (by kernel_rfl) (by kernel_rfl) (fun _ _ _ h => h) (yLoad rfl (.tmp 1) rfl g1 rfl noneBytes none_len (fun w' h => h.1)) hS ?_
  simp only [Act.put, List.setIfInBounds_toArray, List.set_cons_succ, List.set_cons_zero]
  refine takeH (i := 12) (some 33) rfl rfl (by kernel_rfl) (by kernel_rfl) (by kernel_rfl) (fun _ _ _ h => h) (yEql rfl (.tmp 31) (.tmp 32) rfl noneBytes rfl rfl rfl) hS ?_
  simp only [Act.put, List.setIfInBounds_toArray, List.set_cons_succ, List.set_cons_zero]
  refine takeH (i := 13) (some 34) rfl rfl (by kernel_rfl) (by kernel_rfl) (by kernel_rfl) (fun _ _ _ h => h) (yPick rfl (.tmp 30) (.tmp 33) _ rfl rfl _ rfl) hS ?_
  simp only [Act.put, List.setIfInBounds_toArray, List.set_cons_succ, List.set_cons_zero]
  refine takeH (i := 14) (some 35) rfl rfl (by kernel_rfl) (by kernel_rfl) (by kernel_rfl) (fun _ _ _ h => h) (yMove rfl (.tmp 34) rfl _ rfl) hS ?_
  simp only [Act.put, List.setIfInBounds_toArray, List.set_cons_succ, List.set_cons_zero]
  refine takeH (i := 15) (some 36) rfl rfl (by kernel_rfl) (by kernel_rfl) (by kernel_rfl) (fun _ _ _ h => h) (yLoad rfl (.tmp 5) rfl g5 rfl abcBytes abc_len (fun w' h => h.2.2.2.1)) hS ?_
  simp only [Act.put, List.setIfInBounds_toArray, List.set_cons_succ, List.set_cons_zero]
  refine takeH (i := 16) (some 37) rfl rfl (by kernel_rfl) (by kernel_rfl) (by kernel_rfl) (fun _ _ _ h => h) (yLoad rfl (.tmp 2) rfl g2 rfl abcBytes abc_len (fun w' h => h.2.1)) hS ?_
  simp only [Act.put, List.setIfInBounds_toArray, List.set_cons_succ, List.set_cons_zero]
  refine takeH (i := 17) (some 38) rfl rfl (by kernel_rfl) (by kernel_rfl) (by kernel_rfl) (fun _ _ _ h => h) (yEql rfl (.tmp 36) (.tmp 37) rfl abcBytes rfl rfl rfl) hS ?_
  simp only [Act.put, List.setIfInBounds_toArray, List.set_cons_succ, List.set_cons_zero]
  refine takeH (i := 18) (some 39) rfl rfl (by kernel_rfl) (by kernel_rfl) (by kernel_rfl) (fun _ _ _ h => h) (yPick rfl (.tmp 35) (.tmp 38) _ rfl rfl _ rfl) hS ?_
  simp only [Act.put, List.setIfInBounds_toArray, List.set_cons_succ, List.set_cons_zero]
  refine takeH (i := 19) (some 0) rfl rfl (by kernel_rfl) (by kernel_rfl) (by kernel_rfl) (fun _ _ _ h => h) (yAssign rfl (.tmp 39) rfl _ rfl) hS ?_
  simp only [Act.put, List.setIfInBounds_toArray, List.set_cons_zero]
  refine wpAnyH_done (by kernel_rfl) ?_ _
  have HB : Hid (Below w.heap.size w wc) := hS.2.2.2.2.2.2
  clear hS
  go_wp2
  go_ret
  exact ⟨rfl, HB.out⟩
end Go.Proofs.YtimcgkcdonbjpaaDoor

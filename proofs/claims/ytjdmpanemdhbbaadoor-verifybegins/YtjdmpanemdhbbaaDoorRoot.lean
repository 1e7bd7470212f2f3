/- The walks of tree.Root and of the document's Root. -/
import Derived.Test.YtjdmpanemdhbbaaDoorNode
import Derived.Test.YtjdmpanemdhbbaaDoorHalf
namespace Go.Proofs.YtjdmpanemdhbbaaDoor
open Go.RowKit

section
variable {w w0 : World} {ops : Array Oper} {rest : List Oper} {o : Oper} {a : Act} {Q : Exit → Act → World → Prop}
theorem wl_lenN (x : Operand) (hgd : Region.wanted o (yielded ops a.tmps) = true) (ho : o.op = .call { callee := .builtin .len, args := #[x], argTypes := #[24] }) (v : Value) (hs : List (List Nat)) (hx : a.eval x = v) (hin : HIn w0 v hs) (N : Nat) (hN : hs.length = N)
    (h : wpList Tryd.prog ops Q rest (a.put o.dst (.int .i64 (N : Nat))) w) : wpList Tryd.prog ops Q (o :: rest) a w := wl hgd _ _ (rx_len x ho v hs hx hin) (by rw [hN]; exact h)
end

set_option maxHeartbeats 1000000 in
set_option maxRecDepth 100000 in
theorem root_none (v : Value) (hs : List (List Nat)) (w : World) (hn : hs.length = 0) (h : HIn w v hs) (ht : TabIn w) (hst : StartIn w) :
    Calls Tryd.prog 16 #[v] w fun e w' => e = .returned (hv (Tree.root hs)) ∧ Below w.heap.size w w' := by
  have HN : Hid (hs.length = 0) := hn
  have HR : Hid (Tree.root hs = Sha.sha []) := Tree.root_none hs hn
  clear hn
  obtain ⟨g0, hg0⟩ : ∃ g0, g0 = w.heap.size := ⟨_, rfl⟩
  have G0 : Hid (g0 = w.heap.size) := hg0
  go_enter Tryd.func16, Tryd.ntmps16
  go_upto_region 0 with fail
  refine wp_region_lit ?_
  refine wl_alloc rfl rfl ?_
  rw [← hg0]
  intro w1 r1 s1 b1
  refine wpList_nil ?_
  have R1 : Hid (HIs w1 g0 noH ∧ Below w.heap.size w w1) := ⟨r1, hg0 ▸ b1⟩
  clear r1 s1 b1 hg0
  have sliceNil' : SliceIn w1 (.slice none 0 0) [] := ⟨none, 0, rfl, ⟨Nat.le_refl _, by decide⟩, Or.inl rfl⟩
  go_wp2_with (first
    | (refine wl_lenN (.tmp 4) rfl rfl v hs rfl h 0 HN.out ?_)
    | (go_at_call 30; refine (sum_any _ [] w1 sliceNil' (ht.later R1.out.2) (hst.later R1.out.2) (by decide)).mono ?_; rintro e w2 ⟨rfl, b2⟩; rw [show (Value.agg (bcells (Sha.sha [])).toArray) = hv (Sha.sha []) from rfl]; have R2 : Hid (HIs w2 g0 noH ∧ Below w.heap.size w w2) := ⟨R1.out.1.next b2, below_append R1.out.2 b2⟩; clear b2)
    | (refine wl_store (.tmp 2) (.tmp 8) rfl rfl rfl g0 rfl noH (Sha.sha []) (sha_isH _) rfl R2.out.1 ?_; intro w7 r7 o7 s7; have R7 : Hid (HIs w7 g0 (Sha.sha []) ∧ Below w.heap.size w w7) := ⟨r7, R2.out.2.trans (o7.below (Nat.le_of_eq G0.out.symm) R2.out.2.size)⟩; clear r7 o7 s7))
  exact bodyPost_ret (results_H Tryd.results16 _ _ g0 rfl _ R7.out.1) rfl ⟨by rw [HR.out], R7.out.2⟩
set_option maxHeartbeats 1000000 in
set_option maxRecDepth 100000 in
theorem root_one (v : Value) (hs : List (List Nat)) (w : World) (hn : hs.length = 1) (h : HIn w v hs) :
    Calls Tryd.prog 16 #[v] w fun e w' => e = .returned (hv (Tree.root hs)) ∧ Below w.heap.size w w' := by
  have HN : Hid (hs.length = 1) := hn
  have HR : Hid (Tree.root hs = hs.getD 0 []) := Tree.root_one hs hn
  have HX : Hid (IsH (hs.getD 0 [])) := h.all.at 0 (by omega)
  generalize hx : hs.getD 0 [] = x at HR HX
  have HXE : Hid (hs.getD 0 [] = x) := hx
  clear hn hx
  obtain ⟨g0, hg0⟩ : ∃ g0, g0 = w.heap.size := ⟨_, rfl⟩
  have G0 : Hid (g0 = w.heap.size) := hg0
  go_enter Tryd.func16, Tryd.ntmps16
  go_upto_region 0 with fail
  refine wp_region_lit ?_
  refine wl_alloc rfl rfl ?_
  rw [← hg0]
  intro w1 r1 s1 b1
  refine wpList_nil ?_
  have R1 : Hid (HIs w1 g0 noH ∧ Below w.heap.size w w1) := ⟨r1, hg0 ▸ b1⟩
  clear r1 s1 b1 hg0
  go_wp2_with (first
    | (refine wl_lenN (.tmp 4) rfl rfl v hs rfl h 1 HN.out ?_)
    | (refine wl_index (.tmp 11) (.const (.int .i64 0)) rfl rfl v hs rfl (h.later R1.out.2) _ 0 rfl rfl (by have := HN.out; omega) ?_; intro p hp; rw [HXE.out] at hp)
    | (refine wl_load (.tmp 12) rfl rfl p rfl x hp ?_)
    | (refine wl_store (.tmp 2) (.tmp 13) rfl rfl rfl g0 rfl noH (x) (HX.out) rfl R1.out.1 ?_; intro w7 r7 o7 s7; have R7 : Hid (HIs w7 g0 (x) ∧ Below w.heap.size w w7) := ⟨r7, R1.out.2.trans (o7.below (Nat.le_of_eq G0.out.symm) R1.out.2.size)⟩; clear r7 o7 s7))
  exact bodyPost_ret (results_H Tryd.results16 _ _ g0 rfl _ R7.out.1) rfl ⟨by rw [HR.out], R7.out.2⟩
def rootS (w : World) (g0 : Nat) (va vb : Value) (xs ys : List (List Nat)) (W : World) : Prop := HIn W va xs ∧ HIn W vb ys ∧ TabIn W ∧ StartIn W ∧ (∃ z, HIs W g0 z) ∧ Below w.heap.size w W
set_option maxHeartbeats 1000000 in
set_option maxRecDepth 100000 in
theorem root_any : ∀ (n : Nat) (v : Value) (hs : List (List Nat)) (w : World), hs.length = n → n ≤ 4611686018427387904 → HIn w v hs → TabIn w → StartIn w → 
    Calls Tryd.prog 16 #[v] w fun e w' => e = .returned (hv (Tree.root hs)) ∧ Below w.heap.size w w' := by
  intro n
  induction n using Nat.strongRecOn with
  | _ n ih =>
  intro v hs w hn hmax h ht hst
  by_cases h0 : n = 0
  · exact root_none v hs w (by omega) h ht hst
  by_cases h1 : n = 1
  · exact root_one v hs w (by omega) h
  have h2 : 2 ≤ n := by omega
  have HN : Hid (hs.length = n) := hn
  have hk := Tree.half_lt n h2
  have hkp := Tree.half_pos n
  have HR : Hid (Tree.root hs = Tree.node (Tree.root (hs.take (Tree.half n))) (Tree.root (hs.drop (Tree.half n)))) := by
    have := Tree.root_two hs (by omega)
    rwa [hn] at this
  have HK : Hid (∀ W, Calls Tryd.prog 31 #[.int .i64 (n : Nat)] W fun e w' => e = .returned (.int .i64 (Tree.half n : Nat)) ∧ W = w') := fun W => split_any n W h2 hmax
  generalize Tree.half n = k at hk hkp HR HK
  obtain ⟨va, ra, sa⟩ := run_hto h k (by omega)
  obtain ⟨vb, rb, sb⟩ := run_hfrom h k (by omega)
  have HA : Hid (∀ w', (Instr.slice 24 v none (some (.int .i64 (k : Nat))) none).run Tryd.prog w' = .ok va w') := ra
  have HBr : Hid (∀ w', (Instr.slice 24 v (some (.int .i64 (k : Nat))) none none).run Tryd.prog w' = .ok vb w') := rb
  have HSa : Hid (HIn w va (hs.take k)) := sa
  have HSb : Hid (HIn w vb (hs.drop k)) := sb
  have hne0 : ((n : Int) == 0) = false := by simpa using h0
  have hne1 : ((n : Int) == 1) = false := by simp; omega
  have hne0' : ¬ ((n : Int) = 0) := by omega
  have hne1' : ¬ ((n : Int) = 1) := by omega
  have LA : Hid ((hs.take k).length = k) := by show _ = _; rw [List.length_take]; omega
  have LB : Hid ((hs.drop k).length = n - k) := by show _ = _; rw [List.length_drop]; omega
  clear ra rb sa sb hn
  obtain ⟨g0, hg0⟩ : ∃ g0, g0 = w.heap.size := ⟨_, rfl⟩
  have G0 : Hid (g0 = w.heap.size) := hg0
  go_enter Tryd.func16, Tryd.ntmps16
  go_upto_region 0 with fail
  refine wp_region_lit ?_
  refine wl_alloc rfl rfl ?_
  rw [← hg0]
  intro w1 r1 s1 b1
  refine wpList_nil ?_
  have R1 : Hid (HIs w1 g0 noH ∧ Below w.heap.size w w1) := ⟨r1, hg0 ▸ b1⟩
  clear r1 s1 b1 hg0
  go_wp2_with (first
    | (refine wl_lenN (.tmp 4) rfl rfl v hs rfl h n HN.out ?_)
    | (refine wl_lenN (.tmp 14) rfl rfl v hs rfl h n HN.out ?_)
    | (go_at_call 31; refine (HK.out _).mono ?_; rintro e w' ⟨rfl, rfl⟩))
  refine wp_region_held (S := rootS w g0 va vb (hs.take k) (hs.drop k)) (by kernel_rfl) ?_
  show wpAnyH _ _ _ _ _ 10 (Array.replicate 10 false) _ _
  have b1 : Below w.heap.size w { w1 with drawn := w1.drawn + 1 } := below_append R1.out.2 (below_drawn w1 _)
  have hS : rootS w g0 va vb (hs.take k) (hs.drop k) { w1 with drawn := w1.drawn + 1 } := ⟨HSa.out.later b1, HSb.out.later b1, ht.later b1, hst.later b1, ⟨noH, R1.out.1⟩, b1⟩
  clear b1
  refine takeH (i := 0) (some 17) rfl rfl (by kernel_rfl) (by kernel_rfl) (by kernel_rfl) (fun _ _ _ h => h) (yMove rfl (.tmp 0) rfl (v) rfl) hS ?_
  simp only [Act.put, List.setIfInBounds_toArray, List.set_cons_succ, List.set_cons_zero]
  refine takeH (i := 1) (some 18) rfl rfl (by kernel_rfl) (by kernel_rfl) (by kernel_rfl) (fun _ _ _ h => h) (yMove rfl (.tmp 3) rfl (.int .i64 (k : Nat)) rfl) hS ?_
  simp only [Act.put, List.setIfInBounds_toArray, List.set_cons_succ, List.set_cons_zero]
  refine takeH (i := 2) (some 19) rfl rfl (by kernel_rfl) (by kernel_rfl) (by kernel_rfl) (fun _ _ _ h => h) (ySub rfl (.tmp 17) none (some (.tmp 18)) rfl v va rfl HA.out) hS ?_
  simp only [Act.put, List.setIfInBounds_toArray, List.set_cons_succ, List.set_cons_zero]
  refine takeH (i := 4) (some 21) rfl rfl (by kernel_rfl) (by kernel_rfl) (by kernel_rfl) (fun _ _ _ h => h) (yMove rfl (.tmp 0) rfl (v) rfl) hS ?_
  simp only [Act.put, List.setIfInBounds_toArray, List.set_cons_succ, List.set_cons_zero]
  refine takeH (i := 5) (some 22) rfl rfl (by kernel_rfl) (by kernel_rfl) (by kernel_rfl) (fun _ _ _ h => h) (yMove rfl (.tmp 3) rfl (.int .i64 (k : Nat)) rfl) hS ?_
  simp only [Act.put, List.setIfInBounds_toArray, List.set_cons_succ, List.set_cons_zero]
  refine takeH (i := 6) (some 23) rfl rfl (by kernel_rfl) (by kernel_rfl) (by kernel_rfl) (fun _ _ _ h => h) (ySub rfl (.tmp 21) (some (.tmp 22)) none rfl v vb rfl HBr.out) hS ?_
  simp only [Act.put, List.setIfInBounds_toArray, List.set_cons_succ, List.set_cons_zero]
  refine oneH (i := 3) (by kernel_rfl) ?_
  refine opCallA (some 20) rfl rfl rfl 16 _ (run_call en12 [.tmp 19] _ rfl [va] rfl) ?_
  refine (ih k (by omega) va (hs.take k) _ LA.out (by omega) hS.1 hS.2.2.1 hS.2.2.2.1).mono ?_
  rintro e w2 ⟨rfl, b2⟩
  have hS2 : rootS w g0 va vb (hs.take k) (hs.drop k) w2 := ⟨hS.1.later b2, hS.2.1.later b2, hS.2.2.1.later b2, hS.2.2.2.1.later b2, (hS.2.2.2.2.1.elim fun z hz => ⟨z, hz.next b2⟩), hS.2.2.2.2.2.trans (b2.mono hS.2.2.2.2.2.size)⟩
  refine ⟨_, rfl, hS2, ?_⟩
  clear hS b2
  simp only [Act.put, List.setIfInBounds_toArray, List.set_cons_succ, List.set_cons_zero]
  refine oneH (i := 7) (by kernel_rfl) ?_
  refine opCallA (some 24) rfl rfl rfl 16 _ (run_call en12 [.tmp 23] _ rfl [vb] rfl) ?_
  refine (ih (n - k) (by omega) vb (hs.drop k) _ LB.out (by omega) hS2.2.1 hS2.2.2.1 hS2.2.2.2.1).mono ?_
  rintro e w3 ⟨rfl, b3⟩
  have hS3 : rootS w g0 va vb (hs.take k) (hs.drop k) w3 := ⟨hS2.1.later b3, hS2.2.1.later b3, hS2.2.2.1.later b3, hS2.2.2.2.1.later b3, (hS2.2.2.2.2.1.elim fun z hz => ⟨z, hz.next b3⟩), hS2.2.2.2.2.2.trans (b3.mono hS2.2.2.2.2.2.size)⟩
  refine ⟨_, rfl, hS3, ?_⟩
  clear hS2 b3
  simp only [Act.put, List.setIfInBounds_toArray, List.set_cons_succ, List.set_cons_zero]
  refine oneH (i := 8) (by kernel_rfl) ?_
  refine opCallA (some 25) rfl rfl rfl 22 _ (run_call en14 [.tmp 20, .tmp 24] _ rfl [hv (Tree.root (hs.take k)), hv (Tree.root (hs.drop k))] rfl) ?_
  refine (node_any _ _ (AllH.root (h.all.take k)) (AllH.root (h.all.drop k)) w3 hS3.2.2.1 hS3.2.2.2.1).mono ?_
  rintro e w4 ⟨rfl, b4⟩
  have hS4 : rootS w g0 va vb (hs.take k) (hs.drop k) w4 := ⟨hS3.1.later b4, hS3.2.1.later b4, hS3.2.2.1.later b4, hS3.2.2.2.1.later b4, (hS3.2.2.2.2.1.elim fun z hz => ⟨z, hz.next b4⟩), hS3.2.2.2.2.2.trans (b4.mono hS3.2.2.2.2.2.size)⟩
  refine ⟨_, rfl, hS4, ?_⟩
  clear hS3 b4
  simp only [Act.put, List.setIfInBounds_toArray, List.set_cons_succ, List.set_cons_zero]
  rw [← HR.out]
  refine oneH (i := 9) (by kernel_rfl) ?_
  obtain ⟨z, hz⟩ := hS4.2.2.2.2.1
  refine opSkip rfl rfl rfl _ (rx_store (.tmp 2) (.tmp 25) rfl g0 rfl z (Tree.root hs) h.all.root rfl hz) ?_
  have R5 : Hid (HIs (w4.setRow g0 (bcells (Tree.root hs)).toArray) g0 (Tree.root hs) ∧ Below w.heap.size w (w4.setRow g0 (bcells (Tree.root hs)).toArray)) := ⟨his_store h.all.root hz, below_setRow hS4.2.2.2.2.2 (Nat.le_of_eq G0.out.symm) _⟩
  refine ⟨⟨HSa.out.later R5.out.2, HSb.out.later R5.out.2, ht.later R5.out.2, hst.later R5.out.2, ⟨_, R5.out.1⟩, R5.out.2⟩, ?_⟩
  generalize w4.setRow g0 (bcells (Tree.root hs)).toArray = w5 at R5 ⊢
  clear hS4 hz
  refine wpAnyH_done (by kernel_rfl) ?_ _
  go_wp2_with fail
  exact bodyPost_ret (results_H Tryd.results16 _ _ g0 rfl _ R5.out.1) rfl ⟨rfl, R5.out.2⟩

set_option maxHeartbeats 1000000 in
set_option maxRecDepth 100000 in
theorem refRoot_none (v : Value) (hs : List (List Nat)) (w : World) (hn : hs.length = 0) (h : HIn w v hs)  :
    Calls Tryd.prog 19 #[v] w fun e w' => e = .returned (hv (Tree.root hs)) ∧ Below w.heap.size w w' := by
  have HN : Hid (hs.length = 0) := hn
  have HR : Hid (Tree.root hs = Sha.sha []) := Tree.root_none hs hn
  clear hn
  obtain ⟨g0, hg0⟩ : ∃ g0, g0 = w.heap.size := ⟨_, rfl⟩
  have G0 : Hid (g0 = w.heap.size) := hg0
  go_enter Tryd.func19, Tryd.ntmps19
  go_upto_region 0 with fail
  refine wp_region_lit ?_
  refine wl_alloc rfl rfl ?_
  rw [← hg0]
  intro w1 r1 s1 b1
  refine wpList_nil ?_
  have R1 : Hid (HIs w1 g0 noH ∧ Below w.heap.size w w1) := ⟨r1, hg0 ▸ b1⟩
  clear r1 s1 b1 hg0
  have sliceNil' : SliceIn w1 (.slice none 0 0) [] := ⟨none, 0, rfl, ⟨Nat.le_refl _, by decide⟩, Or.inl rfl⟩
  go_wp2_with (first
    | (refine wl_lenN (.tmp 4) rfl rfl v hs rfl h 0 HN.out ?_)
    | (go_at_call 34; refine (refSum_any _ [] w1 sliceNil' (by decide)).mono ?_; rintro e w2 ⟨rfl, b2⟩; rw [show (Value.agg (bcells (Sha.sha [])).toArray) = hv (Sha.sha []) from rfl]; have R2 : Hid (HIs w2 g0 noH ∧ Below w.heap.size w w2) := ⟨R1.out.1.next b2, below_append R1.out.2 b2⟩; clear b2)
    | (refine wl_store (.tmp 2) (.tmp 7) rfl rfl rfl g0 rfl noH (Sha.sha []) (sha_isH _) rfl R2.out.1 ?_; intro w7 r7 o7 s7; have R7 : Hid (HIs w7 g0 (Sha.sha []) ∧ Below w.heap.size w w7) := ⟨r7, R2.out.2.trans (o7.below (Nat.le_of_eq G0.out.symm) R2.out.2.size)⟩; clear r7 o7 s7))
  exact bodyPost_ret (results_H Tryd.results19 _ _ g0 rfl _ R7.out.1) rfl ⟨by rw [HR.out], R7.out.2⟩
set_option maxHeartbeats 1000000 in
set_option maxRecDepth 100000 in
theorem refRoot_one (v : Value) (hs : List (List Nat)) (w : World) (hn : hs.length = 1) (h : HIn w v hs) :
    Calls Tryd.prog 19 #[v] w fun e w' => e = .returned (hv (Tree.root hs)) ∧ Below w.heap.size w w' := by
  have HN : Hid (hs.length = 1) := hn
  have HR : Hid (Tree.root hs = hs.getD 0 []) := Tree.root_one hs hn
  have HX : Hid (IsH (hs.getD 0 [])) := h.all.at 0 (by omega)
  generalize hx : hs.getD 0 [] = x at HR HX
  have HXE : Hid (hs.getD 0 [] = x) := hx
  clear hn hx
  obtain ⟨g0, hg0⟩ : ∃ g0, g0 = w.heap.size := ⟨_, rfl⟩
  have G0 : Hid (g0 = w.heap.size) := hg0
  go_enter Tryd.func19, Tryd.ntmps19
  go_upto_region 0 with fail
  refine wp_region_lit ?_
  refine wl_alloc rfl rfl ?_
  rw [← hg0]
  intro w1 r1 s1 b1
  refine wpList_nil ?_
  have R1 : Hid (HIs w1 g0 noH ∧ Below w.heap.size w w1) := ⟨r1, hg0 ▸ b1⟩
  clear r1 s1 b1 hg0
  go_wp2_with (first
    | (refine wl_lenN (.tmp 4) rfl rfl v hs rfl h 1 HN.out ?_)
    | (refine wl_lenN (.tmp 8) rfl rfl v hs rfl h 1 HN.out ?_)
    | (refine wl_index (.tmp 11) (.const (.int .i64 0)) rfl rfl v hs rfl (h.later R1.out.2) _ 0 rfl rfl (by have := HN.out; omega) ?_; intro p hp; rw [HXE.out] at hp)
    | (refine wl_load (.tmp 12) rfl rfl p rfl x hp ?_)
    | (refine wl_store (.tmp 2) (.tmp 13) rfl rfl rfl g0 rfl noH (x) (HX.out) rfl R1.out.1 ?_; intro w7 r7 o7 s7; have R7 : Hid (HIs w7 g0 (x) ∧ Below w.heap.size w w7) := ⟨r7, R1.out.2.trans (o7.below (Nat.le_of_eq G0.out.symm) R1.out.2.size)⟩; clear r7 o7 s7))
  exact bodyPost_ret (results_H Tryd.results19 _ _ g0 rfl _ R7.out.1) rfl ⟨by rw [HR.out], R7.out.2⟩
def refRootS (w : World) (g0 : Nat) (va vb : Value) (xs ys : List (List Nat)) (W : World) : Prop := HIn W va xs ∧ HIn W vb ys ∧ (∃ z, HIs W g0 z) ∧ Below w.heap.size w W
set_option maxHeartbeats 1000000 in
set_option maxRecDepth 100000 in
theorem refRoot_any : ∀ (n : Nat) (v : Value) (hs : List (List Nat)) (w : World), hs.length = n → n ≤ 4611686018427387904 → HIn w v hs → 
    Calls Tryd.prog 19 #[v] w fun e w' => e = .returned (hv (Tree.root hs)) ∧ Below w.heap.size w w' := by
  intro n
  induction n using Nat.strongRecOn with
  | _ n ih =>
  intro v hs w hn hmax h 
  by_cases h0 : n = 0
  · exact refRoot_none v hs w (by omega) h 
  by_cases h1 : n = 1
  · exact refRoot_one v hs w (by omega) h
  have h2 : 2 ≤ n := by omega
  have HN : Hid (hs.length = n) := hn
  have hk := Tree.half_lt n h2
  have hkp := Tree.half_pos n
  have HR : Hid (Tree.root hs = Tree.node (Tree.root (hs.take (Tree.half n))) (Tree.root (hs.drop (Tree.half n)))) := by
    have := Tree.root_two hs (by omega)
    rwa [hn] at this
  have HK : Hid (∀ W, Calls Tryd.prog 35 #[.int .i64 (n : Nat)] W fun e w' => e = .returned (.int .i64 (Tree.half n : Nat)) ∧ W = w') := fun W => half_any n W h2 hmax
  generalize Tree.half n = k at hk hkp HR HK
  obtain ⟨va, ra, sa⟩ := run_hto h k (by omega)
  obtain ⟨vb, rb, sb⟩ := run_hfrom h k (by omega)
  have HA : Hid (∀ w', (Instr.slice 24 v none (some (.int .i64 (k : Nat))) none).run Tryd.prog w' = .ok va w') := ra
  have HBr : Hid (∀ w', (Instr.slice 24 v (some (.int .i64 (k : Nat))) none none).run Tryd.prog w' = .ok vb w') := rb
  have HSa : Hid (HIn w va (hs.take k)) := sa
  have HSb : Hid (HIn w vb (hs.drop k)) := sb
  have hne0 : ((n : Int) == 0) = false := by simpa using h0
  have hne1 : ((n : Int) == 1) = false := by simp; omega
  have hne0' : ¬ ((n : Int) = 0) := by omega
  have hne1' : ¬ ((n : Int) = 1) := by omega
  have LA : Hid ((hs.take k).length = k) := by show _ = _; rw [List.length_take]; omega
  have LB : Hid ((hs.drop k).length = n - k) := by show _ = _; rw [List.length_drop]; omega
  clear ra rb sa sb hn
  obtain ⟨g0, hg0⟩ : ∃ g0, g0 = w.heap.size := ⟨_, rfl⟩
  have G0 : Hid (g0 = w.heap.size) := hg0
  go_enter Tryd.func19, Tryd.ntmps19
  go_upto_region 0 with fail
  refine wp_region_lit ?_
  refine wl_alloc rfl rfl ?_
  rw [← hg0]
  intro w1 r1 s1 b1
  refine wpList_nil ?_
  have R1 : Hid (HIs w1 g0 noH ∧ Below w.heap.size w w1) := ⟨r1, hg0 ▸ b1⟩
  clear r1 s1 b1 hg0
  go_wp2_with (first
    | (refine wl_lenN (.tmp 4) rfl rfl v hs rfl h n HN.out ?_)
    | (refine wl_lenN (.tmp 8) rfl rfl v hs rfl h n HN.out ?_)
    | (refine wl_lenN (.tmp 14) rfl rfl v hs rfl h n HN.out ?_)
    | (go_at_call 35; refine (HK.out _).mono ?_; rintro e w' ⟨rfl, rfl⟩))
  refine wp_region_held (S := refRootS w g0 va vb (hs.take k) (hs.drop k)) (by kernel_rfl) ?_
  show wpAnyH _ _ _ _ _ 10 (Array.replicate 10 false) _ _
  have b1 : Below w.heap.size w { w1 with drawn := w1.drawn + 1 } := below_append R1.out.2 (below_drawn w1 _)
  have hS : refRootS w g0 va vb (hs.take k) (hs.drop k) { w1 with drawn := w1.drawn + 1 } := ⟨HSa.out.later b1, HSb.out.later b1, ⟨noH, R1.out.1⟩, b1⟩
  clear b1
  refine takeH (i := 0) (some 17) rfl rfl (by kernel_rfl) (by kernel_rfl) (by kernel_rfl) (fun _ _ _ h => h) (yMove rfl (.tmp 0) rfl (v) rfl) hS ?_
  simp only [Act.put, List.setIfInBounds_toArray, List.set_cons_succ, List.set_cons_zero]
  refine takeH (i := 1) (some 18) rfl rfl (by kernel_rfl) (by kernel_rfl) (by kernel_rfl) (fun _ _ _ h => h) (yMove rfl (.tmp 3) rfl (.int .i64 (k : Nat)) rfl) hS ?_
  simp only [Act.put, List.setIfInBounds_toArray, List.set_cons_succ, List.set_cons_zero]
  refine takeH (i := 2) (some 19) rfl rfl (by kernel_rfl) (by kernel_rfl) (by kernel_rfl) (fun _ _ _ h => h) (ySub rfl (.tmp 17) none (some (.tmp 18)) rfl v va rfl HA.out) hS ?_
  simp only [Act.put, List.setIfInBounds_toArray, List.set_cons_succ, List.set_cons_zero]
  refine takeH (i := 4) (some 21) rfl rfl (by kernel_rfl) (by kernel_rfl) (by kernel_rfl) (fun _ _ _ h => h) (yMove rfl (.tmp 0) rfl (v) rfl) hS ?_
  simp only [Act.put, List.setIfInBounds_toArray, List.set_cons_succ, List.set_cons_zero]
  refine takeH (i := 5) (some 22) rfl rfl (by kernel_rfl) (by kernel_rfl) (by kernel_rfl) (fun _ _ _ h => h) (yMove rfl (.tmp 3) rfl (.int .i64 (k : Nat)) rfl) hS ?_
  simp only [Act.put, List.setIfInBounds_toArray, List.set_cons_succ, List.set_cons_zero]
  refine takeH (i := 6) (some 23) rfl rfl (by kernel_rfl) (by kernel_rfl) (by kernel_rfl) (fun _ _ _ h => h) (ySub rfl (.tmp 21) (some (.tmp 22)) none rfl v vb rfl HBr.out) hS ?_
  simp only [Act.put, List.setIfInBounds_toArray, List.set_cons_succ, List.set_cons_zero]
  refine oneH (i := 3) (by kernel_rfl) ?_
  refine opCallA (some 20) rfl rfl rfl 19 _ (run_call en13 [.tmp 19] _ rfl [va] rfl) ?_
  refine (ih k (by omega) va (hs.take k) _ LA.out (by omega) hS.1 ).mono ?_
  rintro e w2 ⟨rfl, b2⟩
  have hS2 : refRootS w g0 va vb (hs.take k) (hs.drop k) w2 := ⟨hS.1.later b2, hS.2.1.later b2, (hS.2.2.1.elim fun z hz => ⟨z, hz.next b2⟩), hS.2.2.2.trans (b2.mono hS.2.2.2.size)⟩
  refine ⟨_, rfl, hS2, ?_⟩
  clear hS b2
  simp only [Act.put, List.setIfInBounds_toArray, List.set_cons_succ, List.set_cons_zero]
  refine oneH (i := 7) (by kernel_rfl) ?_
  refine opCallA (some 24) rfl rfl rfl 19 _ (run_call en13 [.tmp 23] _ rfl [vb] rfl) ?_
  refine (ih (n - k) (by omega) vb (hs.drop k) _ LB.out (by omega) hS2.2.1 ).mono ?_
  rintro e w3 ⟨rfl, b3⟩
  have hS3 : refRootS w g0 va vb (hs.take k) (hs.drop k) w3 := ⟨hS2.1.later b3, hS2.2.1.later b3, (hS2.2.2.1.elim fun z hz => ⟨z, hz.next b3⟩), hS2.2.2.2.trans (b3.mono hS2.2.2.2.size)⟩
  refine ⟨_, rfl, hS3, ?_⟩
  clear hS2 b3
  simp only [Act.put, List.setIfInBounds_toArray, List.set_cons_succ, List.set_cons_zero]
  refine oneH (i := 8) (by kernel_rfl) ?_
  refine opCallA (some 25) rfl rfl rfl 36 _ (run_call en15 [.tmp 20, .tmp 24] _ rfl [hv (Tree.root (hs.take k)), hv (Tree.root (hs.drop k))] rfl) ?_
  refine (refNode_any _ _ (AllH.root (h.all.take k)) (AllH.root (h.all.drop k)) w3).mono ?_
  rintro e w4 ⟨rfl, b4⟩
  have hS4 : refRootS w g0 va vb (hs.take k) (hs.drop k) w4 := ⟨hS3.1.later b4, hS3.2.1.later b4, (hS3.2.2.1.elim fun z hz => ⟨z, hz.next b4⟩), hS3.2.2.2.trans (b4.mono hS3.2.2.2.size)⟩
  refine ⟨_, rfl, hS4, ?_⟩
  clear hS3 b4
  simp only [Act.put, List.setIfInBounds_toArray, List.set_cons_succ, List.set_cons_zero]
  rw [← HR.out]
  refine oneH (i := 9) (by kernel_rfl) ?_
  obtain ⟨z, hz⟩ := hS4.2.2.1
  refine opSkip rfl rfl rfl _ (rx_store (.tmp 2) (.tmp 25) rfl g0 rfl z (Tree.root hs) h.all.root rfl hz) ?_
  have R5 : Hid (HIs (w4.setRow g0 (bcells (Tree.root hs)).toArray) g0 (Tree.root hs) ∧ Below w.heap.size w (w4.setRow g0 (bcells (Tree.root hs)).toArray)) := ⟨his_store h.all.root hz, below_setRow hS4.2.2.2 (Nat.le_of_eq G0.out.symm) _⟩
  refine ⟨⟨HSa.out.later R5.out.2, HSb.out.later R5.out.2, ⟨_, R5.out.1⟩, R5.out.2⟩, ?_⟩
  generalize w4.setRow g0 (bcells (Tree.root hs)).toArray = w5 at R5 ⊢
  clear hS4 hz
  refine wpAnyH_done (by kernel_rfl) ?_ _
  go_wp2_with fail
  exact bodyPost_ret (results_H Tryd.results19 _ _ g0 rfl _ R5.out.1) rfl ⟨rfl, R5.out.2⟩
end Go.Proofs.YtjdmpanemdhbbaaDoor

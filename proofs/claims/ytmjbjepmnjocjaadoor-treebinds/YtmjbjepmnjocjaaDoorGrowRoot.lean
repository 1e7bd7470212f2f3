/- The walk of Grow.Root. -/
import Derived.Test.YtmjbjepmnjocjaaDoorGrowMem
namespace Go.Proofs.YtmjbjepmnjocjaaDoor
open Go.RowKit

theorem i64_and1 (n : Int) : bits .and .i64 n 1 = n % 2 := by
  have h1 : (BitVec.ofInt 64 1).toNat = 2 ^ 1 - 1 := by decide
  have key : (BitVec.ofInt 64 n &&& BitVec.ofInt 64 1).toNat = (n % ((2 ^ 64 : Nat) : Int)).toNat % 2 ^ 1 := by
    rw [BitVec.toNat_and, BitVec.toNat_ofInt, h1, Nat.and_two_pow_sub_one_eq_mod]
  show IntKind.i64.wrap ((BitVec.ofInt 64 n &&& BitVec.ofInt 64 1).toNat : Nat) = n % 2
  rw [key, IntKind.wrap_i64]
  omega
set_option maxHeartbeats 1000000 in
set_option maxRecDepth 100000 in
theorem growRoot_none (g : Nat) (v : Value) (hs : List (List Nat)) (w : World) (h : GrowAt w g v hs) (ht : TabIn w) (hst : StartIn w) (hn : hs.length = 0) :
    Calls Tryd.prog 23 #[.pointer (some ⟨g, 0, none⟩)] w fun e w' => e = .returned (hv (Tree.root hs)) ∧ Below w.heap.size w w' := by
  have h0 := h.len
  rw [hn] at h0
  have HR : Hid (Tree.root hs = Tree.root []) := by
    have : hs = [] := List.length_eq_zero_iff.1 hn
    show _ = _
    rw [this]
  clear hn h
  obtain ⟨g0, hg0⟩ : ∃ g0, g0 = w.heap.size := ⟨_, rfl⟩
  have G0 : Hid (g0 = w.heap.size) := hg0
  go_enter Tryd.func23, Tryd.ntmps23
  go_upto_region 0 with fail
  refine wp_region_lit ?_
  refine wl_alloc rfl rfl ?_
  rw [← hg0]
  intro w1 r1 s1 b1
  refine wpList_nil ?_
  have R1 : Hid (HIs w1 g0 noH ∧ Below w.heap.size w w1) := ⟨r1, hg0 ▸ b1⟩
  have h1 : w1.cell? ⟨g, 0, none⟩ = some (.int .i64 0) := cell_later R1.out.2 h0
  clear r1 s1 b1 hg0 h0
  go_wp2_with (first
    | (go_at_call 12; refine (root_any 0 (.slice none 0 0) [] w1 rfl (by decide) (HIn.nil w1) (ht.later R1.out.2) (hst.later R1.out.2)).mono ?_; rintro e w2 ⟨rfl, b2⟩; have R2 : Hid (HIs w2 g0 noH ∧ Below w.heap.size w w2) := ⟨R1.out.1.next b2, below_append R1.out.2 b2⟩; clear b2)
    | (refine wl_store (.tmp 2) (.tmp 11) rfl rfl rfl g0 rfl noH (Tree.root []) (AllH.root AllH.nil) rfl R2.out.1 ?_; intro w7 r7 o7 s7; have R7 : Hid (HIs w7 g0 (Tree.root []) ∧ Below w.heap.size w w7) := ⟨r7, R2.out.2.trans (o7.below (Nat.le_of_eq G0.out.symm) R2.out.2.size)⟩; clear r7 o7 s7 R2))
  exact bodyPost_ret (results_H Tryd.results23 _ _ g0 rfl _ R7.out.1) rfl ⟨by rw [HR.out], R7.out.2⟩

/-- where the loop stands -/
def RootTo (w W : World) (g gr n : Nat) (v : Value) (r : List Nat) : Prop := Row W g 53 [.int .i64 (n : Nat), v] ∧ HIs W gr r ∧ Below w.heap.size w W
set_option maxHeartbeats 2000000 in
set_option maxRecDepth 100000 in
theorem growRoot_some (g : Nat) (v : Value) (hs : List (List Nat)) (n q : Nat) (w : World) (h : GrowAt w g v hs) (ht : TabIn w) (hst : StartIn w) (hn : hs.length = n) (hpos : 0 < n) (hmax : n ≤ 1099511627776) (hq : (Tree.peaks hs).length = q + 1) :
    Calls Tryd.prog 23 #[.pointer (some ⟨g, 0, none⟩)] w fun e w' => e = .returned (hv (Tree.root hs)) ∧ Below w.heap.size w w' := by
  have HR : Hid (Tree.root hs = Tree.fold (Tree.peaks hs)) := (Tree.fold_peaks _ hs rfl).symm
  have hq40 : q + 1 ≤ 41 := by
    have := Tree.peaks_length 41 hs (by rw [hn]; omega)
    omega
  have hglt := h.2.1.lt
  have HW : Hid (Row w g 53 [.int .i64 (n : Nat), v] ∧ HIn w v (Tree.peaks hs)) := ⟨by have := h.2.1; rwa [hn] at this, h.2.2.1.hin⟩
  have HPA : Hid (AllH (Tree.peaks hs)) := h.1.peaks
  clear h hn
  generalize Tree.peaks hs = ps at hq HR HW HPA
  have HQ : Hid (ps.length = q + 1) := hq
  have HL : Hid (Tree.fold (ps.drop q) = ps.getD q []) := Tree.fold_last ps q hq.symm
  clear hq
  have hne0 : ((n : Int) == 0) = false := by simp; omega
  have hne0' : ¬ (n : Int) = 0 := by omega
  obtain ⟨g0, hg0⟩ : ∃ g0, g0 = w.heap.size := ⟨_, rfl⟩
  have G0 : Hid (g0 = w.heap.size) := hg0
  go_enter Tryd.func23, Tryd.ntmps23
  go_upto_region 0 with fail
  refine wp_region_lit ?_
  refine wl_alloc rfl rfl ?_
  rw [← hg0]
  intro w1 r1 s1 b1
  refine wpList_nil ?_
  have R1 : Hid (HIs w1 g0 noH ∧ w1.heap.size = g0 + 1 ∧ Below w.heap.size w w1) := ⟨r1, s1, hg0 ▸ b1⟩
  have c0 : w1.cell? ⟨g, 0, none⟩ = some (.int .i64 (n : Nat)) := cell_later R1.out.2.2 (HW.out.1.at 0 _ rfl)
  have c1 : w1.cell? ⟨g, 1, none⟩ = some v := cell_later R1.out.2.2 (HW.out.1.at 1 _ rfl)
  clear r1 s1 b1 hg0
  obtain ⟨r0, hr0⟩ : ∃ r0, r0 = Tree.fold (ps.drop q) := ⟨_, rfl⟩
  have HX : Hid (ps.getD q [] = r0) := by rw [hr0]; exact HL.out.symm
  have HE : Hid (r0 = Tree.fold (ps.drop q)) := hr0
  clear hr0
  go_wp2_with (first
    | (refine wl_lenN (.tmp 15) rfl rfl v ps rfl HW.out.2 (q + 1) HQ.out ?_)
    | (refine wl_index (.tmp 21) (.tmp 22) rfl rfl v ps rfl (HW.out.2.later R1.out.2.2) _ q rfl (by omega) (by have := HQ.out; omega) ?_; intro p hp; rw [HX.out] at hp)
    | (refine wl_load (.tmp 23) rfl rfl p rfl r0 hp ?_)
    | (refine wl_new rfl rfl rfl rfl rfl (.tmp 24) rfl r0 hp.1 (fun _ => rfl) (fun _ => rfl) ?_; rw [R1.out.2.1]; intro w2 r2 s2 b2; have R2 : Hid (RootTo w w2 g (g0 + 1) n v r0 ∧ HIs w2 g0 noH) := ⟨⟨HW.out.1.later (below_append R1.out.2.2 (R1.out.2.1 ▸ b2)) hglt, r2, below_append R1.out.2.2 (R1.out.2.1 ▸ b2)⟩, R1.out.1.later b2 (by omega)⟩; clear r2 s2 b2))
  go_loopw [5] (fun i W => ∃ j : Nat, j ≤ q ∧ i = .int .i64 ((j : Int) - 1) ∧ RootTo w W g (g0 + 1) n v (Tree.fold (ps.drop j)) ∧ HIs W g0 noH) (fun i _ => (intOf i + 1).toNat)
  case atStart => exact ⟨q, Nat.le_refl _, by go_num, by rw [← HE.out]; exact R2.out.1, R2.out.2⟩
  case round =>
    clear R1 R2 c0 c1
    obtain ⟨j, hj, rfl, hr, hb⟩ := hrel
    by_cases h0 : j = 0
    · subst h0
      rw [List.drop_zero, ← HR.out] at hr
      have R5 : Hid (HIs wr (g0 + 1) (Tree.root hs) ∧ HIs wr g0 noH ∧ Below w.heap.size w wr) := ⟨hr.2.1, hb, hr.2.2⟩
      clear hr hb
      go_wp2_with (first
        | (refine wl_load (.tmp 4) rfl rfl (.pointer (some ⟨g0 + 1, 0, none⟩)) rfl (Tree.root hs) R5.out.1.at ?_)
        | (refine wl_store (.tmp 2) (.tmp 40) rfl rfl rfl g0 rfl noH (Tree.root hs) R5.out.1.1 rfl R5.out.2.1 ?_; intro w7 r7 o7 s7; have R7 : Hid (HIs w7 g0 (Tree.root hs) ∧ Below w.heap.size w w7) := ⟨r7, R5.out.2.2.trans (o7.below (Nat.le_of_eq G0.out.symm) R5.out.2.2.size)⟩; clear r7 o7 s7))
      exact bodyPost_ret (results_H Tryd.results23 _ _ g0 rfl _ R7.out.1) rfl ⟨rfl, R7.out.2⟩
    · obtain ⟨t, rfl⟩ : ∃ t, j = t + 1 := ⟨j - 1, by omega⟩
      have HF0 : Tree.fold (ps.drop t) = Tree.node (ps.getD t []) (Tree.fold (ps.drop (t + 1))) := Tree.fold_drop ps t (by have := HQ.out; omega)
      obtain ⟨p, hp1, hp2⟩ := run_hindex (HW.out.2.later hr.2.2) t (by have := HQ.out; omega)
      have HF : Hid (Tree.fold (ps.drop t) = Tree.node (ps.getD t []) (Tree.fold (ps.drop (t + 1)))) := HF0
      have HP : Hid ((∀ w', (Instr.indexAt 24 v (.int .i64 (t : Nat))).run Tryd.prog w' = .ok p w') ∧ HAt wr p (ps.getD t [])) := ⟨hp1, hp2⟩
      have HI : Hid (RootTo w wr g (g0 + 1) n v (Tree.fold (ps.drop (t + 1))) ∧ HIs wr g0 noH) := ⟨hr, hb⟩
      clear hr hb hp1 hp2 HF0
      generalize ps.getD t [] = y at HF HP
      generalize Tree.fold (ps.drop (t + 1)) = r at HF HI
      rw [show ((t + 1 : Nat) : Int) - 1 = (t : Int) by omega]
      go_wp2_with fail
      refine wp_region_until (S := fun W => Row W g 53 [.int .i64 (n : Nat), v] ∧ HAt W p y ∧ HIs W (g0 + 1) r) 9 (by kernel_rfl) ?_
      show wpAnyU _ _ _ _ _ _ 10 (Array.replicate 10 false) _ _
      have hS : Row { wr with drawn := wr.drawn + 1 } g 53 [.int .i64 (n : Nat), v] ∧ HAt { wr with drawn := wr.drawn + 1 } p y ∧ HIs { wr with drawn := wr.drawn + 1 } (g0 + 1) r := ⟨HI.out.1.1, HP.out.2, HI.out.1.2.1⟩
      have bd : Below w.heap.size w { wr with drawn := wr.drawn + 1 } := below_append HI.out.1.2.2 (below_drawn wr _)
      refine takeU (i := 0) (some 31) rfl rfl (by kernel_rfl) (by kernel_rfl) (by kernel_rfl) (by kernel_rfl) (by kernel_rfl) (fun _ _ _ h => h) (yMove rfl (.tmp 0) rfl (.pointer (some ⟨g, 0, none⟩)) rfl) hS ?_
      simp only [Act.put, List.setIfInBounds_toArray, List.set_cons_succ, List.set_cons_zero]
      refine takeU (i := 1) (some 32) rfl rfl (by kernel_rfl) (by kernel_rfl) (by kernel_rfl) (by kernel_rfl) (by kernel_rfl) (fun _ _ _ h => h) (yRun rfl _ (fun _ _ => rx_nil (.tmp 31) rfl ⟨g, 0, none⟩ rfl)) hS ?_
      simp only [Act.put, List.setIfInBounds_toArray, List.set_cons_succ, List.set_cons_zero]
      refine takeU (i := 2) (some 33) rfl rfl (by kernel_rfl) (by kernel_rfl) (by kernel_rfl) (by kernel_rfl) (by kernel_rfl) (fun _ _ _ h => h) (yRun rfl _ (fun _ _ => rx_field f53_1 (.tmp 32) rfl g 0 rfl)) hS ?_
      simp only [Act.put, List.setIfInBounds_toArray, List.set_cons_succ, List.set_cons_zero]
      refine takeU (i := 3) (some 34) rfl rfl (by kernel_rfl) (by kernel_rfl) (by kernel_rfl) (by kernel_rfl) (by kernel_rfl) (fun _ _ _ h => h) (yRun rfl _ (fun W hW => rx_load1 one24 (.tmp 33) rfl g (0 + 1) rfl v (hW.1.at 1 v rfl))) hS ?_
      simp only [Act.put, List.setIfInBounds_toArray, List.set_cons_succ, List.set_cons_zero]
      refine takeU (i := 4) (some 35) rfl rfl (by kernel_rfl) (by kernel_rfl) (by kernel_rfl) (by kernel_rfl) (by kernel_rfl) (fun _ _ _ h => h) (yMove rfl (.tmp 5) rfl (.int .i64 (t : Nat)) rfl) hS ?_
      simp only [Act.put, List.setIfInBounds_toArray, List.set_cons_succ, List.set_cons_zero]
      refine takeU (i := 5) (some 36) rfl rfl (by kernel_rfl) (by kernel_rfl) (by kernel_rfl) (by kernel_rfl) (by kernel_rfl) (fun _ _ _ h => h) (yIndex rfl (.tmp 34) (.tmp 35) rfl v p rfl _ rfl HP.out.1) hS ?_
      simp only [Act.put, List.setIfInBounds_toArray, List.set_cons_succ, List.set_cons_zero]
      refine takeU (i := 6) (some 37) rfl rfl (by kernel_rfl) (by kernel_rfl) (by kernel_rfl) (by kernel_rfl) (by kernel_rfl) (fun _ _ _ h => h) (yLoad rfl (.tmp 36) rfl p rfl y (fun _ h => h.2.1)) hS ?_
      simp only [Act.put, List.setIfInBounds_toArray, List.set_cons_succ, List.set_cons_zero]
      refine takeU (i := 7) (some 38) rfl rfl (by kernel_rfl) (by kernel_rfl) (by kernel_rfl) (by kernel_rfl) (by kernel_rfl) (fun _ _ _ h => h) (yLoad rfl (.tmp 4) rfl (.pointer (some ⟨g0 + 1, 0, none⟩)) rfl r (fun _ h => h.2.2.at)) hS ?_
      simp only [Act.put, List.setIfInBounds_toArray, List.set_cons_succ, List.set_cons_zero]
      refine oneU (i := 8) (by kernel_rfl) ?_
      refine opCallA (some 39) rfl rfl rfl 14 _ (run_call en14 [.tmp 37, .tmp 38] _ rfl [hv y, hv r] rfl) ?_
      refine (node_any y r HP.out.2.1 HI.out.1.2.1.1 _ (ht.later bd) (hst.later bd)).mono ?_
      rintro e w2 ⟨rfl, b2⟩
      refine ⟨_, rfl, fun _ => ⟨hS.1.later b2 hS.1.lt, hS.2.1.later b2, hS.2.2.next b2⟩, ?_⟩
      have P2 : Hid (RootTo w w2 g (g0 + 1) n v r ∧ HIs w2 g0 noH) := ⟨⟨hS.1.later b2 hS.1.lt, hS.2.2.next b2, below_append bd b2⟩, HI.out.2.next (below_append (below_drawn wr _) b2)⟩
      clear hS b2 bd
      simp only [Act.put, List.setIfInBounds_toArray, List.set_cons_succ, List.set_cons_zero]
      refine oneU (i := 9) (by kernel_rfl) ?_
      refine opSkip rfl rfl rfl _ (rx_store (.tmp 4) (.tmp 39) rfl (g0 + 1) rfl r (Tree.node y r) (node_isH _ _) rfl P2.out.1.2.1) ?_
      have o3 : Only (g0 + 1) w2 (w2.setRow (g0 + 1) (bcells (Tree.node y r)).toArray) := (Only.refl (g0 + 1) w2).setRow _
      have P3 : Hid (RootTo w (w2.setRow (g0 + 1) (bcells (Tree.node y r)).toArray) g (g0 + 1) n v (Tree.node y r) ∧ HIs (w2.setRow (g0 + 1) (bcells (Tree.node y r)).toArray) g0 noH) := ⟨⟨o3.row (by have := G0.out; omega) P2.out.1.1, his_store (node_isH _ _) P2.out.1.2.1, P2.out.1.2.2.trans (o3.below (by have := G0.out; omega) P2.out.1.2.2.size)⟩, P2.out.2.other o3 (by omega)⟩
      refine ⟨fun h => absurd h (by decide), ?_⟩
      generalize w2.setRow (g0 + 1) (bcells (Tree.node y r)).toArray = w3 at P3 ⊢
      clear o3 P2
      refine wpAnyU_done (by kernel_rfl) ?_ _
      go_wp2_with fail
      exact ⟨⟨t, by omega, by go_num, by rw [HF.out]; exact P3.out.1, P3.out.2⟩, by simp [intOf]⟩

theorem growRoot_any (g : Nat) (v : Value) (hs : List (List Nat)) (w : World) (h : GrowAt w g v hs) (ht : TabIn w) (hst : StartIn w) (hmax : hs.length ≤ 1099511627776) :
    Calls Tryd.prog 23 #[.pointer (some ⟨g, 0, none⟩)] w fun e w' => e = .returned (hv (Tree.root hs)) ∧ Below w.heap.size w w' := by
  by_cases h0 : hs.length = 0
  · exact growRoot_none g v hs w h ht hst h0
  · have hne := Tree.peaks_ne hs h0
    obtain ⟨q, hq⟩ : ∃ q, (Tree.peaks hs).length = q + 1 := ⟨(Tree.peaks hs).length - 1, by have := List.length_pos_iff.2 hne; omega⟩
    exact growRoot_some g v hs hs.length q w h ht hst rfl (by omega) hmax hq
end Go.Proofs.YtmjbjepmnjocjaaDoor

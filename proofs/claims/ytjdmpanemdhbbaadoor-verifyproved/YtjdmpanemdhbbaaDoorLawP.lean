/- The law VerifyProved, walked out of its callees' contracts. -/
import Derived.Test.YtjdmpanemdhbbaaDoorArith
import Derived.Test.YtjdmpanemdhbbaaDoorShown
namespace Go.Proofs.YtjdmpanemdhbbaaDoor
open Go.RowKit

set_option maxHeartbeats 2000000 in
set_option maxRecDepth 100000 in
theorem proved_many (v : Value) (L : List (List Nat)) (m : Int) (w : World) (h : ListIn w v L) (ht : TabIn w) (hst : StartIn w) (hN : 300 < L.length) :
    Calls Tryd.prog 5 #[v, .int .i64 m] w fun e w' => e = .returned (.bool true) ∧ Below w.heap.size w w' := by
  obtain ⟨N, hN'⟩ : ∃ N, L.length = N := ⟨_, rfl⟩
  have HN : Hid (L.length = N) := hN'
  have hbig : (300 : Int) < (N : Int) := by omega
  clear hN hN'
  go_enter Tryd.func5, Tryd.ntmps5
  go_wp2_with (first
    | (go_at_call 9; refine (shown_any w ht hst).mono ?_; rintro e w1 ⟨rfl, b1⟩; have R1 : Hid (Below w.heap.size w w1) := b1; clear b1)
    | (refine wl_rlen (.tmp 16) rfl rfl v L rfl h N HN.out ?_))
  go_ret
  exact ⟨rfl, R1.out⟩

set_option maxHeartbeats 16000000 in
set_option maxRecDepth 100000 in
theorem proved_pos (v : Value) (L : List (List Nat)) (M : Nat) (w : World) (h : ListIn w v L) (ht : TabIn w) (hst : StartIn w) (hN : L.length ≤ 300) (hM : M ≤ 9223372036854775807) (hL : ∀ c ∈ L, c.length ≤ 140737488351232) :
    Calls Tryd.prog 5 #[v, .int .i64 (M : Nat)] w fun e w' => e = .returned (.bool true) ∧ Below w.heap.size w w' := by
  obtain ⟨N, hN'⟩ : ∃ N, L.length = N := ⟨_, rfl⟩
  have HN : Hid (L.length = N) := hN'
  have hsmall : ¬ (300 : Int) < (N : Int) := by omega
  have HL : Hid (∀ c ∈ L, c.length + 1024 ≤ 140737488355328) := fun c hc => by have := hL c hc; omega
  have hN3 : N ≤ 300 := by omega
  have hneg : ¬ (M : Int) < 0 := by omega
  clear hN hN' hL
  go_enter Tryd.func5, Tryd.ntmps5
  go_wp2_with (first
    | (go_at_call 9; refine (shown_any w ht hst).mono ?_; rintro e w1 ⟨rfl, b1⟩; have R1 : Hid (Below w.heap.size w w1) := b1; clear b1)
    | (refine wl_rlen (.tmp 16) rfl rfl v L rfl h N HN.out ?_)
    | (go_at_call 15; refine (leaves_any v L w1 (h.later R1.out) (by have := HN.out; omega) HL.out).mono ?_; rintro e w2 ⟨vl, rfl, o2, b2⟩; have R2 : Hid (HIn w2 vl (L.map Tree.leaf) ∧ Below w.heap.size w w2 ∧ (L.map Tree.leaf).length = N) := ⟨o2.hin, below_append R1.out b2, (leafs_length L).trans HN.out⟩; clear o2 b2; generalize L.map Tree.leaf = hs at R2)
    | (refine wl_lenN (.tmp 22) rfl rfl vl hs rfl R2.out.1 N R2.out.2.2 ?_)
    | (refine wl_neg (.tmp 27) rfl rfl _ rfl M (by omega) hM ?_)
    | (refine wl_rem (.tmp 29) (.tmp 31) rfl rfl M (N + 1) rfl rfl (by omega) ?_))
  obtain ⟨K, hK, hKN⟩ : ∃ K : Nat, (M : Int) % ((N : Int) + 1) = (K : Int) ∧ K ≤ N := ⟨M % (N + 1), by rw [Int.natCast_emod]; rfl, by have := Nat.mod_lt M (show 0 < N + 1 by omega); omega⟩
  rw [hK]
  clear hK
  refine (root_any N vl hs w2 R2.out.2.2 (by omega) R2.out.1 (ht.later R2.out.2.1) (hst.later R2.out.2.1)).mono ?_
  rintro e w3 ⟨rfl, b3⟩
  have R3 : Hid (HIn w3 vl hs ∧ Below w.heap.size w w3 ∧ hs.length = N ∧ IsH (Tree.root hs)) := ⟨R2.out.1.later b3, below_append R2.out.2.1 b3, R2.out.2.2, R2.out.1.all.root⟩
  have HCO : Hid (Tree.consOk (K : Nat) (N : Nat) (Tree.root (hs.take K)) (Tree.root hs) (consAns hs K) = true ∧ consErr hs K = 0 ∧ (consAns hs K).length ≤ 1000) := ⟨consOk_ans hs K N R2.out.2.2 hKN, consErr_nat hs K (by have := R2.out.2.2; omega), by
    unfold consAns
    split
    · have := Tree.part_length 9 hs (K : Int).toNat true (by have := R2.out.2.2; omega)
      omega
    · simp⟩
  have HIO : Hid (K < N → Tree.inclOk (hs.getD K []) (K : Nat) (N : Nat) (Tree.incl hs K) (Tree.root hs) = true ∧ inclAns hs K = Tree.incl hs K ∧ inclErr hs K = 0) := fun hk => ⟨by rw [Tree.inclOk_incl hs K N R2.out.2.2 hk]; exact decide_eq_true rfl, inclAns_nat hs K (by have := R2.out.2.2; omega)⟩
  clear b3 R2
  obtain ⟨rt, hrt⟩ : ∃ rt, rt = Tree.root hs := ⟨_, rfl⟩
  rw [← hrt] at R3 HCO HIO ⊢
  clear hrt
  by_cases hlt : K < N
  · have hlt' : (K : Int) < (N : Int) := by omega
    go_wp2_with (first
      | (refine wl_new rfl rfl rfl rfl rfl (.tmp 34) rfl rt R3.out.2.2.2 (fun _ => rfl) (fun _ => rfl) ?_; intro w4 r4 s4 b4; have R4 : Hid (HIn w4 vl hs ∧ Below w.heap.size w w4 ∧ hs.length = N ∧ HIs w4 w3.heap.size rt) := ⟨R3.out.1.later b4, below_append R3.out.2.1 b4, R3.out.2.2.1, r4⟩; clear r4 s4 b4; generalize w3.heap.size = gr at R4 ⊢))
    obtain ⟨pa, rp, sp⟩ := run_hindex R4.out.1 K (by have := R4.out.2.2.1; omega)
    have HIO2 : Hid (Tree.inclOk (hs.getD K []) (K : Nat) (N : Nat) (Tree.incl hs K) rt = true ∧ inclAns hs K = Tree.incl hs K ∧ inclErr hs K = 0) := HIO.out hlt
    have HPA : Hid (∀ w', (Instr.indexAt 24 vl (.int .i64 (K : Nat))).run Tryd.prog w' = .ok pa w') := rp
    obtain ⟨x, hx⟩ : ∃ x, x = hs.getD K [] := ⟨_, rfl⟩
    rw [← hx] at sp HIO2
    have HPX : Hid (HAt w4 pa x ∧ IsH x) := ⟨sp, sp.1⟩
    clear rp sp hx HIO
    go_wp2_with fail
    refine (incl_any vl hs (K : Nat) w4 R4.out.1 (ht.later R4.out.2.1) (hst.later R4.out.2.1) (by have := R4.out.2.2.1; omega)).mono ?_
    rintro e w5 ⟨vp, rfl, o5, b5⟩
    rw [HIO2.out.2.1] at o5
    rw [HIO2.out.2.2]
    generalize Tree.incl hs K = P0 at HIO2 o5
    have R5 : Hid ((HIn w5 vl hs ∧ Below w.heap.size w w5 ∧ hs.length = N ∧ HIs w5 gr rt) ∧ HIn w5 vp P0 ∧ HAt w5 pa x) := ⟨⟨R4.out.1.later b5, below_append R4.out.2.1 b5, R4.out.2.2.1, R4.out.2.2.2.next b5⟩, o5.hin, HPX.out.1.later b5⟩
    clear o5 b5
    go_wp2_with fail
    refine wp_region_held (S := fun W => Below w5.heap.size w5 W) (by kernel_rfl) ?_
    show wpAnyH _ _ _ _ _ 14 (Array.replicate 14 false) _ _
    have hS : Below w5.heap.size w5 { w5 with drawn := w5.drawn + 1 } := below_drawn w5 _
    refine takeH (i := 0) (some 44) rfl rfl (by kernel_rfl) (by kernel_rfl) (by kernel_rfl) (fun _ _ _ h => h) (yMoveW rfl (.tmp 10) rfl (.int .i64 0) rfl) hS ?_
    simp only [Act.put, List.setIfInBounds_toArray, List.set_cons_succ, List.set_cons_zero]
    refine takeH (i := 1) (some 45) rfl rfl (by kernel_rfl) (by kernel_rfl) (by kernel_rfl) (fun _ _ _ h => h) (yNeI rfl (.tmp 44) (.const (.int .i64 0)) rfl 0 0 rfl rfl false (by decide)) hS ?_
    simp only [Act.put, List.setIfInBounds_toArray, List.set_cons_succ, List.set_cons_zero]
    refine takeH (i := 2) (some 46) rfl rfl (by kernel_rfl) (by kernel_rfl) (by kernel_rfl) (fun _ _ _ h => h) (yMoveW rfl (.tmp 45) rfl (.bool false) rfl) hS ?_
    simp only [Act.put, List.setIfInBounds_toArray, List.set_cons_succ, List.set_cons_zero]
    refine takeH (i := 3) (some 47) rfl rfl (by kernel_rfl) (by kernel_rfl) (by kernel_rfl) (fun _ _ _ h => h) (yMoveW rfl (.tmp 6) rfl (vl) rfl) hS ?_
    simp only [Act.put, List.setIfInBounds_toArray, List.set_cons_succ, List.set_cons_zero]
    refine takeH (i := 4) (some 48) rfl rfl (by kernel_rfl) (by kernel_rfl) (by kernel_rfl) (fun _ _ _ h => h) (yMoveW rfl (.tmp 1) rfl (.int .i64 (K : Nat)) rfl) hS ?_
    simp only [Act.put, List.setIfInBounds_toArray, List.set_cons_succ, List.set_cons_zero]
    refine takeH (i := 5) (some 49) rfl rfl (by kernel_rfl) (by kernel_rfl) (by kernel_rfl) (fun _ _ _ h => h) (yRunW rfl pa (fun _ _ => rx_index (.tmp 47) (.tmp 48) rfl vl pa rfl _ rfl HPA.out)) hS ?_
    simp only [Act.put, List.setIfInBounds_toArray, List.set_cons_succ, List.set_cons_zero]
    refine takeH (i := 6) (some 50) rfl rfl (by kernel_rfl) (by kernel_rfl) (by kernel_rfl) (fun _ _ _ h => h) (yRunW rfl (hv x) (fun W hW => rx_load (.tmp 49) rfl (pa) rfl x ((R5.out.2.2.later hW)))) hS ?_
    simp only [Act.put, List.setIfInBounds_toArray, List.set_cons_succ, List.set_cons_zero]
    refine takeH (i := 7) (some 51) rfl rfl (by kernel_rfl) (by kernel_rfl) (by kernel_rfl) (fun _ _ _ h => h) (yMoveW rfl (.tmp 1) rfl (.int .i64 (K : Nat)) rfl) hS ?_
    simp only [Act.put, List.setIfInBounds_toArray, List.set_cons_succ, List.set_cons_zero]
    refine takeH (i := 8) (some 52) rfl rfl (by kernel_rfl) (by kernel_rfl) (by kernel_rfl) (fun _ _ _ h => h) (yMoveW rfl (.tmp 7) rfl (.int .i64 (N : Nat)) rfl) hS ?_
    simp only [Act.put, List.setIfInBounds_toArray, List.set_cons_succ, List.set_cons_zero]
    refine takeH (i := 9) (some 53) rfl rfl (by kernel_rfl) (by kernel_rfl) (by kernel_rfl) (fun _ _ _ h => h) (yMoveW rfl (.tmp 9) rfl (vp) rfl) hS ?_
    simp only [Act.put, List.setIfInBounds_toArray, List.set_cons_succ, List.set_cons_zero]
    refine takeH (i := 10) (some 54) rfl rfl (by kernel_rfl) (by kernel_rfl) (by kernel_rfl) (fun _ _ _ h => h) (yRunW rfl (hv rt) (fun W hW => rx_load (.tmp 8) rfl (.pointer (some ⟨gr, 0, none⟩)) rfl rt ((R5.out.1.2.2.2.next hW).at))) hS ?_
    simp only [Act.put, List.setIfInBounds_toArray, List.set_cons_succ, List.set_cons_zero]
    refine oneH (i := 11) (by kernel_rfl) ?_
    refine opCallW (some 55) rfl rfl rfl 10 _ (run_call en10 [.tmp 50, .tmp 51, .tmp 52, .tmp 53, .tmp 54] _ rfl [hv x, .int .i64 (K : Nat), .int .i64 (N : Nat), vp, hv rt] rfl) ?_
    refine (vincl_any x rt (K : Nat) (N : Nat) vp P0 _ HPX.out.2 R5.out.1.2.2.2.1 (R5.out.2.1.later hS) (ht.later (below_append R5.out.1.2.1 hS)) (hst.later (below_append R5.out.1.2.1 hS)) (by omega)).mono ?_
    rintro e x1 ⟨rfl, bb⟩
    rw [HIO2.out.1]
    have hS' : Below w5.heap.size w5 x1 := below_append hS bb
    refine ⟨_, rfl, hS', ?_⟩
    clear hS bb
    have hS := hS'
    clear hS'
    simp only [Act.put, List.setIfInBounds_toArray, List.set_cons_succ, List.set_cons_zero]
    refine takeH (i := 12) (some 56) rfl rfl (by kernel_rfl) (by kernel_rfl) (by kernel_rfl) (fun _ _ _ h => h) (yNotW rfl (.tmp 55) rfl true rfl) hS ?_
    simp only [Act.put, List.setIfInBounds_toArray, List.set_cons_succ, List.set_cons_zero]
    refine takeH (i := 13) (some 57) rfl rfl (by kernel_rfl) (by kernel_rfl) (by kernel_rfl) (fun _ _ _ h => h) (yPickF rfl (.tmp 46) _ (.tmp 56) rfl rfl (.bool false) rfl) hS ?_
    simp only [Act.put, List.setIfInBounds_toArray, List.set_cons_succ, List.set_cons_zero]
    refine wpAnyH_done (by kernel_rfl) ?_ _
    have R7 : Hid (HIn x1 vl hs ∧ Below w.heap.size w x1 ∧ hs.length = N ∧ HIs x1 gr rt) := ⟨R5.out.1.1.later hS, below_append R5.out.1.2.1 hS, R5.out.1.2.2.1, R5.out.1.2.2.2.next hS⟩
    clear hS
    go_wp2_with fail
    refine (cons_any vl hs (K : Nat) x1 R7.out.1 (ht.later R7.out.2.1) (hst.later R7.out.2.1) (by have := R7.out.2.2.1; omega)).mono ?_
    rintro e w8 ⟨vq, rfl, o8, b8⟩
    rw [HCO.out.2.1]
    have R8 : Hid ((HIn w8 vl hs ∧ Below w.heap.size w w8 ∧ hs.length = N ∧ HIs w8 gr rt) ∧ HIn w8 vq (consAns hs K)) := ⟨⟨R7.out.1.later b8, below_append R7.out.2.1 b8, R7.out.2.2.1, R7.out.2.2.2.next b8⟩, o8.hin⟩
    clear o8 b8
    obtain ⟨va, ra, sa⟩ := run_hto R8.out.1.1 K (by have := R8.out.1.2.2.1; omega)
    have HA : Hid ((∀ w', (Instr.slice 24 vl none (some (.int .i64 (K : Nat))) none).run Tryd.prog w' = .ok va w') ∧ HIn w8 va (hs.take K) ∧ (hs.take K).length = K) := ⟨ra, sa, by rw [List.length_take]; have := R8.out.1.2.2.1; omega⟩
    clear ra sa
    generalize consAns hs K = P at HCO R8
    generalize hs.take K = hk at HCO HA
    go_wp2_with fail
    refine wp_region_held (S := fun W => Below w8.heap.size w8 W) (by kernel_rfl) ?_
    show wpAnyH _ _ _ _ _ 17 (Array.replicate 17 false) _ _
    have hS : Below w8.heap.size w8 { w8 with drawn := w8.drawn + 1 } := below_drawn w8 _
    refine takeH (i := 0) (some 64) rfl rfl (by kernel_rfl) (by kernel_rfl) (by kernel_rfl) (fun _ _ _ h => h) (yMoveW rfl (.tmp 5) rfl (.bool true) rfl) hS ?_
    simp only [Act.put, List.setIfInBounds_toArray, List.set_cons_succ, List.set_cons_zero]
    refine takeH (i := 1) (some 65) rfl rfl (by kernel_rfl) (by kernel_rfl) (by kernel_rfl) (fun _ _ _ h => h) (yMoveW rfl (.tmp 64) rfl (.bool true) rfl) hS ?_
    simp only [Act.put, List.setIfInBounds_toArray, List.set_cons_succ, List.set_cons_zero]
    refine takeH (i := 2) (some 66) rfl rfl (by kernel_rfl) (by kernel_rfl) (by kernel_rfl) (fun _ _ _ h => h) (yMoveW rfl (.tmp 12) rfl (.int .i64 0) rfl) hS ?_
    simp only [Act.put, List.setIfInBounds_toArray, List.set_cons_succ, List.set_cons_zero]
    refine takeH (i := 3) (some 67) rfl rfl (by kernel_rfl) (by kernel_rfl) (by kernel_rfl) (fun _ _ _ h => h) (yEqI rfl (.tmp 66) (.const (.int .i64 0)) rfl 0 0 rfl rfl true (by decide)) hS ?_
    simp only [Act.put, List.setIfInBounds_toArray, List.set_cons_succ, List.set_cons_zero]
    refine takeH (i := 4) (some 68) rfl rfl (by kernel_rfl) (by kernel_rfl) (by kernel_rfl) (fun _ _ _ h => h) (yPickW rfl (.tmp 65) (.tmp 67) _ rfl rfl (.bool true) rfl) hS ?_
    simp only [Act.put, List.setIfInBounds_toArray, List.set_cons_succ, List.set_cons_zero]
    refine takeH (i := 5) (some 69) rfl rfl (by kernel_rfl) (by kernel_rfl) (by kernel_rfl) (fun _ _ _ h => h) (yMoveW rfl (.tmp 68) rfl (.bool true) rfl) hS ?_
    simp only [Act.put, List.setIfInBounds_toArray, List.set_cons_succ, List.set_cons_zero]
    refine takeH (i := 6) (some 70) rfl rfl (by kernel_rfl) (by kernel_rfl) (by kernel_rfl) (fun _ _ _ h => h) (yMoveW rfl (.tmp 1) rfl (.int .i64 (K : Nat)) rfl) hS ?_
    simp only [Act.put, List.setIfInBounds_toArray, List.set_cons_succ, List.set_cons_zero]
    refine takeH (i := 7) (some 71) rfl rfl (by kernel_rfl) (by kernel_rfl) (by kernel_rfl) (fun _ _ _ h => h) (yMoveW rfl (.tmp 7) rfl (.int .i64 (N : Nat)) rfl) hS ?_
    simp only [Act.put, List.setIfInBounds_toArray, List.set_cons_succ, List.set_cons_zero]
    refine takeH (i := 8) (some 72) rfl rfl (by kernel_rfl) (by kernel_rfl) (by kernel_rfl) (fun _ _ _ h => h) (yMoveW rfl (.tmp 6) rfl (vl) rfl) hS ?_
    simp only [Act.put, List.setIfInBounds_toArray, List.set_cons_succ, List.set_cons_zero]
    refine takeH (i := 9) (some 73) rfl rfl (by kernel_rfl) (by kernel_rfl) (by kernel_rfl) (fun _ _ _ h => h) (yMoveW rfl (.tmp 1) rfl (.int .i64 (K : Nat)) rfl) hS ?_
    simp only [Act.put, List.setIfInBounds_toArray, List.set_cons_succ, List.set_cons_zero]
    refine takeH (i := 10) (some 74) rfl rfl (by kernel_rfl) (by kernel_rfl) (by kernel_rfl) (fun _ _ _ h => h) (yRunW rfl va (fun _ _ => rx_sub (.tmp 72) none (some (.tmp 73)) rfl vl va rfl HA.out.1)) hS ?_
    simp only [Act.put, List.setIfInBounds_toArray, List.set_cons_succ, List.set_cons_zero]
    refine takeH (i := 12) (some 76) rfl rfl (by kernel_rfl) (by kernel_rfl) (by kernel_rfl) (fun _ _ _ h => h) (yRunW rfl (hv rt) (fun W hW => rx_load (.tmp 8) rfl (.pointer (some ⟨gr, 0, none⟩)) rfl rt ((R8.out.1.2.2.2.next hW).at))) hS ?_
    simp only [Act.put, List.setIfInBounds_toArray, List.set_cons_succ, List.set_cons_zero]
    refine takeH (i := 13) (some 77) rfl rfl (by kernel_rfl) (by kernel_rfl) (by kernel_rfl) (fun _ _ _ h => h) (yMoveW rfl (.tmp 11) rfl (vq) rfl) hS ?_
    simp only [Act.put, List.setIfInBounds_toArray, List.set_cons_succ, List.set_cons_zero]
    refine oneH (i := 11) (by kernel_rfl) ?_
    refine opCallW (some 75) rfl rfl rfl 16 _ (run_call en16' [.tmp 74] _ rfl [va] rfl) ?_
    refine (root_any K va hk _ HA.out.2.2 (by omega) (HA.out.2.1.later hS) (ht.later (below_append R8.out.1.2.1 hS)) (hst.later (below_append R8.out.1.2.1 hS))).mono ?_
    rintro e y1 ⟨rfl, bb⟩
    have hS' : Below w8.heap.size w8 y1 := below_append hS bb
    refine ⟨_, rfl, hS', ?_⟩
    clear hS bb
    have hS := hS'
    clear hS'
    simp only [Act.put, List.setIfInBounds_toArray, List.set_cons_succ, List.set_cons_zero]
    refine oneH (i := 14) (by kernel_rfl) ?_
    refine opCallW (some 78) rfl rfl rfl 13 _ (run_call en13' [.tmp 70, .tmp 71, .tmp 75, .tmp 76, .tmp 77] _ rfl [.int .i64 (K : Nat), .int .i64 (N : Nat), hv (Tree.root hk), hv rt, vq] rfl) ?_
    refine (vcons_any (Tree.root hk) rt (K : Nat) (N : Nat) vq P _ HA.out.2.1.all.root R8.out.1.2.2.2.1 (R8.out.2.later hS) (ht.later (below_append R8.out.1.2.1 hS)) (hst.later (below_append R8.out.1.2.1 hS)) (by omega)).mono ?_
    rintro e y2 ⟨rfl, bb⟩
    rw [HCO.out.1]
    have hS' : Below w8.heap.size w8 y2 := below_append hS bb
    refine ⟨_, rfl, hS', ?_⟩
    clear hS bb
    have hS := hS'
    clear hS'
    simp only [Act.put, List.setIfInBounds_toArray, List.set_cons_succ, List.set_cons_zero]
    refine takeH (i := 15) (some 79) rfl rfl (by kernel_rfl) (by kernel_rfl) (by kernel_rfl) (fun _ _ _ h => h) (yPickW rfl (.tmp 69) (.tmp 78) _ rfl rfl (.bool true) rfl) hS ?_
    simp only [Act.put, List.setIfInBounds_toArray, List.set_cons_succ, List.set_cons_zero]
    refine takeH (i := 16) (some 4) rfl rfl (by kernel_rfl) (by kernel_rfl) (by kernel_rfl) (fun _ _ _ h => h) (yAssign rfl (.tmp 79) rfl (.bool true) rfl) hS ?_
    simp only [Act.put, List.setIfInBounds_toArray, List.set_cons_succ, List.set_cons_zero]
    refine wpAnyH_done (by kernel_rfl) ?_ _
    have HB9 : Hid (Below w.heap.size w _) := below_append R8.out.1.2.1 hS
    clear hS
    go_wp2_with fail
    go_ret
    exact ⟨rfl, HB9.out⟩
  · have hlt' : ¬ (K : Int) < (N : Int) := by omega
    go_wp2_with (first
      | (refine wl_new rfl rfl rfl rfl rfl (.tmp 34) rfl rt R3.out.2.2.2 (fun _ => rfl) (fun _ => rfl) ?_; intro w4 r4 s4 b4; have R4 : Hid (HIn w4 vl hs ∧ Below w.heap.size w w4 ∧ hs.length = N ∧ HIs w4 w3.heap.size rt) := ⟨R3.out.1.later b4, below_append R3.out.2.1 b4, R3.out.2.2.1, r4⟩; clear r4 s4 b4; generalize w3.heap.size = gr at R4 ⊢))
    refine (cons_any vl hs (K : Nat) w4 R4.out.1 (ht.later R4.out.2.1) (hst.later R4.out.2.1) (by have := R4.out.2.2.1; omega)).mono ?_
    rintro e w8 ⟨vq, rfl, o8, b8⟩
    rw [HCO.out.2.1]
    have R8 : Hid ((HIn w8 vl hs ∧ Below w.heap.size w w8 ∧ hs.length = N ∧ HIs w8 gr rt) ∧ HIn w8 vq (consAns hs K)) := ⟨⟨R4.out.1.later b8, below_append R4.out.2.1 b8, R4.out.2.2.1, R4.out.2.2.2.next b8⟩, o8.hin⟩
    clear o8 b8
    obtain ⟨va, ra, sa⟩ := run_hto R8.out.1.1 K (by have := R8.out.1.2.2.1; omega)
    have HA : Hid ((∀ w', (Instr.slice 24 vl none (some (.int .i64 (K : Nat))) none).run Tryd.prog w' = .ok va w') ∧ HIn w8 va (hs.take K) ∧ (hs.take K).length = K) := ⟨ra, sa, by rw [List.length_take]; have := R8.out.1.2.2.1; omega⟩
    clear ra sa
    generalize consAns hs K = P at HCO R8
    generalize hs.take K = hk at HCO HA
    go_wp2_with fail
    refine wp_region_held (S := fun W => Below w8.heap.size w8 W) (by kernel_rfl) ?_
    show wpAnyH _ _ _ _ _ 17 (Array.replicate 17 false) _ _
    have hS : Below w8.heap.size w8 { w8 with drawn := w8.drawn + 1 } := below_drawn w8 _
    refine takeH (i := 0) (some 64) rfl rfl (by kernel_rfl) (by kernel_rfl) (by kernel_rfl) (fun _ _ _ h => h) (yMoveW rfl (.tmp 5) rfl (.bool true) rfl) hS ?_
    simp only [Act.put, List.setIfInBounds_toArray, List.set_cons_succ, List.set_cons_zero]
    refine takeH (i := 1) (some 65) rfl rfl (by kernel_rfl) (by kernel_rfl) (by kernel_rfl) (fun _ _ _ h => h) (yMoveW rfl (.tmp 64) rfl (.bool true) rfl) hS ?_
    simp only [Act.put, List.setIfInBounds_toArray, List.set_cons_succ, List.set_cons_zero]
    refine takeH (i := 2) (some 66) rfl rfl (by kernel_rfl) (by kernel_rfl) (by kernel_rfl) (fun _ _ _ h => h) (yMoveW rfl (.tmp 12) rfl (.int .i64 0) rfl) hS ?_
    simp only [Act.put, List.setIfInBounds_toArray, List.set_cons_succ, List.set_cons_zero]
    refine takeH (i := 3) (some 67) rfl rfl (by kernel_rfl) (by kernel_rfl) (by kernel_rfl) (fun _ _ _ h => h) (yEqI rfl (.tmp 66) (.const (.int .i64 0)) rfl 0 0 rfl rfl true (by decide)) hS ?_
    simp only [Act.put, List.setIfInBounds_toArray, List.set_cons_succ, List.set_cons_zero]
    refine takeH (i := 4) (some 68) rfl rfl (by kernel_rfl) (by kernel_rfl) (by kernel_rfl) (fun _ _ _ h => h) (yPickW rfl (.tmp 65) (.tmp 67) _ rfl rfl (.bool true) rfl) hS ?_
    simp only [Act.put, List.setIfInBounds_toArray, List.set_cons_succ, List.set_cons_zero]
    refine takeH (i := 5) (some 69) rfl rfl (by kernel_rfl) (by kernel_rfl) (by kernel_rfl) (fun _ _ _ h => h) (yMoveW rfl (.tmp 68) rfl (.bool true) rfl) hS ?_
    simp only [Act.put, List.setIfInBounds_toArray, List.set_cons_succ, List.set_cons_zero]
    refine takeH (i := 6) (some 70) rfl rfl (by kernel_rfl) (by kernel_rfl) (by kernel_rfl) (fun _ _ _ h => h) (yMoveW rfl (.tmp 1) rfl (.int .i64 (K : Nat)) rfl) hS ?_
    simp only [Act.put, List.setIfInBounds_toArray, List.set_cons_succ, List.set_cons_zero]
    refine takeH (i := 7) (some 71) rfl rfl (by kernel_rfl) (by kernel_rfl) (by kernel_rfl) (fun _ _ _ h => h) (yMoveW rfl (.tmp 7) rfl (.int .i64 (N : Nat)) rfl) hS ?_
    simp only [Act.put, List.setIfInBounds_toArray, List.set_cons_succ, List.set_cons_zero]
    refine takeH (i := 8) (some 72) rfl rfl (by kernel_rfl) (by kernel_rfl) (by kernel_rfl) (fun _ _ _ h => h) (yMoveW rfl (.tmp 6) rfl (vl) rfl) hS ?_
    simp only [Act.put, List.setIfInBounds_toArray, List.set_cons_succ, List.set_cons_zero]
    refine takeH (i := 9) (some 73) rfl rfl (by kernel_rfl) (by kernel_rfl) (by kernel_rfl) (fun _ _ _ h => h) (yMoveW rfl (.tmp 1) rfl (.int .i64 (K : Nat)) rfl) hS ?_
    simp only [Act.put, List.setIfInBounds_toArray, List.set_cons_succ, List.set_cons_zero]
    refine takeH (i := 10) (some 74) rfl rfl (by kernel_rfl) (by kernel_rfl) (by kernel_rfl) (fun _ _ _ h => h) (yRunW rfl va (fun _ _ => rx_sub (.tmp 72) none (some (.tmp 73)) rfl vl va rfl HA.out.1)) hS ?_
    simp only [Act.put, List.setIfInBounds_toArray, List.set_cons_succ, List.set_cons_zero]
    refine takeH (i := 12) (some 76) rfl rfl (by kernel_rfl) (by kernel_rfl) (by kernel_rfl) (fun _ _ _ h => h) (yRunW rfl (hv rt) (fun W hW => rx_load (.tmp 8) rfl (.pointer (some ⟨gr, 0, none⟩)) rfl rt ((R8.out.1.2.2.2.next hW).at))) hS ?_
    simp only [Act.put, List.setIfInBounds_toArray, List.set_cons_succ, List.set_cons_zero]
    refine takeH (i := 13) (some 77) rfl rfl (by kernel_rfl) (by kernel_rfl) (by kernel_rfl) (fun _ _ _ h => h) (yMoveW rfl (.tmp 11) rfl (vq) rfl) hS ?_
    simp only [Act.put, List.setIfInBounds_toArray, List.set_cons_succ, List.set_cons_zero]
    refine oneH (i := 11) (by kernel_rfl) ?_
    refine opCallW (some 75) rfl rfl rfl 16 _ (run_call en16' [.tmp 74] _ rfl [va] rfl) ?_
    refine (root_any K va hk _ HA.out.2.2 (by omega) (HA.out.2.1.later hS) (ht.later (below_append R8.out.1.2.1 hS)) (hst.later (below_append R8.out.1.2.1 hS))).mono ?_
    rintro e y1 ⟨rfl, bb⟩
    have hS' : Below w8.heap.size w8 y1 := below_append hS bb
    refine ⟨_, rfl, hS', ?_⟩
    clear hS bb
    have hS := hS'
    clear hS'
    simp only [Act.put, List.setIfInBounds_toArray, List.set_cons_succ, List.set_cons_zero]
    refine oneH (i := 14) (by kernel_rfl) ?_
    refine opCallW (some 78) rfl rfl rfl 13 _ (run_call en13' [.tmp 70, .tmp 71, .tmp 75, .tmp 76, .tmp 77] _ rfl [.int .i64 (K : Nat), .int .i64 (N : Nat), hv (Tree.root hk), hv rt, vq] rfl) ?_
    refine (vcons_any (Tree.root hk) rt (K : Nat) (N : Nat) vq P _ HA.out.2.1.all.root R8.out.1.2.2.2.1 (R8.out.2.later hS) (ht.later (below_append R8.out.1.2.1 hS)) (hst.later (below_append R8.out.1.2.1 hS)) (by omega)).mono ?_
    rintro e y2 ⟨rfl, bb⟩
    rw [HCO.out.1]
    have hS' : Below w8.heap.size w8 y2 := below_append hS bb
    refine ⟨_, rfl, hS', ?_⟩
    clear hS bb
    have hS := hS'
    clear hS'
    simp only [Act.put, List.setIfInBounds_toArray, List.set_cons_succ, List.set_cons_zero]
    refine takeH (i := 15) (some 79) rfl rfl (by kernel_rfl) (by kernel_rfl) (by kernel_rfl) (fun _ _ _ h => h) (yPickW rfl (.tmp 69) (.tmp 78) _ rfl rfl (.bool true) rfl) hS ?_
    simp only [Act.put, List.setIfInBounds_toArray, List.set_cons_succ, List.set_cons_zero]
    refine takeH (i := 16) (some 4) rfl rfl (by kernel_rfl) (by kernel_rfl) (by kernel_rfl) (fun _ _ _ h => h) (yAssign rfl (.tmp 79) rfl (.bool true) rfl) hS ?_
    simp only [Act.put, List.setIfInBounds_toArray, List.set_cons_succ, List.set_cons_zero]
    refine wpAnyH_done (by kernel_rfl) ?_ _
    have HB9 : Hid (Below w.heap.size w _) := below_append R8.out.1.2.1 hS
    clear hS
    go_wp2_with fail
    go_ret
    exact ⟨rfl, HB9.out⟩
set_option maxHeartbeats 16000000 in
set_option maxRecDepth 100000 in
theorem proved_neg (v : Value) (L : List (List Nat)) (M : Nat) (w : World) (h : ListIn w v L) (ht : TabIn w) (hst : StartIn w) (hN : L.length ≤ 300) (hM : M ≤ 9223372036854775807) (hL : ∀ c ∈ L, c.length ≤ 140737488351232) :
    Calls Tryd.prog 5 #[v, .int .i64 (-(M : Int) - 1)] w fun e w' => e = .returned (.bool true) ∧ Below w.heap.size w w' := by
  obtain ⟨N, hN'⟩ : ∃ N, L.length = N := ⟨_, rfl⟩
  have HN : Hid (L.length = N) := hN'
  have hsmall : ¬ (300 : Int) < (N : Int) := by omega
  have HL : Hid (∀ c ∈ L, c.length + 1024 ≤ 140737488355328) := fun c hc => by have := hL c hc; omega
  have hN3 : N ≤ 300 := by omega
  have hneg : -(M : Int) - 1 < 0 := by omega
  clear hN hN' hL
  go_enter Tryd.func5, Tryd.ntmps5
  go_wp2_with (first
    | (go_at_call 9; refine (shown_any w ht hst).mono ?_; rintro e w1 ⟨rfl, b1⟩; have R1 : Hid (Below w.heap.size w w1) := b1; clear b1)
    | (refine wl_rlen (.tmp 16) rfl rfl v L rfl h N HN.out ?_)
    | (go_at_call 15; refine (leaves_any v L w1 (h.later R1.out) (by have := HN.out; omega) HL.out).mono ?_; rintro e w2 ⟨vl, rfl, o2, b2⟩; have R2 : Hid (HIn w2 vl (L.map Tree.leaf) ∧ Below w.heap.size w w2 ∧ (L.map Tree.leaf).length = N) := ⟨o2.hin, below_append R1.out b2, (leafs_length L).trans HN.out⟩; clear o2 b2; generalize L.map Tree.leaf = hs at R2)
    | (refine wl_lenN (.tmp 22) rfl rfl vl hs rfl R2.out.1 N R2.out.2.2 ?_)
    | (refine wl_neg (.tmp 27) rfl rfl _ rfl M (by omega) hM ?_)
    | (refine wl_rem (.tmp 29) (.tmp 31) rfl rfl M (N + 1) rfl rfl (by omega) ?_))
  obtain ⟨K, hK, hKN⟩ : ∃ K : Nat, (M : Int) % ((N : Int) + 1) = (K : Int) ∧ K ≤ N := ⟨M % (N + 1), by rw [Int.natCast_emod]; rfl, by have := Nat.mod_lt M (show 0 < N + 1 by omega); omega⟩
  rw [hK]
  clear hK
  refine (root_any N vl hs w2 R2.out.2.2 (by omega) R2.out.1 (ht.later R2.out.2.1) (hst.later R2.out.2.1)).mono ?_
  rintro e w3 ⟨rfl, b3⟩
  have R3 : Hid (HIn w3 vl hs ∧ Below w.heap.size w w3 ∧ hs.length = N ∧ IsH (Tree.root hs)) := ⟨R2.out.1.later b3, below_append R2.out.2.1 b3, R2.out.2.2, R2.out.1.all.root⟩
  have HCO : Hid (Tree.consOk (K : Nat) (N : Nat) (Tree.root (hs.take K)) (Tree.root hs) (consAns hs K) = true ∧ consErr hs K = 0 ∧ (consAns hs K).length ≤ 1000) := ⟨consOk_ans hs K N R2.out.2.2 hKN, consErr_nat hs K (by have := R2.out.2.2; omega), by
    unfold consAns
    split
    · have := Tree.part_length 9 hs (K : Int).toNat true (by have := R2.out.2.2; omega)
      omega
    · simp⟩
  have HIO : Hid (K < N → Tree.inclOk (hs.getD K []) (K : Nat) (N : Nat) (Tree.incl hs K) (Tree.root hs) = true ∧ inclAns hs K = Tree.incl hs K ∧ inclErr hs K = 0) := fun hk => ⟨by rw [Tree.inclOk_incl hs K N R2.out.2.2 hk]; exact decide_eq_true rfl, inclAns_nat hs K (by have := R2.out.2.2; omega)⟩
  clear b3 R2
  obtain ⟨rt, hrt⟩ : ∃ rt, rt = Tree.root hs := ⟨_, rfl⟩
  rw [← hrt] at R3 HCO HIO ⊢
  clear hrt
  by_cases hlt : K < N
  · have hlt' : (K : Int) < (N : Int) := by omega
    go_wp2_with (first
      | (refine wl_new rfl rfl rfl rfl rfl (.tmp 34) rfl rt R3.out.2.2.2 (fun _ => rfl) (fun _ => rfl) ?_; intro w4 r4 s4 b4; have R4 : Hid (HIn w4 vl hs ∧ Below w.heap.size w w4 ∧ hs.length = N ∧ HIs w4 w3.heap.size rt) := ⟨R3.out.1.later b4, below_append R3.out.2.1 b4, R3.out.2.2.1, r4⟩; clear r4 s4 b4; generalize w3.heap.size = gr at R4 ⊢))
    obtain ⟨pa, rp, sp⟩ := run_hindex R4.out.1 K (by have := R4.out.2.2.1; omega)
    have HIO2 : Hid (Tree.inclOk (hs.getD K []) (K : Nat) (N : Nat) (Tree.incl hs K) rt = true ∧ inclAns hs K = Tree.incl hs K ∧ inclErr hs K = 0) := HIO.out hlt
    have HPA : Hid (∀ w', (Instr.indexAt 24 vl (.int .i64 (K : Nat))).run Tryd.prog w' = .ok pa w') := rp
    obtain ⟨x, hx⟩ : ∃ x, x = hs.getD K [] := ⟨_, rfl⟩
    rw [← hx] at sp HIO2
    have HPX : Hid (HAt w4 pa x ∧ IsH x) := ⟨sp, sp.1⟩
    clear rp sp hx HIO
    go_wp2_with fail
    refine (incl_any vl hs (K : Nat) w4 R4.out.1 (ht.later R4.out.2.1) (hst.later R4.out.2.1) (by have := R4.out.2.2.1; omega)).mono ?_
    rintro e w5 ⟨vp, rfl, o5, b5⟩
    rw [HIO2.out.2.1] at o5
    rw [HIO2.out.2.2]
    generalize Tree.incl hs K = P0 at HIO2 o5
    have R5 : Hid ((HIn w5 vl hs ∧ Below w.heap.size w w5 ∧ hs.length = N ∧ HIs w5 gr rt) ∧ HIn w5 vp P0 ∧ HAt w5 pa x) := ⟨⟨R4.out.1.later b5, below_append R4.out.2.1 b5, R4.out.2.2.1, R4.out.2.2.2.next b5⟩, o5.hin, HPX.out.1.later b5⟩
    clear o5 b5
    go_wp2_with fail
    refine wp_region_held (S := fun W => Below w5.heap.size w5 W) (by kernel_rfl) ?_
    show wpAnyH _ _ _ _ _ 14 (Array.replicate 14 false) _ _
    have hS : Below w5.heap.size w5 { w5 with drawn := w5.drawn + 1 } := below_drawn w5 _
    refine takeH (i := 0) (some 44) rfl rfl (by kernel_rfl) (by kernel_rfl) (by kernel_rfl) (fun _ _ _ h => h) (yMoveW rfl (.tmp 10) rfl (.int .i64 0) rfl) hS ?_
    simp only [Act.put, List.setIfInBounds_toArray, List.set_cons_succ, List.set_cons_zero]
    refine takeH (i := 1) (some 45) rfl rfl (by kernel_rfl) (by kernel_rfl) (by kernel_rfl) (fun _ _ _ h => h) (yNeI rfl (.tmp 44) (.const (.int .i64 0)) rfl 0 0 rfl rfl false (by decide)) hS ?_
    simp only [Act.put, List.setIfInBounds_toArray, List.set_cons_succ, List.set_cons_zero]
    refine takeH (i := 2) (some 46) rfl rfl (by kernel_rfl) (by kernel_rfl) (by kernel_rfl) (fun _ _ _ h => h) (yMoveW rfl (.tmp 45) rfl (.bool false) rfl) hS ?_
    simp only [Act.put, List.setIfInBounds_toArray, List.set_cons_succ, List.set_cons_zero]
    refine takeH (i := 3) (some 47) rfl rfl (by kernel_rfl) (by kernel_rfl) (by kernel_rfl) (fun _ _ _ h => h) (yMoveW rfl (.tmp 6) rfl (vl) rfl) hS ?_
    simp only [Act.put, List.setIfInBounds_toArray, List.set_cons_succ, List.set_cons_zero]
    refine takeH (i := 4) (some 48) rfl rfl (by kernel_rfl) (by kernel_rfl) (by kernel_rfl) (fun _ _ _ h => h) (yMoveW rfl (.tmp 1) rfl (.int .i64 (K : Nat)) rfl) hS ?_
    simp only [Act.put, List.setIfInBounds_toArray, List.set_cons_succ, List.set_cons_zero]
    refine takeH (i := 5) (some 49) rfl rfl (by kernel_rfl) (by kernel_rfl) (by kernel_rfl) (fun _ _ _ h => h) (yRunW rfl pa (fun _ _ => rx_index (.tmp 47) (.tmp 48) rfl vl pa rfl _ rfl HPA.out)) hS ?_
    simp only [Act.put, List.setIfInBounds_toArray, List.set_cons_succ, List.set_cons_zero]
    refine takeH (i := 6) (some 50) rfl rfl (by kernel_rfl) (by kernel_rfl) (by kernel_rfl) (fun _ _ _ h => h) (yRunW rfl (hv x) (fun W hW => rx_load (.tmp 49) rfl (pa) rfl x ((R5.out.2.2.later hW)))) hS ?_
    simp only [Act.put, List.setIfInBounds_toArray, List.set_cons_succ, List.set_cons_zero]
    refine takeH (i := 7) (some 51) rfl rfl (by kernel_rfl) (by kernel_rfl) (by kernel_rfl) (fun _ _ _ h => h) (yMoveW rfl (.tmp 1) rfl (.int .i64 (K : Nat)) rfl) hS ?_
    simp only [Act.put, List.setIfInBounds_toArray, List.set_cons_succ, List.set_cons_zero]
    refine takeH (i := 8) (some 52) rfl rfl (by kernel_rfl) (by kernel_rfl) (by kernel_rfl) (fun _ _ _ h => h) (yMoveW rfl (.tmp 7) rfl (.int .i64 (N : Nat)) rfl) hS ?_
    simp only [Act.put, List.setIfInBounds_toArray, List.set_cons_succ, List.set_cons_zero]
    refine takeH (i := 9) (some 53) rfl rfl (by kernel_rfl) (by kernel_rfl) (by kernel_rfl) (fun _ _ _ h => h) (yMoveW rfl (.tmp 9) rfl (vp) rfl) hS ?_
    simp only [Act.put, List.setIfInBounds_toArray, List.set_cons_succ, List.set_cons_zero]
    refine takeH (i := 10) (some 54) rfl rfl (by kernel_rfl) (by kernel_rfl) (by kernel_rfl) (fun _ _ _ h => h) (yRunW rfl (hv rt) (fun W hW => rx_load (.tmp 8) rfl (.pointer (some ⟨gr, 0, none⟩)) rfl rt ((R5.out.1.2.2.2.next hW).at))) hS ?_
    simp only [Act.put, List.setIfInBounds_toArray, List.set_cons_succ, List.set_cons_zero]
    refine oneH (i := 11) (by kernel_rfl) ?_
    refine opCallW (some 55) rfl rfl rfl 10 _ (run_call en10 [.tmp 50, .tmp 51, .tmp 52, .tmp 53, .tmp 54] _ rfl [hv x, .int .i64 (K : Nat), .int .i64 (N : Nat), vp, hv rt] rfl) ?_
    refine (vincl_any x rt (K : Nat) (N : Nat) vp P0 _ HPX.out.2 R5.out.1.2.2.2.1 (R5.out.2.1.later hS) (ht.later (below_append R5.out.1.2.1 hS)) (hst.later (below_append R5.out.1.2.1 hS)) (by omega)).mono ?_
    rintro e x1 ⟨rfl, bb⟩
    rw [HIO2.out.1]
    have hS' : Below w5.heap.size w5 x1 := below_append hS bb
    refine ⟨_, rfl, hS', ?_⟩
    clear hS bb
    have hS := hS'
    clear hS'
    simp only [Act.put, List.setIfInBounds_toArray, List.set_cons_succ, List.set_cons_zero]
    refine takeH (i := 12) (some 56) rfl rfl (by kernel_rfl) (by kernel_rfl) (by kernel_rfl) (fun _ _ _ h => h) (yNotW rfl (.tmp 55) rfl true rfl) hS ?_
    simp only [Act.put, List.setIfInBounds_toArray, List.set_cons_succ, List.set_cons_zero]
    refine takeH (i := 13) (some 57) rfl rfl (by kernel_rfl) (by kernel_rfl) (by kernel_rfl) (fun _ _ _ h => h) (yPickF rfl (.tmp 46) _ (.tmp 56) rfl rfl (.bool false) rfl) hS ?_
    simp only [Act.put, List.setIfInBounds_toArray, List.set_cons_succ, List.set_cons_zero]
    refine wpAnyH_done (by kernel_rfl) ?_ _
    have R7 : Hid (HIn x1 vl hs ∧ Below w.heap.size w x1 ∧ hs.length = N ∧ HIs x1 gr rt) := ⟨R5.out.1.1.later hS, below_append R5.out.1.2.1 hS, R5.out.1.2.2.1, R5.out.1.2.2.2.next hS⟩
    clear hS
    go_wp2_with fail
    refine (cons_any vl hs (K : Nat) x1 R7.out.1 (ht.later R7.out.2.1) (hst.later R7.out.2.1) (by have := R7.out.2.2.1; omega)).mono ?_
    rintro e w8 ⟨vq, rfl, o8, b8⟩
    rw [HCO.out.2.1]
    have R8 : Hid ((HIn w8 vl hs ∧ Below w.heap.size w w8 ∧ hs.length = N ∧ HIs w8 gr rt) ∧ HIn w8 vq (consAns hs K)) := ⟨⟨R7.out.1.later b8, below_append R7.out.2.1 b8, R7.out.2.2.1, R7.out.2.2.2.next b8⟩, o8.hin⟩
    clear o8 b8
    obtain ⟨va, ra, sa⟩ := run_hto R8.out.1.1 K (by have := R8.out.1.2.2.1; omega)
    have HA : Hid ((∀ w', (Instr.slice 24 vl none (some (.int .i64 (K : Nat))) none).run Tryd.prog w' = .ok va w') ∧ HIn w8 va (hs.take K) ∧ (hs.take K).length = K) := ⟨ra, sa, by rw [List.length_take]; have := R8.out.1.2.2.1; omega⟩
    clear ra sa
    generalize consAns hs K = P at HCO R8
    generalize hs.take K = hk at HCO HA
    go_wp2_with fail
    refine wp_region_held (S := fun W => Below w8.heap.size w8 W) (by kernel_rfl) ?_
    show wpAnyH _ _ _ _ _ 17 (Array.replicate 17 false) _ _
    have hS : Below w8.heap.size w8 { w8 with drawn := w8.drawn + 1 } := below_drawn w8 _
    refine takeH (i := 0) (some 64) rfl rfl (by kernel_rfl) (by kernel_rfl) (by kernel_rfl) (fun _ _ _ h => h) (yMoveW rfl (.tmp 5) rfl (.bool true) rfl) hS ?_
    simp only [Act.put, List.setIfInBounds_toArray, List.set_cons_succ, List.set_cons_zero]
    refine takeH (i := 1) (some 65) rfl rfl (by kernel_rfl) (by kernel_rfl) (by kernel_rfl) (fun _ _ _ h => h) (yMoveW rfl (.tmp 64) rfl (.bool true) rfl) hS ?_
    simp only [Act.put, List.setIfInBounds_toArray, List.set_cons_succ, List.set_cons_zero]
    refine takeH (i := 2) (some 66) rfl rfl (by kernel_rfl) (by kernel_rfl) (by kernel_rfl) (fun _ _ _ h => h) (yMoveW rfl (.tmp 12) rfl (.int .i64 0) rfl) hS ?_
    simp only [Act.put, List.setIfInBounds_toArray, List.set_cons_succ, List.set_cons_zero]
    refine takeH (i := 3) (some 67) rfl rfl (by kernel_rfl) (by kernel_rfl) (by kernel_rfl) (fun _ _ _ h => h) (yEqI rfl (.tmp 66) (.const (.int .i64 0)) rfl 0 0 rfl rfl true (by decide)) hS ?_
    simp only [Act.put, List.setIfInBounds_toArray, List.set_cons_succ, List.set_cons_zero]
    refine takeH (i := 4) (some 68) rfl rfl (by kernel_rfl) (by kernel_rfl) (by kernel_rfl) (fun _ _ _ h => h) (yPickW rfl (.tmp 65) (.tmp 67) _ rfl rfl (.bool true) rfl) hS ?_
    simp only [Act.put, List.setIfInBounds_toArray, List.set_cons_succ, List.set_cons_zero]
    refine takeH (i := 5) (some 69) rfl rfl (by kernel_rfl) (by kernel_rfl) (by kernel_rfl) (fun _ _ _ h => h) (yMoveW rfl (.tmp 68) rfl (.bool true) rfl) hS ?_
    simp only [Act.put, List.setIfInBounds_toArray, List.set_cons_succ, List.set_cons_zero]
    refine takeH (i := 6) (some 70) rfl rfl (by kernel_rfl) (by kernel_rfl) (by kernel_rfl) (fun _ _ _ h => h) (yMoveW rfl (.tmp 1) rfl (.int .i64 (K : Nat)) rfl) hS ?_
    simp only [Act.put, List.setIfInBounds_toArray, List.set_cons_succ, List.set_cons_zero]
    refine takeH (i := 7) (some 71) rfl rfl (by kernel_rfl) (by kernel_rfl) (by kernel_rfl) (fun _ _ _ h => h) (yMoveW rfl (.tmp 7) rfl (.int .i64 (N : Nat)) rfl) hS ?_
    simp only [Act.put, List.setIfInBounds_toArray, List.set_cons_succ, List.set_cons_zero]
    refine takeH (i := 8) (some 72) rfl rfl (by kernel_rfl) (by kernel_rfl) (by kernel_rfl) (fun _ _ _ h => h) (yMoveW rfl (.tmp 6) rfl (vl) rfl) hS ?_
    simp only [Act.put, List.setIfInBounds_toArray, List.set_cons_succ, List.set_cons_zero]
    refine takeH (i := 9) (some 73) rfl rfl (by kernel_rfl) (by kernel_rfl) (by kernel_rfl) (fun _ _ _ h => h) (yMoveW rfl (.tmp 1) rfl (.int .i64 (K : Nat)) rfl) hS ?_
    simp only [Act.put, List.setIfInBounds_toArray, List.set_cons_succ, List.set_cons_zero]
    refine takeH (i := 10) (some 74) rfl rfl (by kernel_rfl) (by kernel_rfl) (by kernel_rfl) (fun _ _ _ h => h) (yRunW rfl va (fun _ _ => rx_sub (.tmp 72) none (some (.tmp 73)) rfl vl va rfl HA.out.1)) hS ?_
    simp only [Act.put, List.setIfInBounds_toArray, List.set_cons_succ, List.set_cons_zero]
    refine takeH (i := 12) (some 76) rfl rfl (by kernel_rfl) (by kernel_rfl) (by kernel_rfl) (fun _ _ _ h => h) (yRunW rfl (hv rt) (fun W hW => rx_load (.tmp 8) rfl (.pointer (some ⟨gr, 0, none⟩)) rfl rt ((R8.out.1.2.2.2.next hW).at))) hS ?_
    simp only [Act.put, List.setIfInBounds_toArray, List.set_cons_succ, List.set_cons_zero]
    refine takeH (i := 13) (some 77) rfl rfl (by kernel_rfl) (by kernel_rfl) (by kernel_rfl) (fun _ _ _ h => h) (yMoveW rfl (.tmp 11) rfl (vq) rfl) hS ?_
    simp only [Act.put, List.setIfInBounds_toArray, List.set_cons_succ, List.set_cons_zero]
    refine oneH (i := 11) (by kernel_rfl) ?_
    refine opCallW (some 75) rfl rfl rfl 16 _ (run_call en16' [.tmp 74] _ rfl [va] rfl) ?_
    refine (root_any K va hk _ HA.out.2.2 (by omega) (HA.out.2.1.later hS) (ht.later (below_append R8.out.1.2.1 hS)) (hst.later (below_append R8.out.1.2.1 hS))).mono ?_
    rintro e y1 ⟨rfl, bb⟩
    have hS' : Below w8.heap.size w8 y1 := below_append hS bb
    refine ⟨_, rfl, hS', ?_⟩
    clear hS bb
    have hS := hS'
    clear hS'
    simp only [Act.put, List.setIfInBounds_toArray, List.set_cons_succ, List.set_cons_zero]
    refine oneH (i := 14) (by kernel_rfl) ?_
    refine opCallW (some 78) rfl rfl rfl 13 _ (run_call en13' [.tmp 70, .tmp 71, .tmp 75, .tmp 76, .tmp 77] _ rfl [.int .i64 (K : Nat), .int .i64 (N : Nat), hv (Tree.root hk), hv rt, vq] rfl) ?_
    refine (vcons_any (Tree.root hk) rt (K : Nat) (N : Nat) vq P _ HA.out.2.1.all.root R8.out.1.2.2.2.1 (R8.out.2.later hS) (ht.later (below_append R8.out.1.2.1 hS)) (hst.later (below_append R8.out.1.2.1 hS)) (by omega)).mono ?_
    rintro e y2 ⟨rfl, bb⟩
    rw [HCO.out.1]
    have hS' : Below w8.heap.size w8 y2 := below_append hS bb
    refine ⟨_, rfl, hS', ?_⟩
    clear hS bb
    have hS := hS'
    clear hS'
    simp only [Act.put, List.setIfInBounds_toArray, List.set_cons_succ, List.set_cons_zero]
    refine takeH (i := 15) (some 79) rfl rfl (by kernel_rfl) (by kernel_rfl) (by kernel_rfl) (fun _ _ _ h => h) (yPickW rfl (.tmp 69) (.tmp 78) _ rfl rfl (.bool true) rfl) hS ?_
    simp only [Act.put, List.setIfInBounds_toArray, List.set_cons_succ, List.set_cons_zero]
    refine takeH (i := 16) (some 4) rfl rfl (by kernel_rfl) (by kernel_rfl) (by kernel_rfl) (fun _ _ _ h => h) (yAssign rfl (.tmp 79) rfl (.bool true) rfl) hS ?_
    simp only [Act.put, List.setIfInBounds_toArray, List.set_cons_succ, List.set_cons_zero]
    refine wpAnyH_done (by kernel_rfl) ?_ _
    have HB9 : Hid (Below w.heap.size w _) := below_append R8.out.1.2.1 hS
    clear hS
    go_wp2_with fail
    go_ret
    exact ⟨rfl, HB9.out⟩
  · have hlt' : ¬ (K : Int) < (N : Int) := by omega
    go_wp2_with (first
      | (refine wl_new rfl rfl rfl rfl rfl (.tmp 34) rfl rt R3.out.2.2.2 (fun _ => rfl) (fun _ => rfl) ?_; intro w4 r4 s4 b4; have R4 : Hid (HIn w4 vl hs ∧ Below w.heap.size w w4 ∧ hs.length = N ∧ HIs w4 w3.heap.size rt) := ⟨R3.out.1.later b4, below_append R3.out.2.1 b4, R3.out.2.2.1, r4⟩; clear r4 s4 b4; generalize w3.heap.size = gr at R4 ⊢))
    refine (cons_any vl hs (K : Nat) w4 R4.out.1 (ht.later R4.out.2.1) (hst.later R4.out.2.1) (by have := R4.out.2.2.1; omega)).mono ?_
    rintro e w8 ⟨vq, rfl, o8, b8⟩
    rw [HCO.out.2.1]
    have R8 : Hid ((HIn w8 vl hs ∧ Below w.heap.size w w8 ∧ hs.length = N ∧ HIs w8 gr rt) ∧ HIn w8 vq (consAns hs K)) := ⟨⟨R4.out.1.later b8, below_append R4.out.2.1 b8, R4.out.2.2.1, R4.out.2.2.2.next b8⟩, o8.hin⟩
    clear o8 b8
    obtain ⟨va, ra, sa⟩ := run_hto R8.out.1.1 K (by have := R8.out.1.2.2.1; omega)
    have HA : Hid ((∀ w', (Instr.slice 24 vl none (some (.int .i64 (K : Nat))) none).run Tryd.prog w' = .ok va w') ∧ HIn w8 va (hs.take K) ∧ (hs.take K).length = K) := ⟨ra, sa, by rw [List.length_take]; have := R8.out.1.2.2.1; omega⟩
    clear ra sa
    generalize consAns hs K = P at HCO R8
    generalize hs.take K = hk at HCO HA
    go_wp2_with fail
    refine wp_region_held (S := fun W => Below w8.heap.size w8 W) (by kernel_rfl) ?_
    show wpAnyH _ _ _ _ _ 17 (Array.replicate 17 false) _ _
    have hS : Below w8.heap.size w8 { w8 with drawn := w8.drawn + 1 } := below_drawn w8 _
    refine takeH (i := 0) (some 64) rfl rfl (by kernel_rfl) (by kernel_rfl) (by kernel_rfl) (fun _ _ _ h => h) (yMoveW rfl (.tmp 5) rfl (.bool true) rfl) hS ?_
    simp only [Act.put, List.setIfInBounds_toArray, List.set_cons_succ, List.set_cons_zero]
    refine takeH (i := 1) (some 65) rfl rfl (by kernel_rfl) (by kernel_rfl) (by kernel_rfl) (fun _ _ _ h => h) (yMoveW rfl (.tmp 64) rfl (.bool true) rfl) hS ?_
    simp only [Act.put, List.setIfInBounds_toArray, List.set_cons_succ, List.set_cons_zero]
    refine takeH (i := 2) (some 66) rfl rfl (by kernel_rfl) (by kernel_rfl) (by kernel_rfl) (fun _ _ _ h => h) (yMoveW rfl (.tmp 12) rfl (.int .i64 0) rfl) hS ?_
    simp only [Act.put, List.setIfInBounds_toArray, List.set_cons_succ, List.set_cons_zero]
    refine takeH (i := 3) (some 67) rfl rfl (by kernel_rfl) (by kernel_rfl) (by kernel_rfl) (fun _ _ _ h => h) (yEqI rfl (.tmp 66) (.const (.int .i64 0)) rfl 0 0 rfl rfl true (by decide)) hS ?_
    simp only [Act.put, List.setIfInBounds_toArray, List.set_cons_succ, List.set_cons_zero]
    refine takeH (i := 4) (some 68) rfl rfl (by kernel_rfl) (by kernel_rfl) (by kernel_rfl) (fun _ _ _ h => h) (yPickW rfl (.tmp 65) (.tmp 67) _ rfl rfl (.bool true) rfl) hS ?_
    simp only [Act.put, List.setIfInBounds_toArray, List.set_cons_succ, List.set_cons_zero]
    refine takeH (i := 5) (some 69) rfl rfl (by kernel_rfl) (by kernel_rfl) (by kernel_rfl) (fun _ _ _ h => h) (yMoveW rfl (.tmp 68) rfl (.bool true) rfl) hS ?_
    simp only [Act.put, List.setIfInBounds_toArray, List.set_cons_succ, List.set_cons_zero]
    refine takeH (i := 6) (some 70) rfl rfl (by kernel_rfl) (by kernel_rfl) (by kernel_rfl) (fun _ _ _ h => h) (yMoveW rfl (.tmp 1) rfl (.int .i64 (K : Nat)) rfl) hS ?_
    simp only [Act.put, List.setIfInBounds_toArray, List.set_cons_succ, List.set_cons_zero]
    refine takeH (i := 7) (some 71) rfl rfl (by kernel_rfl) (by kernel_rfl) (by kernel_rfl) (fun _ _ _ h => h) (yMoveW rfl (.tmp 7) rfl (.int .i64 (N : Nat)) rfl) hS ?_
    simp only [Act.put, List.setIfInBounds_toArray, List.set_cons_succ, List.set_cons_zero]
    refine takeH (i := 8) (some 72) rfl rfl (by kernel_rfl) (by kernel_rfl) (by kernel_rfl) (fun _ _ _ h => h) (yMoveW rfl (.tmp 6) rfl (vl) rfl) hS ?_
    simp only [Act.put, List.setIfInBounds_toArray, List.set_cons_succ, List.set_cons_zero]
    refine takeH (i := 9) (some 73) rfl rfl (by kernel_rfl) (by kernel_rfl) (by kernel_rfl) (fun _ _ _ h => h) (yMoveW rfl (.tmp 1) rfl (.int .i64 (K : Nat)) rfl) hS ?_
    simp only [Act.put, List.setIfInBounds_toArray, List.set_cons_succ, List.set_cons_zero]
    refine takeH (i := 10) (some 74) rfl rfl (by kernel_rfl) (by kernel_rfl) (by kernel_rfl) (fun _ _ _ h => h) (yRunW rfl va (fun _ _ => rx_sub (.tmp 72) none (some (.tmp 73)) rfl vl va rfl HA.out.1)) hS ?_
    simp only [Act.put, List.setIfInBounds_toArray, List.set_cons_succ, List.set_cons_zero]
    refine takeH (i := 12) (some 76) rfl rfl (by kernel_rfl) (by kernel_rfl) (by kernel_rfl) (fun _ _ _ h => h) (yRunW rfl (hv rt) (fun W hW => rx_load (.tmp 8) rfl (.pointer (some ⟨gr, 0, none⟩)) rfl rt ((R8.out.1.2.2.2.next hW).at))) hS ?_
    simp only [Act.put, List.setIfInBounds_toArray, List.set_cons_succ, List.set_cons_zero]
    refine takeH (i := 13) (some 77) rfl rfl (by kernel_rfl) (by kernel_rfl) (by kernel_rfl) (fun _ _ _ h => h) (yMoveW rfl (.tmp 11) rfl (vq) rfl) hS ?_
    simp only [Act.put, List.setIfInBounds_toArray, List.set_cons_succ, List.set_cons_zero]
    refine oneH (i := 11) (by kernel_rfl) ?_
    refine opCallW (some 75) rfl rfl rfl 16 _ (run_call en16' [.tmp 74] _ rfl [va] rfl) ?_
    refine (root_any K va hk _ HA.out.2.2 (by omega) (HA.out.2.1.later hS) (ht.later (below_append R8.out.1.2.1 hS)) (hst.later (below_append R8.out.1.2.1 hS))).mono ?_
    rintro e y1 ⟨rfl, bb⟩
    have hS' : Below w8.heap.size w8 y1 := below_append hS bb
    refine ⟨_, rfl, hS', ?_⟩
    clear hS bb
    have hS := hS'
    clear hS'
    simp only [Act.put, List.setIfInBounds_toArray, List.set_cons_succ, List.set_cons_zero]
    refine oneH (i := 14) (by kernel_rfl) ?_
    refine opCallW (some 78) rfl rfl rfl 13 _ (run_call en13' [.tmp 70, .tmp 71, .tmp 75, .tmp 76, .tmp 77] _ rfl [.int .i64 (K : Nat), .int .i64 (N : Nat), hv (Tree.root hk), hv rt, vq] rfl) ?_
    refine (vcons_any (Tree.root hk) rt (K : Nat) (N : Nat) vq P _ HA.out.2.1.all.root R8.out.1.2.2.2.1 (R8.out.2.later hS) (ht.later (below_append R8.out.1.2.1 hS)) (hst.later (below_append R8.out.1.2.1 hS)) (by omega)).mono ?_
    rintro e y2 ⟨rfl, bb⟩
    rw [HCO.out.1]
    have hS' : Below w8.heap.size w8 y2 := below_append hS bb
    refine ⟨_, rfl, hS', ?_⟩
    clear hS bb
    have hS := hS'
    clear hS'
    simp only [Act.put, List.setIfInBounds_toArray, List.set_cons_succ, List.set_cons_zero]
    refine takeH (i := 15) (some 79) rfl rfl (by kernel_rfl) (by kernel_rfl) (by kernel_rfl) (fun _ _ _ h => h) (yPickW rfl (.tmp 69) (.tmp 78) _ rfl rfl (.bool true) rfl) hS ?_
    simp only [Act.put, List.setIfInBounds_toArray, List.set_cons_succ, List.set_cons_zero]
    refine takeH (i := 16) (some 4) rfl rfl (by kernel_rfl) (by kernel_rfl) (by kernel_rfl) (fun _ _ _ h => h) (yAssign rfl (.tmp 79) rfl (.bool true) rfl) hS ?_
    simp only [Act.put, List.setIfInBounds_toArray, List.set_cons_succ, List.set_cons_zero]
    refine wpAnyH_done (by kernel_rfl) ?_ _
    have HB9 : Hid (Below w.heap.size w _) := below_append R8.out.1.2.1 hS
    clear hS
    go_wp2_with fail
    go_ret
    exact ⟨rfl, HB9.out⟩
theorem verifyProved_any (v : Value) (L : List (List Nat)) (m : Int) (w : World) (h : ListIn w v L) (ht : TabIn w) (hst : StartIn w) (hm : -9223372036854775808 ≤ m ∧ m ≤ 9223372036854775807) (hL : ∀ c ∈ L, c.length ≤ 140737488351232) :
    Calls Tryd.prog 5 #[v, .int .i64 m] w fun e w' => e = .returned (.bool true) ∧ Below w.heap.size w w' := by
  by_cases hN : 300 < L.length
  · exact proved_many v L m w h ht hst hN
  · by_cases h0 : m < 0
    · obtain ⟨M, rfl⟩ : ∃ M : Nat, m = -(M : Int) - 1 := ⟨(-m - 1).toNat, by omega⟩
      exact proved_neg v L M w h ht hst (by omega) (by omega) hL
    · obtain ⟨M, rfl⟩ : ∃ M : Nat, m = (M : Int) := ⟨m.toNat, by omega⟩
      exact proved_pos v L M w h ht hst (by omega) (by omega) hL
end Go.Proofs.YtjdmpanemdhbbaaDoor

/- For every rows of bytes, number and hash, one root at the most is held with a proof that a tree tells, and none with a proof that has a hash more or one less: the law VerifyOne returns true and changes nothing that was there. Condition: the tables sha.start and sha.constants start as the program's text lays them (the card ties them). -/
import Derived.Test.YtjdmpanemdhbbaaDoorLawOA
import Derived.Test.YtjdmpanemdhbbaaDoorOpenRows
namespace Go.Proofs.YtjdmpanemdhbbaaDoor
open Go.RowKit

set_option maxHeartbeats 32000000 in
set_option maxRecDepth 100000 in
theorem one_neg_same (v : Value) (L : List (List Nat)) (M : Nat) (oth : List Nat) (w : World) (h : ListIn w v L) (hx : IsH oth) (ht : TabIn w) (hst : StartIn w) (hN3 : L.length ≤ 300) (hN2 : 2 ≤ L.length) (hM : M ≤ 9223372036854775807) (hL : ∀ c ∈ L, c.length ≤ 140737488351232) (heo : decide (oth = Tree.root (L.map Tree.leaf)) = true) :
    Calls Tryd.prog 6 #[v, .int .i64 (-(M : Int) - 1), hv oth] w fun e w' => e = .returned (.bool true) ∧ Below w.heap.size w w' := by
  obtain ⟨N, hN'⟩ : ∃ N, L.length = N := ⟨_, rfl⟩
  have HNL : Hid (L.length = N) := hN'
  have hb : ¬ (300 : Int) < (N : Int) := by omega
  have hf : ¬ (N : Int) < 2 := by omega
  have HL : Hid (∀ c ∈ L, c.length + 1024 ≤ 140737488355328) := fun c hc => by have := hL c hc; omega
  have HE0 : Hid (decide (oth = Tree.root (L.map Tree.leaf)) = true) := heo
  have h300 : N ≤ 300 := by omega
  have hN2' : 2 ≤ N := by omega
  have hneg : -(M : Int) - 1 < 0 := by omega
  have HX : Hid (IsH oth) := hx
  obtain ⟨B, hB⟩ : ∃ B, B = w.heap.size := ⟨_, rfl⟩
  have HB : Hid (B = w.heap.size) := hB
  clear hN3 hN2 hN' hL heo hx hB
  go_enter Tryd.func6, Tryd.ntmps6
  go_wp2_with ((first
    | (refine wl_box (.tmp 2) rfl rfl oth HX.out rfl ?_; rw [← HB.out]; intro w0 r0 s0 b0; have R0 : Hid (HIs w0 B oth ∧ Below w.heap.size w w0) := ⟨r0, HB.out ▸ b0⟩; clear r0 s0 b0)
    | (go_at_call 9; refine (shown_any w0 (ht.later R0.out.2) (hst.later R0.out.2)).mono ?_; rintro e w1 ⟨rfl, b1⟩; have R1 : Hid (HIs w1 B oth ∧ Below w.heap.size w w1) := ⟨R0.out.1.next b1, below_append R0.out.2 b1⟩; clear b1)
    | (refine wl_rlen (.tmp 20) rfl rfl v L rfl h N HNL.out ?_)
    | (refine wl_rlen (.tmp 24) rfl rfl v L rfl h N HNL.out ?_)
    | (go_at_call 15; refine (leaves_any v L w1 (h.later R1.out.2) (by have := HNL.out; omega) HL.out).mono ?_; rintro e w2 ⟨vl, rfl, o2, b2⟩; have R2 : Hid (HIn w2 vl (L.map Tree.leaf) ∧ Below w.heap.size w w2 ∧ (L.map Tree.leaf).length = N ∧ HIs w2 B oth) := ⟨o2.hin, below_append R1.out.2 b2, (leafs_length L).trans HNL.out, R1.out.1.next b2⟩; have HE := HE0; clear o2 b2 HE0; generalize L.map Tree.leaf = hs at R2 HE)
    | (refine wl_lenN (.tmp 31) rfl rfl vl hs rfl R2.out.1 N R2.out.2.2.1 ?_)
    | (refine wl_neg (.tmp 36) rfl rfl _ rfl M (by omega) hM ?_)
    | (refine wl_rem (.tmp 38) (.tmp 39) rfl rfl M N rfl rfl (by omega) ?_)); try simp only [Act.put, List.setIfInBounds_toArray, List.set_cons_succ, List.set_cons_zero])
  obtain ⟨K, hK, hKN⟩ : ∃ K : Nat, (M : Int) % (N : Int) = (K : Int) ∧ K < N := ⟨M % N, by rw [Int.natCast_emod], Nat.mod_lt M (by omega)⟩
  rw [hK]
  clear hK
  refine (refRoot_any N vl hs w2 R2.out.2.2.1 (by omega) R2.out.1).mono ?_
  rintro e w3 ⟨rfl, b3⟩
  have hlen := R2.out.2.2.1
  have hP9 := Tree.incl_length 9 hs K (by omega)
  have hPn := Tree.incl_ne hs K (by omega)
  obtain ⟨n0, hn0⟩ : ∃ n0, (Tree.incl hs K).length = n0 + 1 := ⟨(Tree.incl hs K).length - 1, by omega⟩
  have HI : Hid (Tree.inclOk (hs.getD K []) (K : Nat) (N : Nat) (Tree.incl hs K) oth = decide (Tree.root hs = oth) ∧ Tree.inclOk (hs.getD K []) (K : Nat) (N : Nat) (Tree.incl hs K ++ [oth]) (Tree.root hs) = false ∧ Tree.inclOk (hs.getD K []) (K : Nat) (N : Nat) ((Tree.incl hs K).drop 1) (Tree.root hs) = false ∧ Tree.inclOk (hs.getD K []) (K : Nat) (N : Nat) ((Tree.incl hs K).take n0) (Tree.root hs) = false) :=
    ⟨Tree.inclOk_incl hs K N hlen hKN oth, Tree.inclOk_len hs K N hlen hKN _ (by simp) _ _, Tree.inclOk_len hs K N hlen hKN _ (by simp; omega) _ _, Tree.inclOk_len hs K N hlen hKN _ (by simp; omega) _ _⟩
  have HA : Hid (inclAns hs K = Tree.incl hs K ∧ inclErr hs K = 0) := inclAns_nat hs K (by omega)
  have HCK : Hid (1 ≤ K → Tree.consOk (K : Nat) (N : Nat) (Tree.root (hs.take K)) oth (consAns hs K) = decide (Tree.root hs = oth) ∧ Tree.consOk (K : Nat) (N : Nat) (Tree.root (hs.take K)) (Tree.root hs) (consAns hs K ++ [oth]) = false ∧ Tree.consOk (K : Nat) (N : Nat) (Tree.root (hs.take K)) (Tree.root hs) ((consAns hs K).drop 1) = false ∧ (∃ n1, (consAns hs K).length = n1 + 1) ∧ (consAns hs K).length ≤ 1000) := fun h1 => by
    have hq9 := Tree.part_length 9 hs K true (by omega)
    have hqn := Tree.part_ne hs K true (by omega) h1
    rw [consAns_nat hs K (by omega) h1]
    exact ⟨Tree.consOk_part hs K N hlen (by omega) h1 oth, Tree.consOk_len hs K N hlen (by omega) h1 _ (by simp) _ _, Tree.consOk_len hs K N hlen (by omega) h1 _ (by simp; omega) _ _, ⟨_, (by omega : (Tree.part hs K true).length = ((Tree.part hs K true).length - 1) + 1)⟩, by omega⟩
  have HCE : Hid (consErr hs K = 0) := consErr_nat hs K (by omega)
  have HPL : Hid ((Tree.incl hs K).length ≤ 1000) := by show _ ≤ _; omega
  have HP0 : Hid ((Tree.incl hs K).length = n0 + 1) := hn0
  have hn0m : n0 ≤ 1000 := by omega
  have hne0 : ((n0 : Int) + 1 == 0) = false := by simp; omega
  have hne0' : ¬ ((n0 : Int) + 1 = 0) := by omega
  have R3 : Hid (HIn w3 vl hs ∧ Below w.heap.size w w3 ∧ hs.length = N ∧ HIs w3 B oth ∧ IsH (Tree.root hs)) := ⟨R2.out.1.later b3, below_append R2.out.2.1 b3, R2.out.2.2.1, R2.out.2.2.2.next b3, R2.out.1.all.root⟩
  clear b3 R2 hP9 hPn hn0 hlen
  obtain ⟨rt, hrt⟩ : ∃ rt, rt = Tree.root hs := ⟨_, rfl⟩
  rw [← hrt] at R3 HI HCK HE ⊢
  have HRE : Hid (decide (rt = oth) = true) := by
    have e := HE.out
    have : decide (rt = oth) = decide (oth = rt) := by rw [decide_eq_decide]; exact ⟨Eq.symm, Eq.symm⟩
    rw [this]
    exact e
  clear hrt
  go_wp2_with ((first
    | (refine wl_new rfl rfl rfl rfl rfl (.tmp 42) rfl rt R3.out.2.2.2.2 (fun _ => rfl) (fun _ => rfl) ?_; intro w4 r4 s4 b4; have R4 : Hid (HIn w4 vl hs ∧ Below w.heap.size w w4 ∧ hs.length = N ∧ HIs w4 B oth ∧ HIs w4 w3.heap.size rt) := ⟨R3.out.1.later b4, below_append R3.out.2.1 b4, R3.out.2.2.1, R3.out.2.2.2.1.next b4, r4⟩; clear r4 s4 b4; generalize w3.heap.size = gr at R4 ⊢)); try simp only [Act.put, List.setIfInBounds_toArray, List.set_cons_succ, List.set_cons_zero])
  refine (incl_any vl hs (K : Nat) w4 R4.out.1 (ht.later R4.out.2.1) (hst.later R4.out.2.1) (by have := R4.out.2.2.1; omega)).mono ?_
  rintro e w5 ⟨vp, rfl, o5, b5⟩
  rw [HA.out.1] at o5
  rw [HA.out.2]
  generalize Tree.incl hs K = P0 at HI HPL HP0 o5
  have R5 : Hid (HIn w5 vl hs ∧ Below w.heap.size w w5 ∧ hs.length = N ∧ HIs w5 B oth ∧ HIs w5 gr rt ∧ HIn w5 vp P0) := ⟨R4.out.1.later b5, below_append R4.out.2.1 b5, R4.out.2.2.1, R4.out.2.2.2.1.next b5, R4.out.2.2.2.2.next b5, o5.hin⟩
  clear o5 b5 R4 HA
  obtain ⟨pa, rp, sp⟩ := run_hindex R5.out.1 K (by have := R5.out.2.2.1; omega)
  obtain ⟨vd, rd, sd⟩ := run_hfrom R5.out.2.2.2.2.2 1 (by have := HP0.out; omega)
  obtain ⟨vt, rtk, st⟩ := run_hto R5.out.2.2.2.2.2 n0 (by have := HP0.out; omega)
  have HPA : Hid ((∀ w', (Instr.indexAt 24 vl (.int .i64 (K : Nat))).run Tryd.prog w' = .ok pa w') ∧ HAt w5 pa (hs.getD K [])) := ⟨rp, sp⟩
  have HVD : Hid ((∀ w', (Instr.slice 24 vp (some (.int .i64 ((1 : Nat) : Int))) none none).run Tryd.prog w' = .ok vd w') ∧ HIn w5 vd (P0.drop 1)) := ⟨rd, sd⟩
  have HVT : Hid ((∀ w', (Instr.slice 24 vp none (some (.int .i64 (n0 : Nat))) none).run Tryd.prog w' = .ok vt w') ∧ HIn w5 vt (P0.take n0)) := ⟨rtk, st⟩
  clear rp sp rd sd rtk st
  obtain ⟨x, hxx⟩ : ∃ x, x = hs.getD K [] := ⟨_, rfl⟩
  rw [← hxx] at HPA HI
  clear hxx
  go_wp2_with ((first
    | (refine wl_lenN (.tmp 52) rfl rfl vp P0 rfl R5.out.2.2.2.2.2 (n0 + 1) HP0.out ?_)); try simp only [Act.put, List.setIfInBounds_toArray, List.set_cons_succ, List.set_cons_zero])
  go_upto_region 15 with fail
  go_cut [112] from 56 to 111 (fun s W => s = .bool false ∧ Below w5.heap.size w5 W)
  case first =>
    refine wp_region_held (S := fun W => Below w5.heap.size w5 W) (by kernel_rfl) ?_
    show wpAnyH _ _ _ _ _ 57 (Array.replicate 57 false) _ _
    have hS : Below w5.heap.size w5 { w5 with drawn := w5.drawn + 1 } := below_drawn w5 _
    refine takeH (i := 0) (some 56) rfl rfl (by kernel_rfl) (by kernel_rfl) (by kernel_rfl) (fun _ _ _ h => h) (yRunW rfl (hv oth) (fun W hW => rx_load (.tmp 5) rfl (.pointer (some ⟨B, 0, none⟩)) rfl oth ((R5.out.2.2.2.1.next hW).at))) hS ?_
    simp only [Act.put, List.setIfInBounds_toArray, List.set_cons_succ, List.set_cons_zero]
    refine takeH (i := 1) (some 57) rfl rfl (by kernel_rfl) (by kernel_rfl) (by kernel_rfl) (fun _ _ _ h => h) (yRunW rfl (hv rt) (fun W hW => rx_load (.tmp 10) rfl (.pointer (some ⟨gr, 0, none⟩)) rfl rt ((R5.out.2.2.2.2.1.next hW).at))) hS ?_
    simp only [Act.put, List.setIfInBounds_toArray, List.set_cons_succ, List.set_cons_zero]
    refine takeH (i := 2) (some 58) rfl rfl (by kernel_rfl) (by kernel_rfl) (by kernel_rfl) (fun _ _ _ h => h) (yRunW rfl (.bool false) (fun _ _ => rx_neB (.tmp 56) (.tmp 57) rfl oth rt HX.out R5.out.2.2.2.2.1.1 rfl rfl true HE.out)) hS ?_
    simp only [Act.put, List.setIfInBounds_toArray, List.set_cons_succ, List.set_cons_zero]
    refine takeH (i := 3) (some 59) rfl rfl (by kernel_rfl) (by kernel_rfl) (by kernel_rfl) (fun _ _ _ h => h) (yMoveW rfl (.tmp 58) rfl (.bool false) rfl) hS ?_
    simp only [Act.put, List.setIfInBounds_toArray, List.set_cons_succ, List.set_cons_zero]
    refine takeH (i := 4) (some 60) rfl rfl (by kernel_rfl) (by kernel_rfl) (by kernel_rfl) (fun _ _ _ h => h) (yOff rfl) hS ?_
    simp only [Act.put, List.setIfInBounds_toArray, List.set_cons_succ, List.set_cons_zero]
    refine takeH (i := 5) (some 61) rfl rfl (by kernel_rfl) (by kernel_rfl) (by kernel_rfl) (fun _ _ _ h => h) (yOff rfl) hS ?_
    simp only [Act.put, List.setIfInBounds_toArray, List.set_cons_succ, List.set_cons_zero]
    refine takeH (i := 6) (some 62) rfl rfl (by kernel_rfl) (by kernel_rfl) (by kernel_rfl) (fun _ _ _ h => h) (yOff rfl) hS ?_
    simp only [Act.put, List.setIfInBounds_toArray, List.set_cons_succ, List.set_cons_zero]
    refine takeH (i := 7) (some 63) rfl rfl (by kernel_rfl) (by kernel_rfl) (by kernel_rfl) (fun _ _ _ h => h) (yOff rfl) hS ?_
    simp only [Act.put, List.setIfInBounds_toArray, List.set_cons_succ, List.set_cons_zero]
    refine takeH (i := 8) (some 64) rfl rfl (by kernel_rfl) (by kernel_rfl) (by kernel_rfl) (fun _ _ _ h => h) (yOff rfl) hS ?_
    simp only [Act.put, List.setIfInBounds_toArray, List.set_cons_succ, List.set_cons_zero]
    refine takeH (i := 9) (some 65) rfl rfl (by kernel_rfl) (by kernel_rfl) (by kernel_rfl) (fun _ _ _ h => h) (yOff rfl) hS ?_
    simp only [Act.put, List.setIfInBounds_toArray, List.set_cons_succ, List.set_cons_zero]
    refine takeH (i := 10) (some 66) rfl rfl (by kernel_rfl) (by kernel_rfl) (by kernel_rfl) (fun _ _ _ h => h) (yOff rfl) hS ?_
    simp only [Act.put, List.setIfInBounds_toArray, List.set_cons_succ, List.set_cons_zero]
    refine takeH (i := 11) (some 67) rfl rfl (by kernel_rfl) (by kernel_rfl) (by kernel_rfl) (fun _ _ _ h => h) (yOff rfl) hS ?_
    simp only [Act.put, List.setIfInBounds_toArray, List.set_cons_succ, List.set_cons_zero]
    refine takeH (i := 12) (some 68) rfl rfl (by kernel_rfl) (by kernel_rfl) (by kernel_rfl) (fun _ _ _ h => h) (yOff rfl) hS ?_
    simp only [Act.put, List.setIfInBounds_toArray, List.set_cons_succ, List.set_cons_zero]
    refine takeH (i := 13) (some 69) rfl rfl (by kernel_rfl) (by kernel_rfl) (by kernel_rfl) (fun _ _ _ h => h) (yPickF rfl (.tmp 59) _ (.const (.bool false)) rfl rfl (.bool false) rfl) hS ?_
    simp only [Act.put, List.setIfInBounds_toArray, List.set_cons_succ, List.set_cons_zero]
    refine takeH (i := 14) (some 70) rfl rfl (by kernel_rfl) (by kernel_rfl) (by kernel_rfl) (fun _ _ _ h => h) (yMoveW rfl (.tmp 69) rfl (.bool false) rfl) hS ?_
    simp only [Act.put, List.setIfInBounds_toArray, List.set_cons_succ, List.set_cons_zero]
    refine takeH (i := 15) (some 71) rfl rfl (by kernel_rfl) (by kernel_rfl) (by kernel_rfl) (fun _ _ _ h => h) (yMoveW rfl (.tmp 8) rfl (vl) rfl) hS ?_
    simp only [Act.put, List.setIfInBounds_toArray, List.set_cons_succ, List.set_cons_zero]
    refine takeH (i := 16) (some 72) rfl rfl (by kernel_rfl) (by kernel_rfl) (by kernel_rfl) (fun _ _ _ h => h) (yMoveW rfl (.tmp 1) rfl (.int .i64 (K : Nat)) rfl) hS ?_
    simp only [Act.put, List.setIfInBounds_toArray, List.set_cons_succ, List.set_cons_zero]
    refine takeH (i := 17) (some 73) rfl rfl (by kernel_rfl) (by kernel_rfl) (by kernel_rfl) (fun _ _ _ h => h) (yRunW rfl pa (fun _ _ => rx_index (.tmp 71) (.tmp 72) rfl vl pa rfl _ rfl HPA.out.1)) hS ?_
    simp only [Act.put, List.setIfInBounds_toArray, List.set_cons_succ, List.set_cons_zero]
    refine takeH (i := 18) (some 74) rfl rfl (by kernel_rfl) (by kernel_rfl) (by kernel_rfl) (fun _ _ _ h => h) (yRunW rfl (hv x) (fun W hW => rx_load (.tmp 73) rfl (pa) rfl x ((HPA.out.2.later hW)))) hS ?_
    simp only [Act.put, List.setIfInBounds_toArray, List.set_cons_succ, List.set_cons_zero]
    refine takeH (i := 19) (some 75) rfl rfl (by kernel_rfl) (by kernel_rfl) (by kernel_rfl) (fun _ _ _ h => h) (yMoveW rfl (.tmp 1) rfl (.int .i64 (K : Nat)) rfl) hS ?_
    simp only [Act.put, List.setIfInBounds_toArray, List.set_cons_succ, List.set_cons_zero]
    refine takeH (i := 20) (some 76) rfl rfl (by kernel_rfl) (by kernel_rfl) (by kernel_rfl) (fun _ _ _ h => h) (yMoveW rfl (.tmp 9) rfl (.int .i64 (N : Nat)) rfl) hS ?_
    simp only [Act.put, List.setIfInBounds_toArray, List.set_cons_succ, List.set_cons_zero]
    refine takeH (i := 22) (some 78) rfl rfl (by kernel_rfl) (by kernel_rfl) (by kernel_rfl) (fun _ _ _ h => h) (yMoveW rfl (.tmp 11) rfl (vp) rfl) hS ?_
    simp only [Act.put, List.setIfInBounds_toArray, List.set_cons_succ, List.set_cons_zero]
    refine takeH (i := 24) (some 80) rfl rfl (by kernel_rfl) (by kernel_rfl) (by kernel_rfl) (fun _ _ _ h => h) (yRunW rfl (hv oth) (fun W hW => rx_load (.tmp 5) rfl (.pointer (some ⟨B, 0, none⟩)) rfl oth ((R5.out.2.2.2.1.next hW).at))) hS ?_
    simp only [Act.put, List.setIfInBounds_toArray, List.set_cons_succ, List.set_cons_zero]
    refine takeH (i := 27) (some 83) rfl rfl (by kernel_rfl) (by kernel_rfl) (by kernel_rfl) (fun _ _ _ h => h) (yRunW rfl (hv rt) (fun W hW => rx_load (.tmp 10) rfl (.pointer (some ⟨gr, 0, none⟩)) rfl rt ((R5.out.2.2.2.2.1.next hW).at))) hS ?_
    simp only [Act.put, List.setIfInBounds_toArray, List.set_cons_succ, List.set_cons_zero]
    refine twoH (i := 21) (j := 25) (by kernel_rfl) ?_ ?_
    · refine opLit0 (some 77) rfl rfl rfl rfl ?_
      intro x1 Gx1 Rx1 bb hq
      have HGGx1 : w5.heap.size ≤ Gx1 := Nat.le_trans hS.size hq
      have hS' : Below w5.heap.size w5 x1 := below_append hS bb
      refine ⟨hS', ?_⟩
      clear hS bb hq
      have hS := hS'
      clear hS'
      simp only [Act.put, List.setIfInBounds_toArray, List.set_cons_succ, List.set_cons_zero]
      refine twoH (i := 23) (j := 25) (by kernel_rfl) ?_ ?_
      · obtain ⟨Vx2, x2, ra, Lx2, bb⟩ := app_first 24 Gx1 Rx1 vp P0 (R5.out.2.2.2.2.2.later hS) (by have := HPL.out; omega)
        refine opValW (some 79) rfl rfl rfl Vx2 x2 (rx_append (.tmp 77) (.tmp 78) rfl _ _ Vx2 x2 rfl rfl ra) ?_
        have hS' : Below w5.heap.size w5 x2 := below_append hS bb
        refine ⟨hS', ?_⟩
        have Rx1' : Row x2 Gx1 23 [] := Rx1.later bb Rx1.lt
        clear Rx1
        have Rx1 := Rx1'
        clear Rx1'
        clear hS bb ra
        have hS := hS'
        clear hS'
        simp only [Act.put, List.setIfInBounds_toArray, List.set_cons_succ, List.set_cons_zero]
        refine oneH (i := 25) (by kernel_rfl) ?_
        refine opLit1 (some 81) rfl rfl rfl (.tmp 80) rfl oth HX.out rfl ?_
        intro Vx3 x3 Lx3 bb
        have hS' : Below w5.heap.size w5 x3 := below_append hS bb
        refine ⟨hS', ?_⟩
        have Rx1' : Row x3 Gx1 23 [] := Rx1.later bb Rx1.lt
        clear Rx1
        have Rx1 := Rx1'
        clear Rx1'
        have Lx2' : HOwn x3 Gx1 Vx2 P0 := Lx2.later bb (Nat.le_refl _)
        clear Lx2
        have Lx2 := Lx2'
        clear Lx2'
        clear hS bb
        have hS := hS'
        clear hS'
        simp only [Act.put, List.setIfInBounds_toArray, List.set_cons_succ, List.set_cons_zero]
        refine oneH (i := 26) (by kernel_rfl) ?_
        obtain ⟨Vx4, x4, ra, Lx4, gg⟩ := run_happend Gx1 24 Vx2 Vx3 P0 [oth] Lx2 (Lx3) (by have := HPL.out; simp; omega) (by have := Rx1.lt; omega)
        have bb := Lx2.below gg (by have := Rx1.lt; omega)
        refine opValW (some 82) rfl rfl rfl Vx4 x4 (rx_append (.tmp 79) (.tmp 81) rfl _ _ Vx4 x4 rfl rfl ra) ?_
        have hS' : Below w5.heap.size w5 x4 := hS.trans (bb.mono HGGx1)
        refine ⟨hS', ?_⟩
        clear ra gg bb Rx1 Lx2 Lx3
        clear hS
        have hS := hS'
        clear hS'
        simp only [Act.put, List.setIfInBounds_toArray, List.set_cons_succ, List.set_cons_zero]
        refine oneH (i := 28) (by kernel_rfl) ?_
        refine opCallW (some 84) rfl rfl rfl 10 _ (run_call en10 [.tmp 74, .tmp 75, .tmp 76, .tmp 82, .tmp 83] _ rfl [hv x, .int .i64 (K : Nat), .int .i64 (N : Nat), Vx4, hv rt] rfl) ?_
        refine (vincl_any x rt (K : Nat) (N : Nat) Vx4 (P0 ++ [oth]) _ HPA.out.2.1 R5.out.2.2.2.2.1.1 Lx4.hin (ht.later (below_append R5.out.2.1 hS)) (hst.later (below_append R5.out.2.1 hS)) (by omega)).mono ?_
        rintro e x5 ⟨rfl, bb⟩
        rw [HI.out.2.1]
        have hS' : Below w5.heap.size w5 x5 := below_append hS bb
        refine ⟨_, rfl, hS', ?_⟩
        have Lx4' : HOwn x5 Gx1 Vx4 (P0 ++ [oth]) := Lx4.later bb (Nat.le_refl _)
        clear Lx4
        have Lx4 := Lx4'
        clear Lx4'
        clear hS bb
        have hS := hS'
        clear hS'
        simp only [Act.put, List.setIfInBounds_toArray, List.set_cons_succ, List.set_cons_zero]
        refine takeH (i := 29) (some 85) rfl rfl (by kernel_rfl) (by kernel_rfl) (by kernel_rfl) (fun _ _ _ h => h) (yPickF rfl (.tmp 70) _ (.tmp 84) rfl rfl (.bool false) rfl) hS ?_
        simp only [Act.put, List.setIfInBounds_toArray, List.set_cons_succ, List.set_cons_zero]
        refine takeH (i := 30) (some 86) rfl rfl (by kernel_rfl) (by kernel_rfl) (by kernel_rfl) (fun _ _ _ h => h) (yMoveW rfl (.tmp 85) rfl (.bool false) rfl) hS ?_
        simp only [Act.put, List.setIfInBounds_toArray, List.set_cons_succ, List.set_cons_zero]
        refine takeH (i := 31) (some 87) rfl rfl (by kernel_rfl) (by kernel_rfl) (by kernel_rfl) (fun _ _ _ h => h) (yMoveW rfl (.tmp 8) rfl (vl) rfl) hS ?_
        simp only [Act.put, List.setIfInBounds_toArray, List.set_cons_succ, List.set_cons_zero]
        refine takeH (i := 32) (some 88) rfl rfl (by kernel_rfl) (by kernel_rfl) (by kernel_rfl) (fun _ _ _ h => h) (yMoveW rfl (.tmp 1) rfl (.int .i64 (K : Nat)) rfl) hS ?_
        simp only [Act.put, List.setIfInBounds_toArray, List.set_cons_succ, List.set_cons_zero]
        refine takeH (i := 33) (some 89) rfl rfl (by kernel_rfl) (by kernel_rfl) (by kernel_rfl) (fun _ _ _ h => h) (yRunW rfl pa (fun _ _ => rx_index (.tmp 87) (.tmp 88) rfl vl pa rfl _ rfl HPA.out.1)) hS ?_
        simp only [Act.put, List.setIfInBounds_toArray, List.set_cons_succ, List.set_cons_zero]
        refine takeH (i := 34) (some 90) rfl rfl (by kernel_rfl) (by kernel_rfl) (by kernel_rfl) (fun _ _ _ h => h) (yRunW rfl (hv x) (fun W hW => rx_load (.tmp 89) rfl (pa) rfl x ((HPA.out.2.later hW)))) hS ?_
        simp only [Act.put, List.setIfInBounds_toArray, List.set_cons_succ, List.set_cons_zero]
        refine takeH (i := 35) (some 91) rfl rfl (by kernel_rfl) (by kernel_rfl) (by kernel_rfl) (fun _ _ _ h => h) (yMoveW rfl (.tmp 1) rfl (.int .i64 (K : Nat)) rfl) hS ?_
        simp only [Act.put, List.setIfInBounds_toArray, List.set_cons_succ, List.set_cons_zero]
        refine takeH (i := 36) (some 92) rfl rfl (by kernel_rfl) (by kernel_rfl) (by kernel_rfl) (fun _ _ _ h => h) (yMoveW rfl (.tmp 9) rfl (.int .i64 (N : Nat)) rfl) hS ?_
        simp only [Act.put, List.setIfInBounds_toArray, List.set_cons_succ, List.set_cons_zero]
        refine takeH (i := 37) (some 93) rfl rfl (by kernel_rfl) (by kernel_rfl) (by kernel_rfl) (fun _ _ _ h => h) (yMoveW rfl (.tmp 11) rfl (vp) rfl) hS ?_
        simp only [Act.put, List.setIfInBounds_toArray, List.set_cons_succ, List.set_cons_zero]
        refine takeH (i := 38) (some 94) rfl rfl (by kernel_rfl) (by kernel_rfl) (by kernel_rfl) (fun _ _ _ h => h) (yRunW rfl vd (fun _ _ => rx_sub (.tmp 93) (some (.const (.int .i64 1))) none rfl vp vd rfl HVD.out.1)) hS ?_
        simp only [Act.put, List.setIfInBounds_toArray, List.set_cons_succ, List.set_cons_zero]
        refine takeH (i := 39) (some 95) rfl rfl (by kernel_rfl) (by kernel_rfl) (by kernel_rfl) (fun _ _ _ h => h) (yRunW rfl (hv rt) (fun W hW => rx_load (.tmp 10) rfl (.pointer (some ⟨gr, 0, none⟩)) rfl rt ((R5.out.2.2.2.2.1.next hW).at))) hS ?_
        simp only [Act.put, List.setIfInBounds_toArray, List.set_cons_succ, List.set_cons_zero]
        refine oneH (i := 40) (by kernel_rfl) ?_
        refine opCallW (some 96) rfl rfl rfl 10 _ (run_call en10 [.tmp 90, .tmp 91, .tmp 92, .tmp 94, .tmp 95] _ rfl [hv x, .int .i64 (K : Nat), .int .i64 (N : Nat), vd, hv rt] rfl) ?_
        refine (vincl_any x rt (K : Nat) (N : Nat) vd (P0.drop 1) _ HPA.out.2.1 R5.out.2.2.2.2.1.1 (HVD.out.2.later hS) (ht.later (below_append R5.out.2.1 hS)) (hst.later (below_append R5.out.2.1 hS)) (by omega)).mono ?_
        rintro e x6 ⟨rfl, bb⟩
        rw [HI.out.2.2.1]
        have hS' : Below w5.heap.size w5 x6 := below_append hS bb
        refine ⟨_, rfl, hS', ?_⟩
        have Lx4' : HOwn x6 Gx1 Vx4 (P0 ++ [oth]) := Lx4.later bb (Nat.le_refl _)
        clear Lx4
        have Lx4 := Lx4'
        clear Lx4'
        clear hS bb
        have hS := hS'
        clear hS'
        simp only [Act.put, List.setIfInBounds_toArray, List.set_cons_succ, List.set_cons_zero]
        refine takeH (i := 41) (some 97) rfl rfl (by kernel_rfl) (by kernel_rfl) (by kernel_rfl) (fun _ _ _ h => h) (yPickF rfl (.tmp 86) _ (.tmp 96) rfl rfl (.bool false) rfl) hS ?_
        simp only [Act.put, List.setIfInBounds_toArray, List.set_cons_succ, List.set_cons_zero]
        refine takeH (i := 42) (some 98) rfl rfl (by kernel_rfl) (by kernel_rfl) (by kernel_rfl) (fun _ _ _ h => h) (yMoveW rfl (.tmp 97) rfl (.bool false) rfl) hS ?_
        simp only [Act.put, List.setIfInBounds_toArray, List.set_cons_succ, List.set_cons_zero]
        refine takeH (i := 43) (some 99) rfl rfl (by kernel_rfl) (by kernel_rfl) (by kernel_rfl) (fun _ _ _ h => h) (yMoveW rfl (.tmp 8) rfl (vl) rfl) hS ?_
        simp only [Act.put, List.setIfInBounds_toArray, List.set_cons_succ, List.set_cons_zero]
        refine takeH (i := 44) (some 100) rfl rfl (by kernel_rfl) (by kernel_rfl) (by kernel_rfl) (fun _ _ _ h => h) (yMoveW rfl (.tmp 1) rfl (.int .i64 (K : Nat)) rfl) hS ?_
        simp only [Act.put, List.setIfInBounds_toArray, List.set_cons_succ, List.set_cons_zero]
        refine takeH (i := 45) (some 101) rfl rfl (by kernel_rfl) (by kernel_rfl) (by kernel_rfl) (fun _ _ _ h => h) (yRunW rfl pa (fun _ _ => rx_index (.tmp 99) (.tmp 100) rfl vl pa rfl _ rfl HPA.out.1)) hS ?_
        simp only [Act.put, List.setIfInBounds_toArray, List.set_cons_succ, List.set_cons_zero]
        refine takeH (i := 46) (some 102) rfl rfl (by kernel_rfl) (by kernel_rfl) (by kernel_rfl) (fun _ _ _ h => h) (yRunW rfl (hv x) (fun W hW => rx_load (.tmp 101) rfl (pa) rfl x ((HPA.out.2.later hW)))) hS ?_
        simp only [Act.put, List.setIfInBounds_toArray, List.set_cons_succ, List.set_cons_zero]
        refine takeH (i := 47) (some 103) rfl rfl (by kernel_rfl) (by kernel_rfl) (by kernel_rfl) (fun _ _ _ h => h) (yMoveW rfl (.tmp 1) rfl (.int .i64 (K : Nat)) rfl) hS ?_
        simp only [Act.put, List.setIfInBounds_toArray, List.set_cons_succ, List.set_cons_zero]
        refine takeH (i := 48) (some 104) rfl rfl (by kernel_rfl) (by kernel_rfl) (by kernel_rfl) (fun _ _ _ h => h) (yMoveW rfl (.tmp 9) rfl (.int .i64 (N : Nat)) rfl) hS ?_
        simp only [Act.put, List.setIfInBounds_toArray, List.set_cons_succ, List.set_cons_zero]
        refine takeH (i := 49) (some 105) rfl rfl (by kernel_rfl) (by kernel_rfl) (by kernel_rfl) (fun _ _ _ h => h) (yMoveW rfl (.tmp 11) rfl (vp) rfl) hS ?_
        simp only [Act.put, List.setIfInBounds_toArray, List.set_cons_succ, List.set_cons_zero]
        refine takeH (i := 50) (some 106) rfl rfl (by kernel_rfl) (by kernel_rfl) (by kernel_rfl) (fun _ _ _ h => h) (yMoveW rfl (.tmp 11) rfl (vp) rfl) hS ?_
        simp only [Act.put, List.setIfInBounds_toArray, List.set_cons_succ, List.set_cons_zero]
        refine takeH (i := 51) (some 107) rfl rfl (by kernel_rfl) (by kernel_rfl) (by kernel_rfl) (fun _ _ _ h => h) (yLen rfl (.tmp 106) rfl vp P0 rfl _ (R5.out.2.2.2.2.2.later hS) (n0 + 1) HP0.out) hS ?_
        simp only [Act.put, List.setIfInBounds_toArray, List.set_cons_succ, List.set_cons_zero]
        refine takeH (i := 52) (some 108) rfl rfl (by kernel_rfl) (by kernel_rfl) (by kernel_rfl) (fun _ _ _ h => h) (yRunW rfl (.int .i64 (n0 : Nat)) (fun _ _ => rx_pred (.tmp 107) (.const (.int .i64 1)) rfl n0 rfl rfl (by omega))) hS ?_
        simp only [Act.put, List.setIfInBounds_toArray, List.set_cons_succ, List.set_cons_zero]
        refine takeH (i := 53) (some 109) rfl rfl (by kernel_rfl) (by kernel_rfl) (by kernel_rfl) (fun _ _ _ h => h) (yRunW rfl vt (fun _ _ => rx_sub (.tmp 105) none (some (.tmp 108)) rfl vp vt rfl HVT.out.1)) hS ?_
        simp only [Act.put, List.setIfInBounds_toArray, List.set_cons_succ, List.set_cons_zero]
        refine takeH (i := 54) (some 110) rfl rfl (by kernel_rfl) (by kernel_rfl) (by kernel_rfl) (fun _ _ _ h => h) (yRunW rfl (hv rt) (fun W hW => rx_load (.tmp 10) rfl (.pointer (some ⟨gr, 0, none⟩)) rfl rt ((R5.out.2.2.2.2.1.next hW).at))) hS ?_
        simp only [Act.put, List.setIfInBounds_toArray, List.set_cons_succ, List.set_cons_zero]
        refine oneH (i := 55) (by kernel_rfl) ?_
        refine opCallW (some 111) rfl rfl rfl 10 _ (run_call en10 [.tmp 102, .tmp 103, .tmp 104, .tmp 109, .tmp 110] _ rfl [hv x, .int .i64 (K : Nat), .int .i64 (N : Nat), vt, hv rt] rfl) ?_
        refine (vincl_any x rt (K : Nat) (N : Nat) vt (P0.take n0) _ HPA.out.2.1 R5.out.2.2.2.2.1.1 (HVT.out.2.later hS) (ht.later (below_append R5.out.2.1 hS)) (hst.later (below_append R5.out.2.1 hS)) (by omega)).mono ?_
        rintro e x7 ⟨rfl, bb⟩
        rw [HI.out.2.2.2]
        have hS' : Below w5.heap.size w5 x7 := below_append hS bb
        refine ⟨_, rfl, hS', ?_⟩
        have Lx4' : HOwn x7 Gx1 Vx4 (P0 ++ [oth]) := Lx4.later bb (Nat.le_refl _)
        clear Lx4
        have Lx4 := Lx4'
        clear Lx4'
        clear hS bb
        have hS := hS'
        clear hS'
        simp only [Act.put, List.setIfInBounds_toArray, List.set_cons_succ, List.set_cons_zero]
        refine takeH (i := 56) (some 112) rfl rfl (by kernel_rfl) (by kernel_rfl) (by kernel_rfl) (fun _ _ _ h => h) (yPickF rfl (.tmp 98) _ (.tmp 111) rfl rfl (.bool false) rfl) hS ?_
        simp only [Act.put, List.setIfInBounds_toArray, List.set_cons_succ, List.set_cons_zero]
        refine wpAnyH_done (by kernel_rfl) ?_ _
        have RZ : Hid (Below w5.heap.size w5 _) := hS
        clear hS Lx4
        go_wp2_with fail
        go_meet
        case rel => exact ⟨rfl, RZ.out⟩
      · refine opLit1 (some 81) rfl rfl rfl (.tmp 80) rfl oth HX.out rfl ?_
        intro Vx8 x8 Lx8 bb
        have hS' : Below w5.heap.size w5 x8 := below_append hS bb
        refine ⟨hS', ?_⟩
        have Rx1' : Row x8 Gx1 23 [] := Rx1.later bb Rx1.lt
        clear Rx1
        have Rx1 := Rx1'
        clear Rx1'
        clear hS bb
        have hS := hS'
        clear hS'
        simp only [Act.put, List.setIfInBounds_toArray, List.set_cons_succ, List.set_cons_zero]
        refine oneH (i := 23) (by kernel_rfl) ?_
        obtain ⟨Vx9, x9, ra, Lx9, bb⟩ := app_first 24 Gx1 Rx1 vp P0 (R5.out.2.2.2.2.2.later hS) (by have := HPL.out; omega)
        refine opValW (some 79) rfl rfl rfl Vx9 x9 (rx_append (.tmp 77) (.tmp 78) rfl _ _ Vx9 x9 rfl rfl ra) ?_
        have hS' : Below w5.heap.size w5 x9 := below_append hS bb
        refine ⟨hS', ?_⟩
        have Rx1' : Row x9 Gx1 23 [] := Rx1.later bb Rx1.lt
        clear Rx1
        have Rx1 := Rx1'
        clear Rx1'
        have Lx8' : HIn x9 Vx8 [oth] := Lx8.later bb
        clear Lx8
        have Lx8 := Lx8'
        clear Lx8'
        clear hS bb ra
        have hS := hS'
        clear hS'
        simp only [Act.put, List.setIfInBounds_toArray, List.set_cons_succ, List.set_cons_zero]
        refine oneH (i := 26) (by kernel_rfl) ?_
        obtain ⟨Vx10, x10, ra, Lx10, gg⟩ := run_happend Gx1 24 Vx9 Vx8 P0 [oth] Lx9 (Lx8) (by have := HPL.out; simp; omega) (by have := Rx1.lt; omega)
        have bb := Lx9.below gg (by have := Rx1.lt; omega)
        refine opValW (some 82) rfl rfl rfl Vx10 x10 (rx_append (.tmp 79) (.tmp 81) rfl _ _ Vx10 x10 rfl rfl ra) ?_
        have hS' : Below w5.heap.size w5 x10 := hS.trans (bb.mono HGGx1)
        refine ⟨hS', ?_⟩
        clear ra gg bb Rx1 Lx8 Lx9
        clear hS
        have hS := hS'
        clear hS'
        simp only [Act.put, List.setIfInBounds_toArray, List.set_cons_succ, List.set_cons_zero]
        refine oneH (i := 28) (by kernel_rfl) ?_
        refine opCallW (some 84) rfl rfl rfl 10 _ (run_call en10 [.tmp 74, .tmp 75, .tmp 76, .tmp 82, .tmp 83] _ rfl [hv x, .int .i64 (K : Nat), .int .i64 (N : Nat), Vx10, hv rt] rfl) ?_
        refine (vincl_any x rt (K : Nat) (N : Nat) Vx10 (P0 ++ [oth]) _ HPA.out.2.1 R5.out.2.2.2.2.1.1 Lx10.hin (ht.later (below_append R5.out.2.1 hS)) (hst.later (below_append R5.out.2.1 hS)) (by omega)).mono ?_
        rintro e x11 ⟨rfl, bb⟩
        rw [HI.out.2.1]
        have hS' : Below w5.heap.size w5 x11 := below_append hS bb
        refine ⟨_, rfl, hS', ?_⟩
        have Lx10' : HOwn x11 Gx1 Vx10 (P0 ++ [oth]) := Lx10.later bb (Nat.le_refl _)
        clear Lx10
        have Lx10 := Lx10'
        clear Lx10'
        clear hS bb
        have hS := hS'
        clear hS'
        simp only [Act.put, List.setIfInBounds_toArray, List.set_cons_succ, List.set_cons_zero]
        refine takeH (i := 29) (some 85) rfl rfl (by kernel_rfl) (by kernel_rfl) (by kernel_rfl) (fun _ _ _ h => h) (yPickF rfl (.tmp 70) _ (.tmp 84) rfl rfl (.bool false) rfl) hS ?_
        simp only [Act.put, List.setIfInBounds_toArray, List.set_cons_succ, List.set_cons_zero]
        refine takeH (i := 30) (some 86) rfl rfl (by kernel_rfl) (by kernel_rfl) (by kernel_rfl) (fun _ _ _ h => h) (yMoveW rfl (.tmp 85) rfl (.bool false) rfl) hS ?_
        simp only [Act.put, List.setIfInBounds_toArray, List.set_cons_succ, List.set_cons_zero]
        refine takeH (i := 31) (some 87) rfl rfl (by kernel_rfl) (by kernel_rfl) (by kernel_rfl) (fun _ _ _ h => h) (yMoveW rfl (.tmp 8) rfl (vl) rfl) hS ?_
        simp only [Act.put, List.setIfInBounds_toArray, List.set_cons_succ, List.set_cons_zero]
        refine takeH (i := 32) (some 88) rfl rfl (by kernel_rfl) (by kernel_rfl) (by kernel_rfl) (fun _ _ _ h => h) (yMoveW rfl (.tmp 1) rfl (.int .i64 (K : Nat)) rfl) hS ?_
        simp only [Act.put, List.setIfInBounds_toArray, List.set_cons_succ, List.set_cons_zero]
        refine takeH (i := 33) (some 89) rfl rfl (by kernel_rfl) (by kernel_rfl) (by kernel_rfl) (fun _ _ _ h => h) (yRunW rfl pa (fun _ _ => rx_index (.tmp 87) (.tmp 88) rfl vl pa rfl _ rfl HPA.out.1)) hS ?_
        simp only [Act.put, List.setIfInBounds_toArray, List.set_cons_succ, List.set_cons_zero]
        refine takeH (i := 34) (some 90) rfl rfl (by kernel_rfl) (by kernel_rfl) (by kernel_rfl) (fun _ _ _ h => h) (yRunW rfl (hv x) (fun W hW => rx_load (.tmp 89) rfl (pa) rfl x ((HPA.out.2.later hW)))) hS ?_
        simp only [Act.put, List.setIfInBounds_toArray, List.set_cons_succ, List.set_cons_zero]
        refine takeH (i := 35) (some 91) rfl rfl (by kernel_rfl) (by kernel_rfl) (by kernel_rfl) (fun _ _ _ h => h) (yMoveW rfl (.tmp 1) rfl (.int .i64 (K : Nat)) rfl) hS ?_
        simp only [Act.put, List.setIfInBounds_toArray, List.set_cons_succ, List.set_cons_zero]
        refine takeH (i := 36) (some 92) rfl rfl (by kernel_rfl) (by kernel_rfl) (by kernel_rfl) (fun _ _ _ h => h) (yMoveW rfl (.tmp 9) rfl (.int .i64 (N : Nat)) rfl) hS ?_
        simp only [Act.put, List.setIfInBounds_toArray, List.set_cons_succ, List.set_cons_zero]
        refine takeH (i := 37) (some 93) rfl rfl (by kernel_rfl) (by kernel_rfl) (by kernel_rfl) (fun _ _ _ h => h) (yMoveW rfl (.tmp 11) rfl (vp) rfl) hS ?_
        simp only [Act.put, List.setIfInBounds_toArray, List.set_cons_succ, List.set_cons_zero]
        refine takeH (i := 38) (some 94) rfl rfl (by kernel_rfl) (by kernel_rfl) (by kernel_rfl) (fun _ _ _ h => h) (yRunW rfl vd (fun _ _ => rx_sub (.tmp 93) (some (.const (.int .i64 1))) none rfl vp vd rfl HVD.out.1)) hS ?_
        simp only [Act.put, List.setIfInBounds_toArray, List.set_cons_succ, List.set_cons_zero]
        refine takeH (i := 39) (some 95) rfl rfl (by kernel_rfl) (by kernel_rfl) (by kernel_rfl) (fun _ _ _ h => h) (yRunW rfl (hv rt) (fun W hW => rx_load (.tmp 10) rfl (.pointer (some ⟨gr, 0, none⟩)) rfl rt ((R5.out.2.2.2.2.1.next hW).at))) hS ?_
        simp only [Act.put, List.setIfInBounds_toArray, List.set_cons_succ, List.set_cons_zero]
        refine oneH (i := 40) (by kernel_rfl) ?_
        refine opCallW (some 96) rfl rfl rfl 10 _ (run_call en10 [.tmp 90, .tmp 91, .tmp 92, .tmp 94, .tmp 95] _ rfl [hv x, .int .i64 (K : Nat), .int .i64 (N : Nat), vd, hv rt] rfl) ?_
        refine (vincl_any x rt (K : Nat) (N : Nat) vd (P0.drop 1) _ HPA.out.2.1 R5.out.2.2.2.2.1.1 (HVD.out.2.later hS) (ht.later (below_append R5.out.2.1 hS)) (hst.later (below_append R5.out.2.1 hS)) (by omega)).mono ?_
        rintro e x12 ⟨rfl, bb⟩
        rw [HI.out.2.2.1]
        have hS' : Below w5.heap.size w5 x12 := below_append hS bb
        refine ⟨_, rfl, hS', ?_⟩
        have Lx10' : HOwn x12 Gx1 Vx10 (P0 ++ [oth]) := Lx10.later bb (Nat.le_refl _)
        clear Lx10
        have Lx10 := Lx10'
        clear Lx10'
        clear hS bb
        have hS := hS'
        clear hS'
        simp only [Act.put, List.setIfInBounds_toArray, List.set_cons_succ, List.set_cons_zero]
        refine takeH (i := 41) (some 97) rfl rfl (by kernel_rfl) (by kernel_rfl) (by kernel_rfl) (fun _ _ _ h => h) (yPickF rfl (.tmp 86) _ (.tmp 96) rfl rfl (.bool false) rfl) hS ?_
        simp only [Act.put, List.setIfInBounds_toArray, List.set_cons_succ, List.set_cons_zero]
        refine takeH (i := 42) (some 98) rfl rfl (by kernel_rfl) (by kernel_rfl) (by kernel_rfl) (fun _ _ _ h => h) (yMoveW rfl (.tmp 97) rfl (.bool false) rfl) hS ?_
        simp only [Act.put, List.setIfInBounds_toArray, List.set_cons_succ, List.set_cons_zero]
        refine takeH (i := 43) (some 99) rfl rfl (by kernel_rfl) (by kernel_rfl) (by kernel_rfl) (fun _ _ _ h => h) (yMoveW rfl (.tmp 8) rfl (vl) rfl) hS ?_
        simp only [Act.put, List.setIfInBounds_toArray, List.set_cons_succ, List.set_cons_zero]
        refine takeH (i := 44) (some 100) rfl rfl (by kernel_rfl) (by kernel_rfl) (by kernel_rfl) (fun _ _ _ h => h) (yMoveW rfl (.tmp 1) rfl (.int .i64 (K : Nat)) rfl) hS ?_
        simp only [Act.put, List.setIfInBounds_toArray, List.set_cons_succ, List.set_cons_zero]
        refine takeH (i := 45) (some 101) rfl rfl (by kernel_rfl) (by kernel_rfl) (by kernel_rfl) (fun _ _ _ h => h) (yRunW rfl pa (fun _ _ => rx_index (.tmp 99) (.tmp 100) rfl vl pa rfl _ rfl HPA.out.1)) hS ?_
        simp only [Act.put, List.setIfInBounds_toArray, List.set_cons_succ, List.set_cons_zero]
        refine takeH (i := 46) (some 102) rfl rfl (by kernel_rfl) (by kernel_rfl) (by kernel_rfl) (fun _ _ _ h => h) (yRunW rfl (hv x) (fun W hW => rx_load (.tmp 101) rfl (pa) rfl x ((HPA.out.2.later hW)))) hS ?_
        simp only [Act.put, List.setIfInBounds_toArray, List.set_cons_succ, List.set_cons_zero]
        refine takeH (i := 47) (some 103) rfl rfl (by kernel_rfl) (by kernel_rfl) (by kernel_rfl) (fun _ _ _ h => h) (yMoveW rfl (.tmp 1) rfl (.int .i64 (K : Nat)) rfl) hS ?_
        simp only [Act.put, List.setIfInBounds_toArray, List.set_cons_succ, List.set_cons_zero]
        refine takeH (i := 48) (some 104) rfl rfl (by kernel_rfl) (by kernel_rfl) (by kernel_rfl) (fun _ _ _ h => h) (yMoveW rfl (.tmp 9) rfl (.int .i64 (N : Nat)) rfl) hS ?_
        simp only [Act.put, List.setIfInBounds_toArray, List.set_cons_succ, List.set_cons_zero]
        refine takeH (i := 49) (some 105) rfl rfl (by kernel_rfl) (by kernel_rfl) (by kernel_rfl) (fun _ _ _ h => h) (yMoveW rfl (.tmp 11) rfl (vp) rfl) hS ?_
        simp only [Act.put, List.setIfInBounds_toArray, List.set_cons_succ, List.set_cons_zero]
        refine takeH (i := 50) (some 106) rfl rfl (by kernel_rfl) (by kernel_rfl) (by kernel_rfl) (fun _ _ _ h => h) (yMoveW rfl (.tmp 11) rfl (vp) rfl) hS ?_
        simp only [Act.put, List.setIfInBounds_toArray, List.set_cons_succ, List.set_cons_zero]
        refine takeH (i := 51) (some 107) rfl rfl (by kernel_rfl) (by kernel_rfl) (by kernel_rfl) (fun _ _ _ h => h) (yLen rfl (.tmp 106) rfl vp P0 rfl _ (R5.out.2.2.2.2.2.later hS) (n0 + 1) HP0.out) hS ?_
        simp only [Act.put, List.setIfInBounds_toArray, List.set_cons_succ, List.set_cons_zero]
        refine takeH (i := 52) (some 108) rfl rfl (by kernel_rfl) (by kernel_rfl) (by kernel_rfl) (fun _ _ _ h => h) (yRunW rfl (.int .i64 (n0 : Nat)) (fun _ _ => rx_pred (.tmp 107) (.const (.int .i64 1)) rfl n0 rfl rfl (by omega))) hS ?_
        simp only [Act.put, List.setIfInBounds_toArray, List.set_cons_succ, List.set_cons_zero]
        refine takeH (i := 53) (some 109) rfl rfl (by kernel_rfl) (by kernel_rfl) (by kernel_rfl) (fun _ _ _ h => h) (yRunW rfl vt (fun _ _ => rx_sub (.tmp 105) none (some (.tmp 108)) rfl vp vt rfl HVT.out.1)) hS ?_
        simp only [Act.put, List.setIfInBounds_toArray, List.set_cons_succ, List.set_cons_zero]
        refine takeH (i := 54) (some 110) rfl rfl (by kernel_rfl) (by kernel_rfl) (by kernel_rfl) (fun _ _ _ h => h) (yRunW rfl (hv rt) (fun W hW => rx_load (.tmp 10) rfl (.pointer (some ⟨gr, 0, none⟩)) rfl rt ((R5.out.2.2.2.2.1.next hW).at))) hS ?_
        simp only [Act.put, List.setIfInBounds_toArray, List.set_cons_succ, List.set_cons_zero]
        refine oneH (i := 55) (by kernel_rfl) ?_
        refine opCallW (some 111) rfl rfl rfl 10 _ (run_call en10 [.tmp 102, .tmp 103, .tmp 104, .tmp 109, .tmp 110] _ rfl [hv x, .int .i64 (K : Nat), .int .i64 (N : Nat), vt, hv rt] rfl) ?_
        refine (vincl_any x rt (K : Nat) (N : Nat) vt (P0.take n0) _ HPA.out.2.1 R5.out.2.2.2.2.1.1 (HVT.out.2.later hS) (ht.later (below_append R5.out.2.1 hS)) (hst.later (below_append R5.out.2.1 hS)) (by omega)).mono ?_
        rintro e x13 ⟨rfl, bb⟩
        rw [HI.out.2.2.2]
        have hS' : Below w5.heap.size w5 x13 := below_append hS bb
        refine ⟨_, rfl, hS', ?_⟩
        have Lx10' : HOwn x13 Gx1 Vx10 (P0 ++ [oth]) := Lx10.later bb (Nat.le_refl _)
        clear Lx10
        have Lx10 := Lx10'
        clear Lx10'
        clear hS bb
        have hS := hS'
        clear hS'
        simp only [Act.put, List.setIfInBounds_toArray, List.set_cons_succ, List.set_cons_zero]
        refine takeH (i := 56) (some 112) rfl rfl (by kernel_rfl) (by kernel_rfl) (by kernel_rfl) (fun _ _ _ h => h) (yPickF rfl (.tmp 98) _ (.tmp 111) rfl rfl (.bool false) rfl) hS ?_
        simp only [Act.put, List.setIfInBounds_toArray, List.set_cons_succ, List.set_cons_zero]
        refine wpAnyH_done (by kernel_rfl) ?_ _
        have RZ : Hid (Below w5.heap.size w5 _) := hS
        clear hS Lx10
        go_wp2_with fail
        go_meet
        case rel => exact ⟨rfl, RZ.out⟩
    · refine opLit1 (some 81) rfl rfl rfl (.tmp 80) rfl oth HX.out rfl ?_
      intro Vx14 x14 Lx14 bb
      have hS' : Below w5.heap.size w5 x14 := below_append hS bb
      refine ⟨hS', ?_⟩
      clear hS bb
      have hS := hS'
      clear hS'
      simp only [Act.put, List.setIfInBounds_toArray, List.set_cons_succ, List.set_cons_zero]
      refine oneH (i := 21) (by kernel_rfl) ?_
      refine opLit0 (some 77) rfl rfl rfl rfl ?_
      intro x15 Gx15 Rx15 bb hq
      have HGGx15 : w5.heap.size ≤ Gx15 := Nat.le_trans hS.size hq
      have hS' : Below w5.heap.size w5 x15 := below_append hS bb
      refine ⟨hS', ?_⟩
      have Lx14' : HIn x15 Vx14 [oth] := Lx14.later bb
      clear Lx14
      have Lx14 := Lx14'
      clear Lx14'
      clear hS bb hq
      have hS := hS'
      clear hS'
      simp only [Act.put, List.setIfInBounds_toArray, List.set_cons_succ, List.set_cons_zero]
      refine oneH (i := 23) (by kernel_rfl) ?_
      obtain ⟨Vx16, x16, ra, Lx16, bb⟩ := app_first 24 Gx15 Rx15 vp P0 (R5.out.2.2.2.2.2.later hS) (by have := HPL.out; omega)
      refine opValW (some 79) rfl rfl rfl Vx16 x16 (rx_append (.tmp 77) (.tmp 78) rfl _ _ Vx16 x16 rfl rfl ra) ?_
      have hS' : Below w5.heap.size w5 x16 := below_append hS bb
      refine ⟨hS', ?_⟩
      have Lx14' : HIn x16 Vx14 [oth] := Lx14.later bb
      clear Lx14
      have Lx14 := Lx14'
      clear Lx14'
      have Rx15' : Row x16 Gx15 23 [] := Rx15.later bb Rx15.lt
      clear Rx15
      have Rx15 := Rx15'
      clear Rx15'
      clear hS bb ra
      have hS := hS'
      clear hS'
      simp only [Act.put, List.setIfInBounds_toArray, List.set_cons_succ, List.set_cons_zero]
      refine oneH (i := 26) (by kernel_rfl) ?_
      obtain ⟨Vx17, x17, ra, Lx17, gg⟩ := run_happend Gx15 24 Vx16 Vx14 P0 [oth] Lx16 (Lx14) (by have := HPL.out; simp; omega) (by have := Rx15.lt; omega)
      have bb := Lx16.below gg (by have := Rx15.lt; omega)
      refine opValW (some 82) rfl rfl rfl Vx17 x17 (rx_append (.tmp 79) (.tmp 81) rfl _ _ Vx17 x17 rfl rfl ra) ?_
      have hS' : Below w5.heap.size w5 x17 := hS.trans (bb.mono HGGx15)
      refine ⟨hS', ?_⟩
      clear ra gg bb Lx14 Rx15 Lx16
      clear hS
      have hS := hS'
      clear hS'
      simp only [Act.put, List.setIfInBounds_toArray, List.set_cons_succ, List.set_cons_zero]
      refine oneH (i := 28) (by kernel_rfl) ?_
      refine opCallW (some 84) rfl rfl rfl 10 _ (run_call en10 [.tmp 74, .tmp 75, .tmp 76, .tmp 82, .tmp 83] _ rfl [hv x, .int .i64 (K : Nat), .int .i64 (N : Nat), Vx17, hv rt] rfl) ?_
      refine (vincl_any x rt (K : Nat) (N : Nat) Vx17 (P0 ++ [oth]) _ HPA.out.2.1 R5.out.2.2.2.2.1.1 Lx17.hin (ht.later (below_append R5.out.2.1 hS)) (hst.later (below_append R5.out.2.1 hS)) (by omega)).mono ?_
      rintro e x18 ⟨rfl, bb⟩
      rw [HI.out.2.1]
      have hS' : Below w5.heap.size w5 x18 := below_append hS bb
      refine ⟨_, rfl, hS', ?_⟩
      have Lx17' : HOwn x18 Gx15 Vx17 (P0 ++ [oth]) := Lx17.later bb (Nat.le_refl _)
      clear Lx17
      have Lx17 := Lx17'
      clear Lx17'
      clear hS bb
      have hS := hS'
      clear hS'
      simp only [Act.put, List.setIfInBounds_toArray, List.set_cons_succ, List.set_cons_zero]
      refine takeH (i := 29) (some 85) rfl rfl (by kernel_rfl) (by kernel_rfl) (by kernel_rfl) (fun _ _ _ h => h) (yPickF rfl (.tmp 70) _ (.tmp 84) rfl rfl (.bool false) rfl) hS ?_
      simp only [Act.put, List.setIfInBounds_toArray, List.set_cons_succ, List.set_cons_zero]
      refine takeH (i := 30) (some 86) rfl rfl (by kernel_rfl) (by kernel_rfl) (by kernel_rfl) (fun _ _ _ h => h) (yMoveW rfl (.tmp 85) rfl (.bool false) rfl) hS ?_
      simp only [Act.put, List.setIfInBounds_toArray, List.set_cons_succ, List.set_cons_zero]
      refine takeH (i := 31) (some 87) rfl rfl (by kernel_rfl) (by kernel_rfl) (by kernel_rfl) (fun _ _ _ h => h) (yMoveW rfl (.tmp 8) rfl (vl) rfl) hS ?_
      simp only [Act.put, List.setIfInBounds_toArray, List.set_cons_succ, List.set_cons_zero]
      refine takeH (i := 32) (some 88) rfl rfl (by kernel_rfl) (by kernel_rfl) (by kernel_rfl) (fun _ _ _ h => h) (yMoveW rfl (.tmp 1) rfl (.int .i64 (K : Nat)) rfl) hS ?_
      simp only [Act.put, List.setIfInBounds_toArray, List.set_cons_succ, List.set_cons_zero]
      refine takeH (i := 33) (some 89) rfl rfl (by kernel_rfl) (by kernel_rfl) (by kernel_rfl) (fun _ _ _ h => h) (yRunW rfl pa (fun _ _ => rx_index (.tmp 87) (.tmp 88) rfl vl pa rfl _ rfl HPA.out.1)) hS ?_
      simp only [Act.put, List.setIfInBounds_toArray, List.set_cons_succ, List.set_cons_zero]
      refine takeH (i := 34) (some 90) rfl rfl (by kernel_rfl) (by kernel_rfl) (by kernel_rfl) (fun _ _ _ h => h) (yRunW rfl (hv x) (fun W hW => rx_load (.tmp 89) rfl (pa) rfl x ((HPA.out.2.later hW)))) hS ?_
      simp only [Act.put, List.setIfInBounds_toArray, List.set_cons_succ, List.set_cons_zero]
      refine takeH (i := 35) (some 91) rfl rfl (by kernel_rfl) (by kernel_rfl) (by kernel_rfl) (fun _ _ _ h => h) (yMoveW rfl (.tmp 1) rfl (.int .i64 (K : Nat)) rfl) hS ?_
      simp only [Act.put, List.setIfInBounds_toArray, List.set_cons_succ, List.set_cons_zero]
      refine takeH (i := 36) (some 92) rfl rfl (by kernel_rfl) (by kernel_rfl) (by kernel_rfl) (fun _ _ _ h => h) (yMoveW rfl (.tmp 9) rfl (.int .i64 (N : Nat)) rfl) hS ?_
      simp only [Act.put, List.setIfInBounds_toArray, List.set_cons_succ, List.set_cons_zero]
      refine takeH (i := 37) (some 93) rfl rfl (by kernel_rfl) (by kernel_rfl) (by kernel_rfl) (fun _ _ _ h => h) (yMoveW rfl (.tmp 11) rfl (vp) rfl) hS ?_
      simp only [Act.put, List.setIfInBounds_toArray, List.set_cons_succ, List.set_cons_zero]
      refine takeH (i := 38) (some 94) rfl rfl (by kernel_rfl) (by kernel_rfl) (by kernel_rfl) (fun _ _ _ h => h) (yRunW rfl vd (fun _ _ => rx_sub (.tmp 93) (some (.const (.int .i64 1))) none rfl vp vd rfl HVD.out.1)) hS ?_
      simp only [Act.put, List.setIfInBounds_toArray, List.set_cons_succ, List.set_cons_zero]
      refine takeH (i := 39) (some 95) rfl rfl (by kernel_rfl) (by kernel_rfl) (by kernel_rfl) (fun _ _ _ h => h) (yRunW rfl (hv rt) (fun W hW => rx_load (.tmp 10) rfl (.pointer (some ⟨gr, 0, none⟩)) rfl rt ((R5.out.2.2.2.2.1.next hW).at))) hS ?_
      simp only [Act.put, List.setIfInBounds_toArray, List.set_cons_succ, List.set_cons_zero]
      refine oneH (i := 40) (by kernel_rfl) ?_
      refine opCallW (some 96) rfl rfl rfl 10 _ (run_call en10 [.tmp 90, .tmp 91, .tmp 92, .tmp 94, .tmp 95] _ rfl [hv x, .int .i64 (K : Nat), .int .i64 (N : Nat), vd, hv rt] rfl) ?_
      refine (vincl_any x rt (K : Nat) (N : Nat) vd (P0.drop 1) _ HPA.out.2.1 R5.out.2.2.2.2.1.1 (HVD.out.2.later hS) (ht.later (below_append R5.out.2.1 hS)) (hst.later (below_append R5.out.2.1 hS)) (by omega)).mono ?_
      rintro e x19 ⟨rfl, bb⟩
      rw [HI.out.2.2.1]
      have hS' : Below w5.heap.size w5 x19 := below_append hS bb
      refine ⟨_, rfl, hS', ?_⟩
      have Lx17' : HOwn x19 Gx15 Vx17 (P0 ++ [oth]) := Lx17.later bb (Nat.le_refl _)
      clear Lx17
      have Lx17 := Lx17'
      clear Lx17'
      clear hS bb
      have hS := hS'
      clear hS'
      simp only [Act.put, List.setIfInBounds_toArray, List.set_cons_succ, List.set_cons_zero]
      refine takeH (i := 41) (some 97) rfl rfl (by kernel_rfl) (by kernel_rfl) (by kernel_rfl) (fun _ _ _ h => h) (yPickF rfl (.tmp 86) _ (.tmp 96) rfl rfl (.bool false) rfl) hS ?_
      simp only [Act.put, List.setIfInBounds_toArray, List.set_cons_succ, List.set_cons_zero]
      refine takeH (i := 42) (some 98) rfl rfl (by kernel_rfl) (by kernel_rfl) (by kernel_rfl) (fun _ _ _ h => h) (yMoveW rfl (.tmp 97) rfl (.bool false) rfl) hS ?_
      simp only [Act.put, List.setIfInBounds_toArray, List.set_cons_succ, List.set_cons_zero]
      refine takeH (i := 43) (some 99) rfl rfl (by kernel_rfl) (by kernel_rfl) (by kernel_rfl) (fun _ _ _ h => h) (yMoveW rfl (.tmp 8) rfl (vl) rfl) hS ?_
      simp only [Act.put, List.setIfInBounds_toArray, List.set_cons_succ, List.set_cons_zero]
      refine takeH (i := 44) (some 100) rfl rfl (by kernel_rfl) (by kernel_rfl) (by kernel_rfl) (fun _ _ _ h => h) (yMoveW rfl (.tmp 1) rfl (.int .i64 (K : Nat)) rfl) hS ?_
      simp only [Act.put, List.setIfInBounds_toArray, List.set_cons_succ, List.set_cons_zero]
      refine takeH (i := 45) (some 101) rfl rfl (by kernel_rfl) (by kernel_rfl) (by kernel_rfl) (fun _ _ _ h => h) (yRunW rfl pa (fun _ _ => rx_index (.tmp 99) (.tmp 100) rfl vl pa rfl _ rfl HPA.out.1)) hS ?_
      simp only [Act.put, List.setIfInBounds_toArray, List.set_cons_succ, List.set_cons_zero]
      refine takeH (i := 46) (some 102) rfl rfl (by kernel_rfl) (by kernel_rfl) (by kernel_rfl) (fun _ _ _ h => h) (yRunW rfl (hv x) (fun W hW => rx_load (.tmp 101) rfl (pa) rfl x ((HPA.out.2.later hW)))) hS ?_
      simp only [Act.put, List.setIfInBounds_toArray, List.set_cons_succ, List.set_cons_zero]
      refine takeH (i := 47) (some 103) rfl rfl (by kernel_rfl) (by kernel_rfl) (by kernel_rfl) (fun _ _ _ h => h) (yMoveW rfl (.tmp 1) rfl (.int .i64 (K : Nat)) rfl) hS ?_
      simp only [Act.put, List.setIfInBounds_toArray, List.set_cons_succ, List.set_cons_zero]
      refine takeH (i := 48) (some 104) rfl rfl (by kernel_rfl) (by kernel_rfl) (by kernel_rfl) (fun _ _ _ h => h) (yMoveW rfl (.tmp 9) rfl (.int .i64 (N : Nat)) rfl) hS ?_
      simp only [Act.put, List.setIfInBounds_toArray, List.set_cons_succ, List.set_cons_zero]
      refine takeH (i := 49) (some 105) rfl rfl (by kernel_rfl) (by kernel_rfl) (by kernel_rfl) (fun _ _ _ h => h) (yMoveW rfl (.tmp 11) rfl (vp) rfl) hS ?_
      simp only [Act.put, List.setIfInBounds_toArray, List.set_cons_succ, List.set_cons_zero]
      refine takeH (i := 50) (some 106) rfl rfl (by kernel_rfl) (by kernel_rfl) (by kernel_rfl) (fun _ _ _ h => h) (yMoveW rfl (.tmp 11) rfl (vp) rfl) hS ?_
      simp only [Act.put, List.setIfInBounds_toArray, List.set_cons_succ, List.set_cons_zero]
      refine takeH (i := 51) (some 107) rfl rfl (by kernel_rfl) (by kernel_rfl) (by kernel_rfl) (fun _ _ _ h => h) (yLen rfl (.tmp 106) rfl vp P0 rfl _ (R5.out.2.2.2.2.2.later hS) (n0 + 1) HP0.out) hS ?_
      simp only [Act.put, List.setIfInBounds_toArray, List.set_cons_succ, List.set_cons_zero]
      refine takeH (i := 52) (some 108) rfl rfl (by kernel_rfl) (by kernel_rfl) (by kernel_rfl) (fun _ _ _ h => h) (yRunW rfl (.int .i64 (n0 : Nat)) (fun _ _ => rx_pred (.tmp 107) (.const (.int .i64 1)) rfl n0 rfl rfl (by omega))) hS ?_
      simp only [Act.put, List.setIfInBounds_toArray, List.set_cons_succ, List.set_cons_zero]
      refine takeH (i := 53) (some 109) rfl rfl (by kernel_rfl) (by kernel_rfl) (by kernel_rfl) (fun _ _ _ h => h) (yRunW rfl vt (fun _ _ => rx_sub (.tmp 105) none (some (.tmp 108)) rfl vp vt rfl HVT.out.1)) hS ?_
      simp only [Act.put, List.setIfInBounds_toArray, List.set_cons_succ, List.set_cons_zero]
      refine takeH (i := 54) (some 110) rfl rfl (by kernel_rfl) (by kernel_rfl) (by kernel_rfl) (fun _ _ _ h => h) (yRunW rfl (hv rt) (fun W hW => rx_load (.tmp 10) rfl (.pointer (some ⟨gr, 0, none⟩)) rfl rt ((R5.out.2.2.2.2.1.next hW).at))) hS ?_
      simp only [Act.put, List.setIfInBounds_toArray, List.set_cons_succ, List.set_cons_zero]
      refine oneH (i := 55) (by kernel_rfl) ?_
      refine opCallW (some 111) rfl rfl rfl 10 _ (run_call en10 [.tmp 102, .tmp 103, .tmp 104, .tmp 109, .tmp 110] _ rfl [hv x, .int .i64 (K : Nat), .int .i64 (N : Nat), vt, hv rt] rfl) ?_
      refine (vincl_any x rt (K : Nat) (N : Nat) vt (P0.take n0) _ HPA.out.2.1 R5.out.2.2.2.2.1.1 (HVT.out.2.later hS) (ht.later (below_append R5.out.2.1 hS)) (hst.later (below_append R5.out.2.1 hS)) (by omega)).mono ?_
      rintro e x20 ⟨rfl, bb⟩
      rw [HI.out.2.2.2]
      have hS' : Below w5.heap.size w5 x20 := below_append hS bb
      refine ⟨_, rfl, hS', ?_⟩
      have Lx17' : HOwn x20 Gx15 Vx17 (P0 ++ [oth]) := Lx17.later bb (Nat.le_refl _)
      clear Lx17
      have Lx17 := Lx17'
      clear Lx17'
      clear hS bb
      have hS := hS'
      clear hS'
      simp only [Act.put, List.setIfInBounds_toArray, List.set_cons_succ, List.set_cons_zero]
      refine takeH (i := 56) (some 112) rfl rfl (by kernel_rfl) (by kernel_rfl) (by kernel_rfl) (fun _ _ _ h => h) (yPickF rfl (.tmp 98) _ (.tmp 111) rfl rfl (.bool false) rfl) hS ?_
      simp only [Act.put, List.setIfInBounds_toArray, List.set_cons_succ, List.set_cons_zero]
      refine wpAnyH_done (by kernel_rfl) ?_ _
      have RZ : Hid (Below w5.heap.size w5 _) := hS
      clear hS Lx17
      go_wp2_with fail
      go_meet
      case rel => exact ⟨rfl, RZ.out⟩
  case rest =>
    obtain ⟨rfl, hcb⟩ := hcut
    rename World => wc1
    have R7 : Hid (HIn wc1 vl hs ∧ Below w.heap.size w wc1 ∧ hs.length = N ∧ HIs wc1 B oth ∧ HIs wc1 gr rt) := ⟨R5.out.1.later hcb, below_append R5.out.2.1 hcb, R5.out.2.2.1, R5.out.2.2.2.1.next hcb, R5.out.2.2.2.2.1.next hcb⟩
    clear hcb R5 HVD HVT HPA
    by_cases hK0 : K = 0
    · have hk0 : ((K : Int) == 0) = true := by simp; omega
      have hk0' : (K : Int) = 0 := by omega
      go_wp2_with fail
      go_ret
      exact ⟨rfl, R7.out.2.1⟩
    · have hk0 : ((K : Int) == 0) = false := by simp; omega
      have hk0' : ¬ (K : Int) = 0 := by omega
      obtain ⟨c1, c2, c3, ⟨n1, c4⟩, c5⟩ := HCK.out (by omega)
      clear HPL HCK HP0 HI
      obtain ⟨va, ra, sa⟩ := run_hto R7.out.1 K (by have := R7.out.2.2.1; omega)
      have HTA : Hid ((∀ w', (Instr.slice 24 vl none (some (.int .i64 (K : Nat))) none).run Tryd.prog w' = .ok va w') ∧ HIn wc1 va (hs.take K) ∧ (hs.take K).length = K) := ⟨ra, sa, by rw [List.length_take]; have := R7.out.2.2.1; omega⟩
      have HC : Hid (Tree.consOk (K : Nat) (N : Nat) (Tree.root (hs.take K)) oth (consAns hs K) = decide (rt = oth) ∧ Tree.consOk (K : Nat) (N : Nat) (Tree.root (hs.take K)) rt (consAns hs K ++ [oth]) = false ∧ Tree.consOk (K : Nat) (N : Nat) (Tree.root (hs.take K)) rt ((consAns hs K).drop 1) = false) := ⟨c1, c2, c3⟩
      have HPL : Hid ((consAns hs K).length ≤ 1000) := c5
      have HP1 : Hid ((consAns hs K).length = n1 + 1) := c4
      have hn1m : n1 ≤ 1000 := by omega
      have hne1 : ((n1 : Int) + 1 == 0) = false := by simp; omega
      have hne1' : ¬ ((n1 : Int) + 1 = 0) := by omega
      clear c1 c2 c3 c4 c5 ra sa
      obtain ⟨Q0, hQ0⟩ : ∃ Q0, consAns hs K = Q0 := ⟨_, rfl⟩
      have HQ0 : Hid (consAns hs K = Q0) := hQ0
      rw [hQ0] at HC HPL HP1
      clear hQ0
      go_wp2_with ((first
        | (refine wl rfl va _ (rx_sub (.tmp 116) none (some (.tmp 117)) rfl vl va rfl HTA.out.1) ?_)); try simp only [Act.put, List.setIfInBounds_toArray, List.set_cons_succ, List.set_cons_zero])
      refine (refRoot_any K va (hs.take K) wc1 HTA.out.2.2 (by omega) HTA.out.2.1).mono ?_
      rintro e w8 ⟨rfl, b8⟩
      have HRA : Hid (IsH (Tree.root (hs.take K))) := HTA.out.2.1.all.root
      generalize Tree.root (hs.take K) = rk at HRA HC ⊢
      have R8 : Hid (HIn w8 vl hs ∧ Below w.heap.size w w8 ∧ hs.length = N ∧ HIs w8 B oth ∧ HIs w8 gr rt) := ⟨R7.out.1.later b8, below_append R7.out.2.1 b8, R7.out.2.2.1, R7.out.2.2.2.1.next b8, R7.out.2.2.2.2.next b8⟩
      clear b8
      go_wp2_with ((first
        | (refine wl_new rfl rfl rfl rfl rfl (.tmp 119) rfl rk HRA.out (fun _ => rfl) (fun _ => rfl) ?_; intro w9 r9 s9 b9; have R9 : Hid (HIn w9 vl hs ∧ Below w.heap.size w w9 ∧ hs.length = N ∧ HIs w9 B oth ∧ HIs w9 gr rt ∧ HIs w9 w8.heap.size rk) := ⟨R8.out.1.later b9, below_append R8.out.2.1 b9, R8.out.2.2.1, R8.out.2.2.2.1.next b9, R8.out.2.2.2.2.next b9, r9⟩; clear r9 s9 b9; generalize w8.heap.size = gk at R9 ⊢)); try simp only [Act.put, List.setIfInBounds_toArray, List.set_cons_succ, List.set_cons_zero])
      refine (cons_any vl hs (K : Nat) w9 R9.out.1 (ht.later R9.out.2.1) (hst.later R9.out.2.1) (by have := R9.out.2.2.1; omega)).mono ?_
      rintro e wa ⟨vq, rfl, oa, ba⟩
      rw [HCE.out]
      have RA : Hid (Below w.heap.size w wa ∧ HIs wa B oth ∧ HIs wa gr rt ∧ HIs wa gk rk ∧ HIn wa vq Q0) := ⟨below_append R9.out.2.1 ba, R9.out.2.2.2.1.next ba, R9.out.2.2.2.2.1.next ba, R9.out.2.2.2.2.2.next ba, HQ0.out ▸ oa.hin⟩
      clear oa ba
      obtain ⟨vd1, rd1, sd1⟩ := run_hfrom RA.out.2.2.2.2 1 (by have := HP1.out; omega)
      have HVD1 : Hid ((∀ w', (Instr.slice 24 vq (some (.int .i64 ((1 : Nat) : Int))) none none).run Tryd.prog w' = .ok vd1 w') ∧ HIn wa vd1 (Q0.drop 1)) := ⟨rd1, sd1⟩
      clear rd1 sd1
      go_wp2_with ((first
        | (refine wl_lenN (.tmp 129) rfl rfl vq Q0 rfl RA.out.2.2.2.2 (n1 + 1) HP1.out ?_)); try simp only [Act.put, List.setIfInBounds_toArray, List.set_cons_succ, List.set_cons_zero])
      go_upto_region 23 with fail
      go_cut [16] from 133 to 138 (fun s W => HIn W s (Q0 ++ [oth]) ∧ Below wa.heap.size wa W)
      case first =>
        refine wp_region_held (S := fun W => Below wa.heap.size wa W) (by kernel_rfl) ?_
        show wpAnyH _ _ _ _ _ 7 (Array.replicate 7 false) _ _
        have hS : Below wa.heap.size wa { wa with drawn := wa.drawn + 1 } := below_drawn wa _
        refine takeH (i := 1) (some 134) rfl rfl (by kernel_rfl) (by kernel_rfl) (by kernel_rfl) (fun _ _ _ h => h) (yMoveW rfl (.tmp 14) rfl (vq) rfl) hS ?_
        simp only [Act.put, List.setIfInBounds_toArray, List.set_cons_succ, List.set_cons_zero]
        refine takeH (i := 3) (some 136) rfl rfl (by kernel_rfl) (by kernel_rfl) (by kernel_rfl) (fun _ _ _ h => h) (yRunW rfl (hv oth) (fun W hW => rx_load (.tmp 5) rfl (.pointer (some ⟨B, 0, none⟩)) rfl oth ((RA.out.2.1.next hW).at))) hS ?_
        simp only [Act.put, List.setIfInBounds_toArray, List.set_cons_succ, List.set_cons_zero]
        refine twoH (i := 0) (j := 4) (by kernel_rfl) ?_ ?_
        · refine opLit0 (some 133) rfl rfl rfl rfl ?_
          intro y1 Gy1 Ry1 bb hq
          have HGGy1 : wa.heap.size ≤ Gy1 := Nat.le_trans hS.size hq
          have hS' : Below wa.heap.size wa y1 := below_append hS bb
          refine ⟨hS', ?_⟩
          clear hS bb hq
          have hS := hS'
          clear hS'
          simp only [Act.put, List.setIfInBounds_toArray, List.set_cons_succ, List.set_cons_zero]
          refine twoH (i := 2) (j := 4) (by kernel_rfl) ?_ ?_
          · obtain ⟨Vy2, y2, ra, Ly2, bb⟩ := app_first 24 Gy1 Ry1 vq Q0 (RA.out.2.2.2.2.later hS) (by have := HPL.out; omega)
            refine opValW (some 135) rfl rfl rfl Vy2 y2 (rx_append (.tmp 133) (.tmp 134) rfl _ _ Vy2 y2 rfl rfl ra) ?_
            have hS' : Below wa.heap.size wa y2 := below_append hS bb
            refine ⟨hS', ?_⟩
            have Ry1' : Row y2 Gy1 23 [] := Ry1.later bb Ry1.lt
            clear Ry1
            have Ry1 := Ry1'
            clear Ry1'
            clear hS bb ra
            have hS := hS'
            clear hS'
            simp only [Act.put, List.setIfInBounds_toArray, List.set_cons_succ, List.set_cons_zero]
            refine oneH (i := 4) (by kernel_rfl) ?_
            refine opLit1 (some 137) rfl rfl rfl (.tmp 136) rfl oth HX.out rfl ?_
            intro Vy3 y3 Ly3 bb
            have hS' : Below wa.heap.size wa y3 := below_append hS bb
            refine ⟨hS', ?_⟩
            have Ry1' : Row y3 Gy1 23 [] := Ry1.later bb Ry1.lt
            clear Ry1
            have Ry1 := Ry1'
            clear Ry1'
            have Ly2' : HOwn y3 Gy1 Vy2 Q0 := Ly2.later bb (Nat.le_refl _)
            clear Ly2
            have Ly2 := Ly2'
            clear Ly2'
            clear hS bb
            have hS := hS'
            clear hS'
            simp only [Act.put, List.setIfInBounds_toArray, List.set_cons_succ, List.set_cons_zero]
            refine oneH (i := 5) (by kernel_rfl) ?_
            obtain ⟨Vy4, y4, ra, Ly4, gg⟩ := run_happend Gy1 24 Vy2 Vy3 Q0 [oth] Ly2 (Ly3) (by have := HPL.out; simp; omega) (by have := Ry1.lt; omega)
            have bb := Ly2.below gg (by have := Ry1.lt; omega)
            refine opValW (some 138) rfl rfl rfl Vy4 y4 (rx_append (.tmp 135) (.tmp 137) rfl _ _ Vy4 y4 rfl rfl ra) ?_
            have hS' : Below wa.heap.size wa y4 := hS.trans (bb.mono HGGy1)
            refine ⟨hS', ?_⟩
            clear ra gg bb Ry1 Ly2 Ly3
            clear hS
            have hS := hS'
            clear hS'
            simp only [Act.put, List.setIfInBounds_toArray, List.set_cons_succ, List.set_cons_zero]
            refine takeH (i := 6) (some 16) rfl rfl (by kernel_rfl) (by kernel_rfl) (by kernel_rfl) (fun _ _ _ h => h) (yAssign rfl (.tmp 138) rfl (Vy4) rfl) hS ?_
            simp only [Act.put, List.setIfInBounds_toArray, List.set_cons_succ, List.set_cons_zero]
            refine wpAnyH_done (by kernel_rfl) ?_ _
            have RZ : Hid (HIn _ Vy4 (Q0 ++ [oth]) ∧ Below wa.heap.size wa _) := ⟨Ly4.hin, hS⟩
            clear hS Ly4
            go_wp2_with fail
            go_meet
            case rel => exact RZ.out
          · refine opLit1 (some 137) rfl rfl rfl (.tmp 136) rfl oth HX.out rfl ?_
            intro Vy5 y5 Ly5 bb
            have hS' : Below wa.heap.size wa y5 := below_append hS bb
            refine ⟨hS', ?_⟩
            have Ry1' : Row y5 Gy1 23 [] := Ry1.later bb Ry1.lt
            clear Ry1
            have Ry1 := Ry1'
            clear Ry1'
            clear hS bb
            have hS := hS'
            clear hS'
            simp only [Act.put, List.setIfInBounds_toArray, List.set_cons_succ, List.set_cons_zero]
            refine oneH (i := 2) (by kernel_rfl) ?_
            obtain ⟨Vy6, y6, ra, Ly6, bb⟩ := app_first 24 Gy1 Ry1 vq Q0 (RA.out.2.2.2.2.later hS) (by have := HPL.out; omega)
            refine opValW (some 135) rfl rfl rfl Vy6 y6 (rx_append (.tmp 133) (.tmp 134) rfl _ _ Vy6 y6 rfl rfl ra) ?_
            have hS' : Below wa.heap.size wa y6 := below_append hS bb
            refine ⟨hS', ?_⟩
            have Ry1' : Row y6 Gy1 23 [] := Ry1.later bb Ry1.lt
            clear Ry1
            have Ry1 := Ry1'
            clear Ry1'
            have Ly5' : HIn y6 Vy5 [oth] := Ly5.later bb
            clear Ly5
            have Ly5 := Ly5'
            clear Ly5'
            clear hS bb ra
            have hS := hS'
            clear hS'
            simp only [Act.put, List.setIfInBounds_toArray, List.set_cons_succ, List.set_cons_zero]
            refine oneH (i := 5) (by kernel_rfl) ?_
            obtain ⟨Vy7, y7, ra, Ly7, gg⟩ := run_happend Gy1 24 Vy6 Vy5 Q0 [oth] Ly6 (Ly5) (by have := HPL.out; simp; omega) (by have := Ry1.lt; omega)
            have bb := Ly6.below gg (by have := Ry1.lt; omega)
            refine opValW (some 138) rfl rfl rfl Vy7 y7 (rx_append (.tmp 135) (.tmp 137) rfl _ _ Vy7 y7 rfl rfl ra) ?_
            have hS' : Below wa.heap.size wa y7 := hS.trans (bb.mono HGGy1)
            refine ⟨hS', ?_⟩
            clear ra gg bb Ry1 Ly5 Ly6
            clear hS
            have hS := hS'
            clear hS'
            simp only [Act.put, List.setIfInBounds_toArray, List.set_cons_succ, List.set_cons_zero]
            refine takeH (i := 6) (some 16) rfl rfl (by kernel_rfl) (by kernel_rfl) (by kernel_rfl) (fun _ _ _ h => h) (yAssign rfl (.tmp 138) rfl (Vy7) rfl) hS ?_
            simp only [Act.put, List.setIfInBounds_toArray, List.set_cons_succ, List.set_cons_zero]
            refine wpAnyH_done (by kernel_rfl) ?_ _
            have RZ : Hid (HIn _ Vy7 (Q0 ++ [oth]) ∧ Below wa.heap.size wa _) := ⟨Ly7.hin, hS⟩
            clear hS Ly7
            go_wp2_with fail
            go_meet
            case rel => exact RZ.out
        · refine opLit1 (some 137) rfl rfl rfl (.tmp 136) rfl oth HX.out rfl ?_
          intro Vy8 y8 Ly8 bb
          have hS' : Below wa.heap.size wa y8 := below_append hS bb
          refine ⟨hS', ?_⟩
          clear hS bb
          have hS := hS'
          clear hS'
          simp only [Act.put, List.setIfInBounds_toArray, List.set_cons_succ, List.set_cons_zero]
          refine oneH (i := 0) (by kernel_rfl) ?_
          refine opLit0 (some 133) rfl rfl rfl rfl ?_
          intro y9 Gy9 Ry9 bb hq
          have HGGy9 : wa.heap.size ≤ Gy9 := Nat.le_trans hS.size hq
          have hS' : Below wa.heap.size wa y9 := below_append hS bb
          refine ⟨hS', ?_⟩
          have Ly8' : HIn y9 Vy8 [oth] := Ly8.later bb
          clear Ly8
          have Ly8 := Ly8'
          clear Ly8'
          clear hS bb hq
          have hS := hS'
          clear hS'
          simp only [Act.put, List.setIfInBounds_toArray, List.set_cons_succ, List.set_cons_zero]
          refine oneH (i := 2) (by kernel_rfl) ?_
          obtain ⟨Vy10, y10, ra, Ly10, bb⟩ := app_first 24 Gy9 Ry9 vq Q0 (RA.out.2.2.2.2.later hS) (by have := HPL.out; omega)
          refine opValW (some 135) rfl rfl rfl Vy10 y10 (rx_append (.tmp 133) (.tmp 134) rfl _ _ Vy10 y10 rfl rfl ra) ?_
          have hS' : Below wa.heap.size wa y10 := below_append hS bb
          refine ⟨hS', ?_⟩
          have Ly8' : HIn y10 Vy8 [oth] := Ly8.later bb
          clear Ly8
          have Ly8 := Ly8'
          clear Ly8'
          have Ry9' : Row y10 Gy9 23 [] := Ry9.later bb Ry9.lt
          clear Ry9
          have Ry9 := Ry9'
          clear Ry9'
          clear hS bb ra
          have hS := hS'
          clear hS'
          simp only [Act.put, List.setIfInBounds_toArray, List.set_cons_succ, List.set_cons_zero]
          refine oneH (i := 5) (by kernel_rfl) ?_
          obtain ⟨Vy11, y11, ra, Ly11, gg⟩ := run_happend Gy9 24 Vy10 Vy8 Q0 [oth] Ly10 (Ly8) (by have := HPL.out; simp; omega) (by have := Ry9.lt; omega)
          have bb := Ly10.below gg (by have := Ry9.lt; omega)
          refine opValW (some 138) rfl rfl rfl Vy11 y11 (rx_append (.tmp 135) (.tmp 137) rfl _ _ Vy11 y11 rfl rfl ra) ?_
          have hS' : Below wa.heap.size wa y11 := hS.trans (bb.mono HGGy9)
          refine ⟨hS', ?_⟩
          clear ra gg bb Ly8 Ry9 Ly10
          clear hS
          have hS := hS'
          clear hS'
          simp only [Act.put, List.setIfInBounds_toArray, List.set_cons_succ, List.set_cons_zero]
          refine takeH (i := 6) (some 16) rfl rfl (by kernel_rfl) (by kernel_rfl) (by kernel_rfl) (fun _ _ _ h => h) (yAssign rfl (.tmp 138) rfl (Vy11) rfl) hS ?_
          simp only [Act.put, List.setIfInBounds_toArray, List.set_cons_succ, List.set_cons_zero]
          refine wpAnyH_done (by kernel_rfl) ?_ _
          have RZ : Hid (HIn _ Vy11 (Q0 ++ [oth]) ∧ Below wa.heap.size wa _) := ⟨Ly11.hin, hS⟩
          clear hS Ly11
          go_wp2_with fail
          go_meet
          case rel => exact RZ.out
      case rest =>
        obtain ⟨hcv, hcb⟩ := hcut
        rename World => wc2
        have RB : Hid (Below w.heap.size w wc2 ∧ HIs wc2 B oth ∧ HIs wc2 gr rt ∧ HIs wc2 gk rk ∧ HIn wc2 vq Q0 ∧ HIn wc2 u16 (Q0 ++ [oth]) ∧ HIn wc2 vd1 (Q0.drop 1)) := ⟨below_append RA.out.1 hcb, RA.out.2.1.next hcb, RA.out.2.2.1.next hcb, RA.out.2.2.2.1.next hcb, RA.out.2.2.2.2.later hcb, hcv, HVD1.out.2.later hcb⟩
        clear hcb hcv
        go_wp2_with fail
        refine wp_region_held (S := fun W => Below wc2.heap.size wc2 W) (by kernel_rfl) ?_
        show wpAnyH _ _ _ _ _ 35 (Array.replicate 35 false) _ _
        have hS : Below wc2.heap.size wc2 { wc2 with drawn := wc2.drawn + 1 } := below_drawn wc2 _
        refine takeH (i := 0) (some 139) rfl rfl (by kernel_rfl) (by kernel_rfl) (by kernel_rfl) (fun _ _ _ h => h) (yMoveW rfl (.tmp 7) rfl (.bool true) rfl) hS ?_
        simp only [Act.put, List.setIfInBounds_toArray, List.set_cons_succ, List.set_cons_zero]
        refine takeH (i := 1) (some 140) rfl rfl (by kernel_rfl) (by kernel_rfl) (by kernel_rfl) (fun _ _ _ h => h) (yMoveW rfl (.tmp 139) rfl (.bool true) rfl) hS ?_
        simp only [Act.put, List.setIfInBounds_toArray, List.set_cons_succ, List.set_cons_zero]
        refine takeH (i := 2) (some 141) rfl rfl (by kernel_rfl) (by kernel_rfl) (by kernel_rfl) (fun _ _ _ h => h) (yRunW rfl (hv oth) (fun W hW => rx_load (.tmp 5) rfl (.pointer (some ⟨B, 0, none⟩)) rfl oth ((RB.out.2.1.next hW).at))) hS ?_
        simp only [Act.put, List.setIfInBounds_toArray, List.set_cons_succ, List.set_cons_zero]
        refine takeH (i := 3) (some 142) rfl rfl (by kernel_rfl) (by kernel_rfl) (by kernel_rfl) (fun _ _ _ h => h) (yRunW rfl (hv rt) (fun W hW => rx_load (.tmp 10) rfl (.pointer (some ⟨gr, 0, none⟩)) rfl rt ((RB.out.2.2.1.next hW).at))) hS ?_
        simp only [Act.put, List.setIfInBounds_toArray, List.set_cons_succ, List.set_cons_zero]
        refine takeH (i := 4) (some 143) rfl rfl (by kernel_rfl) (by kernel_rfl) (by kernel_rfl) (fun _ _ _ h => h) (yRunW rfl (.bool false) (fun _ _ => rx_neB (.tmp 141) (.tmp 142) rfl oth rt HX.out RB.out.2.2.1.1 rfl rfl true HE.out)) hS ?_
        simp only [Act.put, List.setIfInBounds_toArray, List.set_cons_succ, List.set_cons_zero]
        refine takeH (i := 5) (some 144) rfl rfl (by kernel_rfl) (by kernel_rfl) (by kernel_rfl) (fun _ _ _ h => h) (yMoveW rfl (.tmp 143) rfl (.bool false) rfl) hS ?_
        simp only [Act.put, List.setIfInBounds_toArray, List.set_cons_succ, List.set_cons_zero]
        refine takeH (i := 6) (some 145) rfl rfl (by kernel_rfl) (by kernel_rfl) (by kernel_rfl) (fun _ _ _ h => h) (yOff rfl) hS ?_
        simp only [Act.put, List.setIfInBounds_toArray, List.set_cons_succ, List.set_cons_zero]
        refine takeH (i := 7) (some 146) rfl rfl (by kernel_rfl) (by kernel_rfl) (by kernel_rfl) (fun _ _ _ h => h) (yOff rfl) hS ?_
        simp only [Act.put, List.setIfInBounds_toArray, List.set_cons_succ, List.set_cons_zero]
        refine takeH (i := 8) (some 147) rfl rfl (by kernel_rfl) (by kernel_rfl) (by kernel_rfl) (fun _ _ _ h => h) (yOff rfl) hS ?_
        simp only [Act.put, List.setIfInBounds_toArray, List.set_cons_succ, List.set_cons_zero]
        refine takeH (i := 9) (some 148) rfl rfl (by kernel_rfl) (by kernel_rfl) (by kernel_rfl) (fun _ _ _ h => h) (yOff rfl) hS ?_
        simp only [Act.put, List.setIfInBounds_toArray, List.set_cons_succ, List.set_cons_zero]
        refine takeH (i := 10) (some 149) rfl rfl (by kernel_rfl) (by kernel_rfl) (by kernel_rfl) (fun _ _ _ h => h) (yOff rfl) hS ?_
        simp only [Act.put, List.setIfInBounds_toArray, List.set_cons_succ, List.set_cons_zero]
        refine takeH (i := 11) (some 150) rfl rfl (by kernel_rfl) (by kernel_rfl) (by kernel_rfl) (fun _ _ _ h => h) (yOff rfl) hS ?_
        simp only [Act.put, List.setIfInBounds_toArray, List.set_cons_succ, List.set_cons_zero]
        refine takeH (i := 12) (some 151) rfl rfl (by kernel_rfl) (by kernel_rfl) (by kernel_rfl) (fun _ _ _ h => h) (yPickF rfl (.tmp 144) _ (.const (.bool false)) rfl rfl (.bool false) rfl) hS ?_
        simp only [Act.put, List.setIfInBounds_toArray, List.set_cons_succ, List.set_cons_zero]
        refine takeH (i := 13) (some 152) rfl rfl (by kernel_rfl) (by kernel_rfl) (by kernel_rfl) (fun _ _ _ h => h) (yNotW rfl (.tmp 151) rfl false rfl) hS ?_
        simp only [Act.put, List.setIfInBounds_toArray, List.set_cons_succ, List.set_cons_zero]
        refine takeH (i := 14) (some 153) rfl rfl (by kernel_rfl) (by kernel_rfl) (by kernel_rfl) (fun _ _ _ h => h) (yPickW rfl (.tmp 140) (.tmp 152) _ rfl rfl (.bool true) rfl) hS ?_
        simp only [Act.put, List.setIfInBounds_toArray, List.set_cons_succ, List.set_cons_zero]
        refine takeH (i := 15) (some 154) rfl rfl (by kernel_rfl) (by kernel_rfl) (by kernel_rfl) (fun _ _ _ h => h) (yMoveW rfl (.tmp 153) rfl (.bool true) rfl) hS ?_
        simp only [Act.put, List.setIfInBounds_toArray, List.set_cons_succ, List.set_cons_zero]
        refine takeH (i := 16) (some 155) rfl rfl (by kernel_rfl) (by kernel_rfl) (by kernel_rfl) (fun _ _ _ h => h) (yMoveW rfl (.tmp 1) rfl (.int .i64 (K : Nat)) rfl) hS ?_
        simp only [Act.put, List.setIfInBounds_toArray, List.set_cons_succ, List.set_cons_zero]
        refine takeH (i := 17) (some 156) rfl rfl (by kernel_rfl) (by kernel_rfl) (by kernel_rfl) (fun _ _ _ h => h) (yMoveW rfl (.tmp 9) rfl (.int .i64 (N : Nat)) rfl) hS ?_
        simp only [Act.put, List.setIfInBounds_toArray, List.set_cons_succ, List.set_cons_zero]
        refine takeH (i := 18) (some 157) rfl rfl (by kernel_rfl) (by kernel_rfl) (by kernel_rfl) (fun _ _ _ h => h) (yRunW rfl (hv rk) (fun W hW => rx_load (.tmp 13) rfl (.pointer (some ⟨gk, 0, none⟩)) rfl rk ((RB.out.2.2.2.1.next hW).at))) hS ?_
        simp only [Act.put, List.setIfInBounds_toArray, List.set_cons_succ, List.set_cons_zero]
        refine takeH (i := 19) (some 158) rfl rfl (by kernel_rfl) (by kernel_rfl) (by kernel_rfl) (fun _ _ _ h => h) (yRunW rfl (hv rt) (fun W hW => rx_load (.tmp 10) rfl (.pointer (some ⟨gr, 0, none⟩)) rfl rt ((RB.out.2.2.1.next hW).at))) hS ?_
        simp only [Act.put, List.setIfInBounds_toArray, List.set_cons_succ, List.set_cons_zero]
        refine takeH (i := 20) (some 159) rfl rfl (by kernel_rfl) (by kernel_rfl) (by kernel_rfl) (fun _ _ _ h => h) (yMoveW rfl (.tmp 16) rfl (u16) rfl) hS ?_
        simp only [Act.put, List.setIfInBounds_toArray, List.set_cons_succ, List.set_cons_zero]
        refine oneH (i := 21) (by kernel_rfl) ?_
        refine opCallW (some 160) rfl rfl rfl 13 _ (run_call en13' [.tmp 155, .tmp 156, .tmp 157, .tmp 158, .tmp 159] _ rfl [.int .i64 (K : Nat), .int .i64 (N : Nat), hv rk, hv rt, u16] rfl) ?_
        refine (vcons_any rk rt (K : Nat) (N : Nat) u16 (Q0 ++ [oth]) _ HRA.out RB.out.2.2.1.1 (RB.out.2.2.2.2.2.1.later hS) (ht.later (below_append RB.out.1 hS)) (hst.later (below_append RB.out.1 hS)) (by omega)).mono ?_
        rintro e qwc21 ⟨rfl, bb⟩
        rw [HC.out.2.1]
        have hS' : Below wc2.heap.size wc2 qwc21 := below_append hS bb
        refine ⟨_, rfl, hS', ?_⟩
        clear hS bb
        have hS := hS'
        clear hS'
        simp only [Act.put, List.setIfInBounds_toArray, List.set_cons_succ, List.set_cons_zero]
        refine takeH (i := 22) (some 161) rfl rfl (by kernel_rfl) (by kernel_rfl) (by kernel_rfl) (fun _ _ _ h => h) (yNotW rfl (.tmp 160) rfl false rfl) hS ?_
        simp only [Act.put, List.setIfInBounds_toArray, List.set_cons_succ, List.set_cons_zero]
        refine takeH (i := 23) (some 162) rfl rfl (by kernel_rfl) (by kernel_rfl) (by kernel_rfl) (fun _ _ _ h => h) (yPickW rfl (.tmp 154) (.tmp 161) _ rfl rfl (.bool true) rfl) hS ?_
        simp only [Act.put, List.setIfInBounds_toArray, List.set_cons_succ, List.set_cons_zero]
        refine takeH (i := 24) (some 163) rfl rfl (by kernel_rfl) (by kernel_rfl) (by kernel_rfl) (fun _ _ _ h => h) (yMoveW rfl (.tmp 162) rfl (.bool true) rfl) hS ?_
        simp only [Act.put, List.setIfInBounds_toArray, List.set_cons_succ, List.set_cons_zero]
        refine takeH (i := 25) (some 164) rfl rfl (by kernel_rfl) (by kernel_rfl) (by kernel_rfl) (fun _ _ _ h => h) (yMoveW rfl (.tmp 1) rfl (.int .i64 (K : Nat)) rfl) hS ?_
        simp only [Act.put, List.setIfInBounds_toArray, List.set_cons_succ, List.set_cons_zero]
        refine takeH (i := 26) (some 165) rfl rfl (by kernel_rfl) (by kernel_rfl) (by kernel_rfl) (fun _ _ _ h => h) (yMoveW rfl (.tmp 9) rfl (.int .i64 (N : Nat)) rfl) hS ?_
        simp only [Act.put, List.setIfInBounds_toArray, List.set_cons_succ, List.set_cons_zero]
        refine takeH (i := 27) (some 166) rfl rfl (by kernel_rfl) (by kernel_rfl) (by kernel_rfl) (fun _ _ _ h => h) (yRunW rfl (hv rk) (fun W hW => rx_load (.tmp 13) rfl (.pointer (some ⟨gk, 0, none⟩)) rfl rk ((RB.out.2.2.2.1.next hW).at))) hS ?_
        simp only [Act.put, List.setIfInBounds_toArray, List.set_cons_succ, List.set_cons_zero]
        refine takeH (i := 28) (some 167) rfl rfl (by kernel_rfl) (by kernel_rfl) (by kernel_rfl) (fun _ _ _ h => h) (yRunW rfl (hv rt) (fun W hW => rx_load (.tmp 10) rfl (.pointer (some ⟨gr, 0, none⟩)) rfl rt ((RB.out.2.2.1.next hW).at))) hS ?_
        simp only [Act.put, List.setIfInBounds_toArray, List.set_cons_succ, List.set_cons_zero]
        refine takeH (i := 29) (some 168) rfl rfl (by kernel_rfl) (by kernel_rfl) (by kernel_rfl) (fun _ _ _ h => h) (yMoveW rfl (.tmp 14) rfl (vq) rfl) hS ?_
        simp only [Act.put, List.setIfInBounds_toArray, List.set_cons_succ, List.set_cons_zero]
        refine takeH (i := 30) (some 169) rfl rfl (by kernel_rfl) (by kernel_rfl) (by kernel_rfl) (fun _ _ _ h => h) (yRunW rfl vd1 (fun _ _ => rx_sub (.tmp 168) (some (.const (.int .i64 1))) none rfl vq vd1 rfl HVD1.out.1)) hS ?_
        simp only [Act.put, List.setIfInBounds_toArray, List.set_cons_succ, List.set_cons_zero]
        refine oneH (i := 31) (by kernel_rfl) ?_
        refine opCallW (some 170) rfl rfl rfl 13 _ (run_call en13' [.tmp 164, .tmp 165, .tmp 166, .tmp 167, .tmp 169] _ rfl [.int .i64 (K : Nat), .int .i64 (N : Nat), hv rk, hv rt, vd1] rfl) ?_
        refine (vcons_any rk rt (K : Nat) (N : Nat) vd1 (Q0.drop 1) _ HRA.out RB.out.2.2.1.1 (RB.out.2.2.2.2.2.2.later hS) (ht.later (below_append RB.out.1 hS)) (hst.later (below_append RB.out.1 hS)) (by omega)).mono ?_
        rintro e qwc22 ⟨rfl, bb⟩
        rw [HC.out.2.2]
        have hS' : Below wc2.heap.size wc2 qwc22 := below_append hS bb
        refine ⟨_, rfl, hS', ?_⟩
        clear hS bb
        have hS := hS'
        clear hS'
        simp only [Act.put, List.setIfInBounds_toArray, List.set_cons_succ, List.set_cons_zero]
        refine takeH (i := 32) (some 171) rfl rfl (by kernel_rfl) (by kernel_rfl) (by kernel_rfl) (fun _ _ _ h => h) (yNotW rfl (.tmp 170) rfl false rfl) hS ?_
        simp only [Act.put, List.setIfInBounds_toArray, List.set_cons_succ, List.set_cons_zero]
        refine takeH (i := 33) (some 172) rfl rfl (by kernel_rfl) (by kernel_rfl) (by kernel_rfl) (fun _ _ _ h => h) (yPickW rfl (.tmp 163) (.tmp 171) _ rfl rfl (.bool true) rfl) hS ?_
        simp only [Act.put, List.setIfInBounds_toArray, List.set_cons_succ, List.set_cons_zero]
        refine takeH (i := 34) (some 6) rfl rfl (by kernel_rfl) (by kernel_rfl) (by kernel_rfl) (fun _ _ _ h => h) (yAssign rfl (.tmp 172) rfl (.bool true) rfl) hS ?_
        simp only [Act.put, List.setIfInBounds_toArray, List.set_cons_succ, List.set_cons_zero]
        refine wpAnyH_done (by kernel_rfl) ?_ _
        have HB9 : Hid (Below w.heap.size w _) := below_append RB.out.1 hS
        clear hS
        go_wp2_with fail
        go_ret
        exact ⟨rfl, HB9.out⟩
set_option maxHeartbeats 32000000 in
set_option maxRecDepth 100000 in
theorem one_neg_else (v : Value) (L : List (List Nat)) (M : Nat) (oth : List Nat) (w : World) (h : ListIn w v L) (hx : IsH oth) (ht : TabIn w) (hst : StartIn w) (hN3 : L.length ≤ 300) (hN2 : 2 ≤ L.length) (hM : M ≤ 9223372036854775807) (hL : ∀ c ∈ L, c.length ≤ 140737488351232) (heo : decide (oth = Tree.root (L.map Tree.leaf)) = false) :
    Calls Tryd.prog 6 #[v, .int .i64 (-(M : Int) - 1), hv oth] w fun e w' => e = .returned (.bool true) ∧ Below w.heap.size w w' := by
  obtain ⟨N, hN'⟩ : ∃ N, L.length = N := ⟨_, rfl⟩
  have HNL : Hid (L.length = N) := hN'
  have hb : ¬ (300 : Int) < (N : Int) := by omega
  have hf : ¬ (N : Int) < 2 := by omega
  have HL : Hid (∀ c ∈ L, c.length + 1024 ≤ 140737488355328) := fun c hc => by have := hL c hc; omega
  have HE0 : Hid (decide (oth = Tree.root (L.map Tree.leaf)) = false) := heo
  have h300 : N ≤ 300 := by omega
  have hN2' : 2 ≤ N := by omega
  have hneg : -(M : Int) - 1 < 0 := by omega
  have HX : Hid (IsH oth) := hx
  obtain ⟨B, hB⟩ : ∃ B, B = w.heap.size := ⟨_, rfl⟩
  have HB : Hid (B = w.heap.size) := hB
  clear hN3 hN2 hN' hL heo hx hB
  go_enter Tryd.func6, Tryd.ntmps6
  go_wp2_with ((first
    | (refine wl_box (.tmp 2) rfl rfl oth HX.out rfl ?_; rw [← HB.out]; intro w0 r0 s0 b0; have R0 : Hid (HIs w0 B oth ∧ Below w.heap.size w w0) := ⟨r0, HB.out ▸ b0⟩; clear r0 s0 b0)
    | (go_at_call 9; refine (shown_any w0 (ht.later R0.out.2) (hst.later R0.out.2)).mono ?_; rintro e w1 ⟨rfl, b1⟩; have R1 : Hid (HIs w1 B oth ∧ Below w.heap.size w w1) := ⟨R0.out.1.next b1, below_append R0.out.2 b1⟩; clear b1)
    | (refine wl_rlen (.tmp 20) rfl rfl v L rfl h N HNL.out ?_)
    | (refine wl_rlen (.tmp 24) rfl rfl v L rfl h N HNL.out ?_)
    | (go_at_call 15; refine (leaves_any v L w1 (h.later R1.out.2) (by have := HNL.out; omega) HL.out).mono ?_; rintro e w2 ⟨vl, rfl, o2, b2⟩; have R2 : Hid (HIn w2 vl (L.map Tree.leaf) ∧ Below w.heap.size w w2 ∧ (L.map Tree.leaf).length = N ∧ HIs w2 B oth) := ⟨o2.hin, below_append R1.out.2 b2, (leafs_length L).trans HNL.out, R1.out.1.next b2⟩; have HE := HE0; clear o2 b2 HE0; generalize L.map Tree.leaf = hs at R2 HE)
    | (refine wl_lenN (.tmp 31) rfl rfl vl hs rfl R2.out.1 N R2.out.2.2.1 ?_)
    | (refine wl_neg (.tmp 36) rfl rfl _ rfl M (by omega) hM ?_)
    | (refine wl_rem (.tmp 38) (.tmp 39) rfl rfl M N rfl rfl (by omega) ?_)); try simp only [Act.put, List.setIfInBounds_toArray, List.set_cons_succ, List.set_cons_zero])
  obtain ⟨K, hK, hKN⟩ : ∃ K : Nat, (M : Int) % (N : Int) = (K : Int) ∧ K < N := ⟨M % N, by rw [Int.natCast_emod], Nat.mod_lt M (by omega)⟩
  rw [hK]
  clear hK
  refine (refRoot_any N vl hs w2 R2.out.2.2.1 (by omega) R2.out.1).mono ?_
  rintro e w3 ⟨rfl, b3⟩
  have hlen := R2.out.2.2.1
  have hP9 := Tree.incl_length 9 hs K (by omega)
  have hPn := Tree.incl_ne hs K (by omega)
  obtain ⟨n0, hn0⟩ : ∃ n0, (Tree.incl hs K).length = n0 + 1 := ⟨(Tree.incl hs K).length - 1, by omega⟩
  have HI : Hid (Tree.inclOk (hs.getD K []) (K : Nat) (N : Nat) (Tree.incl hs K) oth = decide (Tree.root hs = oth) ∧ Tree.inclOk (hs.getD K []) (K : Nat) (N : Nat) (Tree.incl hs K ++ [oth]) (Tree.root hs) = false ∧ Tree.inclOk (hs.getD K []) (K : Nat) (N : Nat) ((Tree.incl hs K).drop 1) (Tree.root hs) = false ∧ Tree.inclOk (hs.getD K []) (K : Nat) (N : Nat) ((Tree.incl hs K).take n0) (Tree.root hs) = false) :=
    ⟨Tree.inclOk_incl hs K N hlen hKN oth, Tree.inclOk_len hs K N hlen hKN _ (by simp) _ _, Tree.inclOk_len hs K N hlen hKN _ (by simp; omega) _ _, Tree.inclOk_len hs K N hlen hKN _ (by simp; omega) _ _⟩
  have HA : Hid (inclAns hs K = Tree.incl hs K ∧ inclErr hs K = 0) := inclAns_nat hs K (by omega)
  have HCK : Hid (1 ≤ K → Tree.consOk (K : Nat) (N : Nat) (Tree.root (hs.take K)) oth (consAns hs K) = decide (Tree.root hs = oth) ∧ Tree.consOk (K : Nat) (N : Nat) (Tree.root (hs.take K)) (Tree.root hs) (consAns hs K ++ [oth]) = false ∧ Tree.consOk (K : Nat) (N : Nat) (Tree.root (hs.take K)) (Tree.root hs) ((consAns hs K).drop 1) = false ∧ (∃ n1, (consAns hs K).length = n1 + 1) ∧ (consAns hs K).length ≤ 1000) := fun h1 => by
    have hq9 := Tree.part_length 9 hs K true (by omega)
    have hqn := Tree.part_ne hs K true (by omega) h1
    rw [consAns_nat hs K (by omega) h1]
    exact ⟨Tree.consOk_part hs K N hlen (by omega) h1 oth, Tree.consOk_len hs K N hlen (by omega) h1 _ (by simp) _ _, Tree.consOk_len hs K N hlen (by omega) h1 _ (by simp; omega) _ _, ⟨_, (by omega : (Tree.part hs K true).length = ((Tree.part hs K true).length - 1) + 1)⟩, by omega⟩
  have HCE : Hid (consErr hs K = 0) := consErr_nat hs K (by omega)
  have HPL : Hid ((Tree.incl hs K).length ≤ 1000) := by show _ ≤ _; omega
  have HP0 : Hid ((Tree.incl hs K).length = n0 + 1) := hn0
  have hn0m : n0 ≤ 1000 := by omega
  have hne0 : ((n0 : Int) + 1 == 0) = false := by simp; omega
  have hne0' : ¬ ((n0 : Int) + 1 = 0) := by omega
  have R3 : Hid (HIn w3 vl hs ∧ Below w.heap.size w w3 ∧ hs.length = N ∧ HIs w3 B oth ∧ IsH (Tree.root hs)) := ⟨R2.out.1.later b3, below_append R2.out.2.1 b3, R2.out.2.2.1, R2.out.2.2.2.next b3, R2.out.1.all.root⟩
  clear b3 R2 hP9 hPn hn0 hlen
  obtain ⟨rt, hrt⟩ : ∃ rt, rt = Tree.root hs := ⟨_, rfl⟩
  rw [← hrt] at R3 HI HCK HE ⊢
  have HRE : Hid (decide (rt = oth) = false) := by
    have e := HE.out
    have : decide (rt = oth) = decide (oth = rt) := by rw [decide_eq_decide]; exact ⟨Eq.symm, Eq.symm⟩
    rw [this]
    exact e
  clear hrt
  go_wp2_with ((first
    | (refine wl_new rfl rfl rfl rfl rfl (.tmp 42) rfl rt R3.out.2.2.2.2 (fun _ => rfl) (fun _ => rfl) ?_; intro w4 r4 s4 b4; have R4 : Hid (HIn w4 vl hs ∧ Below w.heap.size w w4 ∧ hs.length = N ∧ HIs w4 B oth ∧ HIs w4 w3.heap.size rt) := ⟨R3.out.1.later b4, below_append R3.out.2.1 b4, R3.out.2.2.1, R3.out.2.2.2.1.next b4, r4⟩; clear r4 s4 b4; generalize w3.heap.size = gr at R4 ⊢)); try simp only [Act.put, List.setIfInBounds_toArray, List.set_cons_succ, List.set_cons_zero])
  refine (incl_any vl hs (K : Nat) w4 R4.out.1 (ht.later R4.out.2.1) (hst.later R4.out.2.1) (by have := R4.out.2.2.1; omega)).mono ?_
  rintro e w5 ⟨vp, rfl, o5, b5⟩
  rw [HA.out.1] at o5
  rw [HA.out.2]
  generalize Tree.incl hs K = P0 at HI HPL HP0 o5
  have R5 : Hid (HIn w5 vl hs ∧ Below w.heap.size w w5 ∧ hs.length = N ∧ HIs w5 B oth ∧ HIs w5 gr rt ∧ HIn w5 vp P0) := ⟨R4.out.1.later b5, below_append R4.out.2.1 b5, R4.out.2.2.1, R4.out.2.2.2.1.next b5, R4.out.2.2.2.2.next b5, o5.hin⟩
  clear o5 b5 R4 HA
  obtain ⟨pa, rp, sp⟩ := run_hindex R5.out.1 K (by have := R5.out.2.2.1; omega)
  obtain ⟨vd, rd, sd⟩ := run_hfrom R5.out.2.2.2.2.2 1 (by have := HP0.out; omega)
  obtain ⟨vt, rtk, st⟩ := run_hto R5.out.2.2.2.2.2 n0 (by have := HP0.out; omega)
  have HPA : Hid ((∀ w', (Instr.indexAt 24 vl (.int .i64 (K : Nat))).run Tryd.prog w' = .ok pa w') ∧ HAt w5 pa (hs.getD K [])) := ⟨rp, sp⟩
  have HVD : Hid ((∀ w', (Instr.slice 24 vp (some (.int .i64 ((1 : Nat) : Int))) none none).run Tryd.prog w' = .ok vd w') ∧ HIn w5 vd (P0.drop 1)) := ⟨rd, sd⟩
  have HVT : Hid ((∀ w', (Instr.slice 24 vp none (some (.int .i64 (n0 : Nat))) none).run Tryd.prog w' = .ok vt w') ∧ HIn w5 vt (P0.take n0)) := ⟨rtk, st⟩
  clear rp sp rd sd rtk st
  obtain ⟨x, hxx⟩ : ∃ x, x = hs.getD K [] := ⟨_, rfl⟩
  rw [← hxx] at HPA HI
  clear hxx
  go_wp2_with ((first
    | (refine wl_lenN (.tmp 52) rfl rfl vp P0 rfl R5.out.2.2.2.2.2 (n0 + 1) HP0.out ?_)); try simp only [Act.put, List.setIfInBounds_toArray, List.set_cons_succ, List.set_cons_zero])
  go_upto_region 15 with fail
  go_cut [112] from 56 to 111 (fun s W => s = .bool false ∧ Below w5.heap.size w5 W)
  case first =>
    refine wp_region_held (S := fun W => Below w5.heap.size w5 W) (by kernel_rfl) ?_
    show wpAnyH _ _ _ _ _ 57 (Array.replicate 57 false) _ _
    have hS : Below w5.heap.size w5 { w5 with drawn := w5.drawn + 1 } := below_drawn w5 _
    refine takeH (i := 0) (some 56) rfl rfl (by kernel_rfl) (by kernel_rfl) (by kernel_rfl) (fun _ _ _ h => h) (yRunW rfl (hv oth) (fun W hW => rx_load (.tmp 5) rfl (.pointer (some ⟨B, 0, none⟩)) rfl oth ((R5.out.2.2.2.1.next hW).at))) hS ?_
    simp only [Act.put, List.setIfInBounds_toArray, List.set_cons_succ, List.set_cons_zero]
    refine takeH (i := 1) (some 57) rfl rfl (by kernel_rfl) (by kernel_rfl) (by kernel_rfl) (fun _ _ _ h => h) (yRunW rfl (hv rt) (fun W hW => rx_load (.tmp 10) rfl (.pointer (some ⟨gr, 0, none⟩)) rfl rt ((R5.out.2.2.2.2.1.next hW).at))) hS ?_
    simp only [Act.put, List.setIfInBounds_toArray, List.set_cons_succ, List.set_cons_zero]
    refine takeH (i := 2) (some 58) rfl rfl (by kernel_rfl) (by kernel_rfl) (by kernel_rfl) (fun _ _ _ h => h) (yRunW rfl (.bool true) (fun _ _ => rx_neB (.tmp 56) (.tmp 57) rfl oth rt HX.out R5.out.2.2.2.2.1.1 rfl rfl false HE.out)) hS ?_
    simp only [Act.put, List.setIfInBounds_toArray, List.set_cons_succ, List.set_cons_zero]
    refine takeH (i := 3) (some 59) rfl rfl (by kernel_rfl) (by kernel_rfl) (by kernel_rfl) (fun _ _ _ h => h) (yMoveW rfl (.tmp 58) rfl (.bool true) rfl) hS ?_
    simp only [Act.put, List.setIfInBounds_toArray, List.set_cons_succ, List.set_cons_zero]
    refine takeH (i := 4) (some 60) rfl rfl (by kernel_rfl) (by kernel_rfl) (by kernel_rfl) (fun _ _ _ h => h) (yMoveW rfl (.tmp 8) rfl (vl) rfl) hS ?_
    simp only [Act.put, List.setIfInBounds_toArray, List.set_cons_succ, List.set_cons_zero]
    refine takeH (i := 5) (some 61) rfl rfl (by kernel_rfl) (by kernel_rfl) (by kernel_rfl) (fun _ _ _ h => h) (yMoveW rfl (.tmp 1) rfl (.int .i64 (K : Nat)) rfl) hS ?_
    simp only [Act.put, List.setIfInBounds_toArray, List.set_cons_succ, List.set_cons_zero]
    refine takeH (i := 6) (some 62) rfl rfl (by kernel_rfl) (by kernel_rfl) (by kernel_rfl) (fun _ _ _ h => h) (yRunW rfl pa (fun _ _ => rx_index (.tmp 60) (.tmp 61) rfl vl pa rfl _ rfl HPA.out.1)) hS ?_
    simp only [Act.put, List.setIfInBounds_toArray, List.set_cons_succ, List.set_cons_zero]
    refine takeH (i := 7) (some 63) rfl rfl (by kernel_rfl) (by kernel_rfl) (by kernel_rfl) (fun _ _ _ h => h) (yRunW rfl (hv x) (fun W hW => rx_load (.tmp 62) rfl (pa) rfl x ((HPA.out.2.later hW)))) hS ?_
    simp only [Act.put, List.setIfInBounds_toArray, List.set_cons_succ, List.set_cons_zero]
    refine takeH (i := 8) (some 64) rfl rfl (by kernel_rfl) (by kernel_rfl) (by kernel_rfl) (fun _ _ _ h => h) (yMoveW rfl (.tmp 1) rfl (.int .i64 (K : Nat)) rfl) hS ?_
    simp only [Act.put, List.setIfInBounds_toArray, List.set_cons_succ, List.set_cons_zero]
    refine takeH (i := 9) (some 65) rfl rfl (by kernel_rfl) (by kernel_rfl) (by kernel_rfl) (fun _ _ _ h => h) (yMoveW rfl (.tmp 9) rfl (.int .i64 (N : Nat)) rfl) hS ?_
    simp only [Act.put, List.setIfInBounds_toArray, List.set_cons_succ, List.set_cons_zero]
    refine takeH (i := 10) (some 66) rfl rfl (by kernel_rfl) (by kernel_rfl) (by kernel_rfl) (fun _ _ _ h => h) (yMoveW rfl (.tmp 11) rfl (vp) rfl) hS ?_
    simp only [Act.put, List.setIfInBounds_toArray, List.set_cons_succ, List.set_cons_zero]
    refine takeH (i := 11) (some 67) rfl rfl (by kernel_rfl) (by kernel_rfl) (by kernel_rfl) (fun _ _ _ h => h) (yRunW rfl (hv oth) (fun W hW => rx_load (.tmp 5) rfl (.pointer (some ⟨B, 0, none⟩)) rfl oth ((R5.out.2.2.2.1.next hW).at))) hS ?_
    simp only [Act.put, List.setIfInBounds_toArray, List.set_cons_succ, List.set_cons_zero]
    refine oneH (i := 12) (by kernel_rfl) ?_
    refine opCallW (some 68) rfl rfl rfl 10 _ (run_call en10 [.tmp 63, .tmp 64, .tmp 65, .tmp 66, .tmp 67] _ rfl [hv x, .int .i64 (K : Nat), .int .i64 (N : Nat), vp, hv oth] rfl) ?_
    refine (vincl_any x oth (K : Nat) (N : Nat) vp P0 _ HPA.out.2.1 HX.out (R5.out.2.2.2.2.2.later hS) (ht.later (below_append R5.out.2.1 hS)) (hst.later (below_append R5.out.2.1 hS)) (by omega)).mono ?_
    rintro e x1 ⟨rfl, bb⟩
    rw [HI.out.1, HRE.out]
    have hS' : Below w5.heap.size w5 x1 := below_append hS bb
    refine ⟨_, rfl, hS', ?_⟩
    clear hS bb
    have hS := hS'
    clear hS'
    simp only [Act.put, List.setIfInBounds_toArray, List.set_cons_succ, List.set_cons_zero]
    refine takeH (i := 13) (some 69) rfl rfl (by kernel_rfl) (by kernel_rfl) (by kernel_rfl) (fun _ _ _ h => h) (yPickW rfl (.tmp 59) (.tmp 68) _ rfl rfl (.bool false) rfl) hS ?_
    simp only [Act.put, List.setIfInBounds_toArray, List.set_cons_succ, List.set_cons_zero]
    refine takeH (i := 14) (some 70) rfl rfl (by kernel_rfl) (by kernel_rfl) (by kernel_rfl) (fun _ _ _ h => h) (yMoveW rfl (.tmp 69) rfl (.bool false) rfl) hS ?_
    simp only [Act.put, List.setIfInBounds_toArray, List.set_cons_succ, List.set_cons_zero]
    refine takeH (i := 15) (some 71) rfl rfl (by kernel_rfl) (by kernel_rfl) (by kernel_rfl) (fun _ _ _ h => h) (yMoveW rfl (.tmp 8) rfl (vl) rfl) hS ?_
    simp only [Act.put, List.setIfInBounds_toArray, List.set_cons_succ, List.set_cons_zero]
    refine takeH (i := 16) (some 72) rfl rfl (by kernel_rfl) (by kernel_rfl) (by kernel_rfl) (fun _ _ _ h => h) (yMoveW rfl (.tmp 1) rfl (.int .i64 (K : Nat)) rfl) hS ?_
    simp only [Act.put, List.setIfInBounds_toArray, List.set_cons_succ, List.set_cons_zero]
    refine takeH (i := 17) (some 73) rfl rfl (by kernel_rfl) (by kernel_rfl) (by kernel_rfl) (fun _ _ _ h => h) (yRunW rfl pa (fun _ _ => rx_index (.tmp 71) (.tmp 72) rfl vl pa rfl _ rfl HPA.out.1)) hS ?_
    simp only [Act.put, List.setIfInBounds_toArray, List.set_cons_succ, List.set_cons_zero]
    refine takeH (i := 18) (some 74) rfl rfl (by kernel_rfl) (by kernel_rfl) (by kernel_rfl) (fun _ _ _ h => h) (yRunW rfl (hv x) (fun W hW => rx_load (.tmp 73) rfl (pa) rfl x ((HPA.out.2.later hW)))) hS ?_
    simp only [Act.put, List.setIfInBounds_toArray, List.set_cons_succ, List.set_cons_zero]
    refine takeH (i := 19) (some 75) rfl rfl (by kernel_rfl) (by kernel_rfl) (by kernel_rfl) (fun _ _ _ h => h) (yMoveW rfl (.tmp 1) rfl (.int .i64 (K : Nat)) rfl) hS ?_
    simp only [Act.put, List.setIfInBounds_toArray, List.set_cons_succ, List.set_cons_zero]
    refine takeH (i := 20) (some 76) rfl rfl (by kernel_rfl) (by kernel_rfl) (by kernel_rfl) (fun _ _ _ h => h) (yMoveW rfl (.tmp 9) rfl (.int .i64 (N : Nat)) rfl) hS ?_
    simp only [Act.put, List.setIfInBounds_toArray, List.set_cons_succ, List.set_cons_zero]
    refine takeH (i := 22) (some 78) rfl rfl (by kernel_rfl) (by kernel_rfl) (by kernel_rfl) (fun _ _ _ h => h) (yMoveW rfl (.tmp 11) rfl (vp) rfl) hS ?_
    simp only [Act.put, List.setIfInBounds_toArray, List.set_cons_succ, List.set_cons_zero]
    refine takeH (i := 24) (some 80) rfl rfl (by kernel_rfl) (by kernel_rfl) (by kernel_rfl) (fun _ _ _ h => h) (yRunW rfl (hv oth) (fun W hW => rx_load (.tmp 5) rfl (.pointer (some ⟨B, 0, none⟩)) rfl oth ((R5.out.2.2.2.1.next hW).at))) hS ?_
    simp only [Act.put, List.setIfInBounds_toArray, List.set_cons_succ, List.set_cons_zero]
    refine takeH (i := 27) (some 83) rfl rfl (by kernel_rfl) (by kernel_rfl) (by kernel_rfl) (fun _ _ _ h => h) (yRunW rfl (hv rt) (fun W hW => rx_load (.tmp 10) rfl (.pointer (some ⟨gr, 0, none⟩)) rfl rt ((R5.out.2.2.2.2.1.next hW).at))) hS ?_
    simp only [Act.put, List.setIfInBounds_toArray, List.set_cons_succ, List.set_cons_zero]
    refine twoH (i := 21) (j := 25) (by kernel_rfl) ?_ ?_
    · refine opLit0 (some 77) rfl rfl rfl rfl ?_
      intro x2 Gx2 Rx2 bb hq
      have HGGx2 : w5.heap.size ≤ Gx2 := Nat.le_trans hS.size hq
      have hS' : Below w5.heap.size w5 x2 := below_append hS bb
      refine ⟨hS', ?_⟩
      clear hS bb hq
      have hS := hS'
      clear hS'
      simp only [Act.put, List.setIfInBounds_toArray, List.set_cons_succ, List.set_cons_zero]
      refine twoH (i := 23) (j := 25) (by kernel_rfl) ?_ ?_
      · obtain ⟨Vx3, x3, ra, Lx3, bb⟩ := app_first 24 Gx2 Rx2 vp P0 (R5.out.2.2.2.2.2.later hS) (by have := HPL.out; omega)
        refine opValW (some 79) rfl rfl rfl Vx3 x3 (rx_append (.tmp 77) (.tmp 78) rfl _ _ Vx3 x3 rfl rfl ra) ?_
        have hS' : Below w5.heap.size w5 x3 := below_append hS bb
        refine ⟨hS', ?_⟩
        have Rx2' : Row x3 Gx2 23 [] := Rx2.later bb Rx2.lt
        clear Rx2
        have Rx2 := Rx2'
        clear Rx2'
        clear hS bb ra
        have hS := hS'
        clear hS'
        simp only [Act.put, List.setIfInBounds_toArray, List.set_cons_succ, List.set_cons_zero]
        refine oneH (i := 25) (by kernel_rfl) ?_
        refine opLit1 (some 81) rfl rfl rfl (.tmp 80) rfl oth HX.out rfl ?_
        intro Vx4 x4 Lx4 bb
        have hS' : Below w5.heap.size w5 x4 := below_append hS bb
        refine ⟨hS', ?_⟩
        have Rx2' : Row x4 Gx2 23 [] := Rx2.later bb Rx2.lt
        clear Rx2
        have Rx2 := Rx2'
        clear Rx2'
        have Lx3' : HOwn x4 Gx2 Vx3 P0 := Lx3.later bb (Nat.le_refl _)
        clear Lx3
        have Lx3 := Lx3'
        clear Lx3'
        clear hS bb
        have hS := hS'
        clear hS'
        simp only [Act.put, List.setIfInBounds_toArray, List.set_cons_succ, List.set_cons_zero]
        refine oneH (i := 26) (by kernel_rfl) ?_
        obtain ⟨Vx5, x5, ra, Lx5, gg⟩ := run_happend Gx2 24 Vx3 Vx4 P0 [oth] Lx3 (Lx4) (by have := HPL.out; simp; omega) (by have := Rx2.lt; omega)
        have bb := Lx3.below gg (by have := Rx2.lt; omega)
        refine opValW (some 82) rfl rfl rfl Vx5 x5 (rx_append (.tmp 79) (.tmp 81) rfl _ _ Vx5 x5 rfl rfl ra) ?_
        have hS' : Below w5.heap.size w5 x5 := hS.trans (bb.mono HGGx2)
        refine ⟨hS', ?_⟩
        clear ra gg bb Rx2 Lx3 Lx4
        clear hS
        have hS := hS'
        clear hS'
        simp only [Act.put, List.setIfInBounds_toArray, List.set_cons_succ, List.set_cons_zero]
        refine oneH (i := 28) (by kernel_rfl) ?_
        refine opCallW (some 84) rfl rfl rfl 10 _ (run_call en10 [.tmp 74, .tmp 75, .tmp 76, .tmp 82, .tmp 83] _ rfl [hv x, .int .i64 (K : Nat), .int .i64 (N : Nat), Vx5, hv rt] rfl) ?_
        refine (vincl_any x rt (K : Nat) (N : Nat) Vx5 (P0 ++ [oth]) _ HPA.out.2.1 R5.out.2.2.2.2.1.1 Lx5.hin (ht.later (below_append R5.out.2.1 hS)) (hst.later (below_append R5.out.2.1 hS)) (by omega)).mono ?_
        rintro e x6 ⟨rfl, bb⟩
        rw [HI.out.2.1]
        have hS' : Below w5.heap.size w5 x6 := below_append hS bb
        refine ⟨_, rfl, hS', ?_⟩
        have Lx5' : HOwn x6 Gx2 Vx5 (P0 ++ [oth]) := Lx5.later bb (Nat.le_refl _)
        clear Lx5
        have Lx5 := Lx5'
        clear Lx5'
        clear hS bb
        have hS := hS'
        clear hS'
        simp only [Act.put, List.setIfInBounds_toArray, List.set_cons_succ, List.set_cons_zero]
        refine takeH (i := 29) (some 85) rfl rfl (by kernel_rfl) (by kernel_rfl) (by kernel_rfl) (fun _ _ _ h => h) (yPickF rfl (.tmp 70) _ (.tmp 84) rfl rfl (.bool false) rfl) hS ?_
        simp only [Act.put, List.setIfInBounds_toArray, List.set_cons_succ, List.set_cons_zero]
        refine takeH (i := 30) (some 86) rfl rfl (by kernel_rfl) (by kernel_rfl) (by kernel_rfl) (fun _ _ _ h => h) (yMoveW rfl (.tmp 85) rfl (.bool false) rfl) hS ?_
        simp only [Act.put, List.setIfInBounds_toArray, List.set_cons_succ, List.set_cons_zero]
        refine takeH (i := 31) (some 87) rfl rfl (by kernel_rfl) (by kernel_rfl) (by kernel_rfl) (fun _ _ _ h => h) (yMoveW rfl (.tmp 8) rfl (vl) rfl) hS ?_
        simp only [Act.put, List.setIfInBounds_toArray, List.set_cons_succ, List.set_cons_zero]
        refine takeH (i := 32) (some 88) rfl rfl (by kernel_rfl) (by kernel_rfl) (by kernel_rfl) (fun _ _ _ h => h) (yMoveW rfl (.tmp 1) rfl (.int .i64 (K : Nat)) rfl) hS ?_
        simp only [Act.put, List.setIfInBounds_toArray, List.set_cons_succ, List.set_cons_zero]
        refine takeH (i := 33) (some 89) rfl rfl (by kernel_rfl) (by kernel_rfl) (by kernel_rfl) (fun _ _ _ h => h) (yRunW rfl pa (fun _ _ => rx_index (.tmp 87) (.tmp 88) rfl vl pa rfl _ rfl HPA.out.1)) hS ?_
        simp only [Act.put, List.setIfInBounds_toArray, List.set_cons_succ, List.set_cons_zero]
        refine takeH (i := 34) (some 90) rfl rfl (by kernel_rfl) (by kernel_rfl) (by kernel_rfl) (fun _ _ _ h => h) (yRunW rfl (hv x) (fun W hW => rx_load (.tmp 89) rfl (pa) rfl x ((HPA.out.2.later hW)))) hS ?_
        simp only [Act.put, List.setIfInBounds_toArray, List.set_cons_succ, List.set_cons_zero]
        refine takeH (i := 35) (some 91) rfl rfl (by kernel_rfl) (by kernel_rfl) (by kernel_rfl) (fun _ _ _ h => h) (yMoveW rfl (.tmp 1) rfl (.int .i64 (K : Nat)) rfl) hS ?_
        simp only [Act.put, List.setIfInBounds_toArray, List.set_cons_succ, List.set_cons_zero]
        refine takeH (i := 36) (some 92) rfl rfl (by kernel_rfl) (by kernel_rfl) (by kernel_rfl) (fun _ _ _ h => h) (yMoveW rfl (.tmp 9) rfl (.int .i64 (N : Nat)) rfl) hS ?_
        simp only [Act.put, List.setIfInBounds_toArray, List.set_cons_succ, List.set_cons_zero]
        refine takeH (i := 37) (some 93) rfl rfl (by kernel_rfl) (by kernel_rfl) (by kernel_rfl) (fun _ _ _ h => h) (yMoveW rfl (.tmp 11) rfl (vp) rfl) hS ?_
        simp only [Act.put, List.setIfInBounds_toArray, List.set_cons_succ, List.set_cons_zero]
        refine takeH (i := 38) (some 94) rfl rfl (by kernel_rfl) (by kernel_rfl) (by kernel_rfl) (fun _ _ _ h => h) (yRunW rfl vd (fun _ _ => rx_sub (.tmp 93) (some (.const (.int .i64 1))) none rfl vp vd rfl HVD.out.1)) hS ?_
        simp only [Act.put, List.setIfInBounds_toArray, List.set_cons_succ, List.set_cons_zero]
        refine takeH (i := 39) (some 95) rfl rfl (by kernel_rfl) (by kernel_rfl) (by kernel_rfl) (fun _ _ _ h => h) (yRunW rfl (hv rt) (fun W hW => rx_load (.tmp 10) rfl (.pointer (some ⟨gr, 0, none⟩)) rfl rt ((R5.out.2.2.2.2.1.next hW).at))) hS ?_
        simp only [Act.put, List.setIfInBounds_toArray, List.set_cons_succ, List.set_cons_zero]
        refine oneH (i := 40) (by kernel_rfl) ?_
        refine opCallW (some 96) rfl rfl rfl 10 _ (run_call en10 [.tmp 90, .tmp 91, .tmp 92, .tmp 94, .tmp 95] _ rfl [hv x, .int .i64 (K : Nat), .int .i64 (N : Nat), vd, hv rt] rfl) ?_
        refine (vincl_any x rt (K : Nat) (N : Nat) vd (P0.drop 1) _ HPA.out.2.1 R5.out.2.2.2.2.1.1 (HVD.out.2.later hS) (ht.later (below_append R5.out.2.1 hS)) (hst.later (below_append R5.out.2.1 hS)) (by omega)).mono ?_
        rintro e x7 ⟨rfl, bb⟩
        rw [HI.out.2.2.1]
        have hS' : Below w5.heap.size w5 x7 := below_append hS bb
        refine ⟨_, rfl, hS', ?_⟩
        have Lx5' : HOwn x7 Gx2 Vx5 (P0 ++ [oth]) := Lx5.later bb (Nat.le_refl _)
        clear Lx5
        have Lx5 := Lx5'
        clear Lx5'
        clear hS bb
        have hS := hS'
        clear hS'
        simp only [Act.put, List.setIfInBounds_toArray, List.set_cons_succ, List.set_cons_zero]
        refine takeH (i := 41) (some 97) rfl rfl (by kernel_rfl) (by kernel_rfl) (by kernel_rfl) (fun _ _ _ h => h) (yPickF rfl (.tmp 86) _ (.tmp 96) rfl rfl (.bool false) rfl) hS ?_
        simp only [Act.put, List.setIfInBounds_toArray, List.set_cons_succ, List.set_cons_zero]
        refine takeH (i := 42) (some 98) rfl rfl (by kernel_rfl) (by kernel_rfl) (by kernel_rfl) (fun _ _ _ h => h) (yMoveW rfl (.tmp 97) rfl (.bool false) rfl) hS ?_
        simp only [Act.put, List.setIfInBounds_toArray, List.set_cons_succ, List.set_cons_zero]
        refine takeH (i := 43) (some 99) rfl rfl (by kernel_rfl) (by kernel_rfl) (by kernel_rfl) (fun _ _ _ h => h) (yMoveW rfl (.tmp 8) rfl (vl) rfl) hS ?_
        simp only [Act.put, List.setIfInBounds_toArray, List.set_cons_succ, List.set_cons_zero]
        refine takeH (i := 44) (some 100) rfl rfl (by kernel_rfl) (by kernel_rfl) (by kernel_rfl) (fun _ _ _ h => h) (yMoveW rfl (.tmp 1) rfl (.int .i64 (K : Nat)) rfl) hS ?_
        simp only [Act.put, List.setIfInBounds_toArray, List.set_cons_succ, List.set_cons_zero]
        refine takeH (i := 45) (some 101) rfl rfl (by kernel_rfl) (by kernel_rfl) (by kernel_rfl) (fun _ _ _ h => h) (yRunW rfl pa (fun _ _ => rx_index (.tmp 99) (.tmp 100) rfl vl pa rfl _ rfl HPA.out.1)) hS ?_
        simp only [Act.put, List.setIfInBounds_toArray, List.set_cons_succ, List.set_cons_zero]
        refine takeH (i := 46) (some 102) rfl rfl (by kernel_rfl) (by kernel_rfl) (by kernel_rfl) (fun _ _ _ h => h) (yRunW rfl (hv x) (fun W hW => rx_load (.tmp 101) rfl (pa) rfl x ((HPA.out.2.later hW)))) hS ?_
        simp only [Act.put, List.setIfInBounds_toArray, List.set_cons_succ, List.set_cons_zero]
        refine takeH (i := 47) (some 103) rfl rfl (by kernel_rfl) (by kernel_rfl) (by kernel_rfl) (fun _ _ _ h => h) (yMoveW rfl (.tmp 1) rfl (.int .i64 (K : Nat)) rfl) hS ?_
        simp only [Act.put, List.setIfInBounds_toArray, List.set_cons_succ, List.set_cons_zero]
        refine takeH (i := 48) (some 104) rfl rfl (by kernel_rfl) (by kernel_rfl) (by kernel_rfl) (fun _ _ _ h => h) (yMoveW rfl (.tmp 9) rfl (.int .i64 (N : Nat)) rfl) hS ?_
        simp only [Act.put, List.setIfInBounds_toArray, List.set_cons_succ, List.set_cons_zero]
        refine takeH (i := 49) (some 105) rfl rfl (by kernel_rfl) (by kernel_rfl) (by kernel_rfl) (fun _ _ _ h => h) (yMoveW rfl (.tmp 11) rfl (vp) rfl) hS ?_
        simp only [Act.put, List.setIfInBounds_toArray, List.set_cons_succ, List.set_cons_zero]
        refine takeH (i := 50) (some 106) rfl rfl (by kernel_rfl) (by kernel_rfl) (by kernel_rfl) (fun _ _ _ h => h) (yMoveW rfl (.tmp 11) rfl (vp) rfl) hS ?_
        simp only [Act.put, List.setIfInBounds_toArray, List.set_cons_succ, List.set_cons_zero]
        refine takeH (i := 51) (some 107) rfl rfl (by kernel_rfl) (by kernel_rfl) (by kernel_rfl) (fun _ _ _ h => h) (yLen rfl (.tmp 106) rfl vp P0 rfl _ (R5.out.2.2.2.2.2.later hS) (n0 + 1) HP0.out) hS ?_
        simp only [Act.put, List.setIfInBounds_toArray, List.set_cons_succ, List.set_cons_zero]
        refine takeH (i := 52) (some 108) rfl rfl (by kernel_rfl) (by kernel_rfl) (by kernel_rfl) (fun _ _ _ h => h) (yRunW rfl (.int .i64 (n0 : Nat)) (fun _ _ => rx_pred (.tmp 107) (.const (.int .i64 1)) rfl n0 rfl rfl (by omega))) hS ?_
        simp only [Act.put, List.setIfInBounds_toArray, List.set_cons_succ, List.set_cons_zero]
        refine takeH (i := 53) (some 109) rfl rfl (by kernel_rfl) (by kernel_rfl) (by kernel_rfl) (fun _ _ _ h => h) (yRunW rfl vt (fun _ _ => rx_sub (.tmp 105) none (some (.tmp 108)) rfl vp vt rfl HVT.out.1)) hS ?_
        simp only [Act.put, List.setIfInBounds_toArray, List.set_cons_succ, List.set_cons_zero]
        refine takeH (i := 54) (some 110) rfl rfl (by kernel_rfl) (by kernel_rfl) (by kernel_rfl) (fun _ _ _ h => h) (yRunW rfl (hv rt) (fun W hW => rx_load (.tmp 10) rfl (.pointer (some ⟨gr, 0, none⟩)) rfl rt ((R5.out.2.2.2.2.1.next hW).at))) hS ?_
        simp only [Act.put, List.setIfInBounds_toArray, List.set_cons_succ, List.set_cons_zero]
        refine oneH (i := 55) (by kernel_rfl) ?_
        refine opCallW (some 111) rfl rfl rfl 10 _ (run_call en10 [.tmp 102, .tmp 103, .tmp 104, .tmp 109, .tmp 110] _ rfl [hv x, .int .i64 (K : Nat), .int .i64 (N : Nat), vt, hv rt] rfl) ?_
        refine (vincl_any x rt (K : Nat) (N : Nat) vt (P0.take n0) _ HPA.out.2.1 R5.out.2.2.2.2.1.1 (HVT.out.2.later hS) (ht.later (below_append R5.out.2.1 hS)) (hst.later (below_append R5.out.2.1 hS)) (by omega)).mono ?_
        rintro e x8 ⟨rfl, bb⟩
        rw [HI.out.2.2.2]
        have hS' : Below w5.heap.size w5 x8 := below_append hS bb
        refine ⟨_, rfl, hS', ?_⟩
        have Lx5' : HOwn x8 Gx2 Vx5 (P0 ++ [oth]) := Lx5.later bb (Nat.le_refl _)
        clear Lx5
        have Lx5 := Lx5'
        clear Lx5'
        clear hS bb
        have hS := hS'
        clear hS'
        simp only [Act.put, List.setIfInBounds_toArray, List.set_cons_succ, List.set_cons_zero]
        refine takeH (i := 56) (some 112) rfl rfl (by kernel_rfl) (by kernel_rfl) (by kernel_rfl) (fun _ _ _ h => h) (yPickF rfl (.tmp 98) _ (.tmp 111) rfl rfl (.bool false) rfl) hS ?_
        simp only [Act.put, List.setIfInBounds_toArray, List.set_cons_succ, List.set_cons_zero]
        refine wpAnyH_done (by kernel_rfl) ?_ _
        have RZ : Hid (Below w5.heap.size w5 _) := hS
        clear hS Lx5
        go_wp2_with fail
        go_meet
        case rel => exact ⟨rfl, RZ.out⟩
      · refine opLit1 (some 81) rfl rfl rfl (.tmp 80) rfl oth HX.out rfl ?_
        intro Vx9 x9 Lx9 bb
        have hS' : Below w5.heap.size w5 x9 := below_append hS bb
        refine ⟨hS', ?_⟩
        have Rx2' : Row x9 Gx2 23 [] := Rx2.later bb Rx2.lt
        clear Rx2
        have Rx2 := Rx2'
        clear Rx2'
        clear hS bb
        have hS := hS'
        clear hS'
        simp only [Act.put, List.setIfInBounds_toArray, List.set_cons_succ, List.set_cons_zero]
        refine oneH (i := 23) (by kernel_rfl) ?_
        obtain ⟨Vx10, x10, ra, Lx10, bb⟩ := app_first 24 Gx2 Rx2 vp P0 (R5.out.2.2.2.2.2.later hS) (by have := HPL.out; omega)
        refine opValW (some 79) rfl rfl rfl Vx10 x10 (rx_append (.tmp 77) (.tmp 78) rfl _ _ Vx10 x10 rfl rfl ra) ?_
        have hS' : Below w5.heap.size w5 x10 := below_append hS bb
        refine ⟨hS', ?_⟩
        have Rx2' : Row x10 Gx2 23 [] := Rx2.later bb Rx2.lt
        clear Rx2
        have Rx2 := Rx2'
        clear Rx2'
        have Lx9' : HIn x10 Vx9 [oth] := Lx9.later bb
        clear Lx9
        have Lx9 := Lx9'
        clear Lx9'
        clear hS bb ra
        have hS := hS'
        clear hS'
        simp only [Act.put, List.setIfInBounds_toArray, List.set_cons_succ, List.set_cons_zero]
        refine oneH (i := 26) (by kernel_rfl) ?_
        obtain ⟨Vx11, x11, ra, Lx11, gg⟩ := run_happend Gx2 24 Vx10 Vx9 P0 [oth] Lx10 (Lx9) (by have := HPL.out; simp; omega) (by have := Rx2.lt; omega)
        have bb := Lx10.below gg (by have := Rx2.lt; omega)
        refine opValW (some 82) rfl rfl rfl Vx11 x11 (rx_append (.tmp 79) (.tmp 81) rfl _ _ Vx11 x11 rfl rfl ra) ?_
        have hS' : Below w5.heap.size w5 x11 := hS.trans (bb.mono HGGx2)
        refine ⟨hS', ?_⟩
        clear ra gg bb Rx2 Lx9 Lx10
        clear hS
        have hS := hS'
        clear hS'
        simp only [Act.put, List.setIfInBounds_toArray, List.set_cons_succ, List.set_cons_zero]
        refine oneH (i := 28) (by kernel_rfl) ?_
        refine opCallW (some 84) rfl rfl rfl 10 _ (run_call en10 [.tmp 74, .tmp 75, .tmp 76, .tmp 82, .tmp 83] _ rfl [hv x, .int .i64 (K : Nat), .int .i64 (N : Nat), Vx11, hv rt] rfl) ?_
        refine (vincl_any x rt (K : Nat) (N : Nat) Vx11 (P0 ++ [oth]) _ HPA.out.2.1 R5.out.2.2.2.2.1.1 Lx11.hin (ht.later (below_append R5.out.2.1 hS)) (hst.later (below_append R5.out.2.1 hS)) (by omega)).mono ?_
        rintro e x12 ⟨rfl, bb⟩
        rw [HI.out.2.1]
        have hS' : Below w5.heap.size w5 x12 := below_append hS bb
        refine ⟨_, rfl, hS', ?_⟩
        have Lx11' : HOwn x12 Gx2 Vx11 (P0 ++ [oth]) := Lx11.later bb (Nat.le_refl _)
        clear Lx11
        have Lx11 := Lx11'
        clear Lx11'
        clear hS bb
        have hS := hS'
        clear hS'
        simp only [Act.put, List.setIfInBounds_toArray, List.set_cons_succ, List.set_cons_zero]
        refine takeH (i := 29) (some 85) rfl rfl (by kernel_rfl) (by kernel_rfl) (by kernel_rfl) (fun _ _ _ h => h) (yPickF rfl (.tmp 70) _ (.tmp 84) rfl rfl (.bool false) rfl) hS ?_
        simp only [Act.put, List.setIfInBounds_toArray, List.set_cons_succ, List.set_cons_zero]
        refine takeH (i := 30) (some 86) rfl rfl (by kernel_rfl) (by kernel_rfl) (by kernel_rfl) (fun _ _ _ h => h) (yMoveW rfl (.tmp 85) rfl (.bool false) rfl) hS ?_
        simp only [Act.put, List.setIfInBounds_toArray, List.set_cons_succ, List.set_cons_zero]
        refine takeH (i := 31) (some 87) rfl rfl (by kernel_rfl) (by kernel_rfl) (by kernel_rfl) (fun _ _ _ h => h) (yMoveW rfl (.tmp 8) rfl (vl) rfl) hS ?_
        simp only [Act.put, List.setIfInBounds_toArray, List.set_cons_succ, List.set_cons_zero]
        refine takeH (i := 32) (some 88) rfl rfl (by kernel_rfl) (by kernel_rfl) (by kernel_rfl) (fun _ _ _ h => h) (yMoveW rfl (.tmp 1) rfl (.int .i64 (K : Nat)) rfl) hS ?_
        simp only [Act.put, List.setIfInBounds_toArray, List.set_cons_succ, List.set_cons_zero]
        refine takeH (i := 33) (some 89) rfl rfl (by kernel_rfl) (by kernel_rfl) (by kernel_rfl) (fun _ _ _ h => h) (yRunW rfl pa (fun _ _ => rx_index (.tmp 87) (.tmp 88) rfl vl pa rfl _ rfl HPA.out.1)) hS ?_
        simp only [Act.put, List.setIfInBounds_toArray, List.set_cons_succ, List.set_cons_zero]
        refine takeH (i := 34) (some 90) rfl rfl (by kernel_rfl) (by kernel_rfl) (by kernel_rfl) (fun _ _ _ h => h) (yRunW rfl (hv x) (fun W hW => rx_load (.tmp 89) rfl (pa) rfl x ((HPA.out.2.later hW)))) hS ?_
        simp only [Act.put, List.setIfInBounds_toArray, List.set_cons_succ, List.set_cons_zero]
        refine takeH (i := 35) (some 91) rfl rfl (by kernel_rfl) (by kernel_rfl) (by kernel_rfl) (fun _ _ _ h => h) (yMoveW rfl (.tmp 1) rfl (.int .i64 (K : Nat)) rfl) hS ?_
        simp only [Act.put, List.setIfInBounds_toArray, List.set_cons_succ, List.set_cons_zero]
        refine takeH (i := 36) (some 92) rfl rfl (by kernel_rfl) (by kernel_rfl) (by kernel_rfl) (fun _ _ _ h => h) (yMoveW rfl (.tmp 9) rfl (.int .i64 (N : Nat)) rfl) hS ?_
        simp only [Act.put, List.setIfInBounds_toArray, List.set_cons_succ, List.set_cons_zero]
        refine takeH (i := 37) (some 93) rfl rfl (by kernel_rfl) (by kernel_rfl) (by kernel_rfl) (fun _ _ _ h => h) (yMoveW rfl (.tmp 11) rfl (vp) rfl) hS ?_
        simp only [Act.put, List.setIfInBounds_toArray, List.set_cons_succ, List.set_cons_zero]
        refine takeH (i := 38) (some 94) rfl rfl (by kernel_rfl) (by kernel_rfl) (by kernel_rfl) (fun _ _ _ h => h) (yRunW rfl vd (fun _ _ => rx_sub (.tmp 93) (some (.const (.int .i64 1))) none rfl vp vd rfl HVD.out.1)) hS ?_
        simp only [Act.put, List.setIfInBounds_toArray, List.set_cons_succ, List.set_cons_zero]
        refine takeH (i := 39) (some 95) rfl rfl (by kernel_rfl) (by kernel_rfl) (by kernel_rfl) (fun _ _ _ h => h) (yRunW rfl (hv rt) (fun W hW => rx_load (.tmp 10) rfl (.pointer (some ⟨gr, 0, none⟩)) rfl rt ((R5.out.2.2.2.2.1.next hW).at))) hS ?_
        simp only [Act.put, List.setIfInBounds_toArray, List.set_cons_succ, List.set_cons_zero]
        refine oneH (i := 40) (by kernel_rfl) ?_
        refine opCallW (some 96) rfl rfl rfl 10 _ (run_call en10 [.tmp 90, .tmp 91, .tmp 92, .tmp 94, .tmp 95] _ rfl [hv x, .int .i64 (K : Nat), .int .i64 (N : Nat), vd, hv rt] rfl) ?_
        refine (vincl_any x rt (K : Nat) (N : Nat) vd (P0.drop 1) _ HPA.out.2.1 R5.out.2.2.2.2.1.1 (HVD.out.2.later hS) (ht.later (below_append R5.out.2.1 hS)) (hst.later (below_append R5.out.2.1 hS)) (by omega)).mono ?_
        rintro e x13 ⟨rfl, bb⟩
        rw [HI.out.2.2.1]
        have hS' : Below w5.heap.size w5 x13 := below_append hS bb
        refine ⟨_, rfl, hS', ?_⟩
        have Lx11' : HOwn x13 Gx2 Vx11 (P0 ++ [oth]) := Lx11.later bb (Nat.le_refl _)
        clear Lx11
        have Lx11 := Lx11'
        clear Lx11'
        clear hS bb
        have hS := hS'
        clear hS'
        simp only [Act.put, List.setIfInBounds_toArray, List.set_cons_succ, List.set_cons_zero]
        refine takeH (i := 41) (some 97) rfl rfl (by kernel_rfl) (by kernel_rfl) (by kernel_rfl) (fun _ _ _ h => h) (yPickF rfl (.tmp 86) _ (.tmp 96) rfl rfl (.bool false) rfl) hS ?_
        simp only [Act.put, List.setIfInBounds_toArray, List.set_cons_succ, List.set_cons_zero]
        refine takeH (i := 42) (some 98) rfl rfl (by kernel_rfl) (by kernel_rfl) (by kernel_rfl) (fun _ _ _ h => h) (yMoveW rfl (.tmp 97) rfl (.bool false) rfl) hS ?_
        simp only [Act.put, List.setIfInBounds_toArray, List.set_cons_succ, List.set_cons_zero]
        refine takeH (i := 43) (some 99) rfl rfl (by kernel_rfl) (by kernel_rfl) (by kernel_rfl) (fun _ _ _ h => h) (yMoveW rfl (.tmp 8) rfl (vl) rfl) hS ?_
        simp only [Act.put, List.setIfInBounds_toArray, List.set_cons_succ, List.set_cons_zero]
        refine takeH (i := 44) (some 100) rfl rfl (by kernel_rfl) (by kernel_rfl) (by kernel_rfl) (fun _ _ _ h => h) (yMoveW rfl (.tmp 1) rfl (.int .i64 (K : Nat)) rfl) hS ?_
        simp only [Act.put, List.setIfInBounds_toArray, List.set_cons_succ, List.set_cons_zero]
        refine takeH (i := 45) (some 101) rfl rfl (by kernel_rfl) (by kernel_rfl) (by kernel_rfl) (fun _ _ _ h => h) (yRunW rfl pa (fun _ _ => rx_index (.tmp 99) (.tmp 100) rfl vl pa rfl _ rfl HPA.out.1)) hS ?_
        simp only [Act.put, List.setIfInBounds_toArray, List.set_cons_succ, List.set_cons_zero]
        refine takeH (i := 46) (some 102) rfl rfl (by kernel_rfl) (by kernel_rfl) (by kernel_rfl) (fun _ _ _ h => h) (yRunW rfl (hv x) (fun W hW => rx_load (.tmp 101) rfl (pa) rfl x ((HPA.out.2.later hW)))) hS ?_
        simp only [Act.put, List.setIfInBounds_toArray, List.set_cons_succ, List.set_cons_zero]
        refine takeH (i := 47) (some 103) rfl rfl (by kernel_rfl) (by kernel_rfl) (by kernel_rfl) (fun _ _ _ h => h) (yMoveW rfl (.tmp 1) rfl (.int .i64 (K : Nat)) rfl) hS ?_
        simp only [Act.put, List.setIfInBounds_toArray, List.set_cons_succ, List.set_cons_zero]
        refine takeH (i := 48) (some 104) rfl rfl (by kernel_rfl) (by kernel_rfl) (by kernel_rfl) (fun _ _ _ h => h) (yMoveW rfl (.tmp 9) rfl (.int .i64 (N : Nat)) rfl) hS ?_
        simp only [Act.put, List.setIfInBounds_toArray, List.set_cons_succ, List.set_cons_zero]
        refine takeH (i := 49) (some 105) rfl rfl (by kernel_rfl) (by kernel_rfl) (by kernel_rfl) (fun _ _ _ h => h) (yMoveW rfl (.tmp 11) rfl (vp) rfl) hS ?_
        simp only [Act.put, List.setIfInBounds_toArray, List.set_cons_succ, List.set_cons_zero]
        refine takeH (i := 50) (some 106) rfl rfl (by kernel_rfl) (by kernel_rfl) (by kernel_rfl) (fun _ _ _ h => h) (yMoveW rfl (.tmp 11) rfl (vp) rfl) hS ?_
        simp only [Act.put, List.setIfInBounds_toArray, List.set_cons_succ, List.set_cons_zero]
        refine takeH (i := 51) (some 107) rfl rfl (by kernel_rfl) (by kernel_rfl) (by kernel_rfl) (fun _ _ _ h => h) (yLen rfl (.tmp 106) rfl vp P0 rfl _ (R5.out.2.2.2.2.2.later hS) (n0 + 1) HP0.out) hS ?_
        simp only [Act.put, List.setIfInBounds_toArray, List.set_cons_succ, List.set_cons_zero]
        refine takeH (i := 52) (some 108) rfl rfl (by kernel_rfl) (by kernel_rfl) (by kernel_rfl) (fun _ _ _ h => h) (yRunW rfl (.int .i64 (n0 : Nat)) (fun _ _ => rx_pred (.tmp 107) (.const (.int .i64 1)) rfl n0 rfl rfl (by omega))) hS ?_
        simp only [Act.put, List.setIfInBounds_toArray, List.set_cons_succ, List.set_cons_zero]
        refine takeH (i := 53) (some 109) rfl rfl (by kernel_rfl) (by kernel_rfl) (by kernel_rfl) (fun _ _ _ h => h) (yRunW rfl vt (fun _ _ => rx_sub (.tmp 105) none (some (.tmp 108)) rfl vp vt rfl HVT.out.1)) hS ?_
        simp only [Act.put, List.setIfInBounds_toArray, List.set_cons_succ, List.set_cons_zero]
        refine takeH (i := 54) (some 110) rfl rfl (by kernel_rfl) (by kernel_rfl) (by kernel_rfl) (fun _ _ _ h => h) (yRunW rfl (hv rt) (fun W hW => rx_load (.tmp 10) rfl (.pointer (some ⟨gr, 0, none⟩)) rfl rt ((R5.out.2.2.2.2.1.next hW).at))) hS ?_
        simp only [Act.put, List.setIfInBounds_toArray, List.set_cons_succ, List.set_cons_zero]
        refine oneH (i := 55) (by kernel_rfl) ?_
        refine opCallW (some 111) rfl rfl rfl 10 _ (run_call en10 [.tmp 102, .tmp 103, .tmp 104, .tmp 109, .tmp 110] _ rfl [hv x, .int .i64 (K : Nat), .int .i64 (N : Nat), vt, hv rt] rfl) ?_
        refine (vincl_any x rt (K : Nat) (N : Nat) vt (P0.take n0) _ HPA.out.2.1 R5.out.2.2.2.2.1.1 (HVT.out.2.later hS) (ht.later (below_append R5.out.2.1 hS)) (hst.later (below_append R5.out.2.1 hS)) (by omega)).mono ?_
        rintro e x14 ⟨rfl, bb⟩
        rw [HI.out.2.2.2]
        have hS' : Below w5.heap.size w5 x14 := below_append hS bb
        refine ⟨_, rfl, hS', ?_⟩
        have Lx11' : HOwn x14 Gx2 Vx11 (P0 ++ [oth]) := Lx11.later bb (Nat.le_refl _)
        clear Lx11
        have Lx11 := Lx11'
        clear Lx11'
        clear hS bb
        have hS := hS'
        clear hS'
        simp only [Act.put, List.setIfInBounds_toArray, List.set_cons_succ, List.set_cons_zero]
        refine takeH (i := 56) (some 112) rfl rfl (by kernel_rfl) (by kernel_rfl) (by kernel_rfl) (fun _ _ _ h => h) (yPickF rfl (.tmp 98) _ (.tmp 111) rfl rfl (.bool false) rfl) hS ?_
        simp only [Act.put, List.setIfInBounds_toArray, List.set_cons_succ, List.set_cons_zero]
        refine wpAnyH_done (by kernel_rfl) ?_ _
        have RZ : Hid (Below w5.heap.size w5 _) := hS
        clear hS Lx11
        go_wp2_with fail
        go_meet
        case rel => exact ⟨rfl, RZ.out⟩
    · refine opLit1 (some 81) rfl rfl rfl (.tmp 80) rfl oth HX.out rfl ?_
      intro Vx15 x15 Lx15 bb
      have hS' : Below w5.heap.size w5 x15 := below_append hS bb
      refine ⟨hS', ?_⟩
      clear hS bb
      have hS := hS'
      clear hS'
      simp only [Act.put, List.setIfInBounds_toArray, List.set_cons_succ, List.set_cons_zero]
      refine oneH (i := 21) (by kernel_rfl) ?_
      refine opLit0 (some 77) rfl rfl rfl rfl ?_
      intro x16 Gx16 Rx16 bb hq
      have HGGx16 : w5.heap.size ≤ Gx16 := Nat.le_trans hS.size hq
      have hS' : Below w5.heap.size w5 x16 := below_append hS bb
      refine ⟨hS', ?_⟩
      have Lx15' : HIn x16 Vx15 [oth] := Lx15.later bb
      clear Lx15
      have Lx15 := Lx15'
      clear Lx15'
      clear hS bb hq
      have hS := hS'
      clear hS'
      simp only [Act.put, List.setIfInBounds_toArray, List.set_cons_succ, List.set_cons_zero]
      refine oneH (i := 23) (by kernel_rfl) ?_
      obtain ⟨Vx17, x17, ra, Lx17, bb⟩ := app_first 24 Gx16 Rx16 vp P0 (R5.out.2.2.2.2.2.later hS) (by have := HPL.out; omega)
      refine opValW (some 79) rfl rfl rfl Vx17 x17 (rx_append (.tmp 77) (.tmp 78) rfl _ _ Vx17 x17 rfl rfl ra) ?_
      have hS' : Below w5.heap.size w5 x17 := below_append hS bb
      refine ⟨hS', ?_⟩
      have Lx15' : HIn x17 Vx15 [oth] := Lx15.later bb
      clear Lx15
      have Lx15 := Lx15'
      clear Lx15'
      have Rx16' : Row x17 Gx16 23 [] := Rx16.later bb Rx16.lt
      clear Rx16
      have Rx16 := Rx16'
      clear Rx16'
      clear hS bb ra
      have hS := hS'
      clear hS'
      simp only [Act.put, List.setIfInBounds_toArray, List.set_cons_succ, List.set_cons_zero]
      refine oneH (i := 26) (by kernel_rfl) ?_
      obtain ⟨Vx18, x18, ra, Lx18, gg⟩ := run_happend Gx16 24 Vx17 Vx15 P0 [oth] Lx17 (Lx15) (by have := HPL.out; simp; omega) (by have := Rx16.lt; omega)
      have bb := Lx17.below gg (by have := Rx16.lt; omega)
      refine opValW (some 82) rfl rfl rfl Vx18 x18 (rx_append (.tmp 79) (.tmp 81) rfl _ _ Vx18 x18 rfl rfl ra) ?_
      have hS' : Below w5.heap.size w5 x18 := hS.trans (bb.mono HGGx16)
      refine ⟨hS', ?_⟩
      clear ra gg bb Lx15 Rx16 Lx17
      clear hS
      have hS := hS'
      clear hS'
      simp only [Act.put, List.setIfInBounds_toArray, List.set_cons_succ, List.set_cons_zero]
      refine oneH (i := 28) (by kernel_rfl) ?_
      refine opCallW (some 84) rfl rfl rfl 10 _ (run_call en10 [.tmp 74, .tmp 75, .tmp 76, .tmp 82, .tmp 83] _ rfl [hv x, .int .i64 (K : Nat), .int .i64 (N : Nat), Vx18, hv rt] rfl) ?_
      refine (vincl_any x rt (K : Nat) (N : Nat) Vx18 (P0 ++ [oth]) _ HPA.out.2.1 R5.out.2.2.2.2.1.1 Lx18.hin (ht.later (below_append R5.out.2.1 hS)) (hst.later (below_append R5.out.2.1 hS)) (by omega)).mono ?_
      rintro e x19 ⟨rfl, bb⟩
      rw [HI.out.2.1]
      have hS' : Below w5.heap.size w5 x19 := below_append hS bb
      refine ⟨_, rfl, hS', ?_⟩
      have Lx18' : HOwn x19 Gx16 Vx18 (P0 ++ [oth]) := Lx18.later bb (Nat.le_refl _)
      clear Lx18
      have Lx18 := Lx18'
      clear Lx18'
      clear hS bb
      have hS := hS'
      clear hS'
      simp only [Act.put, List.setIfInBounds_toArray, List.set_cons_succ, List.set_cons_zero]
      refine takeH (i := 29) (some 85) rfl rfl (by kernel_rfl) (by kernel_rfl) (by kernel_rfl) (fun _ _ _ h => h) (yPickF rfl (.tmp 70) _ (.tmp 84) rfl rfl (.bool false) rfl) hS ?_
      simp only [Act.put, List.setIfInBounds_toArray, List.set_cons_succ, List.set_cons_zero]
      refine takeH (i := 30) (some 86) rfl rfl (by kernel_rfl) (by kernel_rfl) (by kernel_rfl) (fun _ _ _ h => h) (yMoveW rfl (.tmp 85) rfl (.bool false) rfl) hS ?_
      simp only [Act.put, List.setIfInBounds_toArray, List.set_cons_succ, List.set_cons_zero]
      refine takeH (i := 31) (some 87) rfl rfl (by kernel_rfl) (by kernel_rfl) (by kernel_rfl) (fun _ _ _ h => h) (yMoveW rfl (.tmp 8) rfl (vl) rfl) hS ?_
      simp only [Act.put, List.setIfInBounds_toArray, List.set_cons_succ, List.set_cons_zero]
      refine takeH (i := 32) (some 88) rfl rfl (by kernel_rfl) (by kernel_rfl) (by kernel_rfl) (fun _ _ _ h => h) (yMoveW rfl (.tmp 1) rfl (.int .i64 (K : Nat)) rfl) hS ?_
      simp only [Act.put, List.setIfInBounds_toArray, List.set_cons_succ, List.set_cons_zero]
      refine takeH (i := 33) (some 89) rfl rfl (by kernel_rfl) (by kernel_rfl) (by kernel_rfl) (fun _ _ _ h => h) (yRunW rfl pa (fun _ _ => rx_index (.tmp 87) (.tmp 88) rfl vl pa rfl _ rfl HPA.out.1)) hS ?_
      simp only [Act.put, List.setIfInBounds_toArray, List.set_cons_succ, List.set_cons_zero]
      refine takeH (i := 34) (some 90) rfl rfl (by kernel_rfl) (by kernel_rfl) (by kernel_rfl) (fun _ _ _ h => h) (yRunW rfl (hv x) (fun W hW => rx_load (.tmp 89) rfl (pa) rfl x ((HPA.out.2.later hW)))) hS ?_
      simp only [Act.put, List.setIfInBounds_toArray, List.set_cons_succ, List.set_cons_zero]
      refine takeH (i := 35) (some 91) rfl rfl (by kernel_rfl) (by kernel_rfl) (by kernel_rfl) (fun _ _ _ h => h) (yMoveW rfl (.tmp 1) rfl (.int .i64 (K : Nat)) rfl) hS ?_
      simp only [Act.put, List.setIfInBounds_toArray, List.set_cons_succ, List.set_cons_zero]
      refine takeH (i := 36) (some 92) rfl rfl (by kernel_rfl) (by kernel_rfl) (by kernel_rfl) (fun _ _ _ h => h) (yMoveW rfl (.tmp 9) rfl (.int .i64 (N : Nat)) rfl) hS ?_
      simp only [Act.put, List.setIfInBounds_toArray, List.set_cons_succ, List.set_cons_zero]
      refine takeH (i := 37) (some 93) rfl rfl (by kernel_rfl) (by kernel_rfl) (by kernel_rfl) (fun _ _ _ h => h) (yMoveW rfl (.tmp 11) rfl (vp) rfl) hS ?_
      simp only [Act.put, List.setIfInBounds_toArray, List.set_cons_succ, List.set_cons_zero]
      refine takeH (i := 38) (some 94) rfl rfl (by kernel_rfl) (by kernel_rfl) (by kernel_rfl) (fun _ _ _ h => h) (yRunW rfl vd (fun _ _ => rx_sub (.tmp 93) (some (.const (.int .i64 1))) none rfl vp vd rfl HVD.out.1)) hS ?_
      simp only [Act.put, List.setIfInBounds_toArray, List.set_cons_succ, List.set_cons_zero]
      refine takeH (i := 39) (some 95) rfl rfl (by kernel_rfl) (by kernel_rfl) (by kernel_rfl) (fun _ _ _ h => h) (yRunW rfl (hv rt) (fun W hW => rx_load (.tmp 10) rfl (.pointer (some ⟨gr, 0, none⟩)) rfl rt ((R5.out.2.2.2.2.1.next hW).at))) hS ?_
      simp only [Act.put, List.setIfInBounds_toArray, List.set_cons_succ, List.set_cons_zero]
      refine oneH (i := 40) (by kernel_rfl) ?_
      refine opCallW (some 96) rfl rfl rfl 10 _ (run_call en10 [.tmp 90, .tmp 91, .tmp 92, .tmp 94, .tmp 95] _ rfl [hv x, .int .i64 (K : Nat), .int .i64 (N : Nat), vd, hv rt] rfl) ?_
      refine (vincl_any x rt (K : Nat) (N : Nat) vd (P0.drop 1) _ HPA.out.2.1 R5.out.2.2.2.2.1.1 (HVD.out.2.later hS) (ht.later (below_append R5.out.2.1 hS)) (hst.later (below_append R5.out.2.1 hS)) (by omega)).mono ?_
      rintro e x20 ⟨rfl, bb⟩
      rw [HI.out.2.2.1]
      have hS' : Below w5.heap.size w5 x20 := below_append hS bb
      refine ⟨_, rfl, hS', ?_⟩
      have Lx18' : HOwn x20 Gx16 Vx18 (P0 ++ [oth]) := Lx18.later bb (Nat.le_refl _)
      clear Lx18
      have Lx18 := Lx18'
      clear Lx18'
      clear hS bb
      have hS := hS'
      clear hS'
      simp only [Act.put, List.setIfInBounds_toArray, List.set_cons_succ, List.set_cons_zero]
      refine takeH (i := 41) (some 97) rfl rfl (by kernel_rfl) (by kernel_rfl) (by kernel_rfl) (fun _ _ _ h => h) (yPickF rfl (.tmp 86) _ (.tmp 96) rfl rfl (.bool false) rfl) hS ?_
      simp only [Act.put, List.setIfInBounds_toArray, List.set_cons_succ, List.set_cons_zero]
      refine takeH (i := 42) (some 98) rfl rfl (by kernel_rfl) (by kernel_rfl) (by kernel_rfl) (fun _ _ _ h => h) (yMoveW rfl (.tmp 97) rfl (.bool false) rfl) hS ?_
      simp only [Act.put, List.setIfInBounds_toArray, List.set_cons_succ, List.set_cons_zero]
      refine takeH (i := 43) (some 99) rfl rfl (by kernel_rfl) (by kernel_rfl) (by kernel_rfl) (fun _ _ _ h => h) (yMoveW rfl (.tmp 8) rfl (vl) rfl) hS ?_
      simp only [Act.put, List.setIfInBounds_toArray, List.set_cons_succ, List.set_cons_zero]
      refine takeH (i := 44) (some 100) rfl rfl (by kernel_rfl) (by kernel_rfl) (by kernel_rfl) (fun _ _ _ h => h) (yMoveW rfl (.tmp 1) rfl (.int .i64 (K : Nat)) rfl) hS ?_
      simp only [Act.put, List.setIfInBounds_toArray, List.set_cons_succ, List.set_cons_zero]
      refine takeH (i := 45) (some 101) rfl rfl (by kernel_rfl) (by kernel_rfl) (by kernel_rfl) (fun _ _ _ h => h) (yRunW rfl pa (fun _ _ => rx_index (.tmp 99) (.tmp 100) rfl vl pa rfl _ rfl HPA.out.1)) hS ?_
      simp only [Act.put, List.setIfInBounds_toArray, List.set_cons_succ, List.set_cons_zero]
      refine takeH (i := 46) (some 102) rfl rfl (by kernel_rfl) (by kernel_rfl) (by kernel_rfl) (fun _ _ _ h => h) (yRunW rfl (hv x) (fun W hW => rx_load (.tmp 101) rfl (pa) rfl x ((HPA.out.2.later hW)))) hS ?_
      simp only [Act.put, List.setIfInBounds_toArray, List.set_cons_succ, List.set_cons_zero]
      refine takeH (i := 47) (some 103) rfl rfl (by kernel_rfl) (by kernel_rfl) (by kernel_rfl) (fun _ _ _ h => h) (yMoveW rfl (.tmp 1) rfl (.int .i64 (K : Nat)) rfl) hS ?_
      simp only [Act.put, List.setIfInBounds_toArray, List.set_cons_succ, List.set_cons_zero]
      refine takeH (i := 48) (some 104) rfl rfl (by kernel_rfl) (by kernel_rfl) (by kernel_rfl) (fun _ _ _ h => h) (yMoveW rfl (.tmp 9) rfl (.int .i64 (N : Nat)) rfl) hS ?_
      simp only [Act.put, List.setIfInBounds_toArray, List.set_cons_succ, List.set_cons_zero]
      refine takeH (i := 49) (some 105) rfl rfl (by kernel_rfl) (by kernel_rfl) (by kernel_rfl) (fun _ _ _ h => h) (yMoveW rfl (.tmp 11) rfl (vp) rfl) hS ?_
      simp only [Act.put, List.setIfInBounds_toArray, List.set_cons_succ, List.set_cons_zero]
      refine takeH (i := 50) (some 106) rfl rfl (by kernel_rfl) (by kernel_rfl) (by kernel_rfl) (fun _ _ _ h => h) (yMoveW rfl (.tmp 11) rfl (vp) rfl) hS ?_
      simp only [Act.put, List.setIfInBounds_toArray, List.set_cons_succ, List.set_cons_zero]
      refine takeH (i := 51) (some 107) rfl rfl (by kernel_rfl) (by kernel_rfl) (by kernel_rfl) (fun _ _ _ h => h) (yLen rfl (.tmp 106) rfl vp P0 rfl _ (R5.out.2.2.2.2.2.later hS) (n0 + 1) HP0.out) hS ?_
      simp only [Act.put, List.setIfInBounds_toArray, List.set_cons_succ, List.set_cons_zero]
      refine takeH (i := 52) (some 108) rfl rfl (by kernel_rfl) (by kernel_rfl) (by kernel_rfl) (fun _ _ _ h => h) (yRunW rfl (.int .i64 (n0 : Nat)) (fun _ _ => rx_pred (.tmp 107) (.const (.int .i64 1)) rfl n0 rfl rfl (by omega))) hS ?_
      simp only [Act.put, List.setIfInBounds_toArray, List.set_cons_succ, List.set_cons_zero]
      refine takeH (i := 53) (some 109) rfl rfl (by kernel_rfl) (by kernel_rfl) (by kernel_rfl) (fun _ _ _ h => h) (yRunW rfl vt (fun _ _ => rx_sub (.tmp 105) none (some (.tmp 108)) rfl vp vt rfl HVT.out.1)) hS ?_
      simp only [Act.put, List.setIfInBounds_toArray, List.set_cons_succ, List.set_cons_zero]
      refine takeH (i := 54) (some 110) rfl rfl (by kernel_rfl) (by kernel_rfl) (by kernel_rfl) (fun _ _ _ h => h) (yRunW rfl (hv rt) (fun W hW => rx_load (.tmp 10) rfl (.pointer (some ⟨gr, 0, none⟩)) rfl rt ((R5.out.2.2.2.2.1.next hW).at))) hS ?_
      simp only [Act.put, List.setIfInBounds_toArray, List.set_cons_succ, List.set_cons_zero]
      refine oneH (i := 55) (by kernel_rfl) ?_
      refine opCallW (some 111) rfl rfl rfl 10 _ (run_call en10 [.tmp 102, .tmp 103, .tmp 104, .tmp 109, .tmp 110] _ rfl [hv x, .int .i64 (K : Nat), .int .i64 (N : Nat), vt, hv rt] rfl) ?_
      refine (vincl_any x rt (K : Nat) (N : Nat) vt (P0.take n0) _ HPA.out.2.1 R5.out.2.2.2.2.1.1 (HVT.out.2.later hS) (ht.later (below_append R5.out.2.1 hS)) (hst.later (below_append R5.out.2.1 hS)) (by omega)).mono ?_
      rintro e x21 ⟨rfl, bb⟩
      rw [HI.out.2.2.2]
      have hS' : Below w5.heap.size w5 x21 := below_append hS bb
      refine ⟨_, rfl, hS', ?_⟩
      have Lx18' : HOwn x21 Gx16 Vx18 (P0 ++ [oth]) := Lx18.later bb (Nat.le_refl _)
      clear Lx18
      have Lx18 := Lx18'
      clear Lx18'
      clear hS bb
      have hS := hS'
      clear hS'
      simp only [Act.put, List.setIfInBounds_toArray, List.set_cons_succ, List.set_cons_zero]
      refine takeH (i := 56) (some 112) rfl rfl (by kernel_rfl) (by kernel_rfl) (by kernel_rfl) (fun _ _ _ h => h) (yPickF rfl (.tmp 98) _ (.tmp 111) rfl rfl (.bool false) rfl) hS ?_
      simp only [Act.put, List.setIfInBounds_toArray, List.set_cons_succ, List.set_cons_zero]
      refine wpAnyH_done (by kernel_rfl) ?_ _
      have RZ : Hid (Below w5.heap.size w5 _) := hS
      clear hS Lx18
      go_wp2_with fail
      go_meet
      case rel => exact ⟨rfl, RZ.out⟩
  case rest =>
    obtain ⟨rfl, hcb⟩ := hcut
    rename World => wc1
    have R7 : Hid (HIn wc1 vl hs ∧ Below w.heap.size w wc1 ∧ hs.length = N ∧ HIs wc1 B oth ∧ HIs wc1 gr rt) := ⟨R5.out.1.later hcb, below_append R5.out.2.1 hcb, R5.out.2.2.1, R5.out.2.2.2.1.next hcb, R5.out.2.2.2.2.1.next hcb⟩
    clear hcb R5 HVD HVT HPA
    by_cases hK0 : K = 0
    · have hk0 : ((K : Int) == 0) = true := by simp; omega
      have hk0' : (K : Int) = 0 := by omega
      go_wp2_with fail
      go_ret
      exact ⟨rfl, R7.out.2.1⟩
    · have hk0 : ((K : Int) == 0) = false := by simp; omega
      have hk0' : ¬ (K : Int) = 0 := by omega
      obtain ⟨c1, c2, c3, ⟨n1, c4⟩, c5⟩ := HCK.out (by omega)
      clear HPL HCK HP0 HI
      obtain ⟨va, ra, sa⟩ := run_hto R7.out.1 K (by have := R7.out.2.2.1; omega)
      have HTA : Hid ((∀ w', (Instr.slice 24 vl none (some (.int .i64 (K : Nat))) none).run Tryd.prog w' = .ok va w') ∧ HIn wc1 va (hs.take K) ∧ (hs.take K).length = K) := ⟨ra, sa, by rw [List.length_take]; have := R7.out.2.2.1; omega⟩
      have HC : Hid (Tree.consOk (K : Nat) (N : Nat) (Tree.root (hs.take K)) oth (consAns hs K) = decide (rt = oth) ∧ Tree.consOk (K : Nat) (N : Nat) (Tree.root (hs.take K)) rt (consAns hs K ++ [oth]) = false ∧ Tree.consOk (K : Nat) (N : Nat) (Tree.root (hs.take K)) rt ((consAns hs K).drop 1) = false) := ⟨c1, c2, c3⟩
      have HPL : Hid ((consAns hs K).length ≤ 1000) := c5
      have HP1 : Hid ((consAns hs K).length = n1 + 1) := c4
      have hn1m : n1 ≤ 1000 := by omega
      have hne1 : ((n1 : Int) + 1 == 0) = false := by simp; omega
      have hne1' : ¬ ((n1 : Int) + 1 = 0) := by omega
      clear c1 c2 c3 c4 c5 ra sa
      obtain ⟨Q0, hQ0⟩ : ∃ Q0, consAns hs K = Q0 := ⟨_, rfl⟩
      have HQ0 : Hid (consAns hs K = Q0) := hQ0
      rw [hQ0] at HC HPL HP1
      clear hQ0
      go_wp2_with ((first
        | (refine wl rfl va _ (rx_sub (.tmp 116) none (some (.tmp 117)) rfl vl va rfl HTA.out.1) ?_)); try simp only [Act.put, List.setIfInBounds_toArray, List.set_cons_succ, List.set_cons_zero])
      refine (refRoot_any K va (hs.take K) wc1 HTA.out.2.2 (by omega) HTA.out.2.1).mono ?_
      rintro e w8 ⟨rfl, b8⟩
      have HRA : Hid (IsH (Tree.root (hs.take K))) := HTA.out.2.1.all.root
      generalize Tree.root (hs.take K) = rk at HRA HC ⊢
      have R8 : Hid (HIn w8 vl hs ∧ Below w.heap.size w w8 ∧ hs.length = N ∧ HIs w8 B oth ∧ HIs w8 gr rt) := ⟨R7.out.1.later b8, below_append R7.out.2.1 b8, R7.out.2.2.1, R7.out.2.2.2.1.next b8, R7.out.2.2.2.2.next b8⟩
      clear b8
      go_wp2_with ((first
        | (refine wl_new rfl rfl rfl rfl rfl (.tmp 119) rfl rk HRA.out (fun _ => rfl) (fun _ => rfl) ?_; intro w9 r9 s9 b9; have R9 : Hid (HIn w9 vl hs ∧ Below w.heap.size w w9 ∧ hs.length = N ∧ HIs w9 B oth ∧ HIs w9 gr rt ∧ HIs w9 w8.heap.size rk) := ⟨R8.out.1.later b9, below_append R8.out.2.1 b9, R8.out.2.2.1, R8.out.2.2.2.1.next b9, R8.out.2.2.2.2.next b9, r9⟩; clear r9 s9 b9; generalize w8.heap.size = gk at R9 ⊢)); try simp only [Act.put, List.setIfInBounds_toArray, List.set_cons_succ, List.set_cons_zero])
      refine (cons_any vl hs (K : Nat) w9 R9.out.1 (ht.later R9.out.2.1) (hst.later R9.out.2.1) (by have := R9.out.2.2.1; omega)).mono ?_
      rintro e wa ⟨vq, rfl, oa, ba⟩
      rw [HCE.out]
      have RA : Hid (Below w.heap.size w wa ∧ HIs wa B oth ∧ HIs wa gr rt ∧ HIs wa gk rk ∧ HIn wa vq Q0) := ⟨below_append R9.out.2.1 ba, R9.out.2.2.2.1.next ba, R9.out.2.2.2.2.1.next ba, R9.out.2.2.2.2.2.next ba, HQ0.out ▸ oa.hin⟩
      clear oa ba
      obtain ⟨vd1, rd1, sd1⟩ := run_hfrom RA.out.2.2.2.2 1 (by have := HP1.out; omega)
      have HVD1 : Hid ((∀ w', (Instr.slice 24 vq (some (.int .i64 ((1 : Nat) : Int))) none none).run Tryd.prog w' = .ok vd1 w') ∧ HIn wa vd1 (Q0.drop 1)) := ⟨rd1, sd1⟩
      clear rd1 sd1
      go_wp2_with ((first
        | (refine wl_lenN (.tmp 129) rfl rfl vq Q0 rfl RA.out.2.2.2.2 (n1 + 1) HP1.out ?_)); try simp only [Act.put, List.setIfInBounds_toArray, List.set_cons_succ, List.set_cons_zero])
      go_upto_region 23 with fail
      go_cut [16] from 133 to 138 (fun s W => HIn W s (Q0 ++ [oth]) ∧ Below wa.heap.size wa W)
      case first =>
        refine wp_region_held (S := fun W => Below wa.heap.size wa W) (by kernel_rfl) ?_
        show wpAnyH _ _ _ _ _ 7 (Array.replicate 7 false) _ _
        have hS : Below wa.heap.size wa { wa with drawn := wa.drawn + 1 } := below_drawn wa _
        refine takeH (i := 1) (some 134) rfl rfl (by kernel_rfl) (by kernel_rfl) (by kernel_rfl) (fun _ _ _ h => h) (yMoveW rfl (.tmp 14) rfl (vq) rfl) hS ?_
        simp only [Act.put, List.setIfInBounds_toArray, List.set_cons_succ, List.set_cons_zero]
        refine takeH (i := 3) (some 136) rfl rfl (by kernel_rfl) (by kernel_rfl) (by kernel_rfl) (fun _ _ _ h => h) (yRunW rfl (hv oth) (fun W hW => rx_load (.tmp 5) rfl (.pointer (some ⟨B, 0, none⟩)) rfl oth ((RA.out.2.1.next hW).at))) hS ?_
        simp only [Act.put, List.setIfInBounds_toArray, List.set_cons_succ, List.set_cons_zero]
        refine twoH (i := 0) (j := 4) (by kernel_rfl) ?_ ?_
        · refine opLit0 (some 133) rfl rfl rfl rfl ?_
          intro y1 Gy1 Ry1 bb hq
          have HGGy1 : wa.heap.size ≤ Gy1 := Nat.le_trans hS.size hq
          have hS' : Below wa.heap.size wa y1 := below_append hS bb
          refine ⟨hS', ?_⟩
          clear hS bb hq
          have hS := hS'
          clear hS'
          simp only [Act.put, List.setIfInBounds_toArray, List.set_cons_succ, List.set_cons_zero]
          refine twoH (i := 2) (j := 4) (by kernel_rfl) ?_ ?_
          · obtain ⟨Vy2, y2, ra, Ly2, bb⟩ := app_first 24 Gy1 Ry1 vq Q0 (RA.out.2.2.2.2.later hS) (by have := HPL.out; omega)
            refine opValW (some 135) rfl rfl rfl Vy2 y2 (rx_append (.tmp 133) (.tmp 134) rfl _ _ Vy2 y2 rfl rfl ra) ?_
            have hS' : Below wa.heap.size wa y2 := below_append hS bb
            refine ⟨hS', ?_⟩
            have Ry1' : Row y2 Gy1 23 [] := Ry1.later bb Ry1.lt
            clear Ry1
            have Ry1 := Ry1'
            clear Ry1'
            clear hS bb ra
            have hS := hS'
            clear hS'
            simp only [Act.put, List.setIfInBounds_toArray, List.set_cons_succ, List.set_cons_zero]
            refine oneH (i := 4) (by kernel_rfl) ?_
            refine opLit1 (some 137) rfl rfl rfl (.tmp 136) rfl oth HX.out rfl ?_
            intro Vy3 y3 Ly3 bb
            have hS' : Below wa.heap.size wa y3 := below_append hS bb
            refine ⟨hS', ?_⟩
            have Ry1' : Row y3 Gy1 23 [] := Ry1.later bb Ry1.lt
            clear Ry1
            have Ry1 := Ry1'
            clear Ry1'
            have Ly2' : HOwn y3 Gy1 Vy2 Q0 := Ly2.later bb (Nat.le_refl _)
            clear Ly2
            have Ly2 := Ly2'
            clear Ly2'
            clear hS bb
            have hS := hS'
            clear hS'
            simp only [Act.put, List.setIfInBounds_toArray, List.set_cons_succ, List.set_cons_zero]
            refine oneH (i := 5) (by kernel_rfl) ?_
            obtain ⟨Vy4, y4, ra, Ly4, gg⟩ := run_happend Gy1 24 Vy2 Vy3 Q0 [oth] Ly2 (Ly3) (by have := HPL.out; simp; omega) (by have := Ry1.lt; omega)
            have bb := Ly2.below gg (by have := Ry1.lt; omega)
            refine opValW (some 138) rfl rfl rfl Vy4 y4 (rx_append (.tmp 135) (.tmp 137) rfl _ _ Vy4 y4 rfl rfl ra) ?_
            have hS' : Below wa.heap.size wa y4 := hS.trans (bb.mono HGGy1)
            refine ⟨hS', ?_⟩
            clear ra gg bb Ry1 Ly2 Ly3
            clear hS
            have hS := hS'
            clear hS'
            simp only [Act.put, List.setIfInBounds_toArray, List.set_cons_succ, List.set_cons_zero]
            refine takeH (i := 6) (some 16) rfl rfl (by kernel_rfl) (by kernel_rfl) (by kernel_rfl) (fun _ _ _ h => h) (yAssign rfl (.tmp 138) rfl (Vy4) rfl) hS ?_
            simp only [Act.put, List.setIfInBounds_toArray, List.set_cons_succ, List.set_cons_zero]
            refine wpAnyH_done (by kernel_rfl) ?_ _
            have RZ : Hid (HIn _ Vy4 (Q0 ++ [oth]) ∧ Below wa.heap.size wa _) := ⟨Ly4.hin, hS⟩
            clear hS Ly4
            go_wp2_with fail
            go_meet
            case rel => exact RZ.out
          · refine opLit1 (some 137) rfl rfl rfl (.tmp 136) rfl oth HX.out rfl ?_
            intro Vy5 y5 Ly5 bb
            have hS' : Below wa.heap.size wa y5 := below_append hS bb
            refine ⟨hS', ?_⟩
            have Ry1' : Row y5 Gy1 23 [] := Ry1.later bb Ry1.lt
            clear Ry1
            have Ry1 := Ry1'
            clear Ry1'
            clear hS bb
            have hS := hS'
            clear hS'
            simp only [Act.put, List.setIfInBounds_toArray, List.set_cons_succ, List.set_cons_zero]
            refine oneH (i := 2) (by kernel_rfl) ?_
            obtain ⟨Vy6, y6, ra, Ly6, bb⟩ := app_first 24 Gy1 Ry1 vq Q0 (RA.out.2.2.2.2.later hS) (by have := HPL.out; omega)
            refine opValW (some 135) rfl rfl rfl Vy6 y6 (rx_append (.tmp 133) (.tmp 134) rfl _ _ Vy6 y6 rfl rfl ra) ?_
            have hS' : Below wa.heap.size wa y6 := below_append hS bb
            refine ⟨hS', ?_⟩
            have Ry1' : Row y6 Gy1 23 [] := Ry1.later bb Ry1.lt
            clear Ry1
            have Ry1 := Ry1'
            clear Ry1'
            have Ly5' : HIn y6 Vy5 [oth] := Ly5.later bb
            clear Ly5
            have Ly5 := Ly5'
            clear Ly5'
            clear hS bb ra
            have hS := hS'
            clear hS'
            simp only [Act.put, List.setIfInBounds_toArray, List.set_cons_succ, List.set_cons_zero]
            refine oneH (i := 5) (by kernel_rfl) ?_
            obtain ⟨Vy7, y7, ra, Ly7, gg⟩ := run_happend Gy1 24 Vy6 Vy5 Q0 [oth] Ly6 (Ly5) (by have := HPL.out; simp; omega) (by have := Ry1.lt; omega)
            have bb := Ly6.below gg (by have := Ry1.lt; omega)
            refine opValW (some 138) rfl rfl rfl Vy7 y7 (rx_append (.tmp 135) (.tmp 137) rfl _ _ Vy7 y7 rfl rfl ra) ?_
            have hS' : Below wa.heap.size wa y7 := hS.trans (bb.mono HGGy1)
            refine ⟨hS', ?_⟩
            clear ra gg bb Ry1 Ly5 Ly6
            clear hS
            have hS := hS'
            clear hS'
            simp only [Act.put, List.setIfInBounds_toArray, List.set_cons_succ, List.set_cons_zero]
            refine takeH (i := 6) (some 16) rfl rfl (by kernel_rfl) (by kernel_rfl) (by kernel_rfl) (fun _ _ _ h => h) (yAssign rfl (.tmp 138) rfl (Vy7) rfl) hS ?_
            simp only [Act.put, List.setIfInBounds_toArray, List.set_cons_succ, List.set_cons_zero]
            refine wpAnyH_done (by kernel_rfl) ?_ _
            have RZ : Hid (HIn _ Vy7 (Q0 ++ [oth]) ∧ Below wa.heap.size wa _) := ⟨Ly7.hin, hS⟩
            clear hS Ly7
            go_wp2_with fail
            go_meet
            case rel => exact RZ.out
        · refine opLit1 (some 137) rfl rfl rfl (.tmp 136) rfl oth HX.out rfl ?_
          intro Vy8 y8 Ly8 bb
          have hS' : Below wa.heap.size wa y8 := below_append hS bb
          refine ⟨hS', ?_⟩
          clear hS bb
          have hS := hS'
          clear hS'
          simp only [Act.put, List.setIfInBounds_toArray, List.set_cons_succ, List.set_cons_zero]
          refine oneH (i := 0) (by kernel_rfl) ?_
          refine opLit0 (some 133) rfl rfl rfl rfl ?_
          intro y9 Gy9 Ry9 bb hq
          have HGGy9 : wa.heap.size ≤ Gy9 := Nat.le_trans hS.size hq
          have hS' : Below wa.heap.size wa y9 := below_append hS bb
          refine ⟨hS', ?_⟩
          have Ly8' : HIn y9 Vy8 [oth] := Ly8.later bb
          clear Ly8
          have Ly8 := Ly8'
          clear Ly8'
          clear hS bb hq
          have hS := hS'
          clear hS'
          simp only [Act.put, List.setIfInBounds_toArray, List.set_cons_succ, List.set_cons_zero]
          refine oneH (i := 2) (by kernel_rfl) ?_
          obtain ⟨Vy10, y10, ra, Ly10, bb⟩ := app_first 24 Gy9 Ry9 vq Q0 (RA.out.2.2.2.2.later hS) (by have := HPL.out; omega)
          refine opValW (some 135) rfl rfl rfl Vy10 y10 (rx_append (.tmp 133) (.tmp 134) rfl _ _ Vy10 y10 rfl rfl ra) ?_
          have hS' : Below wa.heap.size wa y10 := below_append hS bb
          refine ⟨hS', ?_⟩
          have Ly8' : HIn y10 Vy8 [oth] := Ly8.later bb
          clear Ly8
          have Ly8 := Ly8'
          clear Ly8'
          have Ry9' : Row y10 Gy9 23 [] := Ry9.later bb Ry9.lt
          clear Ry9
          have Ry9 := Ry9'
          clear Ry9'
          clear hS bb ra
          have hS := hS'
          clear hS'
          simp only [Act.put, List.setIfInBounds_toArray, List.set_cons_succ, List.set_cons_zero]
          refine oneH (i := 5) (by kernel_rfl) ?_
          obtain ⟨Vy11, y11, ra, Ly11, gg⟩ := run_happend Gy9 24 Vy10 Vy8 Q0 [oth] Ly10 (Ly8) (by have := HPL.out; simp; omega) (by have := Ry9.lt; omega)
          have bb := Ly10.below gg (by have := Ry9.lt; omega)
          refine opValW (some 138) rfl rfl rfl Vy11 y11 (rx_append (.tmp 135) (.tmp 137) rfl _ _ Vy11 y11 rfl rfl ra) ?_
          have hS' : Below wa.heap.size wa y11 := hS.trans (bb.mono HGGy9)
          refine ⟨hS', ?_⟩
          clear ra gg bb Ly8 Ry9 Ly10
          clear hS
          have hS := hS'
          clear hS'
          simp only [Act.put, List.setIfInBounds_toArray, List.set_cons_succ, List.set_cons_zero]
          refine takeH (i := 6) (some 16) rfl rfl (by kernel_rfl) (by kernel_rfl) (by kernel_rfl) (fun _ _ _ h => h) (yAssign rfl (.tmp 138) rfl (Vy11) rfl) hS ?_
          simp only [Act.put, List.setIfInBounds_toArray, List.set_cons_succ, List.set_cons_zero]
          refine wpAnyH_done (by kernel_rfl) ?_ _
          have RZ : Hid (HIn _ Vy11 (Q0 ++ [oth]) ∧ Below wa.heap.size wa _) := ⟨Ly11.hin, hS⟩
          clear hS Ly11
          go_wp2_with fail
          go_meet
          case rel => exact RZ.out
      case rest =>
        obtain ⟨hcv, hcb⟩ := hcut
        rename World => wc2
        have RB : Hid (Below w.heap.size w wc2 ∧ HIs wc2 B oth ∧ HIs wc2 gr rt ∧ HIs wc2 gk rk ∧ HIn wc2 vq Q0 ∧ HIn wc2 u16 (Q0 ++ [oth]) ∧ HIn wc2 vd1 (Q0.drop 1)) := ⟨below_append RA.out.1 hcb, RA.out.2.1.next hcb, RA.out.2.2.1.next hcb, RA.out.2.2.2.1.next hcb, RA.out.2.2.2.2.later hcb, hcv, HVD1.out.2.later hcb⟩
        clear hcb hcv
        go_wp2_with fail
        refine wp_region_held (S := fun W => Below wc2.heap.size wc2 W) (by kernel_rfl) ?_
        show wpAnyH _ _ _ _ _ 35 (Array.replicate 35 false) _ _
        have hS : Below wc2.heap.size wc2 { wc2 with drawn := wc2.drawn + 1 } := below_drawn wc2 _
        refine takeH (i := 0) (some 139) rfl rfl (by kernel_rfl) (by kernel_rfl) (by kernel_rfl) (fun _ _ _ h => h) (yMoveW rfl (.tmp 7) rfl (.bool true) rfl) hS ?_
        simp only [Act.put, List.setIfInBounds_toArray, List.set_cons_succ, List.set_cons_zero]
        refine takeH (i := 1) (some 140) rfl rfl (by kernel_rfl) (by kernel_rfl) (by kernel_rfl) (fun _ _ _ h => h) (yMoveW rfl (.tmp 139) rfl (.bool true) rfl) hS ?_
        simp only [Act.put, List.setIfInBounds_toArray, List.set_cons_succ, List.set_cons_zero]
        refine takeH (i := 2) (some 141) rfl rfl (by kernel_rfl) (by kernel_rfl) (by kernel_rfl) (fun _ _ _ h => h) (yRunW rfl (hv oth) (fun W hW => rx_load (.tmp 5) rfl (.pointer (some ⟨B, 0, none⟩)) rfl oth ((RB.out.2.1.next hW).at))) hS ?_
        simp only [Act.put, List.setIfInBounds_toArray, List.set_cons_succ, List.set_cons_zero]
        refine takeH (i := 3) (some 142) rfl rfl (by kernel_rfl) (by kernel_rfl) (by kernel_rfl) (fun _ _ _ h => h) (yRunW rfl (hv rt) (fun W hW => rx_load (.tmp 10) rfl (.pointer (some ⟨gr, 0, none⟩)) rfl rt ((RB.out.2.2.1.next hW).at))) hS ?_
        simp only [Act.put, List.setIfInBounds_toArray, List.set_cons_succ, List.set_cons_zero]
        refine takeH (i := 4) (some 143) rfl rfl (by kernel_rfl) (by kernel_rfl) (by kernel_rfl) (fun _ _ _ h => h) (yRunW rfl (.bool true) (fun _ _ => rx_neB (.tmp 141) (.tmp 142) rfl oth rt HX.out RB.out.2.2.1.1 rfl rfl false HE.out)) hS ?_
        simp only [Act.put, List.setIfInBounds_toArray, List.set_cons_succ, List.set_cons_zero]
        refine takeH (i := 5) (some 144) rfl rfl (by kernel_rfl) (by kernel_rfl) (by kernel_rfl) (fun _ _ _ h => h) (yMoveW rfl (.tmp 143) rfl (.bool true) rfl) hS ?_
        simp only [Act.put, List.setIfInBounds_toArray, List.set_cons_succ, List.set_cons_zero]
        refine takeH (i := 6) (some 145) rfl rfl (by kernel_rfl) (by kernel_rfl) (by kernel_rfl) (fun _ _ _ h => h) (yMoveW rfl (.tmp 1) rfl (.int .i64 (K : Nat)) rfl) hS ?_
        simp only [Act.put, List.setIfInBounds_toArray, List.set_cons_succ, List.set_cons_zero]
        refine takeH (i := 7) (some 146) rfl rfl (by kernel_rfl) (by kernel_rfl) (by kernel_rfl) (fun _ _ _ h => h) (yMoveW rfl (.tmp 9) rfl (.int .i64 (N : Nat)) rfl) hS ?_
        simp only [Act.put, List.setIfInBounds_toArray, List.set_cons_succ, List.set_cons_zero]
        refine takeH (i := 8) (some 147) rfl rfl (by kernel_rfl) (by kernel_rfl) (by kernel_rfl) (fun _ _ _ h => h) (yRunW rfl (hv rk) (fun W hW => rx_load (.tmp 13) rfl (.pointer (some ⟨gk, 0, none⟩)) rfl rk ((RB.out.2.2.2.1.next hW).at))) hS ?_
        simp only [Act.put, List.setIfInBounds_toArray, List.set_cons_succ, List.set_cons_zero]
        refine takeH (i := 9) (some 148) rfl rfl (by kernel_rfl) (by kernel_rfl) (by kernel_rfl) (fun _ _ _ h => h) (yRunW rfl (hv oth) (fun W hW => rx_load (.tmp 5) rfl (.pointer (some ⟨B, 0, none⟩)) rfl oth ((RB.out.2.1.next hW).at))) hS ?_
        simp only [Act.put, List.setIfInBounds_toArray, List.set_cons_succ, List.set_cons_zero]
        refine takeH (i := 10) (some 149) rfl rfl (by kernel_rfl) (by kernel_rfl) (by kernel_rfl) (fun _ _ _ h => h) (yMoveW rfl (.tmp 14) rfl (vq) rfl) hS ?_
        simp only [Act.put, List.setIfInBounds_toArray, List.set_cons_succ, List.set_cons_zero]
        refine oneH (i := 11) (by kernel_rfl) ?_
        refine opCallW (some 150) rfl rfl rfl 13 _ (run_call en13' [.tmp 145, .tmp 146, .tmp 147, .tmp 148, .tmp 149] _ rfl [.int .i64 (K : Nat), .int .i64 (N : Nat), hv rk, hv oth, vq] rfl) ?_
        refine (vcons_any rk oth (K : Nat) (N : Nat) vq Q0 _ HRA.out HX.out (RB.out.2.2.2.2.1.later hS) (ht.later (below_append RB.out.1 hS)) (hst.later (below_append RB.out.1 hS)) (by omega)).mono ?_
        rintro e qwc21 ⟨rfl, bb⟩
        rw [HC.out.1, HRE.out]
        have hS' : Below wc2.heap.size wc2 qwc21 := below_append hS bb
        refine ⟨_, rfl, hS', ?_⟩
        clear hS bb
        have hS := hS'
        clear hS'
        simp only [Act.put, List.setIfInBounds_toArray, List.set_cons_succ, List.set_cons_zero]
        refine takeH (i := 12) (some 151) rfl rfl (by kernel_rfl) (by kernel_rfl) (by kernel_rfl) (fun _ _ _ h => h) (yPickW rfl (.tmp 144) (.tmp 150) _ rfl rfl (.bool false) rfl) hS ?_
        simp only [Act.put, List.setIfInBounds_toArray, List.set_cons_succ, List.set_cons_zero]
        refine takeH (i := 13) (some 152) rfl rfl (by kernel_rfl) (by kernel_rfl) (by kernel_rfl) (fun _ _ _ h => h) (yNotW rfl (.tmp 151) rfl false rfl) hS ?_
        simp only [Act.put, List.setIfInBounds_toArray, List.set_cons_succ, List.set_cons_zero]
        refine takeH (i := 14) (some 153) rfl rfl (by kernel_rfl) (by kernel_rfl) (by kernel_rfl) (fun _ _ _ h => h) (yPickW rfl (.tmp 140) (.tmp 152) _ rfl rfl (.bool true) rfl) hS ?_
        simp only [Act.put, List.setIfInBounds_toArray, List.set_cons_succ, List.set_cons_zero]
        refine takeH (i := 15) (some 154) rfl rfl (by kernel_rfl) (by kernel_rfl) (by kernel_rfl) (fun _ _ _ h => h) (yMoveW rfl (.tmp 153) rfl (.bool true) rfl) hS ?_
        simp only [Act.put, List.setIfInBounds_toArray, List.set_cons_succ, List.set_cons_zero]
        refine takeH (i := 16) (some 155) rfl rfl (by kernel_rfl) (by kernel_rfl) (by kernel_rfl) (fun _ _ _ h => h) (yMoveW rfl (.tmp 1) rfl (.int .i64 (K : Nat)) rfl) hS ?_
        simp only [Act.put, List.setIfInBounds_toArray, List.set_cons_succ, List.set_cons_zero]
        refine takeH (i := 17) (some 156) rfl rfl (by kernel_rfl) (by kernel_rfl) (by kernel_rfl) (fun _ _ _ h => h) (yMoveW rfl (.tmp 9) rfl (.int .i64 (N : Nat)) rfl) hS ?_
        simp only [Act.put, List.setIfInBounds_toArray, List.set_cons_succ, List.set_cons_zero]
        refine takeH (i := 18) (some 157) rfl rfl (by kernel_rfl) (by kernel_rfl) (by kernel_rfl) (fun _ _ _ h => h) (yRunW rfl (hv rk) (fun W hW => rx_load (.tmp 13) rfl (.pointer (some ⟨gk, 0, none⟩)) rfl rk ((RB.out.2.2.2.1.next hW).at))) hS ?_
        simp only [Act.put, List.setIfInBounds_toArray, List.set_cons_succ, List.set_cons_zero]
        refine takeH (i := 19) (some 158) rfl rfl (by kernel_rfl) (by kernel_rfl) (by kernel_rfl) (fun _ _ _ h => h) (yRunW rfl (hv rt) (fun W hW => rx_load (.tmp 10) rfl (.pointer (some ⟨gr, 0, none⟩)) rfl rt ((RB.out.2.2.1.next hW).at))) hS ?_
        simp only [Act.put, List.setIfInBounds_toArray, List.set_cons_succ, List.set_cons_zero]
        refine takeH (i := 20) (some 159) rfl rfl (by kernel_rfl) (by kernel_rfl) (by kernel_rfl) (fun _ _ _ h => h) (yMoveW rfl (.tmp 16) rfl (u16) rfl) hS ?_
        simp only [Act.put, List.setIfInBounds_toArray, List.set_cons_succ, List.set_cons_zero]
        refine oneH (i := 21) (by kernel_rfl) ?_
        refine opCallW (some 160) rfl rfl rfl 13 _ (run_call en13' [.tmp 155, .tmp 156, .tmp 157, .tmp 158, .tmp 159] _ rfl [.int .i64 (K : Nat), .int .i64 (N : Nat), hv rk, hv rt, u16] rfl) ?_
        refine (vcons_any rk rt (K : Nat) (N : Nat) u16 (Q0 ++ [oth]) _ HRA.out RB.out.2.2.1.1 (RB.out.2.2.2.2.2.1.later hS) (ht.later (below_append RB.out.1 hS)) (hst.later (below_append RB.out.1 hS)) (by omega)).mono ?_
        rintro e qwc22 ⟨rfl, bb⟩
        rw [HC.out.2.1]
        have hS' : Below wc2.heap.size wc2 qwc22 := below_append hS bb
        refine ⟨_, rfl, hS', ?_⟩
        clear hS bb
        have hS := hS'
        clear hS'
        simp only [Act.put, List.setIfInBounds_toArray, List.set_cons_succ, List.set_cons_zero]
        refine takeH (i := 22) (some 161) rfl rfl (by kernel_rfl) (by kernel_rfl) (by kernel_rfl) (fun _ _ _ h => h) (yNotW rfl (.tmp 160) rfl false rfl) hS ?_
        simp only [Act.put, List.setIfInBounds_toArray, List.set_cons_succ, List.set_cons_zero]
        refine takeH (i := 23) (some 162) rfl rfl (by kernel_rfl) (by kernel_rfl) (by kernel_rfl) (fun _ _ _ h => h) (yPickW rfl (.tmp 154) (.tmp 161) _ rfl rfl (.bool true) rfl) hS ?_
        simp only [Act.put, List.setIfInBounds_toArray, List.set_cons_succ, List.set_cons_zero]
        refine takeH (i := 24) (some 163) rfl rfl (by kernel_rfl) (by kernel_rfl) (by kernel_rfl) (fun _ _ _ h => h) (yMoveW rfl (.tmp 162) rfl (.bool true) rfl) hS ?_
        simp only [Act.put, List.setIfInBounds_toArray, List.set_cons_succ, List.set_cons_zero]
        refine takeH (i := 25) (some 164) rfl rfl (by kernel_rfl) (by kernel_rfl) (by kernel_rfl) (fun _ _ _ h => h) (yMoveW rfl (.tmp 1) rfl (.int .i64 (K : Nat)) rfl) hS ?_
        simp only [Act.put, List.setIfInBounds_toArray, List.set_cons_succ, List.set_cons_zero]
        refine takeH (i := 26) (some 165) rfl rfl (by kernel_rfl) (by kernel_rfl) (by kernel_rfl) (fun _ _ _ h => h) (yMoveW rfl (.tmp 9) rfl (.int .i64 (N : Nat)) rfl) hS ?_
        simp only [Act.put, List.setIfInBounds_toArray, List.set_cons_succ, List.set_cons_zero]
        refine takeH (i := 27) (some 166) rfl rfl (by kernel_rfl) (by kernel_rfl) (by kernel_rfl) (fun _ _ _ h => h) (yRunW rfl (hv rk) (fun W hW => rx_load (.tmp 13) rfl (.pointer (some ⟨gk, 0, none⟩)) rfl rk ((RB.out.2.2.2.1.next hW).at))) hS ?_
        simp only [Act.put, List.setIfInBounds_toArray, List.set_cons_succ, List.set_cons_zero]
        refine takeH (i := 28) (some 167) rfl rfl (by kernel_rfl) (by kernel_rfl) (by kernel_rfl) (fun _ _ _ h => h) (yRunW rfl (hv rt) (fun W hW => rx_load (.tmp 10) rfl (.pointer (some ⟨gr, 0, none⟩)) rfl rt ((RB.out.2.2.1.next hW).at))) hS ?_
        simp only [Act.put, List.setIfInBounds_toArray, List.set_cons_succ, List.set_cons_zero]
        refine takeH (i := 29) (some 168) rfl rfl (by kernel_rfl) (by kernel_rfl) (by kernel_rfl) (fun _ _ _ h => h) (yMoveW rfl (.tmp 14) rfl (vq) rfl) hS ?_
        simp only [Act.put, List.setIfInBounds_toArray, List.set_cons_succ, List.set_cons_zero]
        refine takeH (i := 30) (some 169) rfl rfl (by kernel_rfl) (by kernel_rfl) (by kernel_rfl) (fun _ _ _ h => h) (yRunW rfl vd1 (fun _ _ => rx_sub (.tmp 168) (some (.const (.int .i64 1))) none rfl vq vd1 rfl HVD1.out.1)) hS ?_
        simp only [Act.put, List.setIfInBounds_toArray, List.set_cons_succ, List.set_cons_zero]
        refine oneH (i := 31) (by kernel_rfl) ?_
        refine opCallW (some 170) rfl rfl rfl 13 _ (run_call en13' [.tmp 164, .tmp 165, .tmp 166, .tmp 167, .tmp 169] _ rfl [.int .i64 (K : Nat), .int .i64 (N : Nat), hv rk, hv rt, vd1] rfl) ?_
        refine (vcons_any rk rt (K : Nat) (N : Nat) vd1 (Q0.drop 1) _ HRA.out RB.out.2.2.1.1 (RB.out.2.2.2.2.2.2.later hS) (ht.later (below_append RB.out.1 hS)) (hst.later (below_append RB.out.1 hS)) (by omega)).mono ?_
        rintro e qwc23 ⟨rfl, bb⟩
        rw [HC.out.2.2]
        have hS' : Below wc2.heap.size wc2 qwc23 := below_append hS bb
        refine ⟨_, rfl, hS', ?_⟩
        clear hS bb
        have hS := hS'
        clear hS'
        simp only [Act.put, List.setIfInBounds_toArray, List.set_cons_succ, List.set_cons_zero]
        refine takeH (i := 32) (some 171) rfl rfl (by kernel_rfl) (by kernel_rfl) (by kernel_rfl) (fun _ _ _ h => h) (yNotW rfl (.tmp 170) rfl false rfl) hS ?_
        simp only [Act.put, List.setIfInBounds_toArray, List.set_cons_succ, List.set_cons_zero]
        refine takeH (i := 33) (some 172) rfl rfl (by kernel_rfl) (by kernel_rfl) (by kernel_rfl) (fun _ _ _ h => h) (yPickW rfl (.tmp 163) (.tmp 171) _ rfl rfl (.bool true) rfl) hS ?_
        simp only [Act.put, List.setIfInBounds_toArray, List.set_cons_succ, List.set_cons_zero]
        refine takeH (i := 34) (some 6) rfl rfl (by kernel_rfl) (by kernel_rfl) (by kernel_rfl) (fun _ _ _ h => h) (yAssign rfl (.tmp 172) rfl (.bool true) rfl) hS ?_
        simp only [Act.put, List.setIfInBounds_toArray, List.set_cons_succ, List.set_cons_zero]
        refine wpAnyH_done (by kernel_rfl) ?_ _
        have HB9 : Hid (Below w.heap.size w _) := below_append RB.out.1 hS
        clear hS
        go_wp2_with fail
        go_ret
        exact ⟨rfl, HB9.out⟩
theorem verifyOne_any (v : Value) (L : List (List Nat)) (m : Int) (oth : List Nat) (w : World) (h : ListIn w v L) (hx : IsH oth) (ht : TabIn w) (hst : StartIn w) (hm : -9223372036854775808 ≤ m ∧ m ≤ 9223372036854775807) (hL : ∀ c ∈ L, c.length ≤ 140737488351232) :
    Calls Tryd.prog 6 #[v, .int .i64 m, hv oth] w fun e w' => e = .returned (.bool true) ∧ Below w.heap.size w w' := by
  by_cases hN : 300 < L.length
  · exact one_big v L m oth w h hx ht hst hN
  by_cases hN2 : L.length < 2
  · exact one_few v L m oth w h hx ht hst hN2
  by_cases h0 : m < 0
  · obtain ⟨M, rfl⟩ : ∃ M : Nat, m = -(M : Int) - 1 := ⟨(-m - 1).toNat, by omega⟩
    cases heo : decide (oth = Tree.root (L.map Tree.leaf)) with
    | true => exact one_neg_same v L M oth w h hx ht hst (by omega) (by omega) (by omega) hL heo
    | false => exact one_neg_else v L M oth w h hx ht hst (by omega) (by omega) (by omega) hL heo
  · obtain ⟨M, rfl⟩ : ∃ M : Nat, m = (M : Int) := ⟨m.toNat, by omega⟩
    cases heo : decide (oth = Tree.root (L.map Tree.leaf)) with
    | true => exact one_pos_same v L M oth w h hx ht hst (by omega) (by omega) (by omega) hL heo
    | false => exact one_pos_else v L M oth w h hx ht hst (by omega) (by omega) (by omega) hL heo
end Go.Proofs.YtjdmpanemdhbbaaDoor
namespace Go.Proofs.YtjdmpanemdhbbaaDoor.verifyOne
open Go.ChangeShapes Go.WideShapes Go.ChangeAt Go.RowKit

set_option maxRecDepth 100000 in
/-- WHAT THE WALK GIVES, FOR EVERY ARGUMENT AND EVERY WORLD THAT HOLDS THE TABLE -/
theorem contract (H : Type) (enc : TypeId × Value → H) (W : World) (base : Nat) (args : Array Value) (ds gs : List (DataW H)) (before : List MemPlace)
    (hval : ∀ (j : Nat) t v, Tryd.f6.params[j]? = some t → args[j]? = some v → Value.okWide Tryd.prog W .any base t v)
    (hW : DataW.Whole enc Tryd.prog Tryd.f6.params.toList Rows.verifyOneSpec.vars false W args.toList ds gs before)
    (hsz : (DataW.weightsEach Tryd.prog (Tryd.f6.params.toList ++ (Rows.verifyOneSpec.plain.varTypes Tryd.prog)) (ds ++ gs)).all (· ≤ reachBytes) = true)
    (hL : laidMetH Tryd.prog Rows.verifyOneRow.laid W) :
    Calls Tryd.prog 6 args W fun e W' => ∃ v, e = .returned v ∧ Rows.verifyOneSpec.post enc Tryd.prog Tryd.f6 false true false false W args v W' := by
  have hW' := hW
  obtain ⟨p, q, hA0, hV, rfl, hfz, hnd⟩ := hW
  have hA : DataW.TrodAll enc Tryd.prog W 0 (fun _ => true) true Tryd.f6.params.toList args.toList ds p := hA0
  rw [Tryd.params6] at hA hval hsz
  obtain ⟨v0, vs0, d0, ds0, p0, q0, hargs, rfl, rfl, h0, r0⟩ := trodAll_cons hA
  obtain ⟨v1, vs1, d1, ds1, p1, q1, rfl, rfl, rfl, h1, r1⟩ := trodAll_cons r0
  obtain ⟨v2, vs2, d2, ds2, p2, q2, rfl, rfl, rfl, h2, r2⟩ := trodAll_cons r1
  obtain ⟨rfl, rfl, rfl⟩ := trodAll_nil r2
  obtain rfl : args = #[v0, v1, v2] := by cases args; simp_all
  obtain ⟨rfl, rfl⟩ := trodVars_none hV
  have lt0 : ∀ x ∈ p0, x.block < W.heap.size := by obtain ⟨m, hm⟩ := h0; exact DataW.trod_lt m _ _ _ hm
  obtain ⟨L0, hs0, hd0, hw0⟩ := open_rows (hval 0 32 v0 rfl rfl) h0
  obtain ⟨a1, rfl, rfl, rfl, w1⟩ := open_int Tryd.underlying3 (hval 1 3 v1 rfl rfl) h1
  have b1 : -9223372036854775808 ≤ a1 ∧ a1 ≤ 9223372036854775807 := by
    simpa [Lit.wf, IntKind.min, IntKind.max, IntKind.signed, IntKind.bits] using w1
  have lt2 : ∀ x ∈ p2, x.block < W.heap.size := by obtain ⟨m, hm⟩ := h2; exact DataW.trod_lt m _ _ _ hm
  obtain ⟨x2, hx2, rfl⟩ := open_hash (hval 2 23 v2 rfl rfl) h2
  clear hA0
  have walk := verifyOne_any v0 L0 a1 x2 W hs0 hx2 (tabs_of hL).2 (tabs_of hL).1 b1 (hw0 (reach_rows hsz (j := 0) rfl rfl))
  refine walk.mono fun e W' ⟨he, bel⟩ => ?_
  subst he
  exact ⟨_, rfl, _, _, _, [], _, [], hW', trodAll_mk1 (shut_bool Tryd.underlying4 _), (trodAll_cons_mk (Below.trod laidOut (by kernel_rfl) (of_decide_eq_true (by kernel_rfl)) h0 bel lt0) (trodAll_cons_mk (shut_int Tryd.underlying3 w1) (trodAll_cons_mk (Below.trod laidOut (by kernel_rfl) (of_decide_eq_true (by kernel_rfl)) h2 bel lt2) trodAll_mk0))), rfl, bel.frame _, fun h => by cases h⟩

theorem laid_met (os : Os) : laidMet Tryd.prog Rows.verifyOneRow.laid ((laidOn (World.holding Tryd.prog os ⟨#[], #[], []⟩)).forCall (fun _ _ => 0) ⟨#[], #[.slice none 0 0, .int .i64 0, .agg (zerosU8 32).toArray], []⟩).memory :=
  laidMet_of_run' 8 (by kernel_rfl) (by kernel_rfl)
theorem reads (os : Os) {H : Type} (enc : TypeId × Value → H) : ∃ places, DataW.whole enc Tryd.prog ((laidOn (World.holding Tryd.prog os ⟨#[], #[], []⟩)).forCall (fun _ _ => 0) ⟨#[], #[.slice none 0 0, .int .i64 0, .agg (zerosU8 32).toArray], []⟩).memory Tryd.f6.params.toList Rows.verifyOneSpec.vars false #[Value.slice none 0 0, .int .i64 0, .agg (zerosU8 32).toArray].toList 8 = some ([.nil, .lit (.int .i64 0), .agg (List.replicate 32 (.lit (.int .u8 0)))], [], places) :=
  ⟨[], by kernel_rfl⟩

set_option maxRecDepth 100000 in
theorem lifted (os : Os) (started : os.Started) (H : Type) (enc : TypeId × Value → H) (F : Stop.Interp) :
    ReturnsInHanded {} Tryd.checked os 6 .any ((OpenSpec.ofChange Rows.verifyOneSpec).preRow enc Tryd.prog Tryd.f6 Rows.verifyOneRow.domain false Rows.verifyOneRow.laid) (((OpenSpec.ofChange Rows.verifyOneSpec).at F).post enc Tryd.prog Tryd.f6 false true false false) := by
  obtain ⟨places, hx⟩ := reads os enc
  refine returnsInHanded_of_row (C := Tryd.checked) (s := OpenSpec.ofChange Rows.verifyOneSpec) own started (by kernel_rfl) Tryd.func6
    (witness_row_at (enc := enc) (C := Tryd.checked) false (laidOn (World.holding Tryd.prog os ⟨#[], #[], []⟩)) #[.slice none 0 0, .int .i64 0, .agg (zerosU8 32).toArray] rfl (by kernel_rfl) (by kernel_rfl) (by kernel_rfl)
      (OpenSpec.preRow_of_cond 8 hx (by kernel_rfl) (fun k hk => by cases hk) (by kernel_rfl) (laid_met os))) ?_
  intro W base args ds gs before hval hW _ _ hsz hL _ _
  exact contract H enc W base args ds gs before hval hW hsz hL

theorem said : Rows.VerifyOneSaid :=
  OpenClaim.holds_of_cond 6 Tryd.f6 rfl rfl rfl rfl rfl rfl rfl ⟨rfl, rfl, rfl, rfl, rfl⟩ rfl rfl rfl rfl rfl (by kernel_rfl) Tryd.func6 (by kernel_rfl)
    (of_decide_eq_true (by kernel_rfl)) (by unfold Func.isWrapper; first | (rw [if_pos (by decide +kernel)]; kernel_rfl) | (rw [if_neg (by decide +kernel)]; exact ⟨rfl, rfl⟩))
    (fun os started H enc _ F => by rw [OpenClaim.pre_eq_preRow]; exact lifted os started H enc F)

theorem plain (f : FuncId) (fn : Func) (hf : Tryd.pinned.checked.prog.funcNamed "muniment/munimentlaw06.VerifyOne" = some f) (hfn : Tryd.pinned.checked.prog.funcs[f]? = some fn) :
    false = Tryd.pinned.checked.prog.looks [] ∧ ∀ (j : Nat) t, fn.params[j]? = some t → Tryd.pinned.checked.prog.wantsStandIn t = false := by
  obtain rfl : f = 6 := Option.some.inj ((show Tryd.prog.funcNamed "muniment/munimentlaw06.VerifyOne" = some 6 by kernel_rfl).symm.trans hf) |>.symm
  obtain rfl : fn = Tryd.f6 := (Option.some.inj (Tryd.func6.symm.trans hfn)).symm
  refine ⟨by kernel_rfl, fun j t ht => ?_⟩
  rw [Tryd.params6] at ht
  have hm := Array.mem_of_getElem? ht
  have : t = 32 ∨ t = 3 ∨ t = 23 := by simpa using hm
  rcases this with rfl | rfl | rfl
  · exact (show Tryd.prog.wantsStandIn 32 = false by kernel_rfl)
  · exact (show Tryd.prog.wantsStandIn 3 = false by kernel_rfl)
  · exact (show Tryd.prog.wantsStandIn 23 = false by kernel_rfl)

end Go.Proofs.YtjdmpanemdhbbaaDoor.verifyOne
namespace Go.Proofs.YtjdmpanemdhbbaaDoor
/-- THE CARD -/
theorem verifyOne_card : Rows.VerifyOneCardSaid :=
  Claim7.holds_tied_plain_at .later [] _ _ _ _ verifyOne.said (fun _ h => by cases h) (by kernel_rfl) (fun _ h => by cases h) verifyOne_row_tie rfl ⟨rfl, rfl⟩ (by kernel_rfl) rfl verifyOne.plain (by kernel_rfl)
end Go.Proofs.YtjdmpanemdhbbaaDoor

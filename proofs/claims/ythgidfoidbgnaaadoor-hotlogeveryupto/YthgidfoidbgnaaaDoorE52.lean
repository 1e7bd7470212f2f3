/- Layer 14: the document's At. -/
import Derived.Test.YthgidfoidbgnaaaDoorE51
namespace Go.Proofs.YthgidfoidbgnaaaDoor
open Go.RowKit Go.Maps

set_option maxHeartbeats 4000000 in
set_option maxRecDepth 100000 in
theorem at_any {w W : World} {c : Nat → Colour} {gh gf gm gr n : Nat} {us : List (Nat × List Nat)} {vu vb : Value} {bl : List Value} (r : RfB w W c gh gf gm gr n us vu vb bl) (hul : us.length ≤ 4096) (px : Pq) : Calls Tryd.prog 28 #[ptr gr, .agg px.cells.toArray] W fun e w' => Below W.heap.size W w' ∧ ((∃ k, k < us.length ∧ e = .returned (.int .i64 (k : Nat)) ∧ px.dv = 1 ∧ px.at_ = ((us.getD k default).1 : Nat) ∧ px.ln = (costN (us.getD k default).2.length : Nat)) ∨ (e = .returned (.int .i64 (-1)) ∧ ¬ (px.dv = 1 ∧ ∃ u ∈ us, px.at_ = (u.1 : Nat) ∧ px.ln = (costN u.2.length : Nat)))) := by
 have HM : Hid ((RfB w W c gh gf gm gr n us vu vb bl) ∧ (us.map toP).length = us.length) := ⟨r, List.length_map _⟩
 clear r
 obtain ⟨PQ, HPQ⟩ := exPQ fun (e : Ending) (w' : World) => Below W.heap.size W w' ∧ ((∃ k, k < us.length ∧ e = .returned (.int .i64 (k : Nat)) ∧ px.dv = 1 ∧ px.at_ = ((us.getD k default).1 : Nat) ∧ px.ln = (costN (us.getD k default).2.length : Nat)) ∨ (e = .returned (.int .i64 (-1)) ∧ ¬ (px.dv = 1 ∧ ∃ u ∈ us, px.at_ = (u.1 : Nat) ∧ px.ln = (costN u.2.length : Nat))))
 rw [← HPQ.out]
 go_enter Tryd.func28, Tryd.ntmps28
 go_upto_region 0 with fail
 refine wp_region_lit ?_
 refine wl rfl (ptr W.heap.size) _ (run_boxA (.tmp 1) rfl px.cells rfl) ?_
 have hb_ := below_alloc W (.cells px.cells.toArray 30)
 have r_ := Row.new W 30 px.cells
 obtain ⟨W1, hW_⟩ : ∃ U_ : World, U_ = W.alloc (.cells px.cells.toArray 30) := ⟨_, rfl⟩
 obtain ⟨q, hq_⟩ : ∃ q, q = W.heap.size := ⟨_, rfl⟩
 rw [← hW_] at hb_
 rw [← hW_, ← hq_] at r_
 rw [← hW_, ← hq_]
 have H1 : Hid (Row W1 q 30 px.cells ∧ Below W.heap.size W W1 ∧ W.heap.size ≤ q) := ⟨r_, hb_, by omega⟩
 clear r_ hb_ hW_ hq_
 simp only [Act.put, aS, aC, aZ]
 refine wl rfl (.int .i64 0) _ (run_asZ (.const (.int .i64 0)) rfl (.int .i64 0) rfl) ?_
 simp only [Act.put, aS, aC, aZ]
 refine wpList_nil ?_
 go_upto_region 1 with fail
 refine wp_region_lit ?_
 refine wl rfl (.pointer (some ⟨q, 0 + 3, none⟩)) _ (run_fieldOp' f30_3 (.tmp 3) rfl q (0) rfl) ?_
 simp only [Act.put, aS, aC, aZ]
 refine wlS rfl rfl _ (run_putRow (t := 4) sz4b (.tmp 6) (.const (.bool false)) rfl q (0 + 3) 30 _ rfl (.bool false) rfl ⟨rfl, rfl⟩ H1.out.1 (by decide : 0 + 3 < 4)) ?_
 have hb_ := (Ch.refl (· = q) W1).setCell (Or.inl rfl) (0 + 3) (.bool false)
 have r_ := H1.out.1.setCell (0 + 3) (.bool false)
 obtain ⟨W2, hW_⟩ : ∃ U_ : World, U_ = W1.setCell ⟨q, 0 + 3, none⟩ (.bool false) := ⟨_, rfl⟩
 rw [← hW_] at hb_ r_ ⊢
 have H2 : Hid (Row W2 q 30 (plC px.dv px.at_ px.ln false) ∧ Below W.heap.size W W2) := ⟨r_, H1.out.2.1.trans (hb_.below H1.out.2.1.size fun k hk e => by have := H1.out.2.2; omega)⟩
 clear r_ hb_ hW_ H1
 refine wpList_nil ?_
 go_upto_region 2 with fail
 refine wp_region_lit ?_
 refine wl rfl (.int .i64 0) _ (run_asZ (.const (.int .i64 0)) rfl (.int .i64 0) rfl) ?_
 simp only [Act.put, aS, aC, aZ]
 refine wpList_nil ?_
 go_wp2_with fail
 go_loopw [5] (fun vk W' => ∃ k : Nat, vk = .int .i64 (k : Nat) ∧ k ≤ us.length ∧ Hid (Row W' q 30 (plC px.dv px.at_ px.ln false) ∧ Below W.heap.size W W' ∧ ∀ j, j < k → ¬ (px.dv = 1 ∧ px.at_ = ((us.getD j default).1 : Nat) ∧ px.ln = (costN (us.getD j default).2.length : Nat)))) (fun vk _ => us.length - (intOf vk).toNat)
 case atStart => exact ⟨0, rfl, Nat.zero_le _, ⟨H2.out.1, H2.out.2, fun j hj => absurd hj (Nat.not_lt_zero j)⟩⟩
 case round =>
  obtain ⟨k, rfl, hk, HI⟩ := hrel
  have HD : Hid (RfB w wr c gh gf gm gr n us vu vb bl) := HM.out.1.bel HI.out.2.1
  by_cases hlt : k < us.length
  ·go_upto_region 3 with fail
   refine wp_region_lit ?_
   refine wl rfl (.int .i64 (k : Nat)) _ (run_mvZ (.tmp 5) rfl (.int .i64 (k : Nat)) rfl) ?_
   refine wl rfl (ptr gr) _ (run_mvZ (.tmp 0) rfl (ptr gr) rfl) ?_
   refine wl rfl (ptr gr) _ (run_nil (.tmp 8) rfl ⟨gr, 0, none⟩ rfl) ?_
   refine wl rfl (.pointer (some ⟨gr, 0 + 2, none⟩)) _ (run_fieldOp' f60_2 (.tmp 9) rfl gr (0) rfl) ?_
   simp only [Act.put, aS, aC, aZ]
   refine wl rfl vu _ (run_load1 o43 (.tmp 10) rfl gr (0 + 2) rfl vu (HD.out.row.at 2 _ rfl)) ?_
   refine wl rfl (.int .i64 (us.length : Nat)) _ (run_lenPI HM.out.1.u HM.out.2 (.tmp 11) rfl rfl) ?_
   refine wl rfl (.bool true) _ (run_lssZ (.tmp 7) (.tmp 12) rfl (k : Nat) (us.length : Nat) rfl rfl true (decide_eq_true (by omega))) ?_
   simp only [Act.put, aS, aC, aZ]
   refine wpList_nil ?_
   obtain ⟨u, hu⟩ : ∃ u, u = us.getD k default := ⟨_, rfl⟩
   obtain ⟨bu, _, hx_, hc_⟩ := HM.out.1.u.ix k (by rw [HM.out.2]; exact hlt)
   rw [toP_at us k hlt, ← hu] at hc_
   have HX : Hid ((∀ w', (Instr.indexAt 43 vu (.int .i64 (k : Nat))).run Tryd.prog w' = .ok (.pointer (some ⟨bu, k * 4, none⟩)) w') ∧ (∀ W' : World, PlO W' vu (us.map toP) → ∀ j x, (toP u).cells[j]? = some x → W'.cell? ⟨bu, k * 4 + j, none⟩ = some x) ∧ u = us.getD k default) := ⟨hx_, hc_, hu⟩
   clear hu hx_ hc_
   obtain ⟨mb, hmb⟩ : ∃ b, decide ((1 : Int) = px.dv ∧ ((u.1 : Nat) : Int) = px.at_ ∧ ((costN u.2.length : Nat) : Int) = px.ln ∧ false = false) = b := ⟨_, rfl⟩
   have HMB : Hid (decide ((1 : Int) = px.dv ∧ ((u.1 : Nat) : Int) = px.at_ ∧ ((costN u.2.length : Nat) : Int) = px.ln ∧ false = false) = mb) := hmb
   clear hmb
   go_upto_region 5 with fail
   refine wp_region_held (S := fun X => Row X gr 60 [.int .i64 1, .int .i64 (n : Nat), vu, vb] ∧ PlO X vu (us.map toP) ∧ Row X q 30 (plC px.dv px.at_ px.ln false)) (by kernel_rfl) ?_
   show wpAnyH _ _ _ _ _ 9 (Array.replicate 9 false) _ _
   obtain ⟨X, hX⟩ : ∃ X : World, X = { wr with drawn := wr.drawn + 1 } := ⟨_, rfl⟩
   rw [← hX]
   have HBX : Hid (Below wr.heap.size wr X) := (by rw [hX]; exact ⟨rfl, rfl, rfl, Nat.le_refl _, fun _ _ => rfl⟩)
   have HJ : Hid (Row X q 30 (plC px.dv px.at_ px.ln false) ∧ Below W.heap.size W X ∧ ∀ j, j < k → ¬ (px.dv = 1 ∧ px.at_ = ((us.getD j default).1 : Nat) ∧ px.ln = (costN (us.getD j default).2.length : Nat))) := ⟨HI.out.1.later HBX.out HI.out.1.lt, HI.out.2.1.trans (HBX.out.mono HI.out.2.1.size), HI.out.2.2⟩
   have HS_ : Row X gr 60 [.int .i64 1, .int .i64 (n : Nat), vu, vb] ∧ PlO X vu (us.map toP) ∧ Row X q 30 (plC px.dv px.at_ px.ln false) := ⟨(HD.out.bel HBX.out).row, (HD.out.bel HBX.out).u, HJ.out.1⟩
   clear hX
   refine tH 0 16 rfl rfl (gRun rfl (ptr gr) fun _ h => run_mvZ (.tmp 0) rfl (ptr gr) rfl) HS_ ?_
   refine tH 1 17 rfl rfl (gRun rfl (ptr gr) fun _ h => run_nil (.tmp 16) rfl ⟨gr, 0, none⟩ rfl) HS_ ?_
   refine tH 2 18 rfl rfl (gRun rfl (.pointer (some ⟨gr, 0 + 2, none⟩)) fun _ h => run_fieldOp' f60_2 (.tmp 17) rfl gr (0) rfl) HS_ ?_
   refine tH 3 19 rfl rfl (gRun rfl vu fun _ h => run_load1 o43 (.tmp 18) rfl gr (0 + 2) rfl vu (h.1.at 2 _ rfl)) HS_ ?_
   simp only [Act.put, aS, aC, aZ]
   refine tH 4 20 rfl rfl (gRun rfl (.int .i64 (k : Nat)) fun _ h => run_mvZ (.tmp 5) rfl (.int .i64 (k : Nat)) rfl) HS_ ?_
   refine tH 5 21 rfl rfl (gRun rfl (.pointer (some ⟨bu, k * 4, none⟩)) fun _ h => run_idx (.tmp 19) (.tmp 20) rfl _ _ _ rfl rfl HX.out.1) HS_ ?_
   refine tH 6 22 rfl rfl (gRun rfl (.agg ((toP u).cells).toArray) fun _ h => run_loadA ag30 (.tmp 21) rfl bu (k * 4) rfl ((toP u).cells) rfl (HX.out.2.1 _ h.2.1)) HS_ ?_
   refine tH 7 23 rfl rfl (gRun rfl (.agg ((plC px.dv px.at_ px.ln false)).toArray) fun _ h => run_loadA ag30 (.tmp 3) rfl q (0) rfl ((plC px.dv px.at_ px.ln false)) rfl (rows_one h.2.2)) HS_ ?_
   simp only [Act.put, aS, aC, aZ]
   refine tH 8 24 rfl rfl (gRun rfl (.bool mb) fun _ h => run_eqPl (.tmp 22) (.tmp 23) rfl 1 (u.1 : Nat) (costN u.2.length : Nat) px.dv px.at_ px.ln false false rfl rfl mb HMB.out) HS_ ?_
   simp only [Act.put, aS, aC, aZ]
   refine wpAnyH_done (by kernel_rfl) ?_ _
   cases mb with
   | false =>
    go_wp2_with fail
    refine ⟨⟨k + 1, by go_num, by omega, ⟨HJ.out.1, HJ.out.2.1, fun j hj => ?_⟩⟩, ?_⟩
    ·rcases Nat.lt_or_ge j k with q_ | q_
     ·exact HJ.out.2.2 j q_
     ·have ej : j = k := (by omega)
      rw [ej, ← HX.out.2.2]
      exact fun hm => of_decide_eq_false HMB.out ⟨hm.1.symm, hm.2.1.symm, hm.2.2.symm, rfl⟩
    ·simp [intOf]; omega
   | true =>
    go_upto_region 6 with fail
    refine wp_region_lit ?_
    refine wl rfl (.int .i64 (k : Nat)) _ (run_mvZ (.tmp 5) rfl (.int .i64 (k : Nat)) rfl) ?_
    refine wl rfl (.int .i64 (k : Nat)) _ (run_asZ (.tmp 25) rfl (.int .i64 (k : Nat)) rfl) ?_
    simp only [Act.put, aS, aC, aZ]
    refine wpList_nil ?_
    go_wp2_with fail
    rw [HPQ.out]
    have hm := of_decide_eq_true HMB.out
    refine ⟨HJ.out.2.1, Or.inl ⟨k, hlt, rfl, ?_⟩⟩
    rw [← HX.out.2.2]
    exact ⟨hm.1.symm, hm.2.1.symm, hm.2.2.1.symm⟩
  ·go_upto_region 3 with fail
   refine wp_region_lit ?_
   refine wl rfl (.int .i64 (k : Nat)) _ (run_mvZ (.tmp 5) rfl (.int .i64 (k : Nat)) rfl) ?_
   refine wl rfl (ptr gr) _ (run_mvZ (.tmp 0) rfl (ptr gr) rfl) ?_
   refine wl rfl (ptr gr) _ (run_nil (.tmp 8) rfl ⟨gr, 0, none⟩ rfl) ?_
   refine wl rfl (.pointer (some ⟨gr, 0 + 2, none⟩)) _ (run_fieldOp' f60_2 (.tmp 9) rfl gr (0) rfl) ?_
   simp only [Act.put, aS, aC, aZ]
   refine wl rfl vu _ (run_load1 o43 (.tmp 10) rfl gr (0 + 2) rfl vu (HD.out.row.at 2 _ rfl)) ?_
   refine wl rfl (.int .i64 (us.length : Nat)) _ (run_lenPI HM.out.1.u HM.out.2 (.tmp 11) rfl rfl) ?_
   refine wl rfl (.bool false) _ (run_lssZ (.tmp 7) (.tmp 12) rfl (k : Nat) (us.length : Nat) rfl rfl false (decide_eq_false (by omega))) ?_
   simp only [Act.put, aS, aC, aZ]
   refine wpList_nil ?_
   go_upto_region 7 with fail
   refine wp_region_lit ?_
   refine wl rfl (.int .i64 (-1)) _ (run_asZ (.const (.int .i64 (-1))) rfl (.int .i64 (-1)) rfl) ?_
   simp only [Act.put, aS, aC, aZ]
   refine wpList_nil ?_
   go_wp2_with fail
   rw [HPQ.out]
   refine ⟨HI.out.2.1, Or.inr ⟨rfl, fun hm => ?_⟩⟩
   obtain ⟨h1, u, hu, h2, h3⟩ := hm
   obtain ⟨j, hj, e_⟩ := List.getElem_of_mem hu
   refine HI.out.2.2 j (by omega) ⟨h1, ?_⟩
   rw [List.getD_eq_getElem?_getD, List.getElem?_eq_getElem hj, Option.getD_some, e_]
   exact ⟨h2, h3⟩

end Go.Proofs.YthgidfoidbgnaaaDoor

/- Layer 14: the document's Cost, Place, Meet. -/
import Derived.Test.YthgidfoidbgnaaaDoorE40
namespace Go.Proofs.YthgidfoidbgnaaaDoor
open Go.RowKit Go.Maps


/-- the document's places in memory -/
def RfU (W : World) (gr d n : Nat) (vu vb : Value) (ps : List Pq) : Prop := Row W gr 60 [.int .i64 (d : Nat), .int .i64 (n : Nat), vu, vb] ∧ PlO W vu ps
theorem RfU.bel {W W' : World} {gr d n : Nat} {vu vb : Value} {ps : List Pq} (h : RfU W gr d n vu vb ps) (hb : Below W.heap.size W W') : RfU W' gr d n vu vb ps := ⟨h.1.later hb h.1.lt, h.2.kept fun b e => hb.block b (h.2.lt e)⟩
theorem run_rem16 {w : World} {a : Act} {o : Oper} (x : Operand) (ho : o.op = .binOp .rem 3 x (.const (.int .i64 16)) 3) (p : Nat) (hx : a.eval x = .int .i64 (p : Nat)) : (execOp a.eval o).run Tryd.prog w = .ok (.value (.int .i64 ((p % 16 : Nat) : Int))) w := by
 refine run_binOp' x (.const (.int .i64 16)) ho (.int .i64 (p : Nat)) (.int .i64 16) _ hx rfl rfl ?_
 have := run_remK w (p : Nat) 16 (by decide) (by omega)
 rw [show ((p % 16 : Nat) : Int) = (p : Int) % ((16 : Nat) : Int) by omega]
 exact this
set_option maxHeartbeats 4000000 in
set_option maxRecDepth 100000 in
theorem rcost_any (w : World) (n : Nat) (hn : n ≤ 1000000000000000000) : Calls Tryd.prog 22 #[.int .i64 (n : Nat)] w fun e w' => e = .returned (.int .i64 (costN n : Nat)) ∧ w = w' := by
 obtain ⟨PQ, HPQ⟩ := exPQ fun (e : Ending) (w' : World) => e = .returned (.int .i64 (costN n : Nat)) ∧ w = w'
 rw [← HPQ.out]
 go_enter Tryd.func22, Tryd.ntmps22
 go_upto_region 0 with fail
 refine wp_region_lit ?_
 refine wl rfl (.int .i64 0) _ (run_asZ (.const (.int .i64 0)) rfl (.int .i64 0) rfl) ?_
 simp only [Act.put, aS, aC, aZ]
 refine wpList_nil ?_
 go_upto_region 1 with fail
 refine wp_region_lit ?_
 refine wl rfl (.int .i64 1) _ (run_asZ (.const (.int .i64 1)) rfl (.int .i64 1) rfl) ?_
 simp only [Act.put, aS, aC, aZ]
 refine wpList_nil ?_
 go_wp2_with fail
 go_loopw [0, 3] (fun vn vc W => ∃ (z : Int) (c : Nat), vn = .int .i64 z ∧ vc = .int .i64 (c : Nat) ∧ -64 < z ∧ z ≤ 1000000000000000000 ∧ 1 ≤ c ∧ c ≤ 2000000000000000000 ∧ Hid ((if 0 < z then (c : Int) + (z + 63) / 64 else (c : Int)) = (costN n : Nat)) ∧ (0 < z → (c : Int) + z ≤ 1000000000000000001) ∧ w = W) (fun vn _ _ => (intOf vn).toNat)
 case atStart => exact ⟨(n : Nat), 1, rfl, rfl, by omega, by omega, by omega, by omega, (by show _ = _; unfold costN; split <;> omega), by omega, rfl⟩
 case round =>
  obtain ⟨z, c, rfl, rfl, hz1, hz2, hc1, hc2, HI, hcz, rfl⟩ := hrel
  by_cases hpos : 0 < z
  ·go_upto_region 2 with fail
   refine wp_region_lit ?_
   refine wl rfl (.int .i64 z) _ (run_mvZ (.tmp 0) rfl (.int .i64 z) rfl) ?_
   refine wl rfl (.bool true) _ (run_gtrZ (.tmp 4) (.const (.int .i64 0)) rfl z 0 rfl rfl true (decide_eq_true hpos)) ?_
   simp only [Act.put, aS, aC, aZ]
   refine wpList_nil ?_
   go_upto_region 3 with fail
   refine wp_region_lit ?_
   refine wl rfl (.int .i64 (c : Nat)) _ (run_mvZ (.tmp 3) rfl (.int .i64 (c : Nat)) rfl) ?_
   refine wl rfl (.int .i64 ((c + 1 : Nat) : Int)) _ (run_addZ (.tmp 6) (.const (.int .i64 1)) rfl (c : Nat) 1 _ rfl rfl (by omega) (by omega) (by omega)) ?_
   refine wl rfl (.int .i64 ((c + 1 : Nat) : Int)) _ (run_asZ (.tmp 7) rfl (.int .i64 ((c + 1 : Nat) : Int)) rfl) ?_
   simp only [Act.put, aS, aC, aZ]
   refine wpList_nil ?_
   go_upto_region 4 with fail
   refine wp_region_lit ?_
   refine wl rfl (.int .i64 z) _ (run_mvZ (.tmp 0) rfl (.int .i64 z) rfl) ?_
   refine wl rfl (.int .i64 (z - 64)) _ (run_subZ (.tmp 8) (.const (.int .i64 64)) rfl z 64 _ rfl rfl rfl (by omega) (by omega)) ?_
   refine wl rfl (.int .i64 (z - 64)) _ (run_asZ (.tmp 9) rfl (.int .i64 (z - 64)) rfl) ?_
   simp only [Act.put, aS, aC, aZ]
   refine wpList_nil ?_
   have hcz' := hcz hpos
   have hI' := HI.out
   rw [if_pos hpos] at hI'
   have HI2 : Hid ((if 0 < z - 64 then ((c + 1 : Nat) : Int) + ((z - 64) + 63) / 64 else ((c + 1 : Nat) : Int)) = (costN n : Nat)) := (by show _ = _; split <;> omega)
   clear hI' HI hcz
   go_wp2_with fail
   refine ⟨⟨z - 64, c + 1, rfl, rfl, by omega, by omega, by omega, by omega, HI2, by omega, by first | rfl | trivial⟩, ?_⟩
   simp [intOf]; omega
  ·go_upto_region 2 with fail
   refine wp_region_lit ?_
   refine wl rfl (.int .i64 z) _ (run_mvZ (.tmp 0) rfl (.int .i64 z) rfl) ?_
   refine wl rfl (.bool false) _ (run_gtrZ (.tmp 4) (.const (.int .i64 0)) rfl z 0 rfl rfl false (decide_eq_false hpos)) ?_
   simp only [Act.put, aS, aC, aZ]
   refine wpList_nil ?_
   go_upto_region 5 with fail
   refine wp_region_lit ?_
   refine wl rfl (.int .i64 (c : Nat)) _ (run_mvZ (.tmp 3) rfl (.int .i64 (c : Nat)) rfl) ?_
   refine wl rfl (.int .i64 (c : Nat)) _ (run_asZ (.tmp 10) rfl (.int .i64 (c : Nat)) rfl) ?_
   simp only [Act.put, aS, aC, aZ]
   refine wpList_nil ?_
   have hI' := HI.out
   rw [if_neg hpos] at hI'
   have HI2 : Hid (((c : Nat) : Int) = (costN n : Nat)) := hI'
   clear hI' HI
   go_wp2_with fail
   rw [HPQ.out]
   exact ⟨congrArg (fun q : Int => Ending.returned (.int .i64 q)) HI2.out, rfl⟩
set_option maxHeartbeats 4000000 in
set_option maxRecDepth 100000 in
theorem rplace_any {w : World} {gr d n : Nat} {vu vb : Value} {ps : List Pq} (h : RfU w gr d n vu vb ps) (hn : n ≤ 4096) (dv at_ ln : Int) (bd : Bool) (ha : I64 at_) : Calls Tryd.prog 38 #[ptr gr, .agg (plC dv at_ ln bd).toArray] w fun e w' => e = .returned (.bool (isPl d (n / 16) dv at_ ln)) ∧ Below w.heap.size w w' := by
 have HM : Hid (Row w gr 60 [.int .i64 (d : Nat), .int .i64 (n : Nat), vu, vb]) := h.1
 have HK : Hid (I64 at_) := ha
 clear h ha
 obtain ⟨PQ, HPQ⟩ := exPQ fun (e : Ending) (w' : World) => e = .returned (.bool (isPl d (n / 16) dv at_ ln)) ∧ Below w.heap.size w w'
 rw [← HPQ.out]
 go_enter Tryd.func38, Tryd.ntmps38
 go_upto_region 0 with fail
 refine wp_region_lit ?_
 refine wl rfl (ptr w.heap.size) _ (run_boxA (.tmp 1) rfl (plC dv at_ ln bd) rfl) ?_
 have hb_ := below_alloc w (.cells (plC dv at_ ln bd).toArray 30)
 have r_ := Row.new w 30 (plC dv at_ ln bd)
 obtain ⟨w1, hW_⟩ : ∃ U_ : World, U_ = w.alloc (.cells (plC dv at_ ln bd).toArray 30) := ⟨_, rfl⟩
 obtain ⟨q, hq_⟩ : ∃ q, q = w.heap.size := ⟨_, rfl⟩
 rw [← hW_] at hb_
 rw [← hW_, ← hq_] at r_
 rw [← hW_, ← hq_]
 have HA : Hid (Row w1 q 30 (plC dv at_ ln bd) ∧ Row w1 gr 60 [.int .i64 (d : Nat), .int .i64 (n : Nat), vu, vb] ∧ Below w.heap.size w w1) := ⟨r_, HM.out.later hb_ HM.out.lt, hb_⟩
 clear r_ hb_ hW_ hq_
 simp only [Act.put, aS, aC, aZ]
 refine wl rfl (.bool false) _ (run_asZ (.const (.bool false)) rfl (.bool false) rfl) ?_
 simp only [Act.put, aS, aC, aZ]
 refine wpList_nil ?_
 by_cases c11 : dv = (d : Int)
 case neg =>
  go_upto_region 1 with fail
  refine wp_region_held (S := fun X => Row X q 30 (plC dv at_ ln bd) ∧ Row X gr 60 [.int .i64 (d : Nat), .int .i64 (n : Nat), vu, vb]) (by kernel_rfl) ?_
  show wpAnyH _ _ _ _ _ 33 (Array.replicate 33 false) _ _
  obtain ⟨X, hX⟩ : ∃ X : World, X = { w1 with drawn := w1.drawn + 1 } := ⟨_, rfl⟩
  rw [← hX]
  have HBX : Hid (Below w1.heap.size w1 X) := (by rw [hX]; exact ⟨rfl, rfl, rfl, Nat.le_refl _, fun _ _ => rfl⟩)
  have HS_ : Row X q 30 (plC dv at_ ln bd) ∧ Row X gr 60 [.int .i64 (d : Nat), .int .i64 (n : Nat), vu, vb] := ⟨HA.out.1.later HBX.out HA.out.1.lt, HA.out.2.1.later HBX.out HA.out.2.1.lt⟩
  have HAX : Hid (Row X q 30 (plC dv at_ ln bd) ∧ Row X gr 60 [.int .i64 (d : Nat), .int .i64 (n : Nat), vu, vb]) := HS_
  clear hX
  refine tH 0 5 rfl rfl (gRun rfl (.pointer (some ⟨q, 0 + 0, none⟩)) fun _ h => run_fieldOp' f30_0 (.tmp 3) rfl q (0) rfl) HS_ ?_
  refine tH 1 6 rfl rfl (gRun rfl (.int .i64 dv) fun _ h => run_load1 o3 (.tmp 5) rfl q (0 + 0) rfl (.int .i64 dv) (h.1.at 0 _ rfl)) HS_ ?_
  refine tH 2 7 rfl rfl (gRun rfl (ptr gr) fun _ h => run_mvZ (.tmp 0) rfl (ptr gr) rfl) HS_ ?_
  refine tH 3 8 rfl rfl (gRun rfl (ptr gr) fun _ h => run_nil (.tmp 7) rfl ⟨gr, 0, none⟩ rfl) HS_ ?_
  simp only [Act.put, aS, aC, aZ]
  refine tH 4 9 rfl rfl (gRun rfl (.pointer (some ⟨gr, 0 + 0, none⟩)) fun _ h => run_fieldOp' f60_0 (.tmp 8) rfl gr (0) rfl) HS_ ?_
  refine tH 5 10 rfl rfl (gRun rfl (.int .i64 (d : Nat)) fun _ h => run_load1 o3 (.tmp 9) rfl gr (0 + 0) rfl (.int .i64 (d : Nat)) (h.2.at 0 _ rfl)) HS_ ?_
  refine tH 6 11 rfl rfl (gRun rfl (.bool true) fun _ h => run_neZ (.tmp 6) (.tmp 10) rfl dv (d : Nat) rfl rfl true (by rw [decide_eq_false c11]; rfl)) HS_ ?_
  refine tH 7 12 rfl rfl (gRun rfl (.bool true) fun _ h => run_mvZ (.tmp 11) rfl (.bool true) rfl) HS_ ?_
  simp only [Act.put, aS, aC, aZ]
  refine tH 8 13 rfl rfl (Or.inr ⟨by kernel_rfl, rfl⟩) HS_ ?_
  refine tH 9 14 rfl rfl (Or.inr ⟨by kernel_rfl, rfl⟩) HS_ ?_
  refine tH 10 15 rfl rfl (Or.inr ⟨by kernel_rfl, rfl⟩) HS_ ?_
  refine tH 11 16 rfl rfl (gRun rfl (.bool true) fun _ h => run_pickZ (.tmp 12) (.const (.bool true)) (.tmp 15) rfl true (.bool true) rfl rfl) HS_ ?_
  simp only [Act.put, aS, aC, aZ]
  refine tH 12 17 rfl rfl (gRun rfl (.bool true) fun _ h => run_mvZ (.tmp 16) rfl (.bool true) rfl) HS_ ?_
  refine tH 13 18 rfl rfl (Or.inr ⟨by kernel_rfl, rfl⟩) HS_ ?_
  refine tH 14 19 rfl rfl (Or.inr ⟨by kernel_rfl, rfl⟩) HS_ ?_
  refine tH 15 20 rfl rfl (Or.inr ⟨by kernel_rfl, rfl⟩) HS_ ?_
  simp only [Act.put, aS, aC, aZ]
  refine tH 16 21 rfl rfl (gRun rfl (.bool true) fun _ h => run_pickZ (.tmp 17) (.const (.bool true)) (.tmp 20) rfl true (.bool true) rfl rfl) HS_ ?_
  refine tH 17 22 rfl rfl (gRun rfl (.bool true) fun _ h => run_mvZ (.tmp 21) rfl (.bool true) rfl) HS_ ?_
  refine tH 18 23 rfl rfl (Or.inr ⟨by kernel_rfl, rfl⟩) HS_ ?_
  refine tH 19 24 rfl rfl (Or.inr ⟨by kernel_rfl, rfl⟩) HS_ ?_
  simp only [Act.put, aS, aC, aZ]
  refine tH 20 25 rfl rfl (Or.inr ⟨by kernel_rfl, rfl⟩) HS_ ?_
  refine tH 21 26 rfl rfl (gRun rfl (.bool true) fun _ h => run_pickZ (.tmp 22) (.const (.bool true)) (.tmp 25) rfl true (.bool true) rfl rfl) HS_ ?_
  refine tH 22 27 rfl rfl (gRun rfl (.bool true) fun _ h => run_mvZ (.tmp 26) rfl (.bool true) rfl) HS_ ?_
  refine tH 23 28 rfl rfl (Or.inr ⟨by kernel_rfl, rfl⟩) HS_ ?_
  simp only [Act.put, aS, aC, aZ]
  refine tH 24 29 rfl rfl (Or.inr ⟨by kernel_rfl, rfl⟩) HS_ ?_
  refine tH 25 30 rfl rfl (Or.inr ⟨by kernel_rfl, rfl⟩) HS_ ?_
  refine tH 26 31 rfl rfl (Or.inr ⟨by kernel_rfl, rfl⟩) HS_ ?_
  refine tH 27 32 rfl rfl (Or.inr ⟨by kernel_rfl, rfl⟩) HS_ ?_
  simp only [Act.put, aS, aC, aZ]
  refine tH 28 33 rfl rfl (Or.inr ⟨by kernel_rfl, rfl⟩) HS_ ?_
  refine tH 29 34 rfl rfl (Or.inr ⟨by kernel_rfl, rfl⟩) HS_ ?_
  refine tH 30 35 rfl rfl (Or.inr ⟨by kernel_rfl, rfl⟩) HS_ ?_
  refine tH 31 36 rfl rfl (Or.inr ⟨by kernel_rfl, rfl⟩) HS_ ?_
  simp only [Act.put, aS, aC, aZ]
  refine tH 32 37 rfl rfl (gRun rfl (.bool true) fun _ h => run_pickZ (.tmp 27) (.const (.bool true)) (.tmp 36) rfl true (.bool true) rfl rfl) HS_ ?_
  simp only [Act.put, aS, aC, aZ]
  refine wpAnyH_done (by kernel_rfl) ?_ _
  go_upto_region 2 with fail
  refine wp_region_lit ?_
  refine wl rfl (.bool false) _ (run_asZ (.const (.bool false)) rfl (.bool false) rfl) ?_
  simp only [Act.put, aS, aC, aZ]
  refine wpList_nil ?_
  go_wp2_with fail
  rw [HPQ.out]
  exact ⟨by unfold isPl; rw [decide_eq_false (fun k => c11 k.1)] <;> rfl, HA.out.2.2.trans (HBX.out.mono HA.out.2.2.size)⟩
 by_cases c15 : ln < 1
 case pos =>
  go_upto_region 1 with fail
  refine wp_region_held (S := fun X => Row X q 30 (plC dv at_ ln bd) ∧ Row X gr 60 [.int .i64 (d : Nat), .int .i64 (n : Nat), vu, vb]) (by kernel_rfl) ?_
  show wpAnyH _ _ _ _ _ 33 (Array.replicate 33 false) _ _
  obtain ⟨X, hX⟩ : ∃ X : World, X = { w1 with drawn := w1.drawn + 1 } := ⟨_, rfl⟩
  rw [← hX]
  have HBX : Hid (Below w1.heap.size w1 X) := (by rw [hX]; exact ⟨rfl, rfl, rfl, Nat.le_refl _, fun _ _ => rfl⟩)
  have HS_ : Row X q 30 (plC dv at_ ln bd) ∧ Row X gr 60 [.int .i64 (d : Nat), .int .i64 (n : Nat), vu, vb] := ⟨HA.out.1.later HBX.out HA.out.1.lt, HA.out.2.1.later HBX.out HA.out.2.1.lt⟩
  have HAX : Hid (Row X q 30 (plC dv at_ ln bd) ∧ Row X gr 60 [.int .i64 (d : Nat), .int .i64 (n : Nat), vu, vb]) := HS_
  clear hX
  refine tH 0 5 rfl rfl (gRun rfl (.pointer (some ⟨q, 0 + 0, none⟩)) fun _ h => run_fieldOp' f30_0 (.tmp 3) rfl q (0) rfl) HS_ ?_
  refine tH 1 6 rfl rfl (gRun rfl (.int .i64 dv) fun _ h => run_load1 o3 (.tmp 5) rfl q (0 + 0) rfl (.int .i64 dv) (h.1.at 0 _ rfl)) HS_ ?_
  refine tH 2 7 rfl rfl (gRun rfl (ptr gr) fun _ h => run_mvZ (.tmp 0) rfl (ptr gr) rfl) HS_ ?_
  refine tH 3 8 rfl rfl (gRun rfl (ptr gr) fun _ h => run_nil (.tmp 7) rfl ⟨gr, 0, none⟩ rfl) HS_ ?_
  simp only [Act.put, aS, aC, aZ]
  refine tH 4 9 rfl rfl (gRun rfl (.pointer (some ⟨gr, 0 + 0, none⟩)) fun _ h => run_fieldOp' f60_0 (.tmp 8) rfl gr (0) rfl) HS_ ?_
  refine tH 5 10 rfl rfl (gRun rfl (.int .i64 (d : Nat)) fun _ h => run_load1 o3 (.tmp 9) rfl gr (0 + 0) rfl (.int .i64 (d : Nat)) (h.2.at 0 _ rfl)) HS_ ?_
  refine tH 6 11 rfl rfl (gRun rfl (.bool false) fun _ h => run_neZ (.tmp 6) (.tmp 10) rfl dv (d : Nat) rfl rfl false (by rw [decide_eq_true c11]; rfl)) HS_ ?_
  refine tH 7 12 rfl rfl (gRun rfl (.bool false) fun _ h => run_mvZ (.tmp 11) rfl (.bool false) rfl) HS_ ?_
  simp only [Act.put, aS, aC, aZ]
  refine tH 8 13 rfl rfl (gRun (by kernel_rfl) (.pointer (some ⟨q, 0 + 2, none⟩)) fun _ h => run_fieldOp' f30_2 (.tmp 3) rfl q (0) rfl) HS_ ?_
  refine tH 9 14 rfl rfl (gRun (by kernel_rfl) (.int .i64 ln) fun _ h => run_load1 o3 (.tmp 13) rfl q (0 + 2) rfl (.int .i64 ln) (h.1.at 2 _ rfl)) HS_ ?_
  refine tH 10 15 rfl rfl (gRun (by kernel_rfl) (.bool true) fun _ h => run_lssZ (.tmp 14) (.const (.int .i64 1)) rfl ln 1 rfl rfl true (decide_eq_true c15)) HS_ ?_
  refine tH 11 16 rfl rfl (gRun rfl (.bool true) fun _ h => run_pickZ (.tmp 12) (.const (.bool true)) (.tmp 15) rfl false (.bool true) rfl rfl) HS_ ?_
  simp only [Act.put, aS, aC, aZ]
  refine tH 12 17 rfl rfl (gRun rfl (.bool true) fun _ h => run_mvZ (.tmp 16) rfl (.bool true) rfl) HS_ ?_
  refine tH 13 18 rfl rfl (Or.inr ⟨by kernel_rfl, rfl⟩) HS_ ?_
  refine tH 14 19 rfl rfl (Or.inr ⟨by kernel_rfl, rfl⟩) HS_ ?_
  refine tH 15 20 rfl rfl (Or.inr ⟨by kernel_rfl, rfl⟩) HS_ ?_
  simp only [Act.put, aS, aC, aZ]
  refine tH 16 21 rfl rfl (gRun rfl (.bool true) fun _ h => run_pickZ (.tmp 17) (.const (.bool true)) (.tmp 20) rfl true (.bool true) rfl rfl) HS_ ?_
  refine tH 17 22 rfl rfl (gRun rfl (.bool true) fun _ h => run_mvZ (.tmp 21) rfl (.bool true) rfl) HS_ ?_
  refine tH 18 23 rfl rfl (Or.inr ⟨by kernel_rfl, rfl⟩) HS_ ?_
  refine tH 19 24 rfl rfl (Or.inr ⟨by kernel_rfl, rfl⟩) HS_ ?_
  simp only [Act.put, aS, aC, aZ]
  refine tH 20 25 rfl rfl (Or.inr ⟨by kernel_rfl, rfl⟩) HS_ ?_
  refine tH 21 26 rfl rfl (gRun rfl (.bool true) fun _ h => run_pickZ (.tmp 22) (.const (.bool true)) (.tmp 25) rfl true (.bool true) rfl rfl) HS_ ?_
  refine tH 22 27 rfl rfl (gRun rfl (.bool true) fun _ h => run_mvZ (.tmp 26) rfl (.bool true) rfl) HS_ ?_
  refine tH 23 28 rfl rfl (Or.inr ⟨by kernel_rfl, rfl⟩) HS_ ?_
  simp only [Act.put, aS, aC, aZ]
  refine tH 24 29 rfl rfl (Or.inr ⟨by kernel_rfl, rfl⟩) HS_ ?_
  refine tH 25 30 rfl rfl (Or.inr ⟨by kernel_rfl, rfl⟩) HS_ ?_
  refine tH 26 31 rfl rfl (Or.inr ⟨by kernel_rfl, rfl⟩) HS_ ?_
  refine tH 27 32 rfl rfl (Or.inr ⟨by kernel_rfl, rfl⟩) HS_ ?_
  simp only [Act.put, aS, aC, aZ]
  refine tH 28 33 rfl rfl (Or.inr ⟨by kernel_rfl, rfl⟩) HS_ ?_
  refine tH 29 34 rfl rfl (Or.inr ⟨by kernel_rfl, rfl⟩) HS_ ?_
  refine tH 30 35 rfl rfl (Or.inr ⟨by kernel_rfl, rfl⟩) HS_ ?_
  refine tH 31 36 rfl rfl (Or.inr ⟨by kernel_rfl, rfl⟩) HS_ ?_
  simp only [Act.put, aS, aC, aZ]
  refine tH 32 37 rfl rfl (gRun rfl (.bool true) fun _ h => run_pickZ (.tmp 27) (.const (.bool true)) (.tmp 36) rfl true (.bool true) rfl rfl) HS_ ?_
  simp only [Act.put, aS, aC, aZ]
  refine wpAnyH_done (by kernel_rfl) ?_ _
  go_upto_region 2 with fail
  refine wp_region_lit ?_
  refine wl rfl (.bool false) _ (run_asZ (.const (.bool false)) rfl (.bool false) rfl) ?_
  simp only [Act.put, aS, aC, aZ]
  refine wpList_nil ?_
  go_wp2_with fail
  rw [HPQ.out]
  exact ⟨by unfold isPl; rw [decide_eq_false (fun k => absurd k.2.1 (by omega))] <;> rfl, HA.out.2.2.trans (HBX.out.mono HA.out.2.2.size)⟩
 by_cases c20 : 16 < ln
 case pos =>
  go_upto_region 1 with fail
  refine wp_region_held (S := fun X => Row X q 30 (plC dv at_ ln bd) ∧ Row X gr 60 [.int .i64 (d : Nat), .int .i64 (n : Nat), vu, vb]) (by kernel_rfl) ?_
  show wpAnyH _ _ _ _ _ 33 (Array.replicate 33 false) _ _
  obtain ⟨X, hX⟩ : ∃ X : World, X = { w1 with drawn := w1.drawn + 1 } := ⟨_, rfl⟩
  rw [← hX]
  have HBX : Hid (Below w1.heap.size w1 X) := (by rw [hX]; exact ⟨rfl, rfl, rfl, Nat.le_refl _, fun _ _ => rfl⟩)
  have HS_ : Row X q 30 (plC dv at_ ln bd) ∧ Row X gr 60 [.int .i64 (d : Nat), .int .i64 (n : Nat), vu, vb] := ⟨HA.out.1.later HBX.out HA.out.1.lt, HA.out.2.1.later HBX.out HA.out.2.1.lt⟩
  have HAX : Hid (Row X q 30 (plC dv at_ ln bd) ∧ Row X gr 60 [.int .i64 (d : Nat), .int .i64 (n : Nat), vu, vb]) := HS_
  clear hX
  refine tH 0 5 rfl rfl (gRun rfl (.pointer (some ⟨q, 0 + 0, none⟩)) fun _ h => run_fieldOp' f30_0 (.tmp 3) rfl q (0) rfl) HS_ ?_
  refine tH 1 6 rfl rfl (gRun rfl (.int .i64 dv) fun _ h => run_load1 o3 (.tmp 5) rfl q (0 + 0) rfl (.int .i64 dv) (h.1.at 0 _ rfl)) HS_ ?_
  refine tH 2 7 rfl rfl (gRun rfl (ptr gr) fun _ h => run_mvZ (.tmp 0) rfl (ptr gr) rfl) HS_ ?_
  refine tH 3 8 rfl rfl (gRun rfl (ptr gr) fun _ h => run_nil (.tmp 7) rfl ⟨gr, 0, none⟩ rfl) HS_ ?_
  simp only [Act.put, aS, aC, aZ]
  refine tH 4 9 rfl rfl (gRun rfl (.pointer (some ⟨gr, 0 + 0, none⟩)) fun _ h => run_fieldOp' f60_0 (.tmp 8) rfl gr (0) rfl) HS_ ?_
  refine tH 5 10 rfl rfl (gRun rfl (.int .i64 (d : Nat)) fun _ h => run_load1 o3 (.tmp 9) rfl gr (0 + 0) rfl (.int .i64 (d : Nat)) (h.2.at 0 _ rfl)) HS_ ?_
  refine tH 6 11 rfl rfl (gRun rfl (.bool false) fun _ h => run_neZ (.tmp 6) (.tmp 10) rfl dv (d : Nat) rfl rfl false (by rw [decide_eq_true c11]; rfl)) HS_ ?_
  refine tH 7 12 rfl rfl (gRun rfl (.bool false) fun _ h => run_mvZ (.tmp 11) rfl (.bool false) rfl) HS_ ?_
  simp only [Act.put, aS, aC, aZ]
  refine tH 8 13 rfl rfl (gRun (by kernel_rfl) (.pointer (some ⟨q, 0 + 2, none⟩)) fun _ h => run_fieldOp' f30_2 (.tmp 3) rfl q (0) rfl) HS_ ?_
  refine tH 9 14 rfl rfl (gRun (by kernel_rfl) (.int .i64 ln) fun _ h => run_load1 o3 (.tmp 13) rfl q (0 + 2) rfl (.int .i64 ln) (h.1.at 2 _ rfl)) HS_ ?_
  refine tH 10 15 rfl rfl (gRun (by kernel_rfl) (.bool false) fun _ h => run_lssZ (.tmp 14) (.const (.int .i64 1)) rfl ln 1 rfl rfl false (decide_eq_false c15)) HS_ ?_
  refine tH 11 16 rfl rfl (gRun rfl (.bool false) fun _ h => run_pickZ (.tmp 12) (.const (.bool true)) (.tmp 15) rfl false (.bool false) rfl rfl) HS_ ?_
  simp only [Act.put, aS, aC, aZ]
  refine tH 12 17 rfl rfl (gRun rfl (.bool false) fun _ h => run_mvZ (.tmp 16) rfl (.bool false) rfl) HS_ ?_
  refine tH 13 18 rfl rfl (gRun (by kernel_rfl) (.pointer (some ⟨q, 0 + 2, none⟩)) fun _ h => run_fieldOp' f30_2 (.tmp 3) rfl q (0) rfl) HS_ ?_
  refine tH 14 19 rfl rfl (gRun (by kernel_rfl) (.int .i64 ln) fun _ h => run_load1 o3 (.tmp 18) rfl q (0 + 2) rfl (.int .i64 ln) (h.1.at 2 _ rfl)) HS_ ?_
  refine tH 15 20 rfl rfl (gRun (by kernel_rfl) (.bool true) fun _ h => run_gtrZ (.tmp 19) (.const (.int .i64 16)) rfl ln 16 rfl rfl true (decide_eq_true c20)) HS_ ?_
  simp only [Act.put, aS, aC, aZ]
  refine tH 16 21 rfl rfl (gRun rfl (.bool true) fun _ h => run_pickZ (.tmp 17) (.const (.bool true)) (.tmp 20) rfl false (.bool true) rfl rfl) HS_ ?_
  refine tH 17 22 rfl rfl (gRun rfl (.bool true) fun _ h => run_mvZ (.tmp 21) rfl (.bool true) rfl) HS_ ?_
  refine tH 18 23 rfl rfl (Or.inr ⟨by kernel_rfl, rfl⟩) HS_ ?_
  refine tH 19 24 rfl rfl (Or.inr ⟨by kernel_rfl, rfl⟩) HS_ ?_
  simp only [Act.put, aS, aC, aZ]
  refine tH 20 25 rfl rfl (Or.inr ⟨by kernel_rfl, rfl⟩) HS_ ?_
  refine tH 21 26 rfl rfl (gRun rfl (.bool true) fun _ h => run_pickZ (.tmp 22) (.const (.bool true)) (.tmp 25) rfl true (.bool true) rfl rfl) HS_ ?_
  refine tH 22 27 rfl rfl (gRun rfl (.bool true) fun _ h => run_mvZ (.tmp 26) rfl (.bool true) rfl) HS_ ?_
  refine tH 23 28 rfl rfl (Or.inr ⟨by kernel_rfl, rfl⟩) HS_ ?_
  simp only [Act.put, aS, aC, aZ]
  refine tH 24 29 rfl rfl (Or.inr ⟨by kernel_rfl, rfl⟩) HS_ ?_
  refine tH 25 30 rfl rfl (Or.inr ⟨by kernel_rfl, rfl⟩) HS_ ?_
  refine tH 26 31 rfl rfl (Or.inr ⟨by kernel_rfl, rfl⟩) HS_ ?_
  refine tH 27 32 rfl rfl (Or.inr ⟨by kernel_rfl, rfl⟩) HS_ ?_
  simp only [Act.put, aS, aC, aZ]
  refine tH 28 33 rfl rfl (Or.inr ⟨by kernel_rfl, rfl⟩) HS_ ?_
  refine tH 29 34 rfl rfl (Or.inr ⟨by kernel_rfl, rfl⟩) HS_ ?_
  refine tH 30 35 rfl rfl (Or.inr ⟨by kernel_rfl, rfl⟩) HS_ ?_
  refine tH 31 36 rfl rfl (Or.inr ⟨by kernel_rfl, rfl⟩) HS_ ?_
  simp only [Act.put, aS, aC, aZ]
  refine tH 32 37 rfl rfl (gRun rfl (.bool true) fun _ h => run_pickZ (.tmp 27) (.const (.bool true)) (.tmp 36) rfl true (.bool true) rfl rfl) HS_ ?_
  simp only [Act.put, aS, aC, aZ]
  refine wpAnyH_done (by kernel_rfl) ?_ _
  go_upto_region 2 with fail
  refine wp_region_lit ?_
  refine wl rfl (.bool false) _ (run_asZ (.const (.bool false)) rfl (.bool false) rfl) ?_
  simp only [Act.put, aS, aC, aZ]
  refine wpList_nil ?_
  go_wp2_with fail
  rw [HPQ.out]
  exact ⟨by unfold isPl; rw [decide_eq_false (fun k => absurd k.2.2.1 (by omega))] <;> rfl, HA.out.2.2.trans (HBX.out.mono HA.out.2.2.size)⟩
 by_cases c25 : at_ < 0
 case pos =>
  go_upto_region 1 with fail
  refine wp_region_held (S := fun X => Row X q 30 (plC dv at_ ln bd) ∧ Row X gr 60 [.int .i64 (d : Nat), .int .i64 (n : Nat), vu, vb]) (by kernel_rfl) ?_
  show wpAnyH _ _ _ _ _ 33 (Array.replicate 33 false) _ _
  obtain ⟨X, hX⟩ : ∃ X : World, X = { w1 with drawn := w1.drawn + 1 } := ⟨_, rfl⟩
  rw [← hX]
  have HBX : Hid (Below w1.heap.size w1 X) := (by rw [hX]; exact ⟨rfl, rfl, rfl, Nat.le_refl _, fun _ _ => rfl⟩)
  have HS_ : Row X q 30 (plC dv at_ ln bd) ∧ Row X gr 60 [.int .i64 (d : Nat), .int .i64 (n : Nat), vu, vb] := ⟨HA.out.1.later HBX.out HA.out.1.lt, HA.out.2.1.later HBX.out HA.out.2.1.lt⟩
  have HAX : Hid (Row X q 30 (plC dv at_ ln bd) ∧ Row X gr 60 [.int .i64 (d : Nat), .int .i64 (n : Nat), vu, vb]) := HS_
  clear hX
  refine tH 0 5 rfl rfl (gRun rfl (.pointer (some ⟨q, 0 + 0, none⟩)) fun _ h => run_fieldOp' f30_0 (.tmp 3) rfl q (0) rfl) HS_ ?_
  refine tH 1 6 rfl rfl (gRun rfl (.int .i64 dv) fun _ h => run_load1 o3 (.tmp 5) rfl q (0 + 0) rfl (.int .i64 dv) (h.1.at 0 _ rfl)) HS_ ?_
  refine tH 2 7 rfl rfl (gRun rfl (ptr gr) fun _ h => run_mvZ (.tmp 0) rfl (ptr gr) rfl) HS_ ?_
  refine tH 3 8 rfl rfl (gRun rfl (ptr gr) fun _ h => run_nil (.tmp 7) rfl ⟨gr, 0, none⟩ rfl) HS_ ?_
  simp only [Act.put, aS, aC, aZ]
  refine tH 4 9 rfl rfl (gRun rfl (.pointer (some ⟨gr, 0 + 0, none⟩)) fun _ h => run_fieldOp' f60_0 (.tmp 8) rfl gr (0) rfl) HS_ ?_
  refine tH 5 10 rfl rfl (gRun rfl (.int .i64 (d : Nat)) fun _ h => run_load1 o3 (.tmp 9) rfl gr (0 + 0) rfl (.int .i64 (d : Nat)) (h.2.at 0 _ rfl)) HS_ ?_
  refine tH 6 11 rfl rfl (gRun rfl (.bool false) fun _ h => run_neZ (.tmp 6) (.tmp 10) rfl dv (d : Nat) rfl rfl false (by rw [decide_eq_true c11]; rfl)) HS_ ?_
  refine tH 7 12 rfl rfl (gRun rfl (.bool false) fun _ h => run_mvZ (.tmp 11) rfl (.bool false) rfl) HS_ ?_
  simp only [Act.put, aS, aC, aZ]
  refine tH 8 13 rfl rfl (gRun (by kernel_rfl) (.pointer (some ⟨q, 0 + 2, none⟩)) fun _ h => run_fieldOp' f30_2 (.tmp 3) rfl q (0) rfl) HS_ ?_
  refine tH 9 14 rfl rfl (gRun (by kernel_rfl) (.int .i64 ln) fun _ h => run_load1 o3 (.tmp 13) rfl q (0 + 2) rfl (.int .i64 ln) (h.1.at 2 _ rfl)) HS_ ?_
  refine tH 10 15 rfl rfl (gRun (by kernel_rfl) (.bool false) fun _ h => run_lssZ (.tmp 14) (.const (.int .i64 1)) rfl ln 1 rfl rfl false (decide_eq_false c15)) HS_ ?_
  refine tH 11 16 rfl rfl (gRun rfl (.bool false) fun _ h => run_pickZ (.tmp 12) (.const (.bool true)) (.tmp 15) rfl false (.bool false) rfl rfl) HS_ ?_
  simp only [Act.put, aS, aC, aZ]
  refine tH 12 17 rfl rfl (gRun rfl (.bool false) fun _ h => run_mvZ (.tmp 16) rfl (.bool false) rfl) HS_ ?_
  refine tH 13 18 rfl rfl (gRun (by kernel_rfl) (.pointer (some ⟨q, 0 + 2, none⟩)) fun _ h => run_fieldOp' f30_2 (.tmp 3) rfl q (0) rfl) HS_ ?_
  refine tH 14 19 rfl rfl (gRun (by kernel_rfl) (.int .i64 ln) fun _ h => run_load1 o3 (.tmp 18) rfl q (0 + 2) rfl (.int .i64 ln) (h.1.at 2 _ rfl)) HS_ ?_
  refine tH 15 20 rfl rfl (gRun (by kernel_rfl) (.bool false) fun _ h => run_gtrZ (.tmp 19) (.const (.int .i64 16)) rfl ln 16 rfl rfl false (decide_eq_false c20)) HS_ ?_
  simp only [Act.put, aS, aC, aZ]
  refine tH 16 21 rfl rfl (gRun rfl (.bool false) fun _ h => run_pickZ (.tmp 17) (.const (.bool true)) (.tmp 20) rfl false (.bool false) rfl rfl) HS_ ?_
  refine tH 17 22 rfl rfl (gRun rfl (.bool false) fun _ h => run_mvZ (.tmp 21) rfl (.bool false) rfl) HS_ ?_
  refine tH 18 23 rfl rfl (gRun (by kernel_rfl) (.pointer (some ⟨q, 0 + 1, none⟩)) fun _ h => run_fieldOp' f30_1 (.tmp 3) rfl q (0) rfl) HS_ ?_
  refine tH 19 24 rfl rfl (gRun (by kernel_rfl) (.int .i64 at_) fun _ h => run_load1 o3 (.tmp 23) rfl q (0 + 1) rfl (.int .i64 at_) (h.1.at 1 _ rfl)) HS_ ?_
  simp only [Act.put, aS, aC, aZ]
  refine tH 20 25 rfl rfl (gRun (by kernel_rfl) (.bool true) fun _ h => run_lssZ (.tmp 24) (.const (.int .i64 0)) rfl at_ 0 rfl rfl true (decide_eq_true c25)) HS_ ?_
  refine tH 21 26 rfl rfl (gRun rfl (.bool true) fun _ h => run_pickZ (.tmp 22) (.const (.bool true)) (.tmp 25) rfl false (.bool true) rfl rfl) HS_ ?_
  refine tH 22 27 rfl rfl (gRun rfl (.bool true) fun _ h => run_mvZ (.tmp 26) rfl (.bool true) rfl) HS_ ?_
  refine tH 23 28 rfl rfl (Or.inr ⟨by kernel_rfl, rfl⟩) HS_ ?_
  simp only [Act.put, aS, aC, aZ]
  refine tH 24 29 rfl rfl (Or.inr ⟨by kernel_rfl, rfl⟩) HS_ ?_
  refine tH 25 30 rfl rfl (Or.inr ⟨by kernel_rfl, rfl⟩) HS_ ?_
  refine tH 26 31 rfl rfl (Or.inr ⟨by kernel_rfl, rfl⟩) HS_ ?_
  refine tH 27 32 rfl rfl (Or.inr ⟨by kernel_rfl, rfl⟩) HS_ ?_
  simp only [Act.put, aS, aC, aZ]
  refine tH 28 33 rfl rfl (Or.inr ⟨by kernel_rfl, rfl⟩) HS_ ?_
  refine tH 29 34 rfl rfl (Or.inr ⟨by kernel_rfl, rfl⟩) HS_ ?_
  refine tH 30 35 rfl rfl (Or.inr ⟨by kernel_rfl, rfl⟩) HS_ ?_
  refine tH 31 36 rfl rfl (Or.inr ⟨by kernel_rfl, rfl⟩) HS_ ?_
  simp only [Act.put, aS, aC, aZ]
  refine tH 32 37 rfl rfl (gRun rfl (.bool true) fun _ h => run_pickZ (.tmp 27) (.const (.bool true)) (.tmp 36) rfl true (.bool true) rfl rfl) HS_ ?_
  simp only [Act.put, aS, aC, aZ]
  refine wpAnyH_done (by kernel_rfl) ?_ _
  go_upto_region 2 with fail
  refine wp_region_lit ?_
  refine wl rfl (.bool false) _ (run_asZ (.const (.bool false)) rfl (.bool false) rfl) ?_
  simp only [Act.put, aS, aC, aZ]
  refine wpList_nil ?_
  go_wp2_with fail
  rw [HPQ.out]
  exact ⟨by unfold isPl; rw [decide_eq_false (fun k => absurd k.2.2.2.1 (by omega))] <;> rfl, HA.out.2.2.trans (HBX.out.mono HA.out.2.2.size)⟩
 by_cases c36 : ((n / 16 * 16 : Nat) : Int) ≤ at_
 case pos =>
  go_upto_region 1 with fail
  refine wp_region_held (S := fun X => Row X q 30 (plC dv at_ ln bd) ∧ Row X gr 60 [.int .i64 (d : Nat), .int .i64 (n : Nat), vu, vb]) (by kernel_rfl) ?_
  show wpAnyH _ _ _ _ _ 33 (Array.replicate 33 false) _ _
  obtain ⟨X, hX⟩ : ∃ X : World, X = { w1 with drawn := w1.drawn + 1 } := ⟨_, rfl⟩
  rw [← hX]
  have HBX : Hid (Below w1.heap.size w1 X) := (by rw [hX]; exact ⟨rfl, rfl, rfl, Nat.le_refl _, fun _ _ => rfl⟩)
  have HS_ : Row X q 30 (plC dv at_ ln bd) ∧ Row X gr 60 [.int .i64 (d : Nat), .int .i64 (n : Nat), vu, vb] := ⟨HA.out.1.later HBX.out HA.out.1.lt, HA.out.2.1.later HBX.out HA.out.2.1.lt⟩
  have HAX : Hid (Row X q 30 (plC dv at_ ln bd) ∧ Row X gr 60 [.int .i64 (d : Nat), .int .i64 (n : Nat), vu, vb]) := HS_
  clear hX
  refine tH 0 5 rfl rfl (gRun rfl (.pointer (some ⟨q, 0 + 0, none⟩)) fun _ h => run_fieldOp' f30_0 (.tmp 3) rfl q (0) rfl) HS_ ?_
  refine tH 1 6 rfl rfl (gRun rfl (.int .i64 dv) fun _ h => run_load1 o3 (.tmp 5) rfl q (0 + 0) rfl (.int .i64 dv) (h.1.at 0 _ rfl)) HS_ ?_
  refine tH 2 7 rfl rfl (gRun rfl (ptr gr) fun _ h => run_mvZ (.tmp 0) rfl (ptr gr) rfl) HS_ ?_
  refine tH 3 8 rfl rfl (gRun rfl (ptr gr) fun _ h => run_nil (.tmp 7) rfl ⟨gr, 0, none⟩ rfl) HS_ ?_
  simp only [Act.put, aS, aC, aZ]
  refine tH 4 9 rfl rfl (gRun rfl (.pointer (some ⟨gr, 0 + 0, none⟩)) fun _ h => run_fieldOp' f60_0 (.tmp 8) rfl gr (0) rfl) HS_ ?_
  refine tH 5 10 rfl rfl (gRun rfl (.int .i64 (d : Nat)) fun _ h => run_load1 o3 (.tmp 9) rfl gr (0 + 0) rfl (.int .i64 (d : Nat)) (h.2.at 0 _ rfl)) HS_ ?_
  refine tH 6 11 rfl rfl (gRun rfl (.bool false) fun _ h => run_neZ (.tmp 6) (.tmp 10) rfl dv (d : Nat) rfl rfl false (by rw [decide_eq_true c11]; rfl)) HS_ ?_
  refine tH 7 12 rfl rfl (gRun rfl (.bool false) fun _ h => run_mvZ (.tmp 11) rfl (.bool false) rfl) HS_ ?_
  simp only [Act.put, aS, aC, aZ]
  refine tH 8 13 rfl rfl (gRun (by kernel_rfl) (.pointer (some ⟨q, 0 + 2, none⟩)) fun _ h => run_fieldOp' f30_2 (.tmp 3) rfl q (0) rfl) HS_ ?_
  refine tH 9 14 rfl rfl (gRun (by kernel_rfl) (.int .i64 ln) fun _ h => run_load1 o3 (.tmp 13) rfl q (0 + 2) rfl (.int .i64 ln) (h.1.at 2 _ rfl)) HS_ ?_
  refine tH 10 15 rfl rfl (gRun (by kernel_rfl) (.bool false) fun _ h => run_lssZ (.tmp 14) (.const (.int .i64 1)) rfl ln 1 rfl rfl false (decide_eq_false c15)) HS_ ?_
  refine tH 11 16 rfl rfl (gRun rfl (.bool false) fun _ h => run_pickZ (.tmp 12) (.const (.bool true)) (.tmp 15) rfl false (.bool false) rfl rfl) HS_ ?_
  simp only [Act.put, aS, aC, aZ]
  refine tH 12 17 rfl rfl (gRun rfl (.bool false) fun _ h => run_mvZ (.tmp 16) rfl (.bool false) rfl) HS_ ?_
  refine tH 13 18 rfl rfl (gRun (by kernel_rfl) (.pointer (some ⟨q, 0 + 2, none⟩)) fun _ h => run_fieldOp' f30_2 (.tmp 3) rfl q (0) rfl) HS_ ?_
  refine tH 14 19 rfl rfl (gRun (by kernel_rfl) (.int .i64 ln) fun _ h => run_load1 o3 (.tmp 18) rfl q (0 + 2) rfl (.int .i64 ln) (h.1.at 2 _ rfl)) HS_ ?_
  refine tH 15 20 rfl rfl (gRun (by kernel_rfl) (.bool false) fun _ h => run_gtrZ (.tmp 19) (.const (.int .i64 16)) rfl ln 16 rfl rfl false (decide_eq_false c20)) HS_ ?_
  simp only [Act.put, aS, aC, aZ]
  refine tH 16 21 rfl rfl (gRun rfl (.bool false) fun _ h => run_pickZ (.tmp 17) (.const (.bool true)) (.tmp 20) rfl false (.bool false) rfl rfl) HS_ ?_
  refine tH 17 22 rfl rfl (gRun rfl (.bool false) fun _ h => run_mvZ (.tmp 21) rfl (.bool false) rfl) HS_ ?_
  refine tH 18 23 rfl rfl (gRun (by kernel_rfl) (.pointer (some ⟨q, 0 + 1, none⟩)) fun _ h => run_fieldOp' f30_1 (.tmp 3) rfl q (0) rfl) HS_ ?_
  refine tH 19 24 rfl rfl (gRun (by kernel_rfl) (.int .i64 at_) fun _ h => run_load1 o3 (.tmp 23) rfl q (0 + 1) rfl (.int .i64 at_) (h.1.at 1 _ rfl)) HS_ ?_
  simp only [Act.put, aS, aC, aZ]
  refine tH 20 25 rfl rfl (gRun (by kernel_rfl) (.bool false) fun _ h => run_lssZ (.tmp 24) (.const (.int .i64 0)) rfl at_ 0 rfl rfl false (decide_eq_false c25)) HS_ ?_
  refine tH 21 26 rfl rfl (gRun rfl (.bool false) fun _ h => run_pickZ (.tmp 22) (.const (.bool true)) (.tmp 25) rfl false (.bool false) rfl rfl) HS_ ?_
  refine tH 22 27 rfl rfl (gRun rfl (.bool false) fun _ h => run_mvZ (.tmp 26) rfl (.bool false) rfl) HS_ ?_
  refine tH 23 28 rfl rfl (gRun (by kernel_rfl) (.pointer (some ⟨q, 0 + 1, none⟩)) fun _ h => run_fieldOp' f30_1 (.tmp 3) rfl q (0) rfl) HS_ ?_
  simp only [Act.put, aS, aC, aZ]
  refine tH 24 29 rfl rfl (gRun (by kernel_rfl) (.int .i64 at_) fun _ h => run_load1 o3 (.tmp 28) rfl q (0 + 1) rfl (.int .i64 at_) (h.1.at 1 _ rfl)) HS_ ?_
  refine tH 25 30 rfl rfl (gRun (by kernel_rfl) (ptr gr) fun _ h => run_mvZ (.tmp 0) rfl (ptr gr) rfl) HS_ ?_
  refine tH 26 31 rfl rfl (gRun (by kernel_rfl) (ptr gr) fun _ h => run_nil (.tmp 30) rfl ⟨gr, 0, none⟩ rfl) HS_ ?_
  refine tH 27 32 rfl rfl (gRun (by kernel_rfl) (.pointer (some ⟨gr, 0 + 1, none⟩)) fun _ h => run_fieldOp' f60_1 (.tmp 31) rfl gr (0) rfl) HS_ ?_
  simp only [Act.put, aS, aC, aZ]
  refine tH 28 33 rfl rfl (gRun (by kernel_rfl) (.int .i64 (n : Nat)) fun _ h => run_load1 o3 (.tmp 32) rfl gr (0 + 1) rfl (.int .i64 (n : Nat)) (h.2.at 1 _ rfl)) HS_ ?_
  refine tH 29 34 rfl rfl (gRun (by kernel_rfl) (.int .i64 ((n / 16 : Nat) : Int)) fun _ h => run_quo16 (.tmp 33) rfl n (by omega) rfl) HS_ ?_
  refine tH 30 35 rfl rfl (gRun (by kernel_rfl) (.int .i64 ((n / 16 * 16 : Nat) : Int)) fun _ h => run_mulZ (.tmp 34) (.const (.int .i64 16)) rfl ((n / 16 : Nat) : Int) 16 _ rfl rfl (by omega) (by omega) (by omega)) HS_ ?_
  refine tH 31 36 rfl rfl (gRun (by kernel_rfl) (.bool true) fun _ h => run_geqZ (.tmp 29) (.tmp 35) rfl at_ ((n / 16 * 16 : Nat) : Int) rfl rfl true (decide_eq_true c36)) HS_ ?_
  simp only [Act.put, aS, aC, aZ]
  refine tH 32 37 rfl rfl (gRun rfl (.bool true) fun _ h => run_pickZ (.tmp 27) (.const (.bool true)) (.tmp 36) rfl false (.bool true) rfl rfl) HS_ ?_
  simp only [Act.put, aS, aC, aZ]
  refine wpAnyH_done (by kernel_rfl) ?_ _
  go_upto_region 2 with fail
  refine wp_region_lit ?_
  refine wl rfl (.bool false) _ (run_asZ (.const (.bool false)) rfl (.bool false) rfl) ?_
  simp only [Act.put, aS, aC, aZ]
  refine wpList_nil ?_
  go_wp2_with fail
  rw [HPQ.out]
  exact ⟨by unfold isPl; rw [decide_eq_false (fun k => absurd k.2.2.2.2.1 (by omega))] <;> rfl, HA.out.2.2.trans (HBX.out.mono HA.out.2.2.size)⟩
 go_upto_region 1 with fail
 refine wp_region_held (S := fun X => Row X q 30 (plC dv at_ ln bd) ∧ Row X gr 60 [.int .i64 (d : Nat), .int .i64 (n : Nat), vu, vb]) (by kernel_rfl) ?_
 show wpAnyH _ _ _ _ _ 33 (Array.replicate 33 false) _ _
 obtain ⟨X, hX⟩ : ∃ X : World, X = { w1 with drawn := w1.drawn + 1 } := ⟨_, rfl⟩
 rw [← hX]
 have HBX : Hid (Below w1.heap.size w1 X) := (by rw [hX]; exact ⟨rfl, rfl, rfl, Nat.le_refl _, fun _ _ => rfl⟩)
 have HS_ : Row X q 30 (plC dv at_ ln bd) ∧ Row X gr 60 [.int .i64 (d : Nat), .int .i64 (n : Nat), vu, vb] := ⟨HA.out.1.later HBX.out HA.out.1.lt, HA.out.2.1.later HBX.out HA.out.2.1.lt⟩
 have HAX : Hid (Row X q 30 (plC dv at_ ln bd) ∧ Row X gr 60 [.int .i64 (d : Nat), .int .i64 (n : Nat), vu, vb]) := HS_
 clear hX
 refine tH 0 5 rfl rfl (gRun rfl (.pointer (some ⟨q, 0 + 0, none⟩)) fun _ h => run_fieldOp' f30_0 (.tmp 3) rfl q (0) rfl) HS_ ?_
 refine tH 1 6 rfl rfl (gRun rfl (.int .i64 dv) fun _ h => run_load1 o3 (.tmp 5) rfl q (0 + 0) rfl (.int .i64 dv) (h.1.at 0 _ rfl)) HS_ ?_
 refine tH 2 7 rfl rfl (gRun rfl (ptr gr) fun _ h => run_mvZ (.tmp 0) rfl (ptr gr) rfl) HS_ ?_
 refine tH 3 8 rfl rfl (gRun rfl (ptr gr) fun _ h => run_nil (.tmp 7) rfl ⟨gr, 0, none⟩ rfl) HS_ ?_
 simp only [Act.put, aS, aC, aZ]
 refine tH 4 9 rfl rfl (gRun rfl (.pointer (some ⟨gr, 0 + 0, none⟩)) fun _ h => run_fieldOp' f60_0 (.tmp 8) rfl gr (0) rfl) HS_ ?_
 refine tH 5 10 rfl rfl (gRun rfl (.int .i64 (d : Nat)) fun _ h => run_load1 o3 (.tmp 9) rfl gr (0 + 0) rfl (.int .i64 (d : Nat)) (h.2.at 0 _ rfl)) HS_ ?_
 refine tH 6 11 rfl rfl (gRun rfl (.bool false) fun _ h => run_neZ (.tmp 6) (.tmp 10) rfl dv (d : Nat) rfl rfl false (by rw [decide_eq_true c11]; rfl)) HS_ ?_
 refine tH 7 12 rfl rfl (gRun rfl (.bool false) fun _ h => run_mvZ (.tmp 11) rfl (.bool false) rfl) HS_ ?_
 simp only [Act.put, aS, aC, aZ]
 refine tH 8 13 rfl rfl (gRun (by kernel_rfl) (.pointer (some ⟨q, 0 + 2, none⟩)) fun _ h => run_fieldOp' f30_2 (.tmp 3) rfl q (0) rfl) HS_ ?_
 refine tH 9 14 rfl rfl (gRun (by kernel_rfl) (.int .i64 ln) fun _ h => run_load1 o3 (.tmp 13) rfl q (0 + 2) rfl (.int .i64 ln) (h.1.at 2 _ rfl)) HS_ ?_
 refine tH 10 15 rfl rfl (gRun (by kernel_rfl) (.bool false) fun _ h => run_lssZ (.tmp 14) (.const (.int .i64 1)) rfl ln 1 rfl rfl false (decide_eq_false c15)) HS_ ?_
 refine tH 11 16 rfl rfl (gRun rfl (.bool false) fun _ h => run_pickZ (.tmp 12) (.const (.bool true)) (.tmp 15) rfl false (.bool false) rfl rfl) HS_ ?_
 simp only [Act.put, aS, aC, aZ]
 refine tH 12 17 rfl rfl (gRun rfl (.bool false) fun _ h => run_mvZ (.tmp 16) rfl (.bool false) rfl) HS_ ?_
 refine tH 13 18 rfl rfl (gRun (by kernel_rfl) (.pointer (some ⟨q, 0 + 2, none⟩)) fun _ h => run_fieldOp' f30_2 (.tmp 3) rfl q (0) rfl) HS_ ?_
 refine tH 14 19 rfl rfl (gRun (by kernel_rfl) (.int .i64 ln) fun _ h => run_load1 o3 (.tmp 18) rfl q (0 + 2) rfl (.int .i64 ln) (h.1.at 2 _ rfl)) HS_ ?_
 refine tH 15 20 rfl rfl (gRun (by kernel_rfl) (.bool false) fun _ h => run_gtrZ (.tmp 19) (.const (.int .i64 16)) rfl ln 16 rfl rfl false (decide_eq_false c20)) HS_ ?_
 simp only [Act.put, aS, aC, aZ]
 refine tH 16 21 rfl rfl (gRun rfl (.bool false) fun _ h => run_pickZ (.tmp 17) (.const (.bool true)) (.tmp 20) rfl false (.bool false) rfl rfl) HS_ ?_
 refine tH 17 22 rfl rfl (gRun rfl (.bool false) fun _ h => run_mvZ (.tmp 21) rfl (.bool false) rfl) HS_ ?_
 refine tH 18 23 rfl rfl (gRun (by kernel_rfl) (.pointer (some ⟨q, 0 + 1, none⟩)) fun _ h => run_fieldOp' f30_1 (.tmp 3) rfl q (0) rfl) HS_ ?_
 refine tH 19 24 rfl rfl (gRun (by kernel_rfl) (.int .i64 at_) fun _ h => run_load1 o3 (.tmp 23) rfl q (0 + 1) rfl (.int .i64 at_) (h.1.at 1 _ rfl)) HS_ ?_
 simp only [Act.put, aS, aC, aZ]
 refine tH 20 25 rfl rfl (gRun (by kernel_rfl) (.bool false) fun _ h => run_lssZ (.tmp 24) (.const (.int .i64 0)) rfl at_ 0 rfl rfl false (decide_eq_false c25)) HS_ ?_
 refine tH 21 26 rfl rfl (gRun rfl (.bool false) fun _ h => run_pickZ (.tmp 22) (.const (.bool true)) (.tmp 25) rfl false (.bool false) rfl rfl) HS_ ?_
 refine tH 22 27 rfl rfl (gRun rfl (.bool false) fun _ h => run_mvZ (.tmp 26) rfl (.bool false) rfl) HS_ ?_
 refine tH 23 28 rfl rfl (gRun (by kernel_rfl) (.pointer (some ⟨q, 0 + 1, none⟩)) fun _ h => run_fieldOp' f30_1 (.tmp 3) rfl q (0) rfl) HS_ ?_
 simp only [Act.put, aS, aC, aZ]
 refine tH 24 29 rfl rfl (gRun (by kernel_rfl) (.int .i64 at_) fun _ h => run_load1 o3 (.tmp 28) rfl q (0 + 1) rfl (.int .i64 at_) (h.1.at 1 _ rfl)) HS_ ?_
 refine tH 25 30 rfl rfl (gRun (by kernel_rfl) (ptr gr) fun _ h => run_mvZ (.tmp 0) rfl (ptr gr) rfl) HS_ ?_
 refine tH 26 31 rfl rfl (gRun (by kernel_rfl) (ptr gr) fun _ h => run_nil (.tmp 30) rfl ⟨gr, 0, none⟩ rfl) HS_ ?_
 refine tH 27 32 rfl rfl (gRun (by kernel_rfl) (.pointer (some ⟨gr, 0 + 1, none⟩)) fun _ h => run_fieldOp' f60_1 (.tmp 31) rfl gr (0) rfl) HS_ ?_
 simp only [Act.put, aS, aC, aZ]
 refine tH 28 33 rfl rfl (gRun (by kernel_rfl) (.int .i64 (n : Nat)) fun _ h => run_load1 o3 (.tmp 32) rfl gr (0 + 1) rfl (.int .i64 (n : Nat)) (h.2.at 1 _ rfl)) HS_ ?_
 refine tH 29 34 rfl rfl (gRun (by kernel_rfl) (.int .i64 ((n / 16 : Nat) : Int)) fun _ h => run_quo16 (.tmp 33) rfl n (by omega) rfl) HS_ ?_
 refine tH 30 35 rfl rfl (gRun (by kernel_rfl) (.int .i64 ((n / 16 * 16 : Nat) : Int)) fun _ h => run_mulZ (.tmp 34) (.const (.int .i64 16)) rfl ((n / 16 : Nat) : Int) 16 _ rfl rfl (by omega) (by omega) (by omega)) HS_ ?_
 refine tH 31 36 rfl rfl (gRun (by kernel_rfl) (.bool false) fun _ h => run_geqZ (.tmp 29) (.tmp 35) rfl at_ ((n / 16 * 16 : Nat) : Int) rfl rfl false (decide_eq_false c36)) HS_ ?_
 simp only [Act.put, aS, aC, aZ]
 refine tH 32 37 rfl rfl (gRun rfl (.bool false) fun _ h => run_pickZ (.tmp 27) (.const (.bool true)) (.tmp 36) rfl false (.bool false) rfl rfl) HS_ ?_
 simp only [Act.put, aS, aC, aZ]
 refine wpAnyH_done (by kernel_rfl) ?_ _
 obtain ⟨A, rfl⟩ : ∃ A : Nat, at_ = (A : Nat) := ⟨at_.toNat, by omega⟩
 by_cases c44 : ((A % 16 : Nat) : Int) + ln ≤ 16
 case neg =>
  go_upto_region 3 with fail
  refine wp_region_lit ?_
  refine wl rfl (.pointer (some ⟨q, 0 + 1, none⟩)) _ (run_fieldOp' f30_1 (.tmp 3) rfl q (0) rfl) ?_
  refine wl rfl (.int .i64 (A : Nat)) _ (run_load1 o3 (.tmp 38) rfl q (0 + 1) rfl (.int .i64 (A : Nat)) (HAX.out.1.at 1 _ rfl)) ?_
  refine wl rfl (.int .i64 ((A % 16 : Nat) : Int)) _ (run_rem16 (.tmp 39) rfl A rfl) ?_
  refine wl rfl (.pointer (some ⟨q, 0 + 2, none⟩)) _ (run_fieldOp' f30_2 (.tmp 3) rfl q (0) rfl) ?_
  simp only [Act.put, aS, aC, aZ]
  refine wl rfl (.int .i64 ln) _ (run_load1 o3 (.tmp 41) rfl q (0 + 2) rfl (.int .i64 ln) (HAX.out.1.at 2 _ rfl)) ?_
  refine wl rfl (.int .i64 (((A % 16 : Nat) : Int) + ln)) _ (run_addZ (.tmp 40) (.tmp 42) rfl ((A % 16 : Nat) : Int) ln _ rfl rfl rfl (by omega) (by omega)) ?_
  refine wl rfl (.bool false) _ (run_leqZ (.tmp 43) (.const (.int .i64 16)) rfl (((A % 16 : Nat) : Int) + ln) 16 rfl rfl false (decide_eq_false c44)) ?_
  refine wl rfl (.bool false) _ (run_asZ (.tmp 44) rfl (.bool false) rfl) ?_
  simp only [Act.put, aS, aC, aZ]
  refine wpList_nil ?_
  go_wp2_with fail
  rw [HPQ.out]
  exact ⟨by unfold isPl; rw [decide_eq_false (by omega)] <;> rfl, HA.out.2.2.trans (HBX.out.mono HA.out.2.2.size)⟩
 case pos =>
  go_upto_region 3 with fail
  refine wp_region_lit ?_
  refine wl rfl (.pointer (some ⟨q, 0 + 1, none⟩)) _ (run_fieldOp' f30_1 (.tmp 3) rfl q (0) rfl) ?_
  refine wl rfl (.int .i64 (A : Nat)) _ (run_load1 o3 (.tmp 38) rfl q (0 + 1) rfl (.int .i64 (A : Nat)) (HAX.out.1.at 1 _ rfl)) ?_
  refine wl rfl (.int .i64 ((A % 16 : Nat) : Int)) _ (run_rem16 (.tmp 39) rfl A rfl) ?_
  refine wl rfl (.pointer (some ⟨q, 0 + 2, none⟩)) _ (run_fieldOp' f30_2 (.tmp 3) rfl q (0) rfl) ?_
  simp only [Act.put, aS, aC, aZ]
  refine wl rfl (.int .i64 ln) _ (run_load1 o3 (.tmp 41) rfl q (0 + 2) rfl (.int .i64 ln) (HAX.out.1.at 2 _ rfl)) ?_
  refine wl rfl (.int .i64 (((A % 16 : Nat) : Int) + ln)) _ (run_addZ (.tmp 40) (.tmp 42) rfl ((A % 16 : Nat) : Int) ln _ rfl rfl rfl (by omega) (by omega)) ?_
  refine wl rfl (.bool true) _ (run_leqZ (.tmp 43) (.const (.int .i64 16)) rfl (((A % 16 : Nat) : Int) + ln) 16 rfl rfl true (decide_eq_true c44)) ?_
  refine wl rfl (.bool true) _ (run_asZ (.tmp 44) rfl (.bool true) rfl) ?_
  simp only [Act.put, aS, aC, aZ]
  refine wpList_nil ?_
  go_wp2_with fail
  rw [HPQ.out]
  exact ⟨by unfold isPl; rw [decide_eq_true (by omega)] <;> rfl, HA.out.2.2.trans (HBX.out.mono HA.out.2.2.size)⟩
set_option maxHeartbeats 4000000 in
set_option maxRecDepth 100000 in
theorem meet_any (w : World) (d1 d2 : Int) (a k b l : Nat) (b1 b2 : Bool) (h : a ≤ 1000000000 ∧ k ≤ 1000000000 ∧ b ≤ 1000000000 ∧ l ≤ 1000000000) : Calls Tryd.prog 39 #[.agg (plC d1 (a : Nat) (k : Nat) b1).toArray, .agg (plC d2 (b : Nat) (l : Nat) b2).toArray] w fun e w' => e = .returned (.bool (decide (a < b + l ∧ b < a + k))) ∧ Below w.heap.size w w' := by
 obtain ⟨PQ, HPQ⟩ := exPQ fun (e : Ending) (w' : World) => e = .returned (.bool (decide (a < b + l ∧ b < a + k))) ∧ Below w.heap.size w w'
 rw [← HPQ.out]
 go_enter Tryd.func39, Tryd.ntmps39
 go_upto_region 0 with fail
 refine wp_region_lit ?_
 refine wl rfl (ptr w.heap.size) _ (run_boxA (.tmp 0) rfl (plC d1 (a : Nat) (k : Nat) b1) rfl) ?_
 have hb_ := below_alloc w (.cells (plC d1 (a : Nat) (k : Nat) b1).toArray 30)
 have r_ := Row.new w 30 (plC d1 (a : Nat) (k : Nat) b1)
 obtain ⟨w1, hW_⟩ : ∃ U_ : World, U_ = w.alloc (.cells (plC d1 (a : Nat) (k : Nat) b1).toArray 30) := ⟨_, rfl⟩
 obtain ⟨q1, hq_⟩ : ∃ q, q = w.heap.size := ⟨_, rfl⟩
 rw [← hW_] at hb_
 rw [← hW_, ← hq_] at r_
 rw [← hW_, ← hq_]
 have H1 : Hid (Row w1 q1 30 (plC d1 (a : Nat) (k : Nat) b1) ∧ Below w.heap.size w w1) := ⟨r_, hb_⟩
 clear r_ hb_ hW_ hq_
 simp only [Act.put, aS, aC, aZ]
 refine wl rfl (ptr w1.heap.size) _ (run_boxA (.tmp 1) rfl (plC d2 (b : Nat) (l : Nat) b2) rfl) ?_
 have hb_ := below_alloc w1 (.cells (plC d2 (b : Nat) (l : Nat) b2).toArray 30)
 have r_ := Row.new w1 30 (plC d2 (b : Nat) (l : Nat) b2)
 obtain ⟨w2, hW_⟩ : ∃ U_ : World, U_ = w1.alloc (.cells (plC d2 (b : Nat) (l : Nat) b2).toArray 30) := ⟨_, rfl⟩
 obtain ⟨q2, hq_⟩ : ∃ q, q = w1.heap.size := ⟨_, rfl⟩
 rw [← hW_] at hb_
 rw [← hW_, ← hq_] at r_
 rw [← hW_, ← hq_]
 have H2 : Hid (Row w2 q1 30 (plC d1 (a : Nat) (k : Nat) b1) ∧ Row w2 q2 30 (plC d2 (b : Nat) (l : Nat) b2) ∧ Below w.heap.size w w2) := ⟨H1.out.1.later hb_ H1.out.1.lt, r_, H1.out.2.trans (hb_.mono H1.out.2.size)⟩
 clear r_ hb_ hW_ hq_
 simp only [Act.put, aS, aC, aZ]
 refine wl rfl (.bool false) _ (run_asZ (.const (.bool false)) rfl (.bool false) rfl) ?_
 simp only [Act.put, aS, aC, aZ]
 refine wpList_nil ?_
 by_cases c1 : a < b + l
 case neg =>
  go_upto_region 1 with fail
  refine wp_region_lit ?_
  refine wl rfl (.pointer (some ⟨q1, 0 + 1, none⟩)) _ (run_fieldOp' f30_1 (.tmp 2) rfl q1 (0) rfl) ?_
  refine wl rfl (.int .i64 (a : Nat)) _ (run_load1 o3 (.tmp 5) rfl q1 (0 + 1) rfl (.int .i64 (a : Nat)) (H2.out.1.at 1 _ rfl)) ?_
  refine wl rfl (.pointer (some ⟨q2, 0 + 1, none⟩)) _ (run_fieldOp' f30_1 (.tmp 3) rfl q2 (0) rfl) ?_
  refine wl rfl (.int .i64 (b : Nat)) _ (run_load1 o3 (.tmp 7) rfl q2 (0 + 1) rfl (.int .i64 (b : Nat)) (H2.out.2.1.at 1 _ rfl)) ?_
  simp only [Act.put, aS, aC, aZ]
  refine wl rfl (.pointer (some ⟨q2, 0 + 2, none⟩)) _ (run_fieldOp' f30_2 (.tmp 3) rfl q2 (0) rfl) ?_
  refine wl rfl (.int .i64 (l : Nat)) _ (run_load1 o3 (.tmp 9) rfl q2 (0 + 2) rfl (.int .i64 (l : Nat)) (H2.out.2.1.at 2 _ rfl)) ?_
  refine wl rfl (.int .i64 ((b + l : Nat) : Int)) _ (run_addZ (.tmp 8) (.tmp 10) rfl (b : Nat) (l : Nat) _ rfl rfl (by omega) (by omega) (by omega)) ?_
  refine wl rfl (.bool false) _ (run_lssZ (.tmp 6) (.tmp 11) rfl (a : Nat) ((b + l : Nat) : Int) rfl rfl false (decide_eq_false (by omega))) ?_
  simp only [Act.put, aS, aC, aZ]
  refine wl rfl (.bool false) _ (run_mvZ (.tmp 12) rfl (.bool false) rfl) ?_
  simp only [Act.put, aS, aC, aZ]
  refine wpList_skip (by kernel_rfl) ?_
  simp only [Act.put, aS, aC, aZ]
  refine wpList_skip (by kernel_rfl) ?_
  simp only [Act.put, aS, aC, aZ]
  refine wpList_skip (by kernel_rfl) ?_
  simp only [Act.put, aS, aC, aZ]
  refine wpList_skip (by kernel_rfl) ?_
  simp only [Act.put, aS, aC, aZ]
  refine wpList_skip (by kernel_rfl) ?_
  simp only [Act.put, aS, aC, aZ]
  refine wpList_skip (by kernel_rfl) ?_
  simp only [Act.put, aS, aC, aZ]
  refine wpList_skip (by kernel_rfl) ?_
  simp only [Act.put, aS, aC, aZ]
  refine wpList_skip (by kernel_rfl) ?_
  simp only [Act.put, aS, aC, aZ]
  refine wl rfl (.bool false) _ (run_pickZ (.tmp 13) (.tmp 21) (.const (.bool false)) rfl false (.bool false) rfl rfl) ?_
  refine wl rfl (.bool false) _ (run_asZ (.tmp 22) rfl (.bool false) rfl) ?_
  simp only [Act.put, aS, aC, aZ]
  refine wpList_nil ?_
  go_wp2_with fail
  rw [HPQ.out]
  exact ⟨by rw [decide_eq_false (by omega)] <;> rfl, H2.out.2.2⟩
 by_cases c2 : b < a + k
 case neg =>
  go_upto_region 1 with fail
  refine wp_region_lit ?_
  refine wl rfl (.pointer (some ⟨q1, 0 + 1, none⟩)) _ (run_fieldOp' f30_1 (.tmp 2) rfl q1 (0) rfl) ?_
  refine wl rfl (.int .i64 (a : Nat)) _ (run_load1 o3 (.tmp 5) rfl q1 (0 + 1) rfl (.int .i64 (a : Nat)) (H2.out.1.at 1 _ rfl)) ?_
  refine wl rfl (.pointer (some ⟨q2, 0 + 1, none⟩)) _ (run_fieldOp' f30_1 (.tmp 3) rfl q2 (0) rfl) ?_
  refine wl rfl (.int .i64 (b : Nat)) _ (run_load1 o3 (.tmp 7) rfl q2 (0 + 1) rfl (.int .i64 (b : Nat)) (H2.out.2.1.at 1 _ rfl)) ?_
  simp only [Act.put, aS, aC, aZ]
  refine wl rfl (.pointer (some ⟨q2, 0 + 2, none⟩)) _ (run_fieldOp' f30_2 (.tmp 3) rfl q2 (0) rfl) ?_
  refine wl rfl (.int .i64 (l : Nat)) _ (run_load1 o3 (.tmp 9) rfl q2 (0 + 2) rfl (.int .i64 (l : Nat)) (H2.out.2.1.at 2 _ rfl)) ?_
  refine wl rfl (.int .i64 ((b + l : Nat) : Int)) _ (run_addZ (.tmp 8) (.tmp 10) rfl (b : Nat) (l : Nat) _ rfl rfl (by omega) (by omega) (by omega)) ?_
  refine wl rfl (.bool true) _ (run_lssZ (.tmp 6) (.tmp 11) rfl (a : Nat) ((b + l : Nat) : Int) rfl rfl true (decide_eq_true (by omega))) ?_
  simp only [Act.put, aS, aC, aZ]
  refine wl rfl (.bool true) _ (run_mvZ (.tmp 12) rfl (.bool true) rfl) ?_
  refine wl (by kernel_rfl) (.pointer (some ⟨q2, 0 + 1, none⟩)) _ (run_fieldOp' f30_1 (.tmp 3) rfl q2 (0) rfl) ?_
  refine wl (by kernel_rfl) (.int .i64 (b : Nat)) _ (run_load1 o3 (.tmp 14) rfl q2 (0 + 1) rfl (.int .i64 (b : Nat)) (H2.out.2.1.at 1 _ rfl)) ?_
  refine wl (by kernel_rfl) (.pointer (some ⟨q1, 0 + 1, none⟩)) _ (run_fieldOp' f30_1 (.tmp 2) rfl q1 (0) rfl) ?_
  simp only [Act.put, aS, aC, aZ]
  refine wl (by kernel_rfl) (.int .i64 (a : Nat)) _ (run_load1 o3 (.tmp 16) rfl q1 (0 + 1) rfl (.int .i64 (a : Nat)) (H2.out.1.at 1 _ rfl)) ?_
  refine wl (by kernel_rfl) (.pointer (some ⟨q1, 0 + 2, none⟩)) _ (run_fieldOp' f30_2 (.tmp 2) rfl q1 (0) rfl) ?_
  refine wl (by kernel_rfl) (.int .i64 (k : Nat)) _ (run_load1 o3 (.tmp 18) rfl q1 (0 + 2) rfl (.int .i64 (k : Nat)) (H2.out.1.at 2 _ rfl)) ?_
  refine wl (by kernel_rfl) (.int .i64 ((a + k : Nat) : Int)) _ (run_addZ (.tmp 17) (.tmp 19) rfl (a : Nat) (k : Nat) _ rfl rfl (by omega) (by omega) (by omega)) ?_
  simp only [Act.put, aS, aC, aZ]
  refine wl (by kernel_rfl) (.bool false) _ (run_lssZ (.tmp 15) (.tmp 20) rfl (b : Nat) ((a + k : Nat) : Int) rfl rfl false (decide_eq_false (by omega))) ?_
  refine wl rfl (.bool false) _ (run_pickZ (.tmp 13) (.tmp 21) (.const (.bool false)) rfl true (.bool false) rfl rfl) ?_
  refine wl rfl (.bool false) _ (run_asZ (.tmp 22) rfl (.bool false) rfl) ?_
  simp only [Act.put, aS, aC, aZ]
  refine wpList_nil ?_
  go_wp2_with fail
  rw [HPQ.out]
  exact ⟨by rw [decide_eq_false (by omega)] <;> rfl, H2.out.2.2⟩
 go_upto_region 1 with fail
 refine wp_region_lit ?_
 refine wl rfl (.pointer (some ⟨q1, 0 + 1, none⟩)) _ (run_fieldOp' f30_1 (.tmp 2) rfl q1 (0) rfl) ?_
 refine wl rfl (.int .i64 (a : Nat)) _ (run_load1 o3 (.tmp 5) rfl q1 (0 + 1) rfl (.int .i64 (a : Nat)) (H2.out.1.at 1 _ rfl)) ?_
 refine wl rfl (.pointer (some ⟨q2, 0 + 1, none⟩)) _ (run_fieldOp' f30_1 (.tmp 3) rfl q2 (0) rfl) ?_
 refine wl rfl (.int .i64 (b : Nat)) _ (run_load1 o3 (.tmp 7) rfl q2 (0 + 1) rfl (.int .i64 (b : Nat)) (H2.out.2.1.at 1 _ rfl)) ?_
 simp only [Act.put, aS, aC, aZ]
 refine wl rfl (.pointer (some ⟨q2, 0 + 2, none⟩)) _ (run_fieldOp' f30_2 (.tmp 3) rfl q2 (0) rfl) ?_
 refine wl rfl (.int .i64 (l : Nat)) _ (run_load1 o3 (.tmp 9) rfl q2 (0 + 2) rfl (.int .i64 (l : Nat)) (H2.out.2.1.at 2 _ rfl)) ?_
 refine wl rfl (.int .i64 ((b + l : Nat) : Int)) _ (run_addZ (.tmp 8) (.tmp 10) rfl (b : Nat) (l : Nat) _ rfl rfl (by omega) (by omega) (by omega)) ?_
 refine wl rfl (.bool true) _ (run_lssZ (.tmp 6) (.tmp 11) rfl (a : Nat) ((b + l : Nat) : Int) rfl rfl true (decide_eq_true (by omega))) ?_
 simp only [Act.put, aS, aC, aZ]
 refine wl rfl (.bool true) _ (run_mvZ (.tmp 12) rfl (.bool true) rfl) ?_
 refine wl (by kernel_rfl) (.pointer (some ⟨q2, 0 + 1, none⟩)) _ (run_fieldOp' f30_1 (.tmp 3) rfl q2 (0) rfl) ?_
 refine wl (by kernel_rfl) (.int .i64 (b : Nat)) _ (run_load1 o3 (.tmp 14) rfl q2 (0 + 1) rfl (.int .i64 (b : Nat)) (H2.out.2.1.at 1 _ rfl)) ?_
 refine wl (by kernel_rfl) (.pointer (some ⟨q1, 0 + 1, none⟩)) _ (run_fieldOp' f30_1 (.tmp 2) rfl q1 (0) rfl) ?_
 simp only [Act.put, aS, aC, aZ]
 refine wl (by kernel_rfl) (.int .i64 (a : Nat)) _ (run_load1 o3 (.tmp 16) rfl q1 (0 + 1) rfl (.int .i64 (a : Nat)) (H2.out.1.at 1 _ rfl)) ?_
 refine wl (by kernel_rfl) (.pointer (some ⟨q1, 0 + 2, none⟩)) _ (run_fieldOp' f30_2 (.tmp 2) rfl q1 (0) rfl) ?_
 refine wl (by kernel_rfl) (.int .i64 (k : Nat)) _ (run_load1 o3 (.tmp 18) rfl q1 (0 + 2) rfl (.int .i64 (k : Nat)) (H2.out.1.at 2 _ rfl)) ?_
 refine wl (by kernel_rfl) (.int .i64 ((a + k : Nat) : Int)) _ (run_addZ (.tmp 17) (.tmp 19) rfl (a : Nat) (k : Nat) _ rfl rfl (by omega) (by omega) (by omega)) ?_
 simp only [Act.put, aS, aC, aZ]
 refine wl (by kernel_rfl) (.bool true) _ (run_lssZ (.tmp 15) (.tmp 20) rfl (b : Nat) ((a + k : Nat) : Int) rfl rfl true (decide_eq_true (by omega))) ?_
 refine wl rfl (.bool true) _ (run_pickZ (.tmp 13) (.tmp 21) (.const (.bool false)) rfl true (.bool true) rfl rfl) ?_
 refine wl rfl (.bool true) _ (run_asZ (.tmp 22) rfl (.bool true) rfl) ?_
 simp only [Act.put, aS, aC, aZ]
 refine wpList_nil ?_
 go_wp2_with fail
 rw [HPQ.out]
 exact ⟨by rw [decide_eq_true (by omega)] <;> rfl, H2.out.2.2⟩

end Go.Proofs.YthgidfoidbgnaaaDoor

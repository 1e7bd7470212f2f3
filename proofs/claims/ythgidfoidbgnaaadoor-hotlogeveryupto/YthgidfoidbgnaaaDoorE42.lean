/- Layer 14: the document's Fit. Layer 14: with which places a disk is opened, plain. -/
import Derived.Test.YthgidfoidbgnaaaDoorE41
namespace Go.Proofs.YthgidfoidbgnaaaDoor
open Go.RowKit Go.Maps


def atOf (W : World) (q : Nat) : Nat := match W.cell? ⟨q, 1, none⟩ with
 | some (.int _ z) => z.toNat
 | _ => 0
theorem atOf_row {W : World} {q : Nat} {d l : Int} {A : Nat} {b : Bool} (h : Row W q 30 (plC d (A : Nat) l b)) : atOf W q = A := by
 unfold atOf
 rw [h.at 1 _ rfl]
 rfl
def pqOf (d : Nat) (u : Nat × Nat) : Pq := ⟨(d : Nat), (u.1 : Nat), (u.2 : Nat), false⟩
theorem pqOf_at (d : Nat) {us : List (Nat × Nat)} {k : Nat} (h : k < us.length) : (us.map (pqOf d)).getD k default = pqOf d (us.getD k default) := by
 simp [List.getD_eq_getElem?_getD, h]
/-- free so far -/
def FreeTo (d n : Nat) (us : List (Nat × Nat)) (A c k : Nat) : Prop := isPl d (n / 16) (d : Nat) (A : Nat) (c : Nat) = true ∧ ∀ j, j < k → ¬ ((us.getD j default).1 < A + c ∧ A < (us.getD j default).1 + (us.getD j default).2)
theorem FreeTo.room {d n : Nat} {us : List (Nat × Nat)} {A c : Nat} (h : FreeTo d n us A c us.length) : Room1 (n / 16) us A c := by
 have h1 := isPl_nat h.1
 rw [Int.toNat_natCast, Int.toNat_natCast] at h1
 refine ⟨h1.2.2.2.2.1, h1.2.2.2.2.2, fun u hu => ?_⟩
 obtain ⟨j, hj, e⟩ := List.getElem_of_mem hu
 have h2 := h.2 j hj
 rw [List.getD_eq_getElem?_getD, List.getElem?_eq_getElem hj, Option.getD_some, e] at h2
 omega
theorem FreeTo.not {d n : Nat} {us : List (Nat × Nat)} {A c k : Nat} (hk : k ≤ us.length) (hc : 1 ≤ c) (h : ¬ FreeTo d n us A c k) : ¬ Room1 (n / 16) us A c := fun hr => by
 refine h ⟨?_, fun j hj => ?_⟩
 ·have h1 := hr.1
  have h2 := hr.2.1
  exact decide_eq_true (by omega)
 ·have hj' : j < us.length := by omega
  have := hr.2.2 (us.getD j default) (by rw [List.getD_eq_getElem?_getD, List.getElem?_eq_getElem hj']; exact List.getElem_mem hj')
  omega
section
variable {w W : World} {a : Act} {o : Oper}
theorem run_build30b (x z : Operand) (ho : o.op = .build 30 #[(0, x), (2, z)]) (d l : Int) (hx : a.eval x = .int .i64 d) (hz : a.eval z = .int .i64 l) : (execOp a.eval o).run Tryd.prog w = .ok (.value (.agg (plC d 0 l false).toArray)) w := by
 have hr : (Instr.build 30 #[(0, .int .i64 d), (2, .int .i64 l)]).run Tryd.prog w = .ok (.agg (plC d 0 l false).toArray) w := by kernel_rfl
 simp only [execOp, ho, List.map_toArray, List.map_cons, List.map_nil, hx, hz, hr, Sem.run_bind, Sem.run_pure, Result.andThen_ok]
end
theorem sz3 : (Tryd.prog.info? 3).map (·.size) = some 1 := by kernel_rfl
set_option maxHeartbeats 4000000 in
set_option maxRecDepth 100000 in
theorem rfit_any {w : World} {gr d n : Nat} {vu vb : Value} {us : List (Nat × Nat)} (h : RfU w gr d n vu vb (us.map (pqOf d))) (hn : n ≤ 4096) (hb : ∀ u ∈ us, u.1 ≤ 1000000 ∧ u.2 ≤ 1000000) (hul : us.length ≤ 1000000000) (ln c : Nat) (hl : ln ≤ 100000000) (hc : c = costN ln) : Calls Tryd.prog 20 #[ptr gr, .int .i64 (ln : Nat)] w fun e w' => Below w.heap.size w w' ∧ ((∃ a, Fits (n / 16) us a c ∧ e = .returned (.tuple #[.agg (plC (d : Nat) (a : Nat) (c : Nat) false).toArray, .bool true])) ∨ ((∀ a, ¬ Room1 (n / 16) us a c) ∧ e = .returned (.tuple #[.agg (plC 0 0 0 false).toArray, .bool false]))) := by
 have hc1 : 1 ≤ c ∧ c ≤ 100000000 := (by rw [hc]; unfold costN; omega)
 have HM : Hid (RfU w gr d n vu vb (us.map (pqOf d)) ∧ (∀ u ∈ us, u.1 ≤ 1000000 ∧ u.2 ≤ 1000000) ∧ c = costN ln ∧ (us.map (pqOf d)).length = us.length) := ⟨h, hb, hc, List.length_map _⟩
 clear h hb hc
 obtain ⟨PQ, HPQ⟩ := exPQ fun (e : Ending) (w' : World) => Below w.heap.size w w' ∧ ((∃ a, Fits (n / 16) us a c ∧ e = .returned (.tuple #[.agg (plC (d : Nat) (a : Nat) (c : Nat) false).toArray, .bool true])) ∨ ((∀ a, ¬ Room1 (n / 16) us a c) ∧ e = .returned (.tuple #[.agg (plC 0 0 0 false).toArray, .bool false])))
 rw [← HPQ.out]
 go_enter Tryd.func20, Tryd.ntmps20
 go_upto_region 0 with fail
 refine wp_region_lit ?_
 refine wl rfl (ptr w.heap.size) _ (run_allocA (plC 0 0 0 false) zero30 rfl) ?_
 have hb_ := below_alloc w (.cells (plC 0 0 0 false).toArray 30)
 have r_ := Row.new w 30 (plC 0 0 0 false)
 obtain ⟨w1, hW_⟩ : ∃ U_ : World, U_ = w.alloc (.cells (plC 0 0 0 false).toArray 30) := ⟨_, rfl⟩
 obtain ⟨q4, hq_⟩ : ∃ q, q = w.heap.size := ⟨_, rfl⟩
 rw [← hW_] at hb_
 rw [← hW_, ← hq_] at r_
 rw [← hW_, ← hq_]
 have H1 : Hid (Row w1 q4 30 (plC 0 0 0 false) ∧ Below w.heap.size w w1 ∧ w.heap.size ≤ q4) := ⟨r_, hb_, by omega⟩
 clear r_ hb_ hW_ hq_
 simp only [Act.put, aS, aC, aZ]
 refine wl rfl (.bool false) _ (run_asZ (.const (.bool false)) rfl (.bool false) rfl) ?_
 simp only [Act.put, aS, aC, aZ]
 refine wpList_nil ?_
 go_upto_region 1 with fail
 refine wp_region_held (S := fun X => Row X q4 30 (plC 0 0 0 false) ∧ Below w.heap.size w X) (by kernel_rfl) ?_
 show wpAnyH _ _ _ _ _ 9 (Array.replicate 9 false) _ _
 obtain ⟨X, hX⟩ : ∃ X : World, X = { w1 with drawn := w1.drawn + 1 } := ⟨_, rfl⟩
 rw [← hX]
 have HS_ : Row X q4 30 (plC 0 0 0 false) ∧ Below w.heap.size w X := (by rw [hX]; exact ⟨H1.out.1, H1.out.2.1.trans ⟨rfl, rfl, rfl, Nat.le_refl _, fun _ _ => rfl⟩⟩)
 clear hX
 refine tH 0 9 rfl rfl (gRun rfl (ptr gr) fun _ h => run_mvZ (.tmp 0) rfl (ptr gr) rfl) HS_ ?_
 refine tH 1 10 rfl rfl (gRun rfl (ptr gr) fun _ h => run_nil (.tmp 9) rfl ⟨gr, 0, none⟩ rfl) HS_ ?_
 refine tH 2 11 rfl rfl (gRun rfl (.pointer (some ⟨gr, 0 + 0, none⟩)) fun _ h => run_fieldOp' f60_0 (.tmp 10) rfl gr (0) rfl) HS_ ?_
 refine tH 3 12 rfl rfl (gRun rfl (.int .i64 (d : Nat)) fun _ h => run_load1 o3 (.tmp 11) rfl gr (0 + 0) rfl (.int .i64 (d : Nat)) ((HM.out.1.bel h.2).1.at 0 _ rfl)) HS_ ?_
 simp only [Act.put, aS, aC, aZ]
 refine tH 4 13 rfl rfl (gRun rfl (.int .i64 (ln : Nat)) fun _ h => run_mvZ (.tmp 1) rfl (.int .i64 (ln : Nat)) rfl) HS_ ?_
 simp only [Act.put, aS, aC, aZ]
 refine twoH (i := 5) (j := 7) (by kernel_rfl) ?_ ?_
 ·refine opCallG (some 14) rfl rfl rfl 22 _ (run_call eN22 [.tmp 13] _ rfl [(.int .i64 (ln : Nat))] rfl) ?_
  refine (rcost_any X ln (by omega)).mono ?_
  rintro e W_ ⟨he_, rfl⟩
  rw [← HM.out.2.2.1] at he_
  subst he_
  refine ⟨_, rfl, ?_⟩
  refine ⟨HS_, ?_⟩
  simp only [Act.put, aS, aC, aZ]
  refine tH 6 15 rfl rfl (gRun rfl (.agg (plC (d : Nat) 0 (c : Nat) false).toArray) fun _ h => run_build30b (.tmp 12) (.tmp 14) rfl (d : Nat) (c : Nat) rfl rfl) HS_ ?_
  simp only [Act.put, aS, aC, aZ]
  refine oneH (i := 7) (by kernel_rfl) ?_
  refine opValueG (some 6) rfl rfl rfl (ptr X.heap.size) _ (run_allocA (plC 0 0 0 false) zero30 rfl) ?_
  have hb_ := below_alloc X (.cells (plC 0 0 0 false).toArray 30)
  have r_ := Row.new X 30 (plC 0 0 0 false)
  obtain ⟨Y1, hW_⟩ : ∃ U_ : World, U_ = X.alloc (.cells (plC 0 0 0 false).toArray 30) := ⟨_, rfl⟩
  obtain ⟨q6, hq_⟩ : ∃ q, q = X.heap.size := ⟨_, rfl⟩
  rw [← hW_] at hb_
  rw [← hW_, ← hq_] at r_
  rw [← hW_, ← hq_]
  have HQ : Hid (Row Y1 q6 30 (plC 0 0 0 false) ∧ w.heap.size ≤ q6 ∧ q4 ≠ q6) := ⟨r_, (by have := HS_.2.size; omega), (by have := HS_.1.lt; omega)⟩
  replace HS_ : Row Y1 q4 30 (plC 0 0 0 false) ∧ Below w.heap.size w Y1 := ⟨HS_.1.later hb_ HS_.1.lt, HS_.2.trans (hb_.mono HS_.2.size)⟩
  clear r_ hb_ hW_ hq_
  refine ⟨HS_, ?_⟩
  simp only [Act.put, aS, aC, aZ]
  refine oneH (i := 8) (by kernel_rfl) ?_
  refine opSkipZ rfl rfl rfl _ (run_storeA ag30 (.tmp 6) (.tmp 15) rfl q6 30 rfl (plC (d : Nat) 0 (c : Nat) false) _ rfl rfl HQ.out.1 rfl (plC_one _ _ _ _)) ?_
  have hb_ := (Ch.setRow (S := (· = q6)) (Ch.refl _ Y1) (Or.inl rfl) (plC (d : Nat) 0 (c : Nat) false).toArray)
  have r_ := HQ.out.1.setRow (plC (d : Nat) 0 (c : Nat) false)
  obtain ⟨Y2, hW_⟩ : ∃ U_ : World, U_ = Y1.setRow q6 (plC (d : Nat) 0 (c : Nat) false).toArray := ⟨_, rfl⟩
  rw [← hW_] at hb_ r_ ⊢
  replace HS_ : Row Y2 q4 30 (plC 0 0 0 false) ∧ Below w.heap.size w Y2 := ⟨hb_.row HQ.out.2.2 HS_.1, HS_.2.trans (hb_.below HS_.2.size fun k hk e => by have := HQ.out.2.1; omega)⟩
  replace HQ : Hid (Row Y2 q6 30 (plC (d : Nat) 0 (c : Nat) false) ∧ w.heap.size ≤ q6 ∧ q4 ≠ q6) := ⟨r_, HQ.out.2⟩
  clear r_ hb_ hW_
  refine ⟨HS_, ?_⟩
  refine wpAnyH_done (by kernel_rfl) ?_ _
  have H2 : Hid ((Row Y2 q6 30 (plC (d : Nat) 0 (c : Nat) false) ∧ Row Y2 q4 30 (plC 0 0 0 false) ∧ Below w.heap.size w Y2) ∧ w.heap.size ≤ q6 ∧ q4 ≠ q6 ∧ w.heap.size ≤ q4) := ⟨⟨HQ.out.1, HS_.1, HS_.2⟩, HQ.out.2.1, HQ.out.2.2, H1.out.2.2⟩
  clear HQ HS_ H1
  go_upto_region 2 with fail
  refine wp_region_lit ?_
  refine wl rfl (.pointer (some ⟨q6, 0 + 1, none⟩)) _ (run_fieldOp' f30_1 (.tmp 6) rfl q6 (0) rfl) ?_
  simp only [Act.put, aS, aC, aZ]
  refine wlS rfl rfl _ (run_putRow (t := 3) sz3 (.tmp 16) (.const (.int .i64 0)) rfl q6 (0 + 1) 30 _ rfl (.int .i64 0) rfl ⟨rfl, rfl⟩ H2.out.1.1 (by decide : 0 + 1 < 4)) ?_
  have hb_ := (Ch.refl (· = q6) Y2).setCell (Or.inl rfl) (0 + 1) (.int .i64 0)
  have r_ := H2.out.1.1.setCell (0 + 1) (.int .i64 0)
  obtain ⟨Y3, hW_⟩ : ∃ U_ : World, U_ = Y2.setCell ⟨q6, 0 + 1, none⟩ (.int .i64 0) := ⟨_, rfl⟩
  rw [← hW_] at hb_ r_ ⊢
  have H3 : Hid ((Row Y3 q6 30 (plC (d : Nat) ((0 : Nat) : Int) (c : Nat) false) ∧ Row Y3 q4 30 (plC 0 0 0 false) ∧ Below w.heap.size w Y3) ∧ w.heap.size ≤ q6 ∧ q4 ≠ q6 ∧ w.heap.size ≤ q4) := ⟨⟨r_, hb_.row H2.out.2.2.1 H2.out.1.2.1, H2.out.1.2.2.trans (hb_.below H2.out.1.2.2.size fun k hk e => by have := H2.out.2.1; omega)⟩, H2.out.2⟩
  clear hb_ r_ hW_
  refine wpList_nil ?_
  go_wp2_with fail
  go_loopw [8] (fun _ W => ∃ A : Nat, A ≤ n ∧ Hid ((Row W q6 30 (plC (d : Nat) (A : Nat) (c : Nat) false) ∧ Row W q4 30 (plC 0 0 0 false) ∧ Below w.heap.size w W) ∧ ∀ b, b < A → ¬ Room1 (n / 16) us b c)) (fun _ W => n - atOf W q6)
  case atStart => exact ⟨0, Nat.zero_le _, ⟨H3.out.1, fun b hb => absurd hb (Nat.not_lt_zero _)⟩⟩
  case round =>
   obtain ⟨A, hA, HI⟩ := hrel
   have HQ : Hid (w.heap.size ≤ q6 ∧ q4 ≠ q6 ∧ w.heap.size ≤ q4) := H3.out.2
   have HAT : Hid (atOf wr q6 = A) := atOf_row HI.out.1.1
   by_cases hlt : A < n
   ·go_upto_region 3 with fail
    refine wp_region_held (S := fun X => Row X q6 30 (plC (d : Nat) (A : Nat) (c : Nat) false) ∧ Row X q4 30 (plC 0 0 0 false) ∧ Below w.heap.size w X) (by kernel_rfl) ?_
    show wpAnyH _ _ _ _ _ 7 (Array.replicate 7 false) _ _
    obtain ⟨X, hX⟩ : ∃ X : World, X = { wr with drawn := wr.drawn + 1 } := ⟨_, rfl⟩
    rw [← hX]
    have HBX : Hid (Below wr.heap.size wr X) := (by rw [hX]; exact ⟨rfl, rfl, rfl, Nat.le_refl _, fun _ _ => rfl⟩)
    have HS_ : Row X q6 30 (plC (d : Nat) (A : Nat) (c : Nat) false) ∧ Row X q4 30 (plC 0 0 0 false) ∧ Below w.heap.size w X := ⟨HI.out.1.1.later HBX.out HI.out.1.1.lt, HI.out.1.2.1.later HBX.out HI.out.1.2.1.lt, HI.out.1.2.2.trans (HBX.out.mono HI.out.1.2.2.size)⟩
    have HSX : Hid (Row X q6 30 (plC (d : Nat) (A : Nat) (c : Nat) false) ∧ Row X q4 30 (plC 0 0 0 false) ∧ Below w.heap.size w X) := HS_
    clear hX
    refine tH 0 17 rfl rfl (gRun rfl (.pointer (some ⟨q6, 0 + 1, none⟩)) fun _ h => run_fieldOp' f30_1 (.tmp 6) rfl q6 (0) rfl) HS_ ?_
    refine tH 1 18 rfl rfl (gRun rfl (.int .i64 (A : Nat)) fun _ h => run_load1 o3 (.tmp 17) rfl q6 (0 + 1) rfl (.int .i64 (A : Nat)) (h.1.at 1 _ rfl)) HS_ ?_
    refine tH 2 19 rfl rfl (gRun rfl (ptr gr) fun _ h => run_mvZ (.tmp 0) rfl (ptr gr) rfl) HS_ ?_
    refine tH 3 20 rfl rfl (gRun rfl (ptr gr) fun _ h => run_nil (.tmp 19) rfl ⟨gr, 0, none⟩ rfl) HS_ ?_
    simp only [Act.put, aS, aC, aZ]
    refine tH 4 21 rfl rfl (gRun rfl (.pointer (some ⟨gr, 0 + 1, none⟩)) fun _ h => run_fieldOp' f60_1 (.tmp 20) rfl gr (0) rfl) HS_ ?_
    refine tH 5 22 rfl rfl (gRun rfl (.int .i64 (n : Nat)) fun _ h => run_load1 o3 (.tmp 21) rfl gr (0 + 1) rfl (.int .i64 (n : Nat)) ((HM.out.1.bel h.2.2).1.at 1 _ rfl)) HS_ ?_
    refine tH 6 23 rfl rfl (gRun rfl (.bool true) fun _ h => run_lssZ (.tmp 18) (.tmp 22) rfl (A : Nat) (n : Nat) rfl rfl true (decide_eq_true (by omega))) HS_ ?_
    simp only [Act.put, aS, aC, aZ]
    refine wpAnyH_done (by kernel_rfl) ?_ _
    obtain ⟨fb0, hfb0⟩ : ∃ b, isPl d (n / 16) (d : Nat) (A : Nat) (c : Nat) = b := ⟨_, rfl⟩
    have HF0 : Hid (isPl d (n / 16) (d : Nat) (A : Nat) (c : Nat) = fb0) := hfb0
    clear hfb0
    go_upto_region 5 with fail
    refine wp_region_lit ?_
    refine wl rfl (ptr gr) _ (run_mvZ (.tmp 0) rfl (ptr gr) rfl) ?_
    refine wl rfl (.agg ((plC (d : Nat) (A : Nat) (c : Nat) false)).toArray) _ (run_loadA ag30 (.tmp 6) rfl q6 (0) rfl ((plC (d : Nat) (A : Nat) (c : Nat) false)) rfl (rows_one HSX.out.1)) ?_
    simp only [Act.put, aS, aC, aZ]
    refine wpList_callW eN38 [.tmp 28, .tmp 29] _ rfl rfl [(ptr gr), (.agg ((plC (d : Nat) (A : Nat) (c : Nat) false)).toArray)] rfl ?_
    refine (rplace_any (HM.out.1.bel HSX.out.2.2) hn (d : Nat) (A : Nat) (c : Nat) false ⟨by omega, by omega⟩).mono ?_
    rintro e Y4 ⟨he_, hb_⟩
    rw [HF0.out] at he_
    subst he_
    refine ⟨_, rfl, ?_⟩
    have H4 : Hid (Row Y4 q6 30 (plC (d : Nat) (A : Nat) (c : Nat) false) ∧ Row Y4 q4 30 (plC 0 0 0 false) ∧ Below w.heap.size w Y4) := ⟨HSX.out.1.later hb_ HSX.out.1.lt, HSX.out.2.1.later hb_ HSX.out.2.1.lt, HSX.out.2.2.trans (hb_.mono HSX.out.2.2.size)⟩
    clear hb_
    simp only [Act.put, aS, aC, aZ]
    refine wl rfl (.bool fb0) _ (run_asZ (.tmp 30) rfl (.bool fb0) rfl) ?_
    simp only [Act.put, aS, aC, aZ]
    refine wpList_nil ?_
    go_upto_region 6 with fail
    refine wp_region_lit ?_
    refine wl rfl (.int .i64 0) _ (run_asZ (.const (.int .i64 0)) rfl (.int .i64 0) rfl) ?_
    simp only [Act.put, aS, aC, aZ]
    refine wpList_nil ?_
    obtain ⟨WO, hWO⟩ : ∃ U_ : World, U_ = wr := ⟨_, rfl⟩
    have HNO : Hid (∀ b, b < A → ¬ Room1 (n / 16) us b c) := HI.out.2
    clear HI HSX HBX hWO
    go_wp2_with fail
    go_loopw [7, 8] (fun vf vk W => ∃ (k : Nat) (fb : Bool), vk = .int .i64 (k : Nat) ∧ vf = .bool fb ∧ k ≤ us.length ∧ Hid ((Row W q6 30 (plC (d : Nat) (A : Nat) (c : Nat) false) ∧ Row W q4 30 (plC 0 0 0 false) ∧ Below w.heap.size w W) ∧ (fb = true ↔ FreeTo d n us A c k))) (fun _ vk _ => us.length - (intOf vk).toNat)
    case atStart => exact ⟨0, fb0, rfl, rfl, Nat.zero_le _, ⟨H4.out, ⟨fun e => ⟨HF0.out.trans e, fun j hj => absurd hj (Nat.not_lt_zero _)⟩, fun e => HF0.out.symm.trans e.1⟩⟩⟩
    case round =>
     obtain ⟨k, fb, rfl, rfl, hk, HI⟩ := hrel
     clear H4
     by_cases hkl : k < us.length
     ·cases fb with
      | false =>
       go_upto_region 7 with fail
       refine wp_region_lit ?_
       refine wl rfl (.int .i64 (k : Nat)) _ (run_mvZ (.tmp 8) rfl (.int .i64 (k : Nat)) rfl) ?_
       refine wl rfl (ptr gr) _ (run_mvZ (.tmp 0) rfl (ptr gr) rfl) ?_
       refine wl rfl (ptr gr) _ (run_nil (.tmp 32) rfl ⟨gr, 0, none⟩ rfl) ?_
       refine wl rfl (.pointer (some ⟨gr, 0 + 2, none⟩)) _ (run_fieldOp' f60_2 (.tmp 33) rfl gr (0) rfl) ?_
       simp only [Act.put, aS, aC, aZ]
       refine wl rfl vu _ (run_load1 o43 (.tmp 34) rfl gr (0 + 2) rfl vu ((HM.out.1.bel HI.out.1.2.2).1.at 2 _ rfl)) ?_
       refine wl rfl (.int .i64 (us.length : Nat)) _ (run_lenPI (HM.out.1.bel HI.out.1.2.2).2 HM.out.2.2.2 (.tmp 35) rfl rfl) ?_
       refine wl rfl (.bool true) _ (run_lssZ (.tmp 31) (.tmp 36) rfl (k : Nat) (us.length : Nat) rfl rfl true (decide_eq_true (by omega))) ?_
       refine wl rfl (.bool true) _ (run_mvZ (.tmp 37) rfl (.bool true) rfl) ?_
       simp only [Act.put, aS, aC, aZ]
       refine wl (by kernel_rfl) (.bool false) _ (run_mvZ (.tmp 7) rfl (.bool false) rfl) ?_
       refine wl rfl (.bool false) _ (run_pickZ (.tmp 38) (.tmp 39) (.const (.bool false)) rfl true (.bool false) rfl rfl) ?_
       simp only [Act.put, aS, aC, aZ]
       refine wpList_nil ?_
       have HR : Hid (¬ Room1 (n / 16) us A c) := FreeTo.not hk hc1.1 (fun hf => by have := HI.out.2.2 hf; cases this)
       go_upto_region 10 with fail
       refine wp_region_lit ?_
       refine wl rfl (.bool false) _ (run_mvZ (.tmp 7) rfl (.bool false) rfl) ?_
       simp only [Act.put, aS, aC, aZ]
       refine wpList_nil ?_
       go_upto_region 4 with fail
       refine wp_region_lit ?_
       refine wl rfl (.pointer (some ⟨q6, 0 + 1, none⟩)) _ (run_fieldOp' f30_1 (.tmp 6) rfl q6 (0) rfl) ?_
       refine wl rfl (.int .i64 (A : Nat)) _ (run_load1 o3 (.tmp 24) rfl q6 (0 + 1) rfl (.int .i64 (A : Nat)) (HI.out.1.1.at 1 _ rfl)) ?_
       refine wl rfl (.int .i64 ((A + 1 : Nat) : Int)) _ (run_addZ (.tmp 25) (.const (.int .i64 1)) rfl (A : Nat) 1 _ rfl rfl (by omega) (by omega) (by omega)) ?_
       refine wl rfl (.pointer (some ⟨q6, 0 + 1, none⟩)) _ (run_fieldOp' f30_1 (.tmp 6) rfl q6 (0) rfl) ?_
       simp only [Act.put, aS, aC, aZ]
       refine wlS rfl rfl _ (run_putRow (t := 3) sz3 (.tmp 27) (.tmp 26) rfl q6 (0 + 1) 30 _ rfl (.int .i64 ((A + 1 : Nat) : Int)) rfl ⟨rfl, rfl⟩ HI.out.1.1 (by decide : 0 + 1 < 4)) ?_
       have hb_ := (Ch.refl (· = q6) wr).setCell (Or.inl rfl) (0 + 1) (.int .i64 ((A + 1 : Nat) : Int))
       have r_ := HI.out.1.1.setCell (0 + 1) (.int .i64 ((A + 1 : Nat) : Int))
       obtain ⟨Z8, hW_⟩ : ∃ U_ : World, U_ = wr.setCell ⟨q6, 0 + 1, none⟩ (.int .i64 ((A + 1 : Nat) : Int)) := ⟨_, rfl⟩
       rw [← hW_] at hb_ r_ ⊢
       have H8 : Hid (Row Z8 q6 30 (plC (d : Nat) ((A + 1 : Nat) : Int) (c : Nat) false) ∧ Row Z8 q4 30 (plC 0 0 0 false) ∧ Below w.heap.size w Z8) := ⟨r_, hb_.row HQ.out.2.1 HI.out.1.2.1, HI.out.1.2.2.trans (hb_.below HI.out.1.2.2.size fun k hk e => by have := HQ.out.1; omega)⟩
       clear hb_ r_ hW_
       refine wpList_nil ?_
       go_wp2_with fail
       refine ⟨⟨A + 1, by omega, ⟨H8.out, fun b hb => ?_⟩⟩, ?_⟩
       ·rcases Nat.lt_or_ge b A with q | q
        ·exact HNO.out b q
        ·have eb : b = A := (by omega)
         rw [eb]
         exact HR.out
       ·rw [HAT.out, atOf_row H8.out.1]
        omega
      | true =>
       go_upto_region 7 with fail
       refine wp_region_lit ?_
       refine wl rfl (.int .i64 (k : Nat)) _ (run_mvZ (.tmp 8) rfl (.int .i64 (k : Nat)) rfl) ?_
       refine wl rfl (ptr gr) _ (run_mvZ (.tmp 0) rfl (ptr gr) rfl) ?_
       refine wl rfl (ptr gr) _ (run_nil (.tmp 32) rfl ⟨gr, 0, none⟩ rfl) ?_
       refine wl rfl (.pointer (some ⟨gr, 0 + 2, none⟩)) _ (run_fieldOp' f60_2 (.tmp 33) rfl gr (0) rfl) ?_
       simp only [Act.put, aS, aC, aZ]
       refine wl rfl vu _ (run_load1 o43 (.tmp 34) rfl gr (0 + 2) rfl vu ((HM.out.1.bel HI.out.1.2.2).1.at 2 _ rfl)) ?_
       refine wl rfl (.int .i64 (us.length : Nat)) _ (run_lenPI (HM.out.1.bel HI.out.1.2.2).2 HM.out.2.2.2 (.tmp 35) rfl rfl) ?_
       refine wl rfl (.bool true) _ (run_lssZ (.tmp 31) (.tmp 36) rfl (k : Nat) (us.length : Nat) rfl rfl true (decide_eq_true (by omega))) ?_
       refine wl rfl (.bool true) _ (run_mvZ (.tmp 37) rfl (.bool true) rfl) ?_
       simp only [Act.put, aS, aC, aZ]
       refine wl (by kernel_rfl) (.bool true) _ (run_mvZ (.tmp 7) rfl (.bool true) rfl) ?_
       refine wl rfl (.bool true) _ (run_pickZ (.tmp 38) (.tmp 39) (.const (.bool false)) rfl true (.bool true) rfl rfl) ?_
       simp only [Act.put, aS, aC, aZ]
       refine wpList_nil ?_
       obtain ⟨bF, _, hx_, hc_⟩ := (HM.out.1.bel HI.out.1.2.2).2.ix k (by rw [HM.out.2.2.2]; exact hkl)
       rw [pqOf_at d hkl] at hc_
       obtain ⟨u, hu⟩ : ∃ u, u = us.getD k default := ⟨_, rfl⟩
       rw [← hu] at hc_
       have hub : u.1 ≤ 1000000 ∧ u.2 ≤ 1000000 := (by rw [hu, List.getD_eq_getElem?_getD, List.getElem?_eq_getElem hkl]; exact HM.out.2.1 _ (List.getElem_mem hkl))
       have HX : Hid ((∀ w', (Instr.indexAt 43 vu (.int .i64 (k : Nat))).run Tryd.prog w' = .ok (.pointer (some ⟨bF, k * 4, none⟩)) w') ∧ (∀ W : World, PlO W vu (us.map (pqOf d)) → ∀ (j : Nat) x, (pqOf d u).cells[j]? = some x → W.cell? ⟨bF, k * 4 + j, none⟩ = some x) ∧ u = us.getD k default) := ⟨hx_, hc_, hu⟩
       clear hx_ hc_ hu
       obtain ⟨mb, hmb⟩ : ∃ b, decide (u.1 < A + c ∧ A < u.1 + u.2) = b := ⟨_, rfl⟩
       have HMB : Hid (decide (u.1 < A + c ∧ A < u.1 + u.2) = mb) := hmb
       clear hmb
       go_upto_region 9 with fail
       refine wp_region_held (S := fun X => Row X q6 30 (plC (d : Nat) (A : Nat) (c : Nat) false) ∧ Row X q4 30 (plC 0 0 0 false) ∧ Below w.heap.size w X) (by kernel_rfl) ?_
       show wpAnyH _ _ _ _ _ 11 (Array.replicate 11 false) _ _
       obtain ⟨X, hX⟩ : ∃ X : World, X = { wr with drawn := wr.drawn + 1 } := ⟨_, rfl⟩
       rw [← hX]
       have HBX : Hid (Below wr.heap.size wr X) := (by rw [hX]; exact ⟨rfl, rfl, rfl, Nat.le_refl _, fun _ _ => rfl⟩)
       have HS_ : Row X q6 30 (plC (d : Nat) (A : Nat) (c : Nat) false) ∧ Row X q4 30 (plC 0 0 0 false) ∧ Below w.heap.size w X := ⟨HI.out.1.1.later HBX.out HI.out.1.1.lt, HI.out.1.2.1.later HBX.out HI.out.1.2.1.lt, HI.out.1.2.2.trans (HBX.out.mono HI.out.1.2.2.size)⟩
       clear hX
       refine tH 0 43 rfl rfl (gRun rfl (ptr gr) fun _ h => run_mvZ (.tmp 0) rfl (ptr gr) rfl) HS_ ?_
       refine tH 1 44 rfl rfl (gRun rfl (ptr gr) fun _ h => run_nil (.tmp 43) rfl ⟨gr, 0, none⟩ rfl) HS_ ?_
       refine tH 2 45 rfl rfl (gRun rfl (.pointer (some ⟨gr, 0 + 2, none⟩)) fun _ h => run_fieldOp' f60_2 (.tmp 44) rfl gr (0) rfl) HS_ ?_
       refine tH 3 46 rfl rfl (gRun rfl vu fun _ h => run_load1 o43 (.tmp 45) rfl gr (0 + 2) rfl vu ((HM.out.1.bel h.2.2).1.at 2 _ rfl)) HS_ ?_
       simp only [Act.put, aS, aC, aZ]
       refine tH 4 47 rfl rfl (gRun rfl (.int .i64 (k : Nat)) fun _ h => run_mvZ (.tmp 8) rfl (.int .i64 (k : Nat)) rfl) HS_ ?_
       refine tH 5 48 rfl rfl (gRun rfl (.pointer (some ⟨bF, k * 4, none⟩)) fun _ h => run_idx (.tmp 46) (.tmp 47) rfl _ _ _ rfl rfl HX.out.1) HS_ ?_
       refine tH 6 49 rfl rfl (gRun rfl (.agg ((pqOf d u).cells).toArray) fun _ h => run_loadA ag30 (.tmp 48) rfl bF (k * 4) rfl ((pqOf d u).cells) rfl (HX.out.2.1 _ (HM.out.1.bel h.2.2).2)) HS_ ?_
       refine tH 7 50 rfl rfl (gRun rfl (.agg ((plC (d : Nat) (A : Nat) (c : Nat) false)).toArray) fun _ h => run_loadA ag30 (.tmp 6) rfl q6 (0) rfl ((plC (d : Nat) (A : Nat) (c : Nat) false)) rfl (rows_one h.1)) HS_ ?_
       simp only [Act.put, aS, aC, aZ]
       refine oneH (i := 8) (by kernel_rfl) ?_
       refine opCallG (some 51) rfl rfl rfl 39 _ (run_call eN39 [.tmp 49, .tmp 50] _ rfl [(.agg ((pqOf d u).cells).toArray), (.agg ((plC (d : Nat) (A : Nat) (c : Nat) false)).toArray)] rfl) ?_
       refine (meet_any X (d : Nat) (d : Nat) u.1 u.2 A c false false ⟨by omega, by omega, by omega, by omega⟩).mono ?_
       rintro e Y5 ⟨he_, hb_⟩
       rw [HMB.out] at he_
       subst he_
       replace HS_ : Row Y5 q6 30 (plC (d : Nat) (A : Nat) (c : Nat) false) ∧ Row Y5 q4 30 (plC 0 0 0 false) ∧ Below w.heap.size w Y5 := ⟨HS_.1.later hb_ HS_.1.lt, HS_.2.1.later hb_ HS_.2.1.lt, HS_.2.2.trans (hb_.mono HS_.2.2.size)⟩
       have H5 : Hid (Row Y5 q6 30 (plC (d : Nat) (A : Nat) (c : Nat) false) ∧ Row Y5 q4 30 (plC 0 0 0 false) ∧ Below w.heap.size w Y5) := HS_
       clear hb_
       refine ⟨_, rfl, ?_⟩
       refine ⟨HS_, ?_⟩
       simp only [Act.put, aS, aC, aZ]
       refine tH 9 52 rfl rfl (gRun rfl (.bool (!mb)) fun _ h => run_not (.tmp 51) 4 rfl mb rfl) HS_ ?_
       refine tH 10 7 rfl rfl (gRun rfl (.bool (!mb)) fun _ h => run_asZ (.tmp 52) rfl (.bool (!mb)) rfl) HS_ ?_
       simp only [Act.put, aS, aC, aZ]
       refine wpAnyH_done (by kernel_rfl) ?_ _
       go_wp2_with fail
       refine ⟨⟨k + 1, !mb, by go_num, rfl, by omega, ⟨H5.out, ?_⟩⟩, ?_⟩
       ·have h0 := HI.out.2.1 rfl
        have hm := HMB.out
        rw [HX.out.2.2] at hm
        constructor
        ·intro e_
         have em : mb = false := (by cases mb with | false => rfl | true => cases e_)
         rw [em] at hm
         have hm := of_decide_eq_false hm
         refine ⟨h0.1, fun j hj => ?_⟩
         rcases Nat.lt_or_ge j k with q | q
         ·exact h0.2 j q
         ·have ej : j = k := (by omega)
          rw [ej]
          exact hm
        ·intro hf
         have h1 := hf.2 k (by omega)
         rw [decide_eq_false h1] at hm
         rw [← hm]
         rfl
       ·simp [intOf]; omega
     ·cases fb with
      | false =>
       go_upto_region 7 with fail
       refine wp_region_lit ?_
       refine wl rfl (.int .i64 (k : Nat)) _ (run_mvZ (.tmp 8) rfl (.int .i64 (k : Nat)) rfl) ?_
       refine wl rfl (ptr gr) _ (run_mvZ (.tmp 0) rfl (ptr gr) rfl) ?_
       refine wl rfl (ptr gr) _ (run_nil (.tmp 32) rfl ⟨gr, 0, none⟩ rfl) ?_
       refine wl rfl (.pointer (some ⟨gr, 0 + 2, none⟩)) _ (run_fieldOp' f60_2 (.tmp 33) rfl gr (0) rfl) ?_
       simp only [Act.put, aS, aC, aZ]
       refine wl rfl vu _ (run_load1 o43 (.tmp 34) rfl gr (0 + 2) rfl vu ((HM.out.1.bel HI.out.1.2.2).1.at 2 _ rfl)) ?_
       refine wl rfl (.int .i64 (us.length : Nat)) _ (run_lenPI (HM.out.1.bel HI.out.1.2.2).2 HM.out.2.2.2 (.tmp 35) rfl rfl) ?_
       refine wl rfl (.bool false) _ (run_lssZ (.tmp 31) (.tmp 36) rfl (k : Nat) (us.length : Nat) rfl rfl false (decide_eq_false (by omega))) ?_
       refine wl rfl (.bool false) _ (run_mvZ (.tmp 37) rfl (.bool false) rfl) ?_
       simp only [Act.put, aS, aC, aZ]
       refine wpList_skip (by kernel_rfl) ?_
       simp only [Act.put, aS, aC, aZ]
       refine wl rfl (.bool false) _ (run_pickZ (.tmp 38) (.tmp 39) (.const (.bool false)) rfl false (.bool false) rfl rfl) ?_
       simp only [Act.put, aS, aC, aZ]
       refine wpList_nil ?_
       have HR : Hid (¬ Room1 (n / 16) us A c) := FreeTo.not hk hc1.1 (fun hf => by have := HI.out.2.2 hf; cases this)
       go_upto_region 10 with fail
       refine wp_region_lit ?_
       refine wl rfl (.bool false) _ (run_mvZ (.tmp 7) rfl (.bool false) rfl) ?_
       simp only [Act.put, aS, aC, aZ]
       refine wpList_nil ?_
       go_upto_region 4 with fail
       refine wp_region_lit ?_
       refine wl rfl (.pointer (some ⟨q6, 0 + 1, none⟩)) _ (run_fieldOp' f30_1 (.tmp 6) rfl q6 (0) rfl) ?_
       refine wl rfl (.int .i64 (A : Nat)) _ (run_load1 o3 (.tmp 24) rfl q6 (0 + 1) rfl (.int .i64 (A : Nat)) (HI.out.1.1.at 1 _ rfl)) ?_
       refine wl rfl (.int .i64 ((A + 1 : Nat) : Int)) _ (run_addZ (.tmp 25) (.const (.int .i64 1)) rfl (A : Nat) 1 _ rfl rfl (by omega) (by omega) (by omega)) ?_
       refine wl rfl (.pointer (some ⟨q6, 0 + 1, none⟩)) _ (run_fieldOp' f30_1 (.tmp 6) rfl q6 (0) rfl) ?_
       simp only [Act.put, aS, aC, aZ]
       refine wlS rfl rfl _ (run_putRow (t := 3) sz3 (.tmp 27) (.tmp 26) rfl q6 (0 + 1) 30 _ rfl (.int .i64 ((A + 1 : Nat) : Int)) rfl ⟨rfl, rfl⟩ HI.out.1.1 (by decide : 0 + 1 < 4)) ?_
       have hb_ := (Ch.refl (· = q6) wr).setCell (Or.inl rfl) (0 + 1) (.int .i64 ((A + 1 : Nat) : Int))
       have r_ := HI.out.1.1.setCell (0 + 1) (.int .i64 ((A + 1 : Nat) : Int))
       obtain ⟨Z8, hW_⟩ : ∃ U_ : World, U_ = wr.setCell ⟨q6, 0 + 1, none⟩ (.int .i64 ((A + 1 : Nat) : Int)) := ⟨_, rfl⟩
       rw [← hW_] at hb_ r_ ⊢
       have H8 : Hid (Row Z8 q6 30 (plC (d : Nat) ((A + 1 : Nat) : Int) (c : Nat) false) ∧ Row Z8 q4 30 (plC 0 0 0 false) ∧ Below w.heap.size w Z8) := ⟨r_, hb_.row HQ.out.2.1 HI.out.1.2.1, HI.out.1.2.2.trans (hb_.below HI.out.1.2.2.size fun k hk e => by have := HQ.out.1; omega)⟩
       clear hb_ r_ hW_
       refine wpList_nil ?_
       go_wp2_with fail
       refine ⟨⟨A + 1, by omega, ⟨H8.out, fun b hb => ?_⟩⟩, ?_⟩
       ·rcases Nat.lt_or_ge b A with q | q
        ·exact HNO.out b q
        ·have eb : b = A := (by omega)
         rw [eb]
         exact HR.out
       ·rw [HAT.out, atOf_row H8.out.1]
        omega
      | true =>
       go_upto_region 7 with fail
       refine wp_region_lit ?_
       refine wl rfl (.int .i64 (k : Nat)) _ (run_mvZ (.tmp 8) rfl (.int .i64 (k : Nat)) rfl) ?_
       refine wl rfl (ptr gr) _ (run_mvZ (.tmp 0) rfl (ptr gr) rfl) ?_
       refine wl rfl (ptr gr) _ (run_nil (.tmp 32) rfl ⟨gr, 0, none⟩ rfl) ?_
       refine wl rfl (.pointer (some ⟨gr, 0 + 2, none⟩)) _ (run_fieldOp' f60_2 (.tmp 33) rfl gr (0) rfl) ?_
       simp only [Act.put, aS, aC, aZ]
       refine wl rfl vu _ (run_load1 o43 (.tmp 34) rfl gr (0 + 2) rfl vu ((HM.out.1.bel HI.out.1.2.2).1.at 2 _ rfl)) ?_
       refine wl rfl (.int .i64 (us.length : Nat)) _ (run_lenPI (HM.out.1.bel HI.out.1.2.2).2 HM.out.2.2.2 (.tmp 35) rfl rfl) ?_
       refine wl rfl (.bool false) _ (run_lssZ (.tmp 31) (.tmp 36) rfl (k : Nat) (us.length : Nat) rfl rfl false (decide_eq_false (by omega))) ?_
       refine wl rfl (.bool false) _ (run_mvZ (.tmp 37) rfl (.bool false) rfl) ?_
       simp only [Act.put, aS, aC, aZ]
       refine wpList_skip (by kernel_rfl) ?_
       simp only [Act.put, aS, aC, aZ]
       refine wl rfl (.bool false) _ (run_pickZ (.tmp 38) (.tmp 39) (.const (.bool false)) rfl false (.bool false) rfl rfl) ?_
       simp only [Act.put, aS, aC, aZ]
       refine wpList_nil ?_
       have ek : k = us.length := (by omega)
       subst ek
       have HR : Hid (Room1 (n / 16) us A c) := (HI.out.2.1 rfl).room
       go_upto_region 10 with fail
       refine wp_region_lit ?_
       refine wl rfl (.bool true) _ (run_mvZ (.tmp 7) rfl (.bool true) rfl) ?_
       simp only [Act.put, aS, aC, aZ]
       refine wpList_nil ?_
       go_upto_region 11 with fail
       refine wp_region_lit ?_
       refine wl rfl (.agg ((plC (d : Nat) (A : Nat) (c : Nat) false)).toArray) _ (run_loadA ag30 (.tmp 6) rfl q6 (0) rfl ((plC (d : Nat) (A : Nat) (c : Nat) false)) rfl (rows_one HI.out.1.1)) ?_
       simp only [Act.put, aS, aC, aZ]
       refine wlS rfl rfl _ (run_storeA ag30 (.tmp 4) (.tmp 54) rfl q4 30 rfl (plC (d : Nat) (A : Nat) (c : Nat) false) _ rfl rfl HI.out.1.2.1 rfl (plC_one _ _ _ _)) ?_
       have hb_ := (Ch.setRow (S := (· = q4)) (Ch.refl _ wr) (Or.inl rfl) (plC (d : Nat) (A : Nat) (c : Nat) false).toArray)
       have r_ := HI.out.1.2.1.setRow (plC (d : Nat) (A : Nat) (c : Nat) false)
       obtain ⟨Z9, hW_⟩ : ∃ U_ : World, U_ = wr.setRow q4 (plC (d : Nat) (A : Nat) (c : Nat) false).toArray := ⟨_, rfl⟩
       rw [← hW_] at hb_ r_ ⊢
       have H9 : Hid (Row Z9 q4 30 (plC (d : Nat) (A : Nat) (c : Nat) false) ∧ Below w.heap.size w Z9) := ⟨r_, HI.out.1.2.2.trans (hb_.below HI.out.1.2.2.size fun k hk e => by have := HQ.out.2.2; omega)⟩
       clear r_ hb_ hW_
       refine wl rfl (.bool true) _ (run_asZ (.const (.bool true)) rfl (.bool true) rfl) ?_
       simp only [Act.put, aS, aC, aZ]
       refine wpList_nil ?_
       go_wp2_with fail
       rw [HPQ.out]
       exact bodyPost_ret (results_cell_tmp ag30 Tryd.results20 _ _ q4 30 rfl (plC (d : Nat) (A : Nat) (c : Nat) false) rfl H9.out.1) rfl ⟨H9.out.2, Or.inl ⟨A, ⟨HR.out, HNO.out⟩, rfl⟩⟩
   ·go_upto_region 3 with fail
    refine wp_region_held (S := fun X => Row X q6 30 (plC (d : Nat) (A : Nat) (c : Nat) false) ∧ Row X q4 30 (plC 0 0 0 false) ∧ Below w.heap.size w X) (by kernel_rfl) ?_
    show wpAnyH _ _ _ _ _ 7 (Array.replicate 7 false) _ _
    obtain ⟨X, hX⟩ : ∃ X : World, X = { wr with drawn := wr.drawn + 1 } := ⟨_, rfl⟩
    rw [← hX]
    have HBX : Hid (Below wr.heap.size wr X) := (by rw [hX]; exact ⟨rfl, rfl, rfl, Nat.le_refl _, fun _ _ => rfl⟩)
    have HS_ : Row X q6 30 (plC (d : Nat) (A : Nat) (c : Nat) false) ∧ Row X q4 30 (plC 0 0 0 false) ∧ Below w.heap.size w X := ⟨HI.out.1.1.later HBX.out HI.out.1.1.lt, HI.out.1.2.1.later HBX.out HI.out.1.2.1.lt, HI.out.1.2.2.trans (HBX.out.mono HI.out.1.2.2.size)⟩
    have HSX : Hid (Row X q6 30 (plC (d : Nat) (A : Nat) (c : Nat) false) ∧ Row X q4 30 (plC 0 0 0 false) ∧ Below w.heap.size w X) := HS_
    clear hX
    refine tH 0 17 rfl rfl (gRun rfl (.pointer (some ⟨q6, 0 + 1, none⟩)) fun _ h => run_fieldOp' f30_1 (.tmp 6) rfl q6 (0) rfl) HS_ ?_
    refine tH 1 18 rfl rfl (gRun rfl (.int .i64 (A : Nat)) fun _ h => run_load1 o3 (.tmp 17) rfl q6 (0 + 1) rfl (.int .i64 (A : Nat)) (h.1.at 1 _ rfl)) HS_ ?_
    refine tH 2 19 rfl rfl (gRun rfl (ptr gr) fun _ h => run_mvZ (.tmp 0) rfl (ptr gr) rfl) HS_ ?_
    refine tH 3 20 rfl rfl (gRun rfl (ptr gr) fun _ h => run_nil (.tmp 19) rfl ⟨gr, 0, none⟩ rfl) HS_ ?_
    simp only [Act.put, aS, aC, aZ]
    refine tH 4 21 rfl rfl (gRun rfl (.pointer (some ⟨gr, 0 + 1, none⟩)) fun _ h => run_fieldOp' f60_1 (.tmp 20) rfl gr (0) rfl) HS_ ?_
    refine tH 5 22 rfl rfl (gRun rfl (.int .i64 (n : Nat)) fun _ h => run_load1 o3 (.tmp 21) rfl gr (0 + 1) rfl (.int .i64 (n : Nat)) ((HM.out.1.bel h.2.2).1.at 1 _ rfl)) HS_ ?_
    refine tH 6 23 rfl rfl (gRun rfl (.bool false) fun _ h => run_lssZ (.tmp 18) (.tmp 22) rfl (A : Nat) (n : Nat) rfl rfl false (decide_eq_false (by omega))) HS_ ?_
    simp only [Act.put, aS, aC, aZ]
    refine wpAnyH_done (by kernel_rfl) ?_ _
    have HNO : Hid (∀ b, b < A → ¬ Room1 (n / 16) us b c) := HI.out.2
    go_upto_region 12 with fail
    refine wp_region_lit ?_
    refine wl rfl (.agg (plC 0 0 0 false).toArray) _ (run_build30z rfl) ?_
    simp only [Act.put, aS, aC, aZ]
    refine wlS rfl rfl _ (run_storeA ag30 (.tmp 4) (.tmp 55) rfl q4 30 rfl (plC 0 0 0 false) _ rfl rfl HSX.out.2.1 rfl (plC_one _ _ _ _)) ?_
    have hb_ := (Ch.setRow (S := (· = q4)) (Ch.refl _ X) (Or.inl rfl) (plC 0 0 0 false).toArray)
    have r_ := HSX.out.2.1.setRow (plC 0 0 0 false)
    obtain ⟨Z9, hW_⟩ : ∃ U_ : World, U_ = X.setRow q4 (plC 0 0 0 false).toArray := ⟨_, rfl⟩
    rw [← hW_] at hb_ r_ ⊢
    have H9 : Hid (Row Z9 q4 30 (plC 0 0 0 false) ∧ Below w.heap.size w Z9) := ⟨r_, HSX.out.2.2.trans (hb_.below HSX.out.2.2.size fun k hk e => by have := HQ.out.2.2; omega)⟩
    clear r_ hb_ hW_
    refine wl rfl (.bool false) _ (run_asZ (.const (.bool false)) rfl (.bool false) rfl) ?_
    simp only [Act.put, aS, aC, aZ]
    refine wpList_nil ?_
    go_wp2_with fail
    rw [HPQ.out]
    exact bodyPost_ret (results_cell_tmp ag30 Tryd.results20 _ _ q4 30 rfl (plC 0 0 0 false) rfl H9.out.1) rfl ⟨H9.out.2, Or.inr ⟨fun b hb => (by rcases Nat.lt_or_ge b A with q | q; exact HNO.out b q hb; (have h1 := hb.1; omega)), rfl⟩⟩
 ·refine opValueG (some 6) rfl rfl rfl (ptr X.heap.size) _ (run_allocA (plC 0 0 0 false) zero30 rfl) ?_
  have hb_ := below_alloc X (.cells (plC 0 0 0 false).toArray 30)
  have r_ := Row.new X 30 (plC 0 0 0 false)
  obtain ⟨Y1, hW_⟩ : ∃ U_ : World, U_ = X.alloc (.cells (plC 0 0 0 false).toArray 30) := ⟨_, rfl⟩
  obtain ⟨q6, hq_⟩ : ∃ q, q = X.heap.size := ⟨_, rfl⟩
  rw [← hW_] at hb_
  rw [← hW_, ← hq_] at r_
  rw [← hW_, ← hq_]
  have HQ : Hid (Row Y1 q6 30 (plC 0 0 0 false) ∧ w.heap.size ≤ q6 ∧ q4 ≠ q6) := ⟨r_, (by have := HS_.2.size; omega), (by have := HS_.1.lt; omega)⟩
  replace HS_ : Row Y1 q4 30 (plC 0 0 0 false) ∧ Below w.heap.size w Y1 := ⟨HS_.1.later hb_ HS_.1.lt, HS_.2.trans (hb_.mono HS_.2.size)⟩
  clear r_ hb_ hW_ hq_
  refine ⟨HS_, ?_⟩
  simp only [Act.put, aS, aC, aZ]
  refine oneH (i := 5) (by kernel_rfl) ?_
  refine opCallG (some 14) rfl rfl rfl 22 _ (run_call eN22 [.tmp 13] _ rfl [(.int .i64 (ln : Nat))] rfl) ?_
  refine (rcost_any Y1 ln (by omega)).mono ?_
  rintro e W_ ⟨he_, rfl⟩
  rw [← HM.out.2.2.1] at he_
  subst he_
  refine ⟨_, rfl, ?_⟩
  refine ⟨HS_, ?_⟩
  simp only [Act.put, aS, aC, aZ]
  refine tH 6 15 rfl rfl (gRun rfl (.agg (plC (d : Nat) 0 (c : Nat) false).toArray) fun _ h => run_build30b (.tmp 12) (.tmp 14) rfl (d : Nat) (c : Nat) rfl rfl) HS_ ?_
  simp only [Act.put, aS, aC, aZ]
  refine oneH (i := 8) (by kernel_rfl) ?_
  refine opSkipZ rfl rfl rfl _ (run_storeA ag30 (.tmp 6) (.tmp 15) rfl q6 30 rfl (plC (d : Nat) 0 (c : Nat) false) _ rfl rfl HQ.out.1 rfl (plC_one _ _ _ _)) ?_
  have hb_ := (Ch.setRow (S := (· = q6)) (Ch.refl _ Y1) (Or.inl rfl) (plC (d : Nat) 0 (c : Nat) false).toArray)
  have r_ := HQ.out.1.setRow (plC (d : Nat) 0 (c : Nat) false)
  obtain ⟨Y2, hW_⟩ : ∃ U_ : World, U_ = Y1.setRow q6 (plC (d : Nat) 0 (c : Nat) false).toArray := ⟨_, rfl⟩
  rw [← hW_] at hb_ r_ ⊢
  replace HS_ : Row Y2 q4 30 (plC 0 0 0 false) ∧ Below w.heap.size w Y2 := ⟨hb_.row HQ.out.2.2 HS_.1, HS_.2.trans (hb_.below HS_.2.size fun k hk e => by have := HQ.out.2.1; omega)⟩
  replace HQ : Hid (Row Y2 q6 30 (plC (d : Nat) 0 (c : Nat) false) ∧ w.heap.size ≤ q6 ∧ q4 ≠ q6) := ⟨r_, HQ.out.2⟩
  clear r_ hb_ hW_
  refine ⟨HS_, ?_⟩
  refine wpAnyH_done (by kernel_rfl) ?_ _
  have H2 : Hid ((Row Y2 q6 30 (plC (d : Nat) 0 (c : Nat) false) ∧ Row Y2 q4 30 (plC 0 0 0 false) ∧ Below w.heap.size w Y2) ∧ w.heap.size ≤ q6 ∧ q4 ≠ q6 ∧ w.heap.size ≤ q4) := ⟨⟨HQ.out.1, HS_.1, HS_.2⟩, HQ.out.2.1, HQ.out.2.2, H1.out.2.2⟩
  clear HQ HS_ H1
  go_upto_region 2 with fail
  refine wp_region_lit ?_
  refine wl rfl (.pointer (some ⟨q6, 0 + 1, none⟩)) _ (run_fieldOp' f30_1 (.tmp 6) rfl q6 (0) rfl) ?_
  simp only [Act.put, aS, aC, aZ]
  refine wlS rfl rfl _ (run_putRow (t := 3) sz3 (.tmp 16) (.const (.int .i64 0)) rfl q6 (0 + 1) 30 _ rfl (.int .i64 0) rfl ⟨rfl, rfl⟩ H2.out.1.1 (by decide : 0 + 1 < 4)) ?_
  have hb_ := (Ch.refl (· = q6) Y2).setCell (Or.inl rfl) (0 + 1) (.int .i64 0)
  have r_ := H2.out.1.1.setCell (0 + 1) (.int .i64 0)
  obtain ⟨Y3, hW_⟩ : ∃ U_ : World, U_ = Y2.setCell ⟨q6, 0 + 1, none⟩ (.int .i64 0) := ⟨_, rfl⟩
  rw [← hW_] at hb_ r_ ⊢
  have H3 : Hid ((Row Y3 q6 30 (plC (d : Nat) ((0 : Nat) : Int) (c : Nat) false) ∧ Row Y3 q4 30 (plC 0 0 0 false) ∧ Below w.heap.size w Y3) ∧ w.heap.size ≤ q6 ∧ q4 ≠ q6 ∧ w.heap.size ≤ q4) := ⟨⟨r_, hb_.row H2.out.2.2.1 H2.out.1.2.1, H2.out.1.2.2.trans (hb_.below H2.out.1.2.2.size fun k hk e => by have := H2.out.2.1; omega)⟩, H2.out.2⟩
  clear hb_ r_ hW_
  refine wpList_nil ?_
  go_wp2_with fail
  go_loopw [8] (fun _ W => ∃ A : Nat, A ≤ n ∧ Hid ((Row W q6 30 (plC (d : Nat) (A : Nat) (c : Nat) false) ∧ Row W q4 30 (plC 0 0 0 false) ∧ Below w.heap.size w W) ∧ ∀ b, b < A → ¬ Room1 (n / 16) us b c)) (fun _ W => n - atOf W q6)
  case atStart => exact ⟨0, Nat.zero_le _, ⟨H3.out.1, fun b hb => absurd hb (Nat.not_lt_zero _)⟩⟩
  case round =>
   obtain ⟨A, hA, HI⟩ := hrel
   have HQ : Hid (w.heap.size ≤ q6 ∧ q4 ≠ q6 ∧ w.heap.size ≤ q4) := H3.out.2
   have HAT : Hid (atOf wr q6 = A) := atOf_row HI.out.1.1
   by_cases hlt : A < n
   ·go_upto_region 3 with fail
    refine wp_region_held (S := fun X => Row X q6 30 (plC (d : Nat) (A : Nat) (c : Nat) false) ∧ Row X q4 30 (plC 0 0 0 false) ∧ Below w.heap.size w X) (by kernel_rfl) ?_
    show wpAnyH _ _ _ _ _ 7 (Array.replicate 7 false) _ _
    obtain ⟨X, hX⟩ : ∃ X : World, X = { wr with drawn := wr.drawn + 1 } := ⟨_, rfl⟩
    rw [← hX]
    have HBX : Hid (Below wr.heap.size wr X) := (by rw [hX]; exact ⟨rfl, rfl, rfl, Nat.le_refl _, fun _ _ => rfl⟩)
    have HS_ : Row X q6 30 (plC (d : Nat) (A : Nat) (c : Nat) false) ∧ Row X q4 30 (plC 0 0 0 false) ∧ Below w.heap.size w X := ⟨HI.out.1.1.later HBX.out HI.out.1.1.lt, HI.out.1.2.1.later HBX.out HI.out.1.2.1.lt, HI.out.1.2.2.trans (HBX.out.mono HI.out.1.2.2.size)⟩
    have HSX : Hid (Row X q6 30 (plC (d : Nat) (A : Nat) (c : Nat) false) ∧ Row X q4 30 (plC 0 0 0 false) ∧ Below w.heap.size w X) := HS_
    clear hX
    refine tH 0 17 rfl rfl (gRun rfl (.pointer (some ⟨q6, 0 + 1, none⟩)) fun _ h => run_fieldOp' f30_1 (.tmp 6) rfl q6 (0) rfl) HS_ ?_
    refine tH 1 18 rfl rfl (gRun rfl (.int .i64 (A : Nat)) fun _ h => run_load1 o3 (.tmp 17) rfl q6 (0 + 1) rfl (.int .i64 (A : Nat)) (h.1.at 1 _ rfl)) HS_ ?_
    refine tH 2 19 rfl rfl (gRun rfl (ptr gr) fun _ h => run_mvZ (.tmp 0) rfl (ptr gr) rfl) HS_ ?_
    refine tH 3 20 rfl rfl (gRun rfl (ptr gr) fun _ h => run_nil (.tmp 19) rfl ⟨gr, 0, none⟩ rfl) HS_ ?_
    simp only [Act.put, aS, aC, aZ]
    refine tH 4 21 rfl rfl (gRun rfl (.pointer (some ⟨gr, 0 + 1, none⟩)) fun _ h => run_fieldOp' f60_1 (.tmp 20) rfl gr (0) rfl) HS_ ?_
    refine tH 5 22 rfl rfl (gRun rfl (.int .i64 (n : Nat)) fun _ h => run_load1 o3 (.tmp 21) rfl gr (0 + 1) rfl (.int .i64 (n : Nat)) ((HM.out.1.bel h.2.2).1.at 1 _ rfl)) HS_ ?_
    refine tH 6 23 rfl rfl (gRun rfl (.bool true) fun _ h => run_lssZ (.tmp 18) (.tmp 22) rfl (A : Nat) (n : Nat) rfl rfl true (decide_eq_true (by omega))) HS_ ?_
    simp only [Act.put, aS, aC, aZ]
    refine wpAnyH_done (by kernel_rfl) ?_ _
    obtain ⟨fb0, hfb0⟩ : ∃ b, isPl d (n / 16) (d : Nat) (A : Nat) (c : Nat) = b := ⟨_, rfl⟩
    have HF0 : Hid (isPl d (n / 16) (d : Nat) (A : Nat) (c : Nat) = fb0) := hfb0
    clear hfb0
    go_upto_region 5 with fail
    refine wp_region_lit ?_
    refine wl rfl (ptr gr) _ (run_mvZ (.tmp 0) rfl (ptr gr) rfl) ?_
    refine wl rfl (.agg ((plC (d : Nat) (A : Nat) (c : Nat) false)).toArray) _ (run_loadA ag30 (.tmp 6) rfl q6 (0) rfl ((plC (d : Nat) (A : Nat) (c : Nat) false)) rfl (rows_one HSX.out.1)) ?_
    simp only [Act.put, aS, aC, aZ]
    refine wpList_callW eN38 [.tmp 28, .tmp 29] _ rfl rfl [(ptr gr), (.agg ((plC (d : Nat) (A : Nat) (c : Nat) false)).toArray)] rfl ?_
    refine (rplace_any (HM.out.1.bel HSX.out.2.2) hn (d : Nat) (A : Nat) (c : Nat) false ⟨by omega, by omega⟩).mono ?_
    rintro e Y4 ⟨he_, hb_⟩
    rw [HF0.out] at he_
    subst he_
    refine ⟨_, rfl, ?_⟩
    have H4 : Hid (Row Y4 q6 30 (plC (d : Nat) (A : Nat) (c : Nat) false) ∧ Row Y4 q4 30 (plC 0 0 0 false) ∧ Below w.heap.size w Y4) := ⟨HSX.out.1.later hb_ HSX.out.1.lt, HSX.out.2.1.later hb_ HSX.out.2.1.lt, HSX.out.2.2.trans (hb_.mono HSX.out.2.2.size)⟩
    clear hb_
    simp only [Act.put, aS, aC, aZ]
    refine wl rfl (.bool fb0) _ (run_asZ (.tmp 30) rfl (.bool fb0) rfl) ?_
    simp only [Act.put, aS, aC, aZ]
    refine wpList_nil ?_
    go_upto_region 6 with fail
    refine wp_region_lit ?_
    refine wl rfl (.int .i64 0) _ (run_asZ (.const (.int .i64 0)) rfl (.int .i64 0) rfl) ?_
    simp only [Act.put, aS, aC, aZ]
    refine wpList_nil ?_
    obtain ⟨WO, hWO⟩ : ∃ U_ : World, U_ = wr := ⟨_, rfl⟩
    have HNO : Hid (∀ b, b < A → ¬ Room1 (n / 16) us b c) := HI.out.2
    clear HI HSX HBX hWO
    go_wp2_with fail
    go_loopw [7, 8] (fun vf vk W => ∃ (k : Nat) (fb : Bool), vk = .int .i64 (k : Nat) ∧ vf = .bool fb ∧ k ≤ us.length ∧ Hid ((Row W q6 30 (plC (d : Nat) (A : Nat) (c : Nat) false) ∧ Row W q4 30 (plC 0 0 0 false) ∧ Below w.heap.size w W) ∧ (fb = true ↔ FreeTo d n us A c k))) (fun _ vk _ => us.length - (intOf vk).toNat)
    case atStart => exact ⟨0, fb0, rfl, rfl, Nat.zero_le _, ⟨H4.out, ⟨fun e => ⟨HF0.out.trans e, fun j hj => absurd hj (Nat.not_lt_zero _)⟩, fun e => HF0.out.symm.trans e.1⟩⟩⟩
    case round =>
     obtain ⟨k, fb, rfl, rfl, hk, HI⟩ := hrel
     clear H4
     by_cases hkl : k < us.length
     ·cases fb with
      | false =>
       go_upto_region 7 with fail
       refine wp_region_lit ?_
       refine wl rfl (.int .i64 (k : Nat)) _ (run_mvZ (.tmp 8) rfl (.int .i64 (k : Nat)) rfl) ?_
       refine wl rfl (ptr gr) _ (run_mvZ (.tmp 0) rfl (ptr gr) rfl) ?_
       refine wl rfl (ptr gr) _ (run_nil (.tmp 32) rfl ⟨gr, 0, none⟩ rfl) ?_
       refine wl rfl (.pointer (some ⟨gr, 0 + 2, none⟩)) _ (run_fieldOp' f60_2 (.tmp 33) rfl gr (0) rfl) ?_
       simp only [Act.put, aS, aC, aZ]
       refine wl rfl vu _ (run_load1 o43 (.tmp 34) rfl gr (0 + 2) rfl vu ((HM.out.1.bel HI.out.1.2.2).1.at 2 _ rfl)) ?_
       refine wl rfl (.int .i64 (us.length : Nat)) _ (run_lenPI (HM.out.1.bel HI.out.1.2.2).2 HM.out.2.2.2 (.tmp 35) rfl rfl) ?_
       refine wl rfl (.bool true) _ (run_lssZ (.tmp 31) (.tmp 36) rfl (k : Nat) (us.length : Nat) rfl rfl true (decide_eq_true (by omega))) ?_
       refine wl rfl (.bool true) _ (run_mvZ (.tmp 37) rfl (.bool true) rfl) ?_
       simp only [Act.put, aS, aC, aZ]
       refine wl (by kernel_rfl) (.bool false) _ (run_mvZ (.tmp 7) rfl (.bool false) rfl) ?_
       refine wl rfl (.bool false) _ (run_pickZ (.tmp 38) (.tmp 39) (.const (.bool false)) rfl true (.bool false) rfl rfl) ?_
       simp only [Act.put, aS, aC, aZ]
       refine wpList_nil ?_
       have HR : Hid (¬ Room1 (n / 16) us A c) := FreeTo.not hk hc1.1 (fun hf => by have := HI.out.2.2 hf; cases this)
       go_upto_region 10 with fail
       refine wp_region_lit ?_
       refine wl rfl (.bool false) _ (run_mvZ (.tmp 7) rfl (.bool false) rfl) ?_
       simp only [Act.put, aS, aC, aZ]
       refine wpList_nil ?_
       go_upto_region 4 with fail
       refine wp_region_lit ?_
       refine wl rfl (.pointer (some ⟨q6, 0 + 1, none⟩)) _ (run_fieldOp' f30_1 (.tmp 6) rfl q6 (0) rfl) ?_
       refine wl rfl (.int .i64 (A : Nat)) _ (run_load1 o3 (.tmp 24) rfl q6 (0 + 1) rfl (.int .i64 (A : Nat)) (HI.out.1.1.at 1 _ rfl)) ?_
       refine wl rfl (.int .i64 ((A + 1 : Nat) : Int)) _ (run_addZ (.tmp 25) (.const (.int .i64 1)) rfl (A : Nat) 1 _ rfl rfl (by omega) (by omega) (by omega)) ?_
       refine wl rfl (.pointer (some ⟨q6, 0 + 1, none⟩)) _ (run_fieldOp' f30_1 (.tmp 6) rfl q6 (0) rfl) ?_
       simp only [Act.put, aS, aC, aZ]
       refine wlS rfl rfl _ (run_putRow (t := 3) sz3 (.tmp 27) (.tmp 26) rfl q6 (0 + 1) 30 _ rfl (.int .i64 ((A + 1 : Nat) : Int)) rfl ⟨rfl, rfl⟩ HI.out.1.1 (by decide : 0 + 1 < 4)) ?_
       have hb_ := (Ch.refl (· = q6) wr).setCell (Or.inl rfl) (0 + 1) (.int .i64 ((A + 1 : Nat) : Int))
       have r_ := HI.out.1.1.setCell (0 + 1) (.int .i64 ((A + 1 : Nat) : Int))
       obtain ⟨Z8, hW_⟩ : ∃ U_ : World, U_ = wr.setCell ⟨q6, 0 + 1, none⟩ (.int .i64 ((A + 1 : Nat) : Int)) := ⟨_, rfl⟩
       rw [← hW_] at hb_ r_ ⊢
       have H8 : Hid (Row Z8 q6 30 (plC (d : Nat) ((A + 1 : Nat) : Int) (c : Nat) false) ∧ Row Z8 q4 30 (plC 0 0 0 false) ∧ Below w.heap.size w Z8) := ⟨r_, hb_.row HQ.out.2.1 HI.out.1.2.1, HI.out.1.2.2.trans (hb_.below HI.out.1.2.2.size fun k hk e => by have := HQ.out.1; omega)⟩
       clear hb_ r_ hW_
       refine wpList_nil ?_
       go_wp2_with fail
       refine ⟨⟨A + 1, by omega, ⟨H8.out, fun b hb => ?_⟩⟩, ?_⟩
       ·rcases Nat.lt_or_ge b A with q | q
        ·exact HNO.out b q
        ·have eb : b = A := (by omega)
         rw [eb]
         exact HR.out
       ·rw [HAT.out, atOf_row H8.out.1]
        omega
      | true =>
       go_upto_region 7 with fail
       refine wp_region_lit ?_
       refine wl rfl (.int .i64 (k : Nat)) _ (run_mvZ (.tmp 8) rfl (.int .i64 (k : Nat)) rfl) ?_
       refine wl rfl (ptr gr) _ (run_mvZ (.tmp 0) rfl (ptr gr) rfl) ?_
       refine wl rfl (ptr gr) _ (run_nil (.tmp 32) rfl ⟨gr, 0, none⟩ rfl) ?_
       refine wl rfl (.pointer (some ⟨gr, 0 + 2, none⟩)) _ (run_fieldOp' f60_2 (.tmp 33) rfl gr (0) rfl) ?_
       simp only [Act.put, aS, aC, aZ]
       refine wl rfl vu _ (run_load1 o43 (.tmp 34) rfl gr (0 + 2) rfl vu ((HM.out.1.bel HI.out.1.2.2).1.at 2 _ rfl)) ?_
       refine wl rfl (.int .i64 (us.length : Nat)) _ (run_lenPI (HM.out.1.bel HI.out.1.2.2).2 HM.out.2.2.2 (.tmp 35) rfl rfl) ?_
       refine wl rfl (.bool true) _ (run_lssZ (.tmp 31) (.tmp 36) rfl (k : Nat) (us.length : Nat) rfl rfl true (decide_eq_true (by omega))) ?_
       refine wl rfl (.bool true) _ (run_mvZ (.tmp 37) rfl (.bool true) rfl) ?_
       simp only [Act.put, aS, aC, aZ]
       refine wl (by kernel_rfl) (.bool true) _ (run_mvZ (.tmp 7) rfl (.bool true) rfl) ?_
       refine wl rfl (.bool true) _ (run_pickZ (.tmp 38) (.tmp 39) (.const (.bool false)) rfl true (.bool true) rfl rfl) ?_
       simp only [Act.put, aS, aC, aZ]
       refine wpList_nil ?_
       obtain ⟨bF, _, hx_, hc_⟩ := (HM.out.1.bel HI.out.1.2.2).2.ix k (by rw [HM.out.2.2.2]; exact hkl)
       rw [pqOf_at d hkl] at hc_
       obtain ⟨u, hu⟩ : ∃ u, u = us.getD k default := ⟨_, rfl⟩
       rw [← hu] at hc_
       have hub : u.1 ≤ 1000000 ∧ u.2 ≤ 1000000 := (by rw [hu, List.getD_eq_getElem?_getD, List.getElem?_eq_getElem hkl]; exact HM.out.2.1 _ (List.getElem_mem hkl))
       have HX : Hid ((∀ w', (Instr.indexAt 43 vu (.int .i64 (k : Nat))).run Tryd.prog w' = .ok (.pointer (some ⟨bF, k * 4, none⟩)) w') ∧ (∀ W : World, PlO W vu (us.map (pqOf d)) → ∀ (j : Nat) x, (pqOf d u).cells[j]? = some x → W.cell? ⟨bF, k * 4 + j, none⟩ = some x) ∧ u = us.getD k default) := ⟨hx_, hc_, hu⟩
       clear hx_ hc_ hu
       obtain ⟨mb, hmb⟩ : ∃ b, decide (u.1 < A + c ∧ A < u.1 + u.2) = b := ⟨_, rfl⟩
       have HMB : Hid (decide (u.1 < A + c ∧ A < u.1 + u.2) = mb) := hmb
       clear hmb
       go_upto_region 9 with fail
       refine wp_region_held (S := fun X => Row X q6 30 (plC (d : Nat) (A : Nat) (c : Nat) false) ∧ Row X q4 30 (plC 0 0 0 false) ∧ Below w.heap.size w X) (by kernel_rfl) ?_
       show wpAnyH _ _ _ _ _ 11 (Array.replicate 11 false) _ _
       obtain ⟨X, hX⟩ : ∃ X : World, X = { wr with drawn := wr.drawn + 1 } := ⟨_, rfl⟩
       rw [← hX]
       have HBX : Hid (Below wr.heap.size wr X) := (by rw [hX]; exact ⟨rfl, rfl, rfl, Nat.le_refl _, fun _ _ => rfl⟩)
       have HS_ : Row X q6 30 (plC (d : Nat) (A : Nat) (c : Nat) false) ∧ Row X q4 30 (plC 0 0 0 false) ∧ Below w.heap.size w X := ⟨HI.out.1.1.later HBX.out HI.out.1.1.lt, HI.out.1.2.1.later HBX.out HI.out.1.2.1.lt, HI.out.1.2.2.trans (HBX.out.mono HI.out.1.2.2.size)⟩
       clear hX
       refine tH 0 43 rfl rfl (gRun rfl (ptr gr) fun _ h => run_mvZ (.tmp 0) rfl (ptr gr) rfl) HS_ ?_
       refine tH 1 44 rfl rfl (gRun rfl (ptr gr) fun _ h => run_nil (.tmp 43) rfl ⟨gr, 0, none⟩ rfl) HS_ ?_
       refine tH 2 45 rfl rfl (gRun rfl (.pointer (some ⟨gr, 0 + 2, none⟩)) fun _ h => run_fieldOp' f60_2 (.tmp 44) rfl gr (0) rfl) HS_ ?_
       refine tH 3 46 rfl rfl (gRun rfl vu fun _ h => run_load1 o43 (.tmp 45) rfl gr (0 + 2) rfl vu ((HM.out.1.bel h.2.2).1.at 2 _ rfl)) HS_ ?_
       simp only [Act.put, aS, aC, aZ]
       refine tH 4 47 rfl rfl (gRun rfl (.int .i64 (k : Nat)) fun _ h => run_mvZ (.tmp 8) rfl (.int .i64 (k : Nat)) rfl) HS_ ?_
       refine tH 5 48 rfl rfl (gRun rfl (.pointer (some ⟨bF, k * 4, none⟩)) fun _ h => run_idx (.tmp 46) (.tmp 47) rfl _ _ _ rfl rfl HX.out.1) HS_ ?_
       refine tH 6 49 rfl rfl (gRun rfl (.agg ((pqOf d u).cells).toArray) fun _ h => run_loadA ag30 (.tmp 48) rfl bF (k * 4) rfl ((pqOf d u).cells) rfl (HX.out.2.1 _ (HM.out.1.bel h.2.2).2)) HS_ ?_
       refine tH 7 50 rfl rfl (gRun rfl (.agg ((plC (d : Nat) (A : Nat) (c : Nat) false)).toArray) fun _ h => run_loadA ag30 (.tmp 6) rfl q6 (0) rfl ((plC (d : Nat) (A : Nat) (c : Nat) false)) rfl (rows_one h.1)) HS_ ?_
       simp only [Act.put, aS, aC, aZ]
       refine oneH (i := 8) (by kernel_rfl) ?_
       refine opCallG (some 51) rfl rfl rfl 39 _ (run_call eN39 [.tmp 49, .tmp 50] _ rfl [(.agg ((pqOf d u).cells).toArray), (.agg ((plC (d : Nat) (A : Nat) (c : Nat) false)).toArray)] rfl) ?_
       refine (meet_any X (d : Nat) (d : Nat) u.1 u.2 A c false false ⟨by omega, by omega, by omega, by omega⟩).mono ?_
       rintro e Y5 ⟨he_, hb_⟩
       rw [HMB.out] at he_
       subst he_
       replace HS_ : Row Y5 q6 30 (plC (d : Nat) (A : Nat) (c : Nat) false) ∧ Row Y5 q4 30 (plC 0 0 0 false) ∧ Below w.heap.size w Y5 := ⟨HS_.1.later hb_ HS_.1.lt, HS_.2.1.later hb_ HS_.2.1.lt, HS_.2.2.trans (hb_.mono HS_.2.2.size)⟩
       have H5 : Hid (Row Y5 q6 30 (plC (d : Nat) (A : Nat) (c : Nat) false) ∧ Row Y5 q4 30 (plC 0 0 0 false) ∧ Below w.heap.size w Y5) := HS_
       clear hb_
       refine ⟨_, rfl, ?_⟩
       refine ⟨HS_, ?_⟩
       simp only [Act.put, aS, aC, aZ]
       refine tH 9 52 rfl rfl (gRun rfl (.bool (!mb)) fun _ h => run_not (.tmp 51) 4 rfl mb rfl) HS_ ?_
       refine tH 10 7 rfl rfl (gRun rfl (.bool (!mb)) fun _ h => run_asZ (.tmp 52) rfl (.bool (!mb)) rfl) HS_ ?_
       simp only [Act.put, aS, aC, aZ]
       refine wpAnyH_done (by kernel_rfl) ?_ _
       go_wp2_with fail
       refine ⟨⟨k + 1, !mb, by go_num, rfl, by omega, ⟨H5.out, ?_⟩⟩, ?_⟩
       ·have h0 := HI.out.2.1 rfl
        have hm := HMB.out
        rw [HX.out.2.2] at hm
        constructor
        ·intro e_
         have em : mb = false := (by cases mb with | false => rfl | true => cases e_)
         rw [em] at hm
         have hm := of_decide_eq_false hm
         refine ⟨h0.1, fun j hj => ?_⟩
         rcases Nat.lt_or_ge j k with q | q
         ·exact h0.2 j q
         ·have ej : j = k := (by omega)
          rw [ej]
          exact hm
        ·intro hf
         have h1 := hf.2 k (by omega)
         rw [decide_eq_false h1] at hm
         rw [← hm]
         rfl
       ·simp [intOf]; omega
     ·cases fb with
      | false =>
       go_upto_region 7 with fail
       refine wp_region_lit ?_
       refine wl rfl (.int .i64 (k : Nat)) _ (run_mvZ (.tmp 8) rfl (.int .i64 (k : Nat)) rfl) ?_
       refine wl rfl (ptr gr) _ (run_mvZ (.tmp 0) rfl (ptr gr) rfl) ?_
       refine wl rfl (ptr gr) _ (run_nil (.tmp 32) rfl ⟨gr, 0, none⟩ rfl) ?_
       refine wl rfl (.pointer (some ⟨gr, 0 + 2, none⟩)) _ (run_fieldOp' f60_2 (.tmp 33) rfl gr (0) rfl) ?_
       simp only [Act.put, aS, aC, aZ]
       refine wl rfl vu _ (run_load1 o43 (.tmp 34) rfl gr (0 + 2) rfl vu ((HM.out.1.bel HI.out.1.2.2).1.at 2 _ rfl)) ?_
       refine wl rfl (.int .i64 (us.length : Nat)) _ (run_lenPI (HM.out.1.bel HI.out.1.2.2).2 HM.out.2.2.2 (.tmp 35) rfl rfl) ?_
       refine wl rfl (.bool false) _ (run_lssZ (.tmp 31) (.tmp 36) rfl (k : Nat) (us.length : Nat) rfl rfl false (decide_eq_false (by omega))) ?_
       refine wl rfl (.bool false) _ (run_mvZ (.tmp 37) rfl (.bool false) rfl) ?_
       simp only [Act.put, aS, aC, aZ]
       refine wpList_skip (by kernel_rfl) ?_
       simp only [Act.put, aS, aC, aZ]
       refine wl rfl (.bool false) _ (run_pickZ (.tmp 38) (.tmp 39) (.const (.bool false)) rfl false (.bool false) rfl rfl) ?_
       simp only [Act.put, aS, aC, aZ]
       refine wpList_nil ?_
       have HR : Hid (¬ Room1 (n / 16) us A c) := FreeTo.not hk hc1.1 (fun hf => by have := HI.out.2.2 hf; cases this)
       go_upto_region 10 with fail
       refine wp_region_lit ?_
       refine wl rfl (.bool false) _ (run_mvZ (.tmp 7) rfl (.bool false) rfl) ?_
       simp only [Act.put, aS, aC, aZ]
       refine wpList_nil ?_
       go_upto_region 4 with fail
       refine wp_region_lit ?_
       refine wl rfl (.pointer (some ⟨q6, 0 + 1, none⟩)) _ (run_fieldOp' f30_1 (.tmp 6) rfl q6 (0) rfl) ?_
       refine wl rfl (.int .i64 (A : Nat)) _ (run_load1 o3 (.tmp 24) rfl q6 (0 + 1) rfl (.int .i64 (A : Nat)) (HI.out.1.1.at 1 _ rfl)) ?_
       refine wl rfl (.int .i64 ((A + 1 : Nat) : Int)) _ (run_addZ (.tmp 25) (.const (.int .i64 1)) rfl (A : Nat) 1 _ rfl rfl (by omega) (by omega) (by omega)) ?_
       refine wl rfl (.pointer (some ⟨q6, 0 + 1, none⟩)) _ (run_fieldOp' f30_1 (.tmp 6) rfl q6 (0) rfl) ?_
       simp only [Act.put, aS, aC, aZ]
       refine wlS rfl rfl _ (run_putRow (t := 3) sz3 (.tmp 27) (.tmp 26) rfl q6 (0 + 1) 30 _ rfl (.int .i64 ((A + 1 : Nat) : Int)) rfl ⟨rfl, rfl⟩ HI.out.1.1 (by decide : 0 + 1 < 4)) ?_
       have hb_ := (Ch.refl (· = q6) wr).setCell (Or.inl rfl) (0 + 1) (.int .i64 ((A + 1 : Nat) : Int))
       have r_ := HI.out.1.1.setCell (0 + 1) (.int .i64 ((A + 1 : Nat) : Int))
       obtain ⟨Z8, hW_⟩ : ∃ U_ : World, U_ = wr.setCell ⟨q6, 0 + 1, none⟩ (.int .i64 ((A + 1 : Nat) : Int)) := ⟨_, rfl⟩
       rw [← hW_] at hb_ r_ ⊢
       have H8 : Hid (Row Z8 q6 30 (plC (d : Nat) ((A + 1 : Nat) : Int) (c : Nat) false) ∧ Row Z8 q4 30 (plC 0 0 0 false) ∧ Below w.heap.size w Z8) := ⟨r_, hb_.row HQ.out.2.1 HI.out.1.2.1, HI.out.1.2.2.trans (hb_.below HI.out.1.2.2.size fun k hk e => by have := HQ.out.1; omega)⟩
       clear hb_ r_ hW_
       refine wpList_nil ?_
       go_wp2_with fail
       refine ⟨⟨A + 1, by omega, ⟨H8.out, fun b hb => ?_⟩⟩, ?_⟩
       ·rcases Nat.lt_or_ge b A with q | q
        ·exact HNO.out b q
        ·have eb : b = A := (by omega)
         rw [eb]
         exact HR.out
       ·rw [HAT.out, atOf_row H8.out.1]
        omega
      | true =>
       go_upto_region 7 with fail
       refine wp_region_lit ?_
       refine wl rfl (.int .i64 (k : Nat)) _ (run_mvZ (.tmp 8) rfl (.int .i64 (k : Nat)) rfl) ?_
       refine wl rfl (ptr gr) _ (run_mvZ (.tmp 0) rfl (ptr gr) rfl) ?_
       refine wl rfl (ptr gr) _ (run_nil (.tmp 32) rfl ⟨gr, 0, none⟩ rfl) ?_
       refine wl rfl (.pointer (some ⟨gr, 0 + 2, none⟩)) _ (run_fieldOp' f60_2 (.tmp 33) rfl gr (0) rfl) ?_
       simp only [Act.put, aS, aC, aZ]
       refine wl rfl vu _ (run_load1 o43 (.tmp 34) rfl gr (0 + 2) rfl vu ((HM.out.1.bel HI.out.1.2.2).1.at 2 _ rfl)) ?_
       refine wl rfl (.int .i64 (us.length : Nat)) _ (run_lenPI (HM.out.1.bel HI.out.1.2.2).2 HM.out.2.2.2 (.tmp 35) rfl rfl) ?_
       refine wl rfl (.bool false) _ (run_lssZ (.tmp 31) (.tmp 36) rfl (k : Nat) (us.length : Nat) rfl rfl false (decide_eq_false (by omega))) ?_
       refine wl rfl (.bool false) _ (run_mvZ (.tmp 37) rfl (.bool false) rfl) ?_
       simp only [Act.put, aS, aC, aZ]
       refine wpList_skip (by kernel_rfl) ?_
       simp only [Act.put, aS, aC, aZ]
       refine wl rfl (.bool false) _ (run_pickZ (.tmp 38) (.tmp 39) (.const (.bool false)) rfl false (.bool false) rfl rfl) ?_
       simp only [Act.put, aS, aC, aZ]
       refine wpList_nil ?_
       have ek : k = us.length := (by omega)
       subst ek
       have HR : Hid (Room1 (n / 16) us A c) := (HI.out.2.1 rfl).room
       go_upto_region 10 with fail
       refine wp_region_lit ?_
       refine wl rfl (.bool true) _ (run_mvZ (.tmp 7) rfl (.bool true) rfl) ?_
       simp only [Act.put, aS, aC, aZ]
       refine wpList_nil ?_
       go_upto_region 11 with fail
       refine wp_region_lit ?_
       refine wl rfl (.agg ((plC (d : Nat) (A : Nat) (c : Nat) false)).toArray) _ (run_loadA ag30 (.tmp 6) rfl q6 (0) rfl ((plC (d : Nat) (A : Nat) (c : Nat) false)) rfl (rows_one HI.out.1.1)) ?_
       simp only [Act.put, aS, aC, aZ]
       refine wlS rfl rfl _ (run_storeA ag30 (.tmp 4) (.tmp 54) rfl q4 30 rfl (plC (d : Nat) (A : Nat) (c : Nat) false) _ rfl rfl HI.out.1.2.1 rfl (plC_one _ _ _ _)) ?_
       have hb_ := (Ch.setRow (S := (· = q4)) (Ch.refl _ wr) (Or.inl rfl) (plC (d : Nat) (A : Nat) (c : Nat) false).toArray)
       have r_ := HI.out.1.2.1.setRow (plC (d : Nat) (A : Nat) (c : Nat) false)
       obtain ⟨Z9, hW_⟩ : ∃ U_ : World, U_ = wr.setRow q4 (plC (d : Nat) (A : Nat) (c : Nat) false).toArray := ⟨_, rfl⟩
       rw [← hW_] at hb_ r_ ⊢
       have H9 : Hid (Row Z9 q4 30 (plC (d : Nat) (A : Nat) (c : Nat) false) ∧ Below w.heap.size w Z9) := ⟨r_, HI.out.1.2.2.trans (hb_.below HI.out.1.2.2.size fun k hk e => by have := HQ.out.2.2; omega)⟩
       clear r_ hb_ hW_
       refine wl rfl (.bool true) _ (run_asZ (.const (.bool true)) rfl (.bool true) rfl) ?_
       simp only [Act.put, aS, aC, aZ]
       refine wpList_nil ?_
       go_wp2_with fail
       rw [HPQ.out]
       exact bodyPost_ret (results_cell_tmp ag30 Tryd.results20 _ _ q4 30 rfl (plC (d : Nat) (A : Nat) (c : Nat) false) rfl H9.out.1) rfl ⟨H9.out.2, Or.inl ⟨A, ⟨HR.out, HNO.out⟩, rfl⟩⟩
   ·go_upto_region 3 with fail
    refine wp_region_held (S := fun X => Row X q6 30 (plC (d : Nat) (A : Nat) (c : Nat) false) ∧ Row X q4 30 (plC 0 0 0 false) ∧ Below w.heap.size w X) (by kernel_rfl) ?_
    show wpAnyH _ _ _ _ _ 7 (Array.replicate 7 false) _ _
    obtain ⟨X, hX⟩ : ∃ X : World, X = { wr with drawn := wr.drawn + 1 } := ⟨_, rfl⟩
    rw [← hX]
    have HBX : Hid (Below wr.heap.size wr X) := (by rw [hX]; exact ⟨rfl, rfl, rfl, Nat.le_refl _, fun _ _ => rfl⟩)
    have HS_ : Row X q6 30 (plC (d : Nat) (A : Nat) (c : Nat) false) ∧ Row X q4 30 (plC 0 0 0 false) ∧ Below w.heap.size w X := ⟨HI.out.1.1.later HBX.out HI.out.1.1.lt, HI.out.1.2.1.later HBX.out HI.out.1.2.1.lt, HI.out.1.2.2.trans (HBX.out.mono HI.out.1.2.2.size)⟩
    have HSX : Hid (Row X q6 30 (plC (d : Nat) (A : Nat) (c : Nat) false) ∧ Row X q4 30 (plC 0 0 0 false) ∧ Below w.heap.size w X) := HS_
    clear hX
    refine tH 0 17 rfl rfl (gRun rfl (.pointer (some ⟨q6, 0 + 1, none⟩)) fun _ h => run_fieldOp' f30_1 (.tmp 6) rfl q6 (0) rfl) HS_ ?_
    refine tH 1 18 rfl rfl (gRun rfl (.int .i64 (A : Nat)) fun _ h => run_load1 o3 (.tmp 17) rfl q6 (0 + 1) rfl (.int .i64 (A : Nat)) (h.1.at 1 _ rfl)) HS_ ?_
    refine tH 2 19 rfl rfl (gRun rfl (ptr gr) fun _ h => run_mvZ (.tmp 0) rfl (ptr gr) rfl) HS_ ?_
    refine tH 3 20 rfl rfl (gRun rfl (ptr gr) fun _ h => run_nil (.tmp 19) rfl ⟨gr, 0, none⟩ rfl) HS_ ?_
    simp only [Act.put, aS, aC, aZ]
    refine tH 4 21 rfl rfl (gRun rfl (.pointer (some ⟨gr, 0 + 1, none⟩)) fun _ h => run_fieldOp' f60_1 (.tmp 20) rfl gr (0) rfl) HS_ ?_
    refine tH 5 22 rfl rfl (gRun rfl (.int .i64 (n : Nat)) fun _ h => run_load1 o3 (.tmp 21) rfl gr (0 + 1) rfl (.int .i64 (n : Nat)) ((HM.out.1.bel h.2.2).1.at 1 _ rfl)) HS_ ?_
    refine tH 6 23 rfl rfl (gRun rfl (.bool false) fun _ h => run_lssZ (.tmp 18) (.tmp 22) rfl (A : Nat) (n : Nat) rfl rfl false (decide_eq_false (by omega))) HS_ ?_
    simp only [Act.put, aS, aC, aZ]
    refine wpAnyH_done (by kernel_rfl) ?_ _
    have HNO : Hid (∀ b, b < A → ¬ Room1 (n / 16) us b c) := HI.out.2
    go_upto_region 12 with fail
    refine wp_region_lit ?_
    refine wl rfl (.agg (plC 0 0 0 false).toArray) _ (run_build30z rfl) ?_
    simp only [Act.put, aS, aC, aZ]
    refine wlS rfl rfl _ (run_storeA ag30 (.tmp 4) (.tmp 55) rfl q4 30 rfl (plC 0 0 0 false) _ rfl rfl HSX.out.2.1 rfl (plC_one _ _ _ _)) ?_
    have hb_ := (Ch.setRow (S := (· = q4)) (Ch.refl _ X) (Or.inl rfl) (plC 0 0 0 false).toArray)
    have r_ := HSX.out.2.1.setRow (plC 0 0 0 false)
    obtain ⟨Z9, hW_⟩ : ∃ U_ : World, U_ = X.setRow q4 (plC 0 0 0 false).toArray := ⟨_, rfl⟩
    rw [← hW_] at hb_ r_ ⊢
    have H9 : Hid (Row Z9 q4 30 (plC 0 0 0 false) ∧ Below w.heap.size w Z9) := ⟨r_, HSX.out.2.2.trans (hb_.below HSX.out.2.2.size fun k hk e => by have := HQ.out.2.2; omega)⟩
    clear r_ hb_ hW_
    refine wl rfl (.bool false) _ (run_asZ (.const (.bool false)) rfl (.bool false) rfl) ?_
    simp only [Act.put, aS, aC, aZ]
    refine wpList_nil ?_
    go_wp2_with fail
    rw [HPQ.out]
    exact bodyPost_ret (results_cell_tmp ag30 Tryd.results20 _ _ q4 30 rfl (plC 0 0 0 false) rfl H9.out.1) rfl ⟨H9.out.2, Or.inr ⟨fun b hb => (by rcases Nat.lt_or_ge b A with q | q; exact HNO.out b q hb; (have h1 := hb.1; omega)), rfl⟩⟩

end Go.Proofs.YthgidfoidbgnaaaDoor

namespace Go.Proofs.YthgidfoidbgnaaaDoor
open Go.RowKit Go.Maps

def natP (x : Pq) : Nat × Nat := (x.at_.toNat, x.ln.toNat)
/-- the document's Open -/
def opr (d k : Nat) : List Pq → List (Nat × Nat) → Option (List (Nat × Nat))
 | [], qs => some qs
 | x :: r, qs => if isPl d k x.dv x.at_ x.ln = true ∧ ∀ u ∈ qs, u.1 + u.2 ≤ x.at_.toNat ∨ x.at_.toNat + x.ln.toNat ≤ u.1 then opr d k r (qs ++ [natP x]) else none
theorem opn_spec (d k : Nat) : ∀ (ps : List Pq) (us : List (Nat × Nat)) (fr : List Nat) (f : Int → Option Int) (n : Nat), SegInv fr us → FM f us → fr.length = k →
  (∃ fr' f' n' us', opn d ps fr f n = some (fr', f', n') ∧ opr d k ps us = some us' ∧ SegInv fr' us' ∧ FM f' us' ∧ fr'.length = k ∧ n' ≤ n + ps.length) ∨ (opn d ps fr f n = none ∧ opr d k ps us = none) := by
 intro ps
 induction ps with
 | nil => intro us fr f n h1 h2 h3; exact Or.inl ⟨fr, f, n, us, rfl, rfl, h1, h2, h3, Nat.le_refl _⟩
 | cons x r ih =>
  intro us fr f n h1 h2 h3
  by_cases hp : isPl d k x.dv x.at_ x.ln = true
  ·have hp' : isPl d fr.length x.dv x.at_ x.ln = true := by rw [h3]; exact hp
   have hn := isPl_nat hp
   have hiff : frB fr x.at_.toNat x.ln.toNat = true ↔ ∀ u ∈ us, u.1 + u.2 ≤ x.at_.toNat ∨ x.at_.toNat + x.ln.toNat ≤ u.1 := by
    rw [frB_iff (by omega) (by omega), h1.free hn.2.2.2.1]
    exact ⟨fun h => h.2.2, fun h => ⟨by omega, by omega, h⟩⟩
   by_cases hf : ∀ u ∈ us, u.1 + u.2 ≤ x.at_.toNat ∨ x.at_.toNat + x.ln.toNat ≤ u.1
   ·have hr : Room1 fr.length us x.at_.toNat x.ln.toNat := ⟨by omega, by omega, hf⟩
    have e1 : opn d (x :: r) fr f n = opn d r (fr.set (x.at_.toNat / 16) (lessM (fr.getD (x.at_.toNat / 16) 0) (rowM (x.at_.toNat % 16) x.ln.toNat))) (fun q => if q = (x.at_.toNat : Nat) then some (x.ln.toNat : Nat) else f q) (if (f (x.at_.toNat : Nat)).isSome then n else n + 1) := by
     show (if _ then _ else _) = _
     rw [if_pos ⟨hp', hiff.2 hf⟩]
    have e2 : opr d k (x :: r) us = opr d k r (us ++ [natP x]) := by
     show (if _ then _ else _) = _
     rw [if_pos ⟨hp, hf⟩]
    rw [e1, e2]
    rcases ih (us ++ [natP x]) _ (fun q => if q = (x.at_.toNat : Nat) then some (x.ln.toNat : Nat) else f q) (if (f (x.at_.toNat : Nat)).isSome then n else n + 1) (h1.take hn.2.2.2.1 hr) (h2.take (apart_fst h1 hn.2.2.2.1 hr)) (by rw [List.length_set]; exact h3) with ⟨fr', f', n', us', a1, a2, a3, a4, a5, a6⟩ | h
    ·refine Or.inl ⟨fr', f', n', us', a1, a2, a3, a4, a5, ?_⟩
     rw [List.length_cons]
     split at a6 <;> omega
    ·exact Or.inr h
   ·refine Or.inr ⟨?_, ?_⟩
    ·show (if _ then _ else _) = _
     rw [if_neg (fun h => hf (hiff.1 h.2))]
    ·show (if _ then _ else _) = _
     rw [if_neg (fun h => hf h.2)]
  ·refine Or.inr ⟨?_, ?_⟩
   ·show (if _ then _ else _) = _
    rw [if_neg (fun h => hp (by rw [← h3]; exact h.1))]
   ·show (if _ then _ else _) = _
    rw [if_neg (fun h => hp h.1)]
theorem nodup_len : ∀ (N : Nat) (l : List Nat), l.Nodup → (∀ x ∈ l, x < N) → l.length ≤ N := by
 intro N
 induction N with
 | zero =>
  intro l _ h
  cases l with
  | nil => exact Nat.le_refl _
  | cons x r => exact absurd (h x (by simp)) (Nat.not_lt_zero _)
 | succ N ih =>
  intro l hd h
  by_cases hm : N ∈ l
  ·have h1 := ih (l.erase N) (hd.erase N) (fun x hx => by
    have := (hd.mem_erase_iff).1 hx
    have := h x this.2
    omega)
   rw [List.length_erase_of_mem hm] at h1
   omega
  ·exact Nat.le_succ_of_le (ih l hd fun x hx => by
    have h1 := h x hx
    have h2 : x ≠ N := fun e => hm (e ▸ hx)
    omega)
/-- places that are apart -/
structure Apt (k : Nat) (qs : List (Nat × Nat)) : Prop where
 ok : ∀ u ∈ qs, 1 ≤ u.2 ∧ u.1 / 16 < k ∧ u.1 % 16 + u.2 ≤ 16
 apart : qs.Pairwise fun a b => a.1 + a.2 ≤ b.1 ∨ b.1 + b.2 ≤ a.1
theorem Apt.len {k : Nat} {qs : List (Nat × Nat)} (h : Apt k qs) : qs.length ≤ 16 * k := by
 have h1 : (qs.map Prod.fst).Nodup := by
  refine List.pairwise_map.2 ?_
  refine h.apart.imp_of_mem fun {a b} ha hb hab e => ?_
  have h2 := h.ok a ha
  have h3 := h.ok b hb
  omega
 have := nodup_len (16 * k) (qs.map Prod.fst) h1 (fun x hx => by
  obtain ⟨u, hu, rfl⟩ := List.mem_map.1 hx
  have := h.ok u hu
  omega)
 rwa [List.length_map] at this
end Go.Proofs.YthgidfoidbgnaaaDoor

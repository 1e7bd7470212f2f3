/- Layer 14: free sectors. -/
import Derived.Test.YthgidfoidbgnaaaDoorE25
namespace Go.Proofs.YthgidfoidbgnaaaDoor
open Go.RowKit Go.Maps


theorem and_eq_iff (s r : Nat) : s &&& r = r ↔ ∀ j, r.testBit j = true → s.testBit j = true := by
 constructor
 ·intro h j hj
  have := congrArg (fun x => x.testBit j) h
  simp only [Nat.testBit_and] at this
  rw [hj, Bool.and_true] at this
  exact this
 ·intro h
  apply Nat.eq_of_testBit_eq
  intro j
  rw [Nat.testBit_and]
  cases hr : r.testBit j with
  | false => simp
  | true => rw [h j hr]; rfl
theorem allFree_iff {fr : List Nat} {a l : Nat} (h1 : a / 16 < fr.length) (h2 : a % 16 + l ≤ 16) : fr.getD (a / 16) 0 &&& rowM (a % 16) l = rowM (a % 16) l ↔ AllFree fr a l := by
 rw [and_eq_iff]
 constructor
 ·intro h
  exact ⟨h1, h2, fun i hi => h _ (by rw [rowM_bit]; exact decide_eq_true (by omega))⟩
 ·rintro ⟨_, _, h⟩ j hj
  rw [rowM_bit] at hj
  have := of_decide_eq_true hj
  have := h (j - a % 16) (by omega)
  rw [show a % 16 + (j - a % 16) = j by omega] at this
  exact this
/-- are all l sectors from a on free? -/
def frB (fr : List Nat) (a l : Nat) : Bool := decide (fr.getD (a / 16) 0 &&& rowM (a % 16) l = rowM (a % 16) l)
theorem frB_iff {fr : List Nat} {a l : Nat} (h1 : a / 16 < fr.length) (h2 : a % 16 + l ≤ 16) : frB fr a l = true ↔ AllFree fr a l := by
 unfold frB
 rw [decide_eq_true_eq]
 exact allFree_iff h1 h2
/-- the first place of n sectors that is free -/
def FirstFit (fr : List Nat) (a n : Nat) : Prop := AllFree fr a n ∧ ∀ b, b < a → ¬ AllFree fr b n
theorem seg_bit {fr : List Nat} {a N : Nat} (h : AllFree fr a (N + 1)) : (moves N (fr.getD (a / 16) 0)).testBit (a % 16) = true := (moves_bit _ N _).2 fun i hi => h.2.2 i (by omega)
theorem seg_none {fr : List Nat} {i N : Nat} (hz : moves N (fr.getD i 0) = 0) (a : Nat) (ha : a / 16 = i) : ¬ AllFree fr a (N + 1) := fun h => by
 have := seg_bit h
 rw [ha, hz, Nat.zero_testBit] at this
 cases this
theorem seg_some {fr : List Nat} {i j N : Nat} (h : ∀ a, a / 16 < i → ¬ AllFree fr a (N + 1)) (hi : i < fr.length) (hs : fr.getD i 0 < 65536) (hj : j < 16) (hl : LowB (moves N (fr.getD i 0)) j) : FirstFit fr (16 * i + j) (N + 1) := by
 have e1 : (16 * i + j) / 16 = i := by omega
 have e2 : (16 * i + j) % 16 = j := by omega
 have hb := (moves_bit _ N j).1 hl.1
 have hN : j + N < 16 := by
  rcases Nat.lt_or_ge (j + N) 16 with k | k
  ·exact k
  ·have := hb N (Nat.le_refl _)
   rw [Nat.testBit_lt_two_pow (Nat.lt_of_lt_of_le hs (Nat.pow_le_pow_right (show 0 < 2 by decide) k))] at this
   cases this
 refine ⟨⟨by rw [e1]; exact hi, by rw [e2]; omega, fun k hk => by rw [e1, e2]; exact hb k (by omega)⟩, fun b hb' hA => ?_⟩
 rcases Nat.lt_or_ge (b / 16) i with k | k
 ·exact h b k hA
 ·have e3 : b / 16 = i := by omega
  have h3 := seg_bit hA
  rw [e3, hl.2 (b % 16) (by omega)] at h3
  cases h3
set_option maxHeartbeats 4000000 in
set_option maxRecDepth 100000 in
theorem isFree_any {w : World} {gh gp gf gm d n : Nat} {fr : List Nat} {f : Int → Option Int} (h : HotM w gh gp gf gm d n fr f) (hf : ∀ s ∈ fr, s < 65536) (dv : Int) (A l : Nat) (bd : Bool) (ha : A ≤ 9223372036854775807) (h1 : A / 16 < fr.length) (h2 : A % 16 + l ≤ 16) : Calls Tryd.prog 36 #[ptr gh, .agg (plC dv (A : Nat) (l : Nat) bd).toArray] w fun e w' => e = .returned (.bool (frB fr A l)) ∧ Below w.heap.size w w' := by
 obtain ⟨at_, hat⟩ : ∃ z : Int, z = (A : Nat) := ⟨_, rfl⟩
 obtain ⟨ln, hln⟩ : ∃ z : Int, z = (l : Nat) := ⟨_, rfl⟩
 have HM : Hid (HotM w gh gp gf gm d n fr f) := h
 obtain ⟨s, hs⟩ : ∃ s, s = fr.getD (A / 16) 0 := ⟨_, rfl⟩
 obtain ⟨r, hr⟩ : ∃ r, r = rowM (A % 16) l := ⟨_, rfl⟩
 have HS : Hid (s < 65536 ∧ r < 65536 ∧ s = fr.getD (A / 16) 0 ∧ r = rowM (A % 16) l ∧ decide (s &&& r = r) = frB fr A l) := ⟨by rw [hs]; exact getD_mem_lt hf _, by rw [hr]; exact rowM_lt h2, hs, hr, by rw [hs, hr]; rfl⟩
 clear h hf hs hr
 obtain ⟨PQ, HPQ⟩ := exPQ fun (e : Ending) (w' : World) => e = .returned (.bool (frB fr A l)) ∧ Below w.heap.size w w'
 rw [← HPQ.out]
 rw [← hat, ← hln]
 go_enter Tryd.func36, Tryd.ntmps36
 go_upto_region 0 with fail
 refine wp_region_lit ?_
 refine wl rfl (ptr w.heap.size) _ (run_boxA (.tmp 1) rfl (plC dv at_ ln bd) rfl) ?_
 have hb_ := below_alloc w (.cells (plC dv at_ ln bd).toArray 30)
 have r_ := Row.new w 30 (plC dv at_ ln bd)
 obtain ⟨w1, hW_⟩ : ∃ W, W = w.alloc (.cells (plC dv at_ ln bd).toArray 30) := ⟨_, rfl⟩
 obtain ⟨q, hq_⟩ : ∃ q, q = w.heap.size := ⟨_, rfl⟩
 rw [← hW_] at hb_
 rw [← hW_, ← hq_] at r_
 rw [← hW_, ← hq_]
 have HA : Hid (Row w1 q 30 (plC dv at_ ln bd) ∧ HotM w1 gh gp gf gm d n fr f) := ⟨r_, HM.out.later hb_⟩
 have HB1 : Hid (Below w.heap.size w w1 ∧ w.heap.size ≤ q) := ⟨hb_, by omega⟩
 clear r_ hb_ hW_ hq_
 simp only [Act.put, aS, aC, aZ]
 refine wl rfl (.bool false) _ (run_asZ (.const (.bool false)) rfl (.bool false) rfl) ?_
 simp only [Act.put, aS, aC, aZ]
 refine wpList_nil ?_
 subst hat hln
 go_upto_region 1 with fail
 refine wp_region_lit ?_
 refine wl rfl (.pointer (some ⟨q, 0 + 1, none⟩)) _ (run_fieldOp' f30_1 (.tmp 3) rfl q (0) rfl) ?_
 refine wl rfl (.int .i64 (A : Nat)) _ (run_load1 o3 (.tmp 8) rfl q (0 + 1) rfl (.int .i64 (A : Nat)) (HA.out.1.at 1 _ rfl)) ?_
 simp only [Act.put, aS, aC, aZ]
 refine wpList_callW eN52 [.tmp 9] _ rfl rfl [(.int .i64 (A : Nat))] rfl ?_
 refine (split_any w1 A ha).mono ?_
 rintro e w_ ⟨rfl, rfl⟩
 refine ⟨_, rfl, ?_⟩
 simp only [Act.put, aS, aC, aZ]
 refine wl rfl (.tuple #[(.int .i64 ((A / 16 : Nat) : Int)), (.int .i64 ((A % 16 : Nat) : Int))]) _ (run_mvZ (.tmp 10) rfl (.tuple #[(.int .i64 ((A / 16 : Nat) : Int)), (.int .i64 ((A % 16 : Nat) : Int))]) rfl) ?_
 refine wl rfl (.int .i64 ((A / 16 : Nat) : Int)) _ (run_extZ (.tmp 7) 0 rfl #[(.int .i64 ((A / 16 : Nat) : Int)), (.int .i64 ((A % 16 : Nat) : Int))] rfl (.int .i64 ((A / 16 : Nat) : Int)) rfl) ?_
 refine wl rfl (.int .i64 ((A % 16 : Nat) : Int)) _ (run_extZ (.tmp 7) 1 rfl #[(.int .i64 ((A / 16 : Nat) : Int)), (.int .i64 ((A % 16 : Nat) : Int))] rfl (.int .i64 ((A % 16 : Nat) : Int)) rfl) ?_
 refine wl rfl (.int .i64 ((A / 16 : Nat) : Int)) _ (run_asZ (.tmp 11) rfl (.int .i64 ((A / 16 : Nat) : Int)) rfl) ?_
 simp only [Act.put, aS, aC, aZ]
 refine wl rfl (.int .i64 ((A % 16 : Nat) : Int)) _ (run_asZ (.tmp 12) rfl (.int .i64 ((A % 16 : Nat) : Int)) rfl) ?_
 simp only [Act.put, aS, aC, aZ]
 refine wpList_nil ?_
 go_upto_region 2 with fail
 refine wp_region_held (S := fun X => Row X q 30 (plC dv (A : Nat) (l : Nat) bd) ∧ HotM X gh gp gf gm d n fr f) (by kernel_rfl) ?_
 show wpAnyH _ _ _ _ _ 13 (Array.replicate 13 false) _ _
 obtain ⟨X, hX⟩ : ∃ X : World, X = { w1 with drawn := w1.drawn + 1 } := ⟨_, rfl⟩
 rw [← hX]
 have HS_ : Row X q 30 (plC dv (A : Nat) (l : Nat) bd) ∧ HotM X gh gp gf gm d n fr f := by rw [hX]; exact ⟨HA.out.1, HA.out.2.later ⟨rfl, rfl, rfl, Nat.le_refl _, fun _ _ => rfl⟩⟩
 have HAX : Hid (Row X q 30 (plC dv (A : Nat) (l : Nat) bd) ∧ HotM X gh gp gf gm d n fr f) := HS_
 have HBX : Hid (Below w1.heap.size w1 X) := hX ▸ ⟨rfl, rfl, rfl, Nat.le_refl _, fun _ _ => rfl⟩
 clear hX
 refine tH 0 13 rfl rfl (gRun rfl (ptr gh) fun _ h => run_mvZ (.tmp 0) rfl (ptr gh) rfl) HS_ ?_
 refine tH 1 14 rfl rfl (gRun rfl (ptr gh) fun _ h => run_nil (.tmp 13) rfl ⟨gh, 0, none⟩ rfl) HS_ ?_
 refine tH 2 15 rfl rfl (gRun rfl (.pointer (some ⟨gh, 0 + 2, none⟩)) fun _ h => run_fieldOp' f90_2 (.tmp 14) rfl gh (0) rfl) HS_ ?_
 refine tH 3 16 rfl rfl (gRun rfl (whole gf fr.length) fun _ h => run_load1 o86 (.tmp 15) rfl gh (0 + 2) rfl (whole gf fr.length) (h.2.row.at 2 _ rfl)) HS_ ?_
 simp only [Act.put, aS, aC, aZ]
 refine tH 4 17 rfl rfl (gRun rfl (.int .i64 ((A / 16 : Nat) : Int)) fun _ h => run_mvZ (.tmp 5) rfl (.int .i64 ((A / 16 : Nat) : Int)) rfl) HS_ ?_
 refine tH 5 18 rfl rfl (gRun rfl (.pointer (some ⟨gf, A / 16, none⟩)) fun _ h => run_idx (.tmp 16) (.tmp 17) rfl _ _ _ rfl rfl (ix86 gf fr.length (A / 16) h1)) HS_ ?_
 refine tH 6 19 rfl rfl (gRun rfl (.int .u16 (s : Nat)) fun _ h => run_load1 o114 (.tmp 18) rfl gf (A / 16) rfl (.int .u16 (s : Nat)) (by rw [HS.out.2.2.1]; exact h.2.free.at (A / 16) _ (u16C_at fr _ h1))) HS_ ?_
 refine tH 7 20 rfl rfl (gRun rfl (.int .i64 ((A % 16 : Nat) : Int)) fun _ h => run_mvZ (.tmp 6) rfl (.int .i64 ((A % 16 : Nat) : Int)) rfl) HS_ ?_
 simp only [Act.put, aS, aC, aZ]
 refine tH 8 21 rfl rfl (gRun rfl (.pointer (some ⟨q, 0 + 2, none⟩)) fun _ h => run_fieldOp' f30_2 (.tmp 3) rfl q (0) rfl) HS_ ?_
 refine tH 9 22 rfl rfl (gRun rfl (.int .i64 (l : Nat)) fun _ h => run_load1 o3 (.tmp 21) rfl q (0 + 2) rfl (.int .i64 (l : Nat)) (h.1.at 2 _ rfl)) HS_ ?_
 simp only [Act.put, aS, aC, aZ]
 refine oneH (i := 10) (by kernel_rfl) ?_
 refine opCallG (some 23) rfl rfl rfl 53 _ (run_call eN53 [.tmp 20, .tmp 22] _ rfl [(.int .i64 ((A % 16 : Nat) : Int)), (.int .i64 (l : Nat))] rfl) ?_
 refine (row_any X (A % 16) l h2).mono ?_
 rintro e w_ ⟨he_, rfl⟩
 rw [← HS.out.2.2.2.1] at he_
 subst he_
 refine ⟨_, rfl, ?_⟩
 refine ⟨HS_, ?_⟩
 simp only [Act.put, aS, aC, aZ]
 refine oneH (i := 11) (by kernel_rfl) ?_
 refine opCallG (some 24) rfl rfl rfl 58 _ (run_call eN58 [.tmp 19, .tmp 23] _ rfl [(.int .u16 (s : Nat)), (.int .u16 (r : Nat))] rfl) ?_
 refine (has_any X s r HS.out.1 HS.out.2.1).mono ?_
 rintro e w_ ⟨rfl, rfl⟩
 refine ⟨_, rfl, ?_⟩
 refine ⟨HS_, ?_⟩
 simp only [Act.put, aS, aC, aZ]
 refine tH 12 4 rfl rfl (gRun rfl (.bool (decide (s &&& r = r))) fun _ h => run_asZ (.tmp 24) rfl (.bool (decide (s &&& r = r))) rfl) HS_ ?_
 simp only [Act.put, aS, aC, aZ]
 refine wpAnyH_done (by kernel_rfl) ?_ _
 go_wp2_with fail
 rw [HPQ.out]
 exact ⟨by rw [← HS.out.2.2.2.2]; rfl, HB1.out.1.trans (HBX.out.mono HB1.out.1.size)⟩
/-- is that a place in use? -/
def usB (d : Nat) (f : Int → Option Int) (dv at_ ln : Int) : Bool := decide (f at_ = some ln ∧ dv = (d : Int))
theorem run_look88 {w : World} {a : Act} {o : Oper} {b n : Nat} {f : Int → Option Int} (h : MapN w b n f) (m x : Operand) (ho : o.op = .lookup 88 m x true) (p : Int) (hp : I64 p) (hm : a.eval m = .map (some b)) (hx : a.eval x = .int .i64 p) (z : Int) (t : Bool) (hz : (f p).getD 0 = z) (ht : (f p).isSome = t) : (execOp a.eval o).run Tryd.prog w = .ok (.value (.tuple #[.int .i64 z, .bool t])) w := by
 subst hz ht
 exact run_lookI h m x ho p (Wf.of hp) hm hx
set_option maxHeartbeats 4000000 in
set_option maxRecDepth 100000 in
theorem isUsed_any {w : World} {gh gp gf gm d n : Nat} {fr : List Nat} {f : Int → Option Int} (h : HotM w gh gp gf gm d n fr f) (dv at_ ln : Int) (bd : Bool) (ha : I64 at_) : Calls Tryd.prog 49 #[ptr gh, .agg (plC dv at_ ln bd).toArray] w fun e w' => e = .returned (.bool (usB d f dv at_ ln)) ∧ Below w.heap.size w w' := by
 have HM : Hid (HotM w gh gp gf gm d n fr f) := h
 have HI : Hid (I64 at_) := ha
 clear h ha
 obtain ⟨PQ, HPQ⟩ := exPQ fun (e : Ending) (w' : World) => e = .returned (.bool (usB d f dv at_ ln)) ∧ Below w.heap.size w w'
 rw [← HPQ.out]
 go_enter Tryd.func49, Tryd.ntmps49
 go_upto_region 0 with fail
 refine wp_region_lit ?_
 refine wl rfl (ptr w.heap.size) _ (run_boxA (.tmp 1) rfl (plC dv at_ ln bd) rfl) ?_
 have hb_ := below_alloc w (.cells (plC dv at_ ln bd).toArray 30)
 have r_ := Row.new w 30 (plC dv at_ ln bd)
 obtain ⟨w1, hW_⟩ : ∃ W, W = w.alloc (.cells (plC dv at_ ln bd).toArray 30) := ⟨_, rfl⟩
 obtain ⟨q, hq_⟩ : ∃ q, q = w.heap.size := ⟨_, rfl⟩
 rw [← hW_] at hb_
 rw [← hW_, ← hq_] at r_
 rw [← hW_, ← hq_]
 have HA : Hid (Row w1 q 30 (plC dv at_ ln bd) ∧ HotM w1 gh gp gf gm d n fr f) := ⟨r_, HM.out.later hb_⟩
 have HB1 : Hid (Below w.heap.size w w1 ∧ w.heap.size ≤ q) := ⟨hb_, by omega⟩
 clear r_ hb_ hW_ hq_
 simp only [Act.put, aS, aC, aZ]
 refine wl rfl (.bool false) _ (run_asZ (.const (.bool false)) rfl (.bool false) rfl) ?_
 simp only [Act.put, aS, aC, aZ]
 refine wpList_nil ?_
 cases hf : f at_ with
 | none =>
  have HF : Hid (f at_ = none) := hf
  clear hf
  go_upto_region 1 with fail
  refine wp_region_held (S := fun X => Row X q 30 (plC dv at_ ln bd) ∧ HotM X gh gp gf gm d n fr f) (by kernel_rfl) ?_
  show wpAnyH _ _ _ _ _ 12 (Array.replicate 12 false) _ _
  obtain ⟨X, hX⟩ : ∃ X : World, X = { w1 with drawn := w1.drawn + 1 } := ⟨_, rfl⟩
  rw [← hX]
  have HS_ : Row X q 30 (plC dv at_ ln bd) ∧ HotM X gh gp gf gm d n fr f := by rw [hX]; exact ⟨HA.out.1, HA.out.2.later ⟨rfl, rfl, rfl, Nat.le_refl _, fun _ _ => rfl⟩⟩
  have HAX : Hid (Row X q 30 (plC dv at_ ln bd) ∧ HotM X gh gp gf gm d n fr f) := HS_
  have HBX : Hid (Below w1.heap.size w1 X) := hX ▸ ⟨rfl, rfl, rfl, Nat.le_refl _, fun _ _ => rfl⟩
  clear hX
  refine tH 0 8 rfl rfl (gRun rfl (ptr gh) fun _ h => run_mvZ (.tmp 0) rfl (ptr gh) rfl) HS_ ?_
  refine tH 1 9 rfl rfl (gRun rfl (ptr gh) fun _ h => run_nil (.tmp 8) rfl ⟨gh, 0, none⟩ rfl) HS_ ?_
  refine tH 2 10 rfl rfl (gRun rfl (.pointer (some ⟨gh, 0 + 3, none⟩)) fun _ h => run_fieldOp' f90_3 (.tmp 9) rfl gh (0) rfl) HS_ ?_
  refine tH 3 11 rfl rfl (gRun rfl (.map (some gm)) fun _ h => run_load1 o88 (.tmp 10) rfl gh (0 + 3) rfl (.map (some gm)) (h.2.row.at 3 _ rfl)) HS_ ?_
  simp only [Act.put, aS, aC, aZ]
  refine tH 4 12 rfl rfl (gRun rfl (.pointer (some ⟨q, 0 + 1, none⟩)) fun _ h => run_fieldOp' f30_1 (.tmp 3) rfl q (0) rfl) HS_ ?_
  refine tH 5 13 rfl rfl (gRun rfl (.int .i64 at_) fun _ h => run_load1 o3 (.tmp 12) rfl q (0 + 1) rfl (.int .i64 at_) (h.1.at 1 _ rfl)) HS_ ?_
  refine tH 6 14 rfl rfl (gRun rfl (.tuple #[(.int .i64 0), (.bool false)]) fun _ h => run_look88 h.2.map (.tmp 11) (.tmp 13) rfl at_ HI.out rfl rfl 0 false (by rw [HF.out]; rfl) (by rw [HF.out]; rfl)) HS_ ?_
  refine tH 7 7 rfl rfl (gRun rfl (.tuple #[(.int .i64 0), (.bool false)]) fun _ h => run_mvZ (.tmp 14) rfl (.tuple #[(.int .i64 0), (.bool false)]) rfl) HS_ ?_
  simp only [Act.put, aS, aC, aZ]
  refine tH 8 15 rfl rfl (gRun rfl (.int .i64 0) fun _ h => run_extZ (.tmp 7) 0 rfl #[(.int .i64 0), (.bool false)] rfl (.int .i64 0) rfl) HS_ ?_
  refine tH 9 16 rfl rfl (gRun rfl (.bool false) fun _ h => run_extZ (.tmp 7) 1 rfl #[(.int .i64 0), (.bool false)] rfl (.bool false) rfl) HS_ ?_
  refine tH 10 5 rfl rfl (gRun rfl (.int .i64 0) fun _ h => run_asZ (.tmp 15) rfl (.int .i64 0) rfl) HS_ ?_
  refine tH 11 6 rfl rfl (gRun rfl (.bool false) fun _ h => run_asZ (.tmp 16) rfl (.bool false) rfl) HS_ ?_
  simp only [Act.put, aS, aC, aZ]
  refine wpAnyH_done (by kernel_rfl) ?_ _
  go_upto_region 2 with fail
  refine wp_region_held (S := fun X => Row X q 30 (plC dv at_ ln bd) ∧ HotM X gh gp gf gm d n fr f) (by kernel_rfl) ?_
  show wpAnyH _ _ _ _ _ 17 (Array.replicate 17 false) _ _
  obtain ⟨Y, hX⟩ : ∃ Y : World, Y = { X with drawn := X.drawn + 1 } := ⟨_, rfl⟩
  rw [← hX]
  have HT_ : Row Y q 30 (plC dv at_ ln bd) ∧ HotM Y gh gp gf gm d n fr f := by rw [hX]; exact ⟨HAX.out.1, HAX.out.2.later ⟨rfl, rfl, rfl, Nat.le_refl _, fun _ _ => rfl⟩⟩
  have HBY : Hid (Below X.heap.size X Y) := hX ▸ ⟨rfl, rfl, rfl, Nat.le_refl _, fun _ _ => rfl⟩
  clear hX
  refine tH 0 17 rfl rfl (gRun rfl (.bool false) fun _ h => run_mvZ (.tmp 6) rfl (.bool false) rfl) HT_ ?_
  refine tH 1 18 rfl rfl (gRun rfl (.bool false) fun _ h => run_mvZ (.tmp 17) rfl (.bool false) rfl) HT_ ?_
  refine tH 2 19 rfl rfl (Or.inr ⟨by kernel_rfl, rfl⟩) HT_ ?_
  refine tH 3 20 rfl rfl (Or.inr ⟨by kernel_rfl, rfl⟩) HT_ ?_
  simp only [Act.put, aS, aC, aZ]
  refine tH 4 21 rfl rfl (Or.inr ⟨by kernel_rfl, rfl⟩) HT_ ?_
  refine tH 5 22 rfl rfl (Or.inr ⟨by kernel_rfl, rfl⟩) HT_ ?_
  refine tH 6 23 rfl rfl (gRun rfl (.bool false) fun _ h => run_pickZ (.tmp 18) (.tmp 22) (.const (.bool false)) rfl false (.bool false) rfl rfl) HT_ ?_
  refine tH 7 24 rfl rfl (gRun rfl (.bool false) fun _ h => run_mvZ (.tmp 23) rfl (.bool false) rfl) HT_ ?_
  simp only [Act.put, aS, aC, aZ]
  refine tH 8 25 rfl rfl (Or.inr ⟨by kernel_rfl, rfl⟩) HT_ ?_
  refine tH 9 26 rfl rfl (Or.inr ⟨by kernel_rfl, rfl⟩) HT_ ?_
  refine tH 10 27 rfl rfl (Or.inr ⟨by kernel_rfl, rfl⟩) HT_ ?_
  refine tH 11 28 rfl rfl (Or.inr ⟨by kernel_rfl, rfl⟩) HT_ ?_
  simp only [Act.put, aS, aC, aZ]
  refine tH 12 29 rfl rfl (Or.inr ⟨by kernel_rfl, rfl⟩) HT_ ?_
  refine tH 13 30 rfl rfl (Or.inr ⟨by kernel_rfl, rfl⟩) HT_ ?_
  refine tH 14 31 rfl rfl (Or.inr ⟨by kernel_rfl, rfl⟩) HT_ ?_
  refine tH 15 32 rfl rfl (gRun rfl (.bool false) fun _ h => run_pickZ (.tmp 24) (.tmp 31) (.const (.bool false)) rfl false (.bool false) rfl rfl) HT_ ?_
  simp only [Act.put, aS, aC, aZ]
  refine tH 16 4 rfl rfl (gRun rfl (.bool false) fun _ h => run_asZ (.tmp 32) rfl (.bool false) rfl) HT_ ?_
  simp only [Act.put, aS, aC, aZ]
  refine wpAnyH_done (by kernel_rfl) ?_ _
  go_wp2_with fail
  rw [HPQ.out]
  exact ⟨by unfold usB; rw [decide_eq_false (fun k => by rw [HF.out] at k; cases k.1)] <;> rfl, HB1.out.1.trans ((HBX.out.trans (HBY.out.mono HBX.out.size)).mono HB1.out.1.size)⟩
 | some z =>
  have HF : Hid (f at_ = some z) := hf
  clear hf
  by_cases c22 : z = ln
  case neg =>
   go_upto_region 1 with fail
   refine wp_region_held (S := fun X => Row X q 30 (plC dv at_ ln bd) ∧ HotM X gh gp gf gm d n fr f) (by kernel_rfl) ?_
   show wpAnyH _ _ _ _ _ 12 (Array.replicate 12 false) _ _
   obtain ⟨X, hX⟩ : ∃ X : World, X = { w1 with drawn := w1.drawn + 1 } := ⟨_, rfl⟩
   rw [← hX]
   have HS_ : Row X q 30 (plC dv at_ ln bd) ∧ HotM X gh gp gf gm d n fr f := by rw [hX]; exact ⟨HA.out.1, HA.out.2.later ⟨rfl, rfl, rfl, Nat.le_refl _, fun _ _ => rfl⟩⟩
   have HAX : Hid (Row X q 30 (plC dv at_ ln bd) ∧ HotM X gh gp gf gm d n fr f) := HS_
   have HBX : Hid (Below w1.heap.size w1 X) := hX ▸ ⟨rfl, rfl, rfl, Nat.le_refl _, fun _ _ => rfl⟩
   clear hX
   refine tH 0 8 rfl rfl (gRun rfl (ptr gh) fun _ h => run_mvZ (.tmp 0) rfl (ptr gh) rfl) HS_ ?_
   refine tH 1 9 rfl rfl (gRun rfl (ptr gh) fun _ h => run_nil (.tmp 8) rfl ⟨gh, 0, none⟩ rfl) HS_ ?_
   refine tH 2 10 rfl rfl (gRun rfl (.pointer (some ⟨gh, 0 + 3, none⟩)) fun _ h => run_fieldOp' f90_3 (.tmp 9) rfl gh (0) rfl) HS_ ?_
   refine tH 3 11 rfl rfl (gRun rfl (.map (some gm)) fun _ h => run_load1 o88 (.tmp 10) rfl gh (0 + 3) rfl (.map (some gm)) (h.2.row.at 3 _ rfl)) HS_ ?_
   simp only [Act.put, aS, aC, aZ]
   refine tH 4 12 rfl rfl (gRun rfl (.pointer (some ⟨q, 0 + 1, none⟩)) fun _ h => run_fieldOp' f30_1 (.tmp 3) rfl q (0) rfl) HS_ ?_
   refine tH 5 13 rfl rfl (gRun rfl (.int .i64 at_) fun _ h => run_load1 o3 (.tmp 12) rfl q (0 + 1) rfl (.int .i64 at_) (h.1.at 1 _ rfl)) HS_ ?_
   refine tH 6 14 rfl rfl (gRun rfl (.tuple #[(.int .i64 z), (.bool true)]) fun _ h => run_look88 h.2.map (.tmp 11) (.tmp 13) rfl at_ HI.out rfl rfl z true (by rw [HF.out]; rfl) (by rw [HF.out]; rfl)) HS_ ?_
   refine tH 7 7 rfl rfl (gRun rfl (.tuple #[(.int .i64 z), (.bool true)]) fun _ h => run_mvZ (.tmp 14) rfl (.tuple #[(.int .i64 z), (.bool true)]) rfl) HS_ ?_
   simp only [Act.put, aS, aC, aZ]
   refine tH 8 15 rfl rfl (gRun rfl (.int .i64 z) fun _ h => run_extZ (.tmp 7) 0 rfl #[(.int .i64 z), (.bool true)] rfl (.int .i64 z) rfl) HS_ ?_
   refine tH 9 16 rfl rfl (gRun rfl (.bool true) fun _ h => run_extZ (.tmp 7) 1 rfl #[(.int .i64 z), (.bool true)] rfl (.bool true) rfl) HS_ ?_
   refine tH 10 5 rfl rfl (gRun rfl (.int .i64 z) fun _ h => run_asZ (.tmp 15) rfl (.int .i64 z) rfl) HS_ ?_
   refine tH 11 6 rfl rfl (gRun rfl (.bool true) fun _ h => run_asZ (.tmp 16) rfl (.bool true) rfl) HS_ ?_
   simp only [Act.put, aS, aC, aZ]
   refine wpAnyH_done (by kernel_rfl) ?_ _
   go_upto_region 2 with fail
   refine wp_region_held (S := fun X => Row X q 30 (plC dv at_ ln bd) ∧ HotM X gh gp gf gm d n fr f) (by kernel_rfl) ?_
   show wpAnyH _ _ _ _ _ 17 (Array.replicate 17 false) _ _
   obtain ⟨Y, hX⟩ : ∃ Y : World, Y = { X with drawn := X.drawn + 1 } := ⟨_, rfl⟩
   rw [← hX]
   have HT_ : Row Y q 30 (plC dv at_ ln bd) ∧ HotM Y gh gp gf gm d n fr f := by rw [hX]; exact ⟨HAX.out.1, HAX.out.2.later ⟨rfl, rfl, rfl, Nat.le_refl _, fun _ _ => rfl⟩⟩
   have HBY : Hid (Below X.heap.size X Y) := hX ▸ ⟨rfl, rfl, rfl, Nat.le_refl _, fun _ _ => rfl⟩
   clear hX
   refine tH 0 17 rfl rfl (gRun rfl (.bool true) fun _ h => run_mvZ (.tmp 6) rfl (.bool true) rfl) HT_ ?_
   refine tH 1 18 rfl rfl (gRun rfl (.bool true) fun _ h => run_mvZ (.tmp 17) rfl (.bool true) rfl) HT_ ?_
   refine tH 2 19 rfl rfl (gRun (by kernel_rfl) (.int .i64 z) fun _ h => run_mvZ (.tmp 5) rfl (.int .i64 z) rfl) HT_ ?_
   refine tH 3 20 rfl rfl (gRun (by kernel_rfl) (.pointer (some ⟨q, 0 + 2, none⟩)) fun _ h => run_fieldOp' f30_2 (.tmp 3) rfl q (0) rfl) HT_ ?_
   simp only [Act.put, aS, aC, aZ]
   refine tH 4 21 rfl rfl (gRun (by kernel_rfl) (.int .i64 ln) fun _ h => run_load1 o3 (.tmp 20) rfl q (0 + 2) rfl (.int .i64 ln) (h.1.at 2 _ rfl)) HT_ ?_
   refine tH 5 22 rfl rfl (gRun (by kernel_rfl) (.bool false) fun _ h => run_eqZ (.tmp 19) (.tmp 21) rfl z ln rfl rfl false (decide_eq_false c22)) HT_ ?_
   refine tH 6 23 rfl rfl (gRun rfl (.bool false) fun _ h => run_pickZ (.tmp 18) (.tmp 22) (.const (.bool false)) rfl true (.bool false) rfl rfl) HT_ ?_
   refine tH 7 24 rfl rfl (gRun rfl (.bool false) fun _ h => run_mvZ (.tmp 23) rfl (.bool false) rfl) HT_ ?_
   simp only [Act.put, aS, aC, aZ]
   refine tH 8 25 rfl rfl (Or.inr ⟨by kernel_rfl, rfl⟩) HT_ ?_
   refine tH 9 26 rfl rfl (Or.inr ⟨by kernel_rfl, rfl⟩) HT_ ?_
   refine tH 10 27 rfl rfl (Or.inr ⟨by kernel_rfl, rfl⟩) HT_ ?_
   refine tH 11 28 rfl rfl (Or.inr ⟨by kernel_rfl, rfl⟩) HT_ ?_
   simp only [Act.put, aS, aC, aZ]
   refine tH 12 29 rfl rfl (Or.inr ⟨by kernel_rfl, rfl⟩) HT_ ?_
   refine tH 13 30 rfl rfl (Or.inr ⟨by kernel_rfl, rfl⟩) HT_ ?_
   refine tH 14 31 rfl rfl (Or.inr ⟨by kernel_rfl, rfl⟩) HT_ ?_
   refine tH 15 32 rfl rfl (gRun rfl (.bool false) fun _ h => run_pickZ (.tmp 24) (.tmp 31) (.const (.bool false)) rfl false (.bool false) rfl rfl) HT_ ?_
   simp only [Act.put, aS, aC, aZ]
   refine tH 16 4 rfl rfl (gRun rfl (.bool false) fun _ h => run_asZ (.tmp 32) rfl (.bool false) rfl) HT_ ?_
   simp only [Act.put, aS, aC, aZ]
   refine wpAnyH_done (by kernel_rfl) ?_ _
   go_wp2_with fail
   rw [HPQ.out]
   exact ⟨by unfold usB; rw [decide_eq_false (fun k => c22 (by have h_ := k.1; rw [HF.out] at h_; exact Option.some.inj h_))] <;> rfl, HB1.out.1.trans ((HBX.out.trans (HBY.out.mono HBX.out.size)).mono HB1.out.1.size)⟩
  by_cases c31 : dv = (d : Int)
  case neg =>
   go_upto_region 1 with fail
   refine wp_region_held (S := fun X => Row X q 30 (plC dv at_ ln bd) ∧ HotM X gh gp gf gm d n fr f) (by kernel_rfl) ?_
   show wpAnyH _ _ _ _ _ 12 (Array.replicate 12 false) _ _
   obtain ⟨X, hX⟩ : ∃ X : World, X = { w1 with drawn := w1.drawn + 1 } := ⟨_, rfl⟩
   rw [← hX]
   have HS_ : Row X q 30 (plC dv at_ ln bd) ∧ HotM X gh gp gf gm d n fr f := by rw [hX]; exact ⟨HA.out.1, HA.out.2.later ⟨rfl, rfl, rfl, Nat.le_refl _, fun _ _ => rfl⟩⟩
   have HAX : Hid (Row X q 30 (plC dv at_ ln bd) ∧ HotM X gh gp gf gm d n fr f) := HS_
   have HBX : Hid (Below w1.heap.size w1 X) := hX ▸ ⟨rfl, rfl, rfl, Nat.le_refl _, fun _ _ => rfl⟩
   clear hX
   refine tH 0 8 rfl rfl (gRun rfl (ptr gh) fun _ h => run_mvZ (.tmp 0) rfl (ptr gh) rfl) HS_ ?_
   refine tH 1 9 rfl rfl (gRun rfl (ptr gh) fun _ h => run_nil (.tmp 8) rfl ⟨gh, 0, none⟩ rfl) HS_ ?_
   refine tH 2 10 rfl rfl (gRun rfl (.pointer (some ⟨gh, 0 + 3, none⟩)) fun _ h => run_fieldOp' f90_3 (.tmp 9) rfl gh (0) rfl) HS_ ?_
   refine tH 3 11 rfl rfl (gRun rfl (.map (some gm)) fun _ h => run_load1 o88 (.tmp 10) rfl gh (0 + 3) rfl (.map (some gm)) (h.2.row.at 3 _ rfl)) HS_ ?_
   simp only [Act.put, aS, aC, aZ]
   refine tH 4 12 rfl rfl (gRun rfl (.pointer (some ⟨q, 0 + 1, none⟩)) fun _ h => run_fieldOp' f30_1 (.tmp 3) rfl q (0) rfl) HS_ ?_
   refine tH 5 13 rfl rfl (gRun rfl (.int .i64 at_) fun _ h => run_load1 o3 (.tmp 12) rfl q (0 + 1) rfl (.int .i64 at_) (h.1.at 1 _ rfl)) HS_ ?_
   refine tH 6 14 rfl rfl (gRun rfl (.tuple #[(.int .i64 z), (.bool true)]) fun _ h => run_look88 h.2.map (.tmp 11) (.tmp 13) rfl at_ HI.out rfl rfl z true (by rw [HF.out]; rfl) (by rw [HF.out]; rfl)) HS_ ?_
   refine tH 7 7 rfl rfl (gRun rfl (.tuple #[(.int .i64 z), (.bool true)]) fun _ h => run_mvZ (.tmp 14) rfl (.tuple #[(.int .i64 z), (.bool true)]) rfl) HS_ ?_
   simp only [Act.put, aS, aC, aZ]
   refine tH 8 15 rfl rfl (gRun rfl (.int .i64 z) fun _ h => run_extZ (.tmp 7) 0 rfl #[(.int .i64 z), (.bool true)] rfl (.int .i64 z) rfl) HS_ ?_
   refine tH 9 16 rfl rfl (gRun rfl (.bool true) fun _ h => run_extZ (.tmp 7) 1 rfl #[(.int .i64 z), (.bool true)] rfl (.bool true) rfl) HS_ ?_
   refine tH 10 5 rfl rfl (gRun rfl (.int .i64 z) fun _ h => run_asZ (.tmp 15) rfl (.int .i64 z) rfl) HS_ ?_
   refine tH 11 6 rfl rfl (gRun rfl (.bool true) fun _ h => run_asZ (.tmp 16) rfl (.bool true) rfl) HS_ ?_
   simp only [Act.put, aS, aC, aZ]
   refine wpAnyH_done (by kernel_rfl) ?_ _
   go_upto_region 2 with fail
   refine wp_region_held (S := fun X => Row X q 30 (plC dv at_ ln bd) ∧ HotM X gh gp gf gm d n fr f) (by kernel_rfl) ?_
   show wpAnyH _ _ _ _ _ 17 (Array.replicate 17 false) _ _
   obtain ⟨Y, hX⟩ : ∃ Y : World, Y = { X with drawn := X.drawn + 1 } := ⟨_, rfl⟩
   rw [← hX]
   have HT_ : Row Y q 30 (plC dv at_ ln bd) ∧ HotM Y gh gp gf gm d n fr f := by rw [hX]; exact ⟨HAX.out.1, HAX.out.2.later ⟨rfl, rfl, rfl, Nat.le_refl _, fun _ _ => rfl⟩⟩
   have HBY : Hid (Below X.heap.size X Y) := hX ▸ ⟨rfl, rfl, rfl, Nat.le_refl _, fun _ _ => rfl⟩
   clear hX
   refine tH 0 17 rfl rfl (gRun rfl (.bool true) fun _ h => run_mvZ (.tmp 6) rfl (.bool true) rfl) HT_ ?_
   refine tH 1 18 rfl rfl (gRun rfl (.bool true) fun _ h => run_mvZ (.tmp 17) rfl (.bool true) rfl) HT_ ?_
   refine tH 2 19 rfl rfl (gRun (by kernel_rfl) (.int .i64 z) fun _ h => run_mvZ (.tmp 5) rfl (.int .i64 z) rfl) HT_ ?_
   refine tH 3 20 rfl rfl (gRun (by kernel_rfl) (.pointer (some ⟨q, 0 + 2, none⟩)) fun _ h => run_fieldOp' f30_2 (.tmp 3) rfl q (0) rfl) HT_ ?_
   simp only [Act.put, aS, aC, aZ]
   refine tH 4 21 rfl rfl (gRun (by kernel_rfl) (.int .i64 ln) fun _ h => run_load1 o3 (.tmp 20) rfl q (0 + 2) rfl (.int .i64 ln) (h.1.at 2 _ rfl)) HT_ ?_
   refine tH 5 22 rfl rfl (gRun (by kernel_rfl) (.bool true) fun _ h => run_eqZ (.tmp 19) (.tmp 21) rfl z ln rfl rfl true (decide_eq_true c22)) HT_ ?_
   refine tH 6 23 rfl rfl (gRun rfl (.bool true) fun _ h => run_pickZ (.tmp 18) (.tmp 22) (.const (.bool false)) rfl true (.bool true) rfl rfl) HT_ ?_
   refine tH 7 24 rfl rfl (gRun rfl (.bool true) fun _ h => run_mvZ (.tmp 23) rfl (.bool true) rfl) HT_ ?_
   simp only [Act.put, aS, aC, aZ]
   refine tH 8 25 rfl rfl (gRun (by kernel_rfl) (.pointer (some ⟨q, 0 + 0, none⟩)) fun _ h => run_fieldOp' f30_0 (.tmp 3) rfl q (0) rfl) HT_ ?_
   refine tH 9 26 rfl rfl (gRun (by kernel_rfl) (.int .i64 dv) fun _ h => run_load1 o3 (.tmp 25) rfl q (0 + 0) rfl (.int .i64 dv) (h.1.at 0 _ rfl)) HT_ ?_
   refine tH 10 27 rfl rfl (gRun (by kernel_rfl) (ptr gh) fun _ h => run_mvZ (.tmp 0) rfl (ptr gh) rfl) HT_ ?_
   refine tH 11 28 rfl rfl (gRun (by kernel_rfl) (ptr gh) fun _ h => run_nil (.tmp 27) rfl ⟨gh, 0, none⟩ rfl) HT_ ?_
   simp only [Act.put, aS, aC, aZ]
   refine tH 12 29 rfl rfl (gRun (by kernel_rfl) (.pointer (some ⟨gh, 0 + 1, none⟩)) fun _ h => run_fieldOp' f90_1 (.tmp 28) rfl gh (0) rfl) HT_ ?_
   refine tH 13 30 rfl rfl (gRun (by kernel_rfl) (.int .i64 (d : Nat)) fun _ h => run_load1 o3 (.tmp 29) rfl gh (0 + 1) rfl (.int .i64 (d : Nat)) (h.2.row.at 1 _ rfl)) HT_ ?_
   refine tH 14 31 rfl rfl (gRun (by kernel_rfl) (.bool false) fun _ h => run_eqZ (.tmp 26) (.tmp 30) rfl dv (d : Nat) rfl rfl false (decide_eq_false c31)) HT_ ?_
   refine tH 15 32 rfl rfl (gRun rfl (.bool false) fun _ h => run_pickZ (.tmp 24) (.tmp 31) (.const (.bool false)) rfl true (.bool false) rfl rfl) HT_ ?_
   simp only [Act.put, aS, aC, aZ]
   refine tH 16 4 rfl rfl (gRun rfl (.bool false) fun _ h => run_asZ (.tmp 32) rfl (.bool false) rfl) HT_ ?_
   simp only [Act.put, aS, aC, aZ]
   refine wpAnyH_done (by kernel_rfl) ?_ _
   go_wp2_with fail
   rw [HPQ.out]
   exact ⟨by unfold usB; rw [decide_eq_false (fun k => c31 k.2)] <;> rfl, HB1.out.1.trans ((HBX.out.trans (HBY.out.mono HBX.out.size)).mono HB1.out.1.size)⟩
  go_upto_region 1 with fail
  refine wp_region_held (S := fun X => Row X q 30 (plC dv at_ ln bd) ∧ HotM X gh gp gf gm d n fr f) (by kernel_rfl) ?_
  show wpAnyH _ _ _ _ _ 12 (Array.replicate 12 false) _ _
  obtain ⟨X, hX⟩ : ∃ X : World, X = { w1 with drawn := w1.drawn + 1 } := ⟨_, rfl⟩
  rw [← hX]
  have HS_ : Row X q 30 (plC dv at_ ln bd) ∧ HotM X gh gp gf gm d n fr f := by rw [hX]; exact ⟨HA.out.1, HA.out.2.later ⟨rfl, rfl, rfl, Nat.le_refl _, fun _ _ => rfl⟩⟩
  have HAX : Hid (Row X q 30 (plC dv at_ ln bd) ∧ HotM X gh gp gf gm d n fr f) := HS_
  have HBX : Hid (Below w1.heap.size w1 X) := hX ▸ ⟨rfl, rfl, rfl, Nat.le_refl _, fun _ _ => rfl⟩
  clear hX
  refine tH 0 8 rfl rfl (gRun rfl (ptr gh) fun _ h => run_mvZ (.tmp 0) rfl (ptr gh) rfl) HS_ ?_
  refine tH 1 9 rfl rfl (gRun rfl (ptr gh) fun _ h => run_nil (.tmp 8) rfl ⟨gh, 0, none⟩ rfl) HS_ ?_
  refine tH 2 10 rfl rfl (gRun rfl (.pointer (some ⟨gh, 0 + 3, none⟩)) fun _ h => run_fieldOp' f90_3 (.tmp 9) rfl gh (0) rfl) HS_ ?_
  refine tH 3 11 rfl rfl (gRun rfl (.map (some gm)) fun _ h => run_load1 o88 (.tmp 10) rfl gh (0 + 3) rfl (.map (some gm)) (h.2.row.at 3 _ rfl)) HS_ ?_
  simp only [Act.put, aS, aC, aZ]
  refine tH 4 12 rfl rfl (gRun rfl (.pointer (some ⟨q, 0 + 1, none⟩)) fun _ h => run_fieldOp' f30_1 (.tmp 3) rfl q (0) rfl) HS_ ?_
  refine tH 5 13 rfl rfl (gRun rfl (.int .i64 at_) fun _ h => run_load1 o3 (.tmp 12) rfl q (0 + 1) rfl (.int .i64 at_) (h.1.at 1 _ rfl)) HS_ ?_
  refine tH 6 14 rfl rfl (gRun rfl (.tuple #[(.int .i64 z), (.bool true)]) fun _ h => run_look88 h.2.map (.tmp 11) (.tmp 13) rfl at_ HI.out rfl rfl z true (by rw [HF.out]; rfl) (by rw [HF.out]; rfl)) HS_ ?_
  refine tH 7 7 rfl rfl (gRun rfl (.tuple #[(.int .i64 z), (.bool true)]) fun _ h => run_mvZ (.tmp 14) rfl (.tuple #[(.int .i64 z), (.bool true)]) rfl) HS_ ?_
  simp only [Act.put, aS, aC, aZ]
  refine tH 8 15 rfl rfl (gRun rfl (.int .i64 z) fun _ h => run_extZ (.tmp 7) 0 rfl #[(.int .i64 z), (.bool true)] rfl (.int .i64 z) rfl) HS_ ?_
  refine tH 9 16 rfl rfl (gRun rfl (.bool true) fun _ h => run_extZ (.tmp 7) 1 rfl #[(.int .i64 z), (.bool true)] rfl (.bool true) rfl) HS_ ?_
  refine tH 10 5 rfl rfl (gRun rfl (.int .i64 z) fun _ h => run_asZ (.tmp 15) rfl (.int .i64 z) rfl) HS_ ?_
  refine tH 11 6 rfl rfl (gRun rfl (.bool true) fun _ h => run_asZ (.tmp 16) rfl (.bool true) rfl) HS_ ?_
  simp only [Act.put, aS, aC, aZ]
  refine wpAnyH_done (by kernel_rfl) ?_ _
  go_upto_region 2 with fail
  refine wp_region_held (S := fun X => Row X q 30 (plC dv at_ ln bd) ∧ HotM X gh gp gf gm d n fr f) (by kernel_rfl) ?_
  show wpAnyH _ _ _ _ _ 17 (Array.replicate 17 false) _ _
  obtain ⟨Y, hX⟩ : ∃ Y : World, Y = { X with drawn := X.drawn + 1 } := ⟨_, rfl⟩
  rw [← hX]
  have HT_ : Row Y q 30 (plC dv at_ ln bd) ∧ HotM Y gh gp gf gm d n fr f := by rw [hX]; exact ⟨HAX.out.1, HAX.out.2.later ⟨rfl, rfl, rfl, Nat.le_refl _, fun _ _ => rfl⟩⟩
  have HBY : Hid (Below X.heap.size X Y) := hX ▸ ⟨rfl, rfl, rfl, Nat.le_refl _, fun _ _ => rfl⟩
  clear hX
  refine tH 0 17 rfl rfl (gRun rfl (.bool true) fun _ h => run_mvZ (.tmp 6) rfl (.bool true) rfl) HT_ ?_
  refine tH 1 18 rfl rfl (gRun rfl (.bool true) fun _ h => run_mvZ (.tmp 17) rfl (.bool true) rfl) HT_ ?_
  refine tH 2 19 rfl rfl (gRun (by kernel_rfl) (.int .i64 z) fun _ h => run_mvZ (.tmp 5) rfl (.int .i64 z) rfl) HT_ ?_
  refine tH 3 20 rfl rfl (gRun (by kernel_rfl) (.pointer (some ⟨q, 0 + 2, none⟩)) fun _ h => run_fieldOp' f30_2 (.tmp 3) rfl q (0) rfl) HT_ ?_
  simp only [Act.put, aS, aC, aZ]
  refine tH 4 21 rfl rfl (gRun (by kernel_rfl) (.int .i64 ln) fun _ h => run_load1 o3 (.tmp 20) rfl q (0 + 2) rfl (.int .i64 ln) (h.1.at 2 _ rfl)) HT_ ?_
  refine tH 5 22 rfl rfl (gRun (by kernel_rfl) (.bool true) fun _ h => run_eqZ (.tmp 19) (.tmp 21) rfl z ln rfl rfl true (decide_eq_true c22)) HT_ ?_
  refine tH 6 23 rfl rfl (gRun rfl (.bool true) fun _ h => run_pickZ (.tmp 18) (.tmp 22) (.const (.bool false)) rfl true (.bool true) rfl rfl) HT_ ?_
  refine tH 7 24 rfl rfl (gRun rfl (.bool true) fun _ h => run_mvZ (.tmp 23) rfl (.bool true) rfl) HT_ ?_
  simp only [Act.put, aS, aC, aZ]
  refine tH 8 25 rfl rfl (gRun (by kernel_rfl) (.pointer (some ⟨q, 0 + 0, none⟩)) fun _ h => run_fieldOp' f30_0 (.tmp 3) rfl q (0) rfl) HT_ ?_
  refine tH 9 26 rfl rfl (gRun (by kernel_rfl) (.int .i64 dv) fun _ h => run_load1 o3 (.tmp 25) rfl q (0 + 0) rfl (.int .i64 dv) (h.1.at 0 _ rfl)) HT_ ?_
  refine tH 10 27 rfl rfl (gRun (by kernel_rfl) (ptr gh) fun _ h => run_mvZ (.tmp 0) rfl (ptr gh) rfl) HT_ ?_
  refine tH 11 28 rfl rfl (gRun (by kernel_rfl) (ptr gh) fun _ h => run_nil (.tmp 27) rfl ⟨gh, 0, none⟩ rfl) HT_ ?_
  simp only [Act.put, aS, aC, aZ]
  refine tH 12 29 rfl rfl (gRun (by kernel_rfl) (.pointer (some ⟨gh, 0 + 1, none⟩)) fun _ h => run_fieldOp' f90_1 (.tmp 28) rfl gh (0) rfl) HT_ ?_
  refine tH 13 30 rfl rfl (gRun (by kernel_rfl) (.int .i64 (d : Nat)) fun _ h => run_load1 o3 (.tmp 29) rfl gh (0 + 1) rfl (.int .i64 (d : Nat)) (h.2.row.at 1 _ rfl)) HT_ ?_
  refine tH 14 31 rfl rfl (gRun (by kernel_rfl) (.bool true) fun _ h => run_eqZ (.tmp 26) (.tmp 30) rfl dv (d : Nat) rfl rfl true (decide_eq_true c31)) HT_ ?_
  refine tH 15 32 rfl rfl (gRun rfl (.bool true) fun _ h => run_pickZ (.tmp 24) (.tmp 31) (.const (.bool false)) rfl true (.bool true) rfl rfl) HT_ ?_
  simp only [Act.put, aS, aC, aZ]
  refine tH 16 4 rfl rfl (gRun rfl (.bool true) fun _ h => run_asZ (.tmp 32) rfl (.bool true) rfl) HT_ ?_
  simp only [Act.put, aS, aC, aZ]
  refine wpAnyH_done (by kernel_rfl) ?_ _
  go_wp2_with fail
  rw [HPQ.out]
  exact ⟨by unfold usB; rw [decide_eq_true (⟨by rw [HF.out, c22], c31⟩)] <;> rfl, HB1.out.1.trans ((HBX.out.trans (HBY.out.mono HBX.out.size)).mono HB1.out.1.size)⟩

end Go.Proofs.YthgidfoidbgnaaaDoor

/- Layer 14: a place is taken into use, and given up. -/
import Derived.Test.YthgidfoidbgnaaaDoorE27
import Derived.Test.YthgidfoidbgnaaaDoorE19
namespace Go.Proofs.YthgidfoidbgnaaaDoor
open Go.RowKit Go.Maps


section
variable {w w' : World} {gh gp gf gm d n : Nat} {fr : List Nat} {f : Int → Option Int}
theorem HotM.ne (h : HotM w gh gp gf gm d n fr f) : gh ≠ gf ∧ gm ≠ gh ∧ gm ≠ gf := by
 refine ⟨?_, h.map.ne_row h.row, h.map.ne_row h.free⟩
 rintro rfl
 have h1 := h.row
 have h2 := h.free
 unfold Row at h1 h2
 rw [h1] at h2
 injection h2 with h2
 injection h2 with _ h3
 exact absurd h3 (by decide)
theorem HotM.setFree (h : HotM w gh gp gf gm d n fr f) (i v : Nat) : HotM (w.setCell ⟨gf, i, none⟩ (.int .u16 (v : Nat))) gh gp gf gm d n (fr.set i v) f ∧ Ch (· = gf) w (w.setCell ⟨gf, i, none⟩ (.int .u16 (v : Nat))) := by
 have hc : Ch (· = gf) w (w.setCell ⟨gf, i, none⟩ (.int .u16 (v : Nat))) := (Ch.refl (· = gf) w).setCell (Or.inl rfl) _ _
 refine ⟨⟨by rw [List.length_set]; exact hc.row h.ne.1 h.row, by rw [u16C_set]; exact h.free.setCell i _, h.map.kept (hc.block gm h.map.lt h.ne.2.2)⟩, hc⟩
theorem HotM.setMap {n' : Nat} {f' : Int → Option Int} (h : HotM w gh gp gf gm d n fr f) (ht : w.mapTurned w' gm) (hm : MapN w' gm n' f') : HotM w' gh gp gf gm d n' fr f' ∧ Ch (· = gm) w w' := by
 have hc := mapTurned_ch ht
 exact ⟨⟨hc.row (Ne.symm h.ne.2.1) h.row, hc.row (Ne.symm h.ne.2.2) h.free, hm⟩, hc⟩
end
theorem u16C_one (v : Nat) : (Value.int .u16 (v : Nat)).cells = #[.int .u16 (v : Nat)] ∧ (Value.int .u16 (v : Nat)).oneCell' = true := ⟨rfl, rfl⟩
theorem rows_one {W : World} {g T : Nat} {cs : List Value} (h : Row W g T cs) : ∀ j v, cs[j]? = some v → W.cell? ⟨g, 0 + j, none⟩ = some v := fun j v hj => by rw [Nat.zero_add]; exact h.at j v hj
set_option maxHeartbeats 4000000 in
set_option maxRecDepth 100000 in
theorem take_any {w : World} {gh gp gf gm d n : Nat} {fr : List Nat} {f : Int → Option Int} (h : HotM w gh gp gf gm d n fr f) (hf : ∀ s ∈ fr, s < 65536) (hn : n ≤ 9007199254740992) (dv : Int) (A l : Nat) (bd : Bool) (ha : A ≤ 9223372036854775807) (h1 : A / 16 < fr.length) (h2 : A % 16 + l ≤ 16) : Calls Tryd.prog 37 #[ptr gh, .agg (plC dv (A : Nat) (l : Nat) bd).toArray] w fun e w' => e = .returned noResult ∧ HotM w' gh gp gf gm d (if (f (A : Nat)).isSome then n else n + 1) (fr.set (A / 16) (lessM (fr.getD (A / 16) 0) (rowM (A % 16) l))) (fun q => if q = (A : Nat) then some (l : Nat) else f q) ∧ Ch (fun b => b = gf ∨ b = gm) w w' := by
 have HM : Hid (HotM w gh gp gf gm d n fr f) := h
 have HN : Hid (n ≤ 9007199254740992) := hn
 obtain ⟨s, hs⟩ : ∃ s, s = fr.getD (A / 16) 0 := ⟨_, rfl⟩
 obtain ⟨r, hr⟩ : ∃ r, r = rowM (A % 16) l := ⟨_, rfl⟩
 have HS : Hid (s < 65536 ∧ r < 65536 ∧ s = fr.getD (A / 16) 0 ∧ r = rowM (A % 16) l) := ⟨by rw [hs]; exact getD_mem_lt hf _, by rw [hr]; exact rowM_lt h2, hs, hr⟩
 clear h hf hs hr hn
 obtain ⟨PQ, HPQ⟩ := exPQ fun (e : Ending) (w' : World) => e = .returned noResult ∧ HotM w' gh gp gf gm d (if (f (A : Nat)).isSome then n else n + 1) (fr.set (A / 16) (lessM (fr.getD (A / 16) 0) (rowM (A % 16) l))) (fun q => if q = (A : Nat) then some (l : Nat) else f q) ∧ Ch (fun b => b = gf ∨ b = gm) w w'
 rw [← HPQ.out]
 go_enter Tryd.func37, Tryd.ntmps37
 go_upto_region 0 with fail
 refine wp_region_lit ?_
 refine wl rfl (ptr w.heap.size) _ (run_boxA (.tmp 1) rfl (plC dv (A : Nat) (l : Nat) bd) rfl) ?_
 have hb_ := below_alloc w (.cells (plC dv (A : Nat) (l : Nat) bd).toArray 30)
 have r_ := Row.new w 30 (plC dv (A : Nat) (l : Nat) bd)
 obtain ⟨w1, hW_⟩ : ∃ W, W = w.alloc (.cells (plC dv (A : Nat) (l : Nat) bd).toArray 30) := ⟨_, rfl⟩
 obtain ⟨q, hq_⟩ : ∃ q, q = w.heap.size := ⟨_, rfl⟩
 rw [← hW_] at hb_
 rw [← hW_, ← hq_] at r_
 rw [← hW_, ← hq_]
 have HA : Hid (Row w1 q 30 (plC dv (A : Nat) (l : Nat) bd) ∧ HotM w1 gh gp gf gm d n fr f) := ⟨r_, HM.out.later hb_⟩
 have HB1 : Hid (Below w.heap.size w w1 ∧ w.heap.size ≤ q ∧ q ≠ gh ∧ q ≠ gf ∧ q ≠ gm) := ⟨hb_, by omega, (fun e => by have := HM.out.lt (Or.inl rfl); omega), (fun e => by have := HM.out.lt (Or.inr (Or.inl rfl)); omega), (fun e => by have := HM.out.lt (Or.inr (Or.inr rfl)); omega)⟩
 clear r_ hb_ hW_ hq_
 simp only [Act.put, aS, aC, aZ]
 refine wpList_nil ?_
 go_upto_region 1 with fail
 refine wp_region_lit ?_
 refine wl rfl (.pointer (some ⟨q, 0 + 1, none⟩)) _ (run_fieldOp' f30_1 (.tmp 3) rfl q (0) rfl) ?_
 refine wl rfl (.int .i64 (A : Nat)) _ (run_load1 o3 (.tmp 7) rfl q (0 + 1) rfl (.int .i64 (A : Nat)) (HA.out.1.at 1 _ rfl)) ?_
 simp only [Act.put, aS, aC, aZ]
 refine wpList_callW eN52 [.tmp 8] _ rfl rfl [(.int .i64 (A : Nat))] rfl ?_
 refine (split_any w1 A ha).mono ?_
 rintro e w_ ⟨rfl, rfl⟩
 refine ⟨_, rfl, ?_⟩
 simp only [Act.put, aS, aC, aZ]
 refine wl rfl (.tuple #[(.int .i64 ((A / 16 : Nat) : Int)), (.int .i64 ((A % 16 : Nat) : Int))]) _ (run_mvZ (.tmp 9) rfl (.tuple #[(.int .i64 ((A / 16 : Nat) : Int)), (.int .i64 ((A % 16 : Nat) : Int))]) rfl) ?_
 refine wl rfl (.int .i64 ((A / 16 : Nat) : Int)) _ (run_extZ (.tmp 6) 0 rfl #[(.int .i64 ((A / 16 : Nat) : Int)), (.int .i64 ((A % 16 : Nat) : Int))] rfl (.int .i64 ((A / 16 : Nat) : Int)) rfl) ?_
 refine wl rfl (.int .i64 ((A % 16 : Nat) : Int)) _ (run_extZ (.tmp 6) 1 rfl #[(.int .i64 ((A / 16 : Nat) : Int)), (.int .i64 ((A % 16 : Nat) : Int))] rfl (.int .i64 ((A % 16 : Nat) : Int)) rfl) ?_
 refine wl rfl (.int .i64 ((A / 16 : Nat) : Int)) _ (run_asZ (.tmp 10) rfl (.int .i64 ((A / 16 : Nat) : Int)) rfl) ?_
 simp only [Act.put, aS, aC, aZ]
 refine wl rfl (.int .i64 ((A % 16 : Nat) : Int)) _ (run_asZ (.tmp 11) rfl (.int .i64 ((A % 16 : Nat) : Int)) rfl) ?_
 simp only [Act.put, aS, aC, aZ]
 refine wpList_nil ?_
 go_upto_region 2 with fail
 refine wp_region_until (S := fun X => Row X q 30 (plC dv (A : Nat) (l : Nat) bd) ∧ HotM X gh gp gf gm d n fr f) 13 (by kernel_rfl) ?_
 show wpAnyU _ _ _ _ _ _ 14 (Array.replicate 14 false) _ _
 obtain ⟨X, hX⟩ : ∃ X : World, X = { w1 with drawn := w1.drawn + 1 } := ⟨_, rfl⟩
 rw [← hX]
 have HS_ : Row X q 30 (plC dv (A : Nat) (l : Nat) bd) ∧ HotM X gh gp gf gm d n fr f := by rw [hX]; exact ⟨HA.out.1, HA.out.2.later ⟨rfl, rfl, rfl, Nat.le_refl _, fun _ _ => rfl⟩⟩
 have HAX : Hid (Row X q 30 (plC dv (A : Nat) (l : Nat) bd) ∧ HotM X gh gp gf gm d n fr f) := HS_
 have HBX : Hid (Below w1.heap.size w1 X) := hX ▸ ⟨rfl, rfl, rfl, Nat.le_refl _, fun _ _ => rfl⟩
 clear hX
 refine tV 0 [13] 12 rfl rfl (gRun rfl (ptr gh) fun _ h => run_mvZ (.tmp 0) rfl (ptr gh) rfl) HS_ ?_
 refine tV 1 [13] 13 rfl rfl (gRun rfl (ptr gh) fun _ h => run_nil (.tmp 12) rfl ⟨gh, 0, none⟩ rfl) HS_ ?_
 refine tV 2 [13] 14 rfl rfl (gRun rfl (.pointer (some ⟨gh, 0 + 2, none⟩)) fun _ h => run_fieldOp' f90_2 (.tmp 13) rfl gh (0) rfl) HS_ ?_
 refine tV 3 [13] 15 rfl rfl (gRun rfl (whole gf fr.length) fun _ h => run_load1 o86 (.tmp 14) rfl gh (0 + 2) rfl (whole gf fr.length) (h.2.row.at 2 _ rfl)) HS_ ?_
 simp only [Act.put, aS, aC, aZ]
 refine tV 4 [13] 16 rfl rfl (gRun rfl (.int .i64 ((A / 16 : Nat) : Int)) fun _ h => run_mvZ (.tmp 4) rfl (.int .i64 ((A / 16 : Nat) : Int)) rfl) HS_ ?_
 refine tV 5 [13] 17 rfl rfl (gRun rfl (.pointer (some ⟨gf, A / 16, none⟩)) fun _ h => run_idx (.tmp 15) (.tmp 16) rfl _ _ _ rfl rfl (ix86 gf fr.length (A / 16) h1)) HS_ ?_
 refine tV 6 [13] 18 rfl rfl (gRun rfl (.int .u16 (s : Nat)) fun _ h => run_load1 o114 (.tmp 17) rfl gf (A / 16) rfl (.int .u16 (s : Nat)) (by rw [HS.out.2.2.1]; exact h.2.free.at (A / 16) _ (u16C_at fr _ h1))) HS_ ?_
 refine tV 7 [13] 19 rfl rfl (gRun rfl (.int .i64 ((A % 16 : Nat) : Int)) fun _ h => run_mvZ (.tmp 5) rfl (.int .i64 ((A % 16 : Nat) : Int)) rfl) HS_ ?_
 simp only [Act.put, aS, aC, aZ]
 refine tV 8 [13] 20 rfl rfl (gRun rfl (.pointer (some ⟨q, 0 + 2, none⟩)) fun _ h => run_fieldOp' f30_2 (.tmp 3) rfl q (0) rfl) HS_ ?_
 refine tV 9 [13] 21 rfl rfl (gRun rfl (.int .i64 (l : Nat)) fun _ h => run_load1 o3 (.tmp 20) rfl q (0 + 2) rfl (.int .i64 (l : Nat)) (h.1.at 2 _ rfl)) HS_ ?_
 simp only [Act.put, aS, aC, aZ]
 refine oneU (i := 10) (by kernel_rfl) ?_
 refine opCallG (some 22) rfl rfl rfl 53 _ (run_call eN53 [.tmp 19, .tmp 21] _ rfl [(.int .i64 ((A % 16 : Nat) : Int)), (.int .i64 (l : Nat))] rfl) ?_
 refine (row_any X (A % 16) l h2).mono ?_
 rintro e w_ ⟨he_, rfl⟩
 rw [← HS.out.2.2.2] at he_
 subst he_
 refine ⟨_, rfl, ?_⟩
 refine ⟨fun _ => HS_, ?_⟩
 simp only [Act.put, aS, aC, aZ]
 refine tV 11 [13] 23 rfl rfl (gRun rfl (.int .u16 (lessM s r : Nat)) fun _ h => run_less16 (.tmp 18) (.tmp 22) rfl s r HS.out.1 HS.out.2.1 rfl rfl) HS_ ?_
 refine tV 12 [13] 24 rfl rfl (gRun rfl (.pointer (some ⟨gf, A / 16, none⟩)) fun _ h => run_idx (.tmp 15) (.tmp 16) rfl _ _ _ rfl rfl (ix86 gf fr.length (A / 16) h1)) HS_ ?_
 simp only [Act.put, aS, aC, aZ]
 refine oneU (i := 13) (by kernel_rfl) ?_
 refine opSkipZ rfl rfl rfl _ (run_putRow (t := 114) size114 (.tmp 24) (.tmp 23) rfl gf (A / 16) 114 (u16C fr) rfl (.int .u16 (lessM s r : Nat)) rfl (u16C_one _) HAX.out.2.free (by rw [u16C_length]; exact h1)) ?_
 refine ⟨(fun h => absurd (show true = false from h) (by decide)), ?_⟩
 refine wpAnyU_done (by kernel_rfl) ?_ _
 obtain ⟨F2, hF2⟩ : ∃ F2, F2 = fr.set (A / 16) (lessM s r : Nat) := ⟨_, rfl⟩
 have k_ := HAX.out.2.setFree (A / 16) (lessM s r : Nat)
 obtain ⟨W2, hW_⟩ : ∃ W, W = X.setCell ⟨gf, A / 16, none⟩ (.int .u16 (lessM s r : Nat)) := ⟨_, rfl⟩
 rw [← hF2, ← hW_] at k_
 rw [← hW_]
 have HA2 : Hid (Row W2 q 30 (plC dv (A : Nat) (l : Nat) bd) ∧ HotM W2 gh gp gf gm d n F2 f) := ⟨k_.2.row (fun e => HB1.out.2.2.2.1 e) HAX.out.1, k_.1⟩
 have HC2 : Hid (Ch (fun b => b = gf ∨ b = gm) w W2) := ((Ch.of_below HB1.out.1).trans (Ch.of_below HBX.out)).trans (k_.2.mono fun _ _ e => Or.inl e)
 have HF2 : Hid (F2 = fr.set (A / 16) (lessM s r : Nat)) := hF2
 clear k_ hW_ hF2 HAX HBX
 go_upto_region 3 with fail
 refine wp_region_until (S := fun X => Row X q 30 (plC dv (A : Nat) (l : Nat) bd) ∧ HotM X gh gp gf gm d n F2 f) 8 (by kernel_rfl) ?_
 show wpAnyU _ _ _ _ _ _ 9 (Array.replicate 9 false) _ _
 obtain ⟨Y, hX⟩ : ∃ Y : World, Y = { W2 with drawn := W2.drawn + 1 } := ⟨_, rfl⟩
 rw [← hX]
 have HT_ : Row Y q 30 (plC dv (A : Nat) (l : Nat) bd) ∧ HotM Y gh gp gf gm d n F2 f := by rw [hX]; exact ⟨HA2.out.1, HA2.out.2.later ⟨rfl, rfl, rfl, Nat.le_refl _, fun _ _ => rfl⟩⟩
 have HAY : Hid (Row Y q 30 (plC dv (A : Nat) (l : Nat) bd) ∧ HotM Y gh gp gf gm d n F2 f) := HT_
 have HBY : Hid (Below W2.heap.size W2 Y) := hX ▸ ⟨rfl, rfl, rfl, Nat.le_refl _, fun _ _ => rfl⟩
 clear hX
 refine tV 0 [8] 25 rfl rfl (gRun rfl (ptr gh) fun _ h => run_mvZ (.tmp 0) rfl (ptr gh) rfl) HT_ ?_
 refine tV 1 [8] 26 rfl rfl (gRun rfl (ptr gh) fun _ h => run_nil (.tmp 25) rfl ⟨gh, 0, none⟩ rfl) HT_ ?_
 refine tV 2 [8] 27 rfl rfl (gRun rfl (.pointer (some ⟨gh, 0 + 3, none⟩)) fun _ h => run_fieldOp' f90_3 (.tmp 26) rfl gh (0) rfl) HT_ ?_
 refine tV 3 [8] 28 rfl rfl (gRun rfl (.map (some gm)) fun _ h => run_load1 o88 (.tmp 27) rfl gh (0 + 3) rfl (.map (some gm)) (h.2.row.at 3 _ rfl)) HT_ ?_
 simp only [Act.put, aS, aC, aZ]
 refine tV 4 [8] 29 rfl rfl (gRun rfl (.pointer (some ⟨q, 0 + 1, none⟩)) fun _ h => run_fieldOp' f30_1 (.tmp 3) rfl q (0) rfl) HT_ ?_
 refine tV 5 [8] 30 rfl rfl (gRun rfl (.int .i64 (A : Nat)) fun _ h => run_load1 o3 (.tmp 29) rfl q (0 + 1) rfl (.int .i64 (A : Nat)) (h.1.at 1 _ rfl)) HT_ ?_
 refine tV 6 [8] 31 rfl rfl (gRun rfl (.pointer (some ⟨q, 0 + 2, none⟩)) fun _ h => run_fieldOp' f30_2 (.tmp 3) rfl q (0) rfl) HT_ ?_
 refine tV 7 [8] 32 rfl rfl (gRun rfl (.int .i64 (l : Nat)) fun _ h => run_load1 o3 (.tmp 31) rfl q (0 + 2) rfl (.int .i64 (l : Nat)) (h.1.at 2 _ rfl)) HT_ ?_
 simp only [Act.put, aS, aC, aZ]
 refine oneU (i := 8) (by kernel_rfl) ?_
 obtain ⟨W3, hrun, hm3, ht3⟩ := HAY.out.2.map.store HN.out (A : Nat) (Wf.of ⟨by omega, by omega⟩) (l : Nat)
 refine opSkipZ rfl rfl rfl W3 (run_putI (.tmp 28) (.tmp 30) (.tmp 32) rfl (A : Nat) (.int .i64 (l : Nat)) rfl rfl rfl hrun) ?_
 refine ⟨(fun h => absurd (show true = false from h) (by decide)), ?_⟩
 have k_ := HAY.out.2.setMap ht3 hm3
 have HA3 : Hid (HotM W3 gh gp gf gm d (if (f (A : Nat)).isSome then n else n + 1) F2 (fun q => if q = (A : Nat) then some (l : Nat) else f q) ∧ Ch (fun b => b = gf ∨ b = gm) w W3) := ⟨k_.1, (HC2.out.trans (Ch.of_below HBY.out)).trans (k_.2.mono fun _ _ e => Or.inr e)⟩
 clear k_ hrun hm3 ht3
 refine wpAnyU_done (by kernel_rfl) ?_ _
 go_wp2_with fail
 rw [HPQ.out]
 first | go_end0 | refine bodyPost_ret (results_none rfl _ _ _) rfl ?_
 exact ⟨rfl, by rw [← HS.out.2.2.1, ← HS.out.2.2.2, ← HF2.out]; exact HA3.out.1, HA3.out.2⟩
set_option maxHeartbeats 4000000 in
set_option maxRecDepth 100000 in
theorem free_no {w : World} {gh gp gf gm d n : Nat} {fr : List Nat} {f : Int → Option Int} (h : HotM w gh gp gf gm d n fr f) (dv at_ ln : Int) (bd : Bool) (hi : I64 at_) (hu : usB d f dv at_ ln = false) : Calls Tryd.prog 26 #[ptr gh, .agg (plC dv at_ ln bd).toArray] w fun e w' => e = .returned (.int .i64 31) ∧ Below w.heap.size w w' := by
 have HM : Hid (HotM w gh gp gf gm d n fr f) := h
 have HU : Hid (usB d f dv at_ ln = false) := hu
 have HI : Hid (I64 at_) := hi
 clear h hu hi
 obtain ⟨PQ, HPQ⟩ := exPQ fun (e : Ending) (w' : World) => e = .returned (.int .i64 31) ∧ Below w.heap.size w w'
 rw [← HPQ.out]
 go_enter Tryd.func26, Tryd.ntmps26
 go_upto_region 0 with fail
 refine wp_region_lit ?_
 refine wl rfl (ptr w.heap.size) _ (run_boxA (.tmp 1) rfl (plC dv at_ ln bd) rfl) ?_
 have hb_ := below_alloc w (.cells (plC dv at_ ln bd).toArray 30)
 have r_ := Row.new w 30 (plC dv at_ ln bd)
 obtain ⟨w1, hW_⟩ : ∃ W, W = w.alloc (.cells (plC dv at_ ln bd).toArray 30) := ⟨_, rfl⟩
 obtain ⟨q, hq_⟩ : ∃ q, q = w.heap.size := ⟨_, rfl⟩
 rw [← hW_] at hb_
 rw [← hW_, ← hq_] at r_
 rw [← hW_, ← hq_]
 have HA : Hid (Row w1 q 30 (plC dv at_ ln bd) ∧ HotM w1 gh gp gf gm d n fr f) := ⟨r_, HM.out.later hb_⟩
 have HB1 : Hid (Below w.heap.size w w1 ∧ w.heap.size ≤ q ∧ q ≠ gh ∧ q ≠ gf ∧ q ≠ gm) := ⟨hb_, by omega, (fun e => by have := HM.out.lt (Or.inl rfl); omega), (fun e => by have := HM.out.lt (Or.inr (Or.inl rfl)); omega), (fun e => by have := HM.out.lt (Or.inr (Or.inr rfl)); omega)⟩
 clear r_ hb_ hW_ hq_
 simp only [Act.put, aS, aC, aZ]
 refine wl rfl (.int .i64 0) _ (run_asZ (.const (.int .i64 0)) rfl (.int .i64 0) rfl) ?_
 simp only [Act.put, aS, aC, aZ]
 refine wpList_nil ?_
 go_upto_region 1 with fail
 refine wp_region_lit ?_
 refine wl rfl (ptr gh) _ (run_mvZ (.tmp 0) rfl (ptr gh) rfl) ?_
 refine wl rfl (.agg ((plC dv at_ ln bd)).toArray) _ (run_loadA ag30 (.tmp 3) rfl q (0) rfl ((plC dv at_ ln bd)) rfl (rows_one HA.out.1)) ?_
 simp only [Act.put, aS, aC, aZ]
 refine wpList_callW eN49 [.tmp 7, .tmp 8] _ rfl rfl [(ptr gh), (.agg ((plC dv at_ ln bd)).toArray)] rfl ?_
 refine (isUsed_any HA.out.2 dv at_ ln bd HI.out).mono ?_
 rintro e w2 ⟨he_, hb2⟩
 rw [HU.out] at he_
 subst he_
 refine ⟨_, rfl, ?_⟩
 simp only [Act.put, aS, aC, aZ]
 refine wl rfl (.bool true) _ (run_not (.tmp 9) 4 rfl false rfl) ?_
 simp only [Act.put, aS, aC, aZ]
 refine wpList_nil ?_
 have HB2 : Hid (Below w1.heap.size w1 w2) := hb2
 clear hb2
 go_wp2_with fail
 rw [HPQ.out]
 exact ⟨rfl, HB1.out.1.trans (HB2.out.mono HB1.out.1.size)⟩
set_option maxHeartbeats 4000000 in
set_option maxRecDepth 100000 in
theorem free_yes {w : World} {gh gp gf gm d n : Nat} {fr : List Nat} {f : Int → Option Int} (h : HotM w gh gp gf gm d n fr f) (hf : ∀ s ∈ fr, s < 65536) (dv : Int) (A l : Nat) (bd : Bool) (ha : A ≤ 9223372036854775807) (h1 : A / 16 < fr.length) (h2 : A % 16 + l ≤ 16) (hu : usB d f dv (A : Nat) (l : Nat) = true) : Calls Tryd.prog 26 #[ptr gh, .agg (plC dv (A : Nat) (l : Nat) bd).toArray] w fun e w' => e = .returned (.int .i64 0) ∧ HotM w' gh gp gf gm d (n - 1) (fr.set (A / 16) (fr.getD (A / 16) 0 ||| rowM (A % 16) l)) (fun q => if q = (A : Nat) then none else f q) ∧ Ch (fun b => b = gf ∨ b = gm) w w' := by
 have HM : Hid (HotM w gh gp gf gm d n fr f) := h
 have HU : Hid (usB d f dv (A : Nat) (l : Nat) = true) := hu
 have HI : Hid (I64 (A : Nat)) := ⟨by omega, by omega⟩
 have HSM : Hid ((f (A : Nat)).isSome = true) := (by unfold usB at hu; have := (of_decide_eq_true hu).1; show _ = _; rw [this]; rfl)
 obtain ⟨s, hs⟩ : ∃ s, s = fr.getD (A / 16) 0 := ⟨_, rfl⟩
 obtain ⟨r, hr⟩ : ∃ r, r = rowM (A % 16) l := ⟨_, rfl⟩
 have HS : Hid (s < 65536 ∧ r < 65536 ∧ s = fr.getD (A / 16) 0 ∧ r = rowM (A % 16) l) := ⟨by rw [hs]; exact getD_mem_lt hf _, by rw [hr]; exact rowM_lt h2, hs, hr⟩
 clear h hf hs hr hu
 obtain ⟨PQ, HPQ⟩ := exPQ fun (e : Ending) (w' : World) => e = .returned (.int .i64 0) ∧ HotM w' gh gp gf gm d (n - 1) (fr.set (A / 16) (fr.getD (A / 16) 0 ||| rowM (A % 16) l)) (fun q => if q = (A : Nat) then none else f q) ∧ Ch (fun b => b = gf ∨ b = gm) w w'
 rw [← HPQ.out]
 go_enter Tryd.func26, Tryd.ntmps26
 go_upto_region 0 with fail
 refine wp_region_lit ?_
 refine wl rfl (ptr w.heap.size) _ (run_boxA (.tmp 1) rfl (plC dv (A : Nat) (l : Nat) bd) rfl) ?_
 have hb_ := below_alloc w (.cells (plC dv (A : Nat) (l : Nat) bd).toArray 30)
 have r_ := Row.new w 30 (plC dv (A : Nat) (l : Nat) bd)
 obtain ⟨w1, hW_⟩ : ∃ W, W = w.alloc (.cells (plC dv (A : Nat) (l : Nat) bd).toArray 30) := ⟨_, rfl⟩
 obtain ⟨q, hq_⟩ : ∃ q, q = w.heap.size := ⟨_, rfl⟩
 rw [← hW_] at hb_
 rw [← hW_, ← hq_] at r_
 rw [← hW_, ← hq_]
 have HA : Hid (Row w1 q 30 (plC dv (A : Nat) (l : Nat) bd) ∧ HotM w1 gh gp gf gm d n fr f) := ⟨r_, HM.out.later hb_⟩
 have HB1 : Hid (Below w.heap.size w w1 ∧ w.heap.size ≤ q ∧ q ≠ gh ∧ q ≠ gf ∧ q ≠ gm) := ⟨hb_, by omega, (fun e => by have := HM.out.lt (Or.inl rfl); omega), (fun e => by have := HM.out.lt (Or.inr (Or.inl rfl)); omega), (fun e => by have := HM.out.lt (Or.inr (Or.inr rfl)); omega)⟩
 clear r_ hb_ hW_ hq_
 simp only [Act.put, aS, aC, aZ]
 refine wl rfl (.int .i64 0) _ (run_asZ (.const (.int .i64 0)) rfl (.int .i64 0) rfl) ?_
 simp only [Act.put, aS, aC, aZ]
 refine wpList_nil ?_
 go_upto_region 1 with fail
 refine wp_region_lit ?_
 refine wl rfl (ptr gh) _ (run_mvZ (.tmp 0) rfl (ptr gh) rfl) ?_
 refine wl rfl (.agg ((plC dv (A : Nat) (l : Nat) bd)).toArray) _ (run_loadA ag30 (.tmp 3) rfl q (0) rfl ((plC dv (A : Nat) (l : Nat) bd)) rfl (rows_one HA.out.1)) ?_
 simp only [Act.put, aS, aC, aZ]
 refine wpList_callW eN49 [.tmp 7, .tmp 8] _ rfl rfl [(ptr gh), (.agg ((plC dv (A : Nat) (l : Nat) bd)).toArray)] rfl ?_
 refine (isUsed_any HA.out.2 dv (A : Nat) (l : Nat) bd HI.out).mono ?_
 rintro e w2 ⟨he_, hb2⟩
 rw [HU.out] at he_
 subst he_
 refine ⟨_, rfl, ?_⟩
 simp only [Act.put, aS, aC, aZ]
 refine wl rfl (.bool false) _ (run_not (.tmp 9) 4 rfl true rfl) ?_
 simp only [Act.put, aS, aC, aZ]
 refine wpList_nil ?_
 have HA1 : Hid (Row w2 q 30 (plC dv (A : Nat) (l : Nat) bd) ∧ HotM w2 gh gp gf gm d n fr f) := ⟨HA.out.1.later hb2 HA.out.1.lt, HA.out.2.later hb2⟩
 have HB3 : Hid (Below w.heap.size w w2 ∧ w.heap.size ≤ q ∧ q ≠ gh ∧ q ≠ gf ∧ q ≠ gm) := ⟨HB1.out.1.trans (hb2.mono HB1.out.1.size), HB1.out.2⟩
 clear HA HB1 hb2
 rename Hid (Row w2 _ _ _ ∧ _) => HA
 rename Hid (Below w.heap.size w w2 ∧ _) => HB1
 go_upto_region 3 with fail
 refine wp_region_lit ?_
 refine wl rfl (.pointer (some ⟨q, 0 + 1, none⟩)) _ (run_fieldOp' f30_1 (.tmp 3) rfl q (0) rfl) ?_
 refine wl rfl (.int .i64 (A : Nat)) _ (run_load1 o3 (.tmp 12) rfl q (0 + 1) rfl (.int .i64 (A : Nat)) (HA.out.1.at 1 _ rfl)) ?_
 simp only [Act.put, aS, aC, aZ]
 refine wpList_callW eN52 [.tmp 13] _ rfl rfl [(.int .i64 (A : Nat))] rfl ?_
 refine (split_any w2 A ha).mono ?_
 rintro e w_ ⟨rfl, rfl⟩
 refine ⟨_, rfl, ?_⟩
 simp only [Act.put, aS, aC, aZ]
 refine wl rfl (.tuple #[(.int .i64 ((A / 16 : Nat) : Int)), (.int .i64 ((A % 16 : Nat) : Int))]) _ (run_mvZ (.tmp 14) rfl (.tuple #[(.int .i64 ((A / 16 : Nat) : Int)), (.int .i64 ((A % 16 : Nat) : Int))]) rfl) ?_
 refine wl rfl (.int .i64 ((A / 16 : Nat) : Int)) _ (run_extZ (.tmp 11) 0 rfl #[(.int .i64 ((A / 16 : Nat) : Int)), (.int .i64 ((A % 16 : Nat) : Int))] rfl (.int .i64 ((A / 16 : Nat) : Int)) rfl) ?_
 refine wl rfl (.int .i64 ((A % 16 : Nat) : Int)) _ (run_extZ (.tmp 11) 1 rfl #[(.int .i64 ((A / 16 : Nat) : Int)), (.int .i64 ((A % 16 : Nat) : Int))] rfl (.int .i64 ((A % 16 : Nat) : Int)) rfl) ?_
 refine wl rfl (.int .i64 ((A / 16 : Nat) : Int)) _ (run_asZ (.tmp 15) rfl (.int .i64 ((A / 16 : Nat) : Int)) rfl) ?_
 simp only [Act.put, aS, aC, aZ]
 refine wl rfl (.int .i64 ((A % 16 : Nat) : Int)) _ (run_asZ (.tmp 16) rfl (.int .i64 ((A % 16 : Nat) : Int)) rfl) ?_
 simp only [Act.put, aS, aC, aZ]
 refine wpList_nil ?_
 go_upto_region 4 with fail
 refine wp_region_until (S := fun X => Row X q 30 (plC dv (A : Nat) (l : Nat) bd) ∧ HotM X gh gp gf gm d n fr f) 13 (by kernel_rfl) ?_
 show wpAnyU _ _ _ _ _ _ 14 (Array.replicate 14 false) _ _
 obtain ⟨X, hX⟩ : ∃ X : World, X = { w2 with drawn := w2.drawn + 1 } := ⟨_, rfl⟩
 rw [← hX]
 have HS_ : Row X q 30 (plC dv (A : Nat) (l : Nat) bd) ∧ HotM X gh gp gf gm d n fr f := by rw [hX]; exact ⟨HA.out.1, HA.out.2.later ⟨rfl, rfl, rfl, Nat.le_refl _, fun _ _ => rfl⟩⟩
 have HAX : Hid (Row X q 30 (plC dv (A : Nat) (l : Nat) bd) ∧ HotM X gh gp gf gm d n fr f) := HS_
 have HBX : Hid (Below w2.heap.size w2 X) := hX ▸ ⟨rfl, rfl, rfl, Nat.le_refl _, fun _ _ => rfl⟩
 clear hX
 refine tV 0 [13] 17 rfl rfl (gRun rfl (ptr gh) fun _ h => run_mvZ (.tmp 0) rfl (ptr gh) rfl) HS_ ?_
 refine tV 1 [13] 18 rfl rfl (gRun rfl (ptr gh) fun _ h => run_nil (.tmp 17) rfl ⟨gh, 0, none⟩ rfl) HS_ ?_
 refine tV 2 [13] 19 rfl rfl (gRun rfl (.pointer (some ⟨gh, 0 + 2, none⟩)) fun _ h => run_fieldOp' f90_2 (.tmp 18) rfl gh (0) rfl) HS_ ?_
 refine tV 3 [13] 20 rfl rfl (gRun rfl (whole gf fr.length) fun _ h => run_load1 o86 (.tmp 19) rfl gh (0 + 2) rfl (whole gf fr.length) (h.2.row.at 2 _ rfl)) HS_ ?_
 simp only [Act.put, aS, aC, aZ]
 refine tV 4 [13] 21 rfl rfl (gRun rfl (.int .i64 ((A / 16 : Nat) : Int)) fun _ h => run_mvZ (.tmp 5) rfl (.int .i64 ((A / 16 : Nat) : Int)) rfl) HS_ ?_
 refine tV 5 [13] 22 rfl rfl (gRun rfl (.pointer (some ⟨gf, A / 16, none⟩)) fun _ h => run_idx (.tmp 20) (.tmp 21) rfl _ _ _ rfl rfl (ix86 gf fr.length (A / 16) h1)) HS_ ?_
 refine tV 6 [13] 23 rfl rfl (gRun rfl (.int .u16 (s : Nat)) fun _ h => run_load1 o114 (.tmp 22) rfl gf (A / 16) rfl (.int .u16 (s : Nat)) (by rw [HS.out.2.2.1]; exact h.2.free.at (A / 16) _ (u16C_at fr _ h1))) HS_ ?_
 refine tV 7 [13] 24 rfl rfl (gRun rfl (.int .i64 ((A % 16 : Nat) : Int)) fun _ h => run_mvZ (.tmp 6) rfl (.int .i64 ((A % 16 : Nat) : Int)) rfl) HS_ ?_
 simp only [Act.put, aS, aC, aZ]
 refine tV 8 [13] 25 rfl rfl (gRun rfl (.pointer (some ⟨q, 0 + 2, none⟩)) fun _ h => run_fieldOp' f30_2 (.tmp 3) rfl q (0) rfl) HS_ ?_
 refine tV 9 [13] 26 rfl rfl (gRun rfl (.int .i64 (l : Nat)) fun _ h => run_load1 o3 (.tmp 25) rfl q (0 + 2) rfl (.int .i64 (l : Nat)) (h.1.at 2 _ rfl)) HS_ ?_
 simp only [Act.put, aS, aC, aZ]
 refine oneU (i := 10) (by kernel_rfl) ?_
 refine opCallG (some 27) rfl rfl rfl 53 _ (run_call eN53 [.tmp 24, .tmp 26] _ rfl [(.int .i64 ((A % 16 : Nat) : Int)), (.int .i64 (l : Nat))] rfl) ?_
 refine (row_any X (A % 16) l h2).mono ?_
 rintro e w_ ⟨he_, rfl⟩
 rw [← HS.out.2.2.2] at he_
 subst he_
 refine ⟨_, rfl, ?_⟩
 refine ⟨fun _ => HS_, ?_⟩
 simp only [Act.put, aS, aC, aZ]
 refine tV 11 [13] 28 rfl rfl (gRun rfl (.int .u16 (s ||| r : Nat)) fun _ h => run_or16 (.tmp 23) (.tmp 27) rfl s r HS.out.1 HS.out.2.1 rfl rfl) HS_ ?_
 refine tV 12 [13] 29 rfl rfl (gRun rfl (.pointer (some ⟨gf, A / 16, none⟩)) fun _ h => run_idx (.tmp 20) (.tmp 21) rfl _ _ _ rfl rfl (ix86 gf fr.length (A / 16) h1)) HS_ ?_
 simp only [Act.put, aS, aC, aZ]
 refine oneU (i := 13) (by kernel_rfl) ?_
 refine opSkipZ rfl rfl rfl _ (run_putRow (t := 114) size114 (.tmp 29) (.tmp 28) rfl gf (A / 16) 114 (u16C fr) rfl (.int .u16 (s ||| r : Nat)) rfl (u16C_one _) HAX.out.2.free (by rw [u16C_length]; exact h1)) ?_
 refine ⟨(fun h => absurd (show true = false from h) (by decide)), ?_⟩
 refine wpAnyU_done (by kernel_rfl) ?_ _
 obtain ⟨F2, hF2⟩ : ∃ F2, F2 = fr.set (A / 16) (s ||| r : Nat) := ⟨_, rfl⟩
 have k_ := HAX.out.2.setFree (A / 16) (s ||| r : Nat)
 obtain ⟨W2, hW_⟩ : ∃ W, W = X.setCell ⟨gf, A / 16, none⟩ (.int .u16 (s ||| r : Nat)) := ⟨_, rfl⟩
 rw [← hF2, ← hW_] at k_
 rw [← hW_]
 have HA2 : Hid (Row W2 q 30 (plC dv (A : Nat) (l : Nat) bd) ∧ HotM W2 gh gp gf gm d n F2 f) := ⟨k_.2.row (fun e => HB1.out.2.2.2.1 e) HAX.out.1, k_.1⟩
 have HC2 : Hid (Ch (fun b => b = gf ∨ b = gm) w W2) := ((Ch.of_below HB1.out.1).trans (Ch.of_below HBX.out)).trans (k_.2.mono fun _ _ e => Or.inl e)
 have HF2 : Hid (F2 = fr.set (A / 16) (s ||| r : Nat)) := hF2
 clear k_ hW_ hF2 HAX HBX
 go_upto_region 5 with fail
 refine wp_region_until (S := fun X => Row X q 30 (plC dv (A : Nat) (l : Nat) bd) ∧ HotM X gh gp gf gm d n F2 f) 6 (by kernel_rfl) ?_
 show wpAnyU _ _ _ _ _ _ 7 (Array.replicate 7 false) _ _
 obtain ⟨Y, hX⟩ : ∃ Y : World, Y = { W2 with drawn := W2.drawn + 1 } := ⟨_, rfl⟩
 rw [← hX]
 have HT_ : Row Y q 30 (plC dv (A : Nat) (l : Nat) bd) ∧ HotM Y gh gp gf gm d n F2 f := by rw [hX]; exact ⟨HA2.out.1, HA2.out.2.later ⟨rfl, rfl, rfl, Nat.le_refl _, fun _ _ => rfl⟩⟩
 have HAY : Hid (Row Y q 30 (plC dv (A : Nat) (l : Nat) bd) ∧ HotM Y gh gp gf gm d n F2 f) := HT_
 have HBY : Hid (Below W2.heap.size W2 Y) := hX ▸ ⟨rfl, rfl, rfl, Nat.le_refl _, fun _ _ => rfl⟩
 clear hX
 refine tV 0 [1, 2, 3, 6] 30 rfl rfl (gRun rfl (ptr gh) fun _ h => run_mvZ (.tmp 0) rfl (ptr gh) rfl) HT_ ?_
 refine tV 1 [2, 3, 6] 31 rfl rfl (gRun rfl (ptr gh) fun _ h => run_nil (.tmp 30) rfl ⟨gh, 0, none⟩ rfl) HT_ ?_
 refine tV 2 [3, 6] 32 rfl rfl (gRun rfl (.pointer (some ⟨gh, 0 + 3, none⟩)) fun _ h => run_fieldOp' f90_3 (.tmp 31) rfl gh (0) rfl) HT_ ?_
 refine tV 3 [6] 33 rfl rfl (gRun rfl (.map (some gm)) fun _ h => run_load1 o88 (.tmp 32) rfl gh (0 + 3) rfl (.map (some gm)) (h.2.row.at 3 _ rfl)) HT_ ?_
 simp only [Act.put, aS, aC, aZ]
 refine tV 4 [5, 6] 34 rfl rfl (gRun rfl (.pointer (some ⟨q, 0 + 1, none⟩)) fun _ h => run_fieldOp' f30_1 (.tmp 3) rfl q (0) rfl) HT_ ?_
 refine tV 5 [6] 35 rfl rfl (gRun rfl (.int .i64 (A : Nat)) fun _ h => run_load1 o3 (.tmp 34) rfl q (0 + 1) rfl (.int .i64 (A : Nat)) (h.1.at 1 _ rfl)) HT_ ?_
 simp only [Act.put, aS, aC, aZ]
 refine oneU (i := 6) (by kernel_rfl) ?_
 obtain ⟨W3, hrun, hm3, ht3⟩ := HAY.out.2.map.drop (A : Nat) (Wf.of HI.out) HSM.out _
 refine opValueG none rfl rfl rfl (.tuple #[]) W3 (run_delI (.tmp 33) (.tmp 35) rfl (A : Nat) rfl rfl hrun) ?_
 refine ⟨(fun h => absurd (show true = false from h) (by decide)), ?_⟩
 have k_ := HAY.out.2.setMap ht3 hm3
 have HA3 : Hid (HotM W3 gh gp gf gm d (n - 1) F2 (fun q => if q = (A : Nat) then none else f q) ∧ Ch (fun b => b = gf ∨ b = gm) w W3) := ⟨k_.1, (HC2.out.trans (Ch.of_below HBY.out)).trans (k_.2.mono fun _ _ e => Or.inr e)⟩
 clear k_ hrun hm3 ht3
 refine wpAnyU_done (by kernel_rfl) ?_ _
 go_wp2_with fail
 rw [HPQ.out]
 exact ⟨rfl, by rw [← HS.out.2.2.1, ← HS.out.2.2.2, ← HF2.out]; exact HA3.out.1, HA3.out.2⟩

end Go.Proofs.YthgidfoidbgnaaaDoor

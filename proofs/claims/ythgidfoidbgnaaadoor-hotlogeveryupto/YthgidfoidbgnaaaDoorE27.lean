/- Layer 14: where there is room first; the tag. -/
import Derived.Test.YthgidfoidbgnaaaDoorE26
namespace Go.Proofs.YthgidfoidbgnaaaDoor
open Go.RowKit Go.Maps

theorem find_no (w : World) (ht : TzIn w) (s N : Nat) (hs : s < 65536) (hn : N < 16) (hz : moves N s = 0) : Calls Tryd.prog 59 #[.int .u16 (s : Nat), .int .i64 ((N + 1 : Nat) : Int)] w fun e w' => e = .returned (.tuple #[.int .i64 0, .bool false]) ∧ w = w' :=
 (find_any w ht s N hs hn).mono fun e w' h => by
  rcases h with ⟨h1, ⟨_, h2⟩ | ⟨h2, _⟩⟩
  ·exact ⟨h2, h1⟩
  ·exact absurd hz h2
theorem find_yes (w : World) (ht : TzIn w) (s N j : Nat) (hs : s < 65536) (hn : N < 16) (hz : moves N s ≠ 0) (hj : j = tzAt (moves N s)) : Calls Tryd.prog 59 #[.int .u16 (s : Nat), .int .i64 ((N + 1 : Nat) : Int)] w fun e w' => e = .returned (.tuple #[.int .i64 (j : Nat), .bool true]) ∧ w = w' :=
 (find_any w ht s N hs hn).mono fun e w' h => by
  rcases h with ⟨h1, ⟨h2, _⟩ | ⟨_, h2⟩⟩
  ·exact absurd h2 hz
  ·exact ⟨by rw [hj]; exact h2, h1⟩
set_option maxHeartbeats 4000000 in
set_option maxRecDepth 100000 in
theorem leastFree_any {w : World} {gh gp gf gm d n : Nat} {fr : List Nat} {f : Int → Option Int} (h : HotM w gh gp gf gm d n fr f) (ht : TzIn w) (hf : ∀ s ∈ fr, s < 65536) (hk : fr.length ≤ 1000) (N : Nat) (hN : N < 16) : Calls Tryd.prog 40 #[ptr gh, .int .i64 ((N + 1 : Nat) : Int)] w fun e w' => Below w.heap.size w w' ∧ ((∃ a, FirstFit fr a (N + 1) ∧ a < 16 * fr.length ∧ e = .returned (.tuple #[.agg (plC (d : Nat) (a : Nat) ((N + 1 : Nat) : Int) false).toArray, .bool true])) ∨ ((∀ a, ¬ AllFree fr a (N + 1)) ∧ e = .returned (.tuple #[.agg (plC 0 0 0 false).toArray, .bool false]))) := by
 have HM : Hid (HotM w gh gp gf gm d n fr f ∧ TzIn w) := ⟨h, ht⟩
 have HF : Hid (∀ s ∈ fr, s < 65536) := hf
 clear h hf ht
 obtain ⟨PQ, HPQ⟩ := exPQ fun (e : Ending) (w' : World) => Below w.heap.size w w' ∧ ((∃ a, FirstFit fr a (N + 1) ∧ a < 16 * fr.length ∧ e = .returned (.tuple #[.agg (plC (d : Nat) (a : Nat) ((N + 1 : Nat) : Int) false).toArray, .bool true])) ∨ ((∀ a, ¬ AllFree fr a (N + 1)) ∧ e = .returned (.tuple #[.agg (plC 0 0 0 false).toArray, .bool false])))
 rw [← HPQ.out]
 go_enter Tryd.func40, Tryd.ntmps40
 go_upto_region 0 with fail
 refine wp_region_lit ?_
 refine wl rfl (ptr w.heap.size) _ (run_allocA (plC 0 0 0 false) zero30 rfl) ?_
 have hb_ := below_alloc w (.cells (plC 0 0 0 false).toArray 30)
 have r_ := Row.new w 30 (plC 0 0 0 false)
 obtain ⟨w1, hW_⟩ : ∃ W, W = w.alloc (.cells (plC 0 0 0 false).toArray 30) := ⟨_, rfl⟩
 obtain ⟨q, hq_⟩ : ∃ q, q = w.heap.size := ⟨_, rfl⟩
 rw [← hW_] at hb_
 rw [← hW_, ← hq_] at r_
 rw [← hW_, ← hq_]
 have HA : Hid (Row w1 q 30 (plC 0 0 0 false) ∧ HotM w1 gh gp gf gm d n fr f ∧ TzIn w1 ∧ Below w.heap.size w w1 ∧ w.heap.size ≤ q) := ⟨r_, HM.out.1.later hb_, HM.out.2.later hb_, hb_, by omega⟩
 clear r_ hb_ hW_ hq_ HM
 simp only [Act.put, aS, aC, aZ]
 refine wl rfl (.bool false) _ (run_asZ (.const (.bool false)) rfl (.bool false) rfl) ?_
 simp only [Act.put, aS, aC, aZ]
 refine wpList_nil ?_
 go_upto_region 1 with fail
 refine wp_region_lit ?_
 refine wl rfl (ptr gh) _ (run_mvZ (.tmp 0) rfl (ptr gh) rfl) ?_
 refine wl rfl (ptr gh) _ (run_nil (.tmp 10) rfl ⟨gh, 0, none⟩ rfl) ?_
 refine wl rfl (.pointer (some ⟨gh, 0 + 2, none⟩)) _ (run_fieldOp' f90_2 (.tmp 11) rfl gh (0) rfl) ?_
 refine wl rfl (whole gf fr.length) _ (run_load1 o86 (.tmp 12) rfl gh (0 + 2) rfl (whole gf fr.length) (HA.out.2.1.row.at 2 _ rfl)) ?_
 simp only [Act.put, aS, aC, aZ]
 refine wl rfl (.int .i64 (fr.length : Nat)) _ (run_lenZ sl86 (.tmp 13) rfl (some ⟨gf, 0, none⟩) fr.length fr.length rfl) ?_
 refine wl rfl (.int .i64 0) _ (run_mvZ (.const (.int .i64 0)) rfl (.int .i64 0) rfl) ?_
 simp only [Act.put, aS, aC, aZ]
 refine wpList_nil ?_
 go_wp2_with fail
 go_loopw [15] (fun vi W => ∃ i : Nat, vi = .int .i64 (i : Nat) ∧ i ≤ fr.length ∧ Hid (∀ a, a / 16 < i → ¬ AllFree fr a (N + 1)) ∧ w1 = W) (fun vi _ => fr.length - (intOf vi).toNat)
 case atStart => exact ⟨0, rfl, Nat.zero_le _, fun a ha => absurd ha (Nat.not_lt_zero _), rfl⟩
 case round =>
  obtain ⟨i, rfl, hi, HI, rfl⟩ := hrel
  by_cases hlt : i < fr.length
  ·obtain ⟨s, hs⟩ : ∃ s, s = fr.getD i 0 := ⟨_, rfl⟩
   have HS : Hid (s = fr.getD i 0 ∧ s < 65536) := ⟨hs, by rw [hs]; exact getD_mem_lt HF.out i⟩
   clear hs
   by_cases hz : moves N s = 0
   ·go_upto_region 2 with fail
    refine wp_region_lit ?_
    refine wl rfl (.bool true) _ (run_lssZ (.tmp 15) (.tmp 14) rfl (i : Nat) (fr.length : Nat) rfl rfl true (decide_eq_true (by omega))) ?_
    simp only [Act.put, aS, aC, aZ]
    refine wpList_nil ?_
    go_upto_region 3 with fail
    refine wp_region_lit ?_
    refine wl rfl (.int .i64 (i : Nat)) _ (run_mvZ (.tmp 15) rfl (.int .i64 (i : Nat)) rfl) ?_
    refine wl rfl (.pointer (some ⟨gf, i, none⟩)) _ (run_idx (.tmp 13) (.tmp 15) rfl _ _ _ rfl rfl (ix86 gf fr.length i hlt)) ?_
    refine wl rfl (.int .u16 (s : Nat)) _ (run_load1 o114 (.tmp 18) rfl gf (i) rfl (.int .u16 (s : Nat)) (by rw [HS.out.1]; exact HA.out.2.1.free.at i _ (u16C_at fr i hlt))) ?_
    refine wl rfl (.int .i64 (i : Nat)) _ (run_asZ (.tmp 17) rfl (.int .i64 (i : Nat)) rfl) ?_
    simp only [Act.put, aS, aC, aZ]
    refine wl rfl (.int .u16 (s : Nat)) _ (run_asZ (.tmp 19) rfl (.int .u16 (s : Nat)) rfl) ?_
    simp only [Act.put, aS, aC, aZ]
    refine wpList_nil ?_
    go_upto_region 4 with fail
    refine wp_region_lit ?_
    refine wl rfl (.int .u16 (s : Nat)) _ (run_mvZ (.tmp 7) rfl (.int .u16 (s : Nat)) rfl) ?_
    refine wl rfl (.int .i64 ((N + 1 : Nat) : Int)) _ (run_mvZ (.tmp 1) rfl (.int .i64 ((N + 1 : Nat) : Int)) rfl) ?_
    simp only [Act.put, aS, aC, aZ]
    refine wpList_callW eN59 [.tmp 21, .tmp 22] _ rfl rfl [(.int .u16 (s : Nat)), (.int .i64 ((N + 1 : Nat) : Int))] rfl ?_
    refine (find_no w1 HA.out.2.2.1 s N HS.out.2 hN hz).mono ?_
    rintro e w_ ⟨rfl, rfl⟩
    refine ⟨_, rfl, ?_⟩
    simp only [Act.put, aS, aC, aZ]
    refine wl rfl (.tuple #[(.int .i64 0), (.bool false)]) _ (run_mvZ (.tmp 23) rfl (.tuple #[(.int .i64 0), (.bool false)]) rfl) ?_
    refine wl rfl (.int .i64 0) _ (run_extZ (.tmp 20) 0 rfl #[(.int .i64 0), (.bool false)] rfl (.int .i64 0) rfl) ?_
    refine wl rfl (.bool false) _ (run_extZ (.tmp 20) 1 rfl #[(.int .i64 0), (.bool false)] rfl (.bool false) rfl) ?_
    refine wl rfl (.int .i64 0) _ (run_asZ (.tmp 24) rfl (.int .i64 0) rfl) ?_
    simp only [Act.put, aS, aC, aZ]
    refine wl rfl (.bool false) _ (run_asZ (.tmp 25) rfl (.bool false) rfl) ?_
    simp only [Act.put, aS, aC, aZ]
    refine wpList_nil ?_
    go_wp2_with fail
    refine ⟨⟨i + 1, by go_num, by omega, (fun a ha => by
     rcases Nat.lt_or_ge (a / 16) i with k | k
     ·exact HI.out a k
     ·exact seg_none (i := i) (by rw [← HS.out.1]; exact hz) a (by omega)), by first | rfl | trivial⟩, ?_⟩
    simp [intOf]; omega
   ·go_upto_region 2 with fail
    refine wp_region_lit ?_
    refine wl rfl (.bool true) _ (run_lssZ (.tmp 15) (.tmp 14) rfl (i : Nat) (fr.length : Nat) rfl rfl true (decide_eq_true (by omega))) ?_
    simp only [Act.put, aS, aC, aZ]
    refine wpList_nil ?_
    go_upto_region 3 with fail
    refine wp_region_lit ?_
    refine wl rfl (.int .i64 (i : Nat)) _ (run_mvZ (.tmp 15) rfl (.int .i64 (i : Nat)) rfl) ?_
    refine wl rfl (.pointer (some ⟨gf, i, none⟩)) _ (run_idx (.tmp 13) (.tmp 15) rfl _ _ _ rfl rfl (ix86 gf fr.length i hlt)) ?_
    refine wl rfl (.int .u16 (s : Nat)) _ (run_load1 o114 (.tmp 18) rfl gf (i) rfl (.int .u16 (s : Nat)) (by rw [HS.out.1]; exact HA.out.2.1.free.at i _ (u16C_at fr i hlt))) ?_
    refine wl rfl (.int .i64 (i : Nat)) _ (run_asZ (.tmp 17) rfl (.int .i64 (i : Nat)) rfl) ?_
    simp only [Act.put, aS, aC, aZ]
    refine wl rfl (.int .u16 (s : Nat)) _ (run_asZ (.tmp 19) rfl (.int .u16 (s : Nat)) rfl) ?_
    simp only [Act.put, aS, aC, aZ]
    refine wpList_nil ?_
    obtain ⟨j, hj⟩ : ∃ j, j = tzAt (moves N s) := ⟨_, rfl⟩
    have hl := tz_low (moves_lt N s HS.out.2) hz
    rw [← hj] at hl
    have HL : Hid (FirstFit fr (16 * i + j) (N + 1) ∧ j < 16) := ⟨seg_some HI.out hlt (by rw [← HS.out.1]; exact HS.out.2) hl.2.1 (by rw [← HS.out.1]; exact hl.2.2), hl.2.1⟩
    have hj16 : j < 16 := hl.2.1
    have HJ : Hid (j = tzAt (moves N s)) := hj
    clear hj hl
    go_upto_region 4 with fail
    refine wp_region_lit ?_
    refine wl rfl (.int .u16 (s : Nat)) _ (run_mvZ (.tmp 7) rfl (.int .u16 (s : Nat)) rfl) ?_
    refine wl rfl (.int .i64 ((N + 1 : Nat) : Int)) _ (run_mvZ (.tmp 1) rfl (.int .i64 ((N + 1 : Nat) : Int)) rfl) ?_
    simp only [Act.put, aS, aC, aZ]
    refine wpList_callW eN59 [.tmp 21, .tmp 22] _ rfl rfl [(.int .u16 (s : Nat)), (.int .i64 ((N + 1 : Nat) : Int))] rfl ?_
    refine (find_yes w1 HA.out.2.2.1 s N j HS.out.2 hN hz HJ.out).mono ?_
    rintro e w_ ⟨rfl, rfl⟩
    refine ⟨_, rfl, ?_⟩
    simp only [Act.put, aS, aC, aZ]
    refine wl rfl (.tuple #[(.int .i64 (j : Nat)), (.bool true)]) _ (run_mvZ (.tmp 23) rfl (.tuple #[(.int .i64 (j : Nat)), (.bool true)]) rfl) ?_
    refine wl rfl (.int .i64 (j : Nat)) _ (run_extZ (.tmp 20) 0 rfl #[(.int .i64 (j : Nat)), (.bool true)] rfl (.int .i64 (j : Nat)) rfl) ?_
    refine wl rfl (.bool true) _ (run_extZ (.tmp 20) 1 rfl #[(.int .i64 (j : Nat)), (.bool true)] rfl (.bool true) rfl) ?_
    refine wl rfl (.int .i64 (j : Nat)) _ (run_asZ (.tmp 24) rfl (.int .i64 (j : Nat)) rfl) ?_
    simp only [Act.put, aS, aC, aZ]
    refine wl rfl (.bool true) _ (run_asZ (.tmp 25) rfl (.bool true) rfl) ?_
    simp only [Act.put, aS, aC, aZ]
    refine wpList_nil ?_
    go_upto_region 6 with fail
    refine wp_region_lit ?_
    refine wl rfl (ptr gh) _ (run_mvZ (.tmp 0) rfl (ptr gh) rfl) ?_
    refine wl rfl (ptr gh) _ (run_nil (.tmp 27) rfl ⟨gh, 0, none⟩ rfl) ?_
    refine wl rfl (.pointer (some ⟨gh, 0 + 1, none⟩)) _ (run_fieldOp' f90_1 (.tmp 28) rfl gh (0) rfl) ?_
    refine wl rfl (.int .i64 (d : Nat)) _ (run_load1 o3 (.tmp 29) rfl gh (0 + 1) rfl (.int .i64 (d : Nat)) (HA.out.2.1.row.at 1 _ rfl)) ?_
    simp only [Act.put, aS, aC, aZ]
    refine wl rfl (.int .i64 (i : Nat)) _ (run_mvZ (.tmp 6) rfl (.int .i64 (i : Nat)) rfl) ?_
    refine wl rfl (.int .i64 ((i * 16 : Nat) : Int)) _ (run_mulZ (.tmp 31) (.const (.int .i64 16)) rfl (i : Nat) 16 _ rfl rfl (by omega) (by omega) (by omega)) ?_
    refine wl rfl (.int .i64 (j : Nat)) _ (run_mvZ (.tmp 8) rfl (.int .i64 (j : Nat)) rfl) ?_
    refine wl rfl (.int .i64 ((16 * i + j : Nat) : Int)) _ (run_addZ (.tmp 32) (.tmp 33) rfl ((i * 16 : Nat) : Int) (j : Nat) _ rfl rfl (by omega) (by omega) (by omega)) ?_
    simp only [Act.put, aS, aC, aZ]
    refine wl rfl (.int .i64 ((N + 1 : Nat) : Int)) _ (run_mvZ (.tmp 1) rfl (.int .i64 ((N + 1 : Nat) : Int)) rfl) ?_
    refine wl rfl (.agg (plC (d : Nat) ((16 * i + j : Nat) : Int) ((N + 1 : Nat) : Int) false).toArray) _ (run_build30 (.tmp 30) (.tmp 34) (.tmp 35) rfl _ _ _ rfl rfl rfl) ?_
    simp only [Act.put, aS, aC, aZ]
    refine wlS rfl rfl _ (run_storeA ag30 (.tmp 4) (.tmp 36) rfl q 30 rfl (plC (d : Nat) ((16 * i + j : Nat) : Int) ((N + 1 : Nat) : Int) false) _ rfl rfl HA.out.1 rfl (plC_one _ _ _ _)) ?_
    have hb_ := (Ch.setRow (S := (· = q)) (Ch.refl _ w1) (Or.inl rfl) (plC (d : Nat) ((16 * i + j : Nat) : Int) ((N + 1 : Nat) : Int) false).toArray)
    have r_ := HA.out.1.setRow (plC (d : Nat) ((16 * i + j : Nat) : Int) ((N + 1 : Nat) : Int) false)
    obtain ⟨w2, hW_⟩ : ∃ W, W = w1.setRow q (plC (d : Nat) ((16 * i + j : Nat) : Int) ((N + 1 : Nat) : Int) false).toArray := ⟨_, rfl⟩
    rw [← hW_] at hb_ r_ ⊢
    clear hW_
    refine wl rfl (.bool true) _ (run_asZ (.const (.bool true)) rfl (.bool true) rfl) ?_
    simp only [Act.put, aS, aC, aZ]
    refine wpList_nil ?_
    have HR : Hid (Row w2 q 30 (plC (d : Nat) ((16 * i + j : Nat) : Int) ((N + 1 : Nat) : Int) false) ∧ Ch (· = q) w1 w2) := ⟨r_, hb_⟩
    clear r_ hb_
    go_wp2_with fail
    rw [HPQ.out]
    exact bodyPost_ret (results_cell_tmp ag30 Tryd.results40 _ _ q 30 rfl (plC (d : Nat) ((16 * i + j : Nat) : Int) ((N + 1 : Nat) : Int) false) rfl HR.out.1) rfl ⟨HA.out.2.2.2.1.trans (HR.out.2.below HA.out.2.2.2.1.size fun k hk e => by have := HA.out.2.2.2.2; omega), Or.inl ⟨16 * i + j, HL.out.1, by omega, rfl⟩⟩
  ·go_upto_region 2 with fail
   refine wp_region_lit ?_
   refine wl rfl (.bool false) _ (run_lssZ (.tmp 15) (.tmp 14) rfl (i : Nat) (fr.length : Nat) rfl rfl false (decide_eq_false (by omega))) ?_
   simp only [Act.put, aS, aC, aZ]
   refine wpList_nil ?_
   go_upto_region 8 with fail
   refine wp_region_lit ?_
   refine wl rfl (.agg (plC 0 0 0 false).toArray) _ (run_build30z rfl) ?_
   simp only [Act.put, aS, aC, aZ]
   refine wlS rfl rfl _ (run_storeA ag30 (.tmp 4) (.tmp 38) rfl q 30 rfl (plC 0 0 0 false) _ rfl rfl HA.out.1 rfl (plC_one _ _ _ _)) ?_
   have hb_ := (Ch.setRow (S := (· = q)) (Ch.refl _ w1) (Or.inl rfl) (plC 0 0 0 false).toArray)
   have r_ := HA.out.1.setRow (plC 0 0 0 false)
   obtain ⟨w2, hW_⟩ : ∃ W, W = w1.setRow q (plC 0 0 0 false).toArray := ⟨_, rfl⟩
   rw [← hW_] at hb_ r_ ⊢
   clear hW_
   refine wl rfl (.bool false) _ (run_asZ (.const (.bool false)) rfl (.bool false) rfl) ?_
   simp only [Act.put, aS, aC, aZ]
   refine wpList_nil ?_
   have HR : Hid (Row w2 q 30 (plC 0 0 0 false) ∧ Ch (· = q) w1 w2) := ⟨r_, hb_⟩
   clear r_ hb_
   go_wp2_with fail
   rw [HPQ.out]
   exact bodyPost_ret (results_cell_tmp ag30 Tryd.results40 _ _ q 30 rfl (plC 0 0 0 false) rfl HR.out.1) rfl ⟨HA.out.2.2.2.1.trans (HR.out.2.below HA.out.2.2.2.1.size fun k hk e => by have := HA.out.2.2.2.2; omega), Or.inr ⟨fun a ha => HI.out a (by have := ha.1; omega) ha, rfl⟩⟩
set_option maxHeartbeats 4000000 in
set_option maxRecDepth 100000 in
theorem tag_any {w : World} {gh gp gf gm d n : Nat} {fr : List Nat} {f : Int → Option Int} {c : Nat → Colour} {m : Pl} (h : HotM w gh gp gf gm d n fr f) (hp : Live w c 2 gp m) (hst : m.steps ≤ 9223372036854775807) : Calls Tryd.prog 44 #[ptr gh] w fun e w' => e = .returned (.int .u64 (m.steps : Nat)) ∧ w = w' := by
 have HM : Hid (HotM w gh gp gf gm d n fr f) := h
 have HP : Hid (Live w c 2 gp m ∧ m.steps ≤ 9223372036854775807) := ⟨hp, hst⟩
 clear h hp hst
 obtain ⟨PQ, HPQ⟩ := exPQ fun (e : Ending) (w' : World) => e = .returned (.int .u64 (m.steps : Nat)) ∧ w = w'
 rw [← HPQ.out]
 go_enter Tryd.func44, Tryd.ntmps44
 go_upto_region 1 with fail
 refine wp_region_lit ?_
 refine wl rfl (ptr gh) _ (run_mvZ (.tmp 0) rfl (ptr gh) rfl) ?_
 refine wl rfl (ptr gh) _ (run_nil (.tmp 3) rfl ⟨gh, 0, none⟩ rfl) ?_
 refine wl rfl (.pointer (some ⟨gh, 0 + 0, none⟩)) _ (run_fieldOp' f90_0 (.tmp 4) rfl gh (0) rfl) ?_
 refine wl rfl (ptr gp) _ (run_load1 o34 (.tmp 5) rfl gh (0 + 0) rfl (ptr gp) (HM.out.row.at 0 _ rfl)) ?_
 simp only [Act.put, aS, aC, aZ]
 refine wpList_callW eN65 [.tmp 6] _ rfl rfl [(ptr gp)] rfl ?_
 refine (HP.out.1.steps).mono ?_
 rintro e w_ ⟨rfl, rfl⟩
 refine ⟨_, rfl, ?_⟩
 simp only [Act.put, aS, aC, aZ]
 refine wl rfl (.int .u64 (m.steps : Nat)) _ (run_i64u64 (.tmp 7) rfl m.steps HP.out.2 rfl) ?_
 refine wl rfl (.int .u64 (m.steps : Nat)) _ (run_asZ (.tmp 8) rfl (.int .u64 (m.steps : Nat)) rfl) ?_
 simp only [Act.put, aS, aC, aZ]
 refine wpList_nil ?_
 go_wp2_with fail
 rw [HPQ.out]
 exact ⟨rfl, rfl⟩

end Go.Proofs.YthgidfoidbgnaaaDoor

/- Layer 14: images held against one another; what a frame tells. -/
import Derived.Test.YthgidfoidbgnaaaDoorE31
namespace Go.Proofs.YthgidfoidbgnaaaDoor
open Go.RowKit Go.Maps


theorem ImgIn.cells {W : World} {gi : Nat} {F : List (List Nat)} (h : ImgIn W gi F) (i : Nat) (hi : i < F.length) : ∀ j v, (bcells (F.getD i []))[j]? = some v → W.cell? ⟨gi, i * 64 + j, none⟩ = some v := fun j v hv => by
 have hs := h.sec _ (getD_memS hi)
 have hj : j < (F.getD i []).length := by
  have := (List.getElem?_eq_some_iff.1 hv).1
  rwa [bcells_length] at this
 rw [bcells_at _ _ hj] at hv
 rw [h.cell i hi j (by rw [hs.1] at hj; exact hj)]
 exact hv
theorem all_getD {F G : List (List Nat)} (hl : F.length = G.length) (h : ∀ j, j < F.length → F.getD j [] = G.getD j []) : F = G := by
 refine List.ext_getElem hl fun j h1 h2 => ?_
 have := h j h1
 simpa [h1, h2] using this
set_option maxHeartbeats 4000000 in
set_option maxRecDepth 100000 in
theorem equal_any {w : World} {gi gj : Nat} {F G : List (List Nat)} (hF : ImgIn w gi F) (hG : ImgIn w gj G) (hl : F.length ≤ 1000) : Calls Tryd.prog 68 #[whole gi F.length, whole gj G.length] w fun e w' => e = .returned (.bool (decide (F = G))) ∧ Below w.heap.size w w' := by
 have HF : Hid (ImgIn w gi F ∧ ImgIn w gj G) := ⟨hF, hG⟩
 clear hF hG
 obtain ⟨PQ, HPQ⟩ := exPQ fun (e : Ending) (w' : World) => e = .returned (.bool (decide (F = G))) ∧ Below w.heap.size w w'
 rw [← HPQ.out]
 go_enter Tryd.func68, Tryd.ntmps68
 go_upto_region 0 with fail
 refine wp_region_lit ?_
 refine wl rfl (.bool false) _ (run_asZ (.const (.bool false)) rfl (.bool false) rfl) ?_
 simp only [Act.put, aS, aC, aZ]
 refine wpList_nil ?_
 by_cases hlen : F.length = G.length
 ·go_upto_region 1 with fail
  refine wp_region_lit ?_
  refine wl rfl (whole gi F.length) _ (run_mvZ (.tmp 0) rfl (whole gi F.length) rfl) ?_
  refine wl rfl (.int .i64 (F.length : Nat)) _ (run_lenZ sl96 (.tmp 6) rfl (some ⟨gi, 0, none⟩) F.length F.length rfl) ?_
  refine wl rfl (whole gj G.length) _ (run_mvZ (.tmp 1) rfl (whole gj G.length) rfl) ?_
  refine wl rfl (.int .i64 (G.length : Nat)) _ (run_lenZ sl96 (.tmp 8) rfl (some ⟨gj, 0, none⟩) G.length G.length rfl) ?_
  simp only [Act.put, aS, aC, aZ]
  refine wl rfl (.bool false) _ (run_neZ (.tmp 7) (.tmp 9) rfl (F.length : Nat) (G.length : Nat) rfl rfl false (by rw [decide_eq_true (by omega)]; rfl)) ?_
  simp only [Act.put, aS, aC, aZ]
  refine wpList_nil ?_
  have HLN : Hid (F.length = G.length) := hlen
  clear hlen
  go_upto_region 3 with fail
  refine wp_region_lit ?_
  refine wl rfl (whole gi F.length) _ (run_mvZ (.tmp 0) rfl (whole gi F.length) rfl) ?_
  refine wl rfl (.int .i64 (F.length : Nat)) _ (run_lenZ sl96 (.tmp 11) rfl (some ⟨gi, 0, none⟩) F.length F.length rfl) ?_
  refine wl rfl (.int .i64 0) _ (run_mvZ (.const (.int .i64 0)) rfl (.int .i64 0) rfl) ?_
  simp only [Act.put, aS, aC, aZ]
  refine wpList_nil ?_
  go_wp2_with fail
  go_loopw [13] (fun vi W => ∃ i : Nat, vi = .int .i64 (i : Nat) ∧ i ≤ F.length ∧ Hid ((∀ j, j < i → F.getD j [] = G.getD j []) ∧ Below w.heap.size w W)) (fun vi _ => F.length - (intOf vi).toNat)
  case atStart => exact ⟨0, rfl, Nat.zero_le _, ⟨fun j hj => absurd hj (Nat.not_lt_zero _), Below.refl _ _⟩⟩
  case round =>
   obtain ⟨i, rfl, hi, HI⟩ := hrel
   by_cases hlt : i < F.length
   ·go_upto_region 4 with fail
    refine wp_region_lit ?_
    refine wl rfl (.bool true) _ (run_lssZ (.tmp 13) (.tmp 12) rfl (i : Nat) (F.length : Nat) rfl rfl true (decide_eq_true (by omega))) ?_
    simp only [Act.put, aS, aC, aZ]
    refine wpList_nil ?_
    go_upto_region 5 with fail
    refine wp_region_lit ?_
    refine wl rfl (.int .i64 (i : Nat)) _ (run_mvZ (.tmp 13) rfl (.int .i64 (i : Nat)) rfl) ?_
    refine wl rfl (.int .i64 (i : Nat)) _ (run_asZ (.tmp 15) rfl (.int .i64 (i : Nat)) rfl) ?_
    simp only [Act.put, aS, aC, aZ]
    refine wpList_nil ?_
    have hlg : i < G.length := (by have := HLN.out; omega)
    obtain ⟨s1, hs1⟩ : ∃ s, s = F.getD i [] := ⟨_, rfl⟩
    obtain ⟨s2, hs2⟩ : ∃ s, s = G.getD i [] := ⟨_, rfl⟩
    have HS : Hid (s1 = F.getD i [] ∧ s2 = G.getD i [] ∧ Sec s1 ∧ Sec s2) := ⟨hs1, hs2, by rw [hs1]; exact HF.out.1.sec _ (getD_memS hlt), by rw [hs2]; exact HF.out.2.sec _ (getD_memS hlg)⟩
    clear hs1 hs2
    obtain ⟨bq, hbq⟩ : ∃ b, (!decide (s1 = s2)) = b := ⟨_, rfl⟩
    have HBQ : Hid ((!decide (s1 = s2)) = bq) := hbq
    clear hbq
    go_upto_region 6 with fail
    refine wp_region_held (S := fun X => ImgIn X gi F ∧ ImgIn X gj G) (by kernel_rfl) ?_
    show wpAnyH _ _ _ _ _ 9 (Array.replicate 9 false) _ _
    obtain ⟨X, hX⟩ : ∃ X : World, X = { wr with drawn := wr.drawn + 1 } := ⟨_, rfl⟩
    rw [← hX]
    have HBX : Hid (Below w.heap.size w X) := (by rw [hX]; exact HI.out.2.trans ⟨rfl, rfl, rfl, Nat.le_refl _, fun _ _ => rfl⟩)
    have HS_ : ImgIn X gi F ∧ ImgIn X gj G := ⟨HF.out.1.later HBX.out, HF.out.2.later HBX.out⟩
    clear hX
    refine tH 0 16 rfl rfl (gRun rfl (whole gi F.length) fun _ h => run_mvZ (.tmp 0) rfl (whole gi F.length) rfl) HS_ ?_
    refine tH 1 17 rfl rfl (gRun rfl (.int .i64 (i : Nat)) fun _ h => run_mvZ (.tmp 5) rfl (.int .i64 (i : Nat)) rfl) HS_ ?_
    refine tH 2 18 rfl rfl (gRun rfl (.pointer (some ⟨gi, i * 64, none⟩)) fun _ h => run_idx (.tmp 16) (.tmp 17) rfl _ _ _ rfl rfl (ix96 gi F.length i hlt)) HS_ ?_
    refine tH 3 19 rfl rfl (gRun rfl (.agg (bcells s1).toArray) fun _ h => run_loadA ag73 (.tmp 18) rfl gi (i * 64) rfl (bcells s1) (by rw [bcells_length]; exact HS.out.2.2.1.1) (by rw [HS.out.1]; exact h.1.cells i hlt)) HS_ ?_
    simp only [Act.put, aS, aC, aZ]
    refine tH 4 20 rfl rfl (gRun rfl (whole gj G.length) fun _ h => run_mvZ (.tmp 1) rfl (whole gj G.length) rfl) HS_ ?_
    refine tH 5 21 rfl rfl (gRun rfl (.int .i64 (i : Nat)) fun _ h => run_mvZ (.tmp 5) rfl (.int .i64 (i : Nat)) rfl) HS_ ?_
    refine tH 6 22 rfl rfl (gRun rfl (.pointer (some ⟨gj, i * 64, none⟩)) fun _ h => run_idx (.tmp 20) (.tmp 21) rfl _ _ _ rfl rfl (ix96 gj G.length i hlg)) HS_ ?_
    refine tH 7 23 rfl rfl (gRun rfl (.agg (bcells s2).toArray) fun _ h => run_loadA ag73 (.tmp 22) rfl gj (i * 64) rfl (bcells s2) (by rw [bcells_length]; exact HS.out.2.2.2.1) (by rw [HS.out.2.1]; exact h.2.cells i hlg)) HS_ ?_
    simp only [Act.put, aS, aC, aZ]
    refine tH 8 24 rfl rfl (gRun rfl (.bool bq) fun _ h => run_neSec (.tmp 19) (.tmp 23) rfl s1 s2 HS.out.2.2.1 HS.out.2.2.2 rfl rfl bq HBQ.out) HS_ ?_
    simp only [Act.put, aS, aC, aZ]
    refine wpAnyH_done (by kernel_rfl) ?_ _
    cases bq with
    | true =>
     go_wp2_with fail
     rw [HPQ.out]
     refine ⟨?_, HBX.out⟩
     have hne : ¬ F = G := fun e_ => by
      have h1 := HBQ.out
      rw [HS.out.1, HS.out.2.1, e_] at h1
      simp at h1
     rw [decide_eq_false hne]
     rfl
    | false =>
     go_wp2_with fail
     refine ⟨⟨i + 1, by go_num, by omega, ⟨fun j hj => ?_, HBX.out⟩⟩, ?_⟩
     ·rcases Nat.lt_or_ge j i with q | q
      ·exact HI.out.1 j q
      ·have e_ : j = i := (by omega)
       subst e_
       rw [← HS.out.1, ← HS.out.2.1]
       have h1 := HBQ.out
       simpa using h1
     ·simp [intOf]; omega
   ·go_upto_region 4 with fail
    refine wp_region_lit ?_
    refine wl rfl (.bool false) _ (run_lssZ (.tmp 13) (.tmp 12) rfl (i : Nat) (F.length : Nat) rfl rfl false (decide_eq_false (by omega))) ?_
    simp only [Act.put, aS, aC, aZ]
    refine wpList_nil ?_
    go_upto_region 9 with fail
    refine wp_region_lit ?_
    refine wl rfl (.bool true) _ (run_asZ (.const (.bool true)) rfl (.bool true) rfl) ?_
    simp only [Act.put, aS, aC, aZ]
    refine wpList_nil ?_
    go_wp2_with fail
    rw [HPQ.out]
    refine ⟨?_, HI.out.2⟩
    rw [decide_eq_true (all_getD HLN.out fun j hj => HI.out.1 j (by omega))]
    rfl
 ·go_upto_region 1 with fail
  refine wp_region_lit ?_
  refine wl rfl (whole gi F.length) _ (run_mvZ (.tmp 0) rfl (whole gi F.length) rfl) ?_
  refine wl rfl (.int .i64 (F.length : Nat)) _ (run_lenZ sl96 (.tmp 6) rfl (some ⟨gi, 0, none⟩) F.length F.length rfl) ?_
  refine wl rfl (whole gj G.length) _ (run_mvZ (.tmp 1) rfl (whole gj G.length) rfl) ?_
  refine wl rfl (.int .i64 (G.length : Nat)) _ (run_lenZ sl96 (.tmp 8) rfl (some ⟨gj, 0, none⟩) G.length G.length rfl) ?_
  simp only [Act.put, aS, aC, aZ]
  refine wl rfl (.bool true) _ (run_neZ (.tmp 7) (.tmp 9) rfl (F.length : Nat) (G.length : Nat) rfl rfl true (by rw [decide_eq_false (by omega)]; rfl)) ?_
  simp only [Act.put, aS, aC, aZ]
  refine wpList_nil ?_
  go_upto_region 2 with fail
  refine wp_region_lit ?_
  refine wl rfl (.bool false) _ (run_asZ (.const (.bool false)) rfl (.bool false) rfl) ?_
  simp only [Act.put, aS, aC, aZ]
  refine wpList_nil ?_
  go_wp2_with fail
  rw [HPQ.out]
  refine ⟨?_, Below.refl _ _⟩
  rw [decide_eq_false (fun e_ => hlen (by rw [e_]))]
  rfl

theorem pcs_snoc {F : List (List Nat)} (i : Nat) (h : i < F.length) : pcs (F.take i) ++ (F.getD i []).take 59 = pcs (F.take (i + 1)) := by
 unfold pcs
 rw [List.take_succ_eq_append_getElem h, List.map_append, List.flatten_append]
 simp only [List.map_cons, List.map_nil, List.flatten_cons, List.flatten_nil, List.append_nil, List.getD_eq_getElem?_getD, List.getElem?_eq_getElem h, Option.getD_some]
theorem pcs_lt {F : List (List Nat)} (h : ∀ s ∈ F, Sec s) : ∀ c ∈ pcs F, c < 256 := fun c hc => by
 unfold pcs at hc
 obtain ⟨s, hs, hc⟩ := List.mem_flatten.1 hc
 obtain ⟨s', hs', rfl⟩ := List.mem_map.1 hs
 exact (h s' hs').2 c (List.mem_of_mem_take hc)
theorem pcs_len (F : List (List Nat)) : (pcs F).length ≤ 59 * F.length := by
 unfold pcs
 induction F with
 | nil => simp
 | cons x r ih =>
  rw [List.map_cons, List.flatten_cons, List.length_append, List.length_take, List.length_cons]
  omega
set_option maxHeartbeats 4000000 in
set_option maxRecDepth 100000 in
theorem unpackI_any {w : World} {gi : Nat} {F : List (List Nat)} (hF : ImgIn w gi F) (ht : Fr.TabIn w) (hl : F.length ≤ 1000) : Calls Tryd.prog 67 #[whole gi F.length] w fun e w' => Below w.heap.size w w' ∧ ((UnOk F ∧ ∃ v, e = .returned (.tuple #[.int .u64 (tagP F : Nat), v, .bool true]) ∧ BNew w.heap.size w' v (payP F)) ∨ (¬ UnOk F ∧ e = .returned (.tuple #[.int .u64 0, .slice none 0 0, .bool false]))) := by
 have HF : Hid (ImgIn w gi F ∧ Fr.TabIn w) := ⟨hF, ht⟩
 clear hF ht
 obtain ⟨PQ, HPQ⟩ := exPQ fun (e : Ending) (w' : World) => Below w.heap.size w w' ∧ ((UnOk F ∧ ∃ v, e = .returned (.tuple #[.int .u64 (tagP F : Nat), v, .bool true]) ∧ BNew w.heap.size w' v (payP F)) ∨ (¬ UnOk F ∧ e = .returned (.tuple #[.int .u64 0, .slice none 0 0, .bool false])))
 rw [← HPQ.out]
 go_enter Tryd.func67, Tryd.ntmps67
 go_upto_region 0 with fail
 refine wp_region_lit ?_
 refine wl rfl (.int .u64 0) _ (run_asZ (.const (.int .u64 0)) rfl (.int .u64 0) rfl) ?_
 refine wl rfl (.slice none 0 0) _ (run_asZ (.const (.slice none 0 0)) rfl (.slice none 0 0) rfl) ?_
 refine wl rfl (.bool false) _ (run_asZ (.const (.bool false)) rfl (.bool false) rfl) ?_
 simp only [Act.put, aS, aC, aZ]
 refine wpList_nil ?_
 go_upto_region 1 with fail
 refine wp_region_lit ?_
 refine wl rfl (.slice none 0 0) _ (run_asZ (.const (.slice none 0 0)) rfl (.slice none 0 0) rfl) ?_
 simp only [Act.put, aS, aC, aZ]
 refine wpList_nil ?_
 go_upto_region 2 with fail
 refine wp_region_lit ?_
 refine wl rfl (whole gi F.length) _ (run_mvZ (.tmp 0) rfl (whole gi F.length) rfl) ?_
 refine wl rfl (.int .i64 (F.length : Nat)) _ (run_lenZ sl96 (.tmp 13) rfl (some ⟨gi, 0, none⟩) F.length F.length rfl) ?_
 refine wl rfl (.int .i64 0) _ (run_mvZ (.const (.int .i64 0)) rfl (.int .i64 0) rfl) ?_
 simp only [Act.put, aS, aC, aZ]
 refine wpList_nil ?_
 go_wp2_with fail
 go_loopw [5, 15] (fun vp vi W => ∃ i : Nat, vi = .int .i64 (i : Nat) ∧ i ≤ F.length ∧ Hid (BOwn W w.heap.size vp (pcs (F.take i)) ∧ Below w.heap.size w W)) (fun _ vi _ => F.length - (intOf vi).toNat)
 case atStart => exact ⟨0, rfl, Nat.zero_le _, ⟨Fr.BOwn.nil w w.heap.size, Below.refl _ _⟩⟩
 case round =>
  obtain ⟨i, rfl, hi, HI⟩ := hrel
  by_cases hlt : i < F.length
  ·go_upto_region 3 with fail
   refine wp_region_lit ?_
   refine wl rfl (.bool true) _ (run_lssZ (.tmp 15) (.tmp 14) rfl (i : Nat) (F.length : Nat) rfl rfl true (decide_eq_true (by omega))) ?_
   simp only [Act.put, aS, aC, aZ]
   refine wpList_nil ?_
   go_upto_region 4 with fail
   refine wp_region_lit ?_
   refine wl rfl (.int .i64 (i : Nat)) _ (run_mvZ (.tmp 15) rfl (.int .i64 (i : Nat)) rfl) ?_
   refine wl rfl (.int .i64 (i : Nat)) _ (run_asZ (.tmp 17) rfl (.int .i64 (i : Nat)) rfl) ?_
   simp only [Act.put, aS, aC, aZ]
   refine wpList_nil ?_
   go_upto_region 5 with fail
   refine wp_region_lit ?_
   refine wl rfl u5 _ (run_mvZ (.tmp 5) rfl u5 rfl) ?_
   refine wl rfl (whole gi F.length) _ (run_mvZ (.tmp 0) rfl (whole gi F.length) rfl) ?_
   refine wl rfl (.int .i64 (i : Nat)) _ (run_mvZ (.tmp 6) rfl (.int .i64 (i : Nat)) rfl) ?_
   refine wl rfl (.pointer (some ⟨gi, i * 64, none⟩)) _ (run_idx (.tmp 19) (.tmp 20) rfl _ _ _ rfl rfl (ix96 gi F.length i hlt)) ?_
   simp only [Act.put, aS, aC, aZ]
   refine wl rfl (.slice (some ⟨gi, i * 64 + 0, none⟩) (59 - 0) (64 - 0)) _ (run_slA arr73 (.tmp 21) none (some (.const (.int .i64 59))) rfl gi (i * 64) 0 59 rfl ⟨Or.inl ⟨rfl, rfl⟩, Or.inr rfl, by omega, by omega, by omega⟩) ?_
   simp only [Act.put, aS, aC, aZ]
   refine wl_bgrow (.tmp 18) (.tmp 22) rfl rfl w.heap.size u5 (.slice (some ⟨gi, i * 64 + 0, none⟩) (59 - 0) (64 - 0)) (pcs (F.take i)) ((F.getD i []).take 59) rfl HI.out.1 rfl ((HF.out.1.later HI.out.2).slice i hlt 59 (by decide)) (by have h1 := pcs_len (F.take i); rw [List.length_take] at h1 ⊢; omega) HI.out.2.size ?_
   intro v2 w3 o_ g_
   rw [pcs_snoc i hlt] at o_
   have H2 : Hid (BOwn w3 w.heap.size v2 (pcs (F.take (i + 1))) ∧ Below w.heap.size w w3) := ⟨o_, HI.out.2.trans (HI.out.1.belowG g_ HI.out.2.size)⟩
   clear o_ g_
   simp only [Act.put, aS, aC, aZ]
   refine wl rfl v2 _ (run_asZ (.tmp 23) rfl v2 rfl) ?_
   simp only [Act.put, aS, aC, aZ]
   refine wpList_nil ?_
   go_wp2_with fail
   refine ⟨⟨i + 1, by go_num, by omega, H2.out⟩, ?_⟩
   simp [intOf]; omega
  ·go_upto_region 3 with fail
   refine wp_region_lit ?_
   refine wl rfl (.bool false) _ (run_lssZ (.tmp 15) (.tmp 14) rfl (i : Nat) (F.length : Nat) rfl rfl false (decide_eq_false (by omega))) ?_
   simp only [Act.put, aS, aC, aZ]
   refine wpList_nil ?_
   obtain ⟨ps, hps⟩ : ∃ ps, ps = pcs F := ⟨_, rfl⟩
   have HP : Hid (ps = pcs F ∧ BOwn wr w.heap.size u5 ps ∧ (∀ c ∈ ps, c < 256) ∧ ps.length ≤ 59000) := ⟨hps, by rw [hps]; have e_ := HI.out.1; rw [List.take_of_length_le (by omega)] at e_; exact e_, by rw [hps]; exact pcs_lt HF.out.1.sec, by rw [hps]; have := pcs_len F; omega⟩
   clear hps
   obtain ⟨kd, hkd⟩ : ∃ k, k = Fr.Frame.kindOf ps := ⟨_, rfl⟩
   obtain ⟨er, her⟩ : ∃ k, k = Fr.Frame.errOf ps := ⟨_, rfl⟩
   have HK : Hid (kd = Fr.Frame.kindOf ps ∧ er = Fr.Frame.errOf ps) := ⟨hkd, her⟩
   clear hkd her
   go_upto_region 7 with fail
   refine wp_region_lit ?_
   refine wl rfl u5 _ (run_mvZ (.tmp 5) rfl u5 rfl) ?_
   simp only [Act.put, aS, aC, aZ]
   refine wpList_callW eN79 [.tmp 26] _ rfl rfl [u5] rfl ?_
   refine (Fr.unpack_any u5 ps wr (HP.out.2.1.slice HP.out.2.2.1 (by have := HP.out.2.2.2; omega)) (HF.out.2.later HI.out.2) (by have := HP.out.2.2.2; omega)).mono ?_
   rintro e w2 ⟨vp, vr, he_, o1, _, _, b1⟩
   rw [← HK.out.1, ← HK.out.2] at he_
   subst he_
   have H3 : Hid (BOwn w2 wr.heap.size vp (Fr.Frame.payOf ps) ∧ Below wr.heap.size wr w2 ∧ Below w.heap.size w w2) := ⟨o1, b1, HI.out.2.trans (b1.mono HI.out.2.size)⟩
   clear o1 b1
   refine ⟨_, rfl, ?_⟩
   simp only [Act.put, aS, aC, aZ]
   refine wl rfl (.tuple #[(.int .u8 (kd : Nat)), vp, vr, (.int .i64 (er : Nat))]) _ (run_mvZ (.tmp 27) rfl (.tuple #[(.int .u8 (kd : Nat)), vp, vr, (.int .i64 (er : Nat))]) rfl) ?_
   refine wl rfl (.int .u8 (kd : Nat)) _ (run_extZ (.tmp 25) 0 rfl #[(.int .u8 (kd : Nat)), vp, vr, (.int .i64 (er : Nat))] rfl (.int .u8 (kd : Nat)) rfl) ?_
   refine wl rfl vp _ (run_extZ (.tmp 25) 1 rfl #[(.int .u8 (kd : Nat)), vp, vr, (.int .i64 (er : Nat))] rfl vp rfl) ?_
   refine wl rfl vr _ (run_extZ (.tmp 25) 2 rfl #[(.int .u8 (kd : Nat)), vp, vr, (.int .i64 (er : Nat))] rfl vr rfl) ?_
   simp only [Act.put, aS, aC, aZ]
   refine wl rfl (.int .i64 (er : Nat)) _ (run_extZ (.tmp 25) 3 rfl #[(.int .u8 (kd : Nat)), vp, vr, (.int .i64 (er : Nat))] rfl (.int .i64 (er : Nat)) rfl) ?_
   refine wl rfl (.int .u8 (kd : Nat)) _ (run_asZ (.tmp 28) rfl (.int .u8 (kd : Nat)) rfl) ?_
   refine wl rfl vp _ (run_asZ (.tmp 29) rfl vp rfl) ?_
   refine wl rfl vr _ (run_asZ (.tmp 30) rfl vr rfl) ?_
   simp only [Act.put, aS, aC, aZ]
   refine wl rfl (.int .i64 (er : Nat)) _ (run_asZ (.tmp 31) rfl (.int .i64 (er : Nat)) rfl) ?_
   simp only [Act.put, aS, aC, aZ]
   refine wpList_nil ?_
   obtain ⟨py, hpy⟩ : ∃ p, p = Fr.Frame.payOf ps := ⟨_, rfl⟩
   have HY : Hid (py = Fr.Frame.payOf ps ∧ BOwn w2 wr.heap.size vp py ∧ (∀ c ∈ py, c < 256) ∧ py.length ≤ 59000) := ⟨hpy, by rw [hpy]; exact H3.out.1, by rw [hpy]; exact fun c hc => HP.out.2.2.1 c (Fr.Frame.payOf_mem ps c hc), by rw [hpy]; have h1 := Fr.Frame.payOf_length ps; have h2 := HP.out.2.2.2; exact Nat.le_trans h1 h2⟩
   clear hpy
   by_cases hok : Fr.Frame.okB ps = true
   ·have HOK : Hid (Fr.Frame.okB ps = true ∧ er = 0) := ⟨hok, by rw [HK.out.2]; unfold Fr.Frame.errOf; rw [hok]; rfl⟩
    clear hok
    obtain rfl : er = 0 := HOK.out.2
    by_cases h7 : py.length < 7
    ·go_upto_region 8 with fail
     refine wp_region_lit ?_
     refine wl rfl (.int .i64 ((0 : Nat) : Int)) _ (run_mvZ (.tmp 10) rfl (.int .i64 ((0 : Nat) : Int)) rfl) ?_
     refine wl rfl (.bool false) _ (run_neZ (.tmp 32) (.const (.int .i64 0)) rfl ((0 : Nat) : Int) 0 rfl rfl false rfl) ?_
     refine wl rfl (.bool false) _ (run_mvZ (.tmp 33) rfl (.bool false) rfl) ?_
     refine wl (by kernel_rfl) vp _ (run_mvZ (.tmp 8) rfl vp rfl) ?_
     simp only [Act.put, aS, aC, aZ]
     refine wl (by kernel_rfl) (.int .i64 (py.length : Nat)) _ (run_lenS (HY.out.2.1.slice HY.out.2.2.1 (by have := HY.out.2.2.2; omega)) (.tmp 35) rfl rfl) ?_
     refine wl (by kernel_rfl) (.bool true) _ (run_lssZ (.tmp 36) (.const (.int .i64 7)) rfl (py.length : Nat) 7 rfl rfl true (decide_eq_true (by omega))) ?_
     refine wl rfl (.bool true) _ (run_pickZ (.tmp 34) (.const (.bool true)) (.tmp 37) rfl false (.bool true) rfl rfl) ?_
     simp only [Act.put, aS, aC, aZ]
     refine wpList_nil ?_
     have H7 : Hid (py.length < 7) := h7
     clear h7
     go_upto_region 9 with fail
     refine wp_region_lit ?_
     refine wl rfl (.int .u64 0) _ (run_asZ (.const (.int .u64 0)) rfl (.int .u64 0) rfl) ?_
     refine wl rfl (.slice none 0 0) _ (run_asZ (.const (.slice none 0 0)) rfl (.slice none 0 0) rfl) ?_
     refine wl rfl (.bool false) _ (run_asZ (.const (.bool false)) rfl (.bool false) rfl) ?_
     simp only [Act.put, aS, aC, aZ]
     refine wpList_nil ?_
     go_wp2_with fail
     rw [HPQ.out]
     refine bodyPost_ret (results_tmp3 rfl _ _ _) rfl ?_
     exact ⟨H3.out.2.2, Or.inr ⟨fun hu => by have h1 := hu.2; rw [← HP.out.1, ← HY.out.1] at h1; have := H7.out; omega, rfl⟩⟩
    ·go_upto_region 8 with fail
     refine wp_region_lit ?_
     refine wl rfl (.int .i64 ((0 : Nat) : Int)) _ (run_mvZ (.tmp 10) rfl (.int .i64 ((0 : Nat) : Int)) rfl) ?_
     refine wl rfl (.bool false) _ (run_neZ (.tmp 32) (.const (.int .i64 0)) rfl ((0 : Nat) : Int) 0 rfl rfl false rfl) ?_
     refine wl rfl (.bool false) _ (run_mvZ (.tmp 33) rfl (.bool false) rfl) ?_
     refine wl (by kernel_rfl) vp _ (run_mvZ (.tmp 8) rfl vp rfl) ?_
     simp only [Act.put, aS, aC, aZ]
     refine wl (by kernel_rfl) (.int .i64 (py.length : Nat)) _ (run_lenS (HY.out.2.1.slice HY.out.2.2.1 (by have := HY.out.2.2.2; omega)) (.tmp 35) rfl rfl) ?_
     refine wl (by kernel_rfl) (.bool false) _ (run_lssZ (.tmp 36) (.const (.int .i64 7)) rfl (py.length : Nat) 7 rfl rfl false (decide_eq_false (by omega))) ?_
     refine wl rfl (.bool false) _ (run_pickZ (.tmp 34) (.const (.bool true)) (.tmp 37) rfl false (.bool false) rfl rfl) ?_
     simp only [Act.put, aS, aC, aZ]
     refine wpList_nil ?_
     have H7 : Hid (7 ≤ py.length) := (by show 7 ≤ _; omega)
     clear h7
     obtain ⟨tg, htg⟩ : ∃ t, t = Fr.Frame.val (py.take 4) := ⟨_, rfl⟩
     have HT : Hid (tg = Fr.Frame.val (py.take 4)) := htg
     clear htg
     go_upto_region 10 with fail
     refine wp_region_lit ?_
     refine wl rfl vp _ (run_mvZ (.tmp 8) rfl vp rfl) ?_
     simp only [Act.put, aS, aC, aZ]
     refine wpList_callW eN80 [.tmp 40, .const (.int .i64 4)] _ rfl rfl [vp, .int .i64 4] rfl ?_
     refine (Fr.take_yes vp py 4 w2 (HY.out.2.1.slice HY.out.2.2.1 (by have := HY.out.2.2.2; omega)) (by decide) (by decide) (by have := H7.out; omega) (by have := HY.out.2.2.2; omega)).mono ?_
     rintro e w3 ⟨v3, he_, o1, b1⟩
     rw [← HT.out] at he_
     subst he_
     have H4 : Hid (BOwn w3 w2.heap.size v3 (py.drop 4) ∧ Below w.heap.size w w3) := ⟨o1, H3.out.2.2.trans (b1.mono H3.out.2.2.size)⟩
     clear o1 b1
     refine ⟨_, rfl, ?_⟩
     simp only [Act.put, aS, aC, aZ]
     refine wl rfl (.tuple #[(.int .u64 (tg : Nat)), v3, (.int .i64 0)]) _ (run_mvZ (.tmp 41) rfl (.tuple #[(.int .u64 (tg : Nat)), v3, (.int .i64 0)]) rfl) ?_
     refine wl rfl (.int .u64 (tg : Nat)) _ (run_extZ (.tmp 39) 0 rfl #[(.int .u64 (tg : Nat)), v3, (.int .i64 0)] rfl (.int .u64 (tg : Nat)) rfl) ?_
     refine wl rfl v3 _ (run_extZ (.tmp 39) 1 rfl #[(.int .u64 (tg : Nat)), v3, (.int .i64 0)] rfl v3 rfl) ?_
     refine wl rfl (.int .i64 0) _ (run_extZ (.tmp 39) 2 rfl #[(.int .u64 (tg : Nat)), v3, (.int .i64 0)] rfl (.int .i64 0) rfl) ?_
     simp only [Act.put, aS, aC, aZ]
     refine wl rfl (.int .u64 (tg : Nat)) _ (run_asZ (.tmp 42) rfl (.int .u64 (tg : Nat)) rfl) ?_
     refine wl rfl v3 _ (run_asZ (.tmp 43) rfl v3 rfl) ?_
     refine wl rfl (.int .i64 0) _ (run_asZ (.tmp 44) rfl (.int .i64 0) rfl) ?_
     simp only [Act.put, aS, aC, aZ]
     refine wpList_nil ?_
     obtain ⟨v4, hr4, hn4⟩ := sub_new H4.out.1 (fun c hc => HY.out.2.2.1 c (List.mem_of_mem_drop hc)) (by have := HY.out.2.2.2; rw [List.length_drop]; omega) 3 (by have := H7.out; rw [List.length_drop]; omega)
     rw [List.drop_drop] at hn4
     have H5 : Hid ((∀ w', (Instr.slice 28 v3 (some (.int .i64 ((3 : Nat) : Int))) none none).run Tryd.prog w' = .ok v4 w') ∧ BNew w2.heap.size w3 v4 (py.drop 7)) := ⟨hr4, hn4⟩
     clear hr4 hn4
     go_upto_region 11 with fail
     refine wp_region_held (S := fun X => True) (by kernel_rfl) ?_
     show wpAnyH _ _ _ _ _ 6 (Array.replicate 6 false) _ _
     obtain ⟨X, hX⟩ : ∃ X : World, X = { w3 with drawn := w3.drawn + 1 } := ⟨_, rfl⟩
     rw [← hX]
     have HBX : Hid (Below w3.heap.size w3 X ∧ Below w.heap.size w X) := (by rw [hX]; exact ⟨⟨rfl, rfl, rfl, Nat.le_refl _, fun _ _ => rfl⟩, H4.out.2.trans ⟨rfl, rfl, rfl, Nat.le_refl _, fun _ _ => rfl⟩⟩)
     clear hX
     refine tH 0 45 rfl rfl (gRun rfl (.int .u64 (tg : Nat)) fun _ h => run_mvZ (.tmp 2) rfl (.int .u64 (tg : Nat)) rfl) trivial ?_
     refine tH 1 46 rfl rfl (gRun rfl v3 fun _ h => run_mvZ (.tmp 11) rfl v3 rfl) trivial ?_
     refine tH 2 47 rfl rfl (gRun rfl v4 fun _ h => run_subB (.tmp 46) (some (.const (.int .i64 3))) none none rfl v3 v4 rfl H5.out.1) trivial ?_
     refine tH 3 2 rfl rfl (gRun rfl (.int .u64 (tg : Nat)) fun _ h => run_asZ (.tmp 45) rfl (.int .u64 (tg : Nat)) rfl) trivial ?_
     simp only [Act.put, aS, aC, aZ]
     refine tH 4 3 rfl rfl (gRun rfl v4 fun _ h => run_asZ (.tmp 47) rfl v4 rfl) trivial ?_
     refine tH 5 4 rfl rfl (gRun rfl (.bool true) fun _ h => run_asZ (.const (.bool true)) rfl (.bool true) rfl) trivial ?_
     simp only [Act.put, aS, aC, aZ]
     refine wpAnyH_done (by kernel_rfl) ?_ _
     go_wp2_with fail
     rw [HPQ.out]
     refine bodyPost_ret (results_tmp3 rfl _ _ _) rfl ?_
     refine ⟨HBX.out.2, Or.inl ⟨⟨by rw [← HP.out.1]; exact HOK.out.1, by rw [← HP.out.1, ← HY.out.1]; exact H7.out⟩, v4, ?_, ?_⟩⟩
     ·have e_ : tg = tagP F := (by unfold tagP; rw [← HP.out.1, ← HY.out.1]; exact HT.out)
      rw [e_]
      rfl
     ·have e_ : payP F = py.drop 7 := (by unfold payP; rw [← HP.out.1, ← HY.out.1])
      rw [e_]
      exact (H5.out.2.later HBX.out.1).mono H3.out.2.2.size
   ·have HOK : Hid (¬ Fr.Frame.okB ps = true ∧ er = 40) := ⟨hok, by rw [HK.out.2]; unfold Fr.Frame.errOf; rw [if_neg hok]⟩
    clear hok
    obtain rfl : er = 40 := HOK.out.2
    go_upto_region 8 with fail
    refine wp_region_lit ?_
    refine wl rfl (.int .i64 ((40 : Nat) : Int)) _ (run_mvZ (.tmp 10) rfl (.int .i64 ((40 : Nat) : Int)) rfl) ?_
    refine wl rfl (.bool true) _ (run_neZ (.tmp 32) (.const (.int .i64 0)) rfl ((40 : Nat) : Int) 0 rfl rfl true rfl) ?_
    refine wl rfl (.bool true) _ (run_mvZ (.tmp 33) rfl (.bool true) rfl) ?_
    simp only [Act.put, aS, aC, aZ]
    refine wpList_skip (by kernel_rfl) ?_
    simp only [Act.put, aS, aC, aZ]
    refine wpList_skip (by kernel_rfl) ?_
    simp only [Act.put, aS, aC, aZ]
    refine wpList_skip (by kernel_rfl) ?_
    simp only [Act.put, aS, aC, aZ]
    refine wl rfl (.bool true) _ (run_pickZ (.tmp 34) (.const (.bool true)) (.tmp 37) rfl true (.bool true) rfl rfl) ?_
    simp only [Act.put, aS, aC, aZ]
    refine wpList_nil ?_
    go_upto_region 9 with fail
    refine wp_region_lit ?_
    refine wl rfl (.int .u64 0) _ (run_asZ (.const (.int .u64 0)) rfl (.int .u64 0) rfl) ?_
    refine wl rfl (.slice none 0 0) _ (run_asZ (.const (.slice none 0 0)) rfl (.slice none 0 0) rfl) ?_
    refine wl rfl (.bool false) _ (run_asZ (.const (.bool false)) rfl (.bool false) rfl) ?_
    simp only [Act.put, aS, aC, aZ]
    refine wpList_nil ?_
    go_wp2_with fail
    rw [HPQ.out]
    refine bodyPost_ret (results_tmp3 rfl _ _ _) rfl ?_
    exact ⟨H3.out.2.2, Or.inr ⟨fun hu => HOK.out.1 (by have h1 := hu.1; rw [← HP.out.1] at h1; exact h1), rfl⟩⟩

end Go.Proofs.YthgidfoidbgnaaaDoor

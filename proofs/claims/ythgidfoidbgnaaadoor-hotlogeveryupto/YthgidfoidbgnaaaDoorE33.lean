/- Layer 14: bytes of a place; Read. -/
import Derived.Test.YthgidfoidbgnaaaDoorE32
namespace Go.Proofs.YthgidfoidbgnaaaDoor
open Go.RowKit Go.Maps

set_option maxHeartbeats 4000000 in
set_option maxRecDepth 100000 in
theorem bytes_any {w : World} {gi : Nat} {F : List (List Nat)} (hF : ImgIn w gi F) (ht : Fr.TabIn w) (hl : F.length ≤ 1000) (d A l : Nat) (bd : Bool) (hd : d ≤ 9223372036854775807) (ha : A ≤ 9223372036854775807) : Calls Tryd.prog 51 #[whole gi F.length, .agg (plC (d : Nat) (A : Nat) (l : Nat) bd).toArray] w fun e w' => Below w.heap.size w w' ∧ ((∃ b v, bytesP d A F = some b ∧ e = .returned (.tuple #[v, .bool true]) ∧ BNew w.heap.size w' v b) ∨ (bytesP d A F = none ∧ e = .returned (.tuple #[.slice none 0 0, .bool false]))) := by
 have HF : Hid (ImgIn w gi F ∧ Fr.TabIn w) := ⟨hF, ht⟩
 clear hF ht
 obtain ⟨PQ, HPQ⟩ := exPQ fun (e : Ending) (w' : World) => Below w.heap.size w w' ∧ ((∃ b v, bytesP d A F = some b ∧ e = .returned (.tuple #[v, .bool true]) ∧ BNew w.heap.size w' v b) ∨ (bytesP d A F = none ∧ e = .returned (.tuple #[.slice none 0 0, .bool false])))
 rw [← HPQ.out]
 go_enter Tryd.func51, Tryd.ntmps51
 go_upto_region 0 with fail
 refine wp_region_lit ?_
 refine wl rfl (ptr w.heap.size) _ (run_boxA (.tmp 1) rfl (plC (d : Nat) (A : Nat) (l : Nat) bd) rfl) ?_
 have hb_ := below_alloc w (.cells (plC (d : Nat) (A : Nat) (l : Nat) bd).toArray 30)
 have r_ := Row.new w 30 (plC (d : Nat) (A : Nat) (l : Nat) bd)
 obtain ⟨w1, hW_⟩ : ∃ W, W = w.alloc (.cells (plC (d : Nat) (A : Nat) (l : Nat) bd).toArray 30) := ⟨_, rfl⟩
 obtain ⟨q, hq_⟩ : ∃ q, q = w.heap.size := ⟨_, rfl⟩
 rw [← hW_] at hb_
 rw [← hW_, ← hq_] at r_
 rw [← hW_, ← hq_]
 have HA : Hid (Row w1 q 30 (plC (d : Nat) (A : Nat) (l : Nat) bd) ∧ ImgIn w1 gi F ∧ Fr.TabIn w1 ∧ Below w.heap.size w w1) := ⟨r_, HF.out.1.later hb_, HF.out.2.later hb_, hb_⟩
 clear r_ hb_ hW_ hq_
 simp only [Act.put, aS, aC, aZ]
 refine wl rfl (.slice none 0 0) _ (run_asZ (.const (.slice none 0 0)) rfl (.slice none 0 0) rfl) ?_
 refine wl rfl (.bool false) _ (run_asZ (.const (.bool false)) rfl (.bool false) rfl) ?_
 simp only [Act.put, aS, aC, aZ]
 refine wpList_nil ?_
 have HU := unpackI_any HA.out.2.1 HA.out.2.2.1 hl
 by_cases huo : UnOk F
 ·obtain ⟨tg, htg⟩ : ∃ t, t = tagP F := ⟨_, rfl⟩
  obtain ⟨py, hpy⟩ : ∃ t, t = payP F := ⟨_, rfl⟩
  have HT : Hid (tg = tagP F ∧ py = payP F ∧ UnOk F) := ⟨htg, hpy, huo⟩
  go_upto_region 1 with fail
  refine wp_region_lit ?_
  refine wl rfl (whole gi F.length) _ (run_mvZ (.tmp 0) rfl (whole gi F.length) rfl) ?_
  simp only [Act.put, aS, aC, aZ]
  refine wpList_callW eN67 [.tmp 10] _ rfl rfl [(whole gi F.length)] rfl ?_
  refine HU.mono ?_
  rintro e w2 ⟨hb2, h2_⟩
  rcases h2_ with ⟨_, vp, he_, hn_⟩ | ⟨h2_, _⟩
  case inr => exact absurd huo h2_
  rw [← htg] at he_
  rw [← hpy] at hn_
  subst he_
  have H2 : Hid (BNew w1.heap.size w2 vp py ∧ Below w1.heap.size w1 w2 ∧ Below w.heap.size w w2 ∧ Row w2 q 30 (plC (d : Nat) (A : Nat) (l : Nat) bd)) := ⟨hn_, hb2, HA.out.2.2.2.trans (hb2.mono HA.out.2.2.2.size), HA.out.1.later hb2 HA.out.1.lt⟩
  clear hn_ hb2 htg hpy huo HU
  refine ⟨_, rfl, ?_⟩
  simp only [Act.put, aS, aC, aZ]
  refine wl rfl (.tuple #[(.int .u64 (tg : Nat)), vp, (.bool true)]) _ (run_mvZ (.tmp 11) rfl (.tuple #[(.int .u64 (tg : Nat)), vp, (.bool true)]) rfl) ?_
  refine wl rfl (.int .u64 (tg : Nat)) _ (run_extZ (.tmp 9) 0 rfl #[(.int .u64 (tg : Nat)), vp, (.bool true)] rfl (.int .u64 (tg : Nat)) rfl) ?_
  refine wl rfl vp _ (run_extZ (.tmp 9) 1 rfl #[(.int .u64 (tg : Nat)), vp, (.bool true)] rfl vp rfl) ?_
  refine wl rfl (.bool true) _ (run_extZ (.tmp 9) 2 rfl #[(.int .u64 (tg : Nat)), vp, (.bool true)] rfl (.bool true) rfl) ?_
  simp only [Act.put, aS, aC, aZ]
  refine wl rfl (.int .u64 (tg : Nat)) _ (run_asZ (.tmp 12) rfl (.int .u64 (tg : Nat)) rfl) ?_
  refine wl rfl vp _ (run_asZ (.tmp 13) rfl vp rfl) ?_
  refine wl rfl (.bool true) _ (run_asZ (.tmp 14) rfl (.bool true) rfl) ?_
  simp only [Act.put, aS, aC, aZ]
  refine wpList_nil ?_
  by_cases h512 : 512 < py.length
  ·go_upto_region 2 with fail
   refine wp_region_lit ?_
   refine wl rfl (.bool true) _ (run_mvZ (.tmp 8) rfl (.bool true) rfl) ?_
   refine wl rfl (.bool false) _ (run_not (.tmp 15) 4 rfl true rfl) ?_
   refine wl rfl (.bool false) _ (run_mvZ (.tmp 16) rfl (.bool false) rfl) ?_
   refine wl (by kernel_rfl) vp _ (run_mvZ (.tmp 7) rfl vp rfl) ?_
   simp only [Act.put, aS, aC, aZ]
   refine wl (by kernel_rfl) (.int .i64 (py.length : Nat)) _ (run_lenS H2.out.1.1 (.tmp 18) rfl rfl) ?_
   refine wl (by kernel_rfl) (.bool true) _ (run_gtrZ (.tmp 19) (.const (.int .i64 512)) rfl (py.length : Nat) 512 rfl rfl true (decide_eq_true (by omega))) ?_
   refine wl rfl (.bool true) _ (run_pickZ (.tmp 17) (.const (.bool true)) (.tmp 20) rfl false (.bool true) rfl rfl) ?_
   refine wl rfl (.bool true) _ (run_mvZ (.tmp 21) rfl (.bool true) rfl) ?_
   simp only [Act.put, aS, aC, aZ]
   refine wpList_skip (by kernel_rfl) ?_
   simp only [Act.put, aS, aC, aZ]
   refine wpList_skip (by kernel_rfl) ?_
   simp only [Act.put, aS, aC, aZ]
   refine wpList_skip (by kernel_rfl) ?_
   simp only [Act.put, aS, aC, aZ]
   refine wpList_skip (by kernel_rfl) ?_
   simp only [Act.put, aS, aC, aZ]
   refine wpList_skip (by kernel_rfl) ?_
   simp only [Act.put, aS, aC, aZ]
   refine wpList_skip (by kernel_rfl) ?_
   simp only [Act.put, aS, aC, aZ]
   refine wpList_skip (by kernel_rfl) ?_
   simp only [Act.put, aS, aC, aZ]
   refine wl rfl (.bool true) _ (run_pickZ (.tmp 22) (.const (.bool true)) (.tmp 29) rfl true (.bool true) rfl rfl) ?_
   simp only [Act.put, aS, aC, aZ]
   refine wpList_nil ?_
   go_upto_region 3 with fail
   refine wp_region_lit ?_
   refine wl rfl (.slice none 0 0) _ (run_asZ (.const (.slice none 0 0)) rfl (.slice none 0 0) rfl) ?_
   refine wl rfl (.bool false) _ (run_asZ (.const (.bool false)) rfl (.bool false) rfl) ?_
   simp only [Act.put, aS, aC, aZ]
   refine wpList_nil ?_
   go_wp2_with fail
   rw [HPQ.out]
   refine ⟨H2.out.2.2.1, Or.inr ⟨if_neg fun hu => ?_, rfl⟩⟩
   have h1 := hu.2.1
   rw [← HT.out.2.1] at h1
   omega
  ·obtain ⟨bq, hbq⟩ : ∃ b, decide (imgP d A tg py = F) = b := ⟨_, rfl⟩
   have HBQ : Hid (decide (imgP d A tg py = F) = bq ∧ py.length ≤ 512) := ⟨hbq, by omega⟩
   clear hbq
   go_upto_region 2 with fail
   refine wp_region_lit ?_
   refine wl rfl (.bool true) _ (run_mvZ (.tmp 8) rfl (.bool true) rfl) ?_
   refine wl rfl (.bool false) _ (run_not (.tmp 15) 4 rfl true rfl) ?_
   refine wl rfl (.bool false) _ (run_mvZ (.tmp 16) rfl (.bool false) rfl) ?_
   refine wl (by kernel_rfl) vp _ (run_mvZ (.tmp 7) rfl vp rfl) ?_
   simp only [Act.put, aS, aC, aZ]
   refine wl (by kernel_rfl) (.int .i64 (py.length : Nat)) _ (run_lenS H2.out.1.1 (.tmp 18) rfl rfl) ?_
   refine wl (by kernel_rfl) (.bool false) _ (run_gtrZ (.tmp 19) (.const (.int .i64 512)) rfl (py.length : Nat) 512 rfl rfl false (decide_eq_false (by omega))) ?_
   refine wl rfl (.bool false) _ (run_pickZ (.tmp 17) (.const (.bool true)) (.tmp 20) rfl false (.bool false) rfl rfl) ?_
   refine wl rfl (.bool false) _ (run_mvZ (.tmp 21) rfl (.bool false) rfl) ?_
   simp only [Act.put, aS, aC, aZ]
   refine wl (by kernel_rfl) (.agg ((plC (d : Nat) (A : Nat) (l : Nat) bd)).toArray) _ (run_loadA ag30 (.tmp 3) rfl q (0) rfl ((plC (d : Nat) (A : Nat) (l : Nat) bd)) rfl (rows_one H2.out.2.2.2)) ?_
   refine wl (by kernel_rfl) (.int .u64 (tg : Nat)) _ (run_mvZ (.tmp 6) rfl (.int .u64 (tg : Nat)) rfl) ?_
   refine wl (by kernel_rfl) vp _ (run_mvZ (.tmp 7) rfl vp rfl) ?_
   simp only [Act.put, aS, aC, aZ]
   refine wpList_callW eN43 [.tmp 23, .tmp 24, .tmp 25] _ (by kernel_rfl) rfl [(.agg ((plC (d : Nat) (A : Nat) (l : Nat) bd)).toArray), (.int .u64 (tg : Nat)), vp] rfl ?_
   refine (imageOf_any w2 d A l tg bd vp py H2.out.1.1 (HA.out.2.2.1.later H2.out.2.1) (by omega) hd ha).mono ?_
   rintro e w3 ⟨gj, rfl, _, hr_, hb_⟩
   refine ⟨_, rfl, ?_⟩
   have H3 : Hid (ImgIn w3 gj (imgP d A tg py) ∧ ImgIn w3 gi F ∧ Below w.heap.size w w3 ∧ BNew w1.heap.size w3 vp py ∧ (imgP d A tg py).length = costN py.length) := ⟨⟨hr_, fun s hs => (by obtain ⟨j, _, rfl⟩ := List.mem_map.1 hs; exact ⟨secI_length d A tg py j, secI_lt d A tg H2.out.1.1.lt256 j⟩)⟩, (HA.out.2.1.later H2.out.2.1).later hb_, H2.out.2.2.1.trans (hb_.mono H2.out.2.2.1.size), H2.out.1.later hb_, imgP_length d A tg py⟩
   clear hr_ hb_
   simp only [Act.put, aS, aC, aZ]
   refine wl (by kernel_rfl) (whole gi F.length) _ (run_mvZ (.tmp 0) rfl (whole gi F.length) rfl) ?_
   simp only [Act.put, aS, aC, aZ]
   refine wpList_callW eN68 [.tmp 26, .tmp 27] _ (by kernel_rfl) rfl [(whole gj (costN py.length)), (whole gi F.length)] rfl ?_
   have HE := equal_any H3.out.1 H3.out.2.1 (by rw [H3.out.2.2.2.2]; have := (costN_le (n := py.length) (by omega)).2; omega)
   rw [H3.out.2.2.2.2, HBQ.out.1] at HE
   refine HE.mono ?_
   rintro e w4 ⟨rfl, hb_⟩
   refine ⟨_, rfl, ?_⟩
   have H4 : Hid (Below w.heap.size w w4 ∧ BNew w1.heap.size w4 vp py) := ⟨H3.out.2.2.1.trans (hb_.mono H3.out.2.2.1.size), H3.out.2.2.2.1.later hb_⟩
   clear hb_ HE
   simp only [Act.put, aS, aC, aZ]
   refine wl (by kernel_rfl) (.bool (!bq)) _ (run_not (.tmp 28) 4 rfl bq rfl) ?_
   refine wl rfl (.bool (!bq)) _ (run_pickZ (.tmp 22) (.const (.bool true)) (.tmp 29) rfl false (.bool (!bq)) rfl rfl) ?_
   simp only [Act.put, aS, aC, aZ]
   refine wpList_nil ?_
   cases bq with
   | true =>
    go_upto_region 4 with fail
    refine wp_region_lit ?_
    refine wl rfl vp _ (run_mvZ (.tmp 7) rfl vp rfl) ?_
    refine wl rfl vp _ (run_asZ (.tmp 31) rfl vp rfl) ?_
    refine wl rfl (.bool true) _ (run_asZ (.const (.bool true)) rfl (.bool true) rfl) ?_
    simp only [Act.put, aS, aC, aZ]
    refine wpList_nil ?_
    go_wp2_with fail
    rw [HPQ.out]
    refine ⟨H4.out.1, Or.inl ⟨py, vp, ?_, rfl, H4.out.2.mono HA.out.2.2.2.size⟩⟩
    have h1 := of_decide_eq_true HBQ.out.1
    have h2 := HBQ.out.2
    unfold bytesP
    rw [← HT.out.1, ← HT.out.2.1, if_pos ⟨HT.out.2.2, h2, h1⟩]
   | false =>
    go_upto_region 3 with fail
    refine wp_region_lit ?_
    refine wl rfl (.slice none 0 0) _ (run_asZ (.const (.slice none 0 0)) rfl (.slice none 0 0) rfl) ?_
    refine wl rfl (.bool false) _ (run_asZ (.const (.bool false)) rfl (.bool false) rfl) ?_
    simp only [Act.put, aS, aC, aZ]
    refine wpList_nil ?_
    go_wp2_with fail
    rw [HPQ.out]
    refine ⟨H4.out.1, Or.inr ⟨if_neg fun hu => ?_, rfl⟩⟩
    have h1 := of_decide_eq_false HBQ.out.1
    have h2 := hu.2.2
    rw [← HT.out.1, ← HT.out.2.1] at h2
    exact h1 h2
 ·go_upto_region 1 with fail
  refine wp_region_lit ?_
  refine wl rfl (whole gi F.length) _ (run_mvZ (.tmp 0) rfl (whole gi F.length) rfl) ?_
  simp only [Act.put, aS, aC, aZ]
  refine wpList_callW eN67 [.tmp 10] _ rfl rfl [(whole gi F.length)] rfl ?_
  refine HU.mono ?_
  rintro e w2 ⟨hb2, h2_⟩
  rcases h2_ with ⟨h2_, _⟩ | ⟨_, he_⟩
  case inl => exact absurd h2_ huo
  subst he_
  have HB2 : Hid (Below w.heap.size w w2) := HA.out.2.2.2.trans (hb2.mono HA.out.2.2.2.size)
  clear hb2
  refine ⟨_, rfl, ?_⟩
  simp only [Act.put, aS, aC, aZ]
  refine wl rfl (.tuple #[(.int .u64 0), (.slice none 0 0), (.bool false)]) _ (run_mvZ (.tmp 11) rfl (.tuple #[(.int .u64 0), (.slice none 0 0), (.bool false)]) rfl) ?_
  refine wl rfl (.int .u64 0) _ (run_extZ (.tmp 9) 0 rfl #[(.int .u64 0), (.slice none 0 0), (.bool false)] rfl (.int .u64 0) rfl) ?_
  refine wl rfl (.slice none 0 0) _ (run_extZ (.tmp 9) 1 rfl #[(.int .u64 0), (.slice none 0 0), (.bool false)] rfl (.slice none 0 0) rfl) ?_
  refine wl rfl (.bool false) _ (run_extZ (.tmp 9) 2 rfl #[(.int .u64 0), (.slice none 0 0), (.bool false)] rfl (.bool false) rfl) ?_
  simp only [Act.put, aS, aC, aZ]
  refine wl rfl (.int .u64 0) _ (run_asZ (.tmp 12) rfl (.int .u64 0) rfl) ?_
  refine wl rfl (.slice none 0 0) _ (run_asZ (.tmp 13) rfl (.slice none 0 0) rfl) ?_
  refine wl rfl (.bool false) _ (run_asZ (.tmp 14) rfl (.bool false) rfl) ?_
  simp only [Act.put, aS, aC, aZ]
  refine wpList_nil ?_
  go_upto_region 2 with fail
  refine wp_region_lit ?_
  refine wl rfl (.bool false) _ (run_mvZ (.tmp 8) rfl (.bool false) rfl) ?_
  refine wl rfl (.bool true) _ (run_not (.tmp 15) 4 rfl false rfl) ?_
  refine wl rfl (.bool true) _ (run_mvZ (.tmp 16) rfl (.bool true) rfl) ?_
  simp only [Act.put, aS, aC, aZ]
  refine wpList_skip (by kernel_rfl) ?_
  simp only [Act.put, aS, aC, aZ]
  refine wpList_skip (by kernel_rfl) ?_
  simp only [Act.put, aS, aC, aZ]
  refine wpList_skip (by kernel_rfl) ?_
  simp only [Act.put, aS, aC, aZ]
  refine wl rfl (.bool true) _ (run_pickZ (.tmp 17) (.const (.bool true)) (.tmp 20) rfl true (.bool true) rfl rfl) ?_
  refine wl rfl (.bool true) _ (run_mvZ (.tmp 21) rfl (.bool true) rfl) ?_
  simp only [Act.put, aS, aC, aZ]
  refine wpList_skip (by kernel_rfl) ?_
  simp only [Act.put, aS, aC, aZ]
  refine wpList_skip (by kernel_rfl) ?_
  simp only [Act.put, aS, aC, aZ]
  refine wpList_skip (by kernel_rfl) ?_
  simp only [Act.put, aS, aC, aZ]
  refine wpList_skip (by kernel_rfl) ?_
  simp only [Act.put, aS, aC, aZ]
  refine wpList_skip (by kernel_rfl) ?_
  simp only [Act.put, aS, aC, aZ]
  refine wpList_skip (by kernel_rfl) ?_
  simp only [Act.put, aS, aC, aZ]
  refine wpList_skip (by kernel_rfl) ?_
  simp only [Act.put, aS, aC, aZ]
  refine wl rfl (.bool true) _ (run_pickZ (.tmp 22) (.const (.bool true)) (.tmp 29) rfl true (.bool true) rfl rfl) ?_
  simp only [Act.put, aS, aC, aZ]
  refine wpList_nil ?_
  go_upto_region 3 with fail
  refine wp_region_lit ?_
  refine wl rfl (.slice none 0 0) _ (run_asZ (.const (.slice none 0 0)) rfl (.slice none 0 0) rfl) ?_
  refine wl rfl (.bool false) _ (run_asZ (.const (.bool false)) rfl (.bool false) rfl) ?_
  simp only [Act.put, aS, aC, aZ]
  refine wpList_nil ?_
  go_wp2_with fail
  rw [HPQ.out]
  refine ⟨HB2.out, Or.inr ⟨if_neg fun hu => ?_, rfl⟩⟩
  exact huo hu.1
set_option maxHeartbeats 4000000 in
set_option maxRecDepth 100000 in
theorem readH_no {w : World} {gh gp gf gm d n : Nat} {fr : List Nat} {f : Int → Option Int} (h : HotM w gh gp gf gm d n fr f) (dv at_ ln : Int) (bd : Bool) (hi : I64 at_) (hu : usB d f dv at_ ln = false) : Calls Tryd.prog 25 #[ptr gh, .agg (plC dv at_ ln bd).toArray] w fun e w' => e = .returned (.tuple #[.slice none 0 0, .int .i64 31]) ∧ Below w.heap.size w w' := by
 have HM : Hid (HotM w gh gp gf gm d n fr f) := h
 have HU : Hid (usB d f dv at_ ln = false ∧ I64 at_) := ⟨hu, hi⟩
 clear h hu hi
 obtain ⟨PQ, HPQ⟩ := exPQ fun (e : Ending) (w' : World) => e = .returned (.tuple #[.slice none 0 0, .int .i64 31]) ∧ Below w.heap.size w w'
 rw [← HPQ.out]
 go_enter Tryd.func25, Tryd.ntmps25
 go_upto_region 0 with fail
 refine wp_region_lit ?_
 refine wl rfl (ptr w.heap.size) _ (run_boxA (.tmp 1) rfl (plC dv at_ ln bd) rfl) ?_
 have hb_ := below_alloc w (.cells (plC dv at_ ln bd).toArray 30)
 have r_ := Row.new w 30 (plC dv at_ ln bd)
 obtain ⟨w1, hW_⟩ : ∃ W, W = w.alloc (.cells (plC dv at_ ln bd).toArray 30) := ⟨_, rfl⟩
 obtain ⟨q, hq_⟩ : ∃ q, q = w.heap.size := ⟨_, rfl⟩
 rw [← hW_] at hb_
 rw [← hW_, ← hq_] at r_
 rw [← hW_, ← hq_]
 have HA : Hid (Row w1 q 30 (plC dv at_ ln bd) ∧ HotM w1 gh gp gf gm d n fr f ∧ Below w.heap.size w w1) := ⟨r_, HM.out.later hb_, hb_⟩
 clear r_ hb_ hW_ hq_
 simp only [Act.put, aS, aC, aZ]
 refine wl rfl (.slice none 0 0) _ (run_asZ (.const (.slice none 0 0)) rfl (.slice none 0 0) rfl) ?_
 refine wl rfl (.int .i64 0) _ (run_asZ (.const (.int .i64 0)) rfl (.int .i64 0) rfl) ?_
 simp only [Act.put, aS, aC, aZ]
 refine wpList_nil ?_
 go_upto_region 1 with fail
 refine wp_region_lit ?_
 refine wl rfl (ptr gh) _ (run_mvZ (.tmp 0) rfl (ptr gh) rfl) ?_
 refine wl rfl (.agg ((plC dv at_ ln bd)).toArray) _ (run_loadA ag30 (.tmp 3) rfl q (0) rfl ((plC dv at_ ln bd)) rfl (rows_one HA.out.1)) ?_
 simp only [Act.put, aS, aC, aZ]
 refine wpList_callW eN49 [.tmp 10, .tmp 11] _ rfl rfl [(ptr gh), (.agg ((plC dv at_ ln bd)).toArray)] rfl ?_
 refine (isUsed_any HA.out.2.1 dv at_ ln bd HU.out.2).mono ?_
 rintro e w2 ⟨he_, hb2⟩
 rw [HU.out.1] at he_
 subst he_
 refine ⟨_, rfl, ?_⟩
 have HB2 : Hid (Below w1.heap.size w1 w2 ∧ Below w.heap.size w w2) := ⟨hb2, HA.out.2.2.trans (hb2.mono HA.out.2.2.size)⟩
 clear hb2
 simp only [Act.put, aS, aC, aZ]
 refine wl rfl (.bool true) _ (run_not (.tmp 12) 4 rfl false rfl) ?_
 simp only [Act.put, aS, aC, aZ]
 refine wpList_nil ?_
 go_upto_region 2 with fail
 refine wp_region_lit ?_
 refine wl rfl (.slice none 0 0) _ (run_asZ (.const (.slice none 0 0)) rfl (.slice none 0 0) rfl) ?_
 refine wl rfl (.int .i64 31) _ (run_asZ (.const (.int .i64 31)) rfl (.int .i64 31) rfl) ?_
 simp only [Act.put, aS, aC, aZ]
 refine wpList_nil ?_
 go_wp2_with fail
 rw [HPQ.out]
 exact ⟨rfl, HB2.out.2⟩
set_option maxHeartbeats 4000000 in
set_option maxRecDepth 100000 in
theorem readH_yes {w : World} {gh gp gf gm d n : Nat} {fr : List Nat} {f : Int → Option Int} {c : Nat → Colour} {m : Pl} (h : HotM w gh gp gf gm d n fr f) (ht : Fr.TabIn w) (hp : Live w c 2 gp m) (hst : m.steps < 1099511627775) (hon : m.on = true) (hd : d < m.n) (hd2 : d ≤ 1000) (A l : Nat) (bd : Bool) (hA : A + l ≤ m.len d) (hA2 : A ≤ 1000000) (hl : l ≤ 1000) (hu : usB d f (d : Nat) (A : Nat) (l : Nat) = true) : Calls Tryd.prog 25 #[ptr gh, .agg (plC (d : Nat) (A : Nat) (l : Nat) bd).toArray] w fun e w' => Below w.heap.size w w' ∧ ((∃ b v, bytesP d A ((List.range l).map fun j => m.rd d (A + j)) = some b ∧ e = .returned (.tuple #[v, .int .i64 0]) ∧ BNew w.heap.size w' v b) ∨ (bytesP d A ((List.range l).map fun j => m.rd d (A + j)) = none ∧ e = .returned (.tuple #[.slice none 0 0, .int .i64 4]))) := by
 have HM : Hid (HotM w gh gp gf gm d n fr f) := h
 have HU : Hid (usB d f (d : Nat) (A : Nat) (l : Nat) = true ∧ I64 (A : Nat)) := ⟨hu, ⟨by omega, by omega⟩⟩
 have HL : Hid (Live w c 2 gp m ∧ m.steps < 1099511627775 ∧ m.on = true ∧ d < m.n ∧ A + l ≤ m.len d ∧ Fr.TabIn w) := ⟨hp, hst, hon, hd, hA, ht⟩
 obtain ⟨F, hF⟩ : ∃ F, F = ((List.range l).map fun j => m.rd d (A + j)) := ⟨_, rfl⟩
 have HFF : Hid (F = ((List.range l).map fun j => m.rd d (A + j)) ∧ F.length = l) := ⟨hF, by rw [hF]; simp⟩
 rw [← hF]
 clear h hu hp hst hon hd hA hF ht
 obtain ⟨PQ, HPQ⟩ := exPQ fun (e : Ending) (w' : World) => Below w.heap.size w w' ∧ ((∃ b v, bytesP d A F = some b ∧ e = .returned (.tuple #[v, .int .i64 0]) ∧ BNew w.heap.size w' v b) ∨ (bytesP d A F = none ∧ e = .returned (.tuple #[.slice none 0 0, .int .i64 4])))
 rw [← HPQ.out]
 go_enter Tryd.func25, Tryd.ntmps25
 go_upto_region 0 with fail
 refine wp_region_lit ?_
 refine wl rfl (ptr w.heap.size) _ (run_boxA (.tmp 1) rfl (plC (d : Nat) (A : Nat) (l : Nat) bd) rfl) ?_
 have hb_ := below_alloc w (.cells (plC (d : Nat) (A : Nat) (l : Nat) bd).toArray 30)
 have r_ := Row.new w 30 (plC (d : Nat) (A : Nat) (l : Nat) bd)
 obtain ⟨w1, hW_⟩ : ∃ W, W = w.alloc (.cells (plC (d : Nat) (A : Nat) (l : Nat) bd).toArray 30) := ⟨_, rfl⟩
 obtain ⟨q, hq_⟩ : ∃ q, q = w.heap.size := ⟨_, rfl⟩
 rw [← hW_] at hb_
 rw [← hW_, ← hq_] at r_
 rw [← hW_, ← hq_]
 have HA : Hid (Row w1 q 30 (plC (d : Nat) (A : Nat) (l : Nat) bd) ∧ HotM w1 gh gp gf gm d n fr f ∧ Below w.heap.size w w1) := ⟨r_, HM.out.later hb_, hb_⟩
 clear r_ hb_ hW_ hq_
 simp only [Act.put, aS, aC, aZ]
 refine wl rfl (.slice none 0 0) _ (run_asZ (.const (.slice none 0 0)) rfl (.slice none 0 0) rfl) ?_
 refine wl rfl (.int .i64 0) _ (run_asZ (.const (.int .i64 0)) rfl (.int .i64 0) rfl) ?_
 simp only [Act.put, aS, aC, aZ]
 refine wpList_nil ?_
 go_upto_region 1 with fail
 refine wp_region_lit ?_
 refine wl rfl (ptr gh) _ (run_mvZ (.tmp 0) rfl (ptr gh) rfl) ?_
 refine wl rfl (.agg ((plC (d : Nat) (A : Nat) (l : Nat) bd)).toArray) _ (run_loadA ag30 (.tmp 3) rfl q (0) rfl ((plC (d : Nat) (A : Nat) (l : Nat) bd)) rfl (rows_one HA.out.1)) ?_
 simp only [Act.put, aS, aC, aZ]
 refine wpList_callW eN49 [.tmp 10, .tmp 11] _ rfl rfl [(ptr gh), (.agg ((plC (d : Nat) (A : Nat) (l : Nat) bd)).toArray)] rfl ?_
 refine (isUsed_any HA.out.2.1 (d : Nat) (A : Nat) (l : Nat) bd HU.out.2).mono ?_
 rintro e w2 ⟨he_, hb2⟩
 rw [HU.out.1] at he_
 subst he_
 refine ⟨_, rfl, ?_⟩
 have HB2 : Hid (Below w1.heap.size w1 w2 ∧ Below w.heap.size w w2) := ⟨hb2, HA.out.2.2.trans (hb2.mono HA.out.2.2.size)⟩
 clear hb2
 simp only [Act.put, aS, aC, aZ]
 refine wl rfl (.bool false) _ (run_not (.tmp 12) 4 rfl true rfl) ?_
 simp only [Act.put, aS, aC, aZ]
 refine wpList_nil ?_
 go_upto_region 3 with fail
 refine wp_region_lit ?_
 refine wl rfl (ptr gh) _ (run_mvZ (.tmp 0) rfl (ptr gh) rfl) ?_
 refine wl rfl (.agg ((plC (d : Nat) (A : Nat) (l : Nat) bd)).toArray) _ (run_loadA ag30 (.tmp 3) rfl q (0) rfl ((plC (d : Nat) (A : Nat) (l : Nat) bd)) rfl (rows_one (HA.out.1.later HB2.out.1 HA.out.1.lt))) ?_
 simp only [Act.put, aS, aC, aZ]
 refine wpList_callW eN50 [.tmp 15, .tmp 16] _ rfl rfl [(ptr gh), (.agg ((plC (d : Nat) (A : Nat) (l : Nat) bd)).toArray)] rfl ?_
 refine (read_any' (HA.out.2.1.later HB2.out.1) (HL.out.1.below HB2.out.2) HL.out.2.1 HL.out.2.2.1 HL.out.2.2.2.1 A l bd HL.out.2.2.2.2.1 hA2 hl).mono ?_
 rintro e w3 ⟨gi, rfl, _, hi_, hb_⟩
 refine ⟨_, rfl, ?_⟩
 rw [← HFF.out.1] at hi_
 have H3 : Hid (ImgIn w3 gi F ∧ Below w.heap.size w w3 ∧ Row w3 q 30 (plC (d : Nat) (A : Nat) (l : Nat) bd)) := ⟨hi_, HB2.out.2.trans (hb_.mono HB2.out.2.size), (HA.out.1.later HB2.out.1 HA.out.1.lt).later hb_ (Nat.lt_of_lt_of_le HA.out.1.lt HB2.out.1.size)⟩
 clear hi_ hb_
 simp only [Act.put, aS, aC, aZ]
 refine wl rfl (.tuple #[(whole gi l), (.int .i64 0)]) _ (run_mvZ (.tmp 17) rfl (.tuple #[(whole gi l), (.int .i64 0)]) rfl) ?_
 refine wl rfl (whole gi l) _ (run_extZ (.tmp 14) 0 rfl #[(whole gi l), (.int .i64 0)] rfl (whole gi l) rfl) ?_
 refine wl rfl (.int .i64 0) _ (run_extZ (.tmp 14) 1 rfl #[(whole gi l), (.int .i64 0)] rfl (.int .i64 0) rfl) ?_
 refine wl rfl (whole gi l) _ (run_asZ (.tmp 18) rfl (whole gi l) rfl) ?_
 simp only [Act.put, aS, aC, aZ]
 refine wl rfl (.int .i64 0) _ (run_asZ (.tmp 19) rfl (.int .i64 0) rfl) ?_
 simp only [Act.put, aS, aC, aZ]
 refine wpList_nil ?_
 go_upto_region 4 with fail
 refine wp_region_lit ?_
 refine wl rfl (.int .i64 0) _ (run_mvZ (.tmp 7) rfl (.int .i64 0) rfl) ?_
 refine wl rfl (.bool false) _ (run_neZ (.tmp 20) (.const (.int .i64 0)) rfl (0) (0) rfl rfl false rfl) ?_
 simp only [Act.put, aS, aC, aZ]
 refine wpList_nil ?_
 cases hbp : bytesP d A F with
 | some b =>
  go_upto_region 6 with fail
  refine wp_region_lit ?_
  refine wl rfl (whole gi l) _ (run_mvZ (.tmp 6) rfl (whole gi l) rfl) ?_
  refine wl rfl (.agg ((plC (d : Nat) (A : Nat) (l : Nat) bd)).toArray) _ (run_loadA ag30 (.tmp 3) rfl q (0) rfl ((plC (d : Nat) (A : Nat) (l : Nat) bd)) rfl (rows_one H3.out.2.2)) ?_
  simp only [Act.put, aS, aC, aZ]
  refine wpList_callW eN51 [.tmp 24, .tmp 25] _ rfl rfl [(whole gi l), (.agg (plC (d : Nat) (A : Nat) (l : Nat) bd).toArray)] rfl ?_
  have HE := bytes_any H3.out.1 (HL.out.2.2.2.2.2.later H3.out.2.1) (by rw [HFF.out.2]; exact hl) d A l bd (by omega) (by omega)
  rw [HFF.out.2] at HE
  refine HE.mono ?_
  rintro e w4 ⟨hb_, h_⟩
  rcases h_ with ⟨b', v, h1_, he_, hn_⟩ | ⟨h1_, _⟩
  case inr => rw [hbp] at h1_; cases h1_
  obtain rfl : b = b' := (by rw [hbp] at h1_; injection h1_)
  subst he_
  have H4 : Hid (BNew w3.heap.size w4 v b ∧ Below w.heap.size w w4 ∧ bytesP d A F = some b) := ⟨hn_, H3.out.2.1.trans (hb_.mono H3.out.2.1.size), h1_⟩
  clear hn_ hb_ HE h1_ hbp
  refine ⟨_, rfl, ?_⟩
  simp only [Act.put, aS, aC, aZ]
  refine wl rfl (.tuple #[v, (.bool true)]) _ (run_mvZ (.tmp 26) rfl (.tuple #[v, (.bool true)]) rfl) ?_
  refine wl rfl v _ (run_extZ (.tmp 23) 0 rfl #[v, (.bool true)] rfl v rfl) ?_
  refine wl rfl (.bool true) _ (run_extZ (.tmp 23) 1 rfl #[v, (.bool true)] rfl (.bool true) rfl) ?_
  refine wl rfl v _ (run_asZ (.tmp 27) rfl v rfl) ?_
  simp only [Act.put, aS, aC, aZ]
  refine wl rfl (.bool true) _ (run_asZ (.tmp 28) rfl (.bool true) rfl) ?_
  simp only [Act.put, aS, aC, aZ]
  refine wpList_nil ?_
  go_upto_region 7 with fail
  refine wp_region_lit ?_
  refine wl rfl (.bool true) _ (run_mvZ (.tmp 9) rfl (.bool true) rfl) ?_
  refine wl rfl (.bool false) _ (run_not (.tmp 29) 4 rfl true rfl) ?_
  simp only [Act.put, aS, aC, aZ]
  refine wpList_nil ?_
  go_upto_region 9 with fail
  refine wp_region_lit ?_
  refine wl rfl v _ (run_mvZ (.tmp 8) rfl v rfl) ?_
  refine wl rfl v _ (run_asZ (.tmp 31) rfl v rfl) ?_
  refine wl rfl (.int .i64 0) _ (run_asZ (.const (.int .i64 0)) rfl (.int .i64 0) rfl) ?_
  simp only [Act.put, aS, aC, aZ]
  refine wpList_nil ?_
  go_wp2_with fail
  rw [HPQ.out]
  exact ⟨H4.out.2.1, Or.inl ⟨b, v, H4.out.2.2, rfl, H4.out.1.mono H3.out.2.1.size⟩⟩
 | none =>
  go_upto_region 6 with fail
  refine wp_region_lit ?_
  refine wl rfl (whole gi l) _ (run_mvZ (.tmp 6) rfl (whole gi l) rfl) ?_
  refine wl rfl (.agg ((plC (d : Nat) (A : Nat) (l : Nat) bd)).toArray) _ (run_loadA ag30 (.tmp 3) rfl q (0) rfl ((plC (d : Nat) (A : Nat) (l : Nat) bd)) rfl (rows_one H3.out.2.2)) ?_
  simp only [Act.put, aS, aC, aZ]
  refine wpList_callW eN51 [.tmp 24, .tmp 25] _ rfl rfl [(whole gi l), (.agg (plC (d : Nat) (A : Nat) (l : Nat) bd).toArray)] rfl ?_
  have HE := bytes_any H3.out.1 (HL.out.2.2.2.2.2.later H3.out.2.1) (by rw [HFF.out.2]; exact hl) d A l bd (by omega) (by omega)
  rw [HFF.out.2] at HE
  refine HE.mono ?_
  rintro e w4 ⟨hb_, h_⟩
  rcases h_ with ⟨b', v, h1_, _, _⟩ | ⟨h1_, he_⟩
  case inl => rw [hbp] at h1_; cases h1_
  subst he_
  have H4 : Hid (Below w.heap.size w w4 ∧ bytesP d A F = none) := ⟨H3.out.2.1.trans (hb_.mono H3.out.2.1.size), h1_⟩
  clear hb_ HE h1_ hbp
  refine ⟨_, rfl, ?_⟩
  simp only [Act.put, aS, aC, aZ]
  refine wl rfl (.tuple #[(.slice none 0 0), (.bool false)]) _ (run_mvZ (.tmp 26) rfl (.tuple #[(.slice none 0 0), (.bool false)]) rfl) ?_
  refine wl rfl (.slice none 0 0) _ (run_extZ (.tmp 23) 0 rfl #[(.slice none 0 0), (.bool false)] rfl (.slice none 0 0) rfl) ?_
  refine wl rfl (.bool false) _ (run_extZ (.tmp 23) 1 rfl #[(.slice none 0 0), (.bool false)] rfl (.bool false) rfl) ?_
  refine wl rfl (.slice none 0 0) _ (run_asZ (.tmp 27) rfl (.slice none 0 0) rfl) ?_
  simp only [Act.put, aS, aC, aZ]
  refine wl rfl (.bool false) _ (run_asZ (.tmp 28) rfl (.bool false) rfl) ?_
  simp only [Act.put, aS, aC, aZ]
  refine wpList_nil ?_
  go_upto_region 7 with fail
  refine wp_region_lit ?_
  refine wl rfl (.bool false) _ (run_mvZ (.tmp 9) rfl (.bool false) rfl) ?_
  refine wl rfl (.bool true) _ (run_not (.tmp 29) 4 rfl false rfl) ?_
  simp only [Act.put, aS, aC, aZ]
  refine wpList_nil ?_
  go_upto_region 8 with fail
  refine wp_region_lit ?_
  refine wl rfl (.slice none 0 0) _ (run_asZ (.const (.slice none 0 0)) rfl (.slice none 0 0) rfl) ?_
  refine wl rfl (.int .i64 4) _ (run_asZ (.const (.int .i64 4)) rfl (.int .i64 4) rfl) ?_
  simp only [Act.put, aS, aC, aZ]
  refine wpList_nil ?_
  go_wp2_with fail
  rw [HPQ.out]
  exact ⟨H4.out.1, Or.inr ⟨H4.out.2, rfl⟩⟩

end Go.Proofs.YthgidfoidbgnaaaDoor

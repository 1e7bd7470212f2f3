/- Layer 9: PagerFormats, walked. For every list of pages that are put and committed ahead, every fuse and every list of what a boot keeps: a crash within Format leaves the pager that was there, or one without pages: the law PagerFormats returns true and changes nothing that was there. Condition: the table crc.halves starts as the program's text lays it (the card ties it). -/
import Derived.Test.YtcpnlccajcpjmaaDoorZ35
import Derived.Test.YtcpnlccajcpjmaaDoorZ36
namespace Go.Proofs.YtcpnlccajcpjmaaDoor
open Go.RowKit Go.Maps

/-- ahead of a round: the first rows are put and committed -/
structure FmS (w : World) (first : List (List Nat)) (gp g i n : Nat) (c : Nat → Colour) (m : Pl) (L : Hd) (X : Nat → List Nat) (W : World) : Prop where
  le : i ≤ first.length
  le9 : i ≤ 9
  num : n = (oks (first.take i)).length
  calm : m.fuse < 0
  used : L.used = firstU n
  root : L.root = (n : Int) - 1
  img : ∀ k, k < n → X k = imOf ((oks (first.take i)).getD k [])
  st : PgW w W c gp g m [210] [] 0 26 L (firstU n) X (6 + 11 * i)
/-- behind the round's Put -/
structure FmM (w : World) (first : List (List Nat)) (gp g i n : Nat) (c : Nat → Colour) (m : Pl) (L : Hd) (X : Nat → List Nat) (W : World) : Prop where
  num : n = (oks (first.take (i + 1))).length
  n9 : n ≤ 9
  calm : m.fuse < 0
  img : ∀ k, k < n → X k = imOf ((oks (first.take (i + 1))).getD k [])
  st : PgW w W c gp g m [210] [] 0 26 L (firstU n) X (6 + 11 * i + 8)
theorem getD_last (A : List (List Nat)) (b : List Nat) : (A ++ [b]).getD A.length [] = b := by
  rw [List.getD_eq_getElem?_getD, List.getElem?_append_right (Nat.le_refl _), Nat.sub_self]
  rfl
theorem getD_front (A B : List (List Nat)) {k : Nat} (h : k < A.length) : (A ++ B).getD k [] = A.getD k [] := by
  rw [List.getD_eq_getElem?_getD, List.getElem?_append_left h, ← List.getD_eq_getElem?_getD]
section
variable {w W : World} {first : List (List Nat)} {gp g i n : Nat} {c : Nat → Colour} {m : Pl} {L : Hd} {X : Nat → List Nat}
theorem FmS.n9 (h : FmS w first gp g i n c m L X W) : n ≤ i ∧ n ≤ 9 := by
  have h1 := oks_len first i
  have h2 := h.num
  have h3 := h.le9
  omega
theorem FmS.put (h : FmS w first gp g i n c m L X W) (hi : i < first.length) (h9 : i < 9) (u : Value) (hu : SliceIn W u (first.getD i [])) : Calls Tryd.prog 15 #[ptr gp, u] W fun e W' => ∃ (k : Nat) (er : Int) (n2 : Nat) (c' : Nat → Colour) (m' : Pl) (X' : Nat → List Nat), e = .returned (.tuple #[.int .i64 (k : Nat), .int .i64 er]) ∧ ((er = 0 ∧ n2 = n + 1) ∨ (er = 5 ∧ n2 = n)) ∧ FmM w first gp g i n2 c' m' L X' W' := by
  have hn := h.n9
  refine (h.st.putC (by omega) h.calm u _ hu).mono ?_
  rintro e W' ⟨c', _, ⟨h2, h3, h4⟩ | ⟨_, h2, _⟩ | ⟨p, m', h2, h3, h4, h5, h6⟩⟩
  · exact ⟨0, 5, n, c', m, X, h3, Or.inr ⟨rfl, rfl⟩, ⟨by rw [oks_no first i hi h2]; exact h.num, hn.2, h.calm, by rw [oks_no first i hi h2]; exact h.img, h4.mono (by omega)⟩⟩
  · rw [least_used L (hdU (firstU n)) h.used, leastF ⟨n, by omega⟩] at h2
    cases h2
  · rw [least_used L (hdU (firstU n)) h.used, leastF ⟨n, by omega⟩] at h3
    injection h3 with h3
    have e1 : p = n := h3.symm
    subst e1
    have e2 := oks_ok first i hi h2
    have hl := h.num
    refine ⟨p, 0, p + 1, c', m', _, h4, Or.inl ⟨rfl, rfl⟩, ⟨by rw [e2, List.length_append, ← hl]; rfl, by omega, h5, fun k hk => ?_, h6⟩⟩
    rw [e2]
    unfold updP
    by_cases hkp : k = p
    · rw [if_pos hkp, hkp, hl, getD_last]
    · rw [if_neg hkp, getD_front _ _ (by omega)]
      exact h.img k (by omega)
theorem FmM.com (h : FmM w first gp g i n c m L X W) (hi : i < first.length) (h9 : i < 9) : Calls Tryd.prog 19 #[ptr gp, .int .i64 ((n : Int) - 1)] W fun e W' => e = .returned (.int .i64 0) ∧ ∃ c' m' L', FmS w first gp g (i + 1) n c' m' L' X W' := by
  have hn := h.n9
  refine (h.st.comC (by omega) h.calm _ (rootF ⟨n, by omega⟩)).mono ?_
  rintro e W' ⟨c', m', rfl, _, h2, _, h4⟩
  exact ⟨rfl, c', m', _, ⟨by omega, by omega, h.num, h2, rfl, rfl, h.img, h4⟩⟩
end
set_option maxHeartbeats 16000000 in
set_option maxRecDepth 100000 in
theorem pagerFormats_any (w : World) (ht : Fr.TabIn w) (p0 : Option Addr) (n0 cap0 : Nat) (first : List (List Nat)) (hf : RowsIn w (.slice p0 n0 cap0) first) (f : Int) (hf0 : -9223372036854775808 ≤ f ∧ f ≤ 9223372036854775807) (vk : Value) (ks : List Int) (hk : IntsIn w vk ks) : Calls Tryd.prog 6 #[.slice p0 n0 cap0, .int .i64 f, vk] w fun e w' => e = .returned (.bool true) ∧ Below w.heap.size w w' := by
  have HT : Hid (Fr.TabIn w) := ht
  have HR : Hid (RowsIn w (.slice p0 n0 cap0) first) := hf
  have HK : Hid (IntsIn w vk ks) := hk
  have HN : Hid (n0 = first.length ∧ n0 ≤ 9223372036854775807) := hf.len
  have HF0 : Hid (-9223372036854775808 ≤ f ∧ f ≤ 9223372036854775807) := hf0
  obtain ⟨PQ, hPQ⟩ : ∃ PQ : Ending → World → Prop, PQ = fun (e : Ending) (w' : World) => e = .returned (.bool true) ∧ Below w.heap.size w w' := ⟨_, rfl⟩
  have HPQ : Hid (PQ = fun (e : Ending) (w' : World) => e = .returned (.bool true) ∧ Below w.heap.size w w') := hPQ
  rw [← hPQ]
  clear hPQ ht hf hk hf0
  go_enter Tryd.func6, Tryd.ntmps6
  go_upto_region 0 with fail
  refine wp_region_lit ?_
  refine wl rfl (.bool false) _ (run_asZ (.const (.bool false)) rfl (.bool false) rfl) ?_
  simp only [Act.put, List.setIfInBounds_toArray, List.set_cons_succ, List.set_cons_zero]
  refine wpList_nil ?_
  go_upto_region 1 with fail
  refine wp_region_lit ?_
  refine wpList_callW eN9 [] _ rfl rfl [] rfl ?_
  refine (shown_any w HT.out).mono ?_
  rintro e W0 ⟨rfl, b_⟩
  refine ⟨_, rfl, ?_⟩
  have HB0 : Hid (Below w.heap.size w W0) := b_
  clear b_
  simp only [Act.put, List.setIfInBounds_toArray, List.set_cons_succ, List.set_cons_zero]
  refine wl rfl (.bool true) _ (run_asZ (.tmp 23) rfl (.bool true) rfl) ?_
  simp only [Act.put, List.setIfInBounds_toArray, List.set_cons_succ, List.set_cons_zero]
  refine wpList_nil ?_
  go_upto_region 2 with fail
  refine wp_region_lit ?_
  refine wl rfl (.slice (some ⟨W0.heap.size, 0, none⟩) 1 1) _ (run_lit28 (.const (.int .i64 210)) rfl 210 rfl) ?_
  have HI : Hid (IntsIn (W0.alloc (.cells #[.int .i64 210] 3)) (.slice (some ⟨W0.heap.size, 0, none⟩) 1 1) [((210 : Nat) : Int)] ∧ Below W0.heap.size W0 (W0.alloc (.cells #[.int .i64 210] 3))) := ⟨ints_lit W0 210, below_alloc W0 _⟩
  obtain ⟨W1, hW_⟩ : ∃ W, W = W0.alloc (.cells #[.int .i64 210] 3) := ⟨_, rfl⟩
  obtain ⟨q0, hq_⟩ : ∃ q, q = W0.heap.size := ⟨_, rfl⟩
  rw [← hW_] at HI ⊢
  rw [← hq_] at ⊢
  have HI2 : Hid (IntsIn W1 (.slice (some ⟨q0, 0, none⟩) 1 1) [((210 : Nat) : Int)] ∧ Below W0.heap.size W0 W1) := by rw [hq_]; exact HI.out
  clear hW_ hq_ HI
  simp only [Act.put, List.setIfInBounds_toArray, List.set_cons_succ, List.set_cons_zero]
  refine wl rfl (.agg #[.slice (some ⟨q0, 0, none⟩) 1 1, .slice none 0 0]) _ (run_build30 (.tmp 25) rfl _ _ _ rfl) ?_
  simp only [Act.put, List.setIfInBounds_toArray, List.set_cons_succ, List.set_cons_zero]
  refine wpList_callW eN10 [.tmp 26] _ rfl rfl [(.agg #[.slice (some ⟨q0, 0, none⟩) 1 1, .slice none 0 0])] rfl ?_
  refine (PlW.new (HB0.out.trans (HI2.out.2.mono HB0.out.size)) HT.out 210 ⟨by decide, by decide⟩ _ HI2.out.1).mono ?_
  rintro e W2 ⟨g, c2, rfl, b_, h_⟩
  refine ⟨_, rfl, ?_⟩
  have H2 : Hid (PlW w W2 c2 g (newPl [((210 : Nat) : Int)] []) [210] [] 0) := h_
  clear h_ b_ HI2
  simp only [Act.put, List.setIfInBounds_toArray, List.set_cons_succ, List.set_cons_zero]
  refine wl rfl (.tuple #[(ptr g), (.int .i64 0)]) _ (run_mvZ (.tmp 27) rfl (.tuple #[(ptr g), (.int .i64 0)]) rfl) ?_
  simp only [Act.put, List.setIfInBounds_toArray, List.set_cons_succ, List.set_cons_zero]
  refine wl rfl (ptr g) _ (run_extZ (.tmp 24) 0 rfl #[(ptr g), (.int .i64 0)] rfl (ptr g) rfl) ?_
  simp only [Act.put, List.setIfInBounds_toArray, List.set_cons_succ, List.set_cons_zero]
  refine wl rfl (.int .i64 0) _ (run_extZ (.tmp 24) 1 rfl #[(ptr g), (.int .i64 0)] rfl (.int .i64 0) rfl) ?_
  simp only [Act.put, List.setIfInBounds_toArray, List.set_cons_succ, List.set_cons_zero]
  refine wl rfl (ptr g) _ (run_asZ (.tmp 28) rfl (ptr g) rfl) ?_
  simp only [Act.put, List.setIfInBounds_toArray, List.set_cons_succ, List.set_cons_zero]
  refine wl rfl (.int .i64 0) _ (run_asZ (.tmp 29) rfl (.int .i64 0) rfl) ?_
  simp only [Act.put, List.setIfInBounds_toArray, List.set_cons_succ, List.set_cons_zero]
  refine wpList_nil ?_
  go_upto_region 3 with fail
  refine wp_region_lit ?_
  refine wl rfl (.bool true) _ (run_mvZ (.tmp 7) rfl (.bool true) rfl) ?_
  simp only [Act.put, List.setIfInBounds_toArray, List.set_cons_succ, List.set_cons_zero]
  refine wl rfl (.bool false) _ (run_not (.tmp 30) 4 rfl true rfl) ?_
  simp only [Act.put, List.setIfInBounds_toArray, List.set_cons_succ, List.set_cons_zero]
  refine wl rfl (.bool false) _ (run_mvZ (.tmp 31) rfl (.bool false) rfl) ?_
  simp only [Act.put, List.setIfInBounds_toArray, List.set_cons_succ, List.set_cons_zero]
  refine wl (by kernel_rfl) (ptr g) _ (run_mvZ (.tmp 8) rfl (ptr g) rfl) ?_
  simp only [Act.put, List.setIfInBounds_toArray, List.set_cons_succ, List.set_cons_zero]
  refine wl (by kernel_rfl) (.bool false) _ (run_binOp' (.tmp 33) (.const (.pointer none)) rfl _ _ _ rfl rfl rfl (by kernel_rfl)) ?_
  simp only [Act.put, List.setIfInBounds_toArray, List.set_cons_succ, List.set_cons_zero]
  refine wl rfl (.bool false) _ (run_pickZ (.tmp 32) (.const (.bool true)) (.tmp 34) rfl false (.bool false) rfl rfl) ?_
  simp only [Act.put, List.setIfInBounds_toArray, List.set_cons_succ, List.set_cons_zero]
  refine wl rfl (.bool false) _ (run_mvZ (.tmp 35) rfl (.bool false) rfl) ?_
  simp only [Act.put, List.setIfInBounds_toArray, List.set_cons_succ, List.set_cons_zero]
  refine wl (by kernel_rfl) (.int .i64 0) _ (run_mvZ (.tmp 9) rfl (.int .i64 0) rfl) ?_
  simp only [Act.put, List.setIfInBounds_toArray, List.set_cons_succ, List.set_cons_zero]
  refine wl (by kernel_rfl) (.bool false) _ (run_neZ (.tmp 37) (.const (.int .i64 0)) rfl (0) (0) rfl rfl false rfl) ?_
  simp only [Act.put, List.setIfInBounds_toArray, List.set_cons_succ, List.set_cons_zero]
  refine wl rfl (.bool false) _ (run_pickZ (.tmp 36) (.const (.bool true)) (.tmp 38) rfl false (.bool false) rfl rfl) ?_
  simp only [Act.put, List.setIfInBounds_toArray, List.set_cons_succ, List.set_cons_zero]
  refine wpList_nil ?_
  go_upto_region 5 with fail
  refine wp_region_lit ?_
  refine wl rfl (ptr g) _ (run_mvZ (.tmp 8) rfl (ptr g) rfl) ?_
  simp only [Act.put, List.setIfInBounds_toArray, List.set_cons_succ, List.set_cons_zero]
  refine wpList_callW eN11 [.tmp 40, .const (.int .i64 0)] _ rfl rfl [(ptr g), .int .i64 0] rfl ?_
  refine (PlW.first (n := 26) ⟨by decide, by decide⟩ (by decide) (by decide) H2.out).mono ?_
  rintro e W4 ⟨rfl, c4, m4, h_, o_, f_⟩
  refine ⟨_, rfl, ?_⟩
  have H4 : Hid (PlW w W4 c4 g m4 [210] [] 6 ∧ PgO m4 0 26 (noHd 1) noneP zX ∧ m4.fuse < 0) := ⟨h_, o_, f_⟩
  clear h_ o_ f_ H2
  simp only [Act.put, List.setIfInBounds_toArray, List.set_cons_succ, List.set_cons_zero]
  refine wl rfl (.int .i64 0) _ (run_asZ (.tmp 41) rfl (.int .i64 0) rfl) ?_
  simp only [Act.put, List.setIfInBounds_toArray, List.set_cons_succ, List.set_cons_zero]
  refine wpList_nil ?_
  go_upto_region 6 with fail
  refine wp_region_lit ?_
  refine wl rfl (ptr g) _ (run_mvZ (.tmp 8) rfl (ptr g) rfl) ?_
  simp only [Act.put, List.setIfInBounds_toArray, List.set_cons_succ, List.set_cons_zero]
  refine wpList_callW eN13 [.tmp 43, .const (.int .i64 0)] _ rfl rfl [(ptr g), .int .i64 0] rfl ?_
  refine (PlW.openZ H4.out.1 (by decide) (by decide) (L := noHd 1) H4.out.2.1).mono ?_
  rintro e W5 ⟨gp, rfl, b_, h_⟩
  refine ⟨_, rfl, ?_⟩
  have H5 : Hid (FmS w first gp g 0 0 c4 m4 (noHd 1) zX W5) := ⟨Nat.zero_le _, by decide, rfl, H4.out.2.2, rfl, rfl, fun k hk => absurd hk (Nat.not_lt_zero _), h_⟩
  clear h_ b_ H4
  simp only [Act.put, List.setIfInBounds_toArray, List.set_cons_succ, List.set_cons_zero]
  refine wl rfl (.tuple #[(ptr gp), (.int .i64 0)]) _ (run_mvZ (.tmp 44) rfl (.tuple #[(ptr gp), (.int .i64 0)]) rfl) ?_
  simp only [Act.put, List.setIfInBounds_toArray, List.set_cons_succ, List.set_cons_zero]
  refine wl rfl (ptr gp) _ (run_extZ (.tmp 42) 0 rfl #[(ptr gp), (.int .i64 0)] rfl (ptr gp) rfl) ?_
  simp only [Act.put, List.setIfInBounds_toArray, List.set_cons_succ, List.set_cons_zero]
  refine wl rfl (.int .i64 0) _ (run_extZ (.tmp 42) 1 rfl #[(ptr gp), (.int .i64 0)] rfl (.int .i64 0) rfl) ?_
  simp only [Act.put, List.setIfInBounds_toArray, List.set_cons_succ, List.set_cons_zero]
  refine wl rfl (ptr gp) _ (run_asZ (.tmp 45) rfl (ptr gp) rfl) ?_
  simp only [Act.put, List.setIfInBounds_toArray, List.set_cons_succ, List.set_cons_zero]
  refine wl rfl (.int .i64 0) _ (run_asZ (.tmp 46) rfl (.int .i64 0) rfl) ?_
  simp only [Act.put, List.setIfInBounds_toArray, List.set_cons_succ, List.set_cons_zero]
  refine wpList_nil ?_
  go_upto_region 7 with fail
  refine wp_region_lit ?_
  refine wl rfl (.int .i64 0) _ (run_mvZ (.tmp 10) rfl (.int .i64 0) rfl) ?_
  simp only [Act.put, List.setIfInBounds_toArray, List.set_cons_succ, List.set_cons_zero]
  refine wl rfl (.bool false) _ (run_neZ (.tmp 47) (.const (.int .i64 0)) rfl (0) (0) rfl rfl false rfl) ?_
  simp only [Act.put, List.setIfInBounds_toArray, List.set_cons_succ, List.set_cons_zero]
  refine wl rfl (.bool false) _ (run_mvZ (.tmp 48) rfl (.bool false) rfl) ?_
  simp only [Act.put, List.setIfInBounds_toArray, List.set_cons_succ, List.set_cons_zero]
  refine wl (by kernel_rfl) (ptr gp) _ (run_mvZ (.tmp 11) rfl (ptr gp) rfl) ?_
  simp only [Act.put, List.setIfInBounds_toArray, List.set_cons_succ, List.set_cons_zero]
  refine wl (by kernel_rfl) (.bool false) _ (run_binOp' (.tmp 50) (.const (.pointer none)) rfl _ _ _ rfl rfl rfl (by kernel_rfl)) ?_
  simp only [Act.put, List.setIfInBounds_toArray, List.set_cons_succ, List.set_cons_zero]
  refine wl rfl (.bool false) _ (run_pickZ (.tmp 49) (.const (.bool true)) (.tmp 51) rfl false (.bool false) rfl rfl) ?_
  simp only [Act.put, List.setIfInBounds_toArray, List.set_cons_succ, List.set_cons_zero]
  refine wl rfl (.bool false) _ (run_mvZ (.tmp 52) rfl (.bool false) rfl) ?_
  simp only [Act.put, List.setIfInBounds_toArray, List.set_cons_succ, List.set_cons_zero]
  refine wl (by kernel_rfl) (.int .i64 0) _ (run_mvZ (.tmp 12) rfl (.int .i64 0) rfl) ?_
  simp only [Act.put, List.setIfInBounds_toArray, List.set_cons_succ, List.set_cons_zero]
  refine wl (by kernel_rfl) (.bool false) _ (run_neZ (.tmp 54) (.const (.int .i64 0)) rfl (0) (0) rfl rfl false rfl) ?_
  simp only [Act.put, List.setIfInBounds_toArray, List.set_cons_succ, List.set_cons_zero]
  refine wl rfl (.bool false) _ (run_pickZ (.tmp 53) (.const (.bool true)) (.tmp 55) rfl false (.bool false) rfl rfl) ?_
  simp only [Act.put, List.setIfInBounds_toArray, List.set_cons_succ, List.set_cons_zero]
  refine wpList_nil ?_
  go_upto_region 9 with fail
  refine wp_region_lit ?_
  refine wl rfl (.int .i64 0) _ (run_asZ (.const (.int .i64 0)) rfl (.int .i64 0) rfl) ?_
  simp only [Act.put, List.setIfInBounds_toArray, List.set_cons_succ, List.set_cons_zero]
  refine wpList_nil ?_
  go_upto_region 10 with fail
  refine wp_region_lit ?_
  refine wl rfl (.int .i64 0) _ (run_asZ (.const (.int .i64 0)) rfl (.int .i64 0) rfl) ?_
  simp only [Act.put, List.setIfInBounds_toArray, List.set_cons_succ, List.set_cons_zero]
  refine wpList_nil ?_
  go_wp2_with fail
  go_loopw [13, 14] (fun vn vi W => ∃ (i n : Nat) (c : Nat → Colour) (m : Pl) (L : Hd) (X : Nat → List Nat), vi = .int .i64 (i : Nat) ∧ vn = .int .i64 (n : Nat) ∧ FmS w first gp g i n c m L X W) (fun _ vi _ => 9 - (intOf vi).toNat)
  case atStart => exact ⟨0, 0, c4, m4, noHd 1, zX, rfl, rfl, H5.out⟩
  case round =>
    obtain ⟨i, n, c, m, L, X, rfl, rfl, hst⟩ := hrel
    have HS : Hid (FmS w first gp g i n c m L X wr) := hst
    clear hst H5
    by_cases hlt : i < n0
    · by_cases hi9 : i < 9
      · have h1 : decide ((i : Int) < (n0 : Int)) = true := decide_eq_true (by omega)
        have h2 : decide ((i : Int) < (9 : Int)) = true := decide_eq_true (by omega)
        go_upto_region 11 with fail
        refine wp_region_lit ?_
        refine wl rfl (.int .i64 (i : Nat)) _ (run_mvZ (.tmp 14) rfl (.int .i64 (i : Nat)) rfl) ?_
        simp only [Act.put, List.setIfInBounds_toArray, List.set_cons_succ, List.set_cons_zero]
        refine wl rfl (.slice p0 n0 cap0) _ (run_mvZ (.tmp 0) rfl (.slice p0 n0 cap0) rfl) ?_
        simp only [Act.put, List.setIfInBounds_toArray, List.set_cons_succ, List.set_cons_zero]
        refine wl rfl (.int .i64 (n0 : Nat)) _ (run_lenZ sl50 (.tmp 58) rfl p0 n0 cap0 rfl) ?_
        simp only [Act.put, List.setIfInBounds_toArray, List.set_cons_succ, List.set_cons_zero]
        refine wl rfl (.bool true) _ (run_lssZ (.tmp 57) (.tmp 59) rfl _ _ rfl rfl true h1) ?_
        simp only [Act.put, List.setIfInBounds_toArray, List.set_cons_succ, List.set_cons_zero]
        refine wl rfl (.bool true) _ (run_mvZ (.tmp 60) rfl (.bool true) rfl) ?_
        simp only [Act.put, List.setIfInBounds_toArray, List.set_cons_succ, List.set_cons_zero]
        refine wl (by kernel_rfl) (.int .i64 (i : Nat)) _ (run_mvZ (.tmp 14) rfl (.int .i64 (i : Nat)) rfl) ?_
        simp only [Act.put, List.setIfInBounds_toArray, List.set_cons_succ, List.set_cons_zero]
        refine wl (by kernel_rfl) (.bool true) _ (run_lssZ (.tmp 62) (.const (.int .i64 9)) rfl _ _ rfl rfl true h2) ?_
        simp only [Act.put, List.setIfInBounds_toArray, List.set_cons_succ, List.set_cons_zero]
        refine wl rfl (.bool true) _ (run_pickZ (.tmp 61) (.tmp 63) (.const (.bool false)) rfl true (.bool true) rfl rfl) ?_
        simp only [Act.put, List.setIfInBounds_toArray, List.set_cons_succ, List.set_cons_zero]
        refine wpList_nil ?_
        obtain ⟨fb, fo, pu, cu, hp0, hul, hu⟩ := HR.out.at i (by rw [← HN.out.1]; exact hlt)
        subst hp0
        obtain ⟨hu1, hu2⟩ := hu wr HS.out.st.pl.below
        obtain ⟨ul, hue⟩ : ∃ ul, ul = (first.getD i []).length := ⟨_, rfl⟩
        rw [← hue] at hu1 hu2 hul
        have HU : Hid (wr.cell? ⟨fb, fo + i, none⟩ = some (.slice pu ul cu) ∧ SliceIn wr (.slice pu ul cu) (first.getD i [])) := ⟨hu1, hu2⟩
        clear hu1 hu2 hue
        have HIL : Hid (i < first.length) := by show _ < _; rw [← HN.out.1]; exact hlt
        go_upto_region 13 with fail
        refine wp_region_lit ?_
        refine wl rfl (ptr gp) _ (run_mvZ (.tmp 11) rfl (ptr gp) rfl) ?_
        simp only [Act.put, List.setIfInBounds_toArray, List.set_cons_succ, List.set_cons_zero]
        refine wl rfl (.slice (some ⟨fb, fo, none⟩) n0 cap0) _ (run_mvZ (.tmp 0) rfl (.slice (some ⟨fb, fo, none⟩) n0 cap0) rfl) ?_
        simp only [Act.put, List.setIfInBounds_toArray, List.set_cons_succ, List.set_cons_zero]
        refine wl rfl (.int .i64 (i : Nat)) _ (run_mvZ (.tmp 14) rfl (.int .i64 (i : Nat)) rfl) ?_
        simp only [Act.put, List.setIfInBounds_toArray, List.set_cons_succ, List.set_cons_zero]
        refine wl rfl (.pointer (some ⟨fb, fo + i, none⟩)) _ (run_ix50 (.tmp 69) (.tmp 70) rfl fb fo n0 cap0 i rfl rfl hlt) ?_
        simp only [Act.put, List.setIfInBounds_toArray, List.set_cons_succ, List.set_cons_zero]
        refine wl rfl (.slice pu ul cu) _ (run_load1 o38' (.tmp 71) rfl fb (fo + i) rfl (.slice pu ul cu) HU.out.1) ?_
        simp only [Act.put, List.setIfInBounds_toArray, List.set_cons_succ, List.set_cons_zero]
        refine wpList_callW eN15 [.tmp 68, .tmp 72] _ rfl rfl [(ptr gp), (.slice pu ul cu)] rfl ?_
        refine (FmS.put HS.out HIL.out hi9 _ HU.out.2).mono ?_
        rintro e W6 ⟨k6, er, n2, c6, m6, X6, rfl, a_, h_⟩
        refine ⟨_, rfl, ?_⟩
        have H6 : Hid (FmM w first gp g i n2 c6 m6 L X6 W6) := h_
        clear h_ HU HS
        simp only [Act.put, List.setIfInBounds_toArray, List.set_cons_succ, List.set_cons_zero]
        refine wl rfl (.tuple #[(.int .i64 (k6 : Nat)), (.int .i64 er)]) _ (run_mvZ (.tmp 73) rfl (.tuple #[(.int .i64 (k6 : Nat)), (.int .i64 er)]) rfl) ?_
        simp only [Act.put, List.setIfInBounds_toArray, List.set_cons_succ, List.set_cons_zero]
        refine wl rfl (.int .i64 (k6 : Nat)) _ (run_extZ (.tmp 67) 0 rfl #[(.int .i64 (k6 : Nat)), (.int .i64 er)] rfl (.int .i64 (k6 : Nat)) rfl) ?_
        simp only [Act.put, List.setIfInBounds_toArray, List.set_cons_succ, List.set_cons_zero]
        refine wl rfl (.int .i64 er) _ (run_extZ (.tmp 67) 1 rfl #[(.int .i64 (k6 : Nat)), (.int .i64 er)] rfl (.int .i64 er) rfl) ?_
        simp only [Act.put, List.setIfInBounds_toArray, List.set_cons_succ, List.set_cons_zero]
        refine wl rfl (.int .i64 (k6 : Nat)) _ (run_asZ (.tmp 74) rfl (.int .i64 (k6 : Nat)) rfl) ?_
        simp only [Act.put, List.setIfInBounds_toArray, List.set_cons_succ, List.set_cons_zero]
        refine wl rfl (.int .i64 er) _ (run_asZ (.tmp 75) rfl (.int .i64 er) rfl) ?_
        simp only [Act.put, List.setIfInBounds_toArray, List.set_cons_succ, List.set_cons_zero]
        refine wpList_nil ?_
        have hn9 := H6.out.n9
        rcases a_ with ⟨rfl, a2⟩ | ⟨rfl, a2⟩
        · go_upto_region 14 with fail
          refine wp_region_lit ?_
          refine wl rfl (.int .i64 0) _ (run_mvZ (.tmp 16) rfl (.int .i64 0) rfl) ?_
          simp only [Act.put, List.setIfInBounds_toArray, List.set_cons_succ, List.set_cons_zero]
          refine wl rfl (.bool true) _ (run_eqZ (.tmp 76) (.const (.int .i64 0)) rfl (0) (0) rfl rfl true rfl) ?_
          simp only [Act.put, List.setIfInBounds_toArray, List.set_cons_succ, List.set_cons_zero]
          refine wpList_nil ?_
          go_upto_region 15 with fail
          refine wp_region_lit ?_
          refine wl rfl (.int .i64 (n : Nat)) _ (run_mvZ (.tmp 13) rfl (.int .i64 (n : Nat)) rfl) ?_
          simp only [Act.put, List.setIfInBounds_toArray, List.set_cons_succ, List.set_cons_zero]
          refine wl rfl (.int .i64 (n2 : Nat)) _ (run_addI (.tmp 78) (.const (.int .i64 1)) rfl _ 1 (n2 : Nat) (by omega) (by omega) (by omega) rfl rfl) ?_
          simp only [Act.put, List.setIfInBounds_toArray, List.set_cons_succ, List.set_cons_zero]
          refine wl rfl (.int .i64 (n2 : Nat)) _ (run_asZ (.tmp 79) rfl (.int .i64 (n2 : Nat)) rfl) ?_
          simp only [Act.put, List.setIfInBounds_toArray, List.set_cons_succ, List.set_cons_zero]
          refine wpList_nil ?_
          go_upto_region 16 with fail
          refine wp_region_lit ?_
          refine wl rfl (ptr gp) _ (run_mvZ (.tmp 11) rfl (ptr gp) rfl) ?_
          simp only [Act.put, List.setIfInBounds_toArray, List.set_cons_succ, List.set_cons_zero]
          refine wl rfl (.int .i64 (n2 : Nat)) _ (run_mvZ (.tmp 13) rfl (.int .i64 (n2 : Nat)) rfl) ?_
          simp only [Act.put, List.setIfInBounds_toArray, List.set_cons_succ, List.set_cons_zero]
          refine wl rfl (.int .i64 ((n2 : Int) - 1)) _ (run_subI (.tmp 81) (.const (.int .i64 1)) rfl _ 1 ((n2 : Int) - 1) rfl (by omega) (by omega) rfl rfl) ?_
          simp only [Act.put, List.setIfInBounds_toArray, List.set_cons_succ, List.set_cons_zero]
          refine wpList_callW eN19 [.tmp 80, .tmp 82] _ rfl rfl [(ptr gp), (.int .i64 ((n2 : Int) - 1))] rfl ?_
          refine (FmM.com H6.out HIL.out hi9).mono ?_
          rintro e W7 ⟨rfl, c7, m7, L7, h_⟩
          refine ⟨_, rfl, ?_⟩
          have H7 : Hid (FmS w first gp g (i + 1) n2 c7 m7 L7 X6 W7) := h_
          clear h_ H6
          simp only [Act.put, List.setIfInBounds_toArray, List.set_cons_succ, List.set_cons_zero]
          refine wl rfl (.int .i64 0) _ (run_asZ (.tmp 83) rfl (.int .i64 0) rfl) ?_
          simp only [Act.put, List.setIfInBounds_toArray, List.set_cons_succ, List.set_cons_zero]
          refine wpList_nil ?_
          go_upto_region 17 with fail
          refine wp_region_lit ?_
          refine wl rfl (.int .i64 0) _ (run_mvZ (.tmp 17) rfl (.int .i64 0) rfl) ?_
          simp only [Act.put, List.setIfInBounds_toArray, List.set_cons_succ, List.set_cons_zero]
          refine wl rfl (.bool false) _ (run_neZ (.tmp 84) (.const (.int .i64 0)) rfl (0) (0) rfl rfl false rfl) ?_
          simp only [Act.put, List.setIfInBounds_toArray, List.set_cons_succ, List.set_cons_zero]
          refine wpList_nil ?_
          go_wp2_with fail
          refine ⟨⟨i + 1, n2, c7, m7, L7, X6, by go_num, rfl, H7.out⟩, ?_⟩
          simp [intOf]; omega
        · go_upto_region 14 with fail
          refine wp_region_lit ?_
          refine wl rfl (.int .i64 5) _ (run_mvZ (.tmp 16) rfl (.int .i64 5) rfl) ?_
          simp only [Act.put, List.setIfInBounds_toArray, List.set_cons_succ, List.set_cons_zero]
          refine wl rfl (.bool false) _ (run_eqZ (.tmp 76) (.const (.int .i64 0)) rfl (5) (0) rfl rfl false rfl) ?_
          simp only [Act.put, List.setIfInBounds_toArray, List.set_cons_succ, List.set_cons_zero]
          refine wpList_nil ?_
          subst a2
          go_upto_region 16 with fail
          refine wp_region_lit ?_
          refine wl rfl (ptr gp) _ (run_mvZ (.tmp 11) rfl (ptr gp) rfl) ?_
          simp only [Act.put, List.setIfInBounds_toArray, List.set_cons_succ, List.set_cons_zero]
          refine wl rfl (.int .i64 (n2 : Nat)) _ (run_mvZ (.tmp 13) rfl (.int .i64 (n2 : Nat)) rfl) ?_
          simp only [Act.put, List.setIfInBounds_toArray, List.set_cons_succ, List.set_cons_zero]
          refine wl rfl (.int .i64 ((n2 : Int) - 1)) _ (run_subI (.tmp 81) (.const (.int .i64 1)) rfl _ 1 ((n2 : Int) - 1) rfl (by omega) (by omega) rfl rfl) ?_
          simp only [Act.put, List.setIfInBounds_toArray, List.set_cons_succ, List.set_cons_zero]
          refine wpList_callW eN19 [.tmp 80, .tmp 82] _ rfl rfl [(ptr gp), (.int .i64 ((n2 : Int) - 1))] rfl ?_
          refine (FmM.com H6.out HIL.out hi9).mono ?_
          rintro e W7 ⟨rfl, c7, m7, L7, h_⟩
          refine ⟨_, rfl, ?_⟩
          have H7 : Hid (FmS w first gp g (i + 1) n2 c7 m7 L7 X6 W7) := h_
          clear h_ H6
          simp only [Act.put, List.setIfInBounds_toArray, List.set_cons_succ, List.set_cons_zero]
          refine wl rfl (.int .i64 0) _ (run_asZ (.tmp 83) rfl (.int .i64 0) rfl) ?_
          simp only [Act.put, List.setIfInBounds_toArray, List.set_cons_succ, List.set_cons_zero]
          refine wpList_nil ?_
          go_upto_region 17 with fail
          refine wp_region_lit ?_
          refine wl rfl (.int .i64 0) _ (run_mvZ (.tmp 17) rfl (.int .i64 0) rfl) ?_
          simp only [Act.put, List.setIfInBounds_toArray, List.set_cons_succ, List.set_cons_zero]
          refine wl rfl (.bool false) _ (run_neZ (.tmp 84) (.const (.int .i64 0)) rfl (0) (0) rfl rfl false rfl) ?_
          simp only [Act.put, List.setIfInBounds_toArray, List.set_cons_succ, List.set_cons_zero]
          refine wpList_nil ?_
          go_wp2_with fail
          refine ⟨⟨i + 1, n2, c7, m7, L7, X6, by go_num, rfl, H7.out⟩, ?_⟩
          simp [intOf]; omega
      · have h1 : decide ((i : Int) < (n0 : Int)) = true := decide_eq_true (by omega)
        have h2 : decide ((i : Int) < (9 : Int)) = false := decide_eq_false (by omega)
        go_upto_region 11 with fail
        refine wp_region_lit ?_
        refine wl rfl (.int .i64 (i : Nat)) _ (run_mvZ (.tmp 14) rfl (.int .i64 (i : Nat)) rfl) ?_
        simp only [Act.put, List.setIfInBounds_toArray, List.set_cons_succ, List.set_cons_zero]
        refine wl rfl (.slice p0 n0 cap0) _ (run_mvZ (.tmp 0) rfl (.slice p0 n0 cap0) rfl) ?_
        simp only [Act.put, List.setIfInBounds_toArray, List.set_cons_succ, List.set_cons_zero]
        refine wl rfl (.int .i64 (n0 : Nat)) _ (run_lenZ sl50 (.tmp 58) rfl p0 n0 cap0 rfl) ?_
        simp only [Act.put, List.setIfInBounds_toArray, List.set_cons_succ, List.set_cons_zero]
        refine wl rfl (.bool true) _ (run_lssZ (.tmp 57) (.tmp 59) rfl _ _ rfl rfl true h1) ?_
        simp only [Act.put, List.setIfInBounds_toArray, List.set_cons_succ, List.set_cons_zero]
        refine wl rfl (.bool true) _ (run_mvZ (.tmp 60) rfl (.bool true) rfl) ?_
        simp only [Act.put, List.setIfInBounds_toArray, List.set_cons_succ, List.set_cons_zero]
        refine wl (by kernel_rfl) (.int .i64 (i : Nat)) _ (run_mvZ (.tmp 14) rfl (.int .i64 (i : Nat)) rfl) ?_
        simp only [Act.put, List.setIfInBounds_toArray, List.set_cons_succ, List.set_cons_zero]
        refine wl (by kernel_rfl) (.bool false) _ (run_lssZ (.tmp 62) (.const (.int .i64 9)) rfl _ _ rfl rfl false h2) ?_
        simp only [Act.put, List.setIfInBounds_toArray, List.set_cons_succ, List.set_cons_zero]
        refine wl rfl (.bool false) _ (run_pickZ (.tmp 61) (.tmp 63) (.const (.bool false)) rfl true (.bool false) rfl rfl) ?_
        simp only [Act.put, List.setIfInBounds_toArray, List.set_cons_succ, List.set_cons_zero]
        refine wpList_nil ?_
        clear h2
        have HE : Hid (∀ j, j < n0 → j < 9 → j < i) := fun j hj hj9 => by omega
        clear h1
        by_cases hneg : f < 0
        · have h2 : decide (f < 0) = true := decide_eq_true hneg
          obtain ⟨fn, hfn⟩ : ∃ fn : Nat, -(f + 1) = (fn : Int) := ⟨(-(f + 1)).toNat, by omega⟩
          have hfl := HF0.out
          go_upto_region 19 with fail
          refine wp_region_lit ?_
          refine wl rfl (.int .i64 f) _ (run_mvZ (.tmp 1) rfl (.int .i64 f) rfl) ?_
          simp only [Act.put, List.setIfInBounds_toArray, List.set_cons_succ, List.set_cons_zero]
          refine wl rfl (.bool true) _ (run_lssZ (.tmp 86) (.const (.int .i64 0)) rfl f 0 rfl rfl true h2) ?_
          simp only [Act.put, List.setIfInBounds_toArray, List.set_cons_succ, List.set_cons_zero]
          refine wpList_nil ?_
          go_upto_region 20 with fail
          refine wp_region_lit ?_
          refine wl rfl (.int .i64 f) _ (run_mvZ (.tmp 1) rfl (.int .i64 f) rfl) ?_
          simp only [Act.put, List.setIfInBounds_toArray, List.set_cons_succ, List.set_cons_zero]
          refine wl rfl (.int .i64 (f + 1)) _ (run_addI (.tmp 88) (.const (.int .i64 1)) rfl f 1 (f + 1) rfl (by omega) (by omega) rfl rfl) ?_
          simp only [Act.put, List.setIfInBounds_toArray, List.set_cons_succ, List.set_cons_zero]
          refine wl rfl (.int .i64 (fn : Nat)) _ (run_negI (.tmp 89) rfl (f + 1) fn hfn (by omega) (by omega) rfl) ?_
          simp only [Act.put, List.setIfInBounds_toArray, List.set_cons_succ, List.set_cons_zero]
          refine wl rfl (.int .i64 (fn : Nat)) _ (run_asZ (.tmp 90) rfl (.int .i64 (fn : Nat)) rfl) ?_
          simp only [Act.put, List.setIfInBounds_toArray, List.set_cons_succ, List.set_cons_zero]
          refine wpList_nil ?_
          have hn9 := HS.out.n9
          have h4 : fn % 4 < 4 := Nat.mod_lt _ (by decide)
          go_upto_region 21 with fail
          refine wp_region_lit ?_
          refine wl rfl (ptr g) _ (run_mvZ (.tmp 8) rfl (ptr g) rfl) ?_
          simp only [Act.put, List.setIfInBounds_toArray, List.set_cons_succ, List.set_cons_zero]
          refine wl rfl (.int .i64 (fn : Nat)) _ (run_mvZ (.tmp 1) rfl (.int .i64 (fn : Nat)) rfl) ?_
          simp only [Act.put, List.setIfInBounds_toArray, List.set_cons_succ, List.set_cons_zero]
          refine wl rfl (.int .i64 ((fn % 4 : Nat) : Int)) _ (run_rem4 (.tmp 92) rfl fn rfl) ?_
          simp only [Act.put, List.setIfInBounds_toArray, List.set_cons_succ, List.set_cons_zero]
          refine wpList_callW eN25 [.tmp 91, .tmp 93] _ rfl rfl [(ptr g), (.int .i64 ((fn % 4 : Nat) : Int))] rfl ?_
          refine (PlW.fuse HS.out.st.pl ((fn % 4 : Nat) : Int) (by omega) (by omega) 0).mono ?_
          rintro e W6 ⟨rfl, c6, _, h_⟩
          refine ⟨_, rfl, ?_⟩
          have H6 : Hid (PlW w W6 c6 g (m.fuseTo ((fn % 4 : Nat) : Int)) [210] [] 105 ∧ PgO (m.fuseTo ((fn % 4 : Nat) : Int)) 0 26 L (firstU n) X) := ⟨h_.mono (by have := HS.out.le9; omega), HS.out.st.o.fused _ (by omega) (by omega)⟩
          clear h_ h4
          simp only [Act.put, List.setIfInBounds_toArray, List.set_cons_succ, List.set_cons_zero]
          refine wpList_nil ?_
          go_upto_region 22 with fail
          refine wp_region_lit ?_
          refine wl rfl (ptr g) _ (run_mvZ (.tmp 8) rfl (ptr g) rfl) ?_
          simp only [Act.put, List.setIfInBounds_toArray, List.set_cons_succ, List.set_cons_zero]
          refine wpList_callW eN11 [.tmp 95, .const (.int .i64 0)] _ rfl rfl [(ptr g), .int .i64 0] rfl ?_
          refine (PlW.formatCrash H6.out.1 (by decide) (by decide) H6.out.2).mono ?_
          rintro e W7 ⟨d, c7, m7, rfl, h_, o_⟩
          refine ⟨_, rfl, ?_⟩
          have H7 : Hid (PlW w W7 c7 g m7 [210] [] 107 ∧ ∃ L2, PgO (m7.boot ks) 0 26 L2 L2.used X ∧ ((L2.used = noneP ∧ L2.root = -1) ∨ (d = 2 ∧ L2 = L))) := ⟨h_, o_ ks⟩
          clear h_ o_ H6
          simp only [Act.put, List.setIfInBounds_toArray, List.set_cons_succ, List.set_cons_zero]
          refine wl rfl (.int .i64 d) _ (run_asZ (.tmp 96) rfl (.int .i64 d) rfl) ?_
          simp only [Act.put, List.setIfInBounds_toArray, List.set_cons_succ, List.set_cons_zero]
          refine wpList_nil ?_
          go_upto_region 23 with fail
          refine wp_region_lit ?_
          refine wl rfl (ptr g) _ (run_mvZ (.tmp 8) rfl (ptr g) rfl) ?_
          simp only [Act.put, List.setIfInBounds_toArray, List.set_cons_succ, List.set_cons_zero]
          refine wl rfl vk _ (run_mvZ (.tmp 2) rfl vk rfl) ?_
          simp only [Act.put, List.setIfInBounds_toArray, List.set_cons_succ, List.set_cons_zero]
          refine wpList_callW eN26 [.tmp 97, .tmp 98] _ rfl rfl [(ptr g), vk] rfl ?_
          refine (PlW.boot H7.out.1 (by decide) _ ks (IntsIn.keep HK.out H7.out.1.below H7.out.1.cc) 0).mono ?_
          rintro e W8 ⟨rfl, c8, _, h_⟩
          refine ⟨_, rfl, ?_⟩
          obtain ⟨L2, o_, a_⟩ := H7.out.2
          have HA : Hid ((L2.used = noneP ∧ L2.root = -1) ∨ (d = 2 ∧ 0 < n ∧ L2 = L)) := by
            rcases a_ with a_ | ⟨a1, a2⟩
            · exact Or.inl a_
            · rcases Nat.eq_zero_or_pos n with hz | hz
              · refine Or.inl ⟨?_, ?_⟩
                · rw [a2, HS.out.used, hz]; rfl
                · rw [a2, HS.out.root, hz]; rfl
              · exact Or.inr ⟨a1, hz, a2⟩
          have H8 : Hid (PlW w W8 c8 g (m7.boot ks) [210] [] 107 ∧ PgO (m7.boot ks) 0 26 L2 L2.used X) := ⟨h_, o_⟩
          clear h_ o_ a_ H7
          simp only [Act.put, List.setIfInBounds_toArray, List.set_cons_succ, List.set_cons_zero]
          refine wpList_nil ?_
          go_upto_region 24 with fail
          refine wp_region_lit ?_
          refine wl rfl (ptr g) _ (run_mvZ (.tmp 8) rfl (ptr g) rfl) ?_
          simp only [Act.put, List.setIfInBounds_toArray, List.set_cons_succ, List.set_cons_zero]
          refine wpList_callW eN13 [.tmp 101, .const (.int .i64 0)] _ rfl rfl [(ptr g), .int .i64 0] rfl ?_
          refine (PlW.openZ H8.out.1 (by decide) (by decide) H8.out.2).mono ?_
          rintro e W9 ⟨gq, rfl, b_, h_⟩
          refine ⟨_, rfl, ?_⟩
          have H9 : Hid (PgW w W9 c8 gq g (m7.boot ks) [210] [] 0 26 L2 L2.used X 107) := h_
          clear h_ b_ H8
          simp only [Act.put, List.setIfInBounds_toArray, List.set_cons_succ, List.set_cons_zero]
          refine wl rfl (.tuple #[(ptr gq), (.int .i64 0)]) _ (run_mvZ (.tmp 102) rfl (.tuple #[(ptr gq), (.int .i64 0)]) rfl) ?_
          simp only [Act.put, List.setIfInBounds_toArray, List.set_cons_succ, List.set_cons_zero]
          refine wl rfl (ptr gq) _ (run_extZ (.tmp 100) 0 rfl #[(ptr gq), (.int .i64 0)] rfl (ptr gq) rfl) ?_
          simp only [Act.put, List.setIfInBounds_toArray, List.set_cons_succ, List.set_cons_zero]
          refine wl rfl (.int .i64 0) _ (run_extZ (.tmp 100) 1 rfl #[(ptr gq), (.int .i64 0)] rfl (.int .i64 0) rfl) ?_
          simp only [Act.put, List.setIfInBounds_toArray, List.set_cons_succ, List.set_cons_zero]
          refine wl rfl (ptr gq) _ (run_asZ (.tmp 103) rfl (ptr gq) rfl) ?_
          simp only [Act.put, List.setIfInBounds_toArray, List.set_cons_succ, List.set_cons_zero]
          refine wl rfl (.int .i64 0) _ (run_asZ (.tmp 104) rfl (.int .i64 0) rfl) ?_
          simp only [Act.put, List.setIfInBounds_toArray, List.set_cons_succ, List.set_cons_zero]
          refine wpList_nil ?_
          go_upto_region 25 with fail
          refine wp_region_lit ?_
          refine wl rfl (ptr gq) _ (run_mvZ (.tmp 11) rfl (ptr gq) rfl) ?_
          simp only [Act.put, List.setIfInBounds_toArray, List.set_cons_succ, List.set_cons_zero]
          refine wl rfl (.bool false) _ (run_binOp' (.tmp 105) (.const (.pointer none)) rfl _ _ _ rfl rfl rfl (by kernel_rfl)) ?_
          simp only [Act.put, List.setIfInBounds_toArray, List.set_cons_succ, List.set_cons_zero]
          refine wl rfl (.bool false) _ (run_mvZ (.tmp 106) rfl (.bool false) rfl) ?_
          simp only [Act.put, List.setIfInBounds_toArray, List.set_cons_succ, List.set_cons_zero]
          refine wl (by kernel_rfl) (.int .i64 0) _ (run_mvZ (.tmp 12) rfl (.int .i64 0) rfl) ?_
          simp only [Act.put, List.setIfInBounds_toArray, List.set_cons_succ, List.set_cons_zero]
          refine wl (by kernel_rfl) (.bool false) _ (run_neZ (.tmp 108) (.const (.int .i64 0)) rfl (0) (0) rfl rfl false rfl) ?_
          simp only [Act.put, List.setIfInBounds_toArray, List.set_cons_succ, List.set_cons_zero]
          refine wl rfl (.bool false) _ (run_pickZ (.tmp 107) (.const (.bool true)) (.tmp 109) rfl false (.bool false) rfl rfl) ?_
          simp only [Act.put, List.setIfInBounds_toArray, List.set_cons_succ, List.set_cons_zero]
          refine wpList_nil ?_
          rcases HA.out with ⟨a1, a2⟩ | ⟨a1, a2, a3⟩
          · have hR : Hid (roomTo L2 L2.used 26 = 26) := by show _ = _; rw [a1, room_used L2 (hdU noneP) a1]; exact roomF 0
            go_upto_region 27 with fail
            refine wp_region_lit ?_
            refine wl rfl (ptr gq) _ (run_mvZ (.tmp 11) rfl (ptr gq) rfl) ?_
            simp only [Act.put, List.setIfInBounds_toArray, List.set_cons_succ, List.set_cons_zero]
            refine wpList_callW eN27 [.tmp 111] _ (by kernel_rfl) rfl [(ptr gq)] rfl ?_
            refine (show Calls Tryd.prog 27 #[ptr gq] W9 fun e W' => e = .returned (.int .i64 (-1)) ∧ W9 = W' from (by have h := H9.out.root; rw [a2] at h; exact h)).mono ?_
            rintro e W_ ⟨rfl, rfl⟩
            refine ⟨_, rfl, ?_⟩
            simp only [Act.put, List.setIfInBounds_toArray, List.set_cons_succ, List.set_cons_zero]
            refine wl rfl (.bool true) _ (run_eqZ (.tmp 112) (.const (.int .i64 (-1))) rfl (-1) (-1) rfl rfl true rfl) ?_
            simp only [Act.put, List.setIfInBounds_toArray, List.set_cons_succ, List.set_cons_zero]
            refine wl rfl (.bool true) _ (run_mvZ (.tmp 113) rfl (.bool true) rfl) ?_
            simp only [Act.put, List.setIfInBounds_toArray, List.set_cons_succ, List.set_cons_zero]
            refine wl (by kernel_rfl) (ptr gq) _ (run_mvZ (.tmp 11) rfl (ptr gq) rfl) ?_
            simp only [Act.put, List.setIfInBounds_toArray, List.set_cons_succ, List.set_cons_zero]
            refine wpList_callW eN29 [.tmp 115] _ (by kernel_rfl) rfl [(ptr gq)] rfl ?_
            refine (show Calls Tryd.prog 29 #[ptr gq] W9 fun e W' => e = .returned (.int .i64 26) ∧ Below W9.heap.size W9 W' from (by have h := H9.out.room; rw [hR.out] at h; exact h)).mono ?_
            rintro e W10 ⟨rfl, b_⟩
            refine ⟨_, rfl, ?_⟩
            have HZ : Hid (Below w.heap.size w W10) := (H9.out.bel b_).pl.below
            clear b_
            simp only [Act.put, List.setIfInBounds_toArray, List.set_cons_succ, List.set_cons_zero]
            refine wl (by kernel_rfl) (.bool true) _ (run_eqZ (.tmp 116) (.const (.int .i64 26)) rfl (26) (26) rfl rfl true rfl) ?_
            simp only [Act.put, List.setIfInBounds_toArray, List.set_cons_succ, List.set_cons_zero]
            refine wl rfl (.bool true) _ (run_pickZ (.tmp 114) (.tmp 117) (.const (.bool false)) rfl true (.bool true) rfl rfl) ?_
            simp only [Act.put, List.setIfInBounds_toArray, List.set_cons_succ, List.set_cons_zero]
            refine wpList_nil ?_
            go_wp2_with fail
            rw [HPQ.out]
            exact ⟨rfl, HZ.out⟩
          · subst a1 a3
            have hR : Hid (roomTo L2 L2.used 26 = 26 - n) := by show _ = _; rw [HS.out.used, room_used L2 (hdU (firstU n)) HS.out.used]; exact roomF ⟨n, by omega⟩
            have hd : decide ((n : Int) - 1 = -1) = false := decide_eq_false (by omega)
            go_upto_region 27 with fail
            refine wp_region_lit ?_
            refine wl rfl (ptr gq) _ (run_mvZ (.tmp 11) rfl (ptr gq) rfl) ?_
            simp only [Act.put, List.setIfInBounds_toArray, List.set_cons_succ, List.set_cons_zero]
            refine wpList_callW eN27 [.tmp 111] _ (by kernel_rfl) rfl [(ptr gq)] rfl ?_
            refine (show Calls Tryd.prog 27 #[ptr gq] W9 fun e W' => e = .returned (.int .i64 ((n : Int) - 1)) ∧ W9 = W' from (by have h := H9.out.root; rw [HS.out.root] at h; exact h)).mono ?_
            rintro e W_ ⟨rfl, rfl⟩
            refine ⟨_, rfl, ?_⟩
            simp only [Act.put, List.setIfInBounds_toArray, List.set_cons_succ, List.set_cons_zero]
            refine wl rfl (.bool false) _ (run_eqZ (.tmp 112) (.const (.int .i64 (-1))) rfl _ _ rfl rfl false hd) ?_
            simp only [Act.put, List.setIfInBounds_toArray, List.set_cons_succ, List.set_cons_zero]
            refine wl rfl (.bool false) _ (run_mvZ (.tmp 113) rfl (.bool false) rfl) ?_
            simp only [Act.put, List.setIfInBounds_toArray, List.set_cons_succ, List.set_cons_zero]
            refine wpList_skip (by kernel_rfl) ?_
            simp only [Act.put, List.setIfInBounds_toArray, List.set_cons_succ, List.set_cons_zero]
            refine wpList_skip (by kernel_rfl) ?_
            simp only [Act.put, List.setIfInBounds_toArray, List.set_cons_succ, List.set_cons_zero]
            refine wpList_skip (by kernel_rfl) ?_
            simp only [Act.put, List.setIfInBounds_toArray, List.set_cons_succ, List.set_cons_zero]
            refine wl rfl (.bool false) _ (run_pickZ (.tmp 114) (.tmp 117) (.const (.bool false)) rfl false (.bool false) rfl rfl) ?_
            simp only [Act.put, List.setIfInBounds_toArray, List.set_cons_succ, List.set_cons_zero]
            refine wpList_nil ?_
            have he : (!decide ((n : Int) - 1 = (n : Int) - 1)) = false := by rw [decide_eq_true rfl]; rfl
            have hg : (!decide (((26 - n : Nat) : Int) = ((26 - n : Nat) : Int))) = false := by rw [decide_eq_true rfl]; rfl
            go_upto_region 29 with fail
            refine wp_region_lit ?_
            refine wl rfl (.int .i64 2) _ (run_mvZ (.tmp 18) rfl (.int .i64 2) rfl) ?_
            simp only [Act.put, List.setIfInBounds_toArray, List.set_cons_succ, List.set_cons_zero]
            refine wl rfl (.bool false) _ (run_eqZ (.tmp 119) (.const (.int .i64 0)) rfl (2) (0) rfl rfl false rfl) ?_
            simp only [Act.put, List.setIfInBounds_toArray, List.set_cons_succ, List.set_cons_zero]
            refine wl rfl (.bool false) _ (run_mvZ (.tmp 120) rfl (.bool false) rfl) ?_
            simp only [Act.put, List.setIfInBounds_toArray, List.set_cons_succ, List.set_cons_zero]
            refine wl (by kernel_rfl) (ptr gq) _ (run_mvZ (.tmp 11) rfl (ptr gq) rfl) ?_
            simp only [Act.put, List.setIfInBounds_toArray, List.set_cons_succ, List.set_cons_zero]
            refine wpList_callW eN27 [.tmp 122] _ (by kernel_rfl) rfl [(ptr gq)] rfl ?_
            refine (show Calls Tryd.prog 27 #[ptr gq] W9 fun e W' => e = .returned (.int .i64 ((n : Int) - 1)) ∧ W9 = W' from (by have h := H9.out.root; rw [HS.out.root] at h; exact h)).mono ?_
            rintro e W_ ⟨rfl, rfl⟩
            refine ⟨_, rfl, ?_⟩
            simp only [Act.put, List.setIfInBounds_toArray, List.set_cons_succ, List.set_cons_zero]
            refine wl (by kernel_rfl) (.int .i64 (n : Nat)) _ (run_mvZ (.tmp 13) rfl (.int .i64 (n : Nat)) rfl) ?_
            simp only [Act.put, List.setIfInBounds_toArray, List.set_cons_succ, List.set_cons_zero]
            refine wl (by kernel_rfl) (.int .i64 ((n : Int) - 1)) _ (run_subI (.tmp 124) (.const (.int .i64 1)) rfl _ 1 ((n : Int) - 1) rfl (by omega) (by omega) rfl rfl) ?_
            simp only [Act.put, List.setIfInBounds_toArray, List.set_cons_succ, List.set_cons_zero]
            refine wl (by kernel_rfl) (.bool false) _ (run_neZ (.tmp 123) (.tmp 125) rfl _ _ rfl rfl false he) ?_
            simp only [Act.put, List.setIfInBounds_toArray, List.set_cons_succ, List.set_cons_zero]
            refine wl rfl (.bool false) _ (run_pickZ (.tmp 121) (.const (.bool true)) (.tmp 126) rfl false (.bool false) rfl rfl) ?_
            simp only [Act.put, List.setIfInBounds_toArray, List.set_cons_succ, List.set_cons_zero]
            refine wl rfl (.bool false) _ (run_mvZ (.tmp 127) rfl (.bool false) rfl) ?_
            simp only [Act.put, List.setIfInBounds_toArray, List.set_cons_succ, List.set_cons_zero]
            refine wl (by kernel_rfl) (ptr gq) _ (run_mvZ (.tmp 11) rfl (ptr gq) rfl) ?_
            simp only [Act.put, List.setIfInBounds_toArray, List.set_cons_succ, List.set_cons_zero]
            refine wpList_callW eN29 [.tmp 129] _ (by kernel_rfl) rfl [(ptr gq)] rfl ?_
            refine (show Calls Tryd.prog 29 #[ptr gq] W9 fun e W' => e = .returned (.int .i64 ((26 - n : Nat) : Int)) ∧ Below W9.heap.size W9 W' from (by have h := H9.out.room; rw [hR.out] at h; exact h)).mono ?_
            rintro e W10 ⟨rfl, b_⟩
            refine ⟨_, rfl, ?_⟩
            have H10 : Hid (PgW w W10 c8 gq g (m7.boot ks) [210] [] 0 26 L2 L2.used X 107) := H9.out.bel b_
            clear b_ H9
            simp only [Act.put, List.setIfInBounds_toArray, List.set_cons_succ, List.set_cons_zero]
            refine wl (by kernel_rfl) (.int .i64 (n : Nat)) _ (run_mvZ (.tmp 13) rfl (.int .i64 (n : Nat)) rfl) ?_
            simp only [Act.put, List.setIfInBounds_toArray, List.set_cons_succ, List.set_cons_zero]
            refine wl (by kernel_rfl) (.int .i64 ((26 - n : Nat) : Int)) _ (run_subI (.const (.int .i64 26)) (.tmp 131) rfl 26 _ ((26 - n : Nat) : Int) (by omega) (by omega) (by omega) rfl rfl) ?_
            simp only [Act.put, List.setIfInBounds_toArray, List.set_cons_succ, List.set_cons_zero]
            refine wl (by kernel_rfl) (.bool false) _ (run_neZ (.tmp 130) (.tmp 132) rfl _ _ rfl rfl false hg) ?_
            simp only [Act.put, List.setIfInBounds_toArray, List.set_cons_succ, List.set_cons_zero]
            refine wl rfl (.bool false) _ (run_pickZ (.tmp 128) (.const (.bool true)) (.tmp 133) rfl false (.bool false) rfl rfl) ?_
            simp only [Act.put, List.setIfInBounds_toArray, List.set_cons_succ, List.set_cons_zero]
            refine wpList_nil ?_
            go_upto_region 31 with fail
            refine wp_region_lit ?_
            refine wl rfl (.int .i64 0) _ (run_asZ (.const (.int .i64 0)) rfl (.int .i64 0) rfl) ?_
            simp only [Act.put, List.setIfInBounds_toArray, List.set_cons_succ, List.set_cons_zero]
            refine wpList_nil ?_
            go_upto_region 32 with fail
            refine wp_region_lit ?_
            refine wl rfl (.int .i64 0) _ (run_asZ (.const (.int .i64 0)) rfl (.int .i64 0) rfl) ?_
            simp only [Act.put, List.setIfInBounds_toArray, List.set_cons_succ, List.set_cons_zero]
            refine wpList_nil ?_
            have HX : Hid ((∀ k, k < n → X k = imOf ((oks (first.take i)).getD k []) ∧ hasP L2.used (k : Int) = true) ∧ n = (oks (first.take i)).length ∧ i ≤ 9) := by
              refine ⟨fun k hk => ⟨HS.out.img k hk, ?_⟩, HS.out.num, HS.out.le9⟩
              rw [HS.out.used]
              exact hasF ⟨n, by omega⟩ ⟨k, by omega⟩ hk
            clear hd he hg hR hn9 HS
            go_wp2_with fail
            go_loopw [19, 20] (fun vq vj W => ∃ j : Nat, vj = .int .i64 (j : Nat) ∧ vq = .int .i64 (((oks (first.take j)).length : Nat) : Int) ∧ PgW w W c8 gq g (m7.boot ks) [210] [] 0 26 L2 L2.used X 107) (fun _ vj _ => 9 - (intOf vj).toNat)
            case atStart => exact ⟨0, rfl, rfl, H10.out⟩
            case round =>
              obtain ⟨j, rfl, rfl, hst⟩ := hrel
              have HJ : Hid (PgW w wr c8 gq g (m7.boot ks) [210] [] 0 26 L2 L2.used X 107) := hst
              clear hst H10
              by_cases hj : j < n0
              · by_cases hj9 : j < 9
                · have h1 : decide ((j : Int) < (n0 : Int)) = true := decide_eq_true (by omega)
                  have h2 : decide ((j : Int) < (9 : Int)) = true := decide_eq_true (by omega)
                  go_upto_region 33 with fail
                  refine wp_region_lit ?_
                  refine wl rfl (.int .i64 (j : Nat)) _ (run_mvZ (.tmp 20) rfl (.int .i64 (j : Nat)) rfl) ?_
                  simp only [Act.put, List.setIfInBounds_toArray, List.set_cons_succ, List.set_cons_zero]
                  refine wl rfl (.slice p0 n0 cap0) _ (run_mvZ (.tmp 0) rfl (.slice p0 n0 cap0) rfl) ?_
                  simp only [Act.put, List.setIfInBounds_toArray, List.set_cons_succ, List.set_cons_zero]
                  refine wl rfl (.int .i64 (n0 : Nat)) _ (run_lenZ sl50 (.tmp 136) rfl p0 n0 cap0 rfl) ?_
                  simp only [Act.put, List.setIfInBounds_toArray, List.set_cons_succ, List.set_cons_zero]
                  refine wl rfl (.bool true) _ (run_lssZ (.tmp 135) (.tmp 137) rfl _ _ rfl rfl true h1) ?_
                  simp only [Act.put, List.setIfInBounds_toArray, List.set_cons_succ, List.set_cons_zero]
                  refine wl rfl (.bool true) _ (run_mvZ (.tmp 138) rfl (.bool true) rfl) ?_
                  simp only [Act.put, List.setIfInBounds_toArray, List.set_cons_succ, List.set_cons_zero]
                  refine wl (by kernel_rfl) (.int .i64 (j : Nat)) _ (run_mvZ (.tmp 20) rfl (.int .i64 (j : Nat)) rfl) ?_
                  simp only [Act.put, List.setIfInBounds_toArray, List.set_cons_succ, List.set_cons_zero]
                  refine wl (by kernel_rfl) (.bool true) _ (run_lssZ (.tmp 140) (.const (.int .i64 9)) rfl _ _ rfl rfl true h2) ?_
                  simp only [Act.put, List.setIfInBounds_toArray, List.set_cons_succ, List.set_cons_zero]
                  refine wl rfl (.bool true) _ (run_pickZ (.tmp 139) (.tmp 141) (.const (.bool false)) rfl true (.bool true) rfl rfl) ?_
                  simp only [Act.put, List.setIfInBounds_toArray, List.set_cons_succ, List.set_cons_zero]
                  refine wpList_nil ?_
                  obtain ⟨fb, fo, pu, cu, hp0, hul, hu⟩ := HR.out.at j (by rw [← HN.out.1]; exact hj)
                  subst hp0
                  obtain ⟨hu1, hu2⟩ := hu wr HJ.out.pl.below
                  obtain ⟨ul, hue⟩ : ∃ ul, ul = (first.getD j []).length := ⟨_, rfl⟩
                  rw [← hue] at hu1 hu2 hul
                  have HU : Hid (wr.cell? ⟨fb, fo + j, none⟩ = some (.slice pu ul cu) ∧ SliceIn wr (.slice pu ul cu) (first.getD j []) ∧ ul = (first.getD j []).length) := ⟨hu1, hu2, hue⟩
                  clear hu1 hu2 hue
                  by_cases h5 : 500 < ul
                  · have h5d : decide ((500 : Int) < (ul : Int)) = true := decide_eq_true (by omega)
                    go_upto_region 35 with fail
                    refine wp_region_lit ?_
                    refine wl rfl (.slice (some ⟨fb, fo, none⟩) n0 cap0) _ (run_mvZ (.tmp 0) rfl (.slice (some ⟨fb, fo, none⟩) n0 cap0) rfl) ?_
                    simp only [Act.put, List.setIfInBounds_toArray, List.set_cons_succ, List.set_cons_zero]
                    refine wl rfl (.int .i64 (j : Nat)) _ (run_mvZ (.tmp 20) rfl (.int .i64 (j : Nat)) rfl) ?_
                    simp only [Act.put, List.setIfInBounds_toArray, List.set_cons_succ, List.set_cons_zero]
                    refine wl rfl (.pointer (some ⟨fb, fo + j, none⟩)) _ (run_ix50 (.tmp 145) (.tmp 146) rfl fb fo n0 cap0 j rfl rfl hj) ?_
                    simp only [Act.put, List.setIfInBounds_toArray, List.set_cons_succ, List.set_cons_zero]
                    refine wl rfl (.slice pu ul cu) _ (run_load1 o38' (.tmp 147) rfl fb (fo + j) rfl (.slice pu ul cu) HU.out.1) ?_
                    simp only [Act.put, List.setIfInBounds_toArray, List.set_cons_succ, List.set_cons_zero]
                    refine wl rfl (.int .i64 (ul : Nat)) _ (run_lenZ sl38 (.tmp 148) rfl pu ul cu rfl) ?_
                    simp only [Act.put, List.setIfInBounds_toArray, List.set_cons_succ, List.set_cons_zero]
                    refine wl rfl (.bool true) _ (run_gtrZ (.tmp 149) (.const (.int .i64 500)) rfl _ _ rfl rfl true h5d) ?_
                    simp only [Act.put, List.setIfInBounds_toArray, List.set_cons_succ, List.set_cons_zero]
                    refine wpList_nil ?_
                    have HO : Hid (oks (first.take (j + 1)) = oks (first.take j)) := oks_no first j (by rw [← HN.out.1]; exact hj) (by rw [← HU.out.2.2]; exact h5)
                    clear HU
                    go_wp2_with fail
                    refine ⟨⟨j + 1, by go_num, by rw [HO.out], HJ.out⟩, ?_⟩
                    simp [intOf]; omega
                  · have h5d : decide ((500 : Int) < (ul : Int)) = false := decide_eq_false (by omega)
                    go_upto_region 35 with fail
                    refine wp_region_lit ?_
                    refine wl rfl (.slice (some ⟨fb, fo, none⟩) n0 cap0) _ (run_mvZ (.tmp 0) rfl (.slice (some ⟨fb, fo, none⟩) n0 cap0) rfl) ?_
                    simp only [Act.put, List.setIfInBounds_toArray, List.set_cons_succ, List.set_cons_zero]
                    refine wl rfl (.int .i64 (j : Nat)) _ (run_mvZ (.tmp 20) rfl (.int .i64 (j : Nat)) rfl) ?_
                    simp only [Act.put, List.setIfInBounds_toArray, List.set_cons_succ, List.set_cons_zero]
                    refine wl rfl (.pointer (some ⟨fb, fo + j, none⟩)) _ (run_ix50 (.tmp 145) (.tmp 146) rfl fb fo n0 cap0 j rfl rfl hj) ?_
                    simp only [Act.put, List.setIfInBounds_toArray, List.set_cons_succ, List.set_cons_zero]
                    refine wl rfl (.slice pu ul cu) _ (run_load1 o38' (.tmp 147) rfl fb (fo + j) rfl (.slice pu ul cu) HU.out.1) ?_
                    simp only [Act.put, List.setIfInBounds_toArray, List.set_cons_succ, List.set_cons_zero]
                    refine wl rfl (.int .i64 (ul : Nat)) _ (run_lenZ sl38 (.tmp 148) rfl pu ul cu rfl) ?_
                    simp only [Act.put, List.setIfInBounds_toArray, List.set_cons_succ, List.set_cons_zero]
                    refine wl rfl (.bool false) _ (run_gtrZ (.tmp 149) (.const (.int .i64 500)) rfl _ _ rfl rfl false h5d) ?_
                    simp only [Act.put, List.setIfInBounds_toArray, List.set_cons_succ, List.set_cons_zero]
                    refine wpList_nil ?_
                    have HO : Hid (oks (first.take (j + 1)) = oks (first.take j) ++ [first.getD j []]) := oks_ok first j (by rw [← HN.out.1]; exact hj) (by rw [← HU.out.2.2]; omega)
                    have hji := HE.out j hj hj9
                    have hat := oks_at first j (by rw [← HN.out.1]; exact hj) (by rw [← HU.out.2.2]; omega) (i - (j + 1))
                    rw [show j + 1 + (i - (j + 1)) = i by omega, ← HX.out.2.1] at hat
                    obtain ⟨k, hk⟩ : ∃ k, k = (oks (first.take j)).length := ⟨_, rfl⟩
                    rw [← hk] at hat
                    have HKK : Hid (k = (oks (first.take j)).length ∧ k ≤ 9) := ⟨hk, by have := hat.1; have := oks_len first j; omega⟩
                    have HRD : Hid (Calls Tryd.prog 28 #[ptr gq, .int .i64 (k : Nat)] wr fun e W' => ∃ v, e = .returned (.tuple #[v, .int .i64 0]) ∧ Below wr.heap.size wr W' ∧ NewB wr W' v (first.getD j [])) := by
                      have h1 := HX.out.1 k hat.1
                      refine HJ.out.readOk (by decide) (k : Int) (first.getD j []) h1.2 ?_ (by rw [← HU.out.2.2]; omega)
                      rw [Int.toNat_natCast, h1.1, hat.2]
                    rw [← hk]
                    clear hk hat hji
                    go_upto_region 36 with fail
                    refine wp_region_lit ?_
                    refine wl rfl (ptr gq) _ (run_mvZ (.tmp 11) rfl (ptr gq) rfl) ?_
                    simp only [Act.put, List.setIfInBounds_toArray, List.set_cons_succ, List.set_cons_zero]
                    refine wl rfl (.int .i64 (k : Nat)) _ (run_mvZ (.tmp 19) rfl (.int .i64 (k : Nat)) rfl) ?_
                    simp only [Act.put, List.setIfInBounds_toArray, List.set_cons_succ, List.set_cons_zero]
                    refine wpList_callW eN28 [.tmp 152, .tmp 153] _ rfl rfl [(ptr gq), (.int .i64 (k : Nat))] rfl ?_
                    refine (HRD.out).mono ?_
                    rintro e W12 ⟨rv, rfl, b_, n_⟩
                    refine ⟨_, rfl, ?_⟩
                    have HC : Hid (PgW w W12 c8 gq g (m7.boot ks) [210] [] 0 26 L2 L2.used X 107 ∧ SliceIn W12 rv (first.getD j []) ∧ W12.cell? ⟨fb, fo + j, none⟩ = some (.slice pu ul cu) ∧ SliceIn W12 (.slice pu ul cu) (first.getD j [])) := ⟨HJ.out.bel b_, n_.slice HU.out.2.1.lt256 (by rw [← HU.out.2.2]; omega), by rw [← HU.out.1]; exact World.cell?_of_block (b_.block fb (block_lt_of_cell HU.out.1)), SliceIn.later b_ HU.out.2.1⟩
                    clear b_ n_ HRD HU HJ
                    simp only [Act.put, List.setIfInBounds_toArray, List.set_cons_succ, List.set_cons_zero]
                    refine wl rfl (.tuple #[rv, (.int .i64 0)]) _ (run_mvZ (.tmp 154) rfl (.tuple #[rv, (.int .i64 0)]) rfl) ?_
                    simp only [Act.put, List.setIfInBounds_toArray, List.set_cons_succ, List.set_cons_zero]
                    refine wl rfl rv _ (run_extZ (.tmp 151) 0 rfl #[rv, (.int .i64 0)] rfl rv rfl) ?_
                    simp only [Act.put, List.setIfInBounds_toArray, List.set_cons_succ, List.set_cons_zero]
                    refine wl rfl (.int .i64 0) _ (run_extZ (.tmp 151) 1 rfl #[rv, (.int .i64 0)] rfl (.int .i64 0) rfl) ?_
                    simp only [Act.put, List.setIfInBounds_toArray, List.set_cons_succ, List.set_cons_zero]
                    refine wl rfl rv _ (run_asZ (.tmp 155) rfl rv rfl) ?_
                    simp only [Act.put, List.setIfInBounds_toArray, List.set_cons_succ, List.set_cons_zero]
                    refine wl rfl (.int .i64 0) _ (run_asZ (.tmp 156) rfl (.int .i64 0) rfl) ?_
                    simp only [Act.put, List.setIfInBounds_toArray, List.set_cons_succ, List.set_cons_zero]
                    refine wpList_nil ?_
                    go_upto_region 37 with fail
                    refine wp_region_held (S := fun X => (SliceIn X rv (first.getD j []) ∧ X.cell? ⟨fb, fo + j, none⟩ = some (.slice pu ul cu) ∧ SliceIn X (.slice pu ul cu) (first.getD j []))) (by kernel_rfl) ?_
                    show wpAnyH _ _ _ _ _ 12 (Array.replicate 12 false) _ _
                    obtain ⟨Z, hX⟩ : ∃ Z : World, Z = { W12 with drawn := W12.drawn + 1 } := ⟨_, rfl⟩
                    rw [← hX]
                    have hS : SliceIn Z rv (first.getD j []) ∧ Z.cell? ⟨fb, fo + j, none⟩ = some (.slice pu ul cu) ∧ SliceIn Z (.slice pu ul cu) (first.getD j []) := by rw [hX]; exact HC.out.2
                    have hP : PgW w Z c8 gq g (m7.boot ks) [210] [] 0 26 L2 L2.used X 107 := by rw [hX]; exact HC.out.1.bel ⟨rfl, rfl, rfl, Nat.le_refl _, fun _ _ => rfl⟩
                    clear hX
                    refine takeH (i := 0) (some 157) rfl rfl (by kernel_rfl) (by kernel_rfl) (by kernel_rfl) (fun _ _ _ h => h) (gRun rfl (.int .i64 0) fun _ h => run_mvZ (.tmp 22) rfl (.int .i64 0) rfl) hS ?_
                    simp only [Act.put, List.setIfInBounds_toArray, List.set_cons_succ, List.set_cons_zero]
                    refine takeH (i := 1) (some 158) rfl rfl (by kernel_rfl) (by kernel_rfl) (by kernel_rfl) (fun _ _ _ h => h) (gRun rfl (.bool false) fun _ h => run_neZ (.tmp 157) (.const (.int .i64 0)) rfl (0) (0) rfl rfl false rfl) hS ?_
                    simp only [Act.put, List.setIfInBounds_toArray, List.set_cons_succ, List.set_cons_zero]
                    refine takeH (i := 2) (some 159) rfl rfl (by kernel_rfl) (by kernel_rfl) (by kernel_rfl) (fun _ _ _ h => h) (gRun rfl (.bool false) fun _ h => run_mvZ (.tmp 158) rfl (.bool false) rfl) hS ?_
                    simp only [Act.put, List.setIfInBounds_toArray, List.set_cons_succ, List.set_cons_zero]
                    refine takeH (i := 3) (some 160) rfl rfl (by kernel_rfl) (by kernel_rfl) (by kernel_rfl) (fun _ _ _ h => h) (gRun (by kernel_rfl) rv fun _ h => run_mvZ (.tmp 21) rfl rv rfl) hS ?_
                    simp only [Act.put, List.setIfInBounds_toArray, List.set_cons_succ, List.set_cons_zero]
                    refine takeH (i := 4) (some 161) rfl rfl (by kernel_rfl) (by kernel_rfl) (by kernel_rfl) (fun _ _ _ h => h) (gRun (by kernel_rfl) (.string (strOfNums ((first.getD j []).map Int.ofNat))) fun _ h => run_str (.tmp 160) rfl rv (first.getD j []) rfl h.1) hS ?_
                    simp only [Act.put, List.setIfInBounds_toArray, List.set_cons_succ, List.set_cons_zero]
                    refine takeH (i := 5) (some 162) rfl rfl (by kernel_rfl) (by kernel_rfl) (by kernel_rfl) (fun _ _ _ h => h) (gRun (by kernel_rfl) (.slice (some ⟨fb, fo, none⟩) n0 cap0) fun _ h => run_mvZ (.tmp 0) rfl (.slice (some ⟨fb, fo, none⟩) n0 cap0) rfl) hS ?_
                    simp only [Act.put, List.setIfInBounds_toArray, List.set_cons_succ, List.set_cons_zero]
                    refine takeH (i := 6) (some 163) rfl rfl (by kernel_rfl) (by kernel_rfl) (by kernel_rfl) (fun _ _ _ h => h) (gRun (by kernel_rfl) (.int .i64 (j : Nat)) fun _ h => run_mvZ (.tmp 20) rfl (.int .i64 (j : Nat)) rfl) hS ?_
                    simp only [Act.put, List.setIfInBounds_toArray, List.set_cons_succ, List.set_cons_zero]
                    refine takeH (i := 7) (some 164) rfl rfl (by kernel_rfl) (by kernel_rfl) (by kernel_rfl) (fun _ _ _ h => h) (gRun (by kernel_rfl) (.pointer (some ⟨fb, fo + j, none⟩)) fun _ h => run_ix50 (.tmp 162) (.tmp 163) rfl fb fo n0 cap0 j rfl rfl hj) hS ?_
                    simp only [Act.put, List.setIfInBounds_toArray, List.set_cons_succ, List.set_cons_zero]
                    refine takeH (i := 8) (some 165) rfl rfl (by kernel_rfl) (by kernel_rfl) (by kernel_rfl) (fun _ _ _ h => h) (gRun (by kernel_rfl) (.slice pu ul cu) fun _ h => run_load1 o38' (.tmp 164) rfl fb (fo + j) rfl (.slice pu ul cu) h.2.1) hS ?_
                    simp only [Act.put, List.setIfInBounds_toArray, List.set_cons_succ, List.set_cons_zero]
                    refine takeH (i := 9) (some 166) rfl rfl (by kernel_rfl) (by kernel_rfl) (by kernel_rfl) (fun _ _ _ h => h) (gRun (by kernel_rfl) (.string (strOfNums ((first.getD j []).map Int.ofNat))) fun _ h => run_str (.tmp 165) rfl (.slice pu ul cu) (first.getD j []) rfl h.2.2) hS ?_
                    simp only [Act.put, List.setIfInBounds_toArray, List.set_cons_succ, List.set_cons_zero]
                    refine takeH (i := 10) (some 167) rfl rfl (by kernel_rfl) (by kernel_rfl) (by kernel_rfl) (fun _ _ _ h => h) (gRun (by kernel_rfl) (.bool false) fun _ h => run_neS (.tmp 161) (.tmp 166) rfl _ _ rfl rfl rfl) hS ?_
                    simp only [Act.put, List.setIfInBounds_toArray, List.set_cons_succ, List.set_cons_zero]
                    refine takeH (i := 11) (some 168) rfl rfl (by kernel_rfl) (by kernel_rfl) (by kernel_rfl) (fun _ _ _ h => h) (gRun rfl (.bool false) fun _ h => run_pickZ (.tmp 159) (.const (.bool true)) (.tmp 167) rfl false (.bool false) rfl rfl) hS ?_
                    simp only [Act.put, List.setIfInBounds_toArray, List.set_cons_succ, List.set_cons_zero]
                    refine wpAnyH_done (by kernel_rfl) ?_ _
                    have HV : Hid (PgW w Z c8 gq g (m7.boot ks) [210] [] 0 26 L2 L2.used X 107) := hP
                    clear hS hP HC
                    have hk9 := HKK.out.2
                    go_upto_region 39 with fail
                    refine wp_region_lit ?_
                    refine wl rfl (.int .i64 (k : Nat)) _ (run_mvZ (.tmp 19) rfl (.int .i64 (k : Nat)) rfl) ?_
                    simp only [Act.put, List.setIfInBounds_toArray, List.set_cons_succ, List.set_cons_zero]
                    refine wl rfl (.int .i64 ((k + 1 : Nat) : Int)) _ (run_addI (.tmp 169) (.const (.int .i64 1)) rfl _ 1 ((k + 1 : Nat) : Int) rfl (by omega) (by omega) rfl rfl) ?_
                    simp only [Act.put, List.setIfInBounds_toArray, List.set_cons_succ, List.set_cons_zero]
                    refine wl rfl (.int .i64 ((k + 1 : Nat) : Int)) _ (run_asZ (.tmp 170) rfl (.int .i64 ((k + 1 : Nat) : Int)) rfl) ?_
                    simp only [Act.put, List.setIfInBounds_toArray, List.set_cons_succ, List.set_cons_zero]
                    refine wpList_nil ?_
                    go_wp2_with fail
                    refine ⟨⟨j + 1, by go_num, by rw [HO.out, List.length_append, ← HKK.out.1]; rfl, HV.out⟩, ?_⟩
                    simp [intOf]; omega
                · have h1 : decide ((j : Int) < (n0 : Int)) = true := decide_eq_true (by omega)
                  have h2 : decide ((j : Int) < (9 : Int)) = false := decide_eq_false (by omega)
                  go_upto_region 33 with fail
                  refine wp_region_lit ?_
                  refine wl rfl (.int .i64 (j : Nat)) _ (run_mvZ (.tmp 20) rfl (.int .i64 (j : Nat)) rfl) ?_
                  simp only [Act.put, List.setIfInBounds_toArray, List.set_cons_succ, List.set_cons_zero]
                  refine wl rfl (.slice p0 n0 cap0) _ (run_mvZ (.tmp 0) rfl (.slice p0 n0 cap0) rfl) ?_
                  simp only [Act.put, List.setIfInBounds_toArray, List.set_cons_succ, List.set_cons_zero]
                  refine wl rfl (.int .i64 (n0 : Nat)) _ (run_lenZ sl50 (.tmp 136) rfl p0 n0 cap0 rfl) ?_
                  simp only [Act.put, List.setIfInBounds_toArray, List.set_cons_succ, List.set_cons_zero]
                  refine wl rfl (.bool true) _ (run_lssZ (.tmp 135) (.tmp 137) rfl _ _ rfl rfl true h1) ?_
                  simp only [Act.put, List.setIfInBounds_toArray, List.set_cons_succ, List.set_cons_zero]
                  refine wl rfl (.bool true) _ (run_mvZ (.tmp 138) rfl (.bool true) rfl) ?_
                  simp only [Act.put, List.setIfInBounds_toArray, List.set_cons_succ, List.set_cons_zero]
                  refine wl (by kernel_rfl) (.int .i64 (j : Nat)) _ (run_mvZ (.tmp 20) rfl (.int .i64 (j : Nat)) rfl) ?_
                  simp only [Act.put, List.setIfInBounds_toArray, List.set_cons_succ, List.set_cons_zero]
                  refine wl (by kernel_rfl) (.bool false) _ (run_lssZ (.tmp 140) (.const (.int .i64 9)) rfl _ _ rfl rfl false h2) ?_
                  simp only [Act.put, List.setIfInBounds_toArray, List.set_cons_succ, List.set_cons_zero]
                  refine wl rfl (.bool false) _ (run_pickZ (.tmp 139) (.tmp 141) (.const (.bool false)) rfl true (.bool false) rfl rfl) ?_
                  simp only [Act.put, List.setIfInBounds_toArray, List.set_cons_succ, List.set_cons_zero]
                  refine wpList_nil ?_
                  go_wp2_with fail
                  rw [HPQ.out]
                  exact ⟨rfl, HJ.out.pl.below⟩
              · have h1 : decide ((j : Int) < (n0 : Int)) = false := decide_eq_false (by omega)
                go_upto_region 33 with fail
                refine wp_region_lit ?_
                refine wl rfl (.int .i64 (j : Nat)) _ (run_mvZ (.tmp 20) rfl (.int .i64 (j : Nat)) rfl) ?_
                simp only [Act.put, List.setIfInBounds_toArray, List.set_cons_succ, List.set_cons_zero]
                refine wl rfl (.slice p0 n0 cap0) _ (run_mvZ (.tmp 0) rfl (.slice p0 n0 cap0) rfl) ?_
                simp only [Act.put, List.setIfInBounds_toArray, List.set_cons_succ, List.set_cons_zero]
                refine wl rfl (.int .i64 (n0 : Nat)) _ (run_lenZ sl50 (.tmp 136) rfl p0 n0 cap0 rfl) ?_
                simp only [Act.put, List.setIfInBounds_toArray, List.set_cons_succ, List.set_cons_zero]
                refine wl rfl (.bool false) _ (run_lssZ (.tmp 135) (.tmp 137) rfl _ _ rfl rfl false h1) ?_
                simp only [Act.put, List.setIfInBounds_toArray, List.set_cons_succ, List.set_cons_zero]
                refine wl rfl (.bool false) _ (run_mvZ (.tmp 138) rfl (.bool false) rfl) ?_
                simp only [Act.put, List.setIfInBounds_toArray, List.set_cons_succ, List.set_cons_zero]
                refine wpList_skip (by kernel_rfl) ?_
                simp only [Act.put, List.setIfInBounds_toArray, List.set_cons_succ, List.set_cons_zero]
                refine wpList_skip (by kernel_rfl) ?_
                simp only [Act.put, List.setIfInBounds_toArray, List.set_cons_succ, List.set_cons_zero]
                refine wl rfl (.bool false) _ (run_pickZ (.tmp 139) (.tmp 141) (.const (.bool false)) rfl false (.bool false) rfl rfl) ?_
                simp only [Act.put, List.setIfInBounds_toArray, List.set_cons_succ, List.set_cons_zero]
                refine wpList_nil ?_
                go_wp2_with fail
                rw [HPQ.out]
                exact ⟨rfl, HJ.out.pl.below⟩
        · have h2 : decide (f < 0) = false := decide_eq_false hneg
          obtain ⟨fn, hfn⟩ : ∃ fn : Nat, f = (fn : Int) := ⟨f.toNat, by omega⟩
          subst hfn
          go_upto_region 19 with fail
          refine wp_region_lit ?_
          refine wl rfl (.int .i64 (fn : Nat)) _ (run_mvZ (.tmp 1) rfl (.int .i64 (fn : Nat)) rfl) ?_
          simp only [Act.put, List.setIfInBounds_toArray, List.set_cons_succ, List.set_cons_zero]
          refine wl rfl (.bool false) _ (run_lssZ (.tmp 86) (.const (.int .i64 0)) rfl _ 0 rfl rfl false h2) ?_
          simp only [Act.put, List.setIfInBounds_toArray, List.set_cons_succ, List.set_cons_zero]
          refine wpList_nil ?_
          have hn9 := HS.out.n9
          have h4 : fn % 4 < 4 := Nat.mod_lt _ (by decide)
          go_upto_region 21 with fail
          refine wp_region_lit ?_
          refine wl rfl (ptr g) _ (run_mvZ (.tmp 8) rfl (ptr g) rfl) ?_
          simp only [Act.put, List.setIfInBounds_toArray, List.set_cons_succ, List.set_cons_zero]
          refine wl rfl (.int .i64 (fn : Nat)) _ (run_mvZ (.tmp 1) rfl (.int .i64 (fn : Nat)) rfl) ?_
          simp only [Act.put, List.setIfInBounds_toArray, List.set_cons_succ, List.set_cons_zero]
          refine wl rfl (.int .i64 ((fn % 4 : Nat) : Int)) _ (run_rem4 (.tmp 92) rfl fn rfl) ?_
          simp only [Act.put, List.setIfInBounds_toArray, List.set_cons_succ, List.set_cons_zero]
          refine wpList_callW eN25 [.tmp 91, .tmp 93] _ rfl rfl [(ptr g), (.int .i64 ((fn % 4 : Nat) : Int))] rfl ?_
          refine (PlW.fuse HS.out.st.pl ((fn % 4 : Nat) : Int) (by omega) (by omega) 0).mono ?_
          rintro e W6 ⟨rfl, c6, _, h_⟩
          refine ⟨_, rfl, ?_⟩
          have H6 : Hid (PlW w W6 c6 g (m.fuseTo ((fn % 4 : Nat) : Int)) [210] [] 105 ∧ PgO (m.fuseTo ((fn % 4 : Nat) : Int)) 0 26 L (firstU n) X) := ⟨h_.mono (by have := HS.out.le9; omega), HS.out.st.o.fused _ (by omega) (by omega)⟩
          clear h_ h4
          simp only [Act.put, List.setIfInBounds_toArray, List.set_cons_succ, List.set_cons_zero]
          refine wpList_nil ?_
          go_upto_region 22 with fail
          refine wp_region_lit ?_
          refine wl rfl (ptr g) _ (run_mvZ (.tmp 8) rfl (ptr g) rfl) ?_
          simp only [Act.put, List.setIfInBounds_toArray, List.set_cons_succ, List.set_cons_zero]
          refine wpList_callW eN11 [.tmp 95, .const (.int .i64 0)] _ rfl rfl [(ptr g), .int .i64 0] rfl ?_
          refine (PlW.formatCrash H6.out.1 (by decide) (by decide) H6.out.2).mono ?_
          rintro e W7 ⟨d, c7, m7, rfl, h_, o_⟩
          refine ⟨_, rfl, ?_⟩
          have H7 : Hid (PlW w W7 c7 g m7 [210] [] 107 ∧ ∃ L2, PgO (m7.boot ks) 0 26 L2 L2.used X ∧ ((L2.used = noneP ∧ L2.root = -1) ∨ (d = 2 ∧ L2 = L))) := ⟨h_, o_ ks⟩
          clear h_ o_ H6
          simp only [Act.put, List.setIfInBounds_toArray, List.set_cons_succ, List.set_cons_zero]
          refine wl rfl (.int .i64 d) _ (run_asZ (.tmp 96) rfl (.int .i64 d) rfl) ?_
          simp only [Act.put, List.setIfInBounds_toArray, List.set_cons_succ, List.set_cons_zero]
          refine wpList_nil ?_
          go_upto_region 23 with fail
          refine wp_region_lit ?_
          refine wl rfl (ptr g) _ (run_mvZ (.tmp 8) rfl (ptr g) rfl) ?_
          simp only [Act.put, List.setIfInBounds_toArray, List.set_cons_succ, List.set_cons_zero]
          refine wl rfl vk _ (run_mvZ (.tmp 2) rfl vk rfl) ?_
          simp only [Act.put, List.setIfInBounds_toArray, List.set_cons_succ, List.set_cons_zero]
          refine wpList_callW eN26 [.tmp 97, .tmp 98] _ rfl rfl [(ptr g), vk] rfl ?_
          refine (PlW.boot H7.out.1 (by decide) _ ks (IntsIn.keep HK.out H7.out.1.below H7.out.1.cc) 0).mono ?_
          rintro e W8 ⟨rfl, c8, _, h_⟩
          refine ⟨_, rfl, ?_⟩
          obtain ⟨L2, o_, a_⟩ := H7.out.2
          have HA : Hid ((L2.used = noneP ∧ L2.root = -1) ∨ (d = 2 ∧ 0 < n ∧ L2 = L)) := by
            rcases a_ with a_ | ⟨a1, a2⟩
            · exact Or.inl a_
            · rcases Nat.eq_zero_or_pos n with hz | hz
              · refine Or.inl ⟨?_, ?_⟩
                · rw [a2, HS.out.used, hz]; rfl
                · rw [a2, HS.out.root, hz]; rfl
              · exact Or.inr ⟨a1, hz, a2⟩
          have H8 : Hid (PlW w W8 c8 g (m7.boot ks) [210] [] 107 ∧ PgO (m7.boot ks) 0 26 L2 L2.used X) := ⟨h_, o_⟩
          clear h_ o_ a_ H7
          simp only [Act.put, List.setIfInBounds_toArray, List.set_cons_succ, List.set_cons_zero]
          refine wpList_nil ?_
          go_upto_region 24 with fail
          refine wp_region_lit ?_
          refine wl rfl (ptr g) _ (run_mvZ (.tmp 8) rfl (ptr g) rfl) ?_
          simp only [Act.put, List.setIfInBounds_toArray, List.set_cons_succ, List.set_cons_zero]
          refine wpList_callW eN13 [.tmp 101, .const (.int .i64 0)] _ rfl rfl [(ptr g), .int .i64 0] rfl ?_
          refine (PlW.openZ H8.out.1 (by decide) (by decide) H8.out.2).mono ?_
          rintro e W9 ⟨gq, rfl, b_, h_⟩
          refine ⟨_, rfl, ?_⟩
          have H9 : Hid (PgW w W9 c8 gq g (m7.boot ks) [210] [] 0 26 L2 L2.used X 107) := h_
          clear h_ b_ H8
          simp only [Act.put, List.setIfInBounds_toArray, List.set_cons_succ, List.set_cons_zero]
          refine wl rfl (.tuple #[(ptr gq), (.int .i64 0)]) _ (run_mvZ (.tmp 102) rfl (.tuple #[(ptr gq), (.int .i64 0)]) rfl) ?_
          simp only [Act.put, List.setIfInBounds_toArray, List.set_cons_succ, List.set_cons_zero]
          refine wl rfl (ptr gq) _ (run_extZ (.tmp 100) 0 rfl #[(ptr gq), (.int .i64 0)] rfl (ptr gq) rfl) ?_
          simp only [Act.put, List.setIfInBounds_toArray, List.set_cons_succ, List.set_cons_zero]
          refine wl rfl (.int .i64 0) _ (run_extZ (.tmp 100) 1 rfl #[(ptr gq), (.int .i64 0)] rfl (.int .i64 0) rfl) ?_
          simp only [Act.put, List.setIfInBounds_toArray, List.set_cons_succ, List.set_cons_zero]
          refine wl rfl (ptr gq) _ (run_asZ (.tmp 103) rfl (ptr gq) rfl) ?_
          simp only [Act.put, List.setIfInBounds_toArray, List.set_cons_succ, List.set_cons_zero]
          refine wl rfl (.int .i64 0) _ (run_asZ (.tmp 104) rfl (.int .i64 0) rfl) ?_
          simp only [Act.put, List.setIfInBounds_toArray, List.set_cons_succ, List.set_cons_zero]
          refine wpList_nil ?_
          go_upto_region 25 with fail
          refine wp_region_lit ?_
          refine wl rfl (ptr gq) _ (run_mvZ (.tmp 11) rfl (ptr gq) rfl) ?_
          simp only [Act.put, List.setIfInBounds_toArray, List.set_cons_succ, List.set_cons_zero]
          refine wl rfl (.bool false) _ (run_binOp' (.tmp 105) (.const (.pointer none)) rfl _ _ _ rfl rfl rfl (by kernel_rfl)) ?_
          simp only [Act.put, List.setIfInBounds_toArray, List.set_cons_succ, List.set_cons_zero]
          refine wl rfl (.bool false) _ (run_mvZ (.tmp 106) rfl (.bool false) rfl) ?_
          simp only [Act.put, List.setIfInBounds_toArray, List.set_cons_succ, List.set_cons_zero]
          refine wl (by kernel_rfl) (.int .i64 0) _ (run_mvZ (.tmp 12) rfl (.int .i64 0) rfl) ?_
          simp only [Act.put, List.setIfInBounds_toArray, List.set_cons_succ, List.set_cons_zero]
          refine wl (by kernel_rfl) (.bool false) _ (run_neZ (.tmp 108) (.const (.int .i64 0)) rfl (0) (0) rfl rfl false rfl) ?_
          simp only [Act.put, List.setIfInBounds_toArray, List.set_cons_succ, List.set_cons_zero]
          refine wl rfl (.bool false) _ (run_pickZ (.tmp 107) (.const (.bool true)) (.tmp 109) rfl false (.bool false) rfl rfl) ?_
          simp only [Act.put, List.setIfInBounds_toArray, List.set_cons_succ, List.set_cons_zero]
          refine wpList_nil ?_
          rcases HA.out with ⟨a1, a2⟩ | ⟨a1, a2, a3⟩
          · have hR : Hid (roomTo L2 L2.used 26 = 26) := by show _ = _; rw [a1, room_used L2 (hdU noneP) a1]; exact roomF 0
            go_upto_region 27 with fail
            refine wp_region_lit ?_
            refine wl rfl (ptr gq) _ (run_mvZ (.tmp 11) rfl (ptr gq) rfl) ?_
            simp only [Act.put, List.setIfInBounds_toArray, List.set_cons_succ, List.set_cons_zero]
            refine wpList_callW eN27 [.tmp 111] _ (by kernel_rfl) rfl [(ptr gq)] rfl ?_
            refine (show Calls Tryd.prog 27 #[ptr gq] W9 fun e W' => e = .returned (.int .i64 (-1)) ∧ W9 = W' from (by have h := H9.out.root; rw [a2] at h; exact h)).mono ?_
            rintro e W_ ⟨rfl, rfl⟩
            refine ⟨_, rfl, ?_⟩
            simp only [Act.put, List.setIfInBounds_toArray, List.set_cons_succ, List.set_cons_zero]
            refine wl rfl (.bool true) _ (run_eqZ (.tmp 112) (.const (.int .i64 (-1))) rfl (-1) (-1) rfl rfl true rfl) ?_
            simp only [Act.put, List.setIfInBounds_toArray, List.set_cons_succ, List.set_cons_zero]
            refine wl rfl (.bool true) _ (run_mvZ (.tmp 113) rfl (.bool true) rfl) ?_
            simp only [Act.put, List.setIfInBounds_toArray, List.set_cons_succ, List.set_cons_zero]
            refine wl (by kernel_rfl) (ptr gq) _ (run_mvZ (.tmp 11) rfl (ptr gq) rfl) ?_
            simp only [Act.put, List.setIfInBounds_toArray, List.set_cons_succ, List.set_cons_zero]
            refine wpList_callW eN29 [.tmp 115] _ (by kernel_rfl) rfl [(ptr gq)] rfl ?_
            refine (show Calls Tryd.prog 29 #[ptr gq] W9 fun e W' => e = .returned (.int .i64 26) ∧ Below W9.heap.size W9 W' from (by have h := H9.out.room; rw [hR.out] at h; exact h)).mono ?_
            rintro e W10 ⟨rfl, b_⟩
            refine ⟨_, rfl, ?_⟩
            have HZ : Hid (Below w.heap.size w W10) := (H9.out.bel b_).pl.below
            clear b_
            simp only [Act.put, List.setIfInBounds_toArray, List.set_cons_succ, List.set_cons_zero]
            refine wl (by kernel_rfl) (.bool true) _ (run_eqZ (.tmp 116) (.const (.int .i64 26)) rfl (26) (26) rfl rfl true rfl) ?_
            simp only [Act.put, List.setIfInBounds_toArray, List.set_cons_succ, List.set_cons_zero]
            refine wl rfl (.bool true) _ (run_pickZ (.tmp 114) (.tmp 117) (.const (.bool false)) rfl true (.bool true) rfl rfl) ?_
            simp only [Act.put, List.setIfInBounds_toArray, List.set_cons_succ, List.set_cons_zero]
            refine wpList_nil ?_
            go_wp2_with fail
            rw [HPQ.out]
            exact ⟨rfl, HZ.out⟩
          · subst a1 a3
            have hR : Hid (roomTo L2 L2.used 26 = 26 - n) := by show _ = _; rw [HS.out.used, room_used L2 (hdU (firstU n)) HS.out.used]; exact roomF ⟨n, by omega⟩
            have hd : decide ((n : Int) - 1 = -1) = false := decide_eq_false (by omega)
            go_upto_region 27 with fail
            refine wp_region_lit ?_
            refine wl rfl (ptr gq) _ (run_mvZ (.tmp 11) rfl (ptr gq) rfl) ?_
            simp only [Act.put, List.setIfInBounds_toArray, List.set_cons_succ, List.set_cons_zero]
            refine wpList_callW eN27 [.tmp 111] _ (by kernel_rfl) rfl [(ptr gq)] rfl ?_
            refine (show Calls Tryd.prog 27 #[ptr gq] W9 fun e W' => e = .returned (.int .i64 ((n : Int) - 1)) ∧ W9 = W' from (by have h := H9.out.root; rw [HS.out.root] at h; exact h)).mono ?_
            rintro e W_ ⟨rfl, rfl⟩
            refine ⟨_, rfl, ?_⟩
            simp only [Act.put, List.setIfInBounds_toArray, List.set_cons_succ, List.set_cons_zero]
            refine wl rfl (.bool false) _ (run_eqZ (.tmp 112) (.const (.int .i64 (-1))) rfl _ _ rfl rfl false hd) ?_
            simp only [Act.put, List.setIfInBounds_toArray, List.set_cons_succ, List.set_cons_zero]
            refine wl rfl (.bool false) _ (run_mvZ (.tmp 113) rfl (.bool false) rfl) ?_
            simp only [Act.put, List.setIfInBounds_toArray, List.set_cons_succ, List.set_cons_zero]
            refine wpList_skip (by kernel_rfl) ?_
            simp only [Act.put, List.setIfInBounds_toArray, List.set_cons_succ, List.set_cons_zero]
            refine wpList_skip (by kernel_rfl) ?_
            simp only [Act.put, List.setIfInBounds_toArray, List.set_cons_succ, List.set_cons_zero]
            refine wpList_skip (by kernel_rfl) ?_
            simp only [Act.put, List.setIfInBounds_toArray, List.set_cons_succ, List.set_cons_zero]
            refine wl rfl (.bool false) _ (run_pickZ (.tmp 114) (.tmp 117) (.const (.bool false)) rfl false (.bool false) rfl rfl) ?_
            simp only [Act.put, List.setIfInBounds_toArray, List.set_cons_succ, List.set_cons_zero]
            refine wpList_nil ?_
            have he : (!decide ((n : Int) - 1 = (n : Int) - 1)) = false := by rw [decide_eq_true rfl]; rfl
            have hg : (!decide (((26 - n : Nat) : Int) = ((26 - n : Nat) : Int))) = false := by rw [decide_eq_true rfl]; rfl
            go_upto_region 29 with fail
            refine wp_region_lit ?_
            refine wl rfl (.int .i64 2) _ (run_mvZ (.tmp 18) rfl (.int .i64 2) rfl) ?_
            simp only [Act.put, List.setIfInBounds_toArray, List.set_cons_succ, List.set_cons_zero]
            refine wl rfl (.bool false) _ (run_eqZ (.tmp 119) (.const (.int .i64 0)) rfl (2) (0) rfl rfl false rfl) ?_
            simp only [Act.put, List.setIfInBounds_toArray, List.set_cons_succ, List.set_cons_zero]
            refine wl rfl (.bool false) _ (run_mvZ (.tmp 120) rfl (.bool false) rfl) ?_
            simp only [Act.put, List.setIfInBounds_toArray, List.set_cons_succ, List.set_cons_zero]
            refine wl (by kernel_rfl) (ptr gq) _ (run_mvZ (.tmp 11) rfl (ptr gq) rfl) ?_
            simp only [Act.put, List.setIfInBounds_toArray, List.set_cons_succ, List.set_cons_zero]
            refine wpList_callW eN27 [.tmp 122] _ (by kernel_rfl) rfl [(ptr gq)] rfl ?_
            refine (show Calls Tryd.prog 27 #[ptr gq] W9 fun e W' => e = .returned (.int .i64 ((n : Int) - 1)) ∧ W9 = W' from (by have h := H9.out.root; rw [HS.out.root] at h; exact h)).mono ?_
            rintro e W_ ⟨rfl, rfl⟩
            refine ⟨_, rfl, ?_⟩
            simp only [Act.put, List.setIfInBounds_toArray, List.set_cons_succ, List.set_cons_zero]
            refine wl (by kernel_rfl) (.int .i64 (n : Nat)) _ (run_mvZ (.tmp 13) rfl (.int .i64 (n : Nat)) rfl) ?_
            simp only [Act.put, List.setIfInBounds_toArray, List.set_cons_succ, List.set_cons_zero]
            refine wl (by kernel_rfl) (.int .i64 ((n : Int) - 1)) _ (run_subI (.tmp 124) (.const (.int .i64 1)) rfl _ 1 ((n : Int) - 1) rfl (by omega) (by omega) rfl rfl) ?_
            simp only [Act.put, List.setIfInBounds_toArray, List.set_cons_succ, List.set_cons_zero]
            refine wl (by kernel_rfl) (.bool false) _ (run_neZ (.tmp 123) (.tmp 125) rfl _ _ rfl rfl false he) ?_
            simp only [Act.put, List.setIfInBounds_toArray, List.set_cons_succ, List.set_cons_zero]
            refine wl rfl (.bool false) _ (run_pickZ (.tmp 121) (.const (.bool true)) (.tmp 126) rfl false (.bool false) rfl rfl) ?_
            simp only [Act.put, List.setIfInBounds_toArray, List.set_cons_succ, List.set_cons_zero]
            refine wl rfl (.bool false) _ (run_mvZ (.tmp 127) rfl (.bool false) rfl) ?_
            simp only [Act.put, List.setIfInBounds_toArray, List.set_cons_succ, List.set_cons_zero]
            refine wl (by kernel_rfl) (ptr gq) _ (run_mvZ (.tmp 11) rfl (ptr gq) rfl) ?_
            simp only [Act.put, List.setIfInBounds_toArray, List.set_cons_succ, List.set_cons_zero]
            refine wpList_callW eN29 [.tmp 129] _ (by kernel_rfl) rfl [(ptr gq)] rfl ?_
            refine (show Calls Tryd.prog 29 #[ptr gq] W9 fun e W' => e = .returned (.int .i64 ((26 - n : Nat) : Int)) ∧ Below W9.heap.size W9 W' from (by have h := H9.out.room; rw [hR.out] at h; exact h)).mono ?_
            rintro e W10 ⟨rfl, b_⟩
            refine ⟨_, rfl, ?_⟩
            have H10 : Hid (PgW w W10 c8 gq g (m7.boot ks) [210] [] 0 26 L2 L2.used X 107) := H9.out.bel b_
            clear b_ H9
            simp only [Act.put, List.setIfInBounds_toArray, List.set_cons_succ, List.set_cons_zero]
            refine wl (by kernel_rfl) (.int .i64 (n : Nat)) _ (run_mvZ (.tmp 13) rfl (.int .i64 (n : Nat)) rfl) ?_
            simp only [Act.put, List.setIfInBounds_toArray, List.set_cons_succ, List.set_cons_zero]
            refine wl (by kernel_rfl) (.int .i64 ((26 - n : Nat) : Int)) _ (run_subI (.const (.int .i64 26)) (.tmp 131) rfl 26 _ ((26 - n : Nat) : Int) (by omega) (by omega) (by omega) rfl rfl) ?_
            simp only [Act.put, List.setIfInBounds_toArray, List.set_cons_succ, List.set_cons_zero]
            refine wl (by kernel_rfl) (.bool false) _ (run_neZ (.tmp 130) (.tmp 132) rfl _ _ rfl rfl false hg) ?_
            simp only [Act.put, List.setIfInBounds_toArray, List.set_cons_succ, List.set_cons_zero]
            refine wl rfl (.bool false) _ (run_pickZ (.tmp 128) (.const (.bool true)) (.tmp 133) rfl false (.bool false) rfl rfl) ?_
            simp only [Act.put, List.setIfInBounds_toArray, List.set_cons_succ, List.set_cons_zero]
            refine wpList_nil ?_
            go_upto_region 31 with fail
            refine wp_region_lit ?_
            refine wl rfl (.int .i64 0) _ (run_asZ (.const (.int .i64 0)) rfl (.int .i64 0) rfl) ?_
            simp only [Act.put, List.setIfInBounds_toArray, List.set_cons_succ, List.set_cons_zero]
            refine wpList_nil ?_
            go_upto_region 32 with fail
            refine wp_region_lit ?_
            refine wl rfl (.int .i64 0) _ (run_asZ (.const (.int .i64 0)) rfl (.int .i64 0) rfl) ?_
            simp only [Act.put, List.setIfInBounds_toArray, List.set_cons_succ, List.set_cons_zero]
            refine wpList_nil ?_
            have HX : Hid ((∀ k, k < n → X k = imOf ((oks (first.take i)).getD k []) ∧ hasP L2.used (k : Int) = true) ∧ n = (oks (first.take i)).length ∧ i ≤ 9) := by
              refine ⟨fun k hk => ⟨HS.out.img k hk, ?_⟩, HS.out.num, HS.out.le9⟩
              rw [HS.out.used]
              exact hasF ⟨n, by omega⟩ ⟨k, by omega⟩ hk
            clear hd he hg hR hn9 HS
            go_wp2_with fail
            go_loopw [19, 20] (fun vq vj W => ∃ j : Nat, vj = .int .i64 (j : Nat) ∧ vq = .int .i64 (((oks (first.take j)).length : Nat) : Int) ∧ PgW w W c8 gq g (m7.boot ks) [210] [] 0 26 L2 L2.used X 107) (fun _ vj _ => 9 - (intOf vj).toNat)
            case atStart => exact ⟨0, rfl, rfl, H10.out⟩
            case round =>
              obtain ⟨j, rfl, rfl, hst⟩ := hrel
              have HJ : Hid (PgW w wr c8 gq g (m7.boot ks) [210] [] 0 26 L2 L2.used X 107) := hst
              clear hst H10
              by_cases hj : j < n0
              · by_cases hj9 : j < 9
                · have h1 : decide ((j : Int) < (n0 : Int)) = true := decide_eq_true (by omega)
                  have h2 : decide ((j : Int) < (9 : Int)) = true := decide_eq_true (by omega)
                  go_upto_region 33 with fail
                  refine wp_region_lit ?_
                  refine wl rfl (.int .i64 (j : Nat)) _ (run_mvZ (.tmp 20) rfl (.int .i64 (j : Nat)) rfl) ?_
                  simp only [Act.put, List.setIfInBounds_toArray, List.set_cons_succ, List.set_cons_zero]
                  refine wl rfl (.slice p0 n0 cap0) _ (run_mvZ (.tmp 0) rfl (.slice p0 n0 cap0) rfl) ?_
                  simp only [Act.put, List.setIfInBounds_toArray, List.set_cons_succ, List.set_cons_zero]
                  refine wl rfl (.int .i64 (n0 : Nat)) _ (run_lenZ sl50 (.tmp 136) rfl p0 n0 cap0 rfl) ?_
                  simp only [Act.put, List.setIfInBounds_toArray, List.set_cons_succ, List.set_cons_zero]
                  refine wl rfl (.bool true) _ (run_lssZ (.tmp 135) (.tmp 137) rfl _ _ rfl rfl true h1) ?_
                  simp only [Act.put, List.setIfInBounds_toArray, List.set_cons_succ, List.set_cons_zero]
                  refine wl rfl (.bool true) _ (run_mvZ (.tmp 138) rfl (.bool true) rfl) ?_
                  simp only [Act.put, List.setIfInBounds_toArray, List.set_cons_succ, List.set_cons_zero]
                  refine wl (by kernel_rfl) (.int .i64 (j : Nat)) _ (run_mvZ (.tmp 20) rfl (.int .i64 (j : Nat)) rfl) ?_
                  simp only [Act.put, List.setIfInBounds_toArray, List.set_cons_succ, List.set_cons_zero]
                  refine wl (by kernel_rfl) (.bool true) _ (run_lssZ (.tmp 140) (.const (.int .i64 9)) rfl _ _ rfl rfl true h2) ?_
                  simp only [Act.put, List.setIfInBounds_toArray, List.set_cons_succ, List.set_cons_zero]
                  refine wl rfl (.bool true) _ (run_pickZ (.tmp 139) (.tmp 141) (.const (.bool false)) rfl true (.bool true) rfl rfl) ?_
                  simp only [Act.put, List.setIfInBounds_toArray, List.set_cons_succ, List.set_cons_zero]
                  refine wpList_nil ?_
                  obtain ⟨fb, fo, pu, cu, hp0, hul, hu⟩ := HR.out.at j (by rw [← HN.out.1]; exact hj)
                  subst hp0
                  obtain ⟨hu1, hu2⟩ := hu wr HJ.out.pl.below
                  obtain ⟨ul, hue⟩ : ∃ ul, ul = (first.getD j []).length := ⟨_, rfl⟩
                  rw [← hue] at hu1 hu2 hul
                  have HU : Hid (wr.cell? ⟨fb, fo + j, none⟩ = some (.slice pu ul cu) ∧ SliceIn wr (.slice pu ul cu) (first.getD j []) ∧ ul = (first.getD j []).length) := ⟨hu1, hu2, hue⟩
                  clear hu1 hu2 hue
                  by_cases h5 : 500 < ul
                  · have h5d : decide ((500 : Int) < (ul : Int)) = true := decide_eq_true (by omega)
                    go_upto_region 35 with fail
                    refine wp_region_lit ?_
                    refine wl rfl (.slice (some ⟨fb, fo, none⟩) n0 cap0) _ (run_mvZ (.tmp 0) rfl (.slice (some ⟨fb, fo, none⟩) n0 cap0) rfl) ?_
                    simp only [Act.put, List.setIfInBounds_toArray, List.set_cons_succ, List.set_cons_zero]
                    refine wl rfl (.int .i64 (j : Nat)) _ (run_mvZ (.tmp 20) rfl (.int .i64 (j : Nat)) rfl) ?_
                    simp only [Act.put, List.setIfInBounds_toArray, List.set_cons_succ, List.set_cons_zero]
                    refine wl rfl (.pointer (some ⟨fb, fo + j, none⟩)) _ (run_ix50 (.tmp 145) (.tmp 146) rfl fb fo n0 cap0 j rfl rfl hj) ?_
                    simp only [Act.put, List.setIfInBounds_toArray, List.set_cons_succ, List.set_cons_zero]
                    refine wl rfl (.slice pu ul cu) _ (run_load1 o38' (.tmp 147) rfl fb (fo + j) rfl (.slice pu ul cu) HU.out.1) ?_
                    simp only [Act.put, List.setIfInBounds_toArray, List.set_cons_succ, List.set_cons_zero]
                    refine wl rfl (.int .i64 (ul : Nat)) _ (run_lenZ sl38 (.tmp 148) rfl pu ul cu rfl) ?_
                    simp only [Act.put, List.setIfInBounds_toArray, List.set_cons_succ, List.set_cons_zero]
                    refine wl rfl (.bool true) _ (run_gtrZ (.tmp 149) (.const (.int .i64 500)) rfl _ _ rfl rfl true h5d) ?_
                    simp only [Act.put, List.setIfInBounds_toArray, List.set_cons_succ, List.set_cons_zero]
                    refine wpList_nil ?_
                    have HO : Hid (oks (first.take (j + 1)) = oks (first.take j)) := oks_no first j (by rw [← HN.out.1]; exact hj) (by rw [← HU.out.2.2]; exact h5)
                    clear HU
                    go_wp2_with fail
                    refine ⟨⟨j + 1, by go_num, by rw [HO.out], HJ.out⟩, ?_⟩
                    simp [intOf]; omega
                  · have h5d : decide ((500 : Int) < (ul : Int)) = false := decide_eq_false (by omega)
                    go_upto_region 35 with fail
                    refine wp_region_lit ?_
                    refine wl rfl (.slice (some ⟨fb, fo, none⟩) n0 cap0) _ (run_mvZ (.tmp 0) rfl (.slice (some ⟨fb, fo, none⟩) n0 cap0) rfl) ?_
                    simp only [Act.put, List.setIfInBounds_toArray, List.set_cons_succ, List.set_cons_zero]
                    refine wl rfl (.int .i64 (j : Nat)) _ (run_mvZ (.tmp 20) rfl (.int .i64 (j : Nat)) rfl) ?_
                    simp only [Act.put, List.setIfInBounds_toArray, List.set_cons_succ, List.set_cons_zero]
                    refine wl rfl (.pointer (some ⟨fb, fo + j, none⟩)) _ (run_ix50 (.tmp 145) (.tmp 146) rfl fb fo n0 cap0 j rfl rfl hj) ?_
                    simp only [Act.put, List.setIfInBounds_toArray, List.set_cons_succ, List.set_cons_zero]
                    refine wl rfl (.slice pu ul cu) _ (run_load1 o38' (.tmp 147) rfl fb (fo + j) rfl (.slice pu ul cu) HU.out.1) ?_
                    simp only [Act.put, List.setIfInBounds_toArray, List.set_cons_succ, List.set_cons_zero]
                    refine wl rfl (.int .i64 (ul : Nat)) _ (run_lenZ sl38 (.tmp 148) rfl pu ul cu rfl) ?_
                    simp only [Act.put, List.setIfInBounds_toArray, List.set_cons_succ, List.set_cons_zero]
                    refine wl rfl (.bool false) _ (run_gtrZ (.tmp 149) (.const (.int .i64 500)) rfl _ _ rfl rfl false h5d) ?_
                    simp only [Act.put, List.setIfInBounds_toArray, List.set_cons_succ, List.set_cons_zero]
                    refine wpList_nil ?_
                    have HO : Hid (oks (first.take (j + 1)) = oks (first.take j) ++ [first.getD j []]) := oks_ok first j (by rw [← HN.out.1]; exact hj) (by rw [← HU.out.2.2]; omega)
                    have hji := HE.out j hj hj9
                    have hat := oks_at first j (by rw [← HN.out.1]; exact hj) (by rw [← HU.out.2.2]; omega) (i - (j + 1))
                    rw [show j + 1 + (i - (j + 1)) = i by omega, ← HX.out.2.1] at hat
                    obtain ⟨k, hk⟩ : ∃ k, k = (oks (first.take j)).length := ⟨_, rfl⟩
                    rw [← hk] at hat
                    have HKK : Hid (k = (oks (first.take j)).length ∧ k ≤ 9) := ⟨hk, by have := hat.1; have := oks_len first j; omega⟩
                    have HRD : Hid (Calls Tryd.prog 28 #[ptr gq, .int .i64 (k : Nat)] wr fun e W' => ∃ v, e = .returned (.tuple #[v, .int .i64 0]) ∧ Below wr.heap.size wr W' ∧ NewB wr W' v (first.getD j [])) := by
                      have h1 := HX.out.1 k hat.1
                      refine HJ.out.readOk (by decide) (k : Int) (first.getD j []) h1.2 ?_ (by rw [← HU.out.2.2]; omega)
                      rw [Int.toNat_natCast, h1.1, hat.2]
                    rw [← hk]
                    clear hk hat hji
                    go_upto_region 36 with fail
                    refine wp_region_lit ?_
                    refine wl rfl (ptr gq) _ (run_mvZ (.tmp 11) rfl (ptr gq) rfl) ?_
                    simp only [Act.put, List.setIfInBounds_toArray, List.set_cons_succ, List.set_cons_zero]
                    refine wl rfl (.int .i64 (k : Nat)) _ (run_mvZ (.tmp 19) rfl (.int .i64 (k : Nat)) rfl) ?_
                    simp only [Act.put, List.setIfInBounds_toArray, List.set_cons_succ, List.set_cons_zero]
                    refine wpList_callW eN28 [.tmp 152, .tmp 153] _ rfl rfl [(ptr gq), (.int .i64 (k : Nat))] rfl ?_
                    refine (HRD.out).mono ?_
                    rintro e W12 ⟨rv, rfl, b_, n_⟩
                    refine ⟨_, rfl, ?_⟩
                    have HC : Hid (PgW w W12 c8 gq g (m7.boot ks) [210] [] 0 26 L2 L2.used X 107 ∧ SliceIn W12 rv (first.getD j []) ∧ W12.cell? ⟨fb, fo + j, none⟩ = some (.slice pu ul cu) ∧ SliceIn W12 (.slice pu ul cu) (first.getD j [])) := ⟨HJ.out.bel b_, n_.slice HU.out.2.1.lt256 (by rw [← HU.out.2.2]; omega), by rw [← HU.out.1]; exact World.cell?_of_block (b_.block fb (block_lt_of_cell HU.out.1)), SliceIn.later b_ HU.out.2.1⟩
                    clear b_ n_ HRD HU HJ
                    simp only [Act.put, List.setIfInBounds_toArray, List.set_cons_succ, List.set_cons_zero]
                    refine wl rfl (.tuple #[rv, (.int .i64 0)]) _ (run_mvZ (.tmp 154) rfl (.tuple #[rv, (.int .i64 0)]) rfl) ?_
                    simp only [Act.put, List.setIfInBounds_toArray, List.set_cons_succ, List.set_cons_zero]
                    refine wl rfl rv _ (run_extZ (.tmp 151) 0 rfl #[rv, (.int .i64 0)] rfl rv rfl) ?_
                    simp only [Act.put, List.setIfInBounds_toArray, List.set_cons_succ, List.set_cons_zero]
                    refine wl rfl (.int .i64 0) _ (run_extZ (.tmp 151) 1 rfl #[rv, (.int .i64 0)] rfl (.int .i64 0) rfl) ?_
                    simp only [Act.put, List.setIfInBounds_toArray, List.set_cons_succ, List.set_cons_zero]
                    refine wl rfl rv _ (run_asZ (.tmp 155) rfl rv rfl) ?_
                    simp only [Act.put, List.setIfInBounds_toArray, List.set_cons_succ, List.set_cons_zero]
                    refine wl rfl (.int .i64 0) _ (run_asZ (.tmp 156) rfl (.int .i64 0) rfl) ?_
                    simp only [Act.put, List.setIfInBounds_toArray, List.set_cons_succ, List.set_cons_zero]
                    refine wpList_nil ?_
                    go_upto_region 37 with fail
                    refine wp_region_held (S := fun X => (SliceIn X rv (first.getD j []) ∧ X.cell? ⟨fb, fo + j, none⟩ = some (.slice pu ul cu) ∧ SliceIn X (.slice pu ul cu) (first.getD j []))) (by kernel_rfl) ?_
                    show wpAnyH _ _ _ _ _ 12 (Array.replicate 12 false) _ _
                    obtain ⟨Z, hX⟩ : ∃ Z : World, Z = { W12 with drawn := W12.drawn + 1 } := ⟨_, rfl⟩
                    rw [← hX]
                    have hS : SliceIn Z rv (first.getD j []) ∧ Z.cell? ⟨fb, fo + j, none⟩ = some (.slice pu ul cu) ∧ SliceIn Z (.slice pu ul cu) (first.getD j []) := by rw [hX]; exact HC.out.2
                    have hP : PgW w Z c8 gq g (m7.boot ks) [210] [] 0 26 L2 L2.used X 107 := by rw [hX]; exact HC.out.1.bel ⟨rfl, rfl, rfl, Nat.le_refl _, fun _ _ => rfl⟩
                    clear hX
                    refine takeH (i := 0) (some 157) rfl rfl (by kernel_rfl) (by kernel_rfl) (by kernel_rfl) (fun _ _ _ h => h) (gRun rfl (.int .i64 0) fun _ h => run_mvZ (.tmp 22) rfl (.int .i64 0) rfl) hS ?_
                    simp only [Act.put, List.setIfInBounds_toArray, List.set_cons_succ, List.set_cons_zero]
                    refine takeH (i := 1) (some 158) rfl rfl (by kernel_rfl) (by kernel_rfl) (by kernel_rfl) (fun _ _ _ h => h) (gRun rfl (.bool false) fun _ h => run_neZ (.tmp 157) (.const (.int .i64 0)) rfl (0) (0) rfl rfl false rfl) hS ?_
                    simp only [Act.put, List.setIfInBounds_toArray, List.set_cons_succ, List.set_cons_zero]
                    refine takeH (i := 2) (some 159) rfl rfl (by kernel_rfl) (by kernel_rfl) (by kernel_rfl) (fun _ _ _ h => h) (gRun rfl (.bool false) fun _ h => run_mvZ (.tmp 158) rfl (.bool false) rfl) hS ?_
                    simp only [Act.put, List.setIfInBounds_toArray, List.set_cons_succ, List.set_cons_zero]
                    refine takeH (i := 3) (some 160) rfl rfl (by kernel_rfl) (by kernel_rfl) (by kernel_rfl) (fun _ _ _ h => h) (gRun (by kernel_rfl) rv fun _ h => run_mvZ (.tmp 21) rfl rv rfl) hS ?_
                    simp only [Act.put, List.setIfInBounds_toArray, List.set_cons_succ, List.set_cons_zero]
                    refine takeH (i := 4) (some 161) rfl rfl (by kernel_rfl) (by kernel_rfl) (by kernel_rfl) (fun _ _ _ h => h) (gRun (by kernel_rfl) (.string (strOfNums ((first.getD j []).map Int.ofNat))) fun _ h => run_str (.tmp 160) rfl rv (first.getD j []) rfl h.1) hS ?_
                    simp only [Act.put, List.setIfInBounds_toArray, List.set_cons_succ, List.set_cons_zero]
                    refine takeH (i := 5) (some 162) rfl rfl (by kernel_rfl) (by kernel_rfl) (by kernel_rfl) (fun _ _ _ h => h) (gRun (by kernel_rfl) (.slice (some ⟨fb, fo, none⟩) n0 cap0) fun _ h => run_mvZ (.tmp 0) rfl (.slice (some ⟨fb, fo, none⟩) n0 cap0) rfl) hS ?_
                    simp only [Act.put, List.setIfInBounds_toArray, List.set_cons_succ, List.set_cons_zero]
                    refine takeH (i := 6) (some 163) rfl rfl (by kernel_rfl) (by kernel_rfl) (by kernel_rfl) (fun _ _ _ h => h) (gRun (by kernel_rfl) (.int .i64 (j : Nat)) fun _ h => run_mvZ (.tmp 20) rfl (.int .i64 (j : Nat)) rfl) hS ?_
                    simp only [Act.put, List.setIfInBounds_toArray, List.set_cons_succ, List.set_cons_zero]
                    refine takeH (i := 7) (some 164) rfl rfl (by kernel_rfl) (by kernel_rfl) (by kernel_rfl) (fun _ _ _ h => h) (gRun (by kernel_rfl) (.pointer (some ⟨fb, fo + j, none⟩)) fun _ h => run_ix50 (.tmp 162) (.tmp 163) rfl fb fo n0 cap0 j rfl rfl hj) hS ?_
                    simp only [Act.put, List.setIfInBounds_toArray, List.set_cons_succ, List.set_cons_zero]
                    refine takeH (i := 8) (some 165) rfl rfl (by kernel_rfl) (by kernel_rfl) (by kernel_rfl) (fun _ _ _ h => h) (gRun (by kernel_rfl) (.slice pu ul cu) fun _ h => run_load1 o38' (.tmp 164) rfl fb (fo + j) rfl (.slice pu ul cu) h.2.1) hS ?_
                    simp only [Act.put, List.setIfInBounds_toArray, List.set_cons_succ, List.set_cons_zero]
                    refine takeH (i := 9) (some 166) rfl rfl (by kernel_rfl) (by kernel_rfl) (by kernel_rfl) (fun _ _ _ h => h) (gRun (by kernel_rfl) (.string (strOfNums ((first.getD j []).map Int.ofNat))) fun _ h => run_str (.tmp 165) rfl (.slice pu ul cu) (first.getD j []) rfl h.2.2) hS ?_
                    simp only [Act.put, List.setIfInBounds_toArray, List.set_cons_succ, List.set_cons_zero]
                    refine takeH (i := 10) (some 167) rfl rfl (by kernel_rfl) (by kernel_rfl) (by kernel_rfl) (fun _ _ _ h => h) (gRun (by kernel_rfl) (.bool false) fun _ h => run_neS (.tmp 161) (.tmp 166) rfl _ _ rfl rfl rfl) hS ?_
                    simp only [Act.put, List.setIfInBounds_toArray, List.set_cons_succ, List.set_cons_zero]
                    refine takeH (i := 11) (some 168) rfl rfl (by kernel_rfl) (by kernel_rfl) (by kernel_rfl) (fun _ _ _ h => h) (gRun rfl (.bool false) fun _ h => run_pickZ (.tmp 159) (.const (.bool true)) (.tmp 167) rfl false (.bool false) rfl rfl) hS ?_
                    simp only [Act.put, List.setIfInBounds_toArray, List.set_cons_succ, List.set_cons_zero]
                    refine wpAnyH_done (by kernel_rfl) ?_ _
                    have HV : Hid (PgW w Z c8 gq g (m7.boot ks) [210] [] 0 26 L2 L2.used X 107) := hP
                    clear hS hP HC
                    have hk9 := HKK.out.2
                    go_upto_region 39 with fail
                    refine wp_region_lit ?_
                    refine wl rfl (.int .i64 (k : Nat)) _ (run_mvZ (.tmp 19) rfl (.int .i64 (k : Nat)) rfl) ?_
                    simp only [Act.put, List.setIfInBounds_toArray, List.set_cons_succ, List.set_cons_zero]
                    refine wl rfl (.int .i64 ((k + 1 : Nat) : Int)) _ (run_addI (.tmp 169) (.const (.int .i64 1)) rfl _ 1 ((k + 1 : Nat) : Int) rfl (by omega) (by omega) rfl rfl) ?_
                    simp only [Act.put, List.setIfInBounds_toArray, List.set_cons_succ, List.set_cons_zero]
                    refine wl rfl (.int .i64 ((k + 1 : Nat) : Int)) _ (run_asZ (.tmp 170) rfl (.int .i64 ((k + 1 : Nat) : Int)) rfl) ?_
                    simp only [Act.put, List.setIfInBounds_toArray, List.set_cons_succ, List.set_cons_zero]
                    refine wpList_nil ?_
                    go_wp2_with fail
                    refine ⟨⟨j + 1, by go_num, by rw [HO.out, List.length_append, ← HKK.out.1]; rfl, HV.out⟩, ?_⟩
                    simp [intOf]; omega
                · have h1 : decide ((j : Int) < (n0 : Int)) = true := decide_eq_true (by omega)
                  have h2 : decide ((j : Int) < (9 : Int)) = false := decide_eq_false (by omega)
                  go_upto_region 33 with fail
                  refine wp_region_lit ?_
                  refine wl rfl (.int .i64 (j : Nat)) _ (run_mvZ (.tmp 20) rfl (.int .i64 (j : Nat)) rfl) ?_
                  simp only [Act.put, List.setIfInBounds_toArray, List.set_cons_succ, List.set_cons_zero]
                  refine wl rfl (.slice p0 n0 cap0) _ (run_mvZ (.tmp 0) rfl (.slice p0 n0 cap0) rfl) ?_
                  simp only [Act.put, List.setIfInBounds_toArray, List.set_cons_succ, List.set_cons_zero]
                  refine wl rfl (.int .i64 (n0 : Nat)) _ (run_lenZ sl50 (.tmp 136) rfl p0 n0 cap0 rfl) ?_
                  simp only [Act.put, List.setIfInBounds_toArray, List.set_cons_succ, List.set_cons_zero]
                  refine wl rfl (.bool true) _ (run_lssZ (.tmp 135) (.tmp 137) rfl _ _ rfl rfl true h1) ?_
                  simp only [Act.put, List.setIfInBounds_toArray, List.set_cons_succ, List.set_cons_zero]
                  refine wl rfl (.bool true) _ (run_mvZ (.tmp 138) rfl (.bool true) rfl) ?_
                  simp only [Act.put, List.setIfInBounds_toArray, List.set_cons_succ, List.set_cons_zero]
                  refine wl (by kernel_rfl) (.int .i64 (j : Nat)) _ (run_mvZ (.tmp 20) rfl (.int .i64 (j : Nat)) rfl) ?_
                  simp only [Act.put, List.setIfInBounds_toArray, List.set_cons_succ, List.set_cons_zero]
                  refine wl (by kernel_rfl) (.bool false) _ (run_lssZ (.tmp 140) (.const (.int .i64 9)) rfl _ _ rfl rfl false h2) ?_
                  simp only [Act.put, List.setIfInBounds_toArray, List.set_cons_succ, List.set_cons_zero]
                  refine wl rfl (.bool false) _ (run_pickZ (.tmp 139) (.tmp 141) (.const (.bool false)) rfl true (.bool false) rfl rfl) ?_
                  simp only [Act.put, List.setIfInBounds_toArray, List.set_cons_succ, List.set_cons_zero]
                  refine wpList_nil ?_
                  go_wp2_with fail
                  rw [HPQ.out]
                  exact ⟨rfl, HJ.out.pl.below⟩
              · have h1 : decide ((j : Int) < (n0 : Int)) = false := decide_eq_false (by omega)
                go_upto_region 33 with fail
                refine wp_region_lit ?_
                refine wl rfl (.int .i64 (j : Nat)) _ (run_mvZ (.tmp 20) rfl (.int .i64 (j : Nat)) rfl) ?_
                simp only [Act.put, List.setIfInBounds_toArray, List.set_cons_succ, List.set_cons_zero]
                refine wl rfl (.slice p0 n0 cap0) _ (run_mvZ (.tmp 0) rfl (.slice p0 n0 cap0) rfl) ?_
                simp only [Act.put, List.setIfInBounds_toArray, List.set_cons_succ, List.set_cons_zero]
                refine wl rfl (.int .i64 (n0 : Nat)) _ (run_lenZ sl50 (.tmp 136) rfl p0 n0 cap0 rfl) ?_
                simp only [Act.put, List.setIfInBounds_toArray, List.set_cons_succ, List.set_cons_zero]
                refine wl rfl (.bool false) _ (run_lssZ (.tmp 135) (.tmp 137) rfl _ _ rfl rfl false h1) ?_
                simp only [Act.put, List.setIfInBounds_toArray, List.set_cons_succ, List.set_cons_zero]
                refine wl rfl (.bool false) _ (run_mvZ (.tmp 138) rfl (.bool false) rfl) ?_
                simp only [Act.put, List.setIfInBounds_toArray, List.set_cons_succ, List.set_cons_zero]
                refine wpList_skip (by kernel_rfl) ?_
                simp only [Act.put, List.setIfInBounds_toArray, List.set_cons_succ, List.set_cons_zero]
                refine wpList_skip (by kernel_rfl) ?_
                simp only [Act.put, List.setIfInBounds_toArray, List.set_cons_succ, List.set_cons_zero]
                refine wl rfl (.bool false) _ (run_pickZ (.tmp 139) (.tmp 141) (.const (.bool false)) rfl false (.bool false) rfl rfl) ?_
                simp only [Act.put, List.setIfInBounds_toArray, List.set_cons_succ, List.set_cons_zero]
                refine wpList_nil ?_
                go_wp2_with fail
                rw [HPQ.out]
                exact ⟨rfl, HJ.out.pl.below⟩
    · have h1 : decide ((i : Int) < (n0 : Int)) = false := decide_eq_false (by omega)
      go_upto_region 11 with fail
      refine wp_region_lit ?_
      refine wl rfl (.int .i64 (i : Nat)) _ (run_mvZ (.tmp 14) rfl (.int .i64 (i : Nat)) rfl) ?_
      simp only [Act.put, List.setIfInBounds_toArray, List.set_cons_succ, List.set_cons_zero]
      refine wl rfl (.slice p0 n0 cap0) _ (run_mvZ (.tmp 0) rfl (.slice p0 n0 cap0) rfl) ?_
      simp only [Act.put, List.setIfInBounds_toArray, List.set_cons_succ, List.set_cons_zero]
      refine wl rfl (.int .i64 (n0 : Nat)) _ (run_lenZ sl50 (.tmp 58) rfl p0 n0 cap0 rfl) ?_
      simp only [Act.put, List.setIfInBounds_toArray, List.set_cons_succ, List.set_cons_zero]
      refine wl rfl (.bool false) _ (run_lssZ (.tmp 57) (.tmp 59) rfl _ _ rfl rfl false h1) ?_
      simp only [Act.put, List.setIfInBounds_toArray, List.set_cons_succ, List.set_cons_zero]
      refine wl rfl (.bool false) _ (run_mvZ (.tmp 60) rfl (.bool false) rfl) ?_
      simp only [Act.put, List.setIfInBounds_toArray, List.set_cons_succ, List.set_cons_zero]
      refine wpList_skip (by kernel_rfl) ?_
      simp only [Act.put, List.setIfInBounds_toArray, List.set_cons_succ, List.set_cons_zero]
      refine wpList_skip (by kernel_rfl) ?_
      simp only [Act.put, List.setIfInBounds_toArray, List.set_cons_succ, List.set_cons_zero]
      refine wl rfl (.bool false) _ (run_pickZ (.tmp 61) (.tmp 63) (.const (.bool false)) rfl false (.bool false) rfl rfl) ?_
      simp only [Act.put, List.setIfInBounds_toArray, List.set_cons_succ, List.set_cons_zero]
      refine wpList_nil ?_
      have HE : Hid (∀ j, j < n0 → j < 9 → j < i) := fun j hj hj9 => by omega
      clear h1
      by_cases hneg : f < 0
      · have h2 : decide (f < 0) = true := decide_eq_true hneg
        obtain ⟨fn, hfn⟩ : ∃ fn : Nat, -(f + 1) = (fn : Int) := ⟨(-(f + 1)).toNat, by omega⟩
        have hfl := HF0.out
        go_upto_region 19 with fail
        refine wp_region_lit ?_
        refine wl rfl (.int .i64 f) _ (run_mvZ (.tmp 1) rfl (.int .i64 f) rfl) ?_
        simp only [Act.put, List.setIfInBounds_toArray, List.set_cons_succ, List.set_cons_zero]
        refine wl rfl (.bool true) _ (run_lssZ (.tmp 86) (.const (.int .i64 0)) rfl f 0 rfl rfl true h2) ?_
        simp only [Act.put, List.setIfInBounds_toArray, List.set_cons_succ, List.set_cons_zero]
        refine wpList_nil ?_
        go_upto_region 20 with fail
        refine wp_region_lit ?_
        refine wl rfl (.int .i64 f) _ (run_mvZ (.tmp 1) rfl (.int .i64 f) rfl) ?_
        simp only [Act.put, List.setIfInBounds_toArray, List.set_cons_succ, List.set_cons_zero]
        refine wl rfl (.int .i64 (f + 1)) _ (run_addI (.tmp 88) (.const (.int .i64 1)) rfl f 1 (f + 1) rfl (by omega) (by omega) rfl rfl) ?_
        simp only [Act.put, List.setIfInBounds_toArray, List.set_cons_succ, List.set_cons_zero]
        refine wl rfl (.int .i64 (fn : Nat)) _ (run_negI (.tmp 89) rfl (f + 1) fn hfn (by omega) (by omega) rfl) ?_
        simp only [Act.put, List.setIfInBounds_toArray, List.set_cons_succ, List.set_cons_zero]
        refine wl rfl (.int .i64 (fn : Nat)) _ (run_asZ (.tmp 90) rfl (.int .i64 (fn : Nat)) rfl) ?_
        simp only [Act.put, List.setIfInBounds_toArray, List.set_cons_succ, List.set_cons_zero]
        refine wpList_nil ?_
        have hn9 := HS.out.n9
        have h4 : fn % 4 < 4 := Nat.mod_lt _ (by decide)
        go_upto_region 21 with fail
        refine wp_region_lit ?_
        refine wl rfl (ptr g) _ (run_mvZ (.tmp 8) rfl (ptr g) rfl) ?_
        simp only [Act.put, List.setIfInBounds_toArray, List.set_cons_succ, List.set_cons_zero]
        refine wl rfl (.int .i64 (fn : Nat)) _ (run_mvZ (.tmp 1) rfl (.int .i64 (fn : Nat)) rfl) ?_
        simp only [Act.put, List.setIfInBounds_toArray, List.set_cons_succ, List.set_cons_zero]
        refine wl rfl (.int .i64 ((fn % 4 : Nat) : Int)) _ (run_rem4 (.tmp 92) rfl fn rfl) ?_
        simp only [Act.put, List.setIfInBounds_toArray, List.set_cons_succ, List.set_cons_zero]
        refine wpList_callW eN25 [.tmp 91, .tmp 93] _ rfl rfl [(ptr g), (.int .i64 ((fn % 4 : Nat) : Int))] rfl ?_
        refine (PlW.fuse HS.out.st.pl ((fn % 4 : Nat) : Int) (by omega) (by omega) 0).mono ?_
        rintro e W6 ⟨rfl, c6, _, h_⟩
        refine ⟨_, rfl, ?_⟩
        have H6 : Hid (PlW w W6 c6 g (m.fuseTo ((fn % 4 : Nat) : Int)) [210] [] 105 ∧ PgO (m.fuseTo ((fn % 4 : Nat) : Int)) 0 26 L (firstU n) X) := ⟨h_.mono (by have := HS.out.le9; omega), HS.out.st.o.fused _ (by omega) (by omega)⟩
        clear h_ h4
        simp only [Act.put, List.setIfInBounds_toArray, List.set_cons_succ, List.set_cons_zero]
        refine wpList_nil ?_
        go_upto_region 22 with fail
        refine wp_region_lit ?_
        refine wl rfl (ptr g) _ (run_mvZ (.tmp 8) rfl (ptr g) rfl) ?_
        simp only [Act.put, List.setIfInBounds_toArray, List.set_cons_succ, List.set_cons_zero]
        refine wpList_callW eN11 [.tmp 95, .const (.int .i64 0)] _ rfl rfl [(ptr g), .int .i64 0] rfl ?_
        refine (PlW.formatCrash H6.out.1 (by decide) (by decide) H6.out.2).mono ?_
        rintro e W7 ⟨d, c7, m7, rfl, h_, o_⟩
        refine ⟨_, rfl, ?_⟩
        have H7 : Hid (PlW w W7 c7 g m7 [210] [] 107 ∧ ∃ L2, PgO (m7.boot ks) 0 26 L2 L2.used X ∧ ((L2.used = noneP ∧ L2.root = -1) ∨ (d = 2 ∧ L2 = L))) := ⟨h_, o_ ks⟩
        clear h_ o_ H6
        simp only [Act.put, List.setIfInBounds_toArray, List.set_cons_succ, List.set_cons_zero]
        refine wl rfl (.int .i64 d) _ (run_asZ (.tmp 96) rfl (.int .i64 d) rfl) ?_
        simp only [Act.put, List.setIfInBounds_toArray, List.set_cons_succ, List.set_cons_zero]
        refine wpList_nil ?_
        go_upto_region 23 with fail
        refine wp_region_lit ?_
        refine wl rfl (ptr g) _ (run_mvZ (.tmp 8) rfl (ptr g) rfl) ?_
        simp only [Act.put, List.setIfInBounds_toArray, List.set_cons_succ, List.set_cons_zero]
        refine wl rfl vk _ (run_mvZ (.tmp 2) rfl vk rfl) ?_
        simp only [Act.put, List.setIfInBounds_toArray, List.set_cons_succ, List.set_cons_zero]
        refine wpList_callW eN26 [.tmp 97, .tmp 98] _ rfl rfl [(ptr g), vk] rfl ?_
        refine (PlW.boot H7.out.1 (by decide) _ ks (IntsIn.keep HK.out H7.out.1.below H7.out.1.cc) 0).mono ?_
        rintro e W8 ⟨rfl, c8, _, h_⟩
        refine ⟨_, rfl, ?_⟩
        obtain ⟨L2, o_, a_⟩ := H7.out.2
        have HA : Hid ((L2.used = noneP ∧ L2.root = -1) ∨ (d = 2 ∧ 0 < n ∧ L2 = L)) := by
          rcases a_ with a_ | ⟨a1, a2⟩
          · exact Or.inl a_
          · rcases Nat.eq_zero_or_pos n with hz | hz
            · refine Or.inl ⟨?_, ?_⟩
              · rw [a2, HS.out.used, hz]; rfl
              · rw [a2, HS.out.root, hz]; rfl
            · exact Or.inr ⟨a1, hz, a2⟩
        have H8 : Hid (PlW w W8 c8 g (m7.boot ks) [210] [] 107 ∧ PgO (m7.boot ks) 0 26 L2 L2.used X) := ⟨h_, o_⟩
        clear h_ o_ a_ H7
        simp only [Act.put, List.setIfInBounds_toArray, List.set_cons_succ, List.set_cons_zero]
        refine wpList_nil ?_
        go_upto_region 24 with fail
        refine wp_region_lit ?_
        refine wl rfl (ptr g) _ (run_mvZ (.tmp 8) rfl (ptr g) rfl) ?_
        simp only [Act.put, List.setIfInBounds_toArray, List.set_cons_succ, List.set_cons_zero]
        refine wpList_callW eN13 [.tmp 101, .const (.int .i64 0)] _ rfl rfl [(ptr g), .int .i64 0] rfl ?_
        refine (PlW.openZ H8.out.1 (by decide) (by decide) H8.out.2).mono ?_
        rintro e W9 ⟨gq, rfl, b_, h_⟩
        refine ⟨_, rfl, ?_⟩
        have H9 : Hid (PgW w W9 c8 gq g (m7.boot ks) [210] [] 0 26 L2 L2.used X 107) := h_
        clear h_ b_ H8
        simp only [Act.put, List.setIfInBounds_toArray, List.set_cons_succ, List.set_cons_zero]
        refine wl rfl (.tuple #[(ptr gq), (.int .i64 0)]) _ (run_mvZ (.tmp 102) rfl (.tuple #[(ptr gq), (.int .i64 0)]) rfl) ?_
        simp only [Act.put, List.setIfInBounds_toArray, List.set_cons_succ, List.set_cons_zero]
        refine wl rfl (ptr gq) _ (run_extZ (.tmp 100) 0 rfl #[(ptr gq), (.int .i64 0)] rfl (ptr gq) rfl) ?_
        simp only [Act.put, List.setIfInBounds_toArray, List.set_cons_succ, List.set_cons_zero]
        refine wl rfl (.int .i64 0) _ (run_extZ (.tmp 100) 1 rfl #[(ptr gq), (.int .i64 0)] rfl (.int .i64 0) rfl) ?_
        simp only [Act.put, List.setIfInBounds_toArray, List.set_cons_succ, List.set_cons_zero]
        refine wl rfl (ptr gq) _ (run_asZ (.tmp 103) rfl (ptr gq) rfl) ?_
        simp only [Act.put, List.setIfInBounds_toArray, List.set_cons_succ, List.set_cons_zero]
        refine wl rfl (.int .i64 0) _ (run_asZ (.tmp 104) rfl (.int .i64 0) rfl) ?_
        simp only [Act.put, List.setIfInBounds_toArray, List.set_cons_succ, List.set_cons_zero]
        refine wpList_nil ?_
        go_upto_region 25 with fail
        refine wp_region_lit ?_
        refine wl rfl (ptr gq) _ (run_mvZ (.tmp 11) rfl (ptr gq) rfl) ?_
        simp only [Act.put, List.setIfInBounds_toArray, List.set_cons_succ, List.set_cons_zero]
        refine wl rfl (.bool false) _ (run_binOp' (.tmp 105) (.const (.pointer none)) rfl _ _ _ rfl rfl rfl (by kernel_rfl)) ?_
        simp only [Act.put, List.setIfInBounds_toArray, List.set_cons_succ, List.set_cons_zero]
        refine wl rfl (.bool false) _ (run_mvZ (.tmp 106) rfl (.bool false) rfl) ?_
        simp only [Act.put, List.setIfInBounds_toArray, List.set_cons_succ, List.set_cons_zero]
        refine wl (by kernel_rfl) (.int .i64 0) _ (run_mvZ (.tmp 12) rfl (.int .i64 0) rfl) ?_
        simp only [Act.put, List.setIfInBounds_toArray, List.set_cons_succ, List.set_cons_zero]
        refine wl (by kernel_rfl) (.bool false) _ (run_neZ (.tmp 108) (.const (.int .i64 0)) rfl (0) (0) rfl rfl false rfl) ?_
        simp only [Act.put, List.setIfInBounds_toArray, List.set_cons_succ, List.set_cons_zero]
        refine wl rfl (.bool false) _ (run_pickZ (.tmp 107) (.const (.bool true)) (.tmp 109) rfl false (.bool false) rfl rfl) ?_
        simp only [Act.put, List.setIfInBounds_toArray, List.set_cons_succ, List.set_cons_zero]
        refine wpList_nil ?_
        rcases HA.out with ⟨a1, a2⟩ | ⟨a1, a2, a3⟩
        · have hR : Hid (roomTo L2 L2.used 26 = 26) := by show _ = _; rw [a1, room_used L2 (hdU noneP) a1]; exact roomF 0
          go_upto_region 27 with fail
          refine wp_region_lit ?_
          refine wl rfl (ptr gq) _ (run_mvZ (.tmp 11) rfl (ptr gq) rfl) ?_
          simp only [Act.put, List.setIfInBounds_toArray, List.set_cons_succ, List.set_cons_zero]
          refine wpList_callW eN27 [.tmp 111] _ (by kernel_rfl) rfl [(ptr gq)] rfl ?_
          refine (show Calls Tryd.prog 27 #[ptr gq] W9 fun e W' => e = .returned (.int .i64 (-1)) ∧ W9 = W' from (by have h := H9.out.root; rw [a2] at h; exact h)).mono ?_
          rintro e W_ ⟨rfl, rfl⟩
          refine ⟨_, rfl, ?_⟩
          simp only [Act.put, List.setIfInBounds_toArray, List.set_cons_succ, List.set_cons_zero]
          refine wl rfl (.bool true) _ (run_eqZ (.tmp 112) (.const (.int .i64 (-1))) rfl (-1) (-1) rfl rfl true rfl) ?_
          simp only [Act.put, List.setIfInBounds_toArray, List.set_cons_succ, List.set_cons_zero]
          refine wl rfl (.bool true) _ (run_mvZ (.tmp 113) rfl (.bool true) rfl) ?_
          simp only [Act.put, List.setIfInBounds_toArray, List.set_cons_succ, List.set_cons_zero]
          refine wl (by kernel_rfl) (ptr gq) _ (run_mvZ (.tmp 11) rfl (ptr gq) rfl) ?_
          simp only [Act.put, List.setIfInBounds_toArray, List.set_cons_succ, List.set_cons_zero]
          refine wpList_callW eN29 [.tmp 115] _ (by kernel_rfl) rfl [(ptr gq)] rfl ?_
          refine (show Calls Tryd.prog 29 #[ptr gq] W9 fun e W' => e = .returned (.int .i64 26) ∧ Below W9.heap.size W9 W' from (by have h := H9.out.room; rw [hR.out] at h; exact h)).mono ?_
          rintro e W10 ⟨rfl, b_⟩
          refine ⟨_, rfl, ?_⟩
          have HZ : Hid (Below w.heap.size w W10) := (H9.out.bel b_).pl.below
          clear b_
          simp only [Act.put, List.setIfInBounds_toArray, List.set_cons_succ, List.set_cons_zero]
          refine wl (by kernel_rfl) (.bool true) _ (run_eqZ (.tmp 116) (.const (.int .i64 26)) rfl (26) (26) rfl rfl true rfl) ?_
          simp only [Act.put, List.setIfInBounds_toArray, List.set_cons_succ, List.set_cons_zero]
          refine wl rfl (.bool true) _ (run_pickZ (.tmp 114) (.tmp 117) (.const (.bool false)) rfl true (.bool true) rfl rfl) ?_
          simp only [Act.put, List.setIfInBounds_toArray, List.set_cons_succ, List.set_cons_zero]
          refine wpList_nil ?_
          go_wp2_with fail
          rw [HPQ.out]
          exact ⟨rfl, HZ.out⟩
        · subst a1 a3
          have hR : Hid (roomTo L2 L2.used 26 = 26 - n) := by show _ = _; rw [HS.out.used, room_used L2 (hdU (firstU n)) HS.out.used]; exact roomF ⟨n, by omega⟩
          have hd : decide ((n : Int) - 1 = -1) = false := decide_eq_false (by omega)
          go_upto_region 27 with fail
          refine wp_region_lit ?_
          refine wl rfl (ptr gq) _ (run_mvZ (.tmp 11) rfl (ptr gq) rfl) ?_
          simp only [Act.put, List.setIfInBounds_toArray, List.set_cons_succ, List.set_cons_zero]
          refine wpList_callW eN27 [.tmp 111] _ (by kernel_rfl) rfl [(ptr gq)] rfl ?_
          refine (show Calls Tryd.prog 27 #[ptr gq] W9 fun e W' => e = .returned (.int .i64 ((n : Int) - 1)) ∧ W9 = W' from (by have h := H9.out.root; rw [HS.out.root] at h; exact h)).mono ?_
          rintro e W_ ⟨rfl, rfl⟩
          refine ⟨_, rfl, ?_⟩
          simp only [Act.put, List.setIfInBounds_toArray, List.set_cons_succ, List.set_cons_zero]
          refine wl rfl (.bool false) _ (run_eqZ (.tmp 112) (.const (.int .i64 (-1))) rfl _ _ rfl rfl false hd) ?_
          simp only [Act.put, List.setIfInBounds_toArray, List.set_cons_succ, List.set_cons_zero]
          refine wl rfl (.bool false) _ (run_mvZ (.tmp 113) rfl (.bool false) rfl) ?_
          simp only [Act.put, List.setIfInBounds_toArray, List.set_cons_succ, List.set_cons_zero]
          refine wpList_skip (by kernel_rfl) ?_
          simp only [Act.put, List.setIfInBounds_toArray, List.set_cons_succ, List.set_cons_zero]
          refine wpList_skip (by kernel_rfl) ?_
          simp only [Act.put, List.setIfInBounds_toArray, List.set_cons_succ, List.set_cons_zero]
          refine wpList_skip (by kernel_rfl) ?_
          simp only [Act.put, List.setIfInBounds_toArray, List.set_cons_succ, List.set_cons_zero]
          refine wl rfl (.bool false) _ (run_pickZ (.tmp 114) (.tmp 117) (.const (.bool false)) rfl false (.bool false) rfl rfl) ?_
          simp only [Act.put, List.setIfInBounds_toArray, List.set_cons_succ, List.set_cons_zero]
          refine wpList_nil ?_
          have he : (!decide ((n : Int) - 1 = (n : Int) - 1)) = false := by rw [decide_eq_true rfl]; rfl
          have hg : (!decide (((26 - n : Nat) : Int) = ((26 - n : Nat) : Int))) = false := by rw [decide_eq_true rfl]; rfl
          go_upto_region 29 with fail
          refine wp_region_lit ?_
          refine wl rfl (.int .i64 2) _ (run_mvZ (.tmp 18) rfl (.int .i64 2) rfl) ?_
          simp only [Act.put, List.setIfInBounds_toArray, List.set_cons_succ, List.set_cons_zero]
          refine wl rfl (.bool false) _ (run_eqZ (.tmp 119) (.const (.int .i64 0)) rfl (2) (0) rfl rfl false rfl) ?_
          simp only [Act.put, List.setIfInBounds_toArray, List.set_cons_succ, List.set_cons_zero]
          refine wl rfl (.bool false) _ (run_mvZ (.tmp 120) rfl (.bool false) rfl) ?_
          simp only [Act.put, List.setIfInBounds_toArray, List.set_cons_succ, List.set_cons_zero]
          refine wl (by kernel_rfl) (ptr gq) _ (run_mvZ (.tmp 11) rfl (ptr gq) rfl) ?_
          simp only [Act.put, List.setIfInBounds_toArray, List.set_cons_succ, List.set_cons_zero]
          refine wpList_callW eN27 [.tmp 122] _ (by kernel_rfl) rfl [(ptr gq)] rfl ?_
          refine (show Calls Tryd.prog 27 #[ptr gq] W9 fun e W' => e = .returned (.int .i64 ((n : Int) - 1)) ∧ W9 = W' from (by have h := H9.out.root; rw [HS.out.root] at h; exact h)).mono ?_
          rintro e W_ ⟨rfl, rfl⟩
          refine ⟨_, rfl, ?_⟩
          simp only [Act.put, List.setIfInBounds_toArray, List.set_cons_succ, List.set_cons_zero]
          refine wl (by kernel_rfl) (.int .i64 (n : Nat)) _ (run_mvZ (.tmp 13) rfl (.int .i64 (n : Nat)) rfl) ?_
          simp only [Act.put, List.setIfInBounds_toArray, List.set_cons_succ, List.set_cons_zero]
          refine wl (by kernel_rfl) (.int .i64 ((n : Int) - 1)) _ (run_subI (.tmp 124) (.const (.int .i64 1)) rfl _ 1 ((n : Int) - 1) rfl (by omega) (by omega) rfl rfl) ?_
          simp only [Act.put, List.setIfInBounds_toArray, List.set_cons_succ, List.set_cons_zero]
          refine wl (by kernel_rfl) (.bool false) _ (run_neZ (.tmp 123) (.tmp 125) rfl _ _ rfl rfl false he) ?_
          simp only [Act.put, List.setIfInBounds_toArray, List.set_cons_succ, List.set_cons_zero]
          refine wl rfl (.bool false) _ (run_pickZ (.tmp 121) (.const (.bool true)) (.tmp 126) rfl false (.bool false) rfl rfl) ?_
          simp only [Act.put, List.setIfInBounds_toArray, List.set_cons_succ, List.set_cons_zero]
          refine wl rfl (.bool false) _ (run_mvZ (.tmp 127) rfl (.bool false) rfl) ?_
          simp only [Act.put, List.setIfInBounds_toArray, List.set_cons_succ, List.set_cons_zero]
          refine wl (by kernel_rfl) (ptr gq) _ (run_mvZ (.tmp 11) rfl (ptr gq) rfl) ?_
          simp only [Act.put, List.setIfInBounds_toArray, List.set_cons_succ, List.set_cons_zero]
          refine wpList_callW eN29 [.tmp 129] _ (by kernel_rfl) rfl [(ptr gq)] rfl ?_
          refine (show Calls Tryd.prog 29 #[ptr gq] W9 fun e W' => e = .returned (.int .i64 ((26 - n : Nat) : Int)) ∧ Below W9.heap.size W9 W' from (by have h := H9.out.room; rw [hR.out] at h; exact h)).mono ?_
          rintro e W10 ⟨rfl, b_⟩
          refine ⟨_, rfl, ?_⟩
          have H10 : Hid (PgW w W10 c8 gq g (m7.boot ks) [210] [] 0 26 L2 L2.used X 107) := H9.out.bel b_
          clear b_ H9
          simp only [Act.put, List.setIfInBounds_toArray, List.set_cons_succ, List.set_cons_zero]
          refine wl (by kernel_rfl) (.int .i64 (n : Nat)) _ (run_mvZ (.tmp 13) rfl (.int .i64 (n : Nat)) rfl) ?_
          simp only [Act.put, List.setIfInBounds_toArray, List.set_cons_succ, List.set_cons_zero]
          refine wl (by kernel_rfl) (.int .i64 ((26 - n : Nat) : Int)) _ (run_subI (.const (.int .i64 26)) (.tmp 131) rfl 26 _ ((26 - n : Nat) : Int) (by omega) (by omega) (by omega) rfl rfl) ?_
          simp only [Act.put, List.setIfInBounds_toArray, List.set_cons_succ, List.set_cons_zero]
          refine wl (by kernel_rfl) (.bool false) _ (run_neZ (.tmp 130) (.tmp 132) rfl _ _ rfl rfl false hg) ?_
          simp only [Act.put, List.setIfInBounds_toArray, List.set_cons_succ, List.set_cons_zero]
          refine wl rfl (.bool false) _ (run_pickZ (.tmp 128) (.const (.bool true)) (.tmp 133) rfl false (.bool false) rfl rfl) ?_
          simp only [Act.put, List.setIfInBounds_toArray, List.set_cons_succ, List.set_cons_zero]
          refine wpList_nil ?_
          go_upto_region 31 with fail
          refine wp_region_lit ?_
          refine wl rfl (.int .i64 0) _ (run_asZ (.const (.int .i64 0)) rfl (.int .i64 0) rfl) ?_
          simp only [Act.put, List.setIfInBounds_toArray, List.set_cons_succ, List.set_cons_zero]
          refine wpList_nil ?_
          go_upto_region 32 with fail
          refine wp_region_lit ?_
          refine wl rfl (.int .i64 0) _ (run_asZ (.const (.int .i64 0)) rfl (.int .i64 0) rfl) ?_
          simp only [Act.put, List.setIfInBounds_toArray, List.set_cons_succ, List.set_cons_zero]
          refine wpList_nil ?_
          have HX : Hid ((∀ k, k < n → X k = imOf ((oks (first.take i)).getD k []) ∧ hasP L2.used (k : Int) = true) ∧ n = (oks (first.take i)).length ∧ i ≤ 9) := by
            refine ⟨fun k hk => ⟨HS.out.img k hk, ?_⟩, HS.out.num, HS.out.le9⟩
            rw [HS.out.used]
            exact hasF ⟨n, by omega⟩ ⟨k, by omega⟩ hk
          clear hd he hg hR hn9 HS
          go_wp2_with fail
          go_loopw [19, 20] (fun vq vj W => ∃ j : Nat, vj = .int .i64 (j : Nat) ∧ vq = .int .i64 (((oks (first.take j)).length : Nat) : Int) ∧ PgW w W c8 gq g (m7.boot ks) [210] [] 0 26 L2 L2.used X 107) (fun _ vj _ => 9 - (intOf vj).toNat)
          case atStart => exact ⟨0, rfl, rfl, H10.out⟩
          case round =>
            obtain ⟨j, rfl, rfl, hst⟩ := hrel
            have HJ : Hid (PgW w wr c8 gq g (m7.boot ks) [210] [] 0 26 L2 L2.used X 107) := hst
            clear hst H10
            by_cases hj : j < n0
            · by_cases hj9 : j < 9
              · have h1 : decide ((j : Int) < (n0 : Int)) = true := decide_eq_true (by omega)
                have h2 : decide ((j : Int) < (9 : Int)) = true := decide_eq_true (by omega)
                go_upto_region 33 with fail
                refine wp_region_lit ?_
                refine wl rfl (.int .i64 (j : Nat)) _ (run_mvZ (.tmp 20) rfl (.int .i64 (j : Nat)) rfl) ?_
                simp only [Act.put, List.setIfInBounds_toArray, List.set_cons_succ, List.set_cons_zero]
                refine wl rfl (.slice p0 n0 cap0) _ (run_mvZ (.tmp 0) rfl (.slice p0 n0 cap0) rfl) ?_
                simp only [Act.put, List.setIfInBounds_toArray, List.set_cons_succ, List.set_cons_zero]
                refine wl rfl (.int .i64 (n0 : Nat)) _ (run_lenZ sl50 (.tmp 136) rfl p0 n0 cap0 rfl) ?_
                simp only [Act.put, List.setIfInBounds_toArray, List.set_cons_succ, List.set_cons_zero]
                refine wl rfl (.bool true) _ (run_lssZ (.tmp 135) (.tmp 137) rfl _ _ rfl rfl true h1) ?_
                simp only [Act.put, List.setIfInBounds_toArray, List.set_cons_succ, List.set_cons_zero]
                refine wl rfl (.bool true) _ (run_mvZ (.tmp 138) rfl (.bool true) rfl) ?_
                simp only [Act.put, List.setIfInBounds_toArray, List.set_cons_succ, List.set_cons_zero]
                refine wl (by kernel_rfl) (.int .i64 (j : Nat)) _ (run_mvZ (.tmp 20) rfl (.int .i64 (j : Nat)) rfl) ?_
                simp only [Act.put, List.setIfInBounds_toArray, List.set_cons_succ, List.set_cons_zero]
                refine wl (by kernel_rfl) (.bool true) _ (run_lssZ (.tmp 140) (.const (.int .i64 9)) rfl _ _ rfl rfl true h2) ?_
                simp only [Act.put, List.setIfInBounds_toArray, List.set_cons_succ, List.set_cons_zero]
                refine wl rfl (.bool true) _ (run_pickZ (.tmp 139) (.tmp 141) (.const (.bool false)) rfl true (.bool true) rfl rfl) ?_
                simp only [Act.put, List.setIfInBounds_toArray, List.set_cons_succ, List.set_cons_zero]
                refine wpList_nil ?_
                obtain ⟨fb, fo, pu, cu, hp0, hul, hu⟩ := HR.out.at j (by rw [← HN.out.1]; exact hj)
                subst hp0
                obtain ⟨hu1, hu2⟩ := hu wr HJ.out.pl.below
                obtain ⟨ul, hue⟩ : ∃ ul, ul = (first.getD j []).length := ⟨_, rfl⟩
                rw [← hue] at hu1 hu2 hul
                have HU : Hid (wr.cell? ⟨fb, fo + j, none⟩ = some (.slice pu ul cu) ∧ SliceIn wr (.slice pu ul cu) (first.getD j []) ∧ ul = (first.getD j []).length) := ⟨hu1, hu2, hue⟩
                clear hu1 hu2 hue
                by_cases h5 : 500 < ul
                · have h5d : decide ((500 : Int) < (ul : Int)) = true := decide_eq_true (by omega)
                  go_upto_region 35 with fail
                  refine wp_region_lit ?_
                  refine wl rfl (.slice (some ⟨fb, fo, none⟩) n0 cap0) _ (run_mvZ (.tmp 0) rfl (.slice (some ⟨fb, fo, none⟩) n0 cap0) rfl) ?_
                  simp only [Act.put, List.setIfInBounds_toArray, List.set_cons_succ, List.set_cons_zero]
                  refine wl rfl (.int .i64 (j : Nat)) _ (run_mvZ (.tmp 20) rfl (.int .i64 (j : Nat)) rfl) ?_
                  simp only [Act.put, List.setIfInBounds_toArray, List.set_cons_succ, List.set_cons_zero]
                  refine wl rfl (.pointer (some ⟨fb, fo + j, none⟩)) _ (run_ix50 (.tmp 145) (.tmp 146) rfl fb fo n0 cap0 j rfl rfl hj) ?_
                  simp only [Act.put, List.setIfInBounds_toArray, List.set_cons_succ, List.set_cons_zero]
                  refine wl rfl (.slice pu ul cu) _ (run_load1 o38' (.tmp 147) rfl fb (fo + j) rfl (.slice pu ul cu) HU.out.1) ?_
                  simp only [Act.put, List.setIfInBounds_toArray, List.set_cons_succ, List.set_cons_zero]
                  refine wl rfl (.int .i64 (ul : Nat)) _ (run_lenZ sl38 (.tmp 148) rfl pu ul cu rfl) ?_
                  simp only [Act.put, List.setIfInBounds_toArray, List.set_cons_succ, List.set_cons_zero]
                  refine wl rfl (.bool true) _ (run_gtrZ (.tmp 149) (.const (.int .i64 500)) rfl _ _ rfl rfl true h5d) ?_
                  simp only [Act.put, List.setIfInBounds_toArray, List.set_cons_succ, List.set_cons_zero]
                  refine wpList_nil ?_
                  have HO : Hid (oks (first.take (j + 1)) = oks (first.take j)) := oks_no first j (by rw [← HN.out.1]; exact hj) (by rw [← HU.out.2.2]; exact h5)
                  clear HU
                  go_wp2_with fail
                  refine ⟨⟨j + 1, by go_num, by rw [HO.out], HJ.out⟩, ?_⟩
                  simp [intOf]; omega
                · have h5d : decide ((500 : Int) < (ul : Int)) = false := decide_eq_false (by omega)
                  go_upto_region 35 with fail
                  refine wp_region_lit ?_
                  refine wl rfl (.slice (some ⟨fb, fo, none⟩) n0 cap0) _ (run_mvZ (.tmp 0) rfl (.slice (some ⟨fb, fo, none⟩) n0 cap0) rfl) ?_
                  simp only [Act.put, List.setIfInBounds_toArray, List.set_cons_succ, List.set_cons_zero]
                  refine wl rfl (.int .i64 (j : Nat)) _ (run_mvZ (.tmp 20) rfl (.int .i64 (j : Nat)) rfl) ?_
                  simp only [Act.put, List.setIfInBounds_toArray, List.set_cons_succ, List.set_cons_zero]
                  refine wl rfl (.pointer (some ⟨fb, fo + j, none⟩)) _ (run_ix50 (.tmp 145) (.tmp 146) rfl fb fo n0 cap0 j rfl rfl hj) ?_
                  simp only [Act.put, List.setIfInBounds_toArray, List.set_cons_succ, List.set_cons_zero]
                  refine wl rfl (.slice pu ul cu) _ (run_load1 o38' (.tmp 147) rfl fb (fo + j) rfl (.slice pu ul cu) HU.out.1) ?_
                  simp only [Act.put, List.setIfInBounds_toArray, List.set_cons_succ, List.set_cons_zero]
                  refine wl rfl (.int .i64 (ul : Nat)) _ (run_lenZ sl38 (.tmp 148) rfl pu ul cu rfl) ?_
                  simp only [Act.put, List.setIfInBounds_toArray, List.set_cons_succ, List.set_cons_zero]
                  refine wl rfl (.bool false) _ (run_gtrZ (.tmp 149) (.const (.int .i64 500)) rfl _ _ rfl rfl false h5d) ?_
                  simp only [Act.put, List.setIfInBounds_toArray, List.set_cons_succ, List.set_cons_zero]
                  refine wpList_nil ?_
                  have HO : Hid (oks (first.take (j + 1)) = oks (first.take j) ++ [first.getD j []]) := oks_ok first j (by rw [← HN.out.1]; exact hj) (by rw [← HU.out.2.2]; omega)
                  have hji := HE.out j hj hj9
                  have hat := oks_at first j (by rw [← HN.out.1]; exact hj) (by rw [← HU.out.2.2]; omega) (i - (j + 1))
                  rw [show j + 1 + (i - (j + 1)) = i by omega, ← HX.out.2.1] at hat
                  obtain ⟨k, hk⟩ : ∃ k, k = (oks (first.take j)).length := ⟨_, rfl⟩
                  rw [← hk] at hat
                  have HKK : Hid (k = (oks (first.take j)).length ∧ k ≤ 9) := ⟨hk, by have := hat.1; have := oks_len first j; omega⟩
                  have HRD : Hid (Calls Tryd.prog 28 #[ptr gq, .int .i64 (k : Nat)] wr fun e W' => ∃ v, e = .returned (.tuple #[v, .int .i64 0]) ∧ Below wr.heap.size wr W' ∧ NewB wr W' v (first.getD j [])) := by
                    have h1 := HX.out.1 k hat.1
                    refine HJ.out.readOk (by decide) (k : Int) (first.getD j []) h1.2 ?_ (by rw [← HU.out.2.2]; omega)
                    rw [Int.toNat_natCast, h1.1, hat.2]
                  rw [← hk]
                  clear hk hat hji
                  go_upto_region 36 with fail
                  refine wp_region_lit ?_
                  refine wl rfl (ptr gq) _ (run_mvZ (.tmp 11) rfl (ptr gq) rfl) ?_
                  simp only [Act.put, List.setIfInBounds_toArray, List.set_cons_succ, List.set_cons_zero]
                  refine wl rfl (.int .i64 (k : Nat)) _ (run_mvZ (.tmp 19) rfl (.int .i64 (k : Nat)) rfl) ?_
                  simp only [Act.put, List.setIfInBounds_toArray, List.set_cons_succ, List.set_cons_zero]
                  refine wpList_callW eN28 [.tmp 152, .tmp 153] _ rfl rfl [(ptr gq), (.int .i64 (k : Nat))] rfl ?_
                  refine (HRD.out).mono ?_
                  rintro e W12 ⟨rv, rfl, b_, n_⟩
                  refine ⟨_, rfl, ?_⟩
                  have HC : Hid (PgW w W12 c8 gq g (m7.boot ks) [210] [] 0 26 L2 L2.used X 107 ∧ SliceIn W12 rv (first.getD j []) ∧ W12.cell? ⟨fb, fo + j, none⟩ = some (.slice pu ul cu) ∧ SliceIn W12 (.slice pu ul cu) (first.getD j [])) := ⟨HJ.out.bel b_, n_.slice HU.out.2.1.lt256 (by rw [← HU.out.2.2]; omega), by rw [← HU.out.1]; exact World.cell?_of_block (b_.block fb (block_lt_of_cell HU.out.1)), SliceIn.later b_ HU.out.2.1⟩
                  clear b_ n_ HRD HU HJ
                  simp only [Act.put, List.setIfInBounds_toArray, List.set_cons_succ, List.set_cons_zero]
                  refine wl rfl (.tuple #[rv, (.int .i64 0)]) _ (run_mvZ (.tmp 154) rfl (.tuple #[rv, (.int .i64 0)]) rfl) ?_
                  simp only [Act.put, List.setIfInBounds_toArray, List.set_cons_succ, List.set_cons_zero]
                  refine wl rfl rv _ (run_extZ (.tmp 151) 0 rfl #[rv, (.int .i64 0)] rfl rv rfl) ?_
                  simp only [Act.put, List.setIfInBounds_toArray, List.set_cons_succ, List.set_cons_zero]
                  refine wl rfl (.int .i64 0) _ (run_extZ (.tmp 151) 1 rfl #[rv, (.int .i64 0)] rfl (.int .i64 0) rfl) ?_
                  simp only [Act.put, List.setIfInBounds_toArray, List.set_cons_succ, List.set_cons_zero]
                  refine wl rfl rv _ (run_asZ (.tmp 155) rfl rv rfl) ?_
                  simp only [Act.put, List.setIfInBounds_toArray, List.set_cons_succ, List.set_cons_zero]
                  refine wl rfl (.int .i64 0) _ (run_asZ (.tmp 156) rfl (.int .i64 0) rfl) ?_
                  simp only [Act.put, List.setIfInBounds_toArray, List.set_cons_succ, List.set_cons_zero]
                  refine wpList_nil ?_
                  go_upto_region 37 with fail
                  refine wp_region_held (S := fun X => (SliceIn X rv (first.getD j []) ∧ X.cell? ⟨fb, fo + j, none⟩ = some (.slice pu ul cu) ∧ SliceIn X (.slice pu ul cu) (first.getD j []))) (by kernel_rfl) ?_
                  show wpAnyH _ _ _ _ _ 12 (Array.replicate 12 false) _ _
                  obtain ⟨Z, hX⟩ : ∃ Z : World, Z = { W12 with drawn := W12.drawn + 1 } := ⟨_, rfl⟩
                  rw [← hX]
                  have hS : SliceIn Z rv (first.getD j []) ∧ Z.cell? ⟨fb, fo + j, none⟩ = some (.slice pu ul cu) ∧ SliceIn Z (.slice pu ul cu) (first.getD j []) := by rw [hX]; exact HC.out.2
                  have hP : PgW w Z c8 gq g (m7.boot ks) [210] [] 0 26 L2 L2.used X 107 := by rw [hX]; exact HC.out.1.bel ⟨rfl, rfl, rfl, Nat.le_refl _, fun _ _ => rfl⟩
                  clear hX
                  refine takeH (i := 0) (some 157) rfl rfl (by kernel_rfl) (by kernel_rfl) (by kernel_rfl) (fun _ _ _ h => h) (gRun rfl (.int .i64 0) fun _ h => run_mvZ (.tmp 22) rfl (.int .i64 0) rfl) hS ?_
                  simp only [Act.put, List.setIfInBounds_toArray, List.set_cons_succ, List.set_cons_zero]
                  refine takeH (i := 1) (some 158) rfl rfl (by kernel_rfl) (by kernel_rfl) (by kernel_rfl) (fun _ _ _ h => h) (gRun rfl (.bool false) fun _ h => run_neZ (.tmp 157) (.const (.int .i64 0)) rfl (0) (0) rfl rfl false rfl) hS ?_
                  simp only [Act.put, List.setIfInBounds_toArray, List.set_cons_succ, List.set_cons_zero]
                  refine takeH (i := 2) (some 159) rfl rfl (by kernel_rfl) (by kernel_rfl) (by kernel_rfl) (fun _ _ _ h => h) (gRun rfl (.bool false) fun _ h => run_mvZ (.tmp 158) rfl (.bool false) rfl) hS ?_
                  simp only [Act.put, List.setIfInBounds_toArray, List.set_cons_succ, List.set_cons_zero]
                  refine takeH (i := 3) (some 160) rfl rfl (by kernel_rfl) (by kernel_rfl) (by kernel_rfl) (fun _ _ _ h => h) (gRun (by kernel_rfl) rv fun _ h => run_mvZ (.tmp 21) rfl rv rfl) hS ?_
                  simp only [Act.put, List.setIfInBounds_toArray, List.set_cons_succ, List.set_cons_zero]
                  refine takeH (i := 4) (some 161) rfl rfl (by kernel_rfl) (by kernel_rfl) (by kernel_rfl) (fun _ _ _ h => h) (gRun (by kernel_rfl) (.string (strOfNums ((first.getD j []).map Int.ofNat))) fun _ h => run_str (.tmp 160) rfl rv (first.getD j []) rfl h.1) hS ?_
                  simp only [Act.put, List.setIfInBounds_toArray, List.set_cons_succ, List.set_cons_zero]
                  refine takeH (i := 5) (some 162) rfl rfl (by kernel_rfl) (by kernel_rfl) (by kernel_rfl) (fun _ _ _ h => h) (gRun (by kernel_rfl) (.slice (some ⟨fb, fo, none⟩) n0 cap0) fun _ h => run_mvZ (.tmp 0) rfl (.slice (some ⟨fb, fo, none⟩) n0 cap0) rfl) hS ?_
                  simp only [Act.put, List.setIfInBounds_toArray, List.set_cons_succ, List.set_cons_zero]
                  refine takeH (i := 6) (some 163) rfl rfl (by kernel_rfl) (by kernel_rfl) (by kernel_rfl) (fun _ _ _ h => h) (gRun (by kernel_rfl) (.int .i64 (j : Nat)) fun _ h => run_mvZ (.tmp 20) rfl (.int .i64 (j : Nat)) rfl) hS ?_
                  simp only [Act.put, List.setIfInBounds_toArray, List.set_cons_succ, List.set_cons_zero]
                  refine takeH (i := 7) (some 164) rfl rfl (by kernel_rfl) (by kernel_rfl) (by kernel_rfl) (fun _ _ _ h => h) (gRun (by kernel_rfl) (.pointer (some ⟨fb, fo + j, none⟩)) fun _ h => run_ix50 (.tmp 162) (.tmp 163) rfl fb fo n0 cap0 j rfl rfl hj) hS ?_
                  simp only [Act.put, List.setIfInBounds_toArray, List.set_cons_succ, List.set_cons_zero]
                  refine takeH (i := 8) (some 165) rfl rfl (by kernel_rfl) (by kernel_rfl) (by kernel_rfl) (fun _ _ _ h => h) (gRun (by kernel_rfl) (.slice pu ul cu) fun _ h => run_load1 o38' (.tmp 164) rfl fb (fo + j) rfl (.slice pu ul cu) h.2.1) hS ?_
                  simp only [Act.put, List.setIfInBounds_toArray, List.set_cons_succ, List.set_cons_zero]
                  refine takeH (i := 9) (some 166) rfl rfl (by kernel_rfl) (by kernel_rfl) (by kernel_rfl) (fun _ _ _ h => h) (gRun (by kernel_rfl) (.string (strOfNums ((first.getD j []).map Int.ofNat))) fun _ h => run_str (.tmp 165) rfl (.slice pu ul cu) (first.getD j []) rfl h.2.2) hS ?_
                  simp only [Act.put, List.setIfInBounds_toArray, List.set_cons_succ, List.set_cons_zero]
                  refine takeH (i := 10) (some 167) rfl rfl (by kernel_rfl) (by kernel_rfl) (by kernel_rfl) (fun _ _ _ h => h) (gRun (by kernel_rfl) (.bool false) fun _ h => run_neS (.tmp 161) (.tmp 166) rfl _ _ rfl rfl rfl) hS ?_
                  simp only [Act.put, List.setIfInBounds_toArray, List.set_cons_succ, List.set_cons_zero]
                  refine takeH (i := 11) (some 168) rfl rfl (by kernel_rfl) (by kernel_rfl) (by kernel_rfl) (fun _ _ _ h => h) (gRun rfl (.bool false) fun _ h => run_pickZ (.tmp 159) (.const (.bool true)) (.tmp 167) rfl false (.bool false) rfl rfl) hS ?_
                  simp only [Act.put, List.setIfInBounds_toArray, List.set_cons_succ, List.set_cons_zero]
                  refine wpAnyH_done (by kernel_rfl) ?_ _
                  have HV : Hid (PgW w Z c8 gq g (m7.boot ks) [210] [] 0 26 L2 L2.used X 107) := hP
                  clear hS hP HC
                  have hk9 := HKK.out.2
                  go_upto_region 39 with fail
                  refine wp_region_lit ?_
                  refine wl rfl (.int .i64 (k : Nat)) _ (run_mvZ (.tmp 19) rfl (.int .i64 (k : Nat)) rfl) ?_
                  simp only [Act.put, List.setIfInBounds_toArray, List.set_cons_succ, List.set_cons_zero]
                  refine wl rfl (.int .i64 ((k + 1 : Nat) : Int)) _ (run_addI (.tmp 169) (.const (.int .i64 1)) rfl _ 1 ((k + 1 : Nat) : Int) rfl (by omega) (by omega) rfl rfl) ?_
                  simp only [Act.put, List.setIfInBounds_toArray, List.set_cons_succ, List.set_cons_zero]
                  refine wl rfl (.int .i64 ((k + 1 : Nat) : Int)) _ (run_asZ (.tmp 170) rfl (.int .i64 ((k + 1 : Nat) : Int)) rfl) ?_
                  simp only [Act.put, List.setIfInBounds_toArray, List.set_cons_succ, List.set_cons_zero]
                  refine wpList_nil ?_
                  go_wp2_with fail
                  refine ⟨⟨j + 1, by go_num, by rw [HO.out, List.length_append, ← HKK.out.1]; rfl, HV.out⟩, ?_⟩
                  simp [intOf]; omega
              · have h1 : decide ((j : Int) < (n0 : Int)) = true := decide_eq_true (by omega)
                have h2 : decide ((j : Int) < (9 : Int)) = false := decide_eq_false (by omega)
                go_upto_region 33 with fail
                refine wp_region_lit ?_
                refine wl rfl (.int .i64 (j : Nat)) _ (run_mvZ (.tmp 20) rfl (.int .i64 (j : Nat)) rfl) ?_
                simp only [Act.put, List.setIfInBounds_toArray, List.set_cons_succ, List.set_cons_zero]
                refine wl rfl (.slice p0 n0 cap0) _ (run_mvZ (.tmp 0) rfl (.slice p0 n0 cap0) rfl) ?_
                simp only [Act.put, List.setIfInBounds_toArray, List.set_cons_succ, List.set_cons_zero]
                refine wl rfl (.int .i64 (n0 : Nat)) _ (run_lenZ sl50 (.tmp 136) rfl p0 n0 cap0 rfl) ?_
                simp only [Act.put, List.setIfInBounds_toArray, List.set_cons_succ, List.set_cons_zero]
                refine wl rfl (.bool true) _ (run_lssZ (.tmp 135) (.tmp 137) rfl _ _ rfl rfl true h1) ?_
                simp only [Act.put, List.setIfInBounds_toArray, List.set_cons_succ, List.set_cons_zero]
                refine wl rfl (.bool true) _ (run_mvZ (.tmp 138) rfl (.bool true) rfl) ?_
                simp only [Act.put, List.setIfInBounds_toArray, List.set_cons_succ, List.set_cons_zero]
                refine wl (by kernel_rfl) (.int .i64 (j : Nat)) _ (run_mvZ (.tmp 20) rfl (.int .i64 (j : Nat)) rfl) ?_
                simp only [Act.put, List.setIfInBounds_toArray, List.set_cons_succ, List.set_cons_zero]
                refine wl (by kernel_rfl) (.bool false) _ (run_lssZ (.tmp 140) (.const (.int .i64 9)) rfl _ _ rfl rfl false h2) ?_
                simp only [Act.put, List.setIfInBounds_toArray, List.set_cons_succ, List.set_cons_zero]
                refine wl rfl (.bool false) _ (run_pickZ (.tmp 139) (.tmp 141) (.const (.bool false)) rfl true (.bool false) rfl rfl) ?_
                simp only [Act.put, List.setIfInBounds_toArray, List.set_cons_succ, List.set_cons_zero]
                refine wpList_nil ?_
                go_wp2_with fail
                rw [HPQ.out]
                exact ⟨rfl, HJ.out.pl.below⟩
            · have h1 : decide ((j : Int) < (n0 : Int)) = false := decide_eq_false (by omega)
              go_upto_region 33 with fail
              refine wp_region_lit ?_
              refine wl rfl (.int .i64 (j : Nat)) _ (run_mvZ (.tmp 20) rfl (.int .i64 (j : Nat)) rfl) ?_
              simp only [Act.put, List.setIfInBounds_toArray, List.set_cons_succ, List.set_cons_zero]
              refine wl rfl (.slice p0 n0 cap0) _ (run_mvZ (.tmp 0) rfl (.slice p0 n0 cap0) rfl) ?_
              simp only [Act.put, List.setIfInBounds_toArray, List.set_cons_succ, List.set_cons_zero]
              refine wl rfl (.int .i64 (n0 : Nat)) _ (run_lenZ sl50 (.tmp 136) rfl p0 n0 cap0 rfl) ?_
              simp only [Act.put, List.setIfInBounds_toArray, List.set_cons_succ, List.set_cons_zero]
              refine wl rfl (.bool false) _ (run_lssZ (.tmp 135) (.tmp 137) rfl _ _ rfl rfl false h1) ?_
              simp only [Act.put, List.setIfInBounds_toArray, List.set_cons_succ, List.set_cons_zero]
              refine wl rfl (.bool false) _ (run_mvZ (.tmp 138) rfl (.bool false) rfl) ?_
              simp only [Act.put, List.setIfInBounds_toArray, List.set_cons_succ, List.set_cons_zero]
              refine wpList_skip (by kernel_rfl) ?_
              simp only [Act.put, List.setIfInBounds_toArray, List.set_cons_succ, List.set_cons_zero]
              refine wpList_skip (by kernel_rfl) ?_
              simp only [Act.put, List.setIfInBounds_toArray, List.set_cons_succ, List.set_cons_zero]
              refine wl rfl (.bool false) _ (run_pickZ (.tmp 139) (.tmp 141) (.const (.bool false)) rfl false (.bool false) rfl rfl) ?_
              simp only [Act.put, List.setIfInBounds_toArray, List.set_cons_succ, List.set_cons_zero]
              refine wpList_nil ?_
              go_wp2_with fail
              rw [HPQ.out]
              exact ⟨rfl, HJ.out.pl.below⟩
      · have h2 : decide (f < 0) = false := decide_eq_false hneg
        obtain ⟨fn, hfn⟩ : ∃ fn : Nat, f = (fn : Int) := ⟨f.toNat, by omega⟩
        subst hfn
        go_upto_region 19 with fail
        refine wp_region_lit ?_
        refine wl rfl (.int .i64 (fn : Nat)) _ (run_mvZ (.tmp 1) rfl (.int .i64 (fn : Nat)) rfl) ?_
        simp only [Act.put, List.setIfInBounds_toArray, List.set_cons_succ, List.set_cons_zero]
        refine wl rfl (.bool false) _ (run_lssZ (.tmp 86) (.const (.int .i64 0)) rfl _ 0 rfl rfl false h2) ?_
        simp only [Act.put, List.setIfInBounds_toArray, List.set_cons_succ, List.set_cons_zero]
        refine wpList_nil ?_
        have hn9 := HS.out.n9
        have h4 : fn % 4 < 4 := Nat.mod_lt _ (by decide)
        go_upto_region 21 with fail
        refine wp_region_lit ?_
        refine wl rfl (ptr g) _ (run_mvZ (.tmp 8) rfl (ptr g) rfl) ?_
        simp only [Act.put, List.setIfInBounds_toArray, List.set_cons_succ, List.set_cons_zero]
        refine wl rfl (.int .i64 (fn : Nat)) _ (run_mvZ (.tmp 1) rfl (.int .i64 (fn : Nat)) rfl) ?_
        simp only [Act.put, List.setIfInBounds_toArray, List.set_cons_succ, List.set_cons_zero]
        refine wl rfl (.int .i64 ((fn % 4 : Nat) : Int)) _ (run_rem4 (.tmp 92) rfl fn rfl) ?_
        simp only [Act.put, List.setIfInBounds_toArray, List.set_cons_succ, List.set_cons_zero]
        refine wpList_callW eN25 [.tmp 91, .tmp 93] _ rfl rfl [(ptr g), (.int .i64 ((fn % 4 : Nat) : Int))] rfl ?_
        refine (PlW.fuse HS.out.st.pl ((fn % 4 : Nat) : Int) (by omega) (by omega) 0).mono ?_
        rintro e W6 ⟨rfl, c6, _, h_⟩
        refine ⟨_, rfl, ?_⟩
        have H6 : Hid (PlW w W6 c6 g (m.fuseTo ((fn % 4 : Nat) : Int)) [210] [] 105 ∧ PgO (m.fuseTo ((fn % 4 : Nat) : Int)) 0 26 L (firstU n) X) := ⟨h_.mono (by have := HS.out.le9; omega), HS.out.st.o.fused _ (by omega) (by omega)⟩
        clear h_ h4
        simp only [Act.put, List.setIfInBounds_toArray, List.set_cons_succ, List.set_cons_zero]
        refine wpList_nil ?_
        go_upto_region 22 with fail
        refine wp_region_lit ?_
        refine wl rfl (ptr g) _ (run_mvZ (.tmp 8) rfl (ptr g) rfl) ?_
        simp only [Act.put, List.setIfInBounds_toArray, List.set_cons_succ, List.set_cons_zero]
        refine wpList_callW eN11 [.tmp 95, .const (.int .i64 0)] _ rfl rfl [(ptr g), .int .i64 0] rfl ?_
        refine (PlW.formatCrash H6.out.1 (by decide) (by decide) H6.out.2).mono ?_
        rintro e W7 ⟨d, c7, m7, rfl, h_, o_⟩
        refine ⟨_, rfl, ?_⟩
        have H7 : Hid (PlW w W7 c7 g m7 [210] [] 107 ∧ ∃ L2, PgO (m7.boot ks) 0 26 L2 L2.used X ∧ ((L2.used = noneP ∧ L2.root = -1) ∨ (d = 2 ∧ L2 = L))) := ⟨h_, o_ ks⟩
        clear h_ o_ H6
        simp only [Act.put, List.setIfInBounds_toArray, List.set_cons_succ, List.set_cons_zero]
        refine wl rfl (.int .i64 d) _ (run_asZ (.tmp 96) rfl (.int .i64 d) rfl) ?_
        simp only [Act.put, List.setIfInBounds_toArray, List.set_cons_succ, List.set_cons_zero]
        refine wpList_nil ?_
        go_upto_region 23 with fail
        refine wp_region_lit ?_
        refine wl rfl (ptr g) _ (run_mvZ (.tmp 8) rfl (ptr g) rfl) ?_
        simp only [Act.put, List.setIfInBounds_toArray, List.set_cons_succ, List.set_cons_zero]
        refine wl rfl vk _ (run_mvZ (.tmp 2) rfl vk rfl) ?_
        simp only [Act.put, List.setIfInBounds_toArray, List.set_cons_succ, List.set_cons_zero]
        refine wpList_callW eN26 [.tmp 97, .tmp 98] _ rfl rfl [(ptr g), vk] rfl ?_
        refine (PlW.boot H7.out.1 (by decide) _ ks (IntsIn.keep HK.out H7.out.1.below H7.out.1.cc) 0).mono ?_
        rintro e W8 ⟨rfl, c8, _, h_⟩
        refine ⟨_, rfl, ?_⟩
        obtain ⟨L2, o_, a_⟩ := H7.out.2
        have HA : Hid ((L2.used = noneP ∧ L2.root = -1) ∨ (d = 2 ∧ 0 < n ∧ L2 = L)) := by
          rcases a_ with a_ | ⟨a1, a2⟩
          · exact Or.inl a_
          · rcases Nat.eq_zero_or_pos n with hz | hz
            · refine Or.inl ⟨?_, ?_⟩
              · rw [a2, HS.out.used, hz]; rfl
              · rw [a2, HS.out.root, hz]; rfl
            · exact Or.inr ⟨a1, hz, a2⟩
        have H8 : Hid (PlW w W8 c8 g (m7.boot ks) [210] [] 107 ∧ PgO (m7.boot ks) 0 26 L2 L2.used X) := ⟨h_, o_⟩
        clear h_ o_ a_ H7
        simp only [Act.put, List.setIfInBounds_toArray, List.set_cons_succ, List.set_cons_zero]
        refine wpList_nil ?_
        go_upto_region 24 with fail
        refine wp_region_lit ?_
        refine wl rfl (ptr g) _ (run_mvZ (.tmp 8) rfl (ptr g) rfl) ?_
        simp only [Act.put, List.setIfInBounds_toArray, List.set_cons_succ, List.set_cons_zero]
        refine wpList_callW eN13 [.tmp 101, .const (.int .i64 0)] _ rfl rfl [(ptr g), .int .i64 0] rfl ?_
        refine (PlW.openZ H8.out.1 (by decide) (by decide) H8.out.2).mono ?_
        rintro e W9 ⟨gq, rfl, b_, h_⟩
        refine ⟨_, rfl, ?_⟩
        have H9 : Hid (PgW w W9 c8 gq g (m7.boot ks) [210] [] 0 26 L2 L2.used X 107) := h_
        clear h_ b_ H8
        simp only [Act.put, List.setIfInBounds_toArray, List.set_cons_succ, List.set_cons_zero]
        refine wl rfl (.tuple #[(ptr gq), (.int .i64 0)]) _ (run_mvZ (.tmp 102) rfl (.tuple #[(ptr gq), (.int .i64 0)]) rfl) ?_
        simp only [Act.put, List.setIfInBounds_toArray, List.set_cons_succ, List.set_cons_zero]
        refine wl rfl (ptr gq) _ (run_extZ (.tmp 100) 0 rfl #[(ptr gq), (.int .i64 0)] rfl (ptr gq) rfl) ?_
        simp only [Act.put, List.setIfInBounds_toArray, List.set_cons_succ, List.set_cons_zero]
        refine wl rfl (.int .i64 0) _ (run_extZ (.tmp 100) 1 rfl #[(ptr gq), (.int .i64 0)] rfl (.int .i64 0) rfl) ?_
        simp only [Act.put, List.setIfInBounds_toArray, List.set_cons_succ, List.set_cons_zero]
        refine wl rfl (ptr gq) _ (run_asZ (.tmp 103) rfl (ptr gq) rfl) ?_
        simp only [Act.put, List.setIfInBounds_toArray, List.set_cons_succ, List.set_cons_zero]
        refine wl rfl (.int .i64 0) _ (run_asZ (.tmp 104) rfl (.int .i64 0) rfl) ?_
        simp only [Act.put, List.setIfInBounds_toArray, List.set_cons_succ, List.set_cons_zero]
        refine wpList_nil ?_
        go_upto_region 25 with fail
        refine wp_region_lit ?_
        refine wl rfl (ptr gq) _ (run_mvZ (.tmp 11) rfl (ptr gq) rfl) ?_
        simp only [Act.put, List.setIfInBounds_toArray, List.set_cons_succ, List.set_cons_zero]
        refine wl rfl (.bool false) _ (run_binOp' (.tmp 105) (.const (.pointer none)) rfl _ _ _ rfl rfl rfl (by kernel_rfl)) ?_
        simp only [Act.put, List.setIfInBounds_toArray, List.set_cons_succ, List.set_cons_zero]
        refine wl rfl (.bool false) _ (run_mvZ (.tmp 106) rfl (.bool false) rfl) ?_
        simp only [Act.put, List.setIfInBounds_toArray, List.set_cons_succ, List.set_cons_zero]
        refine wl (by kernel_rfl) (.int .i64 0) _ (run_mvZ (.tmp 12) rfl (.int .i64 0) rfl) ?_
        simp only [Act.put, List.setIfInBounds_toArray, List.set_cons_succ, List.set_cons_zero]
        refine wl (by kernel_rfl) (.bool false) _ (run_neZ (.tmp 108) (.const (.int .i64 0)) rfl (0) (0) rfl rfl false rfl) ?_
        simp only [Act.put, List.setIfInBounds_toArray, List.set_cons_succ, List.set_cons_zero]
        refine wl rfl (.bool false) _ (run_pickZ (.tmp 107) (.const (.bool true)) (.tmp 109) rfl false (.bool false) rfl rfl) ?_
        simp only [Act.put, List.setIfInBounds_toArray, List.set_cons_succ, List.set_cons_zero]
        refine wpList_nil ?_
        rcases HA.out with ⟨a1, a2⟩ | ⟨a1, a2, a3⟩
        · have hR : Hid (roomTo L2 L2.used 26 = 26) := by show _ = _; rw [a1, room_used L2 (hdU noneP) a1]; exact roomF 0
          go_upto_region 27 with fail
          refine wp_region_lit ?_
          refine wl rfl (ptr gq) _ (run_mvZ (.tmp 11) rfl (ptr gq) rfl) ?_
          simp only [Act.put, List.setIfInBounds_toArray, List.set_cons_succ, List.set_cons_zero]
          refine wpList_callW eN27 [.tmp 111] _ (by kernel_rfl) rfl [(ptr gq)] rfl ?_
          refine (show Calls Tryd.prog 27 #[ptr gq] W9 fun e W' => e = .returned (.int .i64 (-1)) ∧ W9 = W' from (by have h := H9.out.root; rw [a2] at h; exact h)).mono ?_
          rintro e W_ ⟨rfl, rfl⟩
          refine ⟨_, rfl, ?_⟩
          simp only [Act.put, List.setIfInBounds_toArray, List.set_cons_succ, List.set_cons_zero]
          refine wl rfl (.bool true) _ (run_eqZ (.tmp 112) (.const (.int .i64 (-1))) rfl (-1) (-1) rfl rfl true rfl) ?_
          simp only [Act.put, List.setIfInBounds_toArray, List.set_cons_succ, List.set_cons_zero]
          refine wl rfl (.bool true) _ (run_mvZ (.tmp 113) rfl (.bool true) rfl) ?_
          simp only [Act.put, List.setIfInBounds_toArray, List.set_cons_succ, List.set_cons_zero]
          refine wl (by kernel_rfl) (ptr gq) _ (run_mvZ (.tmp 11) rfl (ptr gq) rfl) ?_
          simp only [Act.put, List.setIfInBounds_toArray, List.set_cons_succ, List.set_cons_zero]
          refine wpList_callW eN29 [.tmp 115] _ (by kernel_rfl) rfl [(ptr gq)] rfl ?_
          refine (show Calls Tryd.prog 29 #[ptr gq] W9 fun e W' => e = .returned (.int .i64 26) ∧ Below W9.heap.size W9 W' from (by have h := H9.out.room; rw [hR.out] at h; exact h)).mono ?_
          rintro e W10 ⟨rfl, b_⟩
          refine ⟨_, rfl, ?_⟩
          have HZ : Hid (Below w.heap.size w W10) := (H9.out.bel b_).pl.below
          clear b_
          simp only [Act.put, List.setIfInBounds_toArray, List.set_cons_succ, List.set_cons_zero]
          refine wl (by kernel_rfl) (.bool true) _ (run_eqZ (.tmp 116) (.const (.int .i64 26)) rfl (26) (26) rfl rfl true rfl) ?_
          simp only [Act.put, List.setIfInBounds_toArray, List.set_cons_succ, List.set_cons_zero]
          refine wl rfl (.bool true) _ (run_pickZ (.tmp 114) (.tmp 117) (.const (.bool false)) rfl true (.bool true) rfl rfl) ?_
          simp only [Act.put, List.setIfInBounds_toArray, List.set_cons_succ, List.set_cons_zero]
          refine wpList_nil ?_
          go_wp2_with fail
          rw [HPQ.out]
          exact ⟨rfl, HZ.out⟩
        · subst a1 a3
          have hR : Hid (roomTo L2 L2.used 26 = 26 - n) := by show _ = _; rw [HS.out.used, room_used L2 (hdU (firstU n)) HS.out.used]; exact roomF ⟨n, by omega⟩
          have hd : decide ((n : Int) - 1 = -1) = false := decide_eq_false (by omega)
          go_upto_region 27 with fail
          refine wp_region_lit ?_
          refine wl rfl (ptr gq) _ (run_mvZ (.tmp 11) rfl (ptr gq) rfl) ?_
          simp only [Act.put, List.setIfInBounds_toArray, List.set_cons_succ, List.set_cons_zero]
          refine wpList_callW eN27 [.tmp 111] _ (by kernel_rfl) rfl [(ptr gq)] rfl ?_
          refine (show Calls Tryd.prog 27 #[ptr gq] W9 fun e W' => e = .returned (.int .i64 ((n : Int) - 1)) ∧ W9 = W' from (by have h := H9.out.root; rw [HS.out.root] at h; exact h)).mono ?_
          rintro e W_ ⟨rfl, rfl⟩
          refine ⟨_, rfl, ?_⟩
          simp only [Act.put, List.setIfInBounds_toArray, List.set_cons_succ, List.set_cons_zero]
          refine wl rfl (.bool false) _ (run_eqZ (.tmp 112) (.const (.int .i64 (-1))) rfl _ _ rfl rfl false hd) ?_
          simp only [Act.put, List.setIfInBounds_toArray, List.set_cons_succ, List.set_cons_zero]
          refine wl rfl (.bool false) _ (run_mvZ (.tmp 113) rfl (.bool false) rfl) ?_
          simp only [Act.put, List.setIfInBounds_toArray, List.set_cons_succ, List.set_cons_zero]
          refine wpList_skip (by kernel_rfl) ?_
          simp only [Act.put, List.setIfInBounds_toArray, List.set_cons_succ, List.set_cons_zero]
          refine wpList_skip (by kernel_rfl) ?_
          simp only [Act.put, List.setIfInBounds_toArray, List.set_cons_succ, List.set_cons_zero]
          refine wpList_skip (by kernel_rfl) ?_
          simp only [Act.put, List.setIfInBounds_toArray, List.set_cons_succ, List.set_cons_zero]
          refine wl rfl (.bool false) _ (run_pickZ (.tmp 114) (.tmp 117) (.const (.bool false)) rfl false (.bool false) rfl rfl) ?_
          simp only [Act.put, List.setIfInBounds_toArray, List.set_cons_succ, List.set_cons_zero]
          refine wpList_nil ?_
          have he : (!decide ((n : Int) - 1 = (n : Int) - 1)) = false := by rw [decide_eq_true rfl]; rfl
          have hg : (!decide (((26 - n : Nat) : Int) = ((26 - n : Nat) : Int))) = false := by rw [decide_eq_true rfl]; rfl
          go_upto_region 29 with fail
          refine wp_region_lit ?_
          refine wl rfl (.int .i64 2) _ (run_mvZ (.tmp 18) rfl (.int .i64 2) rfl) ?_
          simp only [Act.put, List.setIfInBounds_toArray, List.set_cons_succ, List.set_cons_zero]
          refine wl rfl (.bool false) _ (run_eqZ (.tmp 119) (.const (.int .i64 0)) rfl (2) (0) rfl rfl false rfl) ?_
          simp only [Act.put, List.setIfInBounds_toArray, List.set_cons_succ, List.set_cons_zero]
          refine wl rfl (.bool false) _ (run_mvZ (.tmp 120) rfl (.bool false) rfl) ?_
          simp only [Act.put, List.setIfInBounds_toArray, List.set_cons_succ, List.set_cons_zero]
          refine wl (by kernel_rfl) (ptr gq) _ (run_mvZ (.tmp 11) rfl (ptr gq) rfl) ?_
          simp only [Act.put, List.setIfInBounds_toArray, List.set_cons_succ, List.set_cons_zero]
          refine wpList_callW eN27 [.tmp 122] _ (by kernel_rfl) rfl [(ptr gq)] rfl ?_
          refine (show Calls Tryd.prog 27 #[ptr gq] W9 fun e W' => e = .returned (.int .i64 ((n : Int) - 1)) ∧ W9 = W' from (by have h := H9.out.root; rw [HS.out.root] at h; exact h)).mono ?_
          rintro e W_ ⟨rfl, rfl⟩
          refine ⟨_, rfl, ?_⟩
          simp only [Act.put, List.setIfInBounds_toArray, List.set_cons_succ, List.set_cons_zero]
          refine wl (by kernel_rfl) (.int .i64 (n : Nat)) _ (run_mvZ (.tmp 13) rfl (.int .i64 (n : Nat)) rfl) ?_
          simp only [Act.put, List.setIfInBounds_toArray, List.set_cons_succ, List.set_cons_zero]
          refine wl (by kernel_rfl) (.int .i64 ((n : Int) - 1)) _ (run_subI (.tmp 124) (.const (.int .i64 1)) rfl _ 1 ((n : Int) - 1) rfl (by omega) (by omega) rfl rfl) ?_
          simp only [Act.put, List.setIfInBounds_toArray, List.set_cons_succ, List.set_cons_zero]
          refine wl (by kernel_rfl) (.bool false) _ (run_neZ (.tmp 123) (.tmp 125) rfl _ _ rfl rfl false he) ?_
          simp only [Act.put, List.setIfInBounds_toArray, List.set_cons_succ, List.set_cons_zero]
          refine wl rfl (.bool false) _ (run_pickZ (.tmp 121) (.const (.bool true)) (.tmp 126) rfl false (.bool false) rfl rfl) ?_
          simp only [Act.put, List.setIfInBounds_toArray, List.set_cons_succ, List.set_cons_zero]
          refine wl rfl (.bool false) _ (run_mvZ (.tmp 127) rfl (.bool false) rfl) ?_
          simp only [Act.put, List.setIfInBounds_toArray, List.set_cons_succ, List.set_cons_zero]
          refine wl (by kernel_rfl) (ptr gq) _ (run_mvZ (.tmp 11) rfl (ptr gq) rfl) ?_
          simp only [Act.put, List.setIfInBounds_toArray, List.set_cons_succ, List.set_cons_zero]
          refine wpList_callW eN29 [.tmp 129] _ (by kernel_rfl) rfl [(ptr gq)] rfl ?_
          refine (show Calls Tryd.prog 29 #[ptr gq] W9 fun e W' => e = .returned (.int .i64 ((26 - n : Nat) : Int)) ∧ Below W9.heap.size W9 W' from (by have h := H9.out.room; rw [hR.out] at h; exact h)).mono ?_
          rintro e W10 ⟨rfl, b_⟩
          refine ⟨_, rfl, ?_⟩
          have H10 : Hid (PgW w W10 c8 gq g (m7.boot ks) [210] [] 0 26 L2 L2.used X 107) := H9.out.bel b_
          clear b_ H9
          simp only [Act.put, List.setIfInBounds_toArray, List.set_cons_succ, List.set_cons_zero]
          refine wl (by kernel_rfl) (.int .i64 (n : Nat)) _ (run_mvZ (.tmp 13) rfl (.int .i64 (n : Nat)) rfl) ?_
          simp only [Act.put, List.setIfInBounds_toArray, List.set_cons_succ, List.set_cons_zero]
          refine wl (by kernel_rfl) (.int .i64 ((26 - n : Nat) : Int)) _ (run_subI (.const (.int .i64 26)) (.tmp 131) rfl 26 _ ((26 - n : Nat) : Int) (by omega) (by omega) (by omega) rfl rfl) ?_
          simp only [Act.put, List.setIfInBounds_toArray, List.set_cons_succ, List.set_cons_zero]
          refine wl (by kernel_rfl) (.bool false) _ (run_neZ (.tmp 130) (.tmp 132) rfl _ _ rfl rfl false hg) ?_
          simp only [Act.put, List.setIfInBounds_toArray, List.set_cons_succ, List.set_cons_zero]
          refine wl rfl (.bool false) _ (run_pickZ (.tmp 128) (.const (.bool true)) (.tmp 133) rfl false (.bool false) rfl rfl) ?_
          simp only [Act.put, List.setIfInBounds_toArray, List.set_cons_succ, List.set_cons_zero]
          refine wpList_nil ?_
          go_upto_region 31 with fail
          refine wp_region_lit ?_
          refine wl rfl (.int .i64 0) _ (run_asZ (.const (.int .i64 0)) rfl (.int .i64 0) rfl) ?_
          simp only [Act.put, List.setIfInBounds_toArray, List.set_cons_succ, List.set_cons_zero]
          refine wpList_nil ?_
          go_upto_region 32 with fail
          refine wp_region_lit ?_
          refine wl rfl (.int .i64 0) _ (run_asZ (.const (.int .i64 0)) rfl (.int .i64 0) rfl) ?_
          simp only [Act.put, List.setIfInBounds_toArray, List.set_cons_succ, List.set_cons_zero]
          refine wpList_nil ?_
          have HX : Hid ((∀ k, k < n → X k = imOf ((oks (first.take i)).getD k []) ∧ hasP L2.used (k : Int) = true) ∧ n = (oks (first.take i)).length ∧ i ≤ 9) := by
            refine ⟨fun k hk => ⟨HS.out.img k hk, ?_⟩, HS.out.num, HS.out.le9⟩
            rw [HS.out.used]
            exact hasF ⟨n, by omega⟩ ⟨k, by omega⟩ hk
          clear hd he hg hR hn9 HS
          go_wp2_with fail
          go_loopw [19, 20] (fun vq vj W => ∃ j : Nat, vj = .int .i64 (j : Nat) ∧ vq = .int .i64 (((oks (first.take j)).length : Nat) : Int) ∧ PgW w W c8 gq g (m7.boot ks) [210] [] 0 26 L2 L2.used X 107) (fun _ vj _ => 9 - (intOf vj).toNat)
          case atStart => exact ⟨0, rfl, rfl, H10.out⟩
          case round =>
            obtain ⟨j, rfl, rfl, hst⟩ := hrel
            have HJ : Hid (PgW w wr c8 gq g (m7.boot ks) [210] [] 0 26 L2 L2.used X 107) := hst
            clear hst H10
            by_cases hj : j < n0
            · by_cases hj9 : j < 9
              · have h1 : decide ((j : Int) < (n0 : Int)) = true := decide_eq_true (by omega)
                have h2 : decide ((j : Int) < (9 : Int)) = true := decide_eq_true (by omega)
                go_upto_region 33 with fail
                refine wp_region_lit ?_
                refine wl rfl (.int .i64 (j : Nat)) _ (run_mvZ (.tmp 20) rfl (.int .i64 (j : Nat)) rfl) ?_
                simp only [Act.put, List.setIfInBounds_toArray, List.set_cons_succ, List.set_cons_zero]
                refine wl rfl (.slice p0 n0 cap0) _ (run_mvZ (.tmp 0) rfl (.slice p0 n0 cap0) rfl) ?_
                simp only [Act.put, List.setIfInBounds_toArray, List.set_cons_succ, List.set_cons_zero]
                refine wl rfl (.int .i64 (n0 : Nat)) _ (run_lenZ sl50 (.tmp 136) rfl p0 n0 cap0 rfl) ?_
                simp only [Act.put, List.setIfInBounds_toArray, List.set_cons_succ, List.set_cons_zero]
                refine wl rfl (.bool true) _ (run_lssZ (.tmp 135) (.tmp 137) rfl _ _ rfl rfl true h1) ?_
                simp only [Act.put, List.setIfInBounds_toArray, List.set_cons_succ, List.set_cons_zero]
                refine wl rfl (.bool true) _ (run_mvZ (.tmp 138) rfl (.bool true) rfl) ?_
                simp only [Act.put, List.setIfInBounds_toArray, List.set_cons_succ, List.set_cons_zero]
                refine wl (by kernel_rfl) (.int .i64 (j : Nat)) _ (run_mvZ (.tmp 20) rfl (.int .i64 (j : Nat)) rfl) ?_
                simp only [Act.put, List.setIfInBounds_toArray, List.set_cons_succ, List.set_cons_zero]
                refine wl (by kernel_rfl) (.bool true) _ (run_lssZ (.tmp 140) (.const (.int .i64 9)) rfl _ _ rfl rfl true h2) ?_
                simp only [Act.put, List.setIfInBounds_toArray, List.set_cons_succ, List.set_cons_zero]
                refine wl rfl (.bool true) _ (run_pickZ (.tmp 139) (.tmp 141) (.const (.bool false)) rfl true (.bool true) rfl rfl) ?_
                simp only [Act.put, List.setIfInBounds_toArray, List.set_cons_succ, List.set_cons_zero]
                refine wpList_nil ?_
                obtain ⟨fb, fo, pu, cu, hp0, hul, hu⟩ := HR.out.at j (by rw [← HN.out.1]; exact hj)
                subst hp0
                obtain ⟨hu1, hu2⟩ := hu wr HJ.out.pl.below
                obtain ⟨ul, hue⟩ : ∃ ul, ul = (first.getD j []).length := ⟨_, rfl⟩
                rw [← hue] at hu1 hu2 hul
                have HU : Hid (wr.cell? ⟨fb, fo + j, none⟩ = some (.slice pu ul cu) ∧ SliceIn wr (.slice pu ul cu) (first.getD j []) ∧ ul = (first.getD j []).length) := ⟨hu1, hu2, hue⟩
                clear hu1 hu2 hue
                by_cases h5 : 500 < ul
                · have h5d : decide ((500 : Int) < (ul : Int)) = true := decide_eq_true (by omega)
                  go_upto_region 35 with fail
                  refine wp_region_lit ?_
                  refine wl rfl (.slice (some ⟨fb, fo, none⟩) n0 cap0) _ (run_mvZ (.tmp 0) rfl (.slice (some ⟨fb, fo, none⟩) n0 cap0) rfl) ?_
                  simp only [Act.put, List.setIfInBounds_toArray, List.set_cons_succ, List.set_cons_zero]
                  refine wl rfl (.int .i64 (j : Nat)) _ (run_mvZ (.tmp 20) rfl (.int .i64 (j : Nat)) rfl) ?_
                  simp only [Act.put, List.setIfInBounds_toArray, List.set_cons_succ, List.set_cons_zero]
                  refine wl rfl (.pointer (some ⟨fb, fo + j, none⟩)) _ (run_ix50 (.tmp 145) (.tmp 146) rfl fb fo n0 cap0 j rfl rfl hj) ?_
                  simp only [Act.put, List.setIfInBounds_toArray, List.set_cons_succ, List.set_cons_zero]
                  refine wl rfl (.slice pu ul cu) _ (run_load1 o38' (.tmp 147) rfl fb (fo + j) rfl (.slice pu ul cu) HU.out.1) ?_
                  simp only [Act.put, List.setIfInBounds_toArray, List.set_cons_succ, List.set_cons_zero]
                  refine wl rfl (.int .i64 (ul : Nat)) _ (run_lenZ sl38 (.tmp 148) rfl pu ul cu rfl) ?_
                  simp only [Act.put, List.setIfInBounds_toArray, List.set_cons_succ, List.set_cons_zero]
                  refine wl rfl (.bool true) _ (run_gtrZ (.tmp 149) (.const (.int .i64 500)) rfl _ _ rfl rfl true h5d) ?_
                  simp only [Act.put, List.setIfInBounds_toArray, List.set_cons_succ, List.set_cons_zero]
                  refine wpList_nil ?_
                  have HO : Hid (oks (first.take (j + 1)) = oks (first.take j)) := oks_no first j (by rw [← HN.out.1]; exact hj) (by rw [← HU.out.2.2]; exact h5)
                  clear HU
                  go_wp2_with fail
                  refine ⟨⟨j + 1, by go_num, by rw [HO.out], HJ.out⟩, ?_⟩
                  simp [intOf]; omega
                · have h5d : decide ((500 : Int) < (ul : Int)) = false := decide_eq_false (by omega)
                  go_upto_region 35 with fail
                  refine wp_region_lit ?_
                  refine wl rfl (.slice (some ⟨fb, fo, none⟩) n0 cap0) _ (run_mvZ (.tmp 0) rfl (.slice (some ⟨fb, fo, none⟩) n0 cap0) rfl) ?_
                  simp only [Act.put, List.setIfInBounds_toArray, List.set_cons_succ, List.set_cons_zero]
                  refine wl rfl (.int .i64 (j : Nat)) _ (run_mvZ (.tmp 20) rfl (.int .i64 (j : Nat)) rfl) ?_
                  simp only [Act.put, List.setIfInBounds_toArray, List.set_cons_succ, List.set_cons_zero]
                  refine wl rfl (.pointer (some ⟨fb, fo + j, none⟩)) _ (run_ix50 (.tmp 145) (.tmp 146) rfl fb fo n0 cap0 j rfl rfl hj) ?_
                  simp only [Act.put, List.setIfInBounds_toArray, List.set_cons_succ, List.set_cons_zero]
                  refine wl rfl (.slice pu ul cu) _ (run_load1 o38' (.tmp 147) rfl fb (fo + j) rfl (.slice pu ul cu) HU.out.1) ?_
                  simp only [Act.put, List.setIfInBounds_toArray, List.set_cons_succ, List.set_cons_zero]
                  refine wl rfl (.int .i64 (ul : Nat)) _ (run_lenZ sl38 (.tmp 148) rfl pu ul cu rfl) ?_
                  simp only [Act.put, List.setIfInBounds_toArray, List.set_cons_succ, List.set_cons_zero]
                  refine wl rfl (.bool false) _ (run_gtrZ (.tmp 149) (.const (.int .i64 500)) rfl _ _ rfl rfl false h5d) ?_
                  simp only [Act.put, List.setIfInBounds_toArray, List.set_cons_succ, List.set_cons_zero]
                  refine wpList_nil ?_
                  have HO : Hid (oks (first.take (j + 1)) = oks (first.take j) ++ [first.getD j []]) := oks_ok first j (by rw [← HN.out.1]; exact hj) (by rw [← HU.out.2.2]; omega)
                  have hji := HE.out j hj hj9
                  have hat := oks_at first j (by rw [← HN.out.1]; exact hj) (by rw [← HU.out.2.2]; omega) (i - (j + 1))
                  rw [show j + 1 + (i - (j + 1)) = i by omega, ← HX.out.2.1] at hat
                  obtain ⟨k, hk⟩ : ∃ k, k = (oks (first.take j)).length := ⟨_, rfl⟩
                  rw [← hk] at hat
                  have HKK : Hid (k = (oks (first.take j)).length ∧ k ≤ 9) := ⟨hk, by have := hat.1; have := oks_len first j; omega⟩
                  have HRD : Hid (Calls Tryd.prog 28 #[ptr gq, .int .i64 (k : Nat)] wr fun e W' => ∃ v, e = .returned (.tuple #[v, .int .i64 0]) ∧ Below wr.heap.size wr W' ∧ NewB wr W' v (first.getD j [])) := by
                    have h1 := HX.out.1 k hat.1
                    refine HJ.out.readOk (by decide) (k : Int) (first.getD j []) h1.2 ?_ (by rw [← HU.out.2.2]; omega)
                    rw [Int.toNat_natCast, h1.1, hat.2]
                  rw [← hk]
                  clear hk hat hji
                  go_upto_region 36 with fail
                  refine wp_region_lit ?_
                  refine wl rfl (ptr gq) _ (run_mvZ (.tmp 11) rfl (ptr gq) rfl) ?_
                  simp only [Act.put, List.setIfInBounds_toArray, List.set_cons_succ, List.set_cons_zero]
                  refine wl rfl (.int .i64 (k : Nat)) _ (run_mvZ (.tmp 19) rfl (.int .i64 (k : Nat)) rfl) ?_
                  simp only [Act.put, List.setIfInBounds_toArray, List.set_cons_succ, List.set_cons_zero]
                  refine wpList_callW eN28 [.tmp 152, .tmp 153] _ rfl rfl [(ptr gq), (.int .i64 (k : Nat))] rfl ?_
                  refine (HRD.out).mono ?_
                  rintro e W12 ⟨rv, rfl, b_, n_⟩
                  refine ⟨_, rfl, ?_⟩
                  have HC : Hid (PgW w W12 c8 gq g (m7.boot ks) [210] [] 0 26 L2 L2.used X 107 ∧ SliceIn W12 rv (first.getD j []) ∧ W12.cell? ⟨fb, fo + j, none⟩ = some (.slice pu ul cu) ∧ SliceIn W12 (.slice pu ul cu) (first.getD j [])) := ⟨HJ.out.bel b_, n_.slice HU.out.2.1.lt256 (by rw [← HU.out.2.2]; omega), by rw [← HU.out.1]; exact World.cell?_of_block (b_.block fb (block_lt_of_cell HU.out.1)), SliceIn.later b_ HU.out.2.1⟩
                  clear b_ n_ HRD HU HJ
                  simp only [Act.put, List.setIfInBounds_toArray, List.set_cons_succ, List.set_cons_zero]
                  refine wl rfl (.tuple #[rv, (.int .i64 0)]) _ (run_mvZ (.tmp 154) rfl (.tuple #[rv, (.int .i64 0)]) rfl) ?_
                  simp only [Act.put, List.setIfInBounds_toArray, List.set_cons_succ, List.set_cons_zero]
                  refine wl rfl rv _ (run_extZ (.tmp 151) 0 rfl #[rv, (.int .i64 0)] rfl rv rfl) ?_
                  simp only [Act.put, List.setIfInBounds_toArray, List.set_cons_succ, List.set_cons_zero]
                  refine wl rfl (.int .i64 0) _ (run_extZ (.tmp 151) 1 rfl #[rv, (.int .i64 0)] rfl (.int .i64 0) rfl) ?_
                  simp only [Act.put, List.setIfInBounds_toArray, List.set_cons_succ, List.set_cons_zero]
                  refine wl rfl rv _ (run_asZ (.tmp 155) rfl rv rfl) ?_
                  simp only [Act.put, List.setIfInBounds_toArray, List.set_cons_succ, List.set_cons_zero]
                  refine wl rfl (.int .i64 0) _ (run_asZ (.tmp 156) rfl (.int .i64 0) rfl) ?_
                  simp only [Act.put, List.setIfInBounds_toArray, List.set_cons_succ, List.set_cons_zero]
                  refine wpList_nil ?_
                  go_upto_region 37 with fail
                  refine wp_region_held (S := fun X => (SliceIn X rv (first.getD j []) ∧ X.cell? ⟨fb, fo + j, none⟩ = some (.slice pu ul cu) ∧ SliceIn X (.slice pu ul cu) (first.getD j []))) (by kernel_rfl) ?_
                  show wpAnyH _ _ _ _ _ 12 (Array.replicate 12 false) _ _
                  obtain ⟨Z, hX⟩ : ∃ Z : World, Z = { W12 with drawn := W12.drawn + 1 } := ⟨_, rfl⟩
                  rw [← hX]
                  have hS : SliceIn Z rv (first.getD j []) ∧ Z.cell? ⟨fb, fo + j, none⟩ = some (.slice pu ul cu) ∧ SliceIn Z (.slice pu ul cu) (first.getD j []) := by rw [hX]; exact HC.out.2
                  have hP : PgW w Z c8 gq g (m7.boot ks) [210] [] 0 26 L2 L2.used X 107 := by rw [hX]; exact HC.out.1.bel ⟨rfl, rfl, rfl, Nat.le_refl _, fun _ _ => rfl⟩
                  clear hX
                  refine takeH (i := 0) (some 157) rfl rfl (by kernel_rfl) (by kernel_rfl) (by kernel_rfl) (fun _ _ _ h => h) (gRun rfl (.int .i64 0) fun _ h => run_mvZ (.tmp 22) rfl (.int .i64 0) rfl) hS ?_
                  simp only [Act.put, List.setIfInBounds_toArray, List.set_cons_succ, List.set_cons_zero]
                  refine takeH (i := 1) (some 158) rfl rfl (by kernel_rfl) (by kernel_rfl) (by kernel_rfl) (fun _ _ _ h => h) (gRun rfl (.bool false) fun _ h => run_neZ (.tmp 157) (.const (.int .i64 0)) rfl (0) (0) rfl rfl false rfl) hS ?_
                  simp only [Act.put, List.setIfInBounds_toArray, List.set_cons_succ, List.set_cons_zero]
                  refine takeH (i := 2) (some 159) rfl rfl (by kernel_rfl) (by kernel_rfl) (by kernel_rfl) (fun _ _ _ h => h) (gRun rfl (.bool false) fun _ h => run_mvZ (.tmp 158) rfl (.bool false) rfl) hS ?_
                  simp only [Act.put, List.setIfInBounds_toArray, List.set_cons_succ, List.set_cons_zero]
                  refine takeH (i := 3) (some 160) rfl rfl (by kernel_rfl) (by kernel_rfl) (by kernel_rfl) (fun _ _ _ h => h) (gRun (by kernel_rfl) rv fun _ h => run_mvZ (.tmp 21) rfl rv rfl) hS ?_
                  simp only [Act.put, List.setIfInBounds_toArray, List.set_cons_succ, List.set_cons_zero]
                  refine takeH (i := 4) (some 161) rfl rfl (by kernel_rfl) (by kernel_rfl) (by kernel_rfl) (fun _ _ _ h => h) (gRun (by kernel_rfl) (.string (strOfNums ((first.getD j []).map Int.ofNat))) fun _ h => run_str (.tmp 160) rfl rv (first.getD j []) rfl h.1) hS ?_
                  simp only [Act.put, List.setIfInBounds_toArray, List.set_cons_succ, List.set_cons_zero]
                  refine takeH (i := 5) (some 162) rfl rfl (by kernel_rfl) (by kernel_rfl) (by kernel_rfl) (fun _ _ _ h => h) (gRun (by kernel_rfl) (.slice (some ⟨fb, fo, none⟩) n0 cap0) fun _ h => run_mvZ (.tmp 0) rfl (.slice (some ⟨fb, fo, none⟩) n0 cap0) rfl) hS ?_
                  simp only [Act.put, List.setIfInBounds_toArray, List.set_cons_succ, List.set_cons_zero]
                  refine takeH (i := 6) (some 163) rfl rfl (by kernel_rfl) (by kernel_rfl) (by kernel_rfl) (fun _ _ _ h => h) (gRun (by kernel_rfl) (.int .i64 (j : Nat)) fun _ h => run_mvZ (.tmp 20) rfl (.int .i64 (j : Nat)) rfl) hS ?_
                  simp only [Act.put, List.setIfInBounds_toArray, List.set_cons_succ, List.set_cons_zero]
                  refine takeH (i := 7) (some 164) rfl rfl (by kernel_rfl) (by kernel_rfl) (by kernel_rfl) (fun _ _ _ h => h) (gRun (by kernel_rfl) (.pointer (some ⟨fb, fo + j, none⟩)) fun _ h => run_ix50 (.tmp 162) (.tmp 163) rfl fb fo n0 cap0 j rfl rfl hj) hS ?_
                  simp only [Act.put, List.setIfInBounds_toArray, List.set_cons_succ, List.set_cons_zero]
                  refine takeH (i := 8) (some 165) rfl rfl (by kernel_rfl) (by kernel_rfl) (by kernel_rfl) (fun _ _ _ h => h) (gRun (by kernel_rfl) (.slice pu ul cu) fun _ h => run_load1 o38' (.tmp 164) rfl fb (fo + j) rfl (.slice pu ul cu) h.2.1) hS ?_
                  simp only [Act.put, List.setIfInBounds_toArray, List.set_cons_succ, List.set_cons_zero]
                  refine takeH (i := 9) (some 166) rfl rfl (by kernel_rfl) (by kernel_rfl) (by kernel_rfl) (fun _ _ _ h => h) (gRun (by kernel_rfl) (.string (strOfNums ((first.getD j []).map Int.ofNat))) fun _ h => run_str (.tmp 165) rfl (.slice pu ul cu) (first.getD j []) rfl h.2.2) hS ?_
                  simp only [Act.put, List.setIfInBounds_toArray, List.set_cons_succ, List.set_cons_zero]
                  refine takeH (i := 10) (some 167) rfl rfl (by kernel_rfl) (by kernel_rfl) (by kernel_rfl) (fun _ _ _ h => h) (gRun (by kernel_rfl) (.bool false) fun _ h => run_neS (.tmp 161) (.tmp 166) rfl _ _ rfl rfl rfl) hS ?_
                  simp only [Act.put, List.setIfInBounds_toArray, List.set_cons_succ, List.set_cons_zero]
                  refine takeH (i := 11) (some 168) rfl rfl (by kernel_rfl) (by kernel_rfl) (by kernel_rfl) (fun _ _ _ h => h) (gRun rfl (.bool false) fun _ h => run_pickZ (.tmp 159) (.const (.bool true)) (.tmp 167) rfl false (.bool false) rfl rfl) hS ?_
                  simp only [Act.put, List.setIfInBounds_toArray, List.set_cons_succ, List.set_cons_zero]
                  refine wpAnyH_done (by kernel_rfl) ?_ _
                  have HV : Hid (PgW w Z c8 gq g (m7.boot ks) [210] [] 0 26 L2 L2.used X 107) := hP
                  clear hS hP HC
                  have hk9 := HKK.out.2
                  go_upto_region 39 with fail
                  refine wp_region_lit ?_
                  refine wl rfl (.int .i64 (k : Nat)) _ (run_mvZ (.tmp 19) rfl (.int .i64 (k : Nat)) rfl) ?_
                  simp only [Act.put, List.setIfInBounds_toArray, List.set_cons_succ, List.set_cons_zero]
                  refine wl rfl (.int .i64 ((k + 1 : Nat) : Int)) _ (run_addI (.tmp 169) (.const (.int .i64 1)) rfl _ 1 ((k + 1 : Nat) : Int) rfl (by omega) (by omega) rfl rfl) ?_
                  simp only [Act.put, List.setIfInBounds_toArray, List.set_cons_succ, List.set_cons_zero]
                  refine wl rfl (.int .i64 ((k + 1 : Nat) : Int)) _ (run_asZ (.tmp 170) rfl (.int .i64 ((k + 1 : Nat) : Int)) rfl) ?_
                  simp only [Act.put, List.setIfInBounds_toArray, List.set_cons_succ, List.set_cons_zero]
                  refine wpList_nil ?_
                  go_wp2_with fail
                  refine ⟨⟨j + 1, by go_num, by rw [HO.out, List.length_append, ← HKK.out.1]; rfl, HV.out⟩, ?_⟩
                  simp [intOf]; omega
              · have h1 : decide ((j : Int) < (n0 : Int)) = true := decide_eq_true (by omega)
                have h2 : decide ((j : Int) < (9 : Int)) = false := decide_eq_false (by omega)
                go_upto_region 33 with fail
                refine wp_region_lit ?_
                refine wl rfl (.int .i64 (j : Nat)) _ (run_mvZ (.tmp 20) rfl (.int .i64 (j : Nat)) rfl) ?_
                simp only [Act.put, List.setIfInBounds_toArray, List.set_cons_succ, List.set_cons_zero]
                refine wl rfl (.slice p0 n0 cap0) _ (run_mvZ (.tmp 0) rfl (.slice p0 n0 cap0) rfl) ?_
                simp only [Act.put, List.setIfInBounds_toArray, List.set_cons_succ, List.set_cons_zero]
                refine wl rfl (.int .i64 (n0 : Nat)) _ (run_lenZ sl50 (.tmp 136) rfl p0 n0 cap0 rfl) ?_
                simp only [Act.put, List.setIfInBounds_toArray, List.set_cons_succ, List.set_cons_zero]
                refine wl rfl (.bool true) _ (run_lssZ (.tmp 135) (.tmp 137) rfl _ _ rfl rfl true h1) ?_
                simp only [Act.put, List.setIfInBounds_toArray, List.set_cons_succ, List.set_cons_zero]
                refine wl rfl (.bool true) _ (run_mvZ (.tmp 138) rfl (.bool true) rfl) ?_
                simp only [Act.put, List.setIfInBounds_toArray, List.set_cons_succ, List.set_cons_zero]
                refine wl (by kernel_rfl) (.int .i64 (j : Nat)) _ (run_mvZ (.tmp 20) rfl (.int .i64 (j : Nat)) rfl) ?_
                simp only [Act.put, List.setIfInBounds_toArray, List.set_cons_succ, List.set_cons_zero]
                refine wl (by kernel_rfl) (.bool false) _ (run_lssZ (.tmp 140) (.const (.int .i64 9)) rfl _ _ rfl rfl false h2) ?_
                simp only [Act.put, List.setIfInBounds_toArray, List.set_cons_succ, List.set_cons_zero]
                refine wl rfl (.bool false) _ (run_pickZ (.tmp 139) (.tmp 141) (.const (.bool false)) rfl true (.bool false) rfl rfl) ?_
                simp only [Act.put, List.setIfInBounds_toArray, List.set_cons_succ, List.set_cons_zero]
                refine wpList_nil ?_
                go_wp2_with fail
                rw [HPQ.out]
                exact ⟨rfl, HJ.out.pl.below⟩
            · have h1 : decide ((j : Int) < (n0 : Int)) = false := decide_eq_false (by omega)
              go_upto_region 33 with fail
              refine wp_region_lit ?_
              refine wl rfl (.int .i64 (j : Nat)) _ (run_mvZ (.tmp 20) rfl (.int .i64 (j : Nat)) rfl) ?_
              simp only [Act.put, List.setIfInBounds_toArray, List.set_cons_succ, List.set_cons_zero]
              refine wl rfl (.slice p0 n0 cap0) _ (run_mvZ (.tmp 0) rfl (.slice p0 n0 cap0) rfl) ?_
              simp only [Act.put, List.setIfInBounds_toArray, List.set_cons_succ, List.set_cons_zero]
              refine wl rfl (.int .i64 (n0 : Nat)) _ (run_lenZ sl50 (.tmp 136) rfl p0 n0 cap0 rfl) ?_
              simp only [Act.put, List.setIfInBounds_toArray, List.set_cons_succ, List.set_cons_zero]
              refine wl rfl (.bool false) _ (run_lssZ (.tmp 135) (.tmp 137) rfl _ _ rfl rfl false h1) ?_
              simp only [Act.put, List.setIfInBounds_toArray, List.set_cons_succ, List.set_cons_zero]
              refine wl rfl (.bool false) _ (run_mvZ (.tmp 138) rfl (.bool false) rfl) ?_
              simp only [Act.put, List.setIfInBounds_toArray, List.set_cons_succ, List.set_cons_zero]
              refine wpList_skip (by kernel_rfl) ?_
              simp only [Act.put, List.setIfInBounds_toArray, List.set_cons_succ, List.set_cons_zero]
              refine wpList_skip (by kernel_rfl) ?_
              simp only [Act.put, List.setIfInBounds_toArray, List.set_cons_succ, List.set_cons_zero]
              refine wl rfl (.bool false) _ (run_pickZ (.tmp 139) (.tmp 141) (.const (.bool false)) rfl false (.bool false) rfl rfl) ?_
              simp only [Act.put, List.setIfInBounds_toArray, List.set_cons_succ, List.set_cons_zero]
              refine wpList_nil ?_
              go_wp2_with fail
              rw [HPQ.out]
              exact ⟨rfl, HJ.out.pl.below⟩
end Go.Proofs.YtcpnlccajcpjmaaDoor

namespace Go.Proofs.YtcpnlccajcpjmaaDoor.pagerFormats
open Go.ChangeShapes Go.WideShapes Go.ChangeAt Go.RowKit

set_option maxRecDepth 100000 in
/-- WHAT THE WALK GIVES, FOR EVERY ARGUMENT AND EVERY WORLD THAT HOLDS THE TABLE -/
theorem contract (H : Type) (enc : TypeId × Value → H) (W : World) (base : Nat) (args : Array Value) (ds gs : List (DataW H)) (before : List MemPlace)
    (hval : ∀ (j : Nat) t v, Tryd.f6.params[j]? = some t → args[j]? = some v → Value.okWide Tryd.prog W .any base t v)
    (hW : DataW.Whole enc Tryd.prog Tryd.f6.params.toList Rows.pagerFormatsSpec.vars false W args.toList ds gs before)
    (hsz : (DataW.weightsEach Tryd.prog (Tryd.f6.params.toList ++ (Rows.pagerFormatsSpec.plain.varTypes Tryd.prog)) (ds ++ gs)).all (· ≤ reachBytes) = true)
    (hL : laidMetH Tryd.prog Rows.pagerFormatsRow.laid W) :
    Calls Tryd.prog 6 args W fun e W' => ∃ v, e = .returned v ∧ Rows.pagerFormatsSpec.post enc Tryd.prog Tryd.f6 false true false false W args v W' := by
  have hW' := hW
  obtain ⟨p, q, hA0, hV, rfl, hfz, hnd⟩ := hW
  have hA : DataW.TrodAll enc Tryd.prog W 0 (fun _ => true) true Tryd.f6.params.toList args.toList ds p := hA0
  rw [Tryd.params6] at hA hval hsz
  obtain ⟨v0, vs0, d0, ds0, p0, q0, hargs, rfl, rfl, h0, r0⟩ := trodAll_cons hA
  obtain ⟨v1, vs1, d1, ds1, p1, q1, rfl, rfl, rfl, h1, r1⟩ := trodAll_cons r0
  obtain ⟨v2, vs2, d2, ds2, p2, q2, rfl, rfl, rfl, h2, r2⟩ := trodAll_cons r1
  obtain ⟨rfl, rfl, rfl⟩ := trodAll_nil r2
  obtain rfl : args = #[v0, v1, v2] := by cases args; simp_all
  obtain ⟨rfl, rfl⟩ := trodVars_none hV
  have lt0 : ∀ x ∈ p0, x.block < W.heap.size := by obtain ⟨m, hm⟩ := h0; exact DataW.trod_lt m _ _ _ hm
  obtain ⟨L0, hs0, hd0⟩ := open_rows (hval 0 50 v0 rfl rfl) h0
  obtain ⟨a1, rfl, rfl, rfl, w1⟩ := open_int Tryd.underlying3 (hval 1 3 v1 rfl rfl) h1
  have b1 : -9223372036854775808 ≤ a1 ∧ a1 ≤ 9223372036854775807 := by
    simpa [Lit.wf, IntKind.min, IntKind.max, IntKind.signed, IntKind.bits] using w1
  have lt2 : ∀ x ∈ p2, x.block < W.heap.size := by obtain ⟨m, hm⟩ := h2; exact DataW.trod_lt m _ _ _ hm
  obtain ⟨ks2, hs2, hd2, hb2⟩ := open_nums (hval 2 28 v2 rfl rfl) h2
  clear hA0
  have hr := reach_nums hsz (j := 2) rfl rfl hd2
  have hr0 := hs0
  obtain ⟨p0', cap0', hv0, _, _⟩ := id hr0
  subst hv0
  have walk := pagerFormats_any W (tabIn_of hL) p0' L0.length cap0' L0 hr0 a1 b1 v2 ks2 (hs2 (by omega))
  refine walk.mono fun e W' ⟨he, bel⟩ => ?_
  subst he
  exact ⟨_, rfl, _, _, _, [], _, [], hW', trodAll_mk1 (shut_bool Tryd.underlying4 _), (trodAll_cons_mk (Below.trod laidOut (by kernel_rfl) (of_decide_eq_true (by kernel_rfl)) h0 bel lt0) (trodAll_cons_mk (shut_int Tryd.underlying3 w1) (trodAll_cons_mk (Below.trod laidOut (by kernel_rfl) (of_decide_eq_true (by kernel_rfl)) h2 bel lt2) trodAll_mk0))), rfl, bel.frame _, fun h => by cases h⟩

theorem laid_met (os : Os) : laidMet Tryd.prog Rows.pagerFormatsRow.laid ((laidOn (World.holding Tryd.prog os ⟨#[], #[], []⟩)).forCall (fun _ _ => 0) ⟨#[], #[.slice none 0 0, .int .i64 0, .slice none 0 0], []⟩).memory :=
  laidMet_of_run' 8 (by kernel_rfl) (by kernel_rfl)
theorem reads (os : Os) {H : Type} (enc : TypeId × Value → H) : ∃ places, DataW.whole enc Tryd.prog ((laidOn (World.holding Tryd.prog os ⟨#[], #[], []⟩)).forCall (fun _ _ => 0) ⟨#[], #[.slice none 0 0, .int .i64 0, .slice none 0 0], []⟩).memory Tryd.f6.params.toList Rows.pagerFormatsSpec.vars false #[Value.slice none 0 0, .int .i64 0, .slice none 0 0].toList 8 = some ([.nil, .lit (.int .i64 0), .nil], [], places) :=
  ⟨[], by kernel_rfl⟩

set_option maxRecDepth 100000 in
theorem lifted (os : Os) (started : os.Started) (H : Type) (enc : TypeId × Value → H) (F : Stop.Interp) :
    ReturnsInHanded {} Tryd.checked os 6 .any ((OpenSpec.ofChange Rows.pagerFormatsSpec).preRow enc Tryd.prog Tryd.f6 Rows.pagerFormatsRow.domain false Rows.pagerFormatsRow.laid) (((OpenSpec.ofChange Rows.pagerFormatsSpec).at F).post enc Tryd.prog Tryd.f6 false true false false) := by
  obtain ⟨places, hx⟩ := reads os enc
  refine returnsInHanded_of_row (C := Tryd.checked) (s := OpenSpec.ofChange Rows.pagerFormatsSpec) own started (by kernel_rfl) Tryd.func6
    (witness_row_at (enc := enc) (C := Tryd.checked) false (laidOn (World.holding Tryd.prog os ⟨#[], #[], []⟩)) #[.slice none 0 0, .int .i64 0, .slice none 0 0] rfl (by kernel_rfl) (by kernel_rfl) (by kernel_rfl)
      (OpenSpec.preRow_of_cond 8 hx (by kernel_rfl) (fun k hk => by cases hk) (by kernel_rfl) (laid_met os))) ?_
  intro W base args ds gs before hval hW _ _ hsz hL _ _
  exact contract H enc W base args ds gs before hval hW hsz hL

theorem said : Rows.PagerFormatsSaid :=
  OpenClaim.holds_of_cond 6 Tryd.f6 rfl rfl rfl rfl rfl rfl rfl ⟨rfl, rfl, rfl, rfl, rfl⟩ rfl rfl rfl rfl rfl (by kernel_rfl) Tryd.func6 (by kernel_rfl)
    (of_decide_eq_true (by kernel_rfl)) (by unfold Func.isWrapper; first | (rw [if_pos (by decide +kernel)]; kernel_rfl) | (rw [if_neg (by decide +kernel)]; exact ⟨rfl, rfl⟩))
    (fun os started H enc _ F => by rw [OpenClaim.pre_eq_preRow]; exact lifted os started H enc F)

theorem plain (f : FuncId) (fn : Func) (hf : Tryd.pinned.checked.prog.funcNamed "muniment/munimentlaw09.PagerFormats" = some f) (hfn : Tryd.pinned.checked.prog.funcs[f]? = some fn) :
    false = Tryd.pinned.checked.prog.looks [] ∧ ∀ (j : Nat) t, fn.params[j]? = some t → Tryd.pinned.checked.prog.wantsStandIn t = false := by
  obtain rfl : f = 6 := Option.some.inj ((show Tryd.prog.funcNamed "muniment/munimentlaw09.PagerFormats" = some 6 by kernel_rfl).symm.trans hf) |>.symm
  obtain rfl : fn = Tryd.f6 := (Option.some.inj (Tryd.func6.symm.trans hfn)).symm
  refine ⟨by kernel_rfl, fun j t ht => ?_⟩
  rw [Tryd.params6] at ht
  have hm := Array.mem_of_getElem? ht
  have : t = 50 ∨ t = 3 ∨ t = 28 := by simpa using hm
  rcases this with rfl | rfl | rfl
  · exact (show Tryd.prog.wantsStandIn 50 = false by kernel_rfl)
  · exact (show Tryd.prog.wantsStandIn 3 = false by kernel_rfl)
  · exact (show Tryd.prog.wantsStandIn 28 = false by kernel_rfl)

end Go.Proofs.YtcpnlccajcpjmaaDoor.pagerFormats
namespace Go.Proofs.YtcpnlccajcpjmaaDoor
/-- THE CARD -/
theorem pagerFormats_card : Rows.PagerFormatsCardSaid :=
  Claim7.holds_tied_plain_at .later [] _ _ _ _ pagerFormats.said (fun _ h => by cases h) (by kernel_rfl) (fun _ h => by cases h) pagerFormats_row_tie rfl ⟨rfl, rfl⟩ (by kernel_rfl) rfl pagerFormats.plain (by kernel_rfl)
end Go.Proofs.YtcpnlccajcpjmaaDoor

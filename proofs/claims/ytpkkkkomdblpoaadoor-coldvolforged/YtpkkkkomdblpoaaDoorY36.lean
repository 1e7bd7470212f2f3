/- Layer 15: the law of forged objects. -/
import Derived.Test.YtpkkkkomdblpoaaDoorY35
namespace Go.Proofs.YtpkkkkomdblpoaaDoor
open Go.RowKit Go.Maps

open Cold
theorem run_bappT {w : World} (base : Nat) (v vx : Value) (cs ys : List Nat) (hown : BOwn w base v cs) (hin : SliceIn w vx ys) (hsz : cs.length + ys.length ≤ 140737488355328) (hbase : base ≤ w.heap.size) :
  ∃ v' w', (∀ ty, (Builtin.append_ #[38, 38] ty #[v, vx]).run Tryd.prog w = .ok v' w') ∧ BOwn w' base v' (cs ++ ys) ∧ Below base w w' := by
 obtain ⟨v', w', hr, ho, hg⟩ := run_bappend base 0 v vx cs ys hown hin hsz hbase
 exact ⟨v', w', fun ty => hr, ho, hown.belowG hg hbase⟩
/-- bytes that may be appended and told -/
def Bt (gv : Nat) (c : Nat → Colour) (W : World) (vT vb : Value) (bs : List Nat) : Prop := Sb 2 gv c W vb bs ∧ (bs = [] ∨ ∀ b, vb.ownBlock = some b → vT.ownBlock ≠ some b)
section
variable {w W W' : World} {c c' : Nat → Colour} {gp gv : Nat} {sz : Int} {m : Pl} {os : List Ob} {K : Nat} {vT vb : Value} {bs : List Nat}
theorem Bt.sq (h : Bt gv c W vT vb bs) (s : Sq 2 gv W W' c c') : Bt gv c' W' vT vb bs := ⟨h.1.sq s, h.2⟩
theorem Fg.arg (h : Fg w W c gp gv sz m os K vT) (hs : SliceIn W vb bs) (ho : bs = [] ∨ ∀ g, vb.ownBlock = some g → g < w.heap.size) : Bt gv c W vT vb bs := by
 refine ⟨⟨hs, ho.imp (fun e => e) fun h2 b e => ⟨Nat.lt_of_lt_of_le (h2 b e) h.k.f.bel.size, fun x => by have := h2 b e; have := h.k.f.gv0; omega, h.k.f.col b (h2 b e)⟩⟩, ho.imp (fun e => e) fun h2 b e e2 => ?_⟩
 obtain ⟨_, L, hL, _⟩ := h.t
 have := (hL.2.lt b e2).1
 have := h2 b e
 omega
theorem Fg.fresh (h : Fg w W c gp gv sz m os K vT) (hb : BOwn W' W.heap.size vb bs) (h256 : ∀ c ∈ bs, c < 256) (hl : bs.length ≤ 9223372036854775807) : Bt gv c W' vT vb bs := by
 have hs := hb.slice h256 hl
 refine ⟨⟨hs, ?_⟩, Or.inr fun b e e2 => ?_⟩
 ·by_cases q : bs = []
  ·exact Or.inl q
  ·refine Or.inr fun b e => ?_
   have h1 := (hb.lt b e).1
   have h2 := h.k.v.outNew h1 (slice_blk hs q b e)
   exact ⟨h2.1, h2.2.1, h2.2.2.1⟩
 ·obtain ⟨_, L, hL, _⟩ := h.t
  have := (hL.2.lt b e2).2
  have := (hb.lt b e).1
  omega
theorem Bt.cut (h : Bt gv c W vT vb bs) (hl : 512 < bs.length) : ∃ v', (∀ w', (Instr.slice 38 vb none (some (.int .i64 512)) none).run Tryd.prog w' = .ok v' w') ∧ Bt gv c W vT v' (bs.take 512) := by
 obtain ⟨v', hr, hs, ho⟩ := cut512 h.1.1 hl
 have hne : bs ≠ [] := fun e => by rw [e] at hl; simp at hl
 exact ⟨v', hr, ⟨hs, Or.inr fun b e => (h.1.2.resolve_left hne) b (ho b e)⟩, Or.inr fun b e => (h.2.resolve_left hne) b (ho b e)⟩
/-- the object of a place, among those that were told -/
def Mt (os : List Ob) (a k : Int) (i : Nat) : Prop := a = (offO os i : Nat) ∧ k = (nb (os.getD i ([], [])).2.length : Nat)
theorem Fg.le {w W : World} {c : Nat → Colour} {gp gv : Nat} {sz : Int} {m : Pl} {os : List Ob} {K K' : Nat} {vT : Value} (h : Fg w W c gp gv sz m os K vT) (hk : K ≤ K') : Fg w W c gp gv sz m os K' vT := ⟨⟨h.k.v, h.k.f, h.k.l, Nat.le_trans h.k.k hk⟩, h.t, h.n⟩
instance (os : List Ob) (a k : Int) (i : Nat) : Decidable (Mt os a k i) := inferInstanceAs (Decidable (_ ∧ _))
theorem Mt.one {a k : Int} {i j : Nat} (h : Mt os a k i) (h2 : Mt os a k j) (hi : i < os.length) (hj : j < os.length) : i = j := offO_inj os i j hi hj (by have := h.1; have := h2.1; omega)
end
set_option maxHeartbeats 4000000 in
set_option maxRecDepth 100000 in
theorem coldvolForged_any (w : World) (he : Env w) (h3 : 3 ≤ w.heap.size) (va vf : Value) (A : List (List Nat)) (F : List Int) (ha : RowsIn w va A) (hf : IntsIn w vf F) (hF : ∀ z ∈ F, -9223372036854775808 ≤ z ∧ z ≤ 9223372036854775807) (hA : ∀ k, (A.getD k []).length ≤ 140737488351232) : Calls Tryd.prog 6 #[va, vf] w fun e w' => e = .returned (.bool true) ∧ Below w.heap.size w w' := by
 have HM : Hid (Env w ∧ 3 ≤ w.heap.size ∧ RowsIn w va A ∧ IntsIn w vf F ∧ (∀ z ∈ F, -9223372036854775808 ≤ z ∧ z ≤ 9223372036854775807) ∧ (∀ k, (A.getD k []).length ≤ 140737488351232)) := ⟨he, h3, ha, hf, hF, hA⟩
 have hAl : A.length ≤ 9223372036854775807 := ha.few
 have hFl : F.length < 4611686018427387904 := (by obtain ⟨_, _, _, _, h, _⟩ := hf; exact h)
 clear he h3 ha hf hF hA
 obtain ⟨bf, hbf⟩ : ∃ b, b = false := ⟨_, rfl⟩
 have HBF : Hid (bf = false) := hbf
 clear hbf
 obtain ⟨PQ, HPQ⟩ := exPQ fun (e : Ending) (w' : World) => e = .returned (.bool true) ∧ Below w.heap.size w w'
 rw [← HPQ.out]
 go_enter Tryd.func6, Tryd.ntmps6
 go_upto_region 0 with fail
 refine wp_region_lit ?_
 refine wl rfl (.bool false) _ (run_asZ (.const (.bool false)) rfl (.bool false) rfl) ?_
 simp only [Act.put, aS, aC, aZ]
 refine wpList_nil ?_
 go_upto_region 1 with fail
 refine wp_region_lit ?_
 refine wpList_callW eN8 [] _ rfl rfl [] rfl ?_
 refine (shown_any w HM.out.1 HM.out.2.1).mono ?_
 rintro e W1 ⟨rfl, hb_⟩
 refine ⟨_, rfl, ?_⟩
 have H1 : Hid (Below w.heap.size w W1) := hb_
 clear hb_
 simp only [Act.put, aS, aC, aZ]
 refine wl rfl (.bool true) _ (run_asZ (.tmp 34) rfl (.bool true) rfl) ?_
 simp only [Act.put, aS, aC, aZ]
 refine wpList_nil ?_
 go_upto_region 2 with fail
 refine wp_region_lit ?_
 refine wl rfl (whole W1.heap.size 1) _ (run_ints1 (.const (.int .i64 120)) rfl 120 rfl) ?_
 have hb_ := below_alloc W1 (.cells ([(120 : Int)].map (Value.int .i64)).toArray 3)
 have r_ := Row.new W1 3 ([(120 : Int)].map (Value.int .i64))
 obtain ⟨W2, hW_⟩ : ∃ U_ : World, U_ = W1.alloc (.cells ([(120 : Int)].map (Value.int .i64)).toArray 3) := ⟨_, rfl⟩
 obtain ⟨ql, hq_⟩ : ∃ q, q = W1.heap.size := ⟨_, rfl⟩
 rw [← hW_] at hb_
 rw [← hW_, ← hq_] at r_
 rw [← hW_, ← hq_]
 have H2 : Hid (IntsIn W2 (whole ql 1) [120] ∧ Below w.heap.size w W2) := ⟨ints_row (l := [120]) r_ (by decide), H1.out.trans (hb_.mono H1.out.size)⟩
 clear r_ hb_ hW_ hq_ H1
 simp only [Act.put, aS, aC, aZ]
 refine wl rfl (.agg #[.slice none 0 0, whole ql 1]) _ (run_build30t (.tmp 36) rfl ql 1 rfl) ?_
 simp only [Act.put, aS, aC, aZ]
 refine wpList_callW eN9 [.tmp 37] _ rfl rfl [(.agg #[.slice none 0 0, whole ql 1])] rfl ?_
 refine (Live.new W2 (fun _ => (0, 0)) 2 _ _ [] [120] (ints_nil W2) H2.out.1 (by decide)).mono ?_
 rintro e W3 ⟨gp, c1, rfl, _, hcc_, _, hl_, hb_⟩
 refine ⟨_, rfl, ?_⟩
 have H3 : Hid (Live W3 c1 2 gp (newPl [] [120]) ∧ Below w.heap.size w W3 ∧ ∀ b, b < w.heap.size → (c1 b).1 ≠ 2) := ⟨hl_, H2.out.2.trans (hb_.mono H2.out.2.size), fun b hb => by rw [hcc_ b (Nat.lt_of_lt_of_le hb H2.out.2.size)]; decide⟩
 clear hl_ hb_ hcc_ H2
 simp only [Act.put, aS, aC, aZ]
 refine wl rfl (.tuple #[(ptr gp), (.int .i64 0)]) _ (run_mvZ (.tmp 38) rfl (.tuple #[(ptr gp), (.int .i64 0)]) rfl) ?_
 refine wl rfl (ptr gp) _ (run_extZ (.tmp 35) 0 rfl #[(ptr gp), (.int .i64 0)] rfl (ptr gp) rfl) ?_
 simp only [Act.put, aS, aC, aZ]
 refine wl rfl (.int .i64 0) _ (run_extZ (.tmp 35) 1 rfl #[(ptr gp), (.int .i64 0)] rfl (.int .i64 0) rfl) ?_
 refine wl rfl (ptr gp) _ (run_asZ (.tmp 39) rfl (ptr gp) rfl) ?_
 simp only [Act.put, aS, aC, aZ]
 refine wl rfl (.int .i64 0) _ (run_asZ (.tmp 40) rfl (.int .i64 0) rfl) ?_
 simp only [Act.put, aS, aC, aZ]
 refine wpList_nil ?_
 go_upto_region 3 with fail
 refine wp_region_lit ?_
 refine wl rfl (.bool true) _ (run_mvZ (.tmp 5) rfl (.bool true) rfl) ?_
 refine wl rfl (.bool bf) _ ((by rw [HBF.out]; exact run_not (.tmp 41) 4 rfl true rfl)) ?_
 simp only [Act.put, aS, aC, aZ]
 refine wl rfl (.bool bf) _ (run_mvZ (.tmp 42) rfl (.bool bf) rfl) ?_
 refine wl (by rw [HBF.out]; kernel_rfl) (ptr gp) _ (run_mvZ (.tmp 6) rfl (ptr gp) rfl) ?_
 simp only [Act.put, aS, aC, aZ]
 refine wl (by rw [HBF.out]; kernel_rfl) (.bool bf) _ ((by rw [HBF.out]; exact run_binOp' (.tmp 44) (.const (.pointer none)) rfl _ _ _ rfl rfl rfl (by kernel_rfl))) ?_
 refine wl rfl (.bool bf) _ (run_pickZ (.tmp 43) (.const (.bool true)) (.tmp 45) rfl bf (.bool bf) rfl (by rw [HBF.out]; rfl)) ?_
 simp only [Act.put, aS, aC, aZ]
 refine wl rfl (.bool bf) _ (run_mvZ (.tmp 46) rfl (.bool bf) rfl) ?_
 refine wl (by rw [HBF.out]; kernel_rfl) (.int .i64 0) _ (run_mvZ (.tmp 7) rfl (.int .i64 0) rfl) ?_
 simp only [Act.put, aS, aC, aZ]
 refine wl (by rw [HBF.out]; kernel_rfl) (.bool bf) _ ((by rw [HBF.out]; exact run_neZ (.tmp 48) (.const (.int .i64 0)) rfl 0 0 rfl rfl false (by decide))) ?_
 refine wl rfl (.bool bf) _ (run_pickZ (.tmp 47) (.const (.bool true)) (.tmp 49) rfl bf (.bool bf) rfl (by rw [HBF.out]; rfl)) ?_
 simp only [Act.put, aS, aC, aZ]
 refine wpList_nil ?_
 obtain rfl : bf = false := HBF.out
 go_upto_region 5 with fail
 refine wp_region_lit ?_
 refine wl rfl (ptr gp) _ (run_mvZ (.tmp 6) rfl (ptr gp) rfl) ?_
 simp only [Act.put, aS, aC, aZ]
 have HF0 : Far0 W3 c1 2 := ⟨Nat.le_trans HM.out.2.1 H3.out.2.1.size, H3.out.2.2 0 (by have := HM.out.2.1; omega), H3.out.2.2 1 (by have := HM.out.2.1; omega), H3.out.2.2 2 (by have := HM.out.2.1; omega)⟩
 refine wpList_callW eN10 [.tmp 52, .const (.int .i64 0)] _ rfl rfl [(ptr gp), (.int .i64 0)] rfl ?_
 refine (vopen_s H3.out.1 (ds := []) (ts := [120]) rfl (HM.out.1.later H3.out.2.1) HF0 (by decide) 0 (by decide) (new_onT [] [120] (by decide) 0 (by decide))).mono ?_
 rintro e W4 ⟨gv, rfl, hg_, hb_, hv_⟩
 refine ⟨_, rfl, ?_⟩
 have H4 : Hid (Wk w W4 c1 2 gp gv 0 120 (newPl [] [120]) [] false [] 0) := ⟨hv_, ⟨H3.out.2.1.trans (hb_.mono H3.out.2.1.size), Nat.le_trans H3.out.2.1.size hg_, H3.out.2.2⟩, Mine.nil _ _ _ _ _, Nat.le_refl _⟩
 clear hv_ hb_ hg_ HF0 H3
 simp only [Act.put, aS, aC, aZ]
 refine wl rfl (.tuple #[(ptr gv), (.int .i64 0)]) _ (run_mvZ (.tmp 53) rfl (.tuple #[(ptr gv), (.int .i64 0)]) rfl) ?_
 refine wl rfl (ptr gv) _ (run_extZ (.tmp 51) 0 rfl #[(ptr gv), (.int .i64 0)] rfl (ptr gv) rfl) ?_
 simp only [Act.put, aS, aC, aZ]
 refine wl rfl (.int .i64 0) _ (run_extZ (.tmp 51) 1 rfl #[(ptr gv), (.int .i64 0)] rfl (.int .i64 0) rfl) ?_
 refine wl rfl (ptr gv) _ (run_asZ (.tmp 54) rfl (ptr gv) rfl) ?_
 simp only [Act.put, aS, aC, aZ]
 refine wl rfl (.int .i64 0) _ (run_asZ (.tmp 55) rfl (.int .i64 0) rfl) ?_
 simp only [Act.put, aS, aC, aZ]
 refine wpList_nil ?_
 obtain ⟨bf, hbf⟩ : ∃ b, b = false := ⟨_, rfl⟩
 have HBF : Hid (bf = false) := hbf
 clear hbf
 go_upto_region 6 with fail
 refine wp_region_lit ?_
 refine wl rfl (ptr gv) _ (run_mvZ (.tmp 8) rfl (ptr gv) rfl) ?_
 refine wl rfl (.bool bf) _ ((by rw [HBF.out]; exact run_binOp' (.tmp 56) (.const (.pointer none)) rfl _ _ _ rfl rfl rfl (by kernel_rfl))) ?_
 simp only [Act.put, aS, aC, aZ]
 refine wl rfl (.bool bf) _ (run_mvZ (.tmp 57) rfl (.bool bf) rfl) ?_
 refine wl (by rw [HBF.out]; kernel_rfl) (.int .i64 0) _ (run_mvZ (.tmp 9) rfl (.int .i64 0) rfl) ?_
 simp only [Act.put, aS, aC, aZ]
 refine wl (by rw [HBF.out]; kernel_rfl) (.bool bf) _ ((by rw [HBF.out]; exact run_neZ (.tmp 59) (.const (.int .i64 0)) rfl 0 0 rfl rfl false (by decide))) ?_
 refine wl rfl (.bool bf) _ (run_pickZ (.tmp 58) (.const (.bool true)) (.tmp 60) rfl bf (.bool bf) rfl (by rw [HBF.out]; rfl)) ?_
 simp only [Act.put, aS, aC, aZ]
 refine wpList_nil ?_
 obtain rfl : bf = false := HBF.out
 go_upto_region 8 with fail
 refine wp_region_lit ?_
 refine wl rfl (.slice (some ⟨W4.heap.size, 0, none⟩) 0 0) _ (run_lit35 rfl) ?_
 have hb_ := below_alloc W4 (.cells #[] 48)
 have o_ := COwn.new W4 w.heap.size H4.out.f.bel.size
 obtain ⟨W5, hW_⟩ : ∃ U_ : World, U_ = W4.alloc (.cells #[] 48) := ⟨_, rfl⟩
 obtain ⟨vT0, hv_⟩ : ∃ v : Value, v = .slice (some ⟨W4.heap.size, 0, none⟩) 0 0 := ⟨_, rfl⟩
 have ob_ : vT0.ownBlock = some W4.heap.size := (by rw [hv_]; rfl)
 rw [← hW_] at hb_ o_ ⊢
 rw [← hv_] at o_ ⊢
 have HF : Hid (Fg w W5 c1 gp gv 120 (newPl [] [120]) [] (0) vT0) := ⟨H4.out.bel hb_, ⟨fun b e => (by rw [ob_] at e; injection e with e; rw [← e]; exact H4.out.v.outNew (Nat.le_refl _) (o_.2.lt _ ob_).2), [], o_, rfl, fun k hk => absurd hk (Nat.not_lt_zero _)⟩, fun o ho => (by cases ho)⟩
 clear hb_ o_ hW_ hv_ ob_ H4
 simp only [Act.put, aS, aC, aZ]
 refine wl rfl vT0 _ (run_asZ (.tmp 62) rfl vT0 rfl) ?_
 simp only [Act.put, aS, aC, aZ]
 refine wpList_nil ?_
 go_upto_region 9 with fail
 refine wp_region_lit ?_
 refine wl rfl (.int .i64 0) _ (run_asZ (.const (.int .i64 0)) rfl (.int .i64 0) rfl) ?_
 simp only [Act.put, aS, aC, aZ]
 refine wpList_nil ?_
 go_wp2_with fail
 go_loopw [10, 11, 12, 13, 14, 15, 16, 17, 18, 19] (fun vT vk _ _ _ _ _ _ _ _ W => ∃ k : Nat, vk = .int .i64 (k : Nat) ∧ k ≤ A.length ∧ k ≤ 7 ∧ Hid (∃ c m os, Fg w W c gp gv 120 m os (32 * k) vT)) (fun _ vk _ _ _ _ _ _ _ _ _ => 7 - (intOf vk).toNat)
 case atStart => exact ⟨0, rfl, Nat.zero_le _, by decide, _, _, _, HF.out⟩
 case round =>
  obtain ⟨k, rfl, hkA, hk7, HI⟩ := hrel
  obtain ⟨c0, m0, os, hF_⟩ := HI.out
  obtain ⟨W0, hW0⟩ : ∃ X, X = wr := ⟨_, rfl⟩
  subst hW0
  have HF0 : Hid (Fg w W0 c0 gp gv 120 m0 os (32 * k) u10) := hF_
  clear hF_ HI HF
  by_cases h1 : k < A.length ∧ k < 7
  ·go_upto_region 10 with fail
   refine wp_region_lit ?_
   refine wl rfl (.int .i64 (k : Nat)) _ (run_mvZ (.tmp 11) rfl (.int .i64 (k : Nat)) rfl) ?_
   refine wl rfl va _ (run_mvZ (.tmp 0) rfl va rfl) ?_
   simp only [Act.put, aS, aC, aZ]
   refine wl rfl (.int .i64 (A.length : Nat)) _ (run_lenR HM.out.2.2.1 (.tmp 64) rfl rfl) ?_
   refine wl rfl (.bool true) _ (run_lssZ (.tmp 63) (.tmp 65) rfl (k : Nat) (A.length : Nat) rfl rfl true (decide_eq_true (by omega))) ?_
   simp only [Act.put, aS, aC, aZ]
   refine wl rfl (.bool true) _ (run_mvZ (.tmp 66) rfl (.bool true) rfl) ?_
   refine wl (by kernel_rfl) (.int .i64 (k : Nat)) _ (run_mvZ (.tmp 11) rfl (.int .i64 (k : Nat)) rfl) ?_
   simp only [Act.put, aS, aC, aZ]
   refine wl (by kernel_rfl) (.bool true) _ (run_lssZ (.tmp 68) (.const (.int .i64 7)) rfl (k : Nat) 7 rfl rfl true (decide_eq_true (by omega))) ?_
   refine wl rfl (.bool true) _ (run_pickZ (.tmp 67) (.tmp 69) (.const (.bool false)) rfl true (.bool true) rfl rfl) ?_
   simp only [Act.put, aS, aC, aZ]
   refine wpList_nil ?_
   obtain ⟨ab, aj, au, hx_, hc_, ho_⟩ := HM.out.2.2.1.ix k h1.1
   have HXA : Hid ((∀ w', (Instr.indexAt 65 va (.int .i64 (k : Nat))).run Tryd.prog w' = .ok (.pointer (some ⟨ab, aj, none⟩)) w') ∧ (∀ W, Below w.heap.size w W → W.cell? ⟨ab, aj, none⟩ = some au ∧ SliceIn W au (A.getD k []))) := ⟨hx_, hc_⟩
   have HB0 : Hid (Bt gv c0 W0 u10 au (A.getD k [])) := HF0.out.arg (hc_ _ HF0.out.k.f.bel).2 ho_
   clear hx_ hc_ ho_
   go_upto_region 12 with fail
   refine wp_region_lit ?_
   refine wl rfl va _ (run_mvZ (.tmp 0) rfl va rfl) ?_
   refine wl rfl (.int .i64 (k : Nat)) _ (run_mvZ (.tmp 11) rfl (.int .i64 (k : Nat)) rfl) ?_
   simp only [Act.put, aS, aC, aZ]
   refine wl rfl (.pointer (some ⟨ab, aj, none⟩)) _ (run_idx (.tmp 73) (.tmp 74) rfl _ _ _ rfl rfl HXA.out.1) ?_
   refine wl rfl au _ (run_load1 o38 (.tmp 75) rfl ab (aj) rfl au (HXA.out.2 _ HF0.out.k.f.bel).1) ?_
   simp only [Act.put, aS, aC, aZ]
   refine wl rfl au _ (run_asZ (.tmp 76) rfl au rfl) ?_
   simp only [Act.put, aS, aC, aZ]
   refine wpList_nil ?_
   by_cases hkF : k < F.length
   ·obtain ⟨fb, fj, hx_, hc_⟩ := HM.out.2.2.2.1.ix k hkF
    have hfz_ := HM.out.2.2.2.2.1 (F.getD k 0) (getD_mem F k 0 hkF)
    obtain ⟨f, hf⟩ : ∃ f, f = F.getD k 0 := ⟨_, rfl⟩
    rw [← hf] at hc_ hfz_
    have HXF : Hid ((∀ w', (Instr.indexAt 28 vf (.int .i64 (k : Nat))).run Tryd.prog w' = .ok (.pointer (some ⟨fb, fj, none⟩)) w') ∧ (∀ W, Below w.heap.size w W → W.cell? ⟨fb, fj, none⟩ = some (.int .i64 f)) ∧ (-9223372036854775808 ≤ f ∧ f ≤ 9223372036854775807)) := ⟨hx_, hc_, hfz_⟩
    clear hx_ hc_ hfz_ hf
    by_cases hneg : f < 0
    ·as_aux_lemma =>
     go_upto_region 13 with fail
     refine wp_region_lit ?_
     refine wl rfl (.int .i64 (k : Nat)) _ (run_mvZ (.tmp 11) rfl (.int .i64 (k : Nat)) rfl) ?_
     refine wl rfl vf _ (run_mvZ (.tmp 1) rfl vf rfl) ?_
     simp only [Act.put, aS, aC, aZ]
     refine wl rfl (.int .i64 (F.length : Nat)) _ (run_lenI HM.out.2.2.2.1 (.tmp 78) rfl rfl) ?_
     refine wl rfl (.bool true) _ (run_lssZ (.tmp 77) (.tmp 79) rfl (k : Nat) (F.length : Nat) rfl rfl true (decide_eq_true (by omega))) ?_
     simp only [Act.put, aS, aC, aZ]
     refine wl rfl (.bool true) _ (run_mvZ (.tmp 80) rfl (.bool true) rfl) ?_
     refine wl (by kernel_rfl) vf _ (run_mvZ (.tmp 1) rfl vf rfl) ?_
     simp only [Act.put, aS, aC, aZ]
     refine wl (by kernel_rfl) (.int .i64 (k : Nat)) _ (run_mvZ (.tmp 11) rfl (.int .i64 (k : Nat)) rfl) ?_
     refine wl (by kernel_rfl) (.pointer (some ⟨fb, fj, none⟩)) _ (run_idx (.tmp 82) (.tmp 83) rfl _ _ _ rfl rfl HXF.out.1) ?_
     simp only [Act.put, aS, aC, aZ]
     refine wl (by kernel_rfl) (.int .i64 f) _ (run_load1 o3 (.tmp 84) rfl fb (fj) rfl (.int .i64 f) (HXF.out.2.1 _ HF0.out.k.f.bel)) ?_
     refine wl (by kernel_rfl) (.bool false) _ (run_geqZ (.tmp 85) (.const (.int .i64 0)) rfl f 0 rfl rfl false (decide_eq_false (by omega))) ?_
     simp only [Act.put, aS, aC, aZ]
     refine wl rfl (.bool false) _ (run_pickZ (.tmp 81) (.tmp 86) (.const (.bool false)) rfl true (.bool false) rfl rfl) ?_
     simp only [Act.put, aS, aC, aZ]
     refine wpList_nil ?_
     have hlb : (A.getD k []).length ≤ 140737488355328 := (by have := HM.out.2.2.2.2.2 k; omega)
     by_cases hlong : 512 < (A.getD k []).length
     ·go_upto_region 24 with fail
      refine wp_region_lit ?_
      refine wl rfl au _ (run_mvZ (.tmp 12) rfl au rfl) ?_
      refine wl rfl (.int .i64 ((A.getD k []).length : Nat)) _ (run_lenS HB0.out.1.1 (.tmp 126) rfl rfl) ?_
      simp only [Act.put, aS, aC, aZ]
      refine wl rfl (.bool true) _ (run_gtrZ (.tmp 127) (.const (.int .i64 512)) rfl ((A.getD k []).length : Nat) 512 rfl rfl true (decide_eq_true (by omega))) ?_
      simp only [Act.put, aS, aC, aZ]
      refine wpList_nil ?_
      obtain ⟨vc1, hr_, hb_⟩ := HB0.out.cut hlong
      obtain ⟨bs3, hbs2_⟩ : ∃ x, x = (A.getD k []).take 512 := ⟨_, rfl⟩
      rw [← hbs2_] at hb_
      have HB2 : Hid (Bt gv c0 W0 u10 vc1 bs3) := hb_
      go_upto_region 25 with fail
      refine wp_region_lit ?_
      refine wl rfl au _ (run_mvZ (.tmp 12) rfl au rfl) ?_
      refine wl rfl vc1 _ (run_subB (.tmp 129) none (some (.const (.int .i64 512))) none rfl au vc1 rfl hr_) ?_
      simp only [Act.put, aS, aC, aZ]
      refine wl rfl vc1 _ (run_asZ (.tmp 130) rfl vc1 rfl) ?_
      simp only [Act.put, aS, aC, aZ]
      refine wpList_nil ?_
      clear hr_ hb_ hbs2_
      go_upto_region 26 with fail
      refine wp_region_lit ?_
      refine wl rfl (ptr gv) _ (run_mvZ (.tmp 8) rfl (ptr gv) rfl) ?_
      refine wl rfl vc1 _ (run_mvZ (.tmp 12) rfl vc1 rfl) ?_
      simp only [Act.put, aS, aC, aZ]
      refine wpList_callW eN12 [.tmp 132, .const (.string { data := #[97] }), .tmp 133] _ rfl rfl [(ptr gv), (str [97]), vc1] rfl ?_
      refine (vapp_s HF0.out.k.v (by have := HF0.out.k.k; omega) [97] bs3 vc1 (by decide) (by decide) HB2.out.1.1 (HB2.out.1.2.imp (fun h => h) fun h g e => (h g e).2.1)).mono ?_
      rintro e X1 ⟨c2, m2, er, her_, rfl, s_, v_, o_, _⟩
      obtain ⟨pa, pb, pd, hpl_, hpx_, _⟩ := plA_form 0 os bs3 er
      rw [hpl_]
      refine ⟨_, rfl, ?_⟩
      have HA1 : Hid (Sq 2 gv W0 X1 c0 c2 ∧ VOn X1 c2 2 gp gv 0 120 m2 (osA os [97] bs3 er) false ∧ (m2 = m0 ∨ Oth2 m0 m2 0) ∧ (er = 0 → pa = ((0 : Nat) : Int) ∧ pb = (wide os : Nat) ∧ pd = (nb bs3.length : Nat))) := ⟨s_, v_, o_, hpx_⟩
      have HL1 : Hid (Loc X1 X1 []) := Loc.nil (Below.refl _ _)
      clear her_ s_ v_ o_ hpl_ hpx_
      simp only [Act.put, aS, aC, aZ]
      refine wl rfl (.tuple #[(.agg (plC pa pb pd false).toArray), (.int .i64 er)]) _ (run_mvZ (.tmp 134) rfl (.tuple #[(.agg (plC pa pb pd false).toArray), (.int .i64 er)]) rfl) ?_
      refine wl rfl (.agg (plC pa pb pd false).toArray) _ (run_extZ (.tmp 131) 0 rfl #[(.agg (plC pa pb pd false).toArray), (.int .i64 er)] rfl (.agg (plC pa pb pd false).toArray) rfl) ?_
      simp only [Act.put, aS, aC, aZ]
      refine wl rfl (.int .i64 er) _ (run_extZ (.tmp 131) 1 rfl #[(.agg (plC pa pb pd false).toArray), (.int .i64 er)] rfl (.int .i64 er) rfl) ?_
      refine wl rfl (ptr X1.heap.size) _ (run_allocA ((plC 0 0 0 false)) zero40 rfl) ?_
      have k_ := HL1.out.box 40 ((plC 0 0 0 false))
      obtain ⟨X2, hW_⟩ : ∃ W, W = X1.alloc (.cells ((plC 0 0 0 false)).toArray 40) := ⟨_, rfl⟩
      obtain ⟨q18, hq_⟩ : ∃ q, q = X1.heap.size := ⟨_, rfl⟩
      rw [← hW_, ← hq_] at k_
      rw [← hW_, ← hq_]
      clear hq_
      have RX2 : Hid (Loc X1 X2 [(q18, 40, (plC 0 0 0 false))]) := k_
      clear k_ hW_ HL1
      simp only [Act.put, aS, aC, aZ]
      refine wlS rfl rfl _ (run_storeL ag40 (.tmp 18) (.tmp 135) rfl RX2.out 0 rfl (0) rfl (plC pa pb pd false) rfl rfl (Nat.le_refl 4) (plC_one _ _ _ _)).1 ?_
      have k_ := RX2.out.lay 0 rfl (0) (plC pa pb pd false)
      rw [splice_all (plC 0 0 0 false) (plC pa pb pd false) rfl] at k_ ⊢
      obtain ⟨X3, hW_⟩ : ∃ W, W = X2.setRow q18 (plC pa pb pd false).toArray := ⟨_, rfl⟩
      rw [← hW_] at k_ ⊢
      have RX3 : Hid (Loc X1 X3 [(q18, 40, plC pa pb pd false)]) := k_
      clear k_ hW_ RX2
      refine wl rfl (.int .i64 er) _ (run_asZ (.tmp 136) rfl (.int .i64 er) rfl) ?_
      simp only [Act.put, aS, aC, aZ]
      refine wpList_nil ?_
      by_cases hz : er = 0
      ·go_upto_region 27 with fail
       refine wp_region_lit ?_
       refine wl rfl (.int .i64 er) _ (run_mvZ (.tmp 19) rfl (.int .i64 er) rfl) ?_
       refine wl rfl (.bool true) _ (run_eqZ (.tmp 137) (.const (.int .i64 0)) rfl er 0 rfl rfl true (decide_eq_true hz)) ?_
       simp only [Act.put, aS, aC, aZ]
       refine wpList_nil ?_
       obtain ⟨ea, eb_, ed⟩ := HA1.out.2.2.2 hz
       have hos : osA os [97] bs3 er = os ++ [([97], bs3)] := (by unfold osA; rw [if_pos hz])
       have HS9 : Hid (Sq 2 gv W0 X3 c0 c2) := HA1.out.1.trans (Sq.bel c2 RX3.out.below)
       have HK9 : Hid (Wk w X3 c2 2 gp gv 0 120 m2 (osA os [97] bs3 er) false [] (32 * k + 16)) := HF0.out.k.sq1 HS9.out (HA1.out.2.1.below RX3.out.below) HA1.out.2.2.1
       have HT9 : Hid (TdIn w.heap.size 2 gv c2 X3 u10 (tdsOf 0 os)) := HF0.out.t.sq HS9.out
       have HB9 : Hid (Bt gv c2 X3 u10 vc1 bs3) := HB2.out.sq HS9.out
       have HRW : Hid (Row X3 q18 40 (plC ((0 : Nat) : Int) (wide os : Nat) (nb bs3.length : Nat) false)) := (by have h9 := RX3.out.at 0 rfl; rw [ea, eb_, ed] at h9; exact h9)
       go_upto_region 28 with fail
       refine wp_region_lit ?_
       refine wl rfl u10 _ (run_mvZ (.tmp 10) rfl u10 rfl) ?_
       refine wl rfl vc1 _ (run_mvZ (.tmp 12) rfl vc1 rfl) ?_
       simp only [Act.put, aS, aC, aZ]
       refine wl rfl (.agg ((plC ((0 : Nat) : Int) (wide os : Nat) (nb bs3.length : Nat) false)).toArray) _ (run_loadA ag40 (.tmp 18) rfl q18 (0) rfl ((plC ((0 : Nat) : Int) (wide os : Nat) (nb bs3.length : Nat) false)) rfl (rows_one HRW.out)) ?_
       refine wl rfl (.agg (tdC ⟨[97], bs3, 0, wide os, nb bs3.length, false⟩ vc1).toArray) _ (run_build48 (.const (.string { data := #[97] })) (.tmp 140) (.tmp 141) rfl ⟨[97], bs3, 0, wide os, nb bs3.length, false⟩ rfl vc1 HB9.out.1.1 rfl rfl rfl) ?_
       simp only [Act.put, aS, aC, aZ]
       refine wl rfl (.slice (some ⟨X3.heap.size, 0, none⟩) 1 1) _ (run_litC el35 (tdC ⟨[97], bs3, 0, wide os, nb bs3.length, false⟩ vc1) rfl (.tmp 142) rfl rfl) ?_
       have hb4_ := below_alloc X3 (.cells (tdC ⟨[97], bs3, 0, wide os, nb bs3.length, false⟩ vc1).toArray 48)
       have r4_ := Row.new X3 48 (tdC ⟨[97], bs3, 0, wide os, nb bs3.length, false⟩ vc1)
       obtain ⟨X4, hW_⟩ : ∃ U_ : World, U_ = X3.alloc (.cells (tdC ⟨[97], bs3, 0, wide os, nb bs3.length, false⟩ vc1).toArray 48) := ⟨_, rfl⟩
       obtain ⟨q4, hq_⟩ : ∃ q, q = X3.heap.size := ⟨_, rfl⟩
       rw [← hW_] at hb4_
       rw [← hW_, ← hq_] at r4_
       rw [← hW_, ← hq_]
       have H4 : Hid (Below X3.heap.size X3 X4 ∧ Row X4 q4 48 (tdC ⟨[97], bs3, 0, wide os, nb bs3.length, false⟩ vc1)) := ⟨hb4_, r4_⟩
       clear hb4_ r4_ hW_ hq_
       simp only [Act.put, aS, aC, aZ]
       obtain ⟨vn, X5, hr_, hf_⟩ := HF0.out.yes hos (HK9.out.bel H4.out.1) (HT9.out.sq (Sq.bel c2 H4.out.1)) vc1 q4 (HB9.out.sq (Sq.bel c2 H4.out.1)).1 HB9.out.2 H4.out.2.at
       refine wl rfl vn _ (run_appOp (.tmp 139) (.tmp 143) rfl _ _ _ rfl rfl hr_) ?_
       have HF5 : Hid (Fg w X5 c2 gp gv 120 m2 (osA os [97] bs3 er) (32 * k + 16) vn) := hf_
       clear hr_ hf_
       simp only [Act.put, aS, aC, aZ]
       refine wl rfl vn _ (run_asZ (.tmp 144) rfl vn rfl) ?_
       simp only [Act.put, aS, aC, aZ]
       refine wpList_nil ?_
       go_upto_region 11 with fail
       refine wp_region_lit ?_
       refine wl rfl (.int .i64 (k : Nat)) _ (run_mvZ (.tmp 11) rfl (.int .i64 (k : Nat)) rfl) ?_
       refine wl rfl (.int .i64 ((k + 1 : Nat) : Int)) _ (run_addZ (.tmp 71) (.const (.int .i64 1)) rfl (k : Nat) 1 _ rfl rfl (by omega) (by omega) (by omega)) ?_
       simp only [Act.put, aS, aC, aZ]
       refine wl rfl (.int .i64 ((k + 1 : Nat) : Int)) _ (run_asZ (.tmp 72) rfl (.int .i64 ((k + 1 : Nat) : Int)) rfl) ?_
       simp only [Act.put, aS, aC, aZ]
       refine wpList_nil ?_
       go_wp2_with fail
       exact ⟨⟨k + 1, rfl, by omega, by omega, _, _, _, HF5.out.le (by omega)⟩, by simp [intOf]; omega⟩
      ·go_upto_region 27 with fail
       refine wp_region_lit ?_
       refine wl rfl (.int .i64 er) _ (run_mvZ (.tmp 19) rfl (.int .i64 er) rfl) ?_
       refine wl rfl (.bool false) _ (run_eqZ (.tmp 137) (.const (.int .i64 0)) rfl er 0 rfl rfl false (decide_eq_false hz)) ?_
       simp only [Act.put, aS, aC, aZ]
       refine wpList_nil ?_
       have hos : osA os [97] bs3 er = os := (by unfold osA; rw [if_neg hz])
       have HF5 : Hid (Fg w X3 c2 gp gv 120 m2 os (32 * k + 16) u10) := (by
        have h9 := HA1.out.2.1
        rw [hos] at h9
        exact (HF0.out.no HA1.out.1 h9 rfl HA1.out.2.2.1).bel RX3.out.below)
       go_upto_region 11 with fail
       refine wp_region_lit ?_
       refine wl rfl (.int .i64 (k : Nat)) _ (run_mvZ (.tmp 11) rfl (.int .i64 (k : Nat)) rfl) ?_
       refine wl rfl (.int .i64 ((k + 1 : Nat) : Int)) _ (run_addZ (.tmp 71) (.const (.int .i64 1)) rfl (k : Nat) 1 _ rfl rfl (by omega) (by omega) (by omega)) ?_
       simp only [Act.put, aS, aC, aZ]
       refine wl rfl (.int .i64 ((k + 1 : Nat) : Int)) _ (run_asZ (.tmp 72) rfl (.int .i64 ((k + 1 : Nat) : Int)) rfl) ?_
       simp only [Act.put, aS, aC, aZ]
       refine wpList_nil ?_
       go_wp2_with fail
       exact ⟨⟨k + 1, rfl, by omega, by omega, _, _, _, HF5.out.le (by omega)⟩, by simp [intOf]; omega⟩
     ·go_upto_region 24 with fail
      refine wp_region_lit ?_
      refine wl rfl au _ (run_mvZ (.tmp 12) rfl au rfl) ?_
      refine wl rfl (.int .i64 ((A.getD k []).length : Nat)) _ (run_lenS HB0.out.1.1 (.tmp 126) rfl rfl) ?_
      simp only [Act.put, aS, aC, aZ]
      refine wl rfl (.bool false) _ (run_gtrZ (.tmp 127) (.const (.int .i64 512)) rfl ((A.getD k []).length : Nat) 512 rfl rfl false (decide_eq_false (by omega))) ?_
      simp only [Act.put, aS, aC, aZ]
      refine wpList_nil ?_
      go_upto_region 26 with fail
      refine wp_region_lit ?_
      refine wl rfl (ptr gv) _ (run_mvZ (.tmp 8) rfl (ptr gv) rfl) ?_
      refine wl rfl au _ (run_mvZ (.tmp 12) rfl au rfl) ?_
      simp only [Act.put, aS, aC, aZ]
      refine wpList_callW eN12 [.tmp 132, .const (.string { data := #[97] }), .tmp 133] _ rfl rfl [(ptr gv), (str [97]), au] rfl ?_
      refine (vapp_s HF0.out.k.v (by have := HF0.out.k.k; omega) [97] (A.getD k []) au (by decide) (by decide) HB0.out.1.1 (HB0.out.1.2.imp (fun h => h) fun h g e => (h g e).2.1)).mono ?_
      rintro e X1 ⟨c2, m2, er, her_, rfl, s_, v_, o_, _⟩
      obtain ⟨pa, pb, pd, hpl_, hpx_, _⟩ := plA_form 0 os (A.getD k []) er
      rw [hpl_]
      refine ⟨_, rfl, ?_⟩
      have HA1 : Hid (Sq 2 gv W0 X1 c0 c2 ∧ VOn X1 c2 2 gp gv 0 120 m2 (osA os [97] (A.getD k []) er) false ∧ (m2 = m0 ∨ Oth2 m0 m2 0) ∧ (er = 0 → pa = ((0 : Nat) : Int) ∧ pb = (wide os : Nat) ∧ pd = (nb (A.getD k []).length : Nat))) := ⟨s_, v_, o_, hpx_⟩
      have HL1 : Hid (Loc X1 X1 []) := Loc.nil (Below.refl _ _)
      clear her_ s_ v_ o_ hpl_ hpx_
      simp only [Act.put, aS, aC, aZ]
      refine wl rfl (.tuple #[(.agg (plC pa pb pd false).toArray), (.int .i64 er)]) _ (run_mvZ (.tmp 134) rfl (.tuple #[(.agg (plC pa pb pd false).toArray), (.int .i64 er)]) rfl) ?_
      refine wl rfl (.agg (plC pa pb pd false).toArray) _ (run_extZ (.tmp 131) 0 rfl #[(.agg (plC pa pb pd false).toArray), (.int .i64 er)] rfl (.agg (plC pa pb pd false).toArray) rfl) ?_
      simp only [Act.put, aS, aC, aZ]
      refine wl rfl (.int .i64 er) _ (run_extZ (.tmp 131) 1 rfl #[(.agg (plC pa pb pd false).toArray), (.int .i64 er)] rfl (.int .i64 er) rfl) ?_
      refine wl rfl (ptr X1.heap.size) _ (run_allocA ((plC 0 0 0 false)) zero40 rfl) ?_
      have k_ := HL1.out.box 40 ((plC 0 0 0 false))
      obtain ⟨X2, hW_⟩ : ∃ W, W = X1.alloc (.cells ((plC 0 0 0 false)).toArray 40) := ⟨_, rfl⟩
      obtain ⟨q18, hq_⟩ : ∃ q, q = X1.heap.size := ⟨_, rfl⟩
      rw [← hW_, ← hq_] at k_
      rw [← hW_, ← hq_]
      clear hq_
      have RX2 : Hid (Loc X1 X2 [(q18, 40, (plC 0 0 0 false))]) := k_
      clear k_ hW_ HL1
      simp only [Act.put, aS, aC, aZ]
      refine wlS rfl rfl _ (run_storeL ag40 (.tmp 18) (.tmp 135) rfl RX2.out 0 rfl (0) rfl (plC pa pb pd false) rfl rfl (Nat.le_refl 4) (plC_one _ _ _ _)).1 ?_
      have k_ := RX2.out.lay 0 rfl (0) (plC pa pb pd false)
      rw [splice_all (plC 0 0 0 false) (plC pa pb pd false) rfl] at k_ ⊢
      obtain ⟨X3, hW_⟩ : ∃ W, W = X2.setRow q18 (plC pa pb pd false).toArray := ⟨_, rfl⟩
      rw [← hW_] at k_ ⊢
      have RX3 : Hid (Loc X1 X3 [(q18, 40, plC pa pb pd false)]) := k_
      clear k_ hW_ RX2
      refine wl rfl (.int .i64 er) _ (run_asZ (.tmp 136) rfl (.int .i64 er) rfl) ?_
      simp only [Act.put, aS, aC, aZ]
      refine wpList_nil ?_
      by_cases hz : er = 0
      ·go_upto_region 27 with fail
       refine wp_region_lit ?_
       refine wl rfl (.int .i64 er) _ (run_mvZ (.tmp 19) rfl (.int .i64 er) rfl) ?_
       refine wl rfl (.bool true) _ (run_eqZ (.tmp 137) (.const (.int .i64 0)) rfl er 0 rfl rfl true (decide_eq_true hz)) ?_
       simp only [Act.put, aS, aC, aZ]
       refine wpList_nil ?_
       obtain ⟨ea, eb_, ed⟩ := HA1.out.2.2.2 hz
       have hos : osA os [97] (A.getD k []) er = os ++ [([97], (A.getD k []))] := (by unfold osA; rw [if_pos hz])
       have HS9 : Hid (Sq 2 gv W0 X3 c0 c2) := HA1.out.1.trans (Sq.bel c2 RX3.out.below)
       have HK9 : Hid (Wk w X3 c2 2 gp gv 0 120 m2 (osA os [97] (A.getD k []) er) false [] (32 * k + 16)) := HF0.out.k.sq1 HS9.out (HA1.out.2.1.below RX3.out.below) HA1.out.2.2.1
       have HT9 : Hid (TdIn w.heap.size 2 gv c2 X3 u10 (tdsOf 0 os)) := HF0.out.t.sq HS9.out
       have HB9 : Hid (Bt gv c2 X3 u10 au (A.getD k [])) := HB0.out.sq HS9.out
       have HRW : Hid (Row X3 q18 40 (plC ((0 : Nat) : Int) (wide os : Nat) (nb (A.getD k []).length : Nat) false)) := (by have h9 := RX3.out.at 0 rfl; rw [ea, eb_, ed] at h9; exact h9)
       go_upto_region 28 with fail
       refine wp_region_lit ?_
       refine wl rfl u10 _ (run_mvZ (.tmp 10) rfl u10 rfl) ?_
       refine wl rfl au _ (run_mvZ (.tmp 12) rfl au rfl) ?_
       simp only [Act.put, aS, aC, aZ]
       refine wl rfl (.agg ((plC ((0 : Nat) : Int) (wide os : Nat) (nb (A.getD k []).length : Nat) false)).toArray) _ (run_loadA ag40 (.tmp 18) rfl q18 (0) rfl ((plC ((0 : Nat) : Int) (wide os : Nat) (nb (A.getD k []).length : Nat) false)) rfl (rows_one HRW.out)) ?_
       refine wl rfl (.agg (tdC ⟨[97], (A.getD k []), 0, wide os, nb (A.getD k []).length, false⟩ au).toArray) _ (run_build48 (.const (.string { data := #[97] })) (.tmp 140) (.tmp 141) rfl ⟨[97], (A.getD k []), 0, wide os, nb (A.getD k []).length, false⟩ rfl au HB9.out.1.1 rfl rfl rfl) ?_
       simp only [Act.put, aS, aC, aZ]
       refine wl rfl (.slice (some ⟨X3.heap.size, 0, none⟩) 1 1) _ (run_litC el35 (tdC ⟨[97], (A.getD k []), 0, wide os, nb (A.getD k []).length, false⟩ au) rfl (.tmp 142) rfl rfl) ?_
       have hb4_ := below_alloc X3 (.cells (tdC ⟨[97], (A.getD k []), 0, wide os, nb (A.getD k []).length, false⟩ au).toArray 48)
       have r4_ := Row.new X3 48 (tdC ⟨[97], (A.getD k []), 0, wide os, nb (A.getD k []).length, false⟩ au)
       obtain ⟨X4, hW_⟩ : ∃ U_ : World, U_ = X3.alloc (.cells (tdC ⟨[97], (A.getD k []), 0, wide os, nb (A.getD k []).length, false⟩ au).toArray 48) := ⟨_, rfl⟩
       obtain ⟨q4, hq_⟩ : ∃ q, q = X3.heap.size := ⟨_, rfl⟩
       rw [← hW_] at hb4_
       rw [← hW_, ← hq_] at r4_
       rw [← hW_, ← hq_]
       have H4 : Hid (Below X3.heap.size X3 X4 ∧ Row X4 q4 48 (tdC ⟨[97], (A.getD k []), 0, wide os, nb (A.getD k []).length, false⟩ au)) := ⟨hb4_, r4_⟩
       clear hb4_ r4_ hW_ hq_
       simp only [Act.put, aS, aC, aZ]
       obtain ⟨vn, X5, hr_, hf_⟩ := HF0.out.yes hos (HK9.out.bel H4.out.1) (HT9.out.sq (Sq.bel c2 H4.out.1)) au q4 (HB9.out.sq (Sq.bel c2 H4.out.1)).1 HB9.out.2 H4.out.2.at
       refine wl rfl vn _ (run_appOp (.tmp 139) (.tmp 143) rfl _ _ _ rfl rfl hr_) ?_
       have HF5 : Hid (Fg w X5 c2 gp gv 120 m2 (osA os [97] (A.getD k []) er) (32 * k + 16) vn) := hf_
       clear hr_ hf_
       simp only [Act.put, aS, aC, aZ]
       refine wl rfl vn _ (run_asZ (.tmp 144) rfl vn rfl) ?_
       simp only [Act.put, aS, aC, aZ]
       refine wpList_nil ?_
       go_upto_region 11 with fail
       refine wp_region_lit ?_
       refine wl rfl (.int .i64 (k : Nat)) _ (run_mvZ (.tmp 11) rfl (.int .i64 (k : Nat)) rfl) ?_
       refine wl rfl (.int .i64 ((k + 1 : Nat) : Int)) _ (run_addZ (.tmp 71) (.const (.int .i64 1)) rfl (k : Nat) 1 _ rfl rfl (by omega) (by omega) (by omega)) ?_
       simp only [Act.put, aS, aC, aZ]
       refine wl rfl (.int .i64 ((k + 1 : Nat) : Int)) _ (run_asZ (.tmp 72) rfl (.int .i64 ((k + 1 : Nat) : Int)) rfl) ?_
       simp only [Act.put, aS, aC, aZ]
       refine wpList_nil ?_
       go_wp2_with fail
       exact ⟨⟨k + 1, rfl, by omega, by omega, _, _, _, HF5.out.le (by omega)⟩, by simp [intOf]; omega⟩
      ·go_upto_region 27 with fail
       refine wp_region_lit ?_
       refine wl rfl (.int .i64 er) _ (run_mvZ (.tmp 19) rfl (.int .i64 er) rfl) ?_
       refine wl rfl (.bool false) _ (run_eqZ (.tmp 137) (.const (.int .i64 0)) rfl er 0 rfl rfl false (decide_eq_false hz)) ?_
       simp only [Act.put, aS, aC, aZ]
       refine wpList_nil ?_
       have hos : osA os [97] (A.getD k []) er = os := (by unfold osA; rw [if_neg hz])
       have HF5 : Hid (Fg w X3 c2 gp gv 120 m2 os (32 * k + 16) u10) := (by
        have h9 := HA1.out.2.1
        rw [hos] at h9
        exact (HF0.out.no HA1.out.1 h9 rfl HA1.out.2.2.1).bel RX3.out.below)
       go_upto_region 11 with fail
       refine wp_region_lit ?_
       refine wl rfl (.int .i64 (k : Nat)) _ (run_mvZ (.tmp 11) rfl (.int .i64 (k : Nat)) rfl) ?_
       refine wl rfl (.int .i64 ((k + 1 : Nat) : Int)) _ (run_addZ (.tmp 71) (.const (.int .i64 1)) rfl (k : Nat) 1 _ rfl rfl (by omega) (by omega) (by omega)) ?_
       simp only [Act.put, aS, aC, aZ]
       refine wl rfl (.int .i64 ((k + 1 : Nat) : Int)) _ (run_asZ (.tmp 72) rfl (.int .i64 ((k + 1 : Nat) : Int)) rfl) ?_
       simp only [Act.put, aS, aC, aZ]
       refine wpList_nil ?_
       go_wp2_with fail
       exact ⟨⟨k + 1, rfl, by omega, by omega, _, _, _, HF5.out.le (by omega)⟩, by simp [intOf]; omega⟩
    ·go_upto_region 13 with fail
     refine wp_region_lit ?_
     refine wl rfl (.int .i64 (k : Nat)) _ (run_mvZ (.tmp 11) rfl (.int .i64 (k : Nat)) rfl) ?_
     refine wl rfl vf _ (run_mvZ (.tmp 1) rfl vf rfl) ?_
     simp only [Act.put, aS, aC, aZ]
     refine wl rfl (.int .i64 (F.length : Nat)) _ (run_lenI HM.out.2.2.2.1 (.tmp 78) rfl rfl) ?_
     refine wl rfl (.bool true) _ (run_lssZ (.tmp 77) (.tmp 79) rfl (k : Nat) (F.length : Nat) rfl rfl true (decide_eq_true (by omega))) ?_
     simp only [Act.put, aS, aC, aZ]
     refine wl rfl (.bool true) _ (run_mvZ (.tmp 80) rfl (.bool true) rfl) ?_
     refine wl (by kernel_rfl) vf _ (run_mvZ (.tmp 1) rfl vf rfl) ?_
     simp only [Act.put, aS, aC, aZ]
     refine wl (by kernel_rfl) (.int .i64 (k : Nat)) _ (run_mvZ (.tmp 11) rfl (.int .i64 (k : Nat)) rfl) ?_
     refine wl (by kernel_rfl) (.pointer (some ⟨fb, fj, none⟩)) _ (run_idx (.tmp 82) (.tmp 83) rfl _ _ _ rfl rfl HXF.out.1) ?_
     simp only [Act.put, aS, aC, aZ]
     refine wl (by kernel_rfl) (.int .i64 f) _ (run_load1 o3 (.tmp 84) rfl fb (fj) rfl (.int .i64 f) (HXF.out.2.1 _ HF0.out.k.f.bel)) ?_
     refine wl (by kernel_rfl) (.bool true) _ (run_geqZ (.tmp 85) (.const (.int .i64 0)) rfl f 0 rfl rfl true (decide_eq_true (by omega))) ?_
     simp only [Act.put, aS, aC, aZ]
     refine wl rfl (.bool true) _ (run_pickZ (.tmp 81) (.tmp 86) (.const (.bool false)) rfl true (.bool true) rfl rfl) ?_
     simp only [Act.put, aS, aC, aZ]
     refine wpList_nil ?_
     obtain ⟨fn, hfn⟩ : ∃ n : Nat, f = (n : Nat) := ⟨f.toNat, by omega⟩
     subst hfn
     go_upto_region 14 with fail
     refine wp_region_lit ?_
     refine wl rfl (.slice (some ⟨W0.heap.size, 0, none⟩) 0 0) _ (run_lit38 rfl) ?_
     have hb_ := below_alloc W0 (.cells #[] 5)
     have o_ := BOwn.new W0 W0.heap.size (Nat.le_refl _)
     obtain ⟨Y1, hW_⟩ : ∃ U_ : World, U_ = W0.alloc (.cells #[] 5) := ⟨_, rfl⟩
     obtain ⟨vA0, hv_⟩ : ∃ v : Value, v = .slice (some ⟨W0.heap.size, 0, none⟩) 0 0 := ⟨_, rfl⟩
     rw [← hW_] at hb_ o_ ⊢
     rw [← hv_] at o_ ⊢
     have HY1 : Hid (Below W0.heap.size W0 Y1 ∧ BOwn Y1 W0.heap.size vA0 []) := ⟨hb_, o_⟩
     clear hb_ o_ hW_ hv_
     simp only [Act.put, aS, aC, aZ]
     refine wl rfl vA0 _ (run_asZ (.tmp 88) rfl vA0 rfl) ?_
     simp only [Act.put, aS, aC, aZ]
     refine wpList_nil ?_
     go_upto_region 15 with fail
     refine wp_region_lit ?_
     refine wl rfl (.int .i64 0) _ (run_asZ (.const (.int .i64 0)) rfl (.int .i64 0) rfl) ?_
     simp only [Act.put, aS, aC, aZ]
     refine wpList_nil ?_
     go_wp2_with fail
     go_loopw [13, 14, 15, 16] (fun vA vj _ _ W => ∃ (j : Nat) (cs : List Nat), vj = .int .i64 (j : Nat) ∧ j ≤ 8 ∧ Hid (Below W0.heap.size W0 W ∧ BOwn W W0.heap.size vA cs ∧ cs.length ≤ 64 * j ∧ ∀ c ∈ cs, c < 256)) (fun _ vj _ _ _ => 8 - (intOf vj).toNat)
     case atStart => exact ⟨0, [], rfl, by decide, HY1.out.1, HY1.out.2, Nat.zero_le _, fun c hc => by cases hc⟩
     case round =>
      obtain ⟨j, cs, rfl, hj8, HI⟩ := hrel
      by_cases hj : j < 8
      ·as_aux_lemma =>
       go_upto_region 16 with fail
       refine wp_region_lit ?_
       refine wl rfl (.int .i64 (j : Nat)) _ (run_mvZ (.tmp 14) rfl (.int .i64 (j : Nat)) rfl) ?_
       refine wl rfl (.bool true) _ (run_lssZ (.tmp 89) (.const (.int .i64 8)) rfl (j : Nat) 8 rfl rfl true (decide_eq_true (by omega))) ?_
       simp only [Act.put, aS, aC, aZ]
       refine wpList_nil ?_
       have HFW : Hid (Fg w wr c0 gp gv 120 m0 os (32 * k) u10) := HF0.out.bel HI.out.1
       have hmod_ : fn % 40 < 40 := Nat.mod_lt _ (by decide)
       obtain ⟨p, hp⟩ : ∃ p, p = fn % 40 + j := ⟨_, rfl⟩
       by_cases hpl : p < m0.len 0
       ·go_upto_region 18 with fail
        refine wp_region_lit ?_
        refine wl rfl (ptr gp) _ (run_mvZ (.tmp 6) rfl (ptr gp) rfl) ?_
        refine wl rfl vf _ (run_mvZ (.tmp 1) rfl vf rfl) ?_
        simp only [Act.put, aS, aC, aZ]
        refine wl rfl (.int .i64 (k : Nat)) _ (run_mvZ (.tmp 11) rfl (.int .i64 (k : Nat)) rfl) ?_
        refine wl rfl (.pointer (some ⟨fb, fj, none⟩)) _ (run_idx (.tmp 95) (.tmp 96) rfl _ _ _ rfl rfl HXF.out.1) ?_
        simp only [Act.put, aS, aC, aZ]
        refine wl rfl (.int .i64 (fn : Nat)) _ (run_load1 o3 (.tmp 97) rfl fb (fj) rfl (.int .i64 (fn : Nat)) (HXF.out.2.1 _ HFW.out.k.f.bel)) ?_
        refine wl rfl (.int .i64 ((fn % 40 : Nat) : Int)) _ (run_rem40 (.tmp 98) 40 (by decide) rfl fn rfl) ?_
        simp only [Act.put, aS, aC, aZ]
        refine wl rfl (.int .i64 (j : Nat)) _ (run_mvZ (.tmp 14) rfl (.int .i64 (j : Nat)) rfl) ?_
        refine wl rfl (.int .i64 (p : Nat)) _ (run_addZ (.tmp 99) (.tmp 100) rfl (fn % 40 : Nat) (j : Nat) _ rfl rfl (by omega) (by omega) (by omega)) ?_
        simp only [Act.put, aS, aC, aZ]
        refine wpList_callW eN32 [.tmp 94, .const (.int .i64 0), .tmp 101] _ rfl rfl [(ptr gp), (.int .i64 0), (.int .i64 (p : Nat))] rfl ?_
        refine (HFW.out.k.v.live.read (by have := HFW.out.k.k; omega) HFW.out.k.v.tape.tv.on 0 p HFW.out.k.v.tape.tv.lt hpl).mono ?_
        rintro e Y2 ⟨rb, rfl, _, hr_, hb_⟩
        refine ⟨_, rfl, ?_⟩
        have hsec_ := Pl.rd_sec HFW.out.k.v.tape.tv.wf 0 p
        have hsl_ := whole_slice hr_ hsec_.2 (by rw [hsec_.1]; decide)
        rw [hsec_.1] at hsl_
        have HY2 : Hid (SliceIn Y2 (.slice (some ⟨rb, 0, none⟩) 64 64) (m0.rd 0 p) ∧ (m0.rd 0 p).length = 64 ∧ (∀ c ∈ m0.rd 0 p, c < 256) ∧ Below wr.heap.size wr Y2) := ⟨hsl_, hsec_.1, hsec_.2, hb_⟩
        clear hr_ hb_ hsec_ hsl_
        simp only [Act.put, aS, aC, aZ]
        refine wl rfl (.tuple #[(.slice (some ⟨rb, 0, none⟩) 64 64), (.int .i64 0)]) _ (run_mvZ (.tmp 102) rfl (.tuple #[(.slice (some ⟨rb, 0, none⟩) 64 64), (.int .i64 0)]) rfl) ?_
        refine wl rfl (.slice (some ⟨rb, 0, none⟩) 64 64) _ (run_extZ (.tmp 93) 0 rfl #[(.slice (some ⟨rb, 0, none⟩) 64 64), (.int .i64 0)] rfl (.slice (some ⟨rb, 0, none⟩) 64 64) rfl) ?_
        simp only [Act.put, aS, aC, aZ]
        refine wl rfl (.int .i64 0) _ (run_extZ (.tmp 93) 1 rfl #[(.slice (some ⟨rb, 0, none⟩) 64 64), (.int .i64 0)] rfl (.int .i64 0) rfl) ?_
        refine wl rfl (.slice (some ⟨rb, 0, none⟩) 64 64) _ (run_asZ (.tmp 103) rfl (.slice (some ⟨rb, 0, none⟩) 64 64) rfl) ?_
        simp only [Act.put, aS, aC, aZ]
        refine wl rfl (.int .i64 0) _ (run_asZ (.tmp 104) rfl (.int .i64 0) rfl) ?_
        simp only [Act.put, aS, aC, aZ]
        refine wpList_nil ?_
        go_upto_region 19 with fail
        refine wp_region_lit ?_
        refine wl rfl (.int .i64 0) _ (run_mvZ (.tmp 16) rfl (.int .i64 0) rfl) ?_
        refine wl rfl (.bool true) _ (run_eqZ (.tmp 105) (.const (.int .i64 0)) rfl (0) (0) rfl rfl true rfl) ?_
        simp only [Act.put, aS, aC, aZ]
        refine wpList_nil ?_
        go_upto_region 20 with fail
        refine wp_region_lit ?_
        refine wl rfl u13 _ (run_mvZ (.tmp 13) rfl u13 rfl) ?_
        refine wl rfl (.slice (some ⟨rb, 0, none⟩) 64 64) _ (run_mvZ (.tmp 15) rfl (.slice (some ⟨rb, 0, none⟩) 64 64) rfl) ?_
        simp only [Act.put, aS, aC, aZ]
        obtain ⟨vB, Y3, hr_, ho_, hb_⟩ := run_bappT W0.heap.size u13 (.slice (some ⟨rb, 0, none⟩) 64 64) cs (m0.rd 0 p) (own_later HI.out.2.1 HY2.out.2.2.2) HY2.out.1 (by have := HI.out.2.2.1; have := HY2.out.2.1; omega) (Nat.le_trans HI.out.1.size HY2.out.2.2.2.size)
        refine wl rfl vB Y3 (run_appOp (.tmp 107) (.tmp 108) rfl _ _ _ rfl rfl hr_) ?_
        have HY3 : Hid (Below W0.heap.size W0 Y3 ∧ BOwn Y3 W0.heap.size vB (cs ++ m0.rd 0 p) ∧ (cs ++ m0.rd 0 p).length ≤ 64 * (j + 1) ∧ ∀ c ∈ (cs ++ m0.rd 0 p), c < 256) := ⟨(HI.out.1.trans (HY2.out.2.2.2.mono HI.out.1.size)).trans hb_, ho_, by rw [List.length_append, HY2.out.2.1]; have := HI.out.2.2.1; omega, fun c hc => (List.mem_append.1 hc).elim (HI.out.2.2.2 c) (HY2.out.2.2.1 c)⟩
        clear hr_ ho_ hb_
        simp only [Act.put, aS, aC, aZ]
        refine wl rfl vB _ (run_asZ (.tmp 109) rfl vB rfl) ?_
        simp only [Act.put, aS, aC, aZ]
        refine wpList_nil ?_
        go_upto_region 17 with fail
        refine wp_region_lit ?_
        refine wl rfl (.int .i64 (j : Nat)) _ (run_mvZ (.tmp 14) rfl (.int .i64 (j : Nat)) rfl) ?_
        refine wl rfl (.int .i64 ((j + 1 : Nat) : Int)) _ (run_addZ (.tmp 91) (.const (.int .i64 1)) rfl (j : Nat) 1 _ rfl rfl (by omega) (by omega) (by omega)) ?_
        simp only [Act.put, aS, aC, aZ]
        refine wl rfl (.int .i64 ((j + 1 : Nat) : Int)) _ (run_asZ (.tmp 92) rfl (.int .i64 ((j + 1 : Nat) : Int)) rfl) ?_
        simp only [Act.put, aS, aC, aZ]
        refine wpList_nil ?_
        go_wp2_with fail
        exact ⟨⟨j + 1, _, rfl, by omega, HY3.out⟩, by simp [intOf]; omega⟩
       ·go_upto_region 18 with fail
        refine wp_region_lit ?_
        refine wl rfl (ptr gp) _ (run_mvZ (.tmp 6) rfl (ptr gp) rfl) ?_
        refine wl rfl vf _ (run_mvZ (.tmp 1) rfl vf rfl) ?_
        simp only [Act.put, aS, aC, aZ]
        refine wl rfl (.int .i64 (k : Nat)) _ (run_mvZ (.tmp 11) rfl (.int .i64 (k : Nat)) rfl) ?_
        refine wl rfl (.pointer (some ⟨fb, fj, none⟩)) _ (run_idx (.tmp 95) (.tmp 96) rfl _ _ _ rfl rfl HXF.out.1) ?_
        simp only [Act.put, aS, aC, aZ]
        refine wl rfl (.int .i64 (fn : Nat)) _ (run_load1 o3 (.tmp 97) rfl fb (fj) rfl (.int .i64 (fn : Nat)) (HXF.out.2.1 _ HFW.out.k.f.bel)) ?_
        refine wl rfl (.int .i64 ((fn % 40 : Nat) : Int)) _ (run_rem40 (.tmp 98) 40 (by decide) rfl fn rfl) ?_
        simp only [Act.put, aS, aC, aZ]
        refine wl rfl (.int .i64 (j : Nat)) _ (run_mvZ (.tmp 14) rfl (.int .i64 (j : Nat)) rfl) ?_
        refine wl rfl (.int .i64 (p : Nat)) _ (run_addZ (.tmp 99) (.tmp 100) rfl (fn % 40 : Nat) (j : Nat) _ rfl rfl (by omega) (by omega) (by omega)) ?_
        simp only [Act.put, aS, aC, aZ]
        refine wpList_callW eN32 [.tmp 94, .const (.int .i64 0), .tmp 101] _ rfl rfl [(ptr gp), (.int .i64 0), (.int .i64 (p : Nat))] rfl ?_
        refine (HFW.out.k.v.live.readN (by have := HFW.out.k.k; omega) 0 (p : Nat) (fun hn => hpl (by have := hn.2.2.2; have e9 : (0 : Int).toNat = 0 := rfl; rw [e9] at this; omega))).mono ?_
        rintro e Y2 ⟨rfl, nn, rfl⟩
        rw [HFW.out.k.v.tape.tv.on]
        refine ⟨_, rfl, ?_⟩
        have HY2 : Hid (Below W0.heap.size W0 (wr.drewN nn) ∧ BOwn (wr.drewN nn) W0.heap.size u13 cs ∧ cs.length ≤ 64 * (j + 1) ∧ ∀ c ∈ cs, c < 256) := ⟨HI.out.1.trans ⟨rfl, rfl, rfl, Nat.le_refl _, fun _ _ => rfl⟩, HI.out.2.1, by have := HI.out.2.2.1; omega, HI.out.2.2.2⟩
        simp only [Act.put, aS, aC, aZ]
        refine wl rfl (.tuple #[(.slice none 0 0), (.int .i64 31)]) _ (run_mvZ (.tmp 102) rfl (.tuple #[(.slice none 0 0), (.int .i64 31)]) rfl) ?_
        refine wl rfl (.slice none 0 0) _ (run_extZ (.tmp 93) 0 rfl #[(.slice none 0 0), (.int .i64 31)] rfl (.slice none 0 0) rfl) ?_
        simp only [Act.put, aS, aC, aZ]
        refine wl rfl (.int .i64 31) _ (run_extZ (.tmp 93) 1 rfl #[(.slice none 0 0), (.int .i64 31)] rfl (.int .i64 31) rfl) ?_
        refine wl rfl (.slice none 0 0) _ (run_asZ (.tmp 103) rfl (.slice none 0 0) rfl) ?_
        simp only [Act.put, aS, aC, aZ]
        refine wl rfl (.int .i64 31) _ (run_asZ (.tmp 104) rfl (.int .i64 31) rfl) ?_
        simp only [Act.put, aS, aC, aZ]
        refine wpList_nil ?_
        go_upto_region 19 with fail
        refine wp_region_lit ?_
        refine wl rfl (.int .i64 31) _ (run_mvZ (.tmp 16) rfl (.int .i64 31) rfl) ?_
        refine wl rfl (.bool false) _ (run_eqZ (.tmp 105) (.const (.int .i64 0)) rfl (31) (0) rfl rfl false rfl) ?_
        simp only [Act.put, aS, aC, aZ]
        refine wpList_nil ?_
        go_upto_region 17 with fail
        refine wp_region_lit ?_
        refine wl rfl (.int .i64 (j : Nat)) _ (run_mvZ (.tmp 14) rfl (.int .i64 (j : Nat)) rfl) ?_
        refine wl rfl (.int .i64 ((j + 1 : Nat) : Int)) _ (run_addZ (.tmp 91) (.const (.int .i64 1)) rfl (j : Nat) 1 _ rfl rfl (by omega) (by omega) (by omega)) ?_
        simp only [Act.put, aS, aC, aZ]
        refine wl rfl (.int .i64 ((j + 1 : Nat) : Int)) _ (run_asZ (.tmp 92) rfl (.int .i64 ((j + 1 : Nat) : Int)) rfl) ?_
        simp only [Act.put, aS, aC, aZ]
        refine wpList_nil ?_
        go_wp2_with fail
        exact ⟨⟨j + 1, _, rfl, by omega, HY2.out⟩, by simp [intOf]; omega⟩
      ·go_upto_region 16 with fail
       refine wp_region_lit ?_
       refine wl rfl (.int .i64 (j : Nat)) _ (run_mvZ (.tmp 14) rfl (.int .i64 (j : Nat)) rfl) ?_
       refine wl rfl (.bool false) _ (run_lssZ (.tmp 89) (.const (.int .i64 8)) rfl (j : Nat) 8 rfl rfl false (decide_eq_false (by omega))) ?_
       simp only [Act.put, aS, aC, aZ]
       refine wpList_nil ?_
       obtain ⟨W6, hW6⟩ : ∃ X, X = wr := ⟨_, rfl⟩
       subst hW6
       have HFW : Hid (Fg w W6 c0 gp gv 120 m0 os (32 * k) u10) := HF0.out.bel HI.out.1
       obtain ⟨cut, hcut⟩ : ∃ p, p = fn % 9 := ⟨_, rfl⟩
       have hcut9 : cut < 9 := (by rw [hcut]; exact Nat.mod_lt _ (by decide))
       have hcsl : cs.length ≤ 512 := (by have := HI.out.2.2.1; omega)
       have hAk := HM.out.2.2.2.2.2 k
       go_upto_region 21 with fail
       refine wp_region_lit ?_
       refine wl rfl vf _ (run_mvZ (.tmp 1) rfl vf rfl) ?_
       refine wl rfl (.int .i64 (k : Nat)) _ (run_mvZ (.tmp 11) rfl (.int .i64 (k : Nat)) rfl) ?_
       simp only [Act.put, aS, aC, aZ]
       refine wl rfl (.pointer (some ⟨fb, fj, none⟩)) _ (run_idx (.tmp 110) (.tmp 111) rfl _ _ _ rfl rfl HXF.out.1) ?_
       refine wl rfl (.int .i64 (fn : Nat)) _ (run_load1 o3 (.tmp 112) rfl fb (fj) rfl (.int .i64 (fn : Nat)) (HXF.out.2.1 _ HFW.out.k.f.bel)) ?_
       simp only [Act.put, aS, aC, aZ]
       refine wl rfl (.int .i64 (cut : Nat)) _ ((by rw [hcut]; exact run_rem40 (.tmp 113) 9 (by decide) rfl fn rfl)) ?_
       refine wl rfl (.int .i64 (cut : Nat)) _ (run_asZ (.tmp 114) rfl (.int .i64 (cut : Nat)) rfl) ?_
       simp only [Act.put, aS, aC, aZ]
       refine wpList_nil ?_
       by_cases hcl : cut ≤ cs.length
       ·as_aux_lemma =>
        go_upto_region 22 with fail
        refine wp_region_lit ?_
        refine wl rfl (.int .i64 (cut : Nat)) _ (run_mvZ (.tmp 17) rfl (.int .i64 (cut : Nat)) rfl) ?_
        refine wl rfl u13 _ (run_mvZ (.tmp 13) rfl u13 rfl) ?_
        simp only [Act.put, aS, aC, aZ]
        refine wl rfl (.int .i64 (cs.length : Nat)) _ (run_lenS (HI.out.2.1.slice HI.out.2.2.2 (by omega)) (.tmp 116) rfl rfl) ?_
        refine wl rfl (.bool true) _ (run_leqZ (.tmp 115) (.tmp 117) rfl (cut : Nat) (cs.length : Nat) rfl rfl true (decide_eq_true (by omega))) ?_
        simp only [Act.put, aS, aC, aZ]
        refine wpList_nil ?_
        go_upto_region 23 with fail
        refine wp_region_lit ?_
        refine wl rfl (.slice (some ⟨W6.heap.size, 0, none⟩) 0 0) _ (run_lit38 rfl) ?_
        have hb_ := below_alloc W6 (.cells #[] 5)
        have o_ := BOwn.new W6 W0.heap.size HI.out.1.size
        obtain ⟨Y4, hW_⟩ : ∃ U_ : World, U_ = W6.alloc (.cells #[] 5) := ⟨_, rfl⟩
        obtain ⟨vE, hv_⟩ : ∃ v : Value, v = .slice (some ⟨W6.heap.size, 0, none⟩) 0 0 := ⟨_, rfl⟩
        rw [← hW_] at hb_ o_ ⊢
        rw [← hv_] at o_ ⊢
        have HY4 : Hid (Below W6.heap.size W6 Y4 ∧ BOwn Y4 W0.heap.size vE []) := ⟨hb_, o_⟩
        clear hb_ o_ hW_ hv_
        obtain ⟨vS, hsr_, hss_⟩ := run_bsub ((HI.out.2.1.slice HI.out.2.2.2 (by omega)).later HY4.out.1) (lo := some (.int .i64 (cut : Nat))) (hi := none) (mx := none) (l := cut) (h := cs.length) ⟨Or.inr ⟨_, rfl, rfl⟩, Or.inl ⟨rfl, rfl, rfl⟩, hcl, Nat.le_refl _⟩
        rw [List.take_length] at hss_
        have HVS : Hid ((∀ w', (Instr.slice 38 u13 (some (.int .i64 (cut : Nat))) none none).run Tryd.prog w' = .ok vS w') ∧ SliceIn Y4 vS (cs.drop cut)) := ⟨hsr_, hss_⟩
        clear hsr_ hss_
        simp only [Act.put, aS, aC, aZ]
        refine wl rfl u13 _ (run_mvZ (.tmp 13) rfl u13 rfl) ?_
        refine wl rfl (.int .i64 (cut : Nat)) _ (run_mvZ (.tmp 17) rfl (.int .i64 (cut : Nat)) rfl) ?_
        simp only [Act.put, aS, aC, aZ]
        refine wl rfl vS _ (run_subB (.tmp 120) (some (.tmp 121)) none none rfl u13 vS rfl HVS.out.1) ?_
        simp only [Act.put, aS, aC, aZ]
        obtain ⟨vG, Y5, hr_, ho_, hb_⟩ := run_bappT W0.heap.size vE vS [] (cs.drop cut) HY4.out.2 HVS.out.2 (by simp; omega) (Nat.le_trans HI.out.1.size HY4.out.1.size)
        rw [List.nil_append] at ho_
        refine wl rfl vG Y5 (run_appOp (.tmp 119) (.tmp 122) rfl _ _ _ rfl rfl hr_) ?_
        have HY5 : Hid (Below W0.heap.size W0 Y5 ∧ BOwn Y5 W0.heap.size vG (cs.drop cut)) := ⟨(HI.out.1.trans (HY4.out.1.mono HI.out.1.size)).trans hb_, ho_⟩
        clear hr_ ho_ hb_
        simp only [Act.put, aS, aC, aZ]
        refine wl rfl au _ (run_mvZ (.tmp 12) rfl au rfl) ?_
        simp only [Act.put, aS, aC, aZ]
        obtain ⟨vH, Y6, hr_, ho_, hb_⟩ := run_bappT W0.heap.size vG au (cs.drop cut) (A.getD k []) HY5.out.2 (HB0.out.1.1.later HY5.out.1) (by rw [List.length_drop]; omega) HY5.out.1.size
        refine wl rfl vH Y6 (run_appOp (.tmp 123) (.tmp 124) rfl _ _ _ rfl rfl hr_) ?_
        obtain ⟨bz, hbz⟩ : ∃ x, x = cs.drop cut ++ A.getD k [] := ⟨_, rfl⟩
        rw [← hbz] at ho_
        have hbzl : bz.length ≤ 140737488355328 := (by rw [hbz, List.length_append, List.length_drop]; omega)
        have HBZ : Hid (Bt gv c0 Y6 u10 vH bz) := HF0.out.fresh ho_ (fun c hc => by rw [hbz] at hc; exact (List.mem_append.1 hc).elim (fun h => HI.out.2.2.2 c (List.mem_of_mem_drop h)) (fun h => HB0.out.1.1.lt256 c h)) (by omega)
        have HFZ : Hid (Fg w Y6 c0 gp gv 120 m0 os (32 * k) u10) := HF0.out.bel (HY5.out.1.trans hb_)
        clear hr_ ho_ hb_ hbz
        simp only [Act.put, aS, aC, aZ]
        refine wl rfl vH _ (run_asZ (.tmp 125) rfl vH rfl) ?_
        simp only [Act.put, aS, aC, aZ]
        refine wpList_nil ?_
        by_cases hlong : 512 < bz.length
        ·go_upto_region 24 with fail
         refine wp_region_lit ?_
         refine wl rfl vH _ (run_mvZ (.tmp 12) rfl vH rfl) ?_
         refine wl rfl (.int .i64 (bz.length : Nat)) _ (run_lenS HBZ.out.1.1 (.tmp 126) rfl rfl) ?_
         simp only [Act.put, aS, aC, aZ]
         refine wl rfl (.bool true) _ (run_gtrZ (.tmp 127) (.const (.int .i64 512)) rfl (bz.length : Nat) 512 rfl rfl true (decide_eq_true (by omega))) ?_
         simp only [Act.put, aS, aC, aZ]
         refine wpList_nil ?_
         obtain ⟨vc4, hr_, hb_⟩ := HBZ.out.cut hlong
         obtain ⟨bs6, hbs2_⟩ : ∃ x, x = bz.take 512 := ⟨_, rfl⟩
         rw [← hbs2_] at hb_
         have HB5 : Hid (Bt gv c0 Y6 u10 vc4 bs6) := hb_
         go_upto_region 25 with fail
         refine wp_region_lit ?_
         refine wl rfl vH _ (run_mvZ (.tmp 12) rfl vH rfl) ?_
         refine wl rfl vc4 _ (run_subB (.tmp 129) none (some (.const (.int .i64 512))) none rfl vH vc4 rfl hr_) ?_
         simp only [Act.put, aS, aC, aZ]
         refine wl rfl vc4 _ (run_asZ (.tmp 130) rfl vc4 rfl) ?_
         simp only [Act.put, aS, aC, aZ]
         refine wpList_nil ?_
         clear hr_ hb_ hbs2_
         go_upto_region 26 with fail
         refine wp_region_lit ?_
         refine wl rfl (ptr gv) _ (run_mvZ (.tmp 8) rfl (ptr gv) rfl) ?_
         refine wl rfl vc4 _ (run_mvZ (.tmp 12) rfl vc4 rfl) ?_
         simp only [Act.put, aS, aC, aZ]
         refine wpList_callW eN12 [.tmp 132, .const (.string { data := #[97] }), .tmp 133] _ rfl rfl [(ptr gv), (str [97]), vc4] rfl ?_
         refine (vapp_s HFZ.out.k.v (by have := HFZ.out.k.k; omega) [97] bs6 vc4 (by decide) (by decide) HB5.out.1.1 (HB5.out.1.2.imp (fun h => h) fun h g e => (h g e).2.1)).mono ?_
         rintro e X1 ⟨c2, m2, er, her_, rfl, s_, v_, o_, _⟩
         obtain ⟨pa, pb, pd, hpl_, hpx_, _⟩ := plA_form 0 os bs6 er
         rw [hpl_]
         refine ⟨_, rfl, ?_⟩
         have HA1 : Hid (Sq 2 gv Y6 X1 c0 c2 ∧ VOn X1 c2 2 gp gv 0 120 m2 (osA os [97] bs6 er) false ∧ (m2 = m0 ∨ Oth2 m0 m2 0) ∧ (er = 0 → pa = ((0 : Nat) : Int) ∧ pb = (wide os : Nat) ∧ pd = (nb bs6.length : Nat))) := ⟨s_, v_, o_, hpx_⟩
         have HL1 : Hid (Loc X1 X1 []) := Loc.nil (Below.refl _ _)
         clear her_ s_ v_ o_ hpl_ hpx_
         simp only [Act.put, aS, aC, aZ]
         refine wl rfl (.tuple #[(.agg (plC pa pb pd false).toArray), (.int .i64 er)]) _ (run_mvZ (.tmp 134) rfl (.tuple #[(.agg (plC pa pb pd false).toArray), (.int .i64 er)]) rfl) ?_
         refine wl rfl (.agg (plC pa pb pd false).toArray) _ (run_extZ (.tmp 131) 0 rfl #[(.agg (plC pa pb pd false).toArray), (.int .i64 er)] rfl (.agg (plC pa pb pd false).toArray) rfl) ?_
         simp only [Act.put, aS, aC, aZ]
         refine wl rfl (.int .i64 er) _ (run_extZ (.tmp 131) 1 rfl #[(.agg (plC pa pb pd false).toArray), (.int .i64 er)] rfl (.int .i64 er) rfl) ?_
         refine wl rfl (ptr X1.heap.size) _ (run_allocA ((plC 0 0 0 false)) zero40 rfl) ?_
         have k_ := HL1.out.box 40 ((plC 0 0 0 false))
         obtain ⟨X2, hW_⟩ : ∃ W, W = X1.alloc (.cells ((plC 0 0 0 false)).toArray 40) := ⟨_, rfl⟩
         obtain ⟨q18, hq_⟩ : ∃ q, q = X1.heap.size := ⟨_, rfl⟩
         rw [← hW_, ← hq_] at k_
         rw [← hW_, ← hq_]
         clear hq_
         have RX2 : Hid (Loc X1 X2 [(q18, 40, (plC 0 0 0 false))]) := k_
         clear k_ hW_ HL1
         simp only [Act.put, aS, aC, aZ]
         refine wlS rfl rfl _ (run_storeL ag40 (.tmp 18) (.tmp 135) rfl RX2.out 0 rfl (0) rfl (plC pa pb pd false) rfl rfl (Nat.le_refl 4) (plC_one _ _ _ _)).1 ?_
         have k_ := RX2.out.lay 0 rfl (0) (plC pa pb pd false)
         rw [splice_all (plC 0 0 0 false) (plC pa pb pd false) rfl] at k_ ⊢
         obtain ⟨X3, hW_⟩ : ∃ W, W = X2.setRow q18 (plC pa pb pd false).toArray := ⟨_, rfl⟩
         rw [← hW_] at k_ ⊢
         have RX3 : Hid (Loc X1 X3 [(q18, 40, plC pa pb pd false)]) := k_
         clear k_ hW_ RX2
         refine wl rfl (.int .i64 er) _ (run_asZ (.tmp 136) rfl (.int .i64 er) rfl) ?_
         simp only [Act.put, aS, aC, aZ]
         refine wpList_nil ?_
         by_cases hz : er = 0
         ·go_upto_region 27 with fail
          refine wp_region_lit ?_
          refine wl rfl (.int .i64 er) _ (run_mvZ (.tmp 19) rfl (.int .i64 er) rfl) ?_
          refine wl rfl (.bool true) _ (run_eqZ (.tmp 137) (.const (.int .i64 0)) rfl er 0 rfl rfl true (decide_eq_true hz)) ?_
          simp only [Act.put, aS, aC, aZ]
          refine wpList_nil ?_
          obtain ⟨ea, eb_, ed⟩ := HA1.out.2.2.2 hz
          have hos : osA os [97] bs6 er = os ++ [([97], bs6)] := (by unfold osA; rw [if_pos hz])
          have HS9 : Hid (Sq 2 gv Y6 X3 c0 c2) := HA1.out.1.trans (Sq.bel c2 RX3.out.below)
          have HK9 : Hid (Wk w X3 c2 2 gp gv 0 120 m2 (osA os [97] bs6 er) false [] (32 * k + 16)) := HFZ.out.k.sq1 HS9.out (HA1.out.2.1.below RX3.out.below) HA1.out.2.2.1
          have HT9 : Hid (TdIn w.heap.size 2 gv c2 X3 u10 (tdsOf 0 os)) := HFZ.out.t.sq HS9.out
          have HB9 : Hid (Bt gv c2 X3 u10 vc4 bs6) := HB5.out.sq HS9.out
          have HRW : Hid (Row X3 q18 40 (plC ((0 : Nat) : Int) (wide os : Nat) (nb bs6.length : Nat) false)) := (by have h9 := RX3.out.at 0 rfl; rw [ea, eb_, ed] at h9; exact h9)
          go_upto_region 28 with fail
          refine wp_region_lit ?_
          refine wl rfl u10 _ (run_mvZ (.tmp 10) rfl u10 rfl) ?_
          refine wl rfl vc4 _ (run_mvZ (.tmp 12) rfl vc4 rfl) ?_
          simp only [Act.put, aS, aC, aZ]
          refine wl rfl (.agg ((plC ((0 : Nat) : Int) (wide os : Nat) (nb bs6.length : Nat) false)).toArray) _ (run_loadA ag40 (.tmp 18) rfl q18 (0) rfl ((plC ((0 : Nat) : Int) (wide os : Nat) (nb bs6.length : Nat) false)) rfl (rows_one HRW.out)) ?_
          refine wl rfl (.agg (tdC ⟨[97], bs6, 0, wide os, nb bs6.length, false⟩ vc4).toArray) _ (run_build48 (.const (.string { data := #[97] })) (.tmp 140) (.tmp 141) rfl ⟨[97], bs6, 0, wide os, nb bs6.length, false⟩ rfl vc4 HB9.out.1.1 rfl rfl rfl) ?_
          simp only [Act.put, aS, aC, aZ]
          refine wl rfl (.slice (some ⟨X3.heap.size, 0, none⟩) 1 1) _ (run_litC el35 (tdC ⟨[97], bs6, 0, wide os, nb bs6.length, false⟩ vc4) rfl (.tmp 142) rfl rfl) ?_
          have hb4_ := below_alloc X3 (.cells (tdC ⟨[97], bs6, 0, wide os, nb bs6.length, false⟩ vc4).toArray 48)
          have r4_ := Row.new X3 48 (tdC ⟨[97], bs6, 0, wide os, nb bs6.length, false⟩ vc4)
          obtain ⟨X4, hW_⟩ : ∃ U_ : World, U_ = X3.alloc (.cells (tdC ⟨[97], bs6, 0, wide os, nb bs6.length, false⟩ vc4).toArray 48) := ⟨_, rfl⟩
          obtain ⟨q4, hq_⟩ : ∃ q, q = X3.heap.size := ⟨_, rfl⟩
          rw [← hW_] at hb4_
          rw [← hW_, ← hq_] at r4_
          rw [← hW_, ← hq_]
          have H4 : Hid (Below X3.heap.size X3 X4 ∧ Row X4 q4 48 (tdC ⟨[97], bs6, 0, wide os, nb bs6.length, false⟩ vc4)) := ⟨hb4_, r4_⟩
          clear hb4_ r4_ hW_ hq_
          simp only [Act.put, aS, aC, aZ]
          obtain ⟨vn, X5, hr_, hf_⟩ := HFZ.out.yes hos (HK9.out.bel H4.out.1) (HT9.out.sq (Sq.bel c2 H4.out.1)) vc4 q4 (HB9.out.sq (Sq.bel c2 H4.out.1)).1 HB9.out.2 H4.out.2.at
          refine wl rfl vn _ (run_appOp (.tmp 139) (.tmp 143) rfl _ _ _ rfl rfl hr_) ?_
          have HF5 : Hid (Fg w X5 c2 gp gv 120 m2 (osA os [97] bs6 er) (32 * k + 16) vn) := hf_
          clear hr_ hf_
          simp only [Act.put, aS, aC, aZ]
          refine wl rfl vn _ (run_asZ (.tmp 144) rfl vn rfl) ?_
          simp only [Act.put, aS, aC, aZ]
          refine wpList_nil ?_
          go_upto_region 11 with fail
          refine wp_region_lit ?_
          refine wl rfl (.int .i64 (k : Nat)) _ (run_mvZ (.tmp 11) rfl (.int .i64 (k : Nat)) rfl) ?_
          refine wl rfl (.int .i64 ((k + 1 : Nat) : Int)) _ (run_addZ (.tmp 71) (.const (.int .i64 1)) rfl (k : Nat) 1 _ rfl rfl (by omega) (by omega) (by omega)) ?_
          simp only [Act.put, aS, aC, aZ]
          refine wl rfl (.int .i64 ((k + 1 : Nat) : Int)) _ (run_asZ (.tmp 72) rfl (.int .i64 ((k + 1 : Nat) : Int)) rfl) ?_
          simp only [Act.put, aS, aC, aZ]
          refine wpList_nil ?_
          go_wp2_with fail
          exact ⟨⟨k + 1, rfl, by omega, by omega, _, _, _, HF5.out.le (by omega)⟩, by simp [intOf]; omega⟩
         ·go_upto_region 27 with fail
          refine wp_region_lit ?_
          refine wl rfl (.int .i64 er) _ (run_mvZ (.tmp 19) rfl (.int .i64 er) rfl) ?_
          refine wl rfl (.bool false) _ (run_eqZ (.tmp 137) (.const (.int .i64 0)) rfl er 0 rfl rfl false (decide_eq_false hz)) ?_
          simp only [Act.put, aS, aC, aZ]
          refine wpList_nil ?_
          have hos : osA os [97] bs6 er = os := (by unfold osA; rw [if_neg hz])
          have HF5 : Hid (Fg w X3 c2 gp gv 120 m2 os (32 * k + 16) u10) := (by
           have h9 := HA1.out.2.1
           rw [hos] at h9
           exact (HFZ.out.no HA1.out.1 h9 rfl HA1.out.2.2.1).bel RX3.out.below)
          go_upto_region 11 with fail
          refine wp_region_lit ?_
          refine wl rfl (.int .i64 (k : Nat)) _ (run_mvZ (.tmp 11) rfl (.int .i64 (k : Nat)) rfl) ?_
          refine wl rfl (.int .i64 ((k + 1 : Nat) : Int)) _ (run_addZ (.tmp 71) (.const (.int .i64 1)) rfl (k : Nat) 1 _ rfl rfl (by omega) (by omega) (by omega)) ?_
          simp only [Act.put, aS, aC, aZ]
          refine wl rfl (.int .i64 ((k + 1 : Nat) : Int)) _ (run_asZ (.tmp 72) rfl (.int .i64 ((k + 1 : Nat) : Int)) rfl) ?_
          simp only [Act.put, aS, aC, aZ]
          refine wpList_nil ?_
          go_wp2_with fail
          exact ⟨⟨k + 1, rfl, by omega, by omega, _, _, _, HF5.out.le (by omega)⟩, by simp [intOf]; omega⟩
        ·go_upto_region 24 with fail
         refine wp_region_lit ?_
         refine wl rfl vH _ (run_mvZ (.tmp 12) rfl vH rfl) ?_
         refine wl rfl (.int .i64 (bz.length : Nat)) _ (run_lenS HBZ.out.1.1 (.tmp 126) rfl rfl) ?_
         simp only [Act.put, aS, aC, aZ]
         refine wl rfl (.bool false) _ (run_gtrZ (.tmp 127) (.const (.int .i64 512)) rfl (bz.length : Nat) 512 rfl rfl false (decide_eq_false (by omega))) ?_
         simp only [Act.put, aS, aC, aZ]
         refine wpList_nil ?_
         go_upto_region 26 with fail
         refine wp_region_lit ?_
         refine wl rfl (ptr gv) _ (run_mvZ (.tmp 8) rfl (ptr gv) rfl) ?_
         refine wl rfl vH _ (run_mvZ (.tmp 12) rfl vH rfl) ?_
         simp only [Act.put, aS, aC, aZ]
         refine wpList_callW eN12 [.tmp 132, .const (.string { data := #[97] }), .tmp 133] _ rfl rfl [(ptr gv), (str [97]), vH] rfl ?_
         refine (vapp_s HFZ.out.k.v (by have := HFZ.out.k.k; omega) [97] bz vH (by decide) (by decide) HBZ.out.1.1 (HBZ.out.1.2.imp (fun h => h) fun h g e => (h g e).2.1)).mono ?_
         rintro e X1 ⟨c2, m2, er, her_, rfl, s_, v_, o_, _⟩
         obtain ⟨pa, pb, pd, hpl_, hpx_, _⟩ := plA_form 0 os bz er
         rw [hpl_]
         refine ⟨_, rfl, ?_⟩
         have HA1 : Hid (Sq 2 gv Y6 X1 c0 c2 ∧ VOn X1 c2 2 gp gv 0 120 m2 (osA os [97] bz er) false ∧ (m2 = m0 ∨ Oth2 m0 m2 0) ∧ (er = 0 → pa = ((0 : Nat) : Int) ∧ pb = (wide os : Nat) ∧ pd = (nb bz.length : Nat))) := ⟨s_, v_, o_, hpx_⟩
         have HL1 : Hid (Loc X1 X1 []) := Loc.nil (Below.refl _ _)
         clear her_ s_ v_ o_ hpl_ hpx_
         simp only [Act.put, aS, aC, aZ]
         refine wl rfl (.tuple #[(.agg (plC pa pb pd false).toArray), (.int .i64 er)]) _ (run_mvZ (.tmp 134) rfl (.tuple #[(.agg (plC pa pb pd false).toArray), (.int .i64 er)]) rfl) ?_
         refine wl rfl (.agg (plC pa pb pd false).toArray) _ (run_extZ (.tmp 131) 0 rfl #[(.agg (plC pa pb pd false).toArray), (.int .i64 er)] rfl (.agg (plC pa pb pd false).toArray) rfl) ?_
         simp only [Act.put, aS, aC, aZ]
         refine wl rfl (.int .i64 er) _ (run_extZ (.tmp 131) 1 rfl #[(.agg (plC pa pb pd false).toArray), (.int .i64 er)] rfl (.int .i64 er) rfl) ?_
         refine wl rfl (ptr X1.heap.size) _ (run_allocA ((plC 0 0 0 false)) zero40 rfl) ?_
         have k_ := HL1.out.box 40 ((plC 0 0 0 false))
         obtain ⟨X2, hW_⟩ : ∃ W, W = X1.alloc (.cells ((plC 0 0 0 false)).toArray 40) := ⟨_, rfl⟩
         obtain ⟨q18, hq_⟩ : ∃ q, q = X1.heap.size := ⟨_, rfl⟩
         rw [← hW_, ← hq_] at k_
         rw [← hW_, ← hq_]
         clear hq_
         have RX2 : Hid (Loc X1 X2 [(q18, 40, (plC 0 0 0 false))]) := k_
         clear k_ hW_ HL1
         simp only [Act.put, aS, aC, aZ]
         refine wlS rfl rfl _ (run_storeL ag40 (.tmp 18) (.tmp 135) rfl RX2.out 0 rfl (0) rfl (plC pa pb pd false) rfl rfl (Nat.le_refl 4) (plC_one _ _ _ _)).1 ?_
         have k_ := RX2.out.lay 0 rfl (0) (plC pa pb pd false)
         rw [splice_all (plC 0 0 0 false) (plC pa pb pd false) rfl] at k_ ⊢
         obtain ⟨X3, hW_⟩ : ∃ W, W = X2.setRow q18 (plC pa pb pd false).toArray := ⟨_, rfl⟩
         rw [← hW_] at k_ ⊢
         have RX3 : Hid (Loc X1 X3 [(q18, 40, plC pa pb pd false)]) := k_
         clear k_ hW_ RX2
         refine wl rfl (.int .i64 er) _ (run_asZ (.tmp 136) rfl (.int .i64 er) rfl) ?_
         simp only [Act.put, aS, aC, aZ]
         refine wpList_nil ?_
         by_cases hz : er = 0
         ·go_upto_region 27 with fail
          refine wp_region_lit ?_
          refine wl rfl (.int .i64 er) _ (run_mvZ (.tmp 19) rfl (.int .i64 er) rfl) ?_
          refine wl rfl (.bool true) _ (run_eqZ (.tmp 137) (.const (.int .i64 0)) rfl er 0 rfl rfl true (decide_eq_true hz)) ?_
          simp only [Act.put, aS, aC, aZ]
          refine wpList_nil ?_
          obtain ⟨ea, eb_, ed⟩ := HA1.out.2.2.2 hz
          have hos : osA os [97] bz er = os ++ [([97], bz)] := (by unfold osA; rw [if_pos hz])
          have HS9 : Hid (Sq 2 gv Y6 X3 c0 c2) := HA1.out.1.trans (Sq.bel c2 RX3.out.below)
          have HK9 : Hid (Wk w X3 c2 2 gp gv 0 120 m2 (osA os [97] bz er) false [] (32 * k + 16)) := HFZ.out.k.sq1 HS9.out (HA1.out.2.1.below RX3.out.below) HA1.out.2.2.1
          have HT9 : Hid (TdIn w.heap.size 2 gv c2 X3 u10 (tdsOf 0 os)) := HFZ.out.t.sq HS9.out
          have HB9 : Hid (Bt gv c2 X3 u10 vH bz) := HBZ.out.sq HS9.out
          have HRW : Hid (Row X3 q18 40 (plC ((0 : Nat) : Int) (wide os : Nat) (nb bz.length : Nat) false)) := (by have h9 := RX3.out.at 0 rfl; rw [ea, eb_, ed] at h9; exact h9)
          go_upto_region 28 with fail
          refine wp_region_lit ?_
          refine wl rfl u10 _ (run_mvZ (.tmp 10) rfl u10 rfl) ?_
          refine wl rfl vH _ (run_mvZ (.tmp 12) rfl vH rfl) ?_
          simp only [Act.put, aS, aC, aZ]
          refine wl rfl (.agg ((plC ((0 : Nat) : Int) (wide os : Nat) (nb bz.length : Nat) false)).toArray) _ (run_loadA ag40 (.tmp 18) rfl q18 (0) rfl ((plC ((0 : Nat) : Int) (wide os : Nat) (nb bz.length : Nat) false)) rfl (rows_one HRW.out)) ?_
          refine wl rfl (.agg (tdC ⟨[97], bz, 0, wide os, nb bz.length, false⟩ vH).toArray) _ (run_build48 (.const (.string { data := #[97] })) (.tmp 140) (.tmp 141) rfl ⟨[97], bz, 0, wide os, nb bz.length, false⟩ rfl vH HB9.out.1.1 rfl rfl rfl) ?_
          simp only [Act.put, aS, aC, aZ]
          refine wl rfl (.slice (some ⟨X3.heap.size, 0, none⟩) 1 1) _ (run_litC el35 (tdC ⟨[97], bz, 0, wide os, nb bz.length, false⟩ vH) rfl (.tmp 142) rfl rfl) ?_
          have hb4_ := below_alloc X3 (.cells (tdC ⟨[97], bz, 0, wide os, nb bz.length, false⟩ vH).toArray 48)
          have r4_ := Row.new X3 48 (tdC ⟨[97], bz, 0, wide os, nb bz.length, false⟩ vH)
          obtain ⟨X4, hW_⟩ : ∃ U_ : World, U_ = X3.alloc (.cells (tdC ⟨[97], bz, 0, wide os, nb bz.length, false⟩ vH).toArray 48) := ⟨_, rfl⟩
          obtain ⟨q4, hq_⟩ : ∃ q, q = X3.heap.size := ⟨_, rfl⟩
          rw [← hW_] at hb4_
          rw [← hW_, ← hq_] at r4_
          rw [← hW_, ← hq_]
          have H4 : Hid (Below X3.heap.size X3 X4 ∧ Row X4 q4 48 (tdC ⟨[97], bz, 0, wide os, nb bz.length, false⟩ vH)) := ⟨hb4_, r4_⟩
          clear hb4_ r4_ hW_ hq_
          simp only [Act.put, aS, aC, aZ]
          obtain ⟨vn, X5, hr_, hf_⟩ := HFZ.out.yes hos (HK9.out.bel H4.out.1) (HT9.out.sq (Sq.bel c2 H4.out.1)) vH q4 (HB9.out.sq (Sq.bel c2 H4.out.1)).1 HB9.out.2 H4.out.2.at
          refine wl rfl vn _ (run_appOp (.tmp 139) (.tmp 143) rfl _ _ _ rfl rfl hr_) ?_
          have HF5 : Hid (Fg w X5 c2 gp gv 120 m2 (osA os [97] bz er) (32 * k + 16) vn) := hf_
          clear hr_ hf_
          simp only [Act.put, aS, aC, aZ]
          refine wl rfl vn _ (run_asZ (.tmp 144) rfl vn rfl) ?_
          simp only [Act.put, aS, aC, aZ]
          refine wpList_nil ?_
          go_upto_region 11 with fail
          refine wp_region_lit ?_
          refine wl rfl (.int .i64 (k : Nat)) _ (run_mvZ (.tmp 11) rfl (.int .i64 (k : Nat)) rfl) ?_
          refine wl rfl (.int .i64 ((k + 1 : Nat) : Int)) _ (run_addZ (.tmp 71) (.const (.int .i64 1)) rfl (k : Nat) 1 _ rfl rfl (by omega) (by omega) (by omega)) ?_
          simp only [Act.put, aS, aC, aZ]
          refine wl rfl (.int .i64 ((k + 1 : Nat) : Int)) _ (run_asZ (.tmp 72) rfl (.int .i64 ((k + 1 : Nat) : Int)) rfl) ?_
          simp only [Act.put, aS, aC, aZ]
          refine wpList_nil ?_
          go_wp2_with fail
          exact ⟨⟨k + 1, rfl, by omega, by omega, _, _, _, HF5.out.le (by omega)⟩, by simp [intOf]; omega⟩
         ·go_upto_region 27 with fail
          refine wp_region_lit ?_
          refine wl rfl (.int .i64 er) _ (run_mvZ (.tmp 19) rfl (.int .i64 er) rfl) ?_
          refine wl rfl (.bool false) _ (run_eqZ (.tmp 137) (.const (.int .i64 0)) rfl er 0 rfl rfl false (decide_eq_false hz)) ?_
          simp only [Act.put, aS, aC, aZ]
          refine wpList_nil ?_
          have hos : osA os [97] bz er = os := (by unfold osA; rw [if_neg hz])
          have HF5 : Hid (Fg w X3 c2 gp gv 120 m2 os (32 * k + 16) u10) := (by
           have h9 := HA1.out.2.1
           rw [hos] at h9
           exact (HFZ.out.no HA1.out.1 h9 rfl HA1.out.2.2.1).bel RX3.out.below)
          go_upto_region 11 with fail
          refine wp_region_lit ?_
          refine wl rfl (.int .i64 (k : Nat)) _ (run_mvZ (.tmp 11) rfl (.int .i64 (k : Nat)) rfl) ?_
          refine wl rfl (.int .i64 ((k + 1 : Nat) : Int)) _ (run_addZ (.tmp 71) (.const (.int .i64 1)) rfl (k : Nat) 1 _ rfl rfl (by omega) (by omega) (by omega)) ?_
          simp only [Act.put, aS, aC, aZ]
          refine wl rfl (.int .i64 ((k + 1 : Nat) : Int)) _ (run_asZ (.tmp 72) rfl (.int .i64 ((k + 1 : Nat) : Int)) rfl) ?_
          simp only [Act.put, aS, aC, aZ]
          refine wpList_nil ?_
          go_wp2_with fail
          exact ⟨⟨k + 1, rfl, by omega, by omega, _, _, _, HF5.out.le (by omega)⟩, by simp [intOf]; omega⟩
       ·as_aux_lemma =>
        go_upto_region 22 with fail
        refine wp_region_lit ?_
        refine wl rfl (.int .i64 (cut : Nat)) _ (run_mvZ (.tmp 17) rfl (.int .i64 (cut : Nat)) rfl) ?_
        refine wl rfl u13 _ (run_mvZ (.tmp 13) rfl u13 rfl) ?_
        simp only [Act.put, aS, aC, aZ]
        refine wl rfl (.int .i64 (cs.length : Nat)) _ (run_lenS (HI.out.2.1.slice HI.out.2.2.2 (by omega)) (.tmp 116) rfl rfl) ?_
        refine wl rfl (.bool false) _ (run_leqZ (.tmp 115) (.tmp 117) rfl (cut : Nat) (cs.length : Nat) rfl rfl false (decide_eq_false (by omega))) ?_
        simp only [Act.put, aS, aC, aZ]
        refine wpList_nil ?_
        have HBW : Hid (Bt gv c0 W6 u10 au (A.getD k [])) := HB0.out.sq (Sq.bel c0 HI.out.1)
        have hlb : (A.getD k []).length ≤ 140737488355328 := (by omega)
        by_cases hlong : 512 < (A.getD k []).length
        ·go_upto_region 24 with fail
         refine wp_region_lit ?_
         refine wl rfl au _ (run_mvZ (.tmp 12) rfl au rfl) ?_
         refine wl rfl (.int .i64 ((A.getD k []).length : Nat)) _ (run_lenS HBW.out.1.1 (.tmp 126) rfl rfl) ?_
         simp only [Act.put, aS, aC, aZ]
         refine wl rfl (.bool true) _ (run_gtrZ (.tmp 127) (.const (.int .i64 512)) rfl ((A.getD k []).length : Nat) 512 rfl rfl true (decide_eq_true (by omega))) ?_
         simp only [Act.put, aS, aC, aZ]
         refine wpList_nil ?_
         obtain ⟨vc7, hr_, hb_⟩ := HBW.out.cut hlong
         obtain ⟨bs9, hbs2_⟩ : ∃ x, x = (A.getD k []).take 512 := ⟨_, rfl⟩
         rw [← hbs2_] at hb_
         have HB8 : Hid (Bt gv c0 W6 u10 vc7 bs9) := hb_
         go_upto_region 25 with fail
         refine wp_region_lit ?_
         refine wl rfl au _ (run_mvZ (.tmp 12) rfl au rfl) ?_
         refine wl rfl vc7 _ (run_subB (.tmp 129) none (some (.const (.int .i64 512))) none rfl au vc7 rfl hr_) ?_
         simp only [Act.put, aS, aC, aZ]
         refine wl rfl vc7 _ (run_asZ (.tmp 130) rfl vc7 rfl) ?_
         simp only [Act.put, aS, aC, aZ]
         refine wpList_nil ?_
         clear hr_ hb_ hbs2_
         go_upto_region 26 with fail
         refine wp_region_lit ?_
         refine wl rfl (ptr gv) _ (run_mvZ (.tmp 8) rfl (ptr gv) rfl) ?_
         refine wl rfl vc7 _ (run_mvZ (.tmp 12) rfl vc7 rfl) ?_
         simp only [Act.put, aS, aC, aZ]
         refine wpList_callW eN12 [.tmp 132, .const (.string { data := #[97] }), .tmp 133] _ rfl rfl [(ptr gv), (str [97]), vc7] rfl ?_
         refine (vapp_s HFW.out.k.v (by have := HFW.out.k.k; omega) [97] bs9 vc7 (by decide) (by decide) HB8.out.1.1 (HB8.out.1.2.imp (fun h => h) fun h g e => (h g e).2.1)).mono ?_
         rintro e X1 ⟨c2, m2, er, her_, rfl, s_, v_, o_, _⟩
         obtain ⟨pa, pb, pd, hpl_, hpx_, _⟩ := plA_form 0 os bs9 er
         rw [hpl_]
         refine ⟨_, rfl, ?_⟩
         have HA1 : Hid (Sq 2 gv W6 X1 c0 c2 ∧ VOn X1 c2 2 gp gv 0 120 m2 (osA os [97] bs9 er) false ∧ (m2 = m0 ∨ Oth2 m0 m2 0) ∧ (er = 0 → pa = ((0 : Nat) : Int) ∧ pb = (wide os : Nat) ∧ pd = (nb bs9.length : Nat))) := ⟨s_, v_, o_, hpx_⟩
         have HL1 : Hid (Loc X1 X1 []) := Loc.nil (Below.refl _ _)
         clear her_ s_ v_ o_ hpl_ hpx_
         simp only [Act.put, aS, aC, aZ]
         refine wl rfl (.tuple #[(.agg (plC pa pb pd false).toArray), (.int .i64 er)]) _ (run_mvZ (.tmp 134) rfl (.tuple #[(.agg (plC pa pb pd false).toArray), (.int .i64 er)]) rfl) ?_
         refine wl rfl (.agg (plC pa pb pd false).toArray) _ (run_extZ (.tmp 131) 0 rfl #[(.agg (plC pa pb pd false).toArray), (.int .i64 er)] rfl (.agg (plC pa pb pd false).toArray) rfl) ?_
         simp only [Act.put, aS, aC, aZ]
         refine wl rfl (.int .i64 er) _ (run_extZ (.tmp 131) 1 rfl #[(.agg (plC pa pb pd false).toArray), (.int .i64 er)] rfl (.int .i64 er) rfl) ?_
         refine wl rfl (ptr X1.heap.size) _ (run_allocA ((plC 0 0 0 false)) zero40 rfl) ?_
         have k_ := HL1.out.box 40 ((plC 0 0 0 false))
         obtain ⟨X2, hW_⟩ : ∃ W, W = X1.alloc (.cells ((plC 0 0 0 false)).toArray 40) := ⟨_, rfl⟩
         obtain ⟨q18, hq_⟩ : ∃ q, q = X1.heap.size := ⟨_, rfl⟩
         rw [← hW_, ← hq_] at k_
         rw [← hW_, ← hq_]
         clear hq_
         have RX2 : Hid (Loc X1 X2 [(q18, 40, (plC 0 0 0 false))]) := k_
         clear k_ hW_ HL1
         simp only [Act.put, aS, aC, aZ]
         refine wlS rfl rfl _ (run_storeL ag40 (.tmp 18) (.tmp 135) rfl RX2.out 0 rfl (0) rfl (plC pa pb pd false) rfl rfl (Nat.le_refl 4) (plC_one _ _ _ _)).1 ?_
         have k_ := RX2.out.lay 0 rfl (0) (plC pa pb pd false)
         rw [splice_all (plC 0 0 0 false) (plC pa pb pd false) rfl] at k_ ⊢
         obtain ⟨X3, hW_⟩ : ∃ W, W = X2.setRow q18 (plC pa pb pd false).toArray := ⟨_, rfl⟩
         rw [← hW_] at k_ ⊢
         have RX3 : Hid (Loc X1 X3 [(q18, 40, plC pa pb pd false)]) := k_
         clear k_ hW_ RX2
         refine wl rfl (.int .i64 er) _ (run_asZ (.tmp 136) rfl (.int .i64 er) rfl) ?_
         simp only [Act.put, aS, aC, aZ]
         refine wpList_nil ?_
         by_cases hz : er = 0
         ·go_upto_region 27 with fail
          refine wp_region_lit ?_
          refine wl rfl (.int .i64 er) _ (run_mvZ (.tmp 19) rfl (.int .i64 er) rfl) ?_
          refine wl rfl (.bool true) _ (run_eqZ (.tmp 137) (.const (.int .i64 0)) rfl er 0 rfl rfl true (decide_eq_true hz)) ?_
          simp only [Act.put, aS, aC, aZ]
          refine wpList_nil ?_
          obtain ⟨ea, eb_, ed⟩ := HA1.out.2.2.2 hz
          have hos : osA os [97] bs9 er = os ++ [([97], bs9)] := (by unfold osA; rw [if_pos hz])
          have HS9 : Hid (Sq 2 gv W6 X3 c0 c2) := HA1.out.1.trans (Sq.bel c2 RX3.out.below)
          have HK9 : Hid (Wk w X3 c2 2 gp gv 0 120 m2 (osA os [97] bs9 er) false [] (32 * k + 16)) := HFW.out.k.sq1 HS9.out (HA1.out.2.1.below RX3.out.below) HA1.out.2.2.1
          have HT9 : Hid (TdIn w.heap.size 2 gv c2 X3 u10 (tdsOf 0 os)) := HFW.out.t.sq HS9.out
          have HB9 : Hid (Bt gv c2 X3 u10 vc7 bs9) := HB8.out.sq HS9.out
          have HRW : Hid (Row X3 q18 40 (plC ((0 : Nat) : Int) (wide os : Nat) (nb bs9.length : Nat) false)) := (by have h9 := RX3.out.at 0 rfl; rw [ea, eb_, ed] at h9; exact h9)
          go_upto_region 28 with fail
          refine wp_region_lit ?_
          refine wl rfl u10 _ (run_mvZ (.tmp 10) rfl u10 rfl) ?_
          refine wl rfl vc7 _ (run_mvZ (.tmp 12) rfl vc7 rfl) ?_
          simp only [Act.put, aS, aC, aZ]
          refine wl rfl (.agg ((plC ((0 : Nat) : Int) (wide os : Nat) (nb bs9.length : Nat) false)).toArray) _ (run_loadA ag40 (.tmp 18) rfl q18 (0) rfl ((plC ((0 : Nat) : Int) (wide os : Nat) (nb bs9.length : Nat) false)) rfl (rows_one HRW.out)) ?_
          refine wl rfl (.agg (tdC ⟨[97], bs9, 0, wide os, nb bs9.length, false⟩ vc7).toArray) _ (run_build48 (.const (.string { data := #[97] })) (.tmp 140) (.tmp 141) rfl ⟨[97], bs9, 0, wide os, nb bs9.length, false⟩ rfl vc7 HB9.out.1.1 rfl rfl rfl) ?_
          simp only [Act.put, aS, aC, aZ]
          refine wl rfl (.slice (some ⟨X3.heap.size, 0, none⟩) 1 1) _ (run_litC el35 (tdC ⟨[97], bs9, 0, wide os, nb bs9.length, false⟩ vc7) rfl (.tmp 142) rfl rfl) ?_
          have hb4_ := below_alloc X3 (.cells (tdC ⟨[97], bs9, 0, wide os, nb bs9.length, false⟩ vc7).toArray 48)
          have r4_ := Row.new X3 48 (tdC ⟨[97], bs9, 0, wide os, nb bs9.length, false⟩ vc7)
          obtain ⟨X4, hW_⟩ : ∃ U_ : World, U_ = X3.alloc (.cells (tdC ⟨[97], bs9, 0, wide os, nb bs9.length, false⟩ vc7).toArray 48) := ⟨_, rfl⟩
          obtain ⟨q4, hq_⟩ : ∃ q, q = X3.heap.size := ⟨_, rfl⟩
          rw [← hW_] at hb4_
          rw [← hW_, ← hq_] at r4_
          rw [← hW_, ← hq_]
          have H4 : Hid (Below X3.heap.size X3 X4 ∧ Row X4 q4 48 (tdC ⟨[97], bs9, 0, wide os, nb bs9.length, false⟩ vc7)) := ⟨hb4_, r4_⟩
          clear hb4_ r4_ hW_ hq_
          simp only [Act.put, aS, aC, aZ]
          obtain ⟨vn, X5, hr_, hf_⟩ := HFW.out.yes hos (HK9.out.bel H4.out.1) (HT9.out.sq (Sq.bel c2 H4.out.1)) vc7 q4 (HB9.out.sq (Sq.bel c2 H4.out.1)).1 HB9.out.2 H4.out.2.at
          refine wl rfl vn _ (run_appOp (.tmp 139) (.tmp 143) rfl _ _ _ rfl rfl hr_) ?_
          have HF5 : Hid (Fg w X5 c2 gp gv 120 m2 (osA os [97] bs9 er) (32 * k + 16) vn) := hf_
          clear hr_ hf_
          simp only [Act.put, aS, aC, aZ]
          refine wl rfl vn _ (run_asZ (.tmp 144) rfl vn rfl) ?_
          simp only [Act.put, aS, aC, aZ]
          refine wpList_nil ?_
          go_upto_region 11 with fail
          refine wp_region_lit ?_
          refine wl rfl (.int .i64 (k : Nat)) _ (run_mvZ (.tmp 11) rfl (.int .i64 (k : Nat)) rfl) ?_
          refine wl rfl (.int .i64 ((k + 1 : Nat) : Int)) _ (run_addZ (.tmp 71) (.const (.int .i64 1)) rfl (k : Nat) 1 _ rfl rfl (by omega) (by omega) (by omega)) ?_
          simp only [Act.put, aS, aC, aZ]
          refine wl rfl (.int .i64 ((k + 1 : Nat) : Int)) _ (run_asZ (.tmp 72) rfl (.int .i64 ((k + 1 : Nat) : Int)) rfl) ?_
          simp only [Act.put, aS, aC, aZ]
          refine wpList_nil ?_
          go_wp2_with fail
          exact ⟨⟨k + 1, rfl, by omega, by omega, _, _, _, HF5.out.le (by omega)⟩, by simp [intOf]; omega⟩
         ·go_upto_region 27 with fail
          refine wp_region_lit ?_
          refine wl rfl (.int .i64 er) _ (run_mvZ (.tmp 19) rfl (.int .i64 er) rfl) ?_
          refine wl rfl (.bool false) _ (run_eqZ (.tmp 137) (.const (.int .i64 0)) rfl er 0 rfl rfl false (decide_eq_false hz)) ?_
          simp only [Act.put, aS, aC, aZ]
          refine wpList_nil ?_
          have hos : osA os [97] bs9 er = os := (by unfold osA; rw [if_neg hz])
          have HF5 : Hid (Fg w X3 c2 gp gv 120 m2 os (32 * k + 16) u10) := (by
           have h9 := HA1.out.2.1
           rw [hos] at h9
           exact (HFW.out.no HA1.out.1 h9 rfl HA1.out.2.2.1).bel RX3.out.below)
          go_upto_region 11 with fail
          refine wp_region_lit ?_
          refine wl rfl (.int .i64 (k : Nat)) _ (run_mvZ (.tmp 11) rfl (.int .i64 (k : Nat)) rfl) ?_
          refine wl rfl (.int .i64 ((k + 1 : Nat) : Int)) _ (run_addZ (.tmp 71) (.const (.int .i64 1)) rfl (k : Nat) 1 _ rfl rfl (by omega) (by omega) (by omega)) ?_
          simp only [Act.put, aS, aC, aZ]
          refine wl rfl (.int .i64 ((k + 1 : Nat) : Int)) _ (run_asZ (.tmp 72) rfl (.int .i64 ((k + 1 : Nat) : Int)) rfl) ?_
          simp only [Act.put, aS, aC, aZ]
          refine wpList_nil ?_
          go_wp2_with fail
          exact ⟨⟨k + 1, rfl, by omega, by omega, _, _, _, HF5.out.le (by omega)⟩, by simp [intOf]; omega⟩
        ·go_upto_region 24 with fail
         refine wp_region_lit ?_
         refine wl rfl au _ (run_mvZ (.tmp 12) rfl au rfl) ?_
         refine wl rfl (.int .i64 ((A.getD k []).length : Nat)) _ (run_lenS HBW.out.1.1 (.tmp 126) rfl rfl) ?_
         simp only [Act.put, aS, aC, aZ]
         refine wl rfl (.bool false) _ (run_gtrZ (.tmp 127) (.const (.int .i64 512)) rfl ((A.getD k []).length : Nat) 512 rfl rfl false (decide_eq_false (by omega))) ?_
         simp only [Act.put, aS, aC, aZ]
         refine wpList_nil ?_
         go_upto_region 26 with fail
         refine wp_region_lit ?_
         refine wl rfl (ptr gv) _ (run_mvZ (.tmp 8) rfl (ptr gv) rfl) ?_
         refine wl rfl au _ (run_mvZ (.tmp 12) rfl au rfl) ?_
         simp only [Act.put, aS, aC, aZ]
         refine wpList_callW eN12 [.tmp 132, .const (.string { data := #[97] }), .tmp 133] _ rfl rfl [(ptr gv), (str [97]), au] rfl ?_
         refine (vapp_s HFW.out.k.v (by have := HFW.out.k.k; omega) [97] (A.getD k []) au (by decide) (by decide) HBW.out.1.1 (HBW.out.1.2.imp (fun h => h) fun h g e => (h g e).2.1)).mono ?_
         rintro e X1 ⟨c2, m2, er, her_, rfl, s_, v_, o_, _⟩
         obtain ⟨pa, pb, pd, hpl_, hpx_, _⟩ := plA_form 0 os (A.getD k []) er
         rw [hpl_]
         refine ⟨_, rfl, ?_⟩
         have HA1 : Hid (Sq 2 gv W6 X1 c0 c2 ∧ VOn X1 c2 2 gp gv 0 120 m2 (osA os [97] (A.getD k []) er) false ∧ (m2 = m0 ∨ Oth2 m0 m2 0) ∧ (er = 0 → pa = ((0 : Nat) : Int) ∧ pb = (wide os : Nat) ∧ pd = (nb (A.getD k []).length : Nat))) := ⟨s_, v_, o_, hpx_⟩
         have HL1 : Hid (Loc X1 X1 []) := Loc.nil (Below.refl _ _)
         clear her_ s_ v_ o_ hpl_ hpx_
         simp only [Act.put, aS, aC, aZ]
         refine wl rfl (.tuple #[(.agg (plC pa pb pd false).toArray), (.int .i64 er)]) _ (run_mvZ (.tmp 134) rfl (.tuple #[(.agg (plC pa pb pd false).toArray), (.int .i64 er)]) rfl) ?_
         refine wl rfl (.agg (plC pa pb pd false).toArray) _ (run_extZ (.tmp 131) 0 rfl #[(.agg (plC pa pb pd false).toArray), (.int .i64 er)] rfl (.agg (plC pa pb pd false).toArray) rfl) ?_
         simp only [Act.put, aS, aC, aZ]
         refine wl rfl (.int .i64 er) _ (run_extZ (.tmp 131) 1 rfl #[(.agg (plC pa pb pd false).toArray), (.int .i64 er)] rfl (.int .i64 er) rfl) ?_
         refine wl rfl (ptr X1.heap.size) _ (run_allocA ((plC 0 0 0 false)) zero40 rfl) ?_
         have k_ := HL1.out.box 40 ((plC 0 0 0 false))
         obtain ⟨X2, hW_⟩ : ∃ W, W = X1.alloc (.cells ((plC 0 0 0 false)).toArray 40) := ⟨_, rfl⟩
         obtain ⟨q18, hq_⟩ : ∃ q, q = X1.heap.size := ⟨_, rfl⟩
         rw [← hW_, ← hq_] at k_
         rw [← hW_, ← hq_]
         clear hq_
         have RX2 : Hid (Loc X1 X2 [(q18, 40, (plC 0 0 0 false))]) := k_
         clear k_ hW_ HL1
         simp only [Act.put, aS, aC, aZ]
         refine wlS rfl rfl _ (run_storeL ag40 (.tmp 18) (.tmp 135) rfl RX2.out 0 rfl (0) rfl (plC pa pb pd false) rfl rfl (Nat.le_refl 4) (plC_one _ _ _ _)).1 ?_
         have k_ := RX2.out.lay 0 rfl (0) (plC pa pb pd false)
         rw [splice_all (plC 0 0 0 false) (plC pa pb pd false) rfl] at k_ ⊢
         obtain ⟨X3, hW_⟩ : ∃ W, W = X2.setRow q18 (plC pa pb pd false).toArray := ⟨_, rfl⟩
         rw [← hW_] at k_ ⊢
         have RX3 : Hid (Loc X1 X3 [(q18, 40, plC pa pb pd false)]) := k_
         clear k_ hW_ RX2
         refine wl rfl (.int .i64 er) _ (run_asZ (.tmp 136) rfl (.int .i64 er) rfl) ?_
         simp only [Act.put, aS, aC, aZ]
         refine wpList_nil ?_
         by_cases hz : er = 0
         ·go_upto_region 27 with fail
          refine wp_region_lit ?_
          refine wl rfl (.int .i64 er) _ (run_mvZ (.tmp 19) rfl (.int .i64 er) rfl) ?_
          refine wl rfl (.bool true) _ (run_eqZ (.tmp 137) (.const (.int .i64 0)) rfl er 0 rfl rfl true (decide_eq_true hz)) ?_
          simp only [Act.put, aS, aC, aZ]
          refine wpList_nil ?_
          obtain ⟨ea, eb_, ed⟩ := HA1.out.2.2.2 hz
          have hos : osA os [97] (A.getD k []) er = os ++ [([97], (A.getD k []))] := (by unfold osA; rw [if_pos hz])
          have HS9 : Hid (Sq 2 gv W6 X3 c0 c2) := HA1.out.1.trans (Sq.bel c2 RX3.out.below)
          have HK9 : Hid (Wk w X3 c2 2 gp gv 0 120 m2 (osA os [97] (A.getD k []) er) false [] (32 * k + 16)) := HFW.out.k.sq1 HS9.out (HA1.out.2.1.below RX3.out.below) HA1.out.2.2.1
          have HT9 : Hid (TdIn w.heap.size 2 gv c2 X3 u10 (tdsOf 0 os)) := HFW.out.t.sq HS9.out
          have HB9 : Hid (Bt gv c2 X3 u10 au (A.getD k [])) := HBW.out.sq HS9.out
          have HRW : Hid (Row X3 q18 40 (plC ((0 : Nat) : Int) (wide os : Nat) (nb (A.getD k []).length : Nat) false)) := (by have h9 := RX3.out.at 0 rfl; rw [ea, eb_, ed] at h9; exact h9)
          go_upto_region 28 with fail
          refine wp_region_lit ?_
          refine wl rfl u10 _ (run_mvZ (.tmp 10) rfl u10 rfl) ?_
          refine wl rfl au _ (run_mvZ (.tmp 12) rfl au rfl) ?_
          simp only [Act.put, aS, aC, aZ]
          refine wl rfl (.agg ((plC ((0 : Nat) : Int) (wide os : Nat) (nb (A.getD k []).length : Nat) false)).toArray) _ (run_loadA ag40 (.tmp 18) rfl q18 (0) rfl ((plC ((0 : Nat) : Int) (wide os : Nat) (nb (A.getD k []).length : Nat) false)) rfl (rows_one HRW.out)) ?_
          refine wl rfl (.agg (tdC ⟨[97], (A.getD k []), 0, wide os, nb (A.getD k []).length, false⟩ au).toArray) _ (run_build48 (.const (.string { data := #[97] })) (.tmp 140) (.tmp 141) rfl ⟨[97], (A.getD k []), 0, wide os, nb (A.getD k []).length, false⟩ rfl au HB9.out.1.1 rfl rfl rfl) ?_
          simp only [Act.put, aS, aC, aZ]
          refine wl rfl (.slice (some ⟨X3.heap.size, 0, none⟩) 1 1) _ (run_litC el35 (tdC ⟨[97], (A.getD k []), 0, wide os, nb (A.getD k []).length, false⟩ au) rfl (.tmp 142) rfl rfl) ?_
          have hb4_ := below_alloc X3 (.cells (tdC ⟨[97], (A.getD k []), 0, wide os, nb (A.getD k []).length, false⟩ au).toArray 48)
          have r4_ := Row.new X3 48 (tdC ⟨[97], (A.getD k []), 0, wide os, nb (A.getD k []).length, false⟩ au)
          obtain ⟨X4, hW_⟩ : ∃ U_ : World, U_ = X3.alloc (.cells (tdC ⟨[97], (A.getD k []), 0, wide os, nb (A.getD k []).length, false⟩ au).toArray 48) := ⟨_, rfl⟩
          obtain ⟨q4, hq_⟩ : ∃ q, q = X3.heap.size := ⟨_, rfl⟩
          rw [← hW_] at hb4_
          rw [← hW_, ← hq_] at r4_
          rw [← hW_, ← hq_]
          have H4 : Hid (Below X3.heap.size X3 X4 ∧ Row X4 q4 48 (tdC ⟨[97], (A.getD k []), 0, wide os, nb (A.getD k []).length, false⟩ au)) := ⟨hb4_, r4_⟩
          clear hb4_ r4_ hW_ hq_
          simp only [Act.put, aS, aC, aZ]
          obtain ⟨vn, X5, hr_, hf_⟩ := HFW.out.yes hos (HK9.out.bel H4.out.1) (HT9.out.sq (Sq.bel c2 H4.out.1)) au q4 (HB9.out.sq (Sq.bel c2 H4.out.1)).1 HB9.out.2 H4.out.2.at
          refine wl rfl vn _ (run_appOp (.tmp 139) (.tmp 143) rfl _ _ _ rfl rfl hr_) ?_
          have HF5 : Hid (Fg w X5 c2 gp gv 120 m2 (osA os [97] (A.getD k []) er) (32 * k + 16) vn) := hf_
          clear hr_ hf_
          simp only [Act.put, aS, aC, aZ]
          refine wl rfl vn _ (run_asZ (.tmp 144) rfl vn rfl) ?_
          simp only [Act.put, aS, aC, aZ]
          refine wpList_nil ?_
          go_upto_region 11 with fail
          refine wp_region_lit ?_
          refine wl rfl (.int .i64 (k : Nat)) _ (run_mvZ (.tmp 11) rfl (.int .i64 (k : Nat)) rfl) ?_
          refine wl rfl (.int .i64 ((k + 1 : Nat) : Int)) _ (run_addZ (.tmp 71) (.const (.int .i64 1)) rfl (k : Nat) 1 _ rfl rfl (by omega) (by omega) (by omega)) ?_
          simp only [Act.put, aS, aC, aZ]
          refine wl rfl (.int .i64 ((k + 1 : Nat) : Int)) _ (run_asZ (.tmp 72) rfl (.int .i64 ((k + 1 : Nat) : Int)) rfl) ?_
          simp only [Act.put, aS, aC, aZ]
          refine wpList_nil ?_
          go_wp2_with fail
          exact ⟨⟨k + 1, rfl, by omega, by omega, _, _, _, HF5.out.le (by omega)⟩, by simp [intOf]; omega⟩
         ·go_upto_region 27 with fail
          refine wp_region_lit ?_
          refine wl rfl (.int .i64 er) _ (run_mvZ (.tmp 19) rfl (.int .i64 er) rfl) ?_
          refine wl rfl (.bool false) _ (run_eqZ (.tmp 137) (.const (.int .i64 0)) rfl er 0 rfl rfl false (decide_eq_false hz)) ?_
          simp only [Act.put, aS, aC, aZ]
          refine wpList_nil ?_
          have hos : osA os [97] (A.getD k []) er = os := (by unfold osA; rw [if_neg hz])
          have HF5 : Hid (Fg w X3 c2 gp gv 120 m2 os (32 * k + 16) u10) := (by
           have h9 := HA1.out.2.1
           rw [hos] at h9
           exact (HFW.out.no HA1.out.1 h9 rfl HA1.out.2.2.1).bel RX3.out.below)
          go_upto_region 11 with fail
          refine wp_region_lit ?_
          refine wl rfl (.int .i64 (k : Nat)) _ (run_mvZ (.tmp 11) rfl (.int .i64 (k : Nat)) rfl) ?_
          refine wl rfl (.int .i64 ((k + 1 : Nat) : Int)) _ (run_addZ (.tmp 71) (.const (.int .i64 1)) rfl (k : Nat) 1 _ rfl rfl (by omega) (by omega) (by omega)) ?_
          simp only [Act.put, aS, aC, aZ]
          refine wl rfl (.int .i64 ((k + 1 : Nat) : Int)) _ (run_asZ (.tmp 72) rfl (.int .i64 ((k + 1 : Nat) : Int)) rfl) ?_
          simp only [Act.put, aS, aC, aZ]
          refine wpList_nil ?_
          go_wp2_with fail
          exact ⟨⟨k + 1, rfl, by omega, by omega, _, _, _, HF5.out.le (by omega)⟩, by simp [intOf]; omega⟩
   ·as_aux_lemma =>
    go_upto_region 13 with fail
    refine wp_region_lit ?_
    refine wl rfl (.int .i64 (k : Nat)) _ (run_mvZ (.tmp 11) rfl (.int .i64 (k : Nat)) rfl) ?_
    refine wl rfl vf _ (run_mvZ (.tmp 1) rfl vf rfl) ?_
    simp only [Act.put, aS, aC, aZ]
    refine wl rfl (.int .i64 (F.length : Nat)) _ (run_lenI HM.out.2.2.2.1 (.tmp 78) rfl rfl) ?_
    refine wl rfl (.bool false) _ (run_lssZ (.tmp 77) (.tmp 79) rfl (k : Nat) (F.length : Nat) rfl rfl false (decide_eq_false (by omega))) ?_
    simp only [Act.put, aS, aC, aZ]
    refine wl rfl (.bool false) _ (run_mvZ (.tmp 80) rfl (.bool false) rfl) ?_
    simp only [Act.put, aS, aC, aZ]
    refine wpList_skip (by kernel_rfl) ?_
    simp only [Act.put, aS, aC, aZ]
    refine wpList_skip (by kernel_rfl) ?_
    simp only [Act.put, aS, aC, aZ]
    refine wpList_skip (by kernel_rfl) ?_
    simp only [Act.put, aS, aC, aZ]
    refine wpList_skip (by kernel_rfl) ?_
    simp only [Act.put, aS, aC, aZ]
    refine wpList_skip (by kernel_rfl) ?_
    simp only [Act.put, aS, aC, aZ]
    refine wl rfl (.bool false) _ (run_pickZ (.tmp 81) (.tmp 86) (.const (.bool false)) rfl false (.bool false) rfl rfl) ?_
    simp only [Act.put, aS, aC, aZ]
    refine wpList_nil ?_
    have hlb : (A.getD k []).length ≤ 140737488355328 := (by have := HM.out.2.2.2.2.2 k; omega)
    by_cases hlong : 512 < (A.getD k []).length
    ·go_upto_region 24 with fail
     refine wp_region_lit ?_
     refine wl rfl au _ (run_mvZ (.tmp 12) rfl au rfl) ?_
     refine wl rfl (.int .i64 ((A.getD k []).length : Nat)) _ (run_lenS HB0.out.1.1 (.tmp 126) rfl rfl) ?_
     simp only [Act.put, aS, aC, aZ]
     refine wl rfl (.bool true) _ (run_gtrZ (.tmp 127) (.const (.int .i64 512)) rfl ((A.getD k []).length : Nat) 512 rfl rfl true (decide_eq_true (by omega))) ?_
     simp only [Act.put, aS, aC, aZ]
     refine wpList_nil ?_
     obtain ⟨vc10, hr_, hb_⟩ := HB0.out.cut hlong
     obtain ⟨bs12, hbs2_⟩ : ∃ x, x = (A.getD k []).take 512 := ⟨_, rfl⟩
     rw [← hbs2_] at hb_
     have HB11 : Hid (Bt gv c0 W0 u10 vc10 bs12) := hb_
     go_upto_region 25 with fail
     refine wp_region_lit ?_
     refine wl rfl au _ (run_mvZ (.tmp 12) rfl au rfl) ?_
     refine wl rfl vc10 _ (run_subB (.tmp 129) none (some (.const (.int .i64 512))) none rfl au vc10 rfl hr_) ?_
     simp only [Act.put, aS, aC, aZ]
     refine wl rfl vc10 _ (run_asZ (.tmp 130) rfl vc10 rfl) ?_
     simp only [Act.put, aS, aC, aZ]
     refine wpList_nil ?_
     clear hr_ hb_ hbs2_
     go_upto_region 26 with fail
     refine wp_region_lit ?_
     refine wl rfl (ptr gv) _ (run_mvZ (.tmp 8) rfl (ptr gv) rfl) ?_
     refine wl rfl vc10 _ (run_mvZ (.tmp 12) rfl vc10 rfl) ?_
     simp only [Act.put, aS, aC, aZ]
     refine wpList_callW eN12 [.tmp 132, .const (.string { data := #[97] }), .tmp 133] _ rfl rfl [(ptr gv), (str [97]), vc10] rfl ?_
     refine (vapp_s HF0.out.k.v (by have := HF0.out.k.k; omega) [97] bs12 vc10 (by decide) (by decide) HB11.out.1.1 (HB11.out.1.2.imp (fun h => h) fun h g e => (h g e).2.1)).mono ?_
     rintro e X1 ⟨c2, m2, er, her_, rfl, s_, v_, o_, _⟩
     obtain ⟨pa, pb, pd, hpl_, hpx_, _⟩ := plA_form 0 os bs12 er
     rw [hpl_]
     refine ⟨_, rfl, ?_⟩
     have HA1 : Hid (Sq 2 gv W0 X1 c0 c2 ∧ VOn X1 c2 2 gp gv 0 120 m2 (osA os [97] bs12 er) false ∧ (m2 = m0 ∨ Oth2 m0 m2 0) ∧ (er = 0 → pa = ((0 : Nat) : Int) ∧ pb = (wide os : Nat) ∧ pd = (nb bs12.length : Nat))) := ⟨s_, v_, o_, hpx_⟩
     have HL1 : Hid (Loc X1 X1 []) := Loc.nil (Below.refl _ _)
     clear her_ s_ v_ o_ hpl_ hpx_
     simp only [Act.put, aS, aC, aZ]
     refine wl rfl (.tuple #[(.agg (plC pa pb pd false).toArray), (.int .i64 er)]) _ (run_mvZ (.tmp 134) rfl (.tuple #[(.agg (plC pa pb pd false).toArray), (.int .i64 er)]) rfl) ?_
     refine wl rfl (.agg (plC pa pb pd false).toArray) _ (run_extZ (.tmp 131) 0 rfl #[(.agg (plC pa pb pd false).toArray), (.int .i64 er)] rfl (.agg (plC pa pb pd false).toArray) rfl) ?_
     simp only [Act.put, aS, aC, aZ]
     refine wl rfl (.int .i64 er) _ (run_extZ (.tmp 131) 1 rfl #[(.agg (plC pa pb pd false).toArray), (.int .i64 er)] rfl (.int .i64 er) rfl) ?_
     refine wl rfl (ptr X1.heap.size) _ (run_allocA ((plC 0 0 0 false)) zero40 rfl) ?_
     have k_ := HL1.out.box 40 ((plC 0 0 0 false))
     obtain ⟨X2, hW_⟩ : ∃ W, W = X1.alloc (.cells ((plC 0 0 0 false)).toArray 40) := ⟨_, rfl⟩
     obtain ⟨q18, hq_⟩ : ∃ q, q = X1.heap.size := ⟨_, rfl⟩
     rw [← hW_, ← hq_] at k_
     rw [← hW_, ← hq_]
     clear hq_
     have RX2 : Hid (Loc X1 X2 [(q18, 40, (plC 0 0 0 false))]) := k_
     clear k_ hW_ HL1
     simp only [Act.put, aS, aC, aZ]
     refine wlS rfl rfl _ (run_storeL ag40 (.tmp 18) (.tmp 135) rfl RX2.out 0 rfl (0) rfl (plC pa pb pd false) rfl rfl (Nat.le_refl 4) (plC_one _ _ _ _)).1 ?_
     have k_ := RX2.out.lay 0 rfl (0) (plC pa pb pd false)
     rw [splice_all (plC 0 0 0 false) (plC pa pb pd false) rfl] at k_ ⊢
     obtain ⟨X3, hW_⟩ : ∃ W, W = X2.setRow q18 (plC pa pb pd false).toArray := ⟨_, rfl⟩
     rw [← hW_] at k_ ⊢
     have RX3 : Hid (Loc X1 X3 [(q18, 40, plC pa pb pd false)]) := k_
     clear k_ hW_ RX2
     refine wl rfl (.int .i64 er) _ (run_asZ (.tmp 136) rfl (.int .i64 er) rfl) ?_
     simp only [Act.put, aS, aC, aZ]
     refine wpList_nil ?_
     by_cases hz : er = 0
     ·go_upto_region 27 with fail
      refine wp_region_lit ?_
      refine wl rfl (.int .i64 er) _ (run_mvZ (.tmp 19) rfl (.int .i64 er) rfl) ?_
      refine wl rfl (.bool true) _ (run_eqZ (.tmp 137) (.const (.int .i64 0)) rfl er 0 rfl rfl true (decide_eq_true hz)) ?_
      simp only [Act.put, aS, aC, aZ]
      refine wpList_nil ?_
      obtain ⟨ea, eb_, ed⟩ := HA1.out.2.2.2 hz
      have hos : osA os [97] bs12 er = os ++ [([97], bs12)] := (by unfold osA; rw [if_pos hz])
      have HS9 : Hid (Sq 2 gv W0 X3 c0 c2) := HA1.out.1.trans (Sq.bel c2 RX3.out.below)
      have HK9 : Hid (Wk w X3 c2 2 gp gv 0 120 m2 (osA os [97] bs12 er) false [] (32 * k + 16)) := HF0.out.k.sq1 HS9.out (HA1.out.2.1.below RX3.out.below) HA1.out.2.2.1
      have HT9 : Hid (TdIn w.heap.size 2 gv c2 X3 u10 (tdsOf 0 os)) := HF0.out.t.sq HS9.out
      have HB9 : Hid (Bt gv c2 X3 u10 vc10 bs12) := HB11.out.sq HS9.out
      have HRW : Hid (Row X3 q18 40 (plC ((0 : Nat) : Int) (wide os : Nat) (nb bs12.length : Nat) false)) := (by have h9 := RX3.out.at 0 rfl; rw [ea, eb_, ed] at h9; exact h9)
      go_upto_region 28 with fail
      refine wp_region_lit ?_
      refine wl rfl u10 _ (run_mvZ (.tmp 10) rfl u10 rfl) ?_
      refine wl rfl vc10 _ (run_mvZ (.tmp 12) rfl vc10 rfl) ?_
      simp only [Act.put, aS, aC, aZ]
      refine wl rfl (.agg ((plC ((0 : Nat) : Int) (wide os : Nat) (nb bs12.length : Nat) false)).toArray) _ (run_loadA ag40 (.tmp 18) rfl q18 (0) rfl ((plC ((0 : Nat) : Int) (wide os : Nat) (nb bs12.length : Nat) false)) rfl (rows_one HRW.out)) ?_
      refine wl rfl (.agg (tdC ⟨[97], bs12, 0, wide os, nb bs12.length, false⟩ vc10).toArray) _ (run_build48 (.const (.string { data := #[97] })) (.tmp 140) (.tmp 141) rfl ⟨[97], bs12, 0, wide os, nb bs12.length, false⟩ rfl vc10 HB9.out.1.1 rfl rfl rfl) ?_
      simp only [Act.put, aS, aC, aZ]
      refine wl rfl (.slice (some ⟨X3.heap.size, 0, none⟩) 1 1) _ (run_litC el35 (tdC ⟨[97], bs12, 0, wide os, nb bs12.length, false⟩ vc10) rfl (.tmp 142) rfl rfl) ?_
      have hb4_ := below_alloc X3 (.cells (tdC ⟨[97], bs12, 0, wide os, nb bs12.length, false⟩ vc10).toArray 48)
      have r4_ := Row.new X3 48 (tdC ⟨[97], bs12, 0, wide os, nb bs12.length, false⟩ vc10)
      obtain ⟨X4, hW_⟩ : ∃ U_ : World, U_ = X3.alloc (.cells (tdC ⟨[97], bs12, 0, wide os, nb bs12.length, false⟩ vc10).toArray 48) := ⟨_, rfl⟩
      obtain ⟨q4, hq_⟩ : ∃ q, q = X3.heap.size := ⟨_, rfl⟩
      rw [← hW_] at hb4_
      rw [← hW_, ← hq_] at r4_
      rw [← hW_, ← hq_]
      have H4 : Hid (Below X3.heap.size X3 X4 ∧ Row X4 q4 48 (tdC ⟨[97], bs12, 0, wide os, nb bs12.length, false⟩ vc10)) := ⟨hb4_, r4_⟩
      clear hb4_ r4_ hW_ hq_
      simp only [Act.put, aS, aC, aZ]
      obtain ⟨vn, X5, hr_, hf_⟩ := HF0.out.yes hos (HK9.out.bel H4.out.1) (HT9.out.sq (Sq.bel c2 H4.out.1)) vc10 q4 (HB9.out.sq (Sq.bel c2 H4.out.1)).1 HB9.out.2 H4.out.2.at
      refine wl rfl vn _ (run_appOp (.tmp 139) (.tmp 143) rfl _ _ _ rfl rfl hr_) ?_
      have HF5 : Hid (Fg w X5 c2 gp gv 120 m2 (osA os [97] bs12 er) (32 * k + 16) vn) := hf_
      clear hr_ hf_
      simp only [Act.put, aS, aC, aZ]
      refine wl rfl vn _ (run_asZ (.tmp 144) rfl vn rfl) ?_
      simp only [Act.put, aS, aC, aZ]
      refine wpList_nil ?_
      go_upto_region 11 with fail
      refine wp_region_lit ?_
      refine wl rfl (.int .i64 (k : Nat)) _ (run_mvZ (.tmp 11) rfl (.int .i64 (k : Nat)) rfl) ?_
      refine wl rfl (.int .i64 ((k + 1 : Nat) : Int)) _ (run_addZ (.tmp 71) (.const (.int .i64 1)) rfl (k : Nat) 1 _ rfl rfl (by omega) (by omega) (by omega)) ?_
      simp only [Act.put, aS, aC, aZ]
      refine wl rfl (.int .i64 ((k + 1 : Nat) : Int)) _ (run_asZ (.tmp 72) rfl (.int .i64 ((k + 1 : Nat) : Int)) rfl) ?_
      simp only [Act.put, aS, aC, aZ]
      refine wpList_nil ?_
      go_wp2_with fail
      exact ⟨⟨k + 1, rfl, by omega, by omega, _, _, _, HF5.out.le (by omega)⟩, by simp [intOf]; omega⟩
     ·go_upto_region 27 with fail
      refine wp_region_lit ?_
      refine wl rfl (.int .i64 er) _ (run_mvZ (.tmp 19) rfl (.int .i64 er) rfl) ?_
      refine wl rfl (.bool false) _ (run_eqZ (.tmp 137) (.const (.int .i64 0)) rfl er 0 rfl rfl false (decide_eq_false hz)) ?_
      simp only [Act.put, aS, aC, aZ]
      refine wpList_nil ?_
      have hos : osA os [97] bs12 er = os := (by unfold osA; rw [if_neg hz])
      have HF5 : Hid (Fg w X3 c2 gp gv 120 m2 os (32 * k + 16) u10) := (by
       have h9 := HA1.out.2.1
       rw [hos] at h9
       exact (HF0.out.no HA1.out.1 h9 rfl HA1.out.2.2.1).bel RX3.out.below)
      go_upto_region 11 with fail
      refine wp_region_lit ?_
      refine wl rfl (.int .i64 (k : Nat)) _ (run_mvZ (.tmp 11) rfl (.int .i64 (k : Nat)) rfl) ?_
      refine wl rfl (.int .i64 ((k + 1 : Nat) : Int)) _ (run_addZ (.tmp 71) (.const (.int .i64 1)) rfl (k : Nat) 1 _ rfl rfl (by omega) (by omega) (by omega)) ?_
      simp only [Act.put, aS, aC, aZ]
      refine wl rfl (.int .i64 ((k + 1 : Nat) : Int)) _ (run_asZ (.tmp 72) rfl (.int .i64 ((k + 1 : Nat) : Int)) rfl) ?_
      simp only [Act.put, aS, aC, aZ]
      refine wpList_nil ?_
      go_wp2_with fail
      exact ⟨⟨k + 1, rfl, by omega, by omega, _, _, _, HF5.out.le (by omega)⟩, by simp [intOf]; omega⟩
    ·go_upto_region 24 with fail
     refine wp_region_lit ?_
     refine wl rfl au _ (run_mvZ (.tmp 12) rfl au rfl) ?_
     refine wl rfl (.int .i64 ((A.getD k []).length : Nat)) _ (run_lenS HB0.out.1.1 (.tmp 126) rfl rfl) ?_
     simp only [Act.put, aS, aC, aZ]
     refine wl rfl (.bool false) _ (run_gtrZ (.tmp 127) (.const (.int .i64 512)) rfl ((A.getD k []).length : Nat) 512 rfl rfl false (decide_eq_false (by omega))) ?_
     simp only [Act.put, aS, aC, aZ]
     refine wpList_nil ?_
     go_upto_region 26 with fail
     refine wp_region_lit ?_
     refine wl rfl (ptr gv) _ (run_mvZ (.tmp 8) rfl (ptr gv) rfl) ?_
     refine wl rfl au _ (run_mvZ (.tmp 12) rfl au rfl) ?_
     simp only [Act.put, aS, aC, aZ]
     refine wpList_callW eN12 [.tmp 132, .const (.string { data := #[97] }), .tmp 133] _ rfl rfl [(ptr gv), (str [97]), au] rfl ?_
     refine (vapp_s HF0.out.k.v (by have := HF0.out.k.k; omega) [97] (A.getD k []) au (by decide) (by decide) HB0.out.1.1 (HB0.out.1.2.imp (fun h => h) fun h g e => (h g e).2.1)).mono ?_
     rintro e X1 ⟨c2, m2, er, her_, rfl, s_, v_, o_, _⟩
     obtain ⟨pa, pb, pd, hpl_, hpx_, _⟩ := plA_form 0 os (A.getD k []) er
     rw [hpl_]
     refine ⟨_, rfl, ?_⟩
     have HA1 : Hid (Sq 2 gv W0 X1 c0 c2 ∧ VOn X1 c2 2 gp gv 0 120 m2 (osA os [97] (A.getD k []) er) false ∧ (m2 = m0 ∨ Oth2 m0 m2 0) ∧ (er = 0 → pa = ((0 : Nat) : Int) ∧ pb = (wide os : Nat) ∧ pd = (nb (A.getD k []).length : Nat))) := ⟨s_, v_, o_, hpx_⟩
     have HL1 : Hid (Loc X1 X1 []) := Loc.nil (Below.refl _ _)
     clear her_ s_ v_ o_ hpl_ hpx_
     simp only [Act.put, aS, aC, aZ]
     refine wl rfl (.tuple #[(.agg (plC pa pb pd false).toArray), (.int .i64 er)]) _ (run_mvZ (.tmp 134) rfl (.tuple #[(.agg (plC pa pb pd false).toArray), (.int .i64 er)]) rfl) ?_
     refine wl rfl (.agg (plC pa pb pd false).toArray) _ (run_extZ (.tmp 131) 0 rfl #[(.agg (plC pa pb pd false).toArray), (.int .i64 er)] rfl (.agg (plC pa pb pd false).toArray) rfl) ?_
     simp only [Act.put, aS, aC, aZ]
     refine wl rfl (.int .i64 er) _ (run_extZ (.tmp 131) 1 rfl #[(.agg (plC pa pb pd false).toArray), (.int .i64 er)] rfl (.int .i64 er) rfl) ?_
     refine wl rfl (ptr X1.heap.size) _ (run_allocA ((plC 0 0 0 false)) zero40 rfl) ?_
     have k_ := HL1.out.box 40 ((plC 0 0 0 false))
     obtain ⟨X2, hW_⟩ : ∃ W, W = X1.alloc (.cells ((plC 0 0 0 false)).toArray 40) := ⟨_, rfl⟩
     obtain ⟨q18, hq_⟩ : ∃ q, q = X1.heap.size := ⟨_, rfl⟩
     rw [← hW_, ← hq_] at k_
     rw [← hW_, ← hq_]
     clear hq_
     have RX2 : Hid (Loc X1 X2 [(q18, 40, (plC 0 0 0 false))]) := k_
     clear k_ hW_ HL1
     simp only [Act.put, aS, aC, aZ]
     refine wlS rfl rfl _ (run_storeL ag40 (.tmp 18) (.tmp 135) rfl RX2.out 0 rfl (0) rfl (plC pa pb pd false) rfl rfl (Nat.le_refl 4) (plC_one _ _ _ _)).1 ?_
     have k_ := RX2.out.lay 0 rfl (0) (plC pa pb pd false)
     rw [splice_all (plC 0 0 0 false) (plC pa pb pd false) rfl] at k_ ⊢
     obtain ⟨X3, hW_⟩ : ∃ W, W = X2.setRow q18 (plC pa pb pd false).toArray := ⟨_, rfl⟩
     rw [← hW_] at k_ ⊢
     have RX3 : Hid (Loc X1 X3 [(q18, 40, plC pa pb pd false)]) := k_
     clear k_ hW_ RX2
     refine wl rfl (.int .i64 er) _ (run_asZ (.tmp 136) rfl (.int .i64 er) rfl) ?_
     simp only [Act.put, aS, aC, aZ]
     refine wpList_nil ?_
     by_cases hz : er = 0
     ·go_upto_region 27 with fail
      refine wp_region_lit ?_
      refine wl rfl (.int .i64 er) _ (run_mvZ (.tmp 19) rfl (.int .i64 er) rfl) ?_
      refine wl rfl (.bool true) _ (run_eqZ (.tmp 137) (.const (.int .i64 0)) rfl er 0 rfl rfl true (decide_eq_true hz)) ?_
      simp only [Act.put, aS, aC, aZ]
      refine wpList_nil ?_
      obtain ⟨ea, eb_, ed⟩ := HA1.out.2.2.2 hz
      have hos : osA os [97] (A.getD k []) er = os ++ [([97], (A.getD k []))] := (by unfold osA; rw [if_pos hz])
      have HS9 : Hid (Sq 2 gv W0 X3 c0 c2) := HA1.out.1.trans (Sq.bel c2 RX3.out.below)
      have HK9 : Hid (Wk w X3 c2 2 gp gv 0 120 m2 (osA os [97] (A.getD k []) er) false [] (32 * k + 16)) := HF0.out.k.sq1 HS9.out (HA1.out.2.1.below RX3.out.below) HA1.out.2.2.1
      have HT9 : Hid (TdIn w.heap.size 2 gv c2 X3 u10 (tdsOf 0 os)) := HF0.out.t.sq HS9.out
      have HB9 : Hid (Bt gv c2 X3 u10 au (A.getD k [])) := HB0.out.sq HS9.out
      have HRW : Hid (Row X3 q18 40 (plC ((0 : Nat) : Int) (wide os : Nat) (nb (A.getD k []).length : Nat) false)) := (by have h9 := RX3.out.at 0 rfl; rw [ea, eb_, ed] at h9; exact h9)
      go_upto_region 28 with fail
      refine wp_region_lit ?_
      refine wl rfl u10 _ (run_mvZ (.tmp 10) rfl u10 rfl) ?_
      refine wl rfl au _ (run_mvZ (.tmp 12) rfl au rfl) ?_
      simp only [Act.put, aS, aC, aZ]
      refine wl rfl (.agg ((plC ((0 : Nat) : Int) (wide os : Nat) (nb (A.getD k []).length : Nat) false)).toArray) _ (run_loadA ag40 (.tmp 18) rfl q18 (0) rfl ((plC ((0 : Nat) : Int) (wide os : Nat) (nb (A.getD k []).length : Nat) false)) rfl (rows_one HRW.out)) ?_
      refine wl rfl (.agg (tdC ⟨[97], (A.getD k []), 0, wide os, nb (A.getD k []).length, false⟩ au).toArray) _ (run_build48 (.const (.string { data := #[97] })) (.tmp 140) (.tmp 141) rfl ⟨[97], (A.getD k []), 0, wide os, nb (A.getD k []).length, false⟩ rfl au HB9.out.1.1 rfl rfl rfl) ?_
      simp only [Act.put, aS, aC, aZ]
      refine wl rfl (.slice (some ⟨X3.heap.size, 0, none⟩) 1 1) _ (run_litC el35 (tdC ⟨[97], (A.getD k []), 0, wide os, nb (A.getD k []).length, false⟩ au) rfl (.tmp 142) rfl rfl) ?_
      have hb4_ := below_alloc X3 (.cells (tdC ⟨[97], (A.getD k []), 0, wide os, nb (A.getD k []).length, false⟩ au).toArray 48)
      have r4_ := Row.new X3 48 (tdC ⟨[97], (A.getD k []), 0, wide os, nb (A.getD k []).length, false⟩ au)
      obtain ⟨X4, hW_⟩ : ∃ U_ : World, U_ = X3.alloc (.cells (tdC ⟨[97], (A.getD k []), 0, wide os, nb (A.getD k []).length, false⟩ au).toArray 48) := ⟨_, rfl⟩
      obtain ⟨q4, hq_⟩ : ∃ q, q = X3.heap.size := ⟨_, rfl⟩
      rw [← hW_] at hb4_
      rw [← hW_, ← hq_] at r4_
      rw [← hW_, ← hq_]
      have H4 : Hid (Below X3.heap.size X3 X4 ∧ Row X4 q4 48 (tdC ⟨[97], (A.getD k []), 0, wide os, nb (A.getD k []).length, false⟩ au)) := ⟨hb4_, r4_⟩
      clear hb4_ r4_ hW_ hq_
      simp only [Act.put, aS, aC, aZ]
      obtain ⟨vn, X5, hr_, hf_⟩ := HF0.out.yes hos (HK9.out.bel H4.out.1) (HT9.out.sq (Sq.bel c2 H4.out.1)) au q4 (HB9.out.sq (Sq.bel c2 H4.out.1)).1 HB9.out.2 H4.out.2.at
      refine wl rfl vn _ (run_appOp (.tmp 139) (.tmp 143) rfl _ _ _ rfl rfl hr_) ?_
      have HF5 : Hid (Fg w X5 c2 gp gv 120 m2 (osA os [97] (A.getD k []) er) (32 * k + 16) vn) := hf_
      clear hr_ hf_
      simp only [Act.put, aS, aC, aZ]
      refine wl rfl vn _ (run_asZ (.tmp 144) rfl vn rfl) ?_
      simp only [Act.put, aS, aC, aZ]
      refine wpList_nil ?_
      go_upto_region 11 with fail
      refine wp_region_lit ?_
      refine wl rfl (.int .i64 (k : Nat)) _ (run_mvZ (.tmp 11) rfl (.int .i64 (k : Nat)) rfl) ?_
      refine wl rfl (.int .i64 ((k + 1 : Nat) : Int)) _ (run_addZ (.tmp 71) (.const (.int .i64 1)) rfl (k : Nat) 1 _ rfl rfl (by omega) (by omega) (by omega)) ?_
      simp only [Act.put, aS, aC, aZ]
      refine wl rfl (.int .i64 ((k + 1 : Nat) : Int)) _ (run_asZ (.tmp 72) rfl (.int .i64 ((k + 1 : Nat) : Int)) rfl) ?_
      simp only [Act.put, aS, aC, aZ]
      refine wpList_nil ?_
      go_wp2_with fail
      exact ⟨⟨k + 1, rfl, by omega, by omega, _, _, _, HF5.out.le (by omega)⟩, by simp [intOf]; omega⟩
     ·go_upto_region 27 with fail
      refine wp_region_lit ?_
      refine wl rfl (.int .i64 er) _ (run_mvZ (.tmp 19) rfl (.int .i64 er) rfl) ?_
      refine wl rfl (.bool false) _ (run_eqZ (.tmp 137) (.const (.int .i64 0)) rfl er 0 rfl rfl false (decide_eq_false hz)) ?_
      simp only [Act.put, aS, aC, aZ]
      refine wpList_nil ?_
      have hos : osA os [97] (A.getD k []) er = os := (by unfold osA; rw [if_neg hz])
      have HF5 : Hid (Fg w X3 c2 gp gv 120 m2 os (32 * k + 16) u10) := (by
       have h9 := HA1.out.2.1
       rw [hos] at h9
       exact (HF0.out.no HA1.out.1 h9 rfl HA1.out.2.2.1).bel RX3.out.below)
      go_upto_region 11 with fail
      refine wp_region_lit ?_
      refine wl rfl (.int .i64 (k : Nat)) _ (run_mvZ (.tmp 11) rfl (.int .i64 (k : Nat)) rfl) ?_
      refine wl rfl (.int .i64 ((k + 1 : Nat) : Int)) _ (run_addZ (.tmp 71) (.const (.int .i64 1)) rfl (k : Nat) 1 _ rfl rfl (by omega) (by omega) (by omega)) ?_
      simp only [Act.put, aS, aC, aZ]
      refine wl rfl (.int .i64 ((k + 1 : Nat) : Int)) _ (run_asZ (.tmp 72) rfl (.int .i64 ((k + 1 : Nat) : Int)) rfl) ?_
      simp only [Act.put, aS, aC, aZ]
      refine wpList_nil ?_
      go_wp2_with fail
      exact ⟨⟨k + 1, rfl, by omega, by omega, _, _, _, HF5.out.le (by omega)⟩, by simp [intOf]; omega⟩
  ·by_cases h2 : k < A.length
   ·go_upto_region 10 with fail
    refine wp_region_lit ?_
    refine wl rfl (.int .i64 (k : Nat)) _ (run_mvZ (.tmp 11) rfl (.int .i64 (k : Nat)) rfl) ?_
    refine wl rfl va _ (run_mvZ (.tmp 0) rfl va rfl) ?_
    simp only [Act.put, aS, aC, aZ]
    refine wl rfl (.int .i64 (A.length : Nat)) _ (run_lenR HM.out.2.2.1 (.tmp 64) rfl rfl) ?_
    refine wl rfl (.bool true) _ (run_lssZ (.tmp 63) (.tmp 65) rfl (k : Nat) (A.length : Nat) rfl rfl true (decide_eq_true (by omega))) ?_
    simp only [Act.put, aS, aC, aZ]
    refine wl rfl (.bool true) _ (run_mvZ (.tmp 66) rfl (.bool true) rfl) ?_
    refine wl (by kernel_rfl) (.int .i64 (k : Nat)) _ (run_mvZ (.tmp 11) rfl (.int .i64 (k : Nat)) rfl) ?_
    simp only [Act.put, aS, aC, aZ]
    refine wl (by kernel_rfl) (.bool false) _ (run_lssZ (.tmp 68) (.const (.int .i64 7)) rfl (k : Nat) 7 rfl rfl false (decide_eq_false (by omega))) ?_
    refine wl rfl (.bool false) _ (run_pickZ (.tmp 67) (.tmp 69) (.const (.bool false)) rfl true (.bool false) rfl rfl) ?_
    simp only [Act.put, aS, aC, aZ]
    refine wpList_nil ?_
    go_upto_region 29 with fail
    refine wp_region_lit ?_
    refine wl rfl (ptr gv) _ (run_mvZ (.tmp 8) rfl (ptr gv) rfl) ?_
    simp only [Act.put, aS, aC, aZ]
    refine wpList_callW eN16 [.tmp 145] _ rfl rfl [(ptr gv)] rfl ?_
    refine (vflush_s HF0.out.k.v (by have := HF0.out.k.k; omega)).mono ?_
    rintro e Z1 ⟨c2, m2, rfl, s_, v_, o_⟩
    refine ⟨_, rfl, ?_⟩
    have HG1 : Hid (Fg w Z1 c2 gp gv 120 m2 os (32 * k + 16) u10) := HF0.out.no s_ v_ rfl (Or.inr o_)
    clear s_ v_ o_ HF0
    simp only [Act.put, aS, aC, aZ]
    refine wl rfl (.int .i64 0) _ (run_asZ (.tmp 146) rfl (.int .i64 0) rfl) ?_
    simp only [Act.put, aS, aC, aZ]
    refine wpList_nil ?_
    obtain ⟨n, hn⟩ : ∃ n, n = wide os := ⟨_, rfl⟩
    have hn4 : n ≤ 4096 := (by rw [hn]; exact HG1.out.few.2.2)
    have hlen : m2.len 0 = n := (by rw [hn, HG1.out.few.2.1]; exact ctn_len HG1.out.k.v.tape.tv.tape)
    have hhas : m2.has 0 := ⟨by decide, by have := HG1.out.k.v.tape.tv.lt; omega⟩
    go_upto_region 30 with fail
    refine wp_region_lit ?_
    refine wl rfl (ptr gp) _ (run_mvZ (.tmp 6) rfl (ptr gp) rfl) ?_
    simp only [Act.put, aS, aC, aZ]
    refine wpList_callW eN33 [.tmp 148, .const (.int .i64 0)] _ rfl rfl [(ptr gp), (.int .i64 0)] rfl ?_
    refine (HG1.out.k.v.live.len (by have := HG1.out.k.k; omega) 0).mono ?_
    rintro e Z2 ⟨rfl, nn, rfl⟩
    rw [if_pos hhas, if_pos hhas, show (0 : Int).toNat = 0 from rfl, hlen]
    refine ⟨_, rfl, ?_⟩
    obtain ⟨Z2, hZ2⟩ : ∃ X, X = Z1.drewN nn := ⟨_, rfl⟩
    rw [← hZ2]
    have HG : Hid (Fg w Z2 c2 gp gv 120 m2 os (32 * k + 16) u10) := HG1.out.bel (by rw [hZ2]; exact ⟨rfl, rfl, rfl, Nat.le_refl _, fun _ _ => rfl⟩)
    clear hZ2
    simp only [Act.put, aS, aC, aZ]
    refine wl rfl (.tuple #[(.int .i64 (n : Nat)), (.int .i64 0)]) _ (run_mvZ (.tmp 149) rfl (.tuple #[(.int .i64 (n : Nat)), (.int .i64 0)]) rfl) ?_
    refine wl rfl (.int .i64 (n : Nat)) _ (run_extZ (.tmp 147) 0 rfl #[(.int .i64 (n : Nat)), (.int .i64 0)] rfl (.int .i64 (n : Nat)) rfl) ?_
    simp only [Act.put, aS, aC, aZ]
    refine wl rfl (.int .i64 0) _ (run_extZ (.tmp 147) 1 rfl #[(.int .i64 (n : Nat)), (.int .i64 0)] rfl (.int .i64 0) rfl) ?_
    refine wl rfl (.int .i64 (n : Nat)) _ (run_asZ (.tmp 150) rfl (.int .i64 (n : Nat)) rfl) ?_
    simp only [Act.put, aS, aC, aZ]
    refine wl rfl (.int .i64 0) _ (run_asZ (.tmp 151) rfl (.int .i64 0) rfl) ?_
    simp only [Act.put, aS, aC, aZ]
    refine wpList_nil ?_
    go_upto_region 31 with fail
    refine wp_region_lit ?_
    refine wl rfl (.int .i64 0) _ (run_mvZ (.tmp 20) rfl (.int .i64 0) rfl) ?_
    refine wl rfl (.bool false) _ (run_neZ (.tmp 152) (.const (.int .i64 0)) rfl (0) (0) rfl rfl false rfl) ?_
    simp only [Act.put, aS, aC, aZ]
    refine wpList_nil ?_
    go_upto_region 33 with fail
    refine wp_region_lit ?_
    refine wl rfl (.int .i64 (-1)) _ (run_asZ (.const (.int .i64 (-1))) rfl (.int .i64 (-1)) rfl) ?_
    simp only [Act.put, aS, aC, aZ]
    refine wpList_nil ?_
    have hos_ : os.length ≤ 2048 := (by have := HG.out.few.1; omega)
    go_wp2_with fail
    go_loopw [23, 24, 25, 26, 27, 28, 29, 30] (fun va _ _ _ _ _ _ _ W => ∃ a : Nat, va = .int .i64 ((a : Nat) - 1) ∧ a ≤ n + 2 ∧ Hid (Fg w W c2 gp gv 120 m2 os (32 * k + 16) u10)) (fun va _ _ _ _ _ _ _ _ => n + 2 - (intOf va + 1).toNat)
    case atStart => exact ⟨0, rfl, Nat.zero_le _, HG.out⟩
    case round =>
     obtain ⟨a, rfl, ha, HI⟩ := hrel
     obtain ⟨V0, hV0⟩ : ∃ X, X = wr := ⟨_, rfl⟩
     subst hV0
     by_cases hlt : a < n + 2
     ·as_aux_lemma =>
      go_upto_region 34 with fail
      refine wp_region_lit ?_
      refine wl rfl (.int .i64 ((a : Nat) - 1)) _ (run_mvZ (.tmp 23) rfl (.int .i64 ((a : Nat) - 1)) rfl) ?_
      refine wl rfl (.int .i64 (n : Nat)) _ (run_mvZ (.tmp 21) rfl (.int .i64 (n : Nat)) rfl) ?_
      simp only [Act.put, aS, aC, aZ]
      refine wl rfl (.bool true) _ (run_leqZ (.tmp 154) (.tmp 155) rfl ((a : Nat) - 1) (n : Nat) rfl rfl true (decide_eq_true (by omega))) ?_
      simp only [Act.put, aS, aC, aZ]
      refine wpList_nil ?_
      go_upto_region 36 with fail
      refine wp_region_lit ?_
      refine wl rfl (.int .i64 0) _ (run_asZ (.const (.int .i64 0)) rfl (.int .i64 0) rfl) ?_
      simp only [Act.put, aS, aC, aZ]
      refine wpList_nil ?_
      go_wp2_with fail
      go_loopw [24, 25, 26, 27, 28, 29, 30] (fun vk _ _ _ _ _ _ W => ∃ b : Nat, vk = .int .i64 (b : Nat) ∧ b ≤ 14 ∧ Hid (Fg w W c2 gp gv 120 m2 os (32 * k + 16) u10)) (fun vk _ _ _ _ _ _ _ => 14 - (intOf vk).toNat)
      case atStart => exact ⟨0, rfl, Nat.zero_le _, HI.out⟩
      case round =>
       obtain ⟨b, rfl, hb14, HI4⟩ := hrel
       obtain ⟨V1, hV1⟩ : ∃ X, X = wr := ⟨_, rfl⟩
       subst hV1
       by_cases hbl : b < 14
       ·go_upto_region 37 with fail
        refine wp_region_lit ?_
        refine wl rfl (.int .i64 (b : Nat)) _ (run_mvZ (.tmp 24) rfl (.int .i64 (b : Nat)) rfl) ?_
        refine wl rfl (.bool true) _ (run_lssZ (.tmp 159) (.const (.int .i64 14)) rfl (b : Nat) 14 rfl rfl true (decide_eq_true (by omega))) ?_
        simp only [Act.put, aS, aC, aZ]
        refine wpList_nil ?_
        have HL1 : Hid (Loc V1 V1 []) := Loc.nil (Below.refl _ _)
        go_upto_region 39 with fail
        refine wp_region_lit ?_
        refine wl rfl (.int .i64 ((a : Nat) - 1)) _ (run_mvZ (.tmp 23) rfl (.int .i64 ((a : Nat) - 1)) rfl) ?_
        refine wl rfl (.int .i64 (b : Nat)) _ (run_mvZ (.tmp 24) rfl (.int .i64 (b : Nat)) rfl) ?_
        simp only [Act.put, aS, aC, aZ]
        refine wl rfl (.agg (plC 0 ((a : Nat) - 1) (b : Nat) false).toArray) _ (run_build40c (.tmp 163) (.tmp 164) rfl ((a : Nat) - 1) (b : Nat) rfl rfl) ?_
        refine wl rfl (ptr V1.heap.size) _ (run_allocA ((plC 0 0 0 false)) zero40 rfl) ?_
        have k_ := HL1.out.box 40 ((plC 0 0 0 false))
        obtain ⟨V2, hW_⟩ : ∃ W, W = V1.alloc (.cells ((plC 0 0 0 false)).toArray 40) := ⟨_, rfl⟩
        obtain ⟨q25, hq_⟩ : ∃ q, q = V1.heap.size := ⟨_, rfl⟩
        rw [← hW_, ← hq_] at k_
        rw [← hW_, ← hq_]
        clear hq_
        have RV2 : Hid (Loc V1 V2 [(q25, 40, (plC 0 0 0 false))]) := k_
        clear k_ hW_ HL1
        simp only [Act.put, aS, aC, aZ]
        refine wlS rfl rfl _ (run_storeL ag40 (.tmp 25) (.tmp 165) rfl RV2.out 0 rfl (0) rfl ((plC 0 ((a : Nat) - 1) (b : Nat) false)) rfl rfl (Nat.le_refl 4) (plC_one _ _ _ _)).1 ?_
        have k_ := RV2.out.lay 0 rfl (0) ((plC 0 ((a : Nat) - 1) (b : Nat) false))
        rw [splice_all (plC 0 0 0 false) (plC 0 ((a : Nat) - 1) (b : Nat) false) rfl] at k_ ⊢
        obtain ⟨V3, hW_⟩ : ∃ W, W = V2.setRow q25 ((plC 0 ((a : Nat) - 1) (b : Nat) false)).toArray := ⟨_, rfl⟩
        rw [← hW_] at k_ ⊢
        have RV3 : Hid (Loc V1 V3 [(q25, 40, (plC 0 ((a : Nat) - 1) (b : Nat) false))]) := k_
        clear k_ hW_ RV2
        refine wpList_nil ?_
        have HG3 : Hid (Fg w V3 c2 gp gv 120 m2 os (32 * k + 16) u10) := HI4.out.bel RV3.out.below
        go_upto_region 40 with fail
        refine wp_region_lit ?_
        refine wl rfl (ptr gv) _ (run_mvZ (.tmp 8) rfl (ptr gv) rfl) ?_
        refine wl rfl (.agg ((plC 0 ((a : Nat) - 1) (b : Nat) false)).toArray) _ (run_loadA ag40 (.tmp 25) rfl q25 (0) rfl ((plC 0 ((a : Nat) - 1) (b : Nat) false)) rfl (rows_all RV3.out 0 rfl)) ?_
        simp only [Act.put, aS, aC, aZ]
        refine wpList_callW eN17 [.tmp 167, .tmp 168] _ rfl rfl [(ptr gv), (.agg (plC 0 ((a : Nat) - 1) (b : Nat) false).toArray)] rfl ?_
        refine (vread_s HG3.out.k.v (by have := HG3.out.k.k; omega) 0 ((a : Nat) - 1) (b : Nat) false ⟨by omega, by omega⟩ ⟨by omega, by omega⟩).mono ?_
        rintro e V4 ⟨hb_, _, hr_⟩
        obtain ⟨vi, vy, er, rfl, hq_⟩ : ∃ (vi : List Nat) (vy : Value) (er : Int), e = .returned (.tuple #[str vi, vy, .int .i64 er]) ∧ ((∃ j0, j0 < os.length ∧ Mt os ((a : Nat) - 1) (b : Nat) j0 ∧ er = 0 ∧ vi = [97] ∧ SliceIn V4 vy (os.getD j0 ([], [])).2) ∨ (er = 4 ∧ ∀ i, i < os.length → ¬ Mt os ((a : Nat) - 1) (b : Nat) i)) := (by
         rcases hr_ with ⟨j0, vy, hj, _, h2, h3, h4, h5, _⟩ | ⟨h4, hno⟩
         ·exact ⟨_, vy, 0, h4, Or.inl ⟨j0, hj, ⟨h2, h3⟩, rfl, HG3.out.n _ (getD_mem os j0 _ hj), h5⟩⟩
         ·exact ⟨_, _, 4, h4, Or.inr ⟨rfl, fun i hi hm => hno i hi ⟨rfl, hm.1, hm.2⟩⟩⟩)
        refine ⟨_, rfl, ?_⟩
        have HR : Hid (((∃ j0, j0 < os.length ∧ Mt os ((a : Nat) - 1) (b : Nat) j0 ∧ er = 0 ∧ vi = [97] ∧ SliceIn V4 vy (os.getD j0 ([], [])).2) ∨ (er = 4 ∧ ∀ i, i < os.length → ¬ Mt os ((a : Nat) - 1) (b : Nat) i))) := hq_
        have HG4 : Hid (Fg w V4 c2 gp gv 120 m2 os (32 * k + 16) u10) := HG3.out.bel hb_
        have HQ4 : Hid (Row V4 q25 40 (plC 0 ((a : Nat) - 1) (b : Nat) false)) := (RV3.out.at 0 rfl).later hb_ (RV3.out.at 0 rfl).lt
        clear hb_ hr_ hq_
        simp only [Act.put, aS, aC, aZ]
        refine wl rfl (.tuple #[(str vi), vy, (.int .i64 er)]) _ (run_mvZ (.tmp 169) rfl (.tuple #[(str vi), vy, (.int .i64 er)]) rfl) ?_
        refine wl rfl (str vi) _ (run_extZ (.tmp 166) 0 rfl #[(str vi), vy, (.int .i64 er)] rfl (str vi) rfl) ?_
        simp only [Act.put, aS, aC, aZ]
        refine wl rfl vy _ (run_extZ (.tmp 166) 1 rfl #[(str vi), vy, (.int .i64 er)] rfl vy rfl) ?_
        refine wl rfl (.int .i64 er) _ (run_extZ (.tmp 166) 2 rfl #[(str vi), vy, (.int .i64 er)] rfl (.int .i64 er) rfl) ?_
        simp only [Act.put, aS, aC, aZ]
        refine wl rfl (str vi) _ (run_asZ (.tmp 170) rfl (str vi) rfl) ?_
        refine wl rfl vy _ (run_asZ (.tmp 171) rfl vy rfl) ?_
        simp only [Act.put, aS, aC, aZ]
        refine wl rfl (.int .i64 er) _ (run_asZ (.tmp 172) rfl (.int .i64 er) rfl) ?_
        simp only [Act.put, aS, aC, aZ]
        refine wpList_nil ?_
        go_upto_region 41 with fail
        refine wp_region_lit ?_
        refine wl rfl (.bool false) _ (run_asZ (.const (.bool false)) rfl (.bool false) rfl) ?_
        simp only [Act.put, aS, aC, aZ]
        refine wpList_nil ?_
        go_upto_region 42 with fail
        refine wp_region_lit ?_
        refine wl rfl (.int .i64 0) _ (run_asZ (.const (.int .i64 0)) rfl (.int .i64 0) rfl) ?_
        simp only [Act.put, aS, aC, aZ]
        refine wpList_nil ?_
        go_wp2_with fail
        go_loopw [29, 30] (fun vb vj W => ∃ (bo : Bool) (j : Nat), vb = .bool bo ∧ vj = .int .i64 (j : Nat) ∧ j ≤ os.length ∧ Hid (Below V4.heap.size V4 W ∧ (bo = true ↔ ∃ i, i < j ∧ Mt os ((a : Nat) - 1) (b : Nat) i))) (fun _ vj _ => os.length - (intOf vj).toNat)
        case atStart => exact ⟨false, 0, rfl, rfl, Nat.zero_le _, Below.refl _ _, ⟨(fun h => by cases h), fun ⟨i, h, _⟩ => absurd h (Nat.not_lt_zero _)⟩⟩
        case round =>
         obtain ⟨bo, j, rfl, rfl, hjl, HI5⟩ := hrel
         obtain ⟨V5, hV5⟩ : ∃ X, X = wr := ⟨_, rfl⟩
         subst hV5
         by_cases hj : j < os.length
         ·go_upto_region 43 with fail
          refine wp_region_lit ?_
          refine wl rfl (.int .i64 (j : Nat)) _ (run_mvZ (.tmp 30) rfl (.int .i64 (j : Nat)) rfl) ?_
          refine wl rfl u10 _ (run_mvZ (.tmp 10) rfl u10 rfl) ?_
          simp only [Act.put, aS, aC, aZ]
          refine wl rfl (.int .i64 (os.length : Nat)) _ ((by rw [← tdsOf_length 0 os]; exact run_lenT HG4.out.t (.tmp 174) rfl rfl)) ?_
          refine wl rfl (.bool true) _ (run_lssZ (.tmp 173) (.tmp 175) rfl (j : Nat) (os.length : Nat) rfl rfl true (decide_eq_true (by omega))) ?_
          simp only [Act.put, aS, aC, aZ]
          refine wpList_nil ?_
          obtain ⟨_, M, hM1, hM2, hM3⟩ := HG4.out.t
          obtain ⟨vb, hMk, hsl, _⟩ := hM3 j (by rw [tdsOf_length]; exact hj)
          obtain ⟨g2, _, _, hx2_, hc2_⟩ := hM1.ix el35 j (by rw [hM2, tdsOf_length]; exact hj)
          rw [hMk, tdsOf_at 0 os j hj] at hc2_
          rw [tdsOf_at 0 os j hj] at hsl
          have HX : Hid ((∀ w', (Instr.indexAt 35 u10 (.int .i64 (j : Nat))).run Tryd.prog w' = .ok (.pointer (some ⟨g2, j * 7, none⟩)) w') ∧ (∀ W' : World, Below V4.heap.size V4 W' → ∀ i u, (tdC (tdAt 0 os j) vb)[i]? = some u → W'.cell? ⟨g2, j * 7 + i, none⟩ = some u) ∧ SliceIn V4 vb (os.getD j ([], [])).2) := ⟨hx2_, fun W' hb => hc2_ W' (hM1.later hb), hsl.1⟩
          clear hM1 hM2 hM3 hMk hsl hx2_ hc2_
          obtain ⟨bm, hbm⟩ : ∃ x, decide (Mt os ((a : Nat) - 1) (b : Nat) j) = x := ⟨_, rfl⟩
          cases bm with
          | false =>
           have hno : ¬ Mt os ((a : Nat) - 1) (b : Nat) j := of_decide_eq_false hbm
           have HDEC : Hid (decide (((0 : Nat) : Int) = 0 ∧ ((offO os j : Nat) : Int) = ((a : Nat) : Int) - 1 ∧ ((nb (os.getD j ([], [])).2.length : Nat) : Int) = (b : Nat) ∧ false = false) = false) := decide_eq_false (fun h => hno ⟨h.2.1.symm, h.2.2.1.symm⟩)
           go_upto_region 45 with fail
           refine wp_region_held (S := fun X => Below V4.heap.size V4 X) (by kernel_rfl) ?_
           show wpAnyH _ _ _ _ _ 7 (Array.replicate 7 false) _ _
           obtain ⟨X, hX⟩ : ∃ X : World, X = { V5 with drawn := V5.drawn + 1 } := ⟨_, rfl⟩
           rw [← hX]
           have HS_ : Below V4.heap.size V4 X := (by rw [hX]; exact HI5.out.1.trans ((Below.refl V4.heap.size V5).trans ⟨rfl, rfl, rfl, Nat.le_refl _, fun _ _ => rfl⟩))
           have HXX : Hid (Below V4.heap.size V4 X) := HS_
           clear hX
           refine tH 0 179 rfl rfl (gRun rfl u10 fun _ h => run_mvZ (.tmp 10) rfl u10 rfl) HS_ ?_
           refine tH 1 180 rfl rfl (gRun rfl (.int .i64 (j : Nat)) fun _ h => run_mvZ (.tmp 30) rfl (.int .i64 (j : Nat)) rfl) HS_ ?_
           simp only [Act.put, aS, aC, aZ]
           refine tH 2 181 rfl rfl (gRun rfl (.pointer (some ⟨g2, j * 7, none⟩)) fun _ h => run_idx (.tmp 179) (.tmp 180) rfl _ _ _ rfl rfl HX.out.1) HS_ ?_
           refine tH 3 182 rfl rfl (gRun rfl (.pointer (some ⟨g2, j * 7 + 2, none⟩)) fun _ h => run_fieldOp' f48_2 (.tmp 181) rfl g2 (j * 7) rfl) HS_ ?_
           simp only [Act.put, aS, aC, aZ]
           refine tH 4 183 rfl rfl (gRun rfl (.agg ((plC ((0 : Nat) : Int) (offO os j : Nat) (nb (os.getD j ([], [])).2.length : Nat) false)).toArray) fun _ h => run_loadA ag40 (.tmp 182) rfl g2 (j * 7 + 2) rfl ((plC ((0 : Nat) : Int) (offO os j : Nat) (nb (os.getD j ([], [])).2.length : Nat) false)) rfl (fun i u hu => by rw [Nat.add_assoc]; exact HX.out.2.1 _ h (2 + i) u (tdC_pl (tdAt 0 os j) vb i u hu))) HS_ ?_
           refine tH 5 184 rfl rfl (gRun rfl (.agg ((plC 0 ((a : Nat) - 1) (b : Nat) false)).toArray) fun _ h => run_loadA ag40 (.tmp 25) rfl q25 (0) rfl ((plC 0 ((a : Nat) - 1) (b : Nat) false)) rfl (rows_one (HQ4.out.later h HQ4.out.lt))) HS_ ?_
           simp only [Act.put, aS, aC, aZ]
           refine tH 6 185 rfl rfl (gRun rfl (.bool false) fun _ h => run_eqPl (.tmp 183) (.tmp 184) rfl _ _ _ _ _ _ _ _ rfl rfl false HDEC.out) HS_ ?_
           simp only [Act.put, aS, aC, aZ]
           refine wpAnyH_done (by kernel_rfl) ?_ _
           go_upto_region 44 with fail
           refine wp_region_lit ?_
           refine wl rfl (.int .i64 (j : Nat)) _ (run_mvZ (.tmp 30) rfl (.int .i64 (j : Nat)) rfl) ?_
           refine wl rfl (.int .i64 ((j + 1 : Nat) : Int)) _ (run_addZ (.tmp 177) (.const (.int .i64 1)) rfl (j : Nat) 1 _ rfl rfl (by omega) (by omega) (by omega)) ?_
           simp only [Act.put, aS, aC, aZ]
           refine wl rfl (.int .i64 ((j + 1 : Nat) : Int)) _ (run_asZ (.tmp 178) rfl (.int .i64 ((j + 1 : Nat) : Int)) rfl) ?_
           simp only [Act.put, aS, aC, aZ]
           refine wpList_nil ?_
           go_wp2_with fail
           exact ⟨⟨bo, j + 1, rfl, rfl, by omega, HXX.out, ⟨fun h => (by obtain ⟨i, h1, h2⟩ := HI5.out.2.1 h; exact ⟨i, by omega, h2⟩), fun ⟨i, h1, h2⟩ => HI5.out.2.2 ⟨i, (by rcases Nat.lt_or_ge i j with z | z; exact z; have : i = j := (by omega); subst this; exact absurd h2 hno), h2⟩⟩⟩, by simp [intOf]; omega⟩
          | true =>
           have hyes : Mt os ((a : Nat) - 1) (b : Nat) j := of_decide_eq_true hbm
           have HDEC : Hid (decide (((0 : Nat) : Int) = 0 ∧ ((offO os j : Nat) : Int) = ((a : Nat) : Int) - 1 ∧ ((nb (os.getD j ([], [])).2.length : Nat) : Int) = (b : Nat) ∧ false = false) = true) := decide_eq_true ⟨rfl, hyes.1.symm, hyes.2.symm, rfl⟩
           obtain ⟨rfl, rfl, hsy_⟩ : er = 0 ∧ vi = [97] ∧ SliceIn V4 vy (os.getD j ([], [])).2 := (by
            rcases HR.out with ⟨j0, h1, h2, h3, h4, h5⟩ | ⟨_, h2⟩
            ·have := h2.one hyes h1 hj
             subst this
             exact ⟨h3, h4, h5⟩
            ·exact absurd hyes (h2 j hj))
           have HSY : Hid (SliceIn V4 vy (os.getD j ([], [])).2) := hsy_
           clear hsy_
           go_upto_region 45 with fail
           refine wp_region_held (S := fun X => Below V4.heap.size V4 X) (by kernel_rfl) ?_
           show wpAnyH _ _ _ _ _ 7 (Array.replicate 7 false) _ _
           obtain ⟨X, hX⟩ : ∃ X : World, X = { V5 with drawn := V5.drawn + 1 } := ⟨_, rfl⟩
           rw [← hX]
           have HS_ : Below V4.heap.size V4 X := (by rw [hX]; exact HI5.out.1.trans ((Below.refl V4.heap.size V5).trans ⟨rfl, rfl, rfl, Nat.le_refl _, fun _ _ => rfl⟩))
           have HXX : Hid (Below V4.heap.size V4 X) := HS_
           clear hX
           refine tH 0 179 rfl rfl (gRun rfl u10 fun _ h => run_mvZ (.tmp 10) rfl u10 rfl) HS_ ?_
           refine tH 1 180 rfl rfl (gRun rfl (.int .i64 (j : Nat)) fun _ h => run_mvZ (.tmp 30) rfl (.int .i64 (j : Nat)) rfl) HS_ ?_
           simp only [Act.put, aS, aC, aZ]
           refine tH 2 181 rfl rfl (gRun rfl (.pointer (some ⟨g2, j * 7, none⟩)) fun _ h => run_idx (.tmp 179) (.tmp 180) rfl _ _ _ rfl rfl HX.out.1) HS_ ?_
           refine tH 3 182 rfl rfl (gRun rfl (.pointer (some ⟨g2, j * 7 + 2, none⟩)) fun _ h => run_fieldOp' f48_2 (.tmp 181) rfl g2 (j * 7) rfl) HS_ ?_
           simp only [Act.put, aS, aC, aZ]
           refine tH 4 183 rfl rfl (gRun rfl (.agg ((plC ((0 : Nat) : Int) (offO os j : Nat) (nb (os.getD j ([], [])).2.length : Nat) false)).toArray) fun _ h => run_loadA ag40 (.tmp 182) rfl g2 (j * 7 + 2) rfl ((plC ((0 : Nat) : Int) (offO os j : Nat) (nb (os.getD j ([], [])).2.length : Nat) false)) rfl (fun i u hu => by rw [Nat.add_assoc]; exact HX.out.2.1 _ h (2 + i) u (tdC_pl (tdAt 0 os j) vb i u hu))) HS_ ?_
           refine tH 5 184 rfl rfl (gRun rfl (.agg ((plC 0 ((a : Nat) - 1) (b : Nat) false)).toArray) fun _ h => run_loadA ag40 (.tmp 25) rfl q25 (0) rfl ((plC 0 ((a : Nat) - 1) (b : Nat) false)) rfl (rows_one (HQ4.out.later h HQ4.out.lt))) HS_ ?_
           simp only [Act.put, aS, aC, aZ]
           refine tH 6 185 rfl rfl (gRun rfl (.bool true) fun _ h => run_eqPl (.tmp 183) (.tmp 184) rfl _ _ _ _ _ _ _ _ rfl rfl true HDEC.out) HS_ ?_
           simp only [Act.put, aS, aC, aZ]
           refine wpAnyH_done (by kernel_rfl) ?_ _
           go_upto_region 46 with fail
           refine wp_region_lit ?_
           refine wl rfl (.bool true) _ (run_asZ (.const (.bool true)) rfl (.bool true) rfl) ?_
           simp only [Act.put, aS, aC, aZ]
           refine wpList_nil ?_
           obtain ⟨V6, hV6⟩ : ∃ Y, Y = X := ⟨_, rfl⟩
           subst hV6
           go_upto_region 47 with fail
           refine wp_region_held (S := fun X => Below V4.heap.size V4 X) (by kernel_rfl) ?_
           show wpAnyH _ _ _ _ _ 17 (Array.replicate 17 false) _ _
           obtain ⟨X, hX⟩ : ∃ X : World, X = { V6 with drawn := V6.drawn + 1 } := ⟨_, rfl⟩
           rw [← hX]
           have HS_ : Below V4.heap.size V4 X := (by rw [hX]; exact HXX.out.trans ((Below.refl V4.heap.size V6).trans ⟨rfl, rfl, rfl, Nat.le_refl _, fun _ _ => rfl⟩))
           have HX9 : Hid (Below V4.heap.size V4 X) := HS_
           clear hX
           refine tH 0 186 rfl rfl (gRun rfl (.int .i64 0) fun _ h => run_mvZ (.tmp 28) rfl (.int .i64 0) rfl) HS_ ?_
           refine tH 1 187 rfl rfl (gRun rfl (.bool false) fun _ h => run_neZ (.tmp 186) (.const (.int .i64 0)) rfl (0) (0) rfl rfl false rfl) HS_ ?_
           simp only [Act.put, aS, aC, aZ]
           refine tH 2 188 rfl rfl (gRun rfl (.bool false) fun _ h => run_mvZ (.tmp 187) rfl (.bool false) rfl) HS_ ?_
           refine tH 3 189 rfl rfl (gRun (by kernel_rfl) (str [97]) fun _ h => run_mvZ (.tmp 26) rfl (str [97]) rfl) HS_ ?_
           simp only [Act.put, aS, aC, aZ]
           refine tH 4 190 rfl rfl (gRun (by kernel_rfl) (.bool false) fun _ h => run_neS (.tmp 189) (.const (.string { data := #[97] })) rfl _ rfl rfl) HS_ ?_
           refine tH 5 191 rfl rfl (gRun rfl (.bool false) fun _ h => run_pickZ (.tmp 188) (.const (.bool true)) (.tmp 190) rfl false (.bool false) rfl rfl) HS_ ?_
           simp only [Act.put, aS, aC, aZ]
           refine tH 6 192 rfl rfl (gRun rfl (.bool false) fun _ h => run_mvZ (.tmp 191) rfl (.bool false) rfl) HS_ ?_
           refine tH 7 193 rfl rfl (gRun (by kernel_rfl) vy fun _ h => run_mvZ (.tmp 27) rfl vy rfl) HS_ ?_
           simp only [Act.put, aS, aC, aZ]
           refine tH 8 194 rfl rfl (gRun (by kernel_rfl) (str (os.getD j ([], [])).2) fun _ h => run_bstr (.tmp 193) rfl vy _ rfl (HSY.out.later h)) HS_ ?_
           refine tH 9 195 rfl rfl (gRun (by kernel_rfl) u10 fun _ h => run_mvZ (.tmp 10) rfl u10 rfl) HS_ ?_
           simp only [Act.put, aS, aC, aZ]
           refine tH 10 196 rfl rfl (gRun (by kernel_rfl) (.int .i64 (j : Nat)) fun _ h => run_mvZ (.tmp 30) rfl (.int .i64 (j : Nat)) rfl) HS_ ?_
           refine tH 11 197 rfl rfl (gRun (by kernel_rfl) (.pointer (some ⟨g2, j * 7, none⟩)) fun _ h => run_idx (.tmp 195) (.tmp 196) rfl _ _ _ rfl rfl HX.out.1) HS_ ?_
           simp only [Act.put, aS, aC, aZ]
           refine tH 12 198 rfl rfl (gRun (by kernel_rfl) (.pointer (some ⟨g2, j * 7 + 1, none⟩)) fun _ h => run_fieldOp' f48_1 (.tmp 197) rfl g2 (j * 7) rfl) HS_ ?_
           refine tH 13 199 rfl rfl (gRun (by kernel_rfl) vb fun _ h => run_load1 o38 (.tmp 198) rfl g2 (j * 7 + 1) rfl vb (HX.out.2.1 _ h 1 _ rfl)) HS_ ?_
           simp only [Act.put, aS, aC, aZ]
           refine tH 14 200 rfl rfl (gRun (by kernel_rfl) (str (os.getD j ([], [])).2) fun _ h => run_bstr (.tmp 199) rfl vb _ rfl (HX.out.2.2.later h)) HS_ ?_
           refine tH 15 201 rfl rfl (gRun (by kernel_rfl) (.bool false) fun _ h => run_neS (.tmp 194) (.tmp 200) rfl _ rfl rfl) HS_ ?_
           simp only [Act.put, aS, aC, aZ]
           refine tH 16 202 rfl rfl (gRun rfl (.bool false) fun _ h => run_pickZ (.tmp 192) (.const (.bool true)) (.tmp 201) rfl false (.bool false) rfl rfl) HS_ ?_
           simp only [Act.put, aS, aC, aZ]
           refine wpAnyH_done (by kernel_rfl) ?_ _
           go_upto_region 44 with fail
           refine wp_region_lit ?_
           refine wl rfl (.int .i64 (j : Nat)) _ (run_mvZ (.tmp 30) rfl (.int .i64 (j : Nat)) rfl) ?_
           refine wl rfl (.int .i64 ((j + 1 : Nat) : Int)) _ (run_addZ (.tmp 177) (.const (.int .i64 1)) rfl (j : Nat) 1 _ rfl rfl (by omega) (by omega) (by omega)) ?_
           simp only [Act.put, aS, aC, aZ]
           refine wl rfl (.int .i64 ((j + 1 : Nat) : Int)) _ (run_asZ (.tmp 178) rfl (.int .i64 ((j + 1 : Nat) : Int)) rfl) ?_
           simp only [Act.put, aS, aC, aZ]
           refine wpList_nil ?_
           go_wp2_with fail
           exact ⟨⟨true, j + 1, rfl, rfl, by omega, HX9.out, ⟨fun _ => ⟨j, by omega, hyes⟩, fun _ => rfl⟩⟩, by simp [intOf]; omega⟩
         ·go_upto_region 43 with fail
          refine wp_region_lit ?_
          refine wl rfl (.int .i64 (j : Nat)) _ (run_mvZ (.tmp 30) rfl (.int .i64 (j : Nat)) rfl) ?_
          refine wl rfl u10 _ (run_mvZ (.tmp 10) rfl u10 rfl) ?_
          simp only [Act.put, aS, aC, aZ]
          refine wl rfl (.int .i64 (os.length : Nat)) _ ((by rw [← tdsOf_length 0 os]; exact run_lenT HG4.out.t (.tmp 174) rfl rfl)) ?_
          refine wl rfl (.bool false) _ (run_lssZ (.tmp 173) (.tmp 175) rfl (j : Nat) (os.length : Nat) rfl rfl false (decide_eq_false (by omega))) ?_
          simp only [Act.put, aS, aC, aZ]
          refine wpList_nil ?_
          have ej : j = os.length := (by omega)
          subst ej
          have HG5 : Hid (Fg w V5 c2 gp gv 120 m2 os (32 * k + 16) u10) := HG4.out.bel HI5.out.1
          cases bo with
          | false =>
           obtain rfl : er = 4 := (by
            rcases HR.out with ⟨j0, h1, h2, _⟩ | ⟨h1, _⟩
            ·have := HI5.out.2.2 ⟨j0, h1, h2⟩; cases this
            ·exact h1)
           go_upto_region 49 with fail
           refine wp_region_lit ?_
           refine wl rfl (.bool false) _ (run_mvZ (.tmp 29) rfl (.bool false) rfl) ?_
           refine wl rfl (.bool true) _ (run_not (.tmp 203) 4 rfl false rfl) ?_
           simp only [Act.put, aS, aC, aZ]
           refine wl rfl (.bool true) _ (run_mvZ (.tmp 204) rfl (.bool true) rfl) ?_
           refine wl (by kernel_rfl) (.int .i64 4) _ (run_mvZ (.tmp 28) rfl (.int .i64 4) rfl) ?_
           simp only [Act.put, aS, aC, aZ]
           refine wl (by kernel_rfl) (.bool false) _ (run_neZ (.tmp 206) (.const (.int .i64 4)) rfl (4) (4) rfl rfl false rfl) ?_
           refine wl rfl (.bool false) _ (run_pickZ (.tmp 205) (.tmp 207) (.const (.bool false)) rfl true (.bool false) rfl rfl) ?_
           simp only [Act.put, aS, aC, aZ]
           refine wpList_nil ?_
           go_upto_region 38 with fail
           refine wp_region_lit ?_
           refine wl rfl (.int .i64 (b : Nat)) _ (run_mvZ (.tmp 24) rfl (.int .i64 (b : Nat)) rfl) ?_
           refine wl rfl (.int .i64 ((b + 1 : Nat) : Int)) _ (run_addZ (.tmp 161) (.const (.int .i64 1)) rfl (b : Nat) 1 _ rfl rfl (by omega) (by omega) (by omega)) ?_
           simp only [Act.put, aS, aC, aZ]
           refine wl rfl (.int .i64 ((b + 1 : Nat) : Int)) _ (run_asZ (.tmp 162) rfl (.int .i64 ((b + 1 : Nat) : Int)) rfl) ?_
           simp only [Act.put, aS, aC, aZ]
           refine wpList_nil ?_
           go_wp2_with fail
           exact ⟨⟨b + 1, rfl, by omega, HG5.out⟩, by simp [intOf]; omega⟩
          | true =>
           go_upto_region 49 with fail
           refine wp_region_lit ?_
           refine wl rfl (.bool true) _ (run_mvZ (.tmp 29) rfl (.bool true) rfl) ?_
           refine wl rfl (.bool false) _ (run_not (.tmp 203) 4 rfl true rfl) ?_
           simp only [Act.put, aS, aC, aZ]
           refine wl rfl (.bool false) _ (run_mvZ (.tmp 204) rfl (.bool false) rfl) ?_
           simp only [Act.put, aS, aC, aZ]
           refine wpList_skip (by kernel_rfl) ?_
           simp only [Act.put, aS, aC, aZ]
           refine wpList_skip (by kernel_rfl) ?_
           simp only [Act.put, aS, aC, aZ]
           refine wl rfl (.bool false) _ (run_pickZ (.tmp 205) (.tmp 207) (.const (.bool false)) rfl false (.bool false) rfl rfl) ?_
           simp only [Act.put, aS, aC, aZ]
           refine wpList_nil ?_
           go_upto_region 38 with fail
           refine wp_region_lit ?_
           refine wl rfl (.int .i64 (b : Nat)) _ (run_mvZ (.tmp 24) rfl (.int .i64 (b : Nat)) rfl) ?_
           refine wl rfl (.int .i64 ((b + 1 : Nat) : Int)) _ (run_addZ (.tmp 161) (.const (.int .i64 1)) rfl (b : Nat) 1 _ rfl rfl (by omega) (by omega) (by omega)) ?_
           simp only [Act.put, aS, aC, aZ]
           refine wl rfl (.int .i64 ((b + 1 : Nat) : Int)) _ (run_asZ (.tmp 162) rfl (.int .i64 ((b + 1 : Nat) : Int)) rfl) ?_
           simp only [Act.put, aS, aC, aZ]
           refine wpList_nil ?_
           go_wp2_with fail
           exact ⟨⟨b + 1, rfl, by omega, HG5.out⟩, by simp [intOf]; omega⟩
       ·go_upto_region 37 with fail
        refine wp_region_lit ?_
        refine wl rfl (.int .i64 (b : Nat)) _ (run_mvZ (.tmp 24) rfl (.int .i64 (b : Nat)) rfl) ?_
        refine wl rfl (.bool false) _ (run_lssZ (.tmp 159) (.const (.int .i64 14)) rfl (b : Nat) 14 rfl rfl false (decide_eq_false (by omega))) ?_
        simp only [Act.put, aS, aC, aZ]
        refine wpList_nil ?_
        go_upto_region 35 with fail
        refine wp_region_lit ?_
        refine wl rfl (.int .i64 ((a : Nat) - 1)) _ (run_mvZ (.tmp 23) rfl (.int .i64 ((a : Nat) - 1)) rfl) ?_
        refine wl rfl (.int .i64 ((a + 1 : Nat) - 1)) _ (run_addZ (.tmp 157) (.const (.int .i64 1)) rfl ((a : Nat) - 1) 1 _ rfl rfl (by omega) (by omega) (by omega)) ?_
        simp only [Act.put, aS, aC, aZ]
        refine wl rfl (.int .i64 ((a + 1 : Nat) - 1)) _ (run_asZ (.tmp 158) rfl (.int .i64 ((a + 1 : Nat) - 1)) rfl) ?_
        simp only [Act.put, aS, aC, aZ]
        refine wpList_nil ?_
        go_wp2_with fail
        exact ⟨⟨a + 1, rfl, by omega, HI4.out⟩, by simp [intOf]; omega⟩
     ·as_aux_lemma =>
      go_upto_region 34 with fail
      refine wp_region_lit ?_
      refine wl rfl (.int .i64 ((a : Nat) - 1)) _ (run_mvZ (.tmp 23) rfl (.int .i64 ((a : Nat) - 1)) rfl) ?_
      refine wl rfl (.int .i64 (n : Nat)) _ (run_mvZ (.tmp 21) rfl (.int .i64 (n : Nat)) rfl) ?_
      simp only [Act.put, aS, aC, aZ]
      refine wl rfl (.bool false) _ (run_leqZ (.tmp 154) (.tmp 155) rfl ((a : Nat) - 1) (n : Nat) rfl rfl false (decide_eq_false (by omega))) ?_
      simp only [Act.put, aS, aC, aZ]
      refine wpList_nil ?_
      go_upto_region 51 with fail
      refine wp_region_lit ?_
      refine wl rfl (ptr gv) _ (run_mvZ (.tmp 8) rfl (ptr gv) rfl) ?_
      simp only [Act.put, aS, aC, aZ]
      refine wpList_callW eN22 [.tmp 209] _ rfl rfl [(ptr gv)] rfl ?_
      refine (vlist_s HI.out.k.v (by have := HI.out.k.k; omega)).mono ?_
      rintro e V6 ⟨vl, rfl, ho_, hb_, _⟩
      refine ⟨_, rfl, ?_⟩
      have HG6 : Hid ((Fg w V6 c2 gp gv 120 m2 os (32 * k + 16) u10) ∧ COwn 40 4 V6 V0.heap.size vl (plcs 0 os)) := ⟨HI.out.bel hb_, ho_⟩
      clear ho_ hb_
      simp only [Act.put, aS, aC, aZ]
      refine wl rfl u10 _ (run_mvZ (.tmp 10) rfl u10 rfl) ?_
      simp only [Act.put, aS, aC, aZ]
      refine wpList_callW eN21 [.tmp 210, .tmp 211] _ rfl rfl [vl, u10] rfl ?_
      refine (same_any HG6.out.2 HG6.out.1.t (by rw [plcs_length, tdsOf_length]) (by rw [tdsOf_length]; omega) (fun i hi => by rw [tdsOf_length] at hi; rw [plcs_at 0 os i hi, tdsOf_at 0 os i hi]; rfl)).mono ?_
      rintro e V7 ⟨rfl, hb_⟩
      refine ⟨_, rfl, ?_⟩
      have HG7 : Hid (Fg w V7 c2 gp gv 120 m2 os (32 * k + 16) u10) := HG6.out.1.bel hb_
      clear hb_
      simp only [Act.put, aS, aC, aZ]
      refine wl rfl (.bool true) _ (run_asZ (.tmp 212) rfl (.bool true) rfl) ?_
      simp only [Act.put, aS, aC, aZ]
      refine wpList_nil ?_
      go_upto_region 52 with fail
      refine wp_region_lit ?_
      refine wl rfl (ptr gv) _ (run_mvZ (.tmp 8) rfl (ptr gv) rfl) ?_
      simp only [Act.put, aS, aC, aZ]
      refine wpList_callW eN20 [.tmp 214] _ rfl rfl [(ptr gv)] rfl ?_
      refine (vroot_s HG7.out.k.v (by have := HG7.out.k.k; omega)).mono ?_
      rintro e V8 ⟨rfl, s_, _⟩
      refine ⟨_, rfl, ?_⟩
      have HB8 : Hid (Below w.heap.size w V8) := (HG7.out.k.f.sq s_).bel
      have HL8 : Hid (Loc V8 V8 []) := Loc.nil (Below.refl _ _)
      clear s_
      simp only [Act.put, aS, aC, aZ]
      refine wl rfl (.tuple #[(av (Zs 32)), (.bool false)]) _ (run_mvZ (.tmp 215) rfl (.tuple #[(av (Zs 32)), (.bool false)]) rfl) ?_
      refine wl rfl (av (Zs 32)) _ (run_extZ (.tmp 213) 0 rfl #[(av (Zs 32)), (.bool false)] rfl (av (Zs 32)) rfl) ?_
      simp only [Act.put, aS, aC, aZ]
      refine wl rfl (.bool false) _ (run_extZ (.tmp 213) 1 rfl #[(av (Zs 32)), (.bool false)] rfl (.bool false) rfl) ?_
      refine wl rfl (ptr V8.heap.size) _ (run_allocA (bcells (Zs 32)) zero52 rfl) ?_
      have k_ := HL8.out.box 52 (bcells (Zs 32))
      obtain ⟨V9, hW_⟩ : ∃ W, W = V8.alloc (.cells (bcells (Zs 32)).toArray 52) := ⟨_, rfl⟩
      obtain ⟨q32, hq_⟩ : ∃ q, q = V8.heap.size := ⟨_, rfl⟩
      rw [← hW_, ← hq_] at k_
      rw [← hW_, ← hq_]
      clear hq_
      have RV9 : Hid (Loc V8 V9 [(q32, 52, bcells (Zs 32))]) := k_
      clear k_ hW_ HL8
      simp only [Act.put, aS, aC, aZ]
      refine wlS rfl rfl _ (run_storeL ag52 (.tmp 32) (.tmp 216) rfl RV9.out 0 rfl (0) rfl (bcells (Zs 32)) rfl (bz 32) (by rw [bz]; decide) (bcells_one _)).1 ?_
      have k_ := RV9.out.lay 0 rfl (0) (bcells (Zs 32))
      rw [splice_zs (n := 32) _ (Zs_length 32)] at k_ ⊢
      obtain ⟨V10, hW_⟩ : ∃ W, W = V9.setRow q32 (bcells (Zs 32)).toArray := ⟨_, rfl⟩
      rw [← hW_] at k_ ⊢
      have RV10 : Hid (Loc V8 V10 [(q32, 52, bcells (Zs 32))]) := k_
      clear k_ hW_ RV9
      refine wl rfl (.bool false) _ (run_asZ (.tmp 217) rfl (.bool false) rfl) ?_
      simp only [Act.put, aS, aC, aZ]
      refine wpList_nil ?_
      go_upto_region 53 with fail
      refine wp_region_lit ?_
      refine wl rfl (.bool true) _ (run_mvZ (.tmp 31) rfl (.bool true) rfl) ?_
      refine wl rfl (.bool true) _ (run_mvZ (.tmp 218) rfl (.bool true) rfl) ?_
      simp only [Act.put, aS, aC, aZ]
      refine wl (by kernel_rfl) (.bool false) _ (run_mvZ (.tmp 33) rfl (.bool false) rfl) ?_
      refine wl (by kernel_rfl) (.bool true) _ (run_not (.tmp 220) 4 rfl false rfl) ?_
      simp only [Act.put, aS, aC, aZ]
      refine wl rfl (.bool true) _ (run_pickZ (.tmp 219) (.tmp 221) (.const (.bool false)) rfl true (.bool true) rfl rfl) ?_
      refine wl rfl (.bool true) _ (run_asZ (.tmp 222) rfl (.bool true) rfl) ?_
      simp only [Act.put, aS, aC, aZ]
      refine wpList_nil ?_
      go_wp2_with fail
      rw [HPQ.out]
      exact ⟨rfl, HB8.out.trans (RV10.out.below.mono HB8.out.size)⟩
   ·go_upto_region 10 with fail
    refine wp_region_lit ?_
    refine wl rfl (.int .i64 (k : Nat)) _ (run_mvZ (.tmp 11) rfl (.int .i64 (k : Nat)) rfl) ?_
    refine wl rfl va _ (run_mvZ (.tmp 0) rfl va rfl) ?_
    simp only [Act.put, aS, aC, aZ]
    refine wl rfl (.int .i64 (A.length : Nat)) _ (run_lenR HM.out.2.2.1 (.tmp 64) rfl rfl) ?_
    refine wl rfl (.bool false) _ (run_lssZ (.tmp 63) (.tmp 65) rfl (k : Nat) (A.length : Nat) rfl rfl false (decide_eq_false (by omega))) ?_
    simp only [Act.put, aS, aC, aZ]
    refine wl rfl (.bool false) _ (run_mvZ (.tmp 66) rfl (.bool false) rfl) ?_
    simp only [Act.put, aS, aC, aZ]
    refine wpList_skip (by kernel_rfl) ?_
    simp only [Act.put, aS, aC, aZ]
    refine wpList_skip (by kernel_rfl) ?_
    simp only [Act.put, aS, aC, aZ]
    refine wl rfl (.bool false) _ (run_pickZ (.tmp 67) (.tmp 69) (.const (.bool false)) rfl false (.bool false) rfl rfl) ?_
    simp only [Act.put, aS, aC, aZ]
    refine wpList_nil ?_
    go_upto_region 29 with fail
    refine wp_region_lit ?_
    refine wl rfl (ptr gv) _ (run_mvZ (.tmp 8) rfl (ptr gv) rfl) ?_
    simp only [Act.put, aS, aC, aZ]
    refine wpList_callW eN16 [.tmp 145] _ rfl rfl [(ptr gv)] rfl ?_
    refine (vflush_s HF0.out.k.v (by have := HF0.out.k.k; omega)).mono ?_
    rintro e Z1 ⟨c2, m2, rfl, s_, v_, o_⟩
    refine ⟨_, rfl, ?_⟩
    have HG1 : Hid (Fg w Z1 c2 gp gv 120 m2 os (32 * k + 16) u10) := HF0.out.no s_ v_ rfl (Or.inr o_)
    clear s_ v_ o_ HF0
    simp only [Act.put, aS, aC, aZ]
    refine wl rfl (.int .i64 0) _ (run_asZ (.tmp 146) rfl (.int .i64 0) rfl) ?_
    simp only [Act.put, aS, aC, aZ]
    refine wpList_nil ?_
    obtain ⟨n, hn⟩ : ∃ n, n = wide os := ⟨_, rfl⟩
    have hn4 : n ≤ 4096 := (by rw [hn]; exact HG1.out.few.2.2)
    have hlen : m2.len 0 = n := (by rw [hn, HG1.out.few.2.1]; exact ctn_len HG1.out.k.v.tape.tv.tape)
    have hhas : m2.has 0 := ⟨by decide, by have := HG1.out.k.v.tape.tv.lt; omega⟩
    go_upto_region 30 with fail
    refine wp_region_lit ?_
    refine wl rfl (ptr gp) _ (run_mvZ (.tmp 6) rfl (ptr gp) rfl) ?_
    simp only [Act.put, aS, aC, aZ]
    refine wpList_callW eN33 [.tmp 148, .const (.int .i64 0)] _ rfl rfl [(ptr gp), (.int .i64 0)] rfl ?_
    refine (HG1.out.k.v.live.len (by have := HG1.out.k.k; omega) 0).mono ?_
    rintro e Z2 ⟨rfl, nn, rfl⟩
    rw [if_pos hhas, if_pos hhas, show (0 : Int).toNat = 0 from rfl, hlen]
    refine ⟨_, rfl, ?_⟩
    obtain ⟨Z2, hZ2⟩ : ∃ X, X = Z1.drewN nn := ⟨_, rfl⟩
    rw [← hZ2]
    have HG : Hid (Fg w Z2 c2 gp gv 120 m2 os (32 * k + 16) u10) := HG1.out.bel (by rw [hZ2]; exact ⟨rfl, rfl, rfl, Nat.le_refl _, fun _ _ => rfl⟩)
    clear hZ2
    simp only [Act.put, aS, aC, aZ]
    refine wl rfl (.tuple #[(.int .i64 (n : Nat)), (.int .i64 0)]) _ (run_mvZ (.tmp 149) rfl (.tuple #[(.int .i64 (n : Nat)), (.int .i64 0)]) rfl) ?_
    refine wl rfl (.int .i64 (n : Nat)) _ (run_extZ (.tmp 147) 0 rfl #[(.int .i64 (n : Nat)), (.int .i64 0)] rfl (.int .i64 (n : Nat)) rfl) ?_
    simp only [Act.put, aS, aC, aZ]
    refine wl rfl (.int .i64 0) _ (run_extZ (.tmp 147) 1 rfl #[(.int .i64 (n : Nat)), (.int .i64 0)] rfl (.int .i64 0) rfl) ?_
    refine wl rfl (.int .i64 (n : Nat)) _ (run_asZ (.tmp 150) rfl (.int .i64 (n : Nat)) rfl) ?_
    simp only [Act.put, aS, aC, aZ]
    refine wl rfl (.int .i64 0) _ (run_asZ (.tmp 151) rfl (.int .i64 0) rfl) ?_
    simp only [Act.put, aS, aC, aZ]
    refine wpList_nil ?_
    go_upto_region 31 with fail
    refine wp_region_lit ?_
    refine wl rfl (.int .i64 0) _ (run_mvZ (.tmp 20) rfl (.int .i64 0) rfl) ?_
    refine wl rfl (.bool false) _ (run_neZ (.tmp 152) (.const (.int .i64 0)) rfl (0) (0) rfl rfl false rfl) ?_
    simp only [Act.put, aS, aC, aZ]
    refine wpList_nil ?_
    go_upto_region 33 with fail
    refine wp_region_lit ?_
    refine wl rfl (.int .i64 (-1)) _ (run_asZ (.const (.int .i64 (-1))) rfl (.int .i64 (-1)) rfl) ?_
    simp only [Act.put, aS, aC, aZ]
    refine wpList_nil ?_
    have hos_ : os.length ≤ 2048 := (by have := HG.out.few.1; omega)
    go_wp2_with fail
    go_loopw [23, 24, 25, 26, 27, 28, 29, 30] (fun va _ _ _ _ _ _ _ W => ∃ a : Nat, va = .int .i64 ((a : Nat) - 1) ∧ a ≤ n + 2 ∧ Hid (Fg w W c2 gp gv 120 m2 os (32 * k + 16) u10)) (fun va _ _ _ _ _ _ _ _ => n + 2 - (intOf va + 1).toNat)
    case atStart => exact ⟨0, rfl, Nat.zero_le _, HG.out⟩
    case round =>
     obtain ⟨a, rfl, ha, HI⟩ := hrel
     obtain ⟨V0, hV0⟩ : ∃ X, X = wr := ⟨_, rfl⟩
     subst hV0
     by_cases hlt : a < n + 2
     ·as_aux_lemma =>
      go_upto_region 34 with fail
      refine wp_region_lit ?_
      refine wl rfl (.int .i64 ((a : Nat) - 1)) _ (run_mvZ (.tmp 23) rfl (.int .i64 ((a : Nat) - 1)) rfl) ?_
      refine wl rfl (.int .i64 (n : Nat)) _ (run_mvZ (.tmp 21) rfl (.int .i64 (n : Nat)) rfl) ?_
      simp only [Act.put, aS, aC, aZ]
      refine wl rfl (.bool true) _ (run_leqZ (.tmp 154) (.tmp 155) rfl ((a : Nat) - 1) (n : Nat) rfl rfl true (decide_eq_true (by omega))) ?_
      simp only [Act.put, aS, aC, aZ]
      refine wpList_nil ?_
      go_upto_region 36 with fail
      refine wp_region_lit ?_
      refine wl rfl (.int .i64 0) _ (run_asZ (.const (.int .i64 0)) rfl (.int .i64 0) rfl) ?_
      simp only [Act.put, aS, aC, aZ]
      refine wpList_nil ?_
      go_wp2_with fail
      go_loopw [24, 25, 26, 27, 28, 29, 30] (fun vk _ _ _ _ _ _ W => ∃ b : Nat, vk = .int .i64 (b : Nat) ∧ b ≤ 14 ∧ Hid (Fg w W c2 gp gv 120 m2 os (32 * k + 16) u10)) (fun vk _ _ _ _ _ _ _ => 14 - (intOf vk).toNat)
      case atStart => exact ⟨0, rfl, Nat.zero_le _, HI.out⟩
      case round =>
       obtain ⟨b, rfl, hb14, HI4⟩ := hrel
       obtain ⟨V1, hV1⟩ : ∃ X, X = wr := ⟨_, rfl⟩
       subst hV1
       by_cases hbl : b < 14
       ·go_upto_region 37 with fail
        refine wp_region_lit ?_
        refine wl rfl (.int .i64 (b : Nat)) _ (run_mvZ (.tmp 24) rfl (.int .i64 (b : Nat)) rfl) ?_
        refine wl rfl (.bool true) _ (run_lssZ (.tmp 159) (.const (.int .i64 14)) rfl (b : Nat) 14 rfl rfl true (decide_eq_true (by omega))) ?_
        simp only [Act.put, aS, aC, aZ]
        refine wpList_nil ?_
        have HL1 : Hid (Loc V1 V1 []) := Loc.nil (Below.refl _ _)
        go_upto_region 39 with fail
        refine wp_region_lit ?_
        refine wl rfl (.int .i64 ((a : Nat) - 1)) _ (run_mvZ (.tmp 23) rfl (.int .i64 ((a : Nat) - 1)) rfl) ?_
        refine wl rfl (.int .i64 (b : Nat)) _ (run_mvZ (.tmp 24) rfl (.int .i64 (b : Nat)) rfl) ?_
        simp only [Act.put, aS, aC, aZ]
        refine wl rfl (.agg (plC 0 ((a : Nat) - 1) (b : Nat) false).toArray) _ (run_build40c (.tmp 163) (.tmp 164) rfl ((a : Nat) - 1) (b : Nat) rfl rfl) ?_
        refine wl rfl (ptr V1.heap.size) _ (run_allocA ((plC 0 0 0 false)) zero40 rfl) ?_
        have k_ := HL1.out.box 40 ((plC 0 0 0 false))
        obtain ⟨V2, hW_⟩ : ∃ W, W = V1.alloc (.cells ((plC 0 0 0 false)).toArray 40) := ⟨_, rfl⟩
        obtain ⟨q25, hq_⟩ : ∃ q, q = V1.heap.size := ⟨_, rfl⟩
        rw [← hW_, ← hq_] at k_
        rw [← hW_, ← hq_]
        clear hq_
        have RV2 : Hid (Loc V1 V2 [(q25, 40, (plC 0 0 0 false))]) := k_
        clear k_ hW_ HL1
        simp only [Act.put, aS, aC, aZ]
        refine wlS rfl rfl _ (run_storeL ag40 (.tmp 25) (.tmp 165) rfl RV2.out 0 rfl (0) rfl ((plC 0 ((a : Nat) - 1) (b : Nat) false)) rfl rfl (Nat.le_refl 4) (plC_one _ _ _ _)).1 ?_
        have k_ := RV2.out.lay 0 rfl (0) ((plC 0 ((a : Nat) - 1) (b : Nat) false))
        rw [splice_all (plC 0 0 0 false) (plC 0 ((a : Nat) - 1) (b : Nat) false) rfl] at k_ ⊢
        obtain ⟨V3, hW_⟩ : ∃ W, W = V2.setRow q25 ((plC 0 ((a : Nat) - 1) (b : Nat) false)).toArray := ⟨_, rfl⟩
        rw [← hW_] at k_ ⊢
        have RV3 : Hid (Loc V1 V3 [(q25, 40, (plC 0 ((a : Nat) - 1) (b : Nat) false))]) := k_
        clear k_ hW_ RV2
        refine wpList_nil ?_
        have HG3 : Hid (Fg w V3 c2 gp gv 120 m2 os (32 * k + 16) u10) := HI4.out.bel RV3.out.below
        go_upto_region 40 with fail
        refine wp_region_lit ?_
        refine wl rfl (ptr gv) _ (run_mvZ (.tmp 8) rfl (ptr gv) rfl) ?_
        refine wl rfl (.agg ((plC 0 ((a : Nat) - 1) (b : Nat) false)).toArray) _ (run_loadA ag40 (.tmp 25) rfl q25 (0) rfl ((plC 0 ((a : Nat) - 1) (b : Nat) false)) rfl (rows_all RV3.out 0 rfl)) ?_
        simp only [Act.put, aS, aC, aZ]
        refine wpList_callW eN17 [.tmp 167, .tmp 168] _ rfl rfl [(ptr gv), (.agg (plC 0 ((a : Nat) - 1) (b : Nat) false).toArray)] rfl ?_
        refine (vread_s HG3.out.k.v (by have := HG3.out.k.k; omega) 0 ((a : Nat) - 1) (b : Nat) false ⟨by omega, by omega⟩ ⟨by omega, by omega⟩).mono ?_
        rintro e V4 ⟨hb_, _, hr_⟩
        obtain ⟨vi, vy, er, rfl, hq_⟩ : ∃ (vi : List Nat) (vy : Value) (er : Int), e = .returned (.tuple #[str vi, vy, .int .i64 er]) ∧ ((∃ j0, j0 < os.length ∧ Mt os ((a : Nat) - 1) (b : Nat) j0 ∧ er = 0 ∧ vi = [97] ∧ SliceIn V4 vy (os.getD j0 ([], [])).2) ∨ (er = 4 ∧ ∀ i, i < os.length → ¬ Mt os ((a : Nat) - 1) (b : Nat) i)) := (by
         rcases hr_ with ⟨j0, vy, hj, _, h2, h3, h4, h5, _⟩ | ⟨h4, hno⟩
         ·exact ⟨_, vy, 0, h4, Or.inl ⟨j0, hj, ⟨h2, h3⟩, rfl, HG3.out.n _ (getD_mem os j0 _ hj), h5⟩⟩
         ·exact ⟨_, _, 4, h4, Or.inr ⟨rfl, fun i hi hm => hno i hi ⟨rfl, hm.1, hm.2⟩⟩⟩)
        refine ⟨_, rfl, ?_⟩
        have HR : Hid (((∃ j0, j0 < os.length ∧ Mt os ((a : Nat) - 1) (b : Nat) j0 ∧ er = 0 ∧ vi = [97] ∧ SliceIn V4 vy (os.getD j0 ([], [])).2) ∨ (er = 4 ∧ ∀ i, i < os.length → ¬ Mt os ((a : Nat) - 1) (b : Nat) i))) := hq_
        have HG4 : Hid (Fg w V4 c2 gp gv 120 m2 os (32 * k + 16) u10) := HG3.out.bel hb_
        have HQ4 : Hid (Row V4 q25 40 (plC 0 ((a : Nat) - 1) (b : Nat) false)) := (RV3.out.at 0 rfl).later hb_ (RV3.out.at 0 rfl).lt
        clear hb_ hr_ hq_
        simp only [Act.put, aS, aC, aZ]
        refine wl rfl (.tuple #[(str vi), vy, (.int .i64 er)]) _ (run_mvZ (.tmp 169) rfl (.tuple #[(str vi), vy, (.int .i64 er)]) rfl) ?_
        refine wl rfl (str vi) _ (run_extZ (.tmp 166) 0 rfl #[(str vi), vy, (.int .i64 er)] rfl (str vi) rfl) ?_
        simp only [Act.put, aS, aC, aZ]
        refine wl rfl vy _ (run_extZ (.tmp 166) 1 rfl #[(str vi), vy, (.int .i64 er)] rfl vy rfl) ?_
        refine wl rfl (.int .i64 er) _ (run_extZ (.tmp 166) 2 rfl #[(str vi), vy, (.int .i64 er)] rfl (.int .i64 er) rfl) ?_
        simp only [Act.put, aS, aC, aZ]
        refine wl rfl (str vi) _ (run_asZ (.tmp 170) rfl (str vi) rfl) ?_
        refine wl rfl vy _ (run_asZ (.tmp 171) rfl vy rfl) ?_
        simp only [Act.put, aS, aC, aZ]
        refine wl rfl (.int .i64 er) _ (run_asZ (.tmp 172) rfl (.int .i64 er) rfl) ?_
        simp only [Act.put, aS, aC, aZ]
        refine wpList_nil ?_
        go_upto_region 41 with fail
        refine wp_region_lit ?_
        refine wl rfl (.bool false) _ (run_asZ (.const (.bool false)) rfl (.bool false) rfl) ?_
        simp only [Act.put, aS, aC, aZ]
        refine wpList_nil ?_
        go_upto_region 42 with fail
        refine wp_region_lit ?_
        refine wl rfl (.int .i64 0) _ (run_asZ (.const (.int .i64 0)) rfl (.int .i64 0) rfl) ?_
        simp only [Act.put, aS, aC, aZ]
        refine wpList_nil ?_
        go_wp2_with fail
        go_loopw [29, 30] (fun vb vj W => ∃ (bo : Bool) (j : Nat), vb = .bool bo ∧ vj = .int .i64 (j : Nat) ∧ j ≤ os.length ∧ Hid (Below V4.heap.size V4 W ∧ (bo = true ↔ ∃ i, i < j ∧ Mt os ((a : Nat) - 1) (b : Nat) i))) (fun _ vj _ => os.length - (intOf vj).toNat)
        case atStart => exact ⟨false, 0, rfl, rfl, Nat.zero_le _, Below.refl _ _, ⟨(fun h => by cases h), fun ⟨i, h, _⟩ => absurd h (Nat.not_lt_zero _)⟩⟩
        case round =>
         obtain ⟨bo, j, rfl, rfl, hjl, HI5⟩ := hrel
         obtain ⟨V5, hV5⟩ : ∃ X, X = wr := ⟨_, rfl⟩
         subst hV5
         by_cases hj : j < os.length
         ·go_upto_region 43 with fail
          refine wp_region_lit ?_
          refine wl rfl (.int .i64 (j : Nat)) _ (run_mvZ (.tmp 30) rfl (.int .i64 (j : Nat)) rfl) ?_
          refine wl rfl u10 _ (run_mvZ (.tmp 10) rfl u10 rfl) ?_
          simp only [Act.put, aS, aC, aZ]
          refine wl rfl (.int .i64 (os.length : Nat)) _ ((by rw [← tdsOf_length 0 os]; exact run_lenT HG4.out.t (.tmp 174) rfl rfl)) ?_
          refine wl rfl (.bool true) _ (run_lssZ (.tmp 173) (.tmp 175) rfl (j : Nat) (os.length : Nat) rfl rfl true (decide_eq_true (by omega))) ?_
          simp only [Act.put, aS, aC, aZ]
          refine wpList_nil ?_
          obtain ⟨_, M, hM1, hM2, hM3⟩ := HG4.out.t
          obtain ⟨vb, hMk, hsl, _⟩ := hM3 j (by rw [tdsOf_length]; exact hj)
          obtain ⟨g2, _, _, hx2_, hc2_⟩ := hM1.ix el35 j (by rw [hM2, tdsOf_length]; exact hj)
          rw [hMk, tdsOf_at 0 os j hj] at hc2_
          rw [tdsOf_at 0 os j hj] at hsl
          have HX : Hid ((∀ w', (Instr.indexAt 35 u10 (.int .i64 (j : Nat))).run Tryd.prog w' = .ok (.pointer (some ⟨g2, j * 7, none⟩)) w') ∧ (∀ W' : World, Below V4.heap.size V4 W' → ∀ i u, (tdC (tdAt 0 os j) vb)[i]? = some u → W'.cell? ⟨g2, j * 7 + i, none⟩ = some u) ∧ SliceIn V4 vb (os.getD j ([], [])).2) := ⟨hx2_, fun W' hb => hc2_ W' (hM1.later hb), hsl.1⟩
          clear hM1 hM2 hM3 hMk hsl hx2_ hc2_
          obtain ⟨bm, hbm⟩ : ∃ x, decide (Mt os ((a : Nat) - 1) (b : Nat) j) = x := ⟨_, rfl⟩
          cases bm with
          | false =>
           have hno : ¬ Mt os ((a : Nat) - 1) (b : Nat) j := of_decide_eq_false hbm
           have HDEC : Hid (decide (((0 : Nat) : Int) = 0 ∧ ((offO os j : Nat) : Int) = ((a : Nat) : Int) - 1 ∧ ((nb (os.getD j ([], [])).2.length : Nat) : Int) = (b : Nat) ∧ false = false) = false) := decide_eq_false (fun h => hno ⟨h.2.1.symm, h.2.2.1.symm⟩)
           go_upto_region 45 with fail
           refine wp_region_held (S := fun X => Below V4.heap.size V4 X) (by kernel_rfl) ?_
           show wpAnyH _ _ _ _ _ 7 (Array.replicate 7 false) _ _
           obtain ⟨X, hX⟩ : ∃ X : World, X = { V5 with drawn := V5.drawn + 1 } := ⟨_, rfl⟩
           rw [← hX]
           have HS_ : Below V4.heap.size V4 X := (by rw [hX]; exact HI5.out.1.trans ((Below.refl V4.heap.size V5).trans ⟨rfl, rfl, rfl, Nat.le_refl _, fun _ _ => rfl⟩))
           have HXX : Hid (Below V4.heap.size V4 X) := HS_
           clear hX
           refine tH 0 179 rfl rfl (gRun rfl u10 fun _ h => run_mvZ (.tmp 10) rfl u10 rfl) HS_ ?_
           refine tH 1 180 rfl rfl (gRun rfl (.int .i64 (j : Nat)) fun _ h => run_mvZ (.tmp 30) rfl (.int .i64 (j : Nat)) rfl) HS_ ?_
           simp only [Act.put, aS, aC, aZ]
           refine tH 2 181 rfl rfl (gRun rfl (.pointer (some ⟨g2, j * 7, none⟩)) fun _ h => run_idx (.tmp 179) (.tmp 180) rfl _ _ _ rfl rfl HX.out.1) HS_ ?_
           refine tH 3 182 rfl rfl (gRun rfl (.pointer (some ⟨g2, j * 7 + 2, none⟩)) fun _ h => run_fieldOp' f48_2 (.tmp 181) rfl g2 (j * 7) rfl) HS_ ?_
           simp only [Act.put, aS, aC, aZ]
           refine tH 4 183 rfl rfl (gRun rfl (.agg ((plC ((0 : Nat) : Int) (offO os j : Nat) (nb (os.getD j ([], [])).2.length : Nat) false)).toArray) fun _ h => run_loadA ag40 (.tmp 182) rfl g2 (j * 7 + 2) rfl ((plC ((0 : Nat) : Int) (offO os j : Nat) (nb (os.getD j ([], [])).2.length : Nat) false)) rfl (fun i u hu => by rw [Nat.add_assoc]; exact HX.out.2.1 _ h (2 + i) u (tdC_pl (tdAt 0 os j) vb i u hu))) HS_ ?_
           refine tH 5 184 rfl rfl (gRun rfl (.agg ((plC 0 ((a : Nat) - 1) (b : Nat) false)).toArray) fun _ h => run_loadA ag40 (.tmp 25) rfl q25 (0) rfl ((plC 0 ((a : Nat) - 1) (b : Nat) false)) rfl (rows_one (HQ4.out.later h HQ4.out.lt))) HS_ ?_
           simp only [Act.put, aS, aC, aZ]
           refine tH 6 185 rfl rfl (gRun rfl (.bool false) fun _ h => run_eqPl (.tmp 183) (.tmp 184) rfl _ _ _ _ _ _ _ _ rfl rfl false HDEC.out) HS_ ?_
           simp only [Act.put, aS, aC, aZ]
           refine wpAnyH_done (by kernel_rfl) ?_ _
           go_upto_region 44 with fail
           refine wp_region_lit ?_
           refine wl rfl (.int .i64 (j : Nat)) _ (run_mvZ (.tmp 30) rfl (.int .i64 (j : Nat)) rfl) ?_
           refine wl rfl (.int .i64 ((j + 1 : Nat) : Int)) _ (run_addZ (.tmp 177) (.const (.int .i64 1)) rfl (j : Nat) 1 _ rfl rfl (by omega) (by omega) (by omega)) ?_
           simp only [Act.put, aS, aC, aZ]
           refine wl rfl (.int .i64 ((j + 1 : Nat) : Int)) _ (run_asZ (.tmp 178) rfl (.int .i64 ((j + 1 : Nat) : Int)) rfl) ?_
           simp only [Act.put, aS, aC, aZ]
           refine wpList_nil ?_
           go_wp2_with fail
           exact ⟨⟨bo, j + 1, rfl, rfl, by omega, HXX.out, ⟨fun h => (by obtain ⟨i, h1, h2⟩ := HI5.out.2.1 h; exact ⟨i, by omega, h2⟩), fun ⟨i, h1, h2⟩ => HI5.out.2.2 ⟨i, (by rcases Nat.lt_or_ge i j with z | z; exact z; have : i = j := (by omega); subst this; exact absurd h2 hno), h2⟩⟩⟩, by simp [intOf]; omega⟩
          | true =>
           have hyes : Mt os ((a : Nat) - 1) (b : Nat) j := of_decide_eq_true hbm
           have HDEC : Hid (decide (((0 : Nat) : Int) = 0 ∧ ((offO os j : Nat) : Int) = ((a : Nat) : Int) - 1 ∧ ((nb (os.getD j ([], [])).2.length : Nat) : Int) = (b : Nat) ∧ false = false) = true) := decide_eq_true ⟨rfl, hyes.1.symm, hyes.2.symm, rfl⟩
           obtain ⟨rfl, rfl, hsy_⟩ : er = 0 ∧ vi = [97] ∧ SliceIn V4 vy (os.getD j ([], [])).2 := (by
            rcases HR.out with ⟨j0, h1, h2, h3, h4, h5⟩ | ⟨_, h2⟩
            ·have := h2.one hyes h1 hj
             subst this
             exact ⟨h3, h4, h5⟩
            ·exact absurd hyes (h2 j hj))
           have HSY : Hid (SliceIn V4 vy (os.getD j ([], [])).2) := hsy_
           clear hsy_
           go_upto_region 45 with fail
           refine wp_region_held (S := fun X => Below V4.heap.size V4 X) (by kernel_rfl) ?_
           show wpAnyH _ _ _ _ _ 7 (Array.replicate 7 false) _ _
           obtain ⟨X, hX⟩ : ∃ X : World, X = { V5 with drawn := V5.drawn + 1 } := ⟨_, rfl⟩
           rw [← hX]
           have HS_ : Below V4.heap.size V4 X := (by rw [hX]; exact HI5.out.1.trans ((Below.refl V4.heap.size V5).trans ⟨rfl, rfl, rfl, Nat.le_refl _, fun _ _ => rfl⟩))
           have HXX : Hid (Below V4.heap.size V4 X) := HS_
           clear hX
           refine tH 0 179 rfl rfl (gRun rfl u10 fun _ h => run_mvZ (.tmp 10) rfl u10 rfl) HS_ ?_
           refine tH 1 180 rfl rfl (gRun rfl (.int .i64 (j : Nat)) fun _ h => run_mvZ (.tmp 30) rfl (.int .i64 (j : Nat)) rfl) HS_ ?_
           simp only [Act.put, aS, aC, aZ]
           refine tH 2 181 rfl rfl (gRun rfl (.pointer (some ⟨g2, j * 7, none⟩)) fun _ h => run_idx (.tmp 179) (.tmp 180) rfl _ _ _ rfl rfl HX.out.1) HS_ ?_
           refine tH 3 182 rfl rfl (gRun rfl (.pointer (some ⟨g2, j * 7 + 2, none⟩)) fun _ h => run_fieldOp' f48_2 (.tmp 181) rfl g2 (j * 7) rfl) HS_ ?_
           simp only [Act.put, aS, aC, aZ]
           refine tH 4 183 rfl rfl (gRun rfl (.agg ((plC ((0 : Nat) : Int) (offO os j : Nat) (nb (os.getD j ([], [])).2.length : Nat) false)).toArray) fun _ h => run_loadA ag40 (.tmp 182) rfl g2 (j * 7 + 2) rfl ((plC ((0 : Nat) : Int) (offO os j : Nat) (nb (os.getD j ([], [])).2.length : Nat) false)) rfl (fun i u hu => by rw [Nat.add_assoc]; exact HX.out.2.1 _ h (2 + i) u (tdC_pl (tdAt 0 os j) vb i u hu))) HS_ ?_
           refine tH 5 184 rfl rfl (gRun rfl (.agg ((plC 0 ((a : Nat) - 1) (b : Nat) false)).toArray) fun _ h => run_loadA ag40 (.tmp 25) rfl q25 (0) rfl ((plC 0 ((a : Nat) - 1) (b : Nat) false)) rfl (rows_one (HQ4.out.later h HQ4.out.lt))) HS_ ?_
           simp only [Act.put, aS, aC, aZ]
           refine tH 6 185 rfl rfl (gRun rfl (.bool true) fun _ h => run_eqPl (.tmp 183) (.tmp 184) rfl _ _ _ _ _ _ _ _ rfl rfl true HDEC.out) HS_ ?_
           simp only [Act.put, aS, aC, aZ]
           refine wpAnyH_done (by kernel_rfl) ?_ _
           go_upto_region 46 with fail
           refine wp_region_lit ?_
           refine wl rfl (.bool true) _ (run_asZ (.const (.bool true)) rfl (.bool true) rfl) ?_
           simp only [Act.put, aS, aC, aZ]
           refine wpList_nil ?_
           obtain ⟨V6, hV6⟩ : ∃ Y, Y = X := ⟨_, rfl⟩
           subst hV6
           go_upto_region 47 with fail
           refine wp_region_held (S := fun X => Below V4.heap.size V4 X) (by kernel_rfl) ?_
           show wpAnyH _ _ _ _ _ 17 (Array.replicate 17 false) _ _
           obtain ⟨X, hX⟩ : ∃ X : World, X = { V6 with drawn := V6.drawn + 1 } := ⟨_, rfl⟩
           rw [← hX]
           have HS_ : Below V4.heap.size V4 X := (by rw [hX]; exact HXX.out.trans ((Below.refl V4.heap.size V6).trans ⟨rfl, rfl, rfl, Nat.le_refl _, fun _ _ => rfl⟩))
           have HX9 : Hid (Below V4.heap.size V4 X) := HS_
           clear hX
           refine tH 0 186 rfl rfl (gRun rfl (.int .i64 0) fun _ h => run_mvZ (.tmp 28) rfl (.int .i64 0) rfl) HS_ ?_
           refine tH 1 187 rfl rfl (gRun rfl (.bool false) fun _ h => run_neZ (.tmp 186) (.const (.int .i64 0)) rfl (0) (0) rfl rfl false rfl) HS_ ?_
           simp only [Act.put, aS, aC, aZ]
           refine tH 2 188 rfl rfl (gRun rfl (.bool false) fun _ h => run_mvZ (.tmp 187) rfl (.bool false) rfl) HS_ ?_
           refine tH 3 189 rfl rfl (gRun (by kernel_rfl) (str [97]) fun _ h => run_mvZ (.tmp 26) rfl (str [97]) rfl) HS_ ?_
           simp only [Act.put, aS, aC, aZ]
           refine tH 4 190 rfl rfl (gRun (by kernel_rfl) (.bool false) fun _ h => run_neS (.tmp 189) (.const (.string { data := #[97] })) rfl _ rfl rfl) HS_ ?_
           refine tH 5 191 rfl rfl (gRun rfl (.bool false) fun _ h => run_pickZ (.tmp 188) (.const (.bool true)) (.tmp 190) rfl false (.bool false) rfl rfl) HS_ ?_
           simp only [Act.put, aS, aC, aZ]
           refine tH 6 192 rfl rfl (gRun rfl (.bool false) fun _ h => run_mvZ (.tmp 191) rfl (.bool false) rfl) HS_ ?_
           refine tH 7 193 rfl rfl (gRun (by kernel_rfl) vy fun _ h => run_mvZ (.tmp 27) rfl vy rfl) HS_ ?_
           simp only [Act.put, aS, aC, aZ]
           refine tH 8 194 rfl rfl (gRun (by kernel_rfl) (str (os.getD j ([], [])).2) fun _ h => run_bstr (.tmp 193) rfl vy _ rfl (HSY.out.later h)) HS_ ?_
           refine tH 9 195 rfl rfl (gRun (by kernel_rfl) u10 fun _ h => run_mvZ (.tmp 10) rfl u10 rfl) HS_ ?_
           simp only [Act.put, aS, aC, aZ]
           refine tH 10 196 rfl rfl (gRun (by kernel_rfl) (.int .i64 (j : Nat)) fun _ h => run_mvZ (.tmp 30) rfl (.int .i64 (j : Nat)) rfl) HS_ ?_
           refine tH 11 197 rfl rfl (gRun (by kernel_rfl) (.pointer (some ⟨g2, j * 7, none⟩)) fun _ h => run_idx (.tmp 195) (.tmp 196) rfl _ _ _ rfl rfl HX.out.1) HS_ ?_
           simp only [Act.put, aS, aC, aZ]
           refine tH 12 198 rfl rfl (gRun (by kernel_rfl) (.pointer (some ⟨g2, j * 7 + 1, none⟩)) fun _ h => run_fieldOp' f48_1 (.tmp 197) rfl g2 (j * 7) rfl) HS_ ?_
           refine tH 13 199 rfl rfl (gRun (by kernel_rfl) vb fun _ h => run_load1 o38 (.tmp 198) rfl g2 (j * 7 + 1) rfl vb (HX.out.2.1 _ h 1 _ rfl)) HS_ ?_
           simp only [Act.put, aS, aC, aZ]
           refine tH 14 200 rfl rfl (gRun (by kernel_rfl) (str (os.getD j ([], [])).2) fun _ h => run_bstr (.tmp 199) rfl vb _ rfl (HX.out.2.2.later h)) HS_ ?_
           refine tH 15 201 rfl rfl (gRun (by kernel_rfl) (.bool false) fun _ h => run_neS (.tmp 194) (.tmp 200) rfl _ rfl rfl) HS_ ?_
           simp only [Act.put, aS, aC, aZ]
           refine tH 16 202 rfl rfl (gRun rfl (.bool false) fun _ h => run_pickZ (.tmp 192) (.const (.bool true)) (.tmp 201) rfl false (.bool false) rfl rfl) HS_ ?_
           simp only [Act.put, aS, aC, aZ]
           refine wpAnyH_done (by kernel_rfl) ?_ _
           go_upto_region 44 with fail
           refine wp_region_lit ?_
           refine wl rfl (.int .i64 (j : Nat)) _ (run_mvZ (.tmp 30) rfl (.int .i64 (j : Nat)) rfl) ?_
           refine wl rfl (.int .i64 ((j + 1 : Nat) : Int)) _ (run_addZ (.tmp 177) (.const (.int .i64 1)) rfl (j : Nat) 1 _ rfl rfl (by omega) (by omega) (by omega)) ?_
           simp only [Act.put, aS, aC, aZ]
           refine wl rfl (.int .i64 ((j + 1 : Nat) : Int)) _ (run_asZ (.tmp 178) rfl (.int .i64 ((j + 1 : Nat) : Int)) rfl) ?_
           simp only [Act.put, aS, aC, aZ]
           refine wpList_nil ?_
           go_wp2_with fail
           exact ⟨⟨true, j + 1, rfl, rfl, by omega, HX9.out, ⟨fun _ => ⟨j, by omega, hyes⟩, fun _ => rfl⟩⟩, by simp [intOf]; omega⟩
         ·go_upto_region 43 with fail
          refine wp_region_lit ?_
          refine wl rfl (.int .i64 (j : Nat)) _ (run_mvZ (.tmp 30) rfl (.int .i64 (j : Nat)) rfl) ?_
          refine wl rfl u10 _ (run_mvZ (.tmp 10) rfl u10 rfl) ?_
          simp only [Act.put, aS, aC, aZ]
          refine wl rfl (.int .i64 (os.length : Nat)) _ ((by rw [← tdsOf_length 0 os]; exact run_lenT HG4.out.t (.tmp 174) rfl rfl)) ?_
          refine wl rfl (.bool false) _ (run_lssZ (.tmp 173) (.tmp 175) rfl (j : Nat) (os.length : Nat) rfl rfl false (decide_eq_false (by omega))) ?_
          simp only [Act.put, aS, aC, aZ]
          refine wpList_nil ?_
          have ej : j = os.length := (by omega)
          subst ej
          have HG5 : Hid (Fg w V5 c2 gp gv 120 m2 os (32 * k + 16) u10) := HG4.out.bel HI5.out.1
          cases bo with
          | false =>
           obtain rfl : er = 4 := (by
            rcases HR.out with ⟨j0, h1, h2, _⟩ | ⟨h1, _⟩
            ·have := HI5.out.2.2 ⟨j0, h1, h2⟩; cases this
            ·exact h1)
           go_upto_region 49 with fail
           refine wp_region_lit ?_
           refine wl rfl (.bool false) _ (run_mvZ (.tmp 29) rfl (.bool false) rfl) ?_
           refine wl rfl (.bool true) _ (run_not (.tmp 203) 4 rfl false rfl) ?_
           simp only [Act.put, aS, aC, aZ]
           refine wl rfl (.bool true) _ (run_mvZ (.tmp 204) rfl (.bool true) rfl) ?_
           refine wl (by kernel_rfl) (.int .i64 4) _ (run_mvZ (.tmp 28) rfl (.int .i64 4) rfl) ?_
           simp only [Act.put, aS, aC, aZ]
           refine wl (by kernel_rfl) (.bool false) _ (run_neZ (.tmp 206) (.const (.int .i64 4)) rfl (4) (4) rfl rfl false rfl) ?_
           refine wl rfl (.bool false) _ (run_pickZ (.tmp 205) (.tmp 207) (.const (.bool false)) rfl true (.bool false) rfl rfl) ?_
           simp only [Act.put, aS, aC, aZ]
           refine wpList_nil ?_
           go_upto_region 38 with fail
           refine wp_region_lit ?_
           refine wl rfl (.int .i64 (b : Nat)) _ (run_mvZ (.tmp 24) rfl (.int .i64 (b : Nat)) rfl) ?_
           refine wl rfl (.int .i64 ((b + 1 : Nat) : Int)) _ (run_addZ (.tmp 161) (.const (.int .i64 1)) rfl (b : Nat) 1 _ rfl rfl (by omega) (by omega) (by omega)) ?_
           simp only [Act.put, aS, aC, aZ]
           refine wl rfl (.int .i64 ((b + 1 : Nat) : Int)) _ (run_asZ (.tmp 162) rfl (.int .i64 ((b + 1 : Nat) : Int)) rfl) ?_
           simp only [Act.put, aS, aC, aZ]
           refine wpList_nil ?_
           go_wp2_with fail
           exact ⟨⟨b + 1, rfl, by omega, HG5.out⟩, by simp [intOf]; omega⟩
          | true =>
           go_upto_region 49 with fail
           refine wp_region_lit ?_
           refine wl rfl (.bool true) _ (run_mvZ (.tmp 29) rfl (.bool true) rfl) ?_
           refine wl rfl (.bool false) _ (run_not (.tmp 203) 4 rfl true rfl) ?_
           simp only [Act.put, aS, aC, aZ]
           refine wl rfl (.bool false) _ (run_mvZ (.tmp 204) rfl (.bool false) rfl) ?_
           simp only [Act.put, aS, aC, aZ]
           refine wpList_skip (by kernel_rfl) ?_
           simp only [Act.put, aS, aC, aZ]
           refine wpList_skip (by kernel_rfl) ?_
           simp only [Act.put, aS, aC, aZ]
           refine wl rfl (.bool false) _ (run_pickZ (.tmp 205) (.tmp 207) (.const (.bool false)) rfl false (.bool false) rfl rfl) ?_
           simp only [Act.put, aS, aC, aZ]
           refine wpList_nil ?_
           go_upto_region 38 with fail
           refine wp_region_lit ?_
           refine wl rfl (.int .i64 (b : Nat)) _ (run_mvZ (.tmp 24) rfl (.int .i64 (b : Nat)) rfl) ?_
           refine wl rfl (.int .i64 ((b + 1 : Nat) : Int)) _ (run_addZ (.tmp 161) (.const (.int .i64 1)) rfl (b : Nat) 1 _ rfl rfl (by omega) (by omega) (by omega)) ?_
           simp only [Act.put, aS, aC, aZ]
           refine wl rfl (.int .i64 ((b + 1 : Nat) : Int)) _ (run_asZ (.tmp 162) rfl (.int .i64 ((b + 1 : Nat) : Int)) rfl) ?_
           simp only [Act.put, aS, aC, aZ]
           refine wpList_nil ?_
           go_wp2_with fail
           exact ⟨⟨b + 1, rfl, by omega, HG5.out⟩, by simp [intOf]; omega⟩
       ·go_upto_region 37 with fail
        refine wp_region_lit ?_
        refine wl rfl (.int .i64 (b : Nat)) _ (run_mvZ (.tmp 24) rfl (.int .i64 (b : Nat)) rfl) ?_
        refine wl rfl (.bool false) _ (run_lssZ (.tmp 159) (.const (.int .i64 14)) rfl (b : Nat) 14 rfl rfl false (decide_eq_false (by omega))) ?_
        simp only [Act.put, aS, aC, aZ]
        refine wpList_nil ?_
        go_upto_region 35 with fail
        refine wp_region_lit ?_
        refine wl rfl (.int .i64 ((a : Nat) - 1)) _ (run_mvZ (.tmp 23) rfl (.int .i64 ((a : Nat) - 1)) rfl) ?_
        refine wl rfl (.int .i64 ((a + 1 : Nat) - 1)) _ (run_addZ (.tmp 157) (.const (.int .i64 1)) rfl ((a : Nat) - 1) 1 _ rfl rfl (by omega) (by omega) (by omega)) ?_
        simp only [Act.put, aS, aC, aZ]
        refine wl rfl (.int .i64 ((a + 1 : Nat) - 1)) _ (run_asZ (.tmp 158) rfl (.int .i64 ((a + 1 : Nat) - 1)) rfl) ?_
        simp only [Act.put, aS, aC, aZ]
        refine wpList_nil ?_
        go_wp2_with fail
        exact ⟨⟨a + 1, rfl, by omega, HI4.out⟩, by simp [intOf]; omega⟩
     ·as_aux_lemma =>
      go_upto_region 34 with fail
      refine wp_region_lit ?_
      refine wl rfl (.int .i64 ((a : Nat) - 1)) _ (run_mvZ (.tmp 23) rfl (.int .i64 ((a : Nat) - 1)) rfl) ?_
      refine wl rfl (.int .i64 (n : Nat)) _ (run_mvZ (.tmp 21) rfl (.int .i64 (n : Nat)) rfl) ?_
      simp only [Act.put, aS, aC, aZ]
      refine wl rfl (.bool false) _ (run_leqZ (.tmp 154) (.tmp 155) rfl ((a : Nat) - 1) (n : Nat) rfl rfl false (decide_eq_false (by omega))) ?_
      simp only [Act.put, aS, aC, aZ]
      refine wpList_nil ?_
      go_upto_region 51 with fail
      refine wp_region_lit ?_
      refine wl rfl (ptr gv) _ (run_mvZ (.tmp 8) rfl (ptr gv) rfl) ?_
      simp only [Act.put, aS, aC, aZ]
      refine wpList_callW eN22 [.tmp 209] _ rfl rfl [(ptr gv)] rfl ?_
      refine (vlist_s HI.out.k.v (by have := HI.out.k.k; omega)).mono ?_
      rintro e V6 ⟨vl, rfl, ho_, hb_, _⟩
      refine ⟨_, rfl, ?_⟩
      have HG6 : Hid ((Fg w V6 c2 gp gv 120 m2 os (32 * k + 16) u10) ∧ COwn 40 4 V6 V0.heap.size vl (plcs 0 os)) := ⟨HI.out.bel hb_, ho_⟩
      clear ho_ hb_
      simp only [Act.put, aS, aC, aZ]
      refine wl rfl u10 _ (run_mvZ (.tmp 10) rfl u10 rfl) ?_
      simp only [Act.put, aS, aC, aZ]
      refine wpList_callW eN21 [.tmp 210, .tmp 211] _ rfl rfl [vl, u10] rfl ?_
      refine (same_any HG6.out.2 HG6.out.1.t (by rw [plcs_length, tdsOf_length]) (by rw [tdsOf_length]; omega) (fun i hi => by rw [tdsOf_length] at hi; rw [plcs_at 0 os i hi, tdsOf_at 0 os i hi]; rfl)).mono ?_
      rintro e V7 ⟨rfl, hb_⟩
      refine ⟨_, rfl, ?_⟩
      have HG7 : Hid (Fg w V7 c2 gp gv 120 m2 os (32 * k + 16) u10) := HG6.out.1.bel hb_
      clear hb_
      simp only [Act.put, aS, aC, aZ]
      refine wl rfl (.bool true) _ (run_asZ (.tmp 212) rfl (.bool true) rfl) ?_
      simp only [Act.put, aS, aC, aZ]
      refine wpList_nil ?_
      go_upto_region 52 with fail
      refine wp_region_lit ?_
      refine wl rfl (ptr gv) _ (run_mvZ (.tmp 8) rfl (ptr gv) rfl) ?_
      simp only [Act.put, aS, aC, aZ]
      refine wpList_callW eN20 [.tmp 214] _ rfl rfl [(ptr gv)] rfl ?_
      refine (vroot_s HG7.out.k.v (by have := HG7.out.k.k; omega)).mono ?_
      rintro e V8 ⟨rfl, s_, _⟩
      refine ⟨_, rfl, ?_⟩
      have HB8 : Hid (Below w.heap.size w V8) := (HG7.out.k.f.sq s_).bel
      have HL8 : Hid (Loc V8 V8 []) := Loc.nil (Below.refl _ _)
      clear s_
      simp only [Act.put, aS, aC, aZ]
      refine wl rfl (.tuple #[(av (Zs 32)), (.bool false)]) _ (run_mvZ (.tmp 215) rfl (.tuple #[(av (Zs 32)), (.bool false)]) rfl) ?_
      refine wl rfl (av (Zs 32)) _ (run_extZ (.tmp 213) 0 rfl #[(av (Zs 32)), (.bool false)] rfl (av (Zs 32)) rfl) ?_
      simp only [Act.put, aS, aC, aZ]
      refine wl rfl (.bool false) _ (run_extZ (.tmp 213) 1 rfl #[(av (Zs 32)), (.bool false)] rfl (.bool false) rfl) ?_
      refine wl rfl (ptr V8.heap.size) _ (run_allocA (bcells (Zs 32)) zero52 rfl) ?_
      have k_ := HL8.out.box 52 (bcells (Zs 32))
      obtain ⟨V9, hW_⟩ : ∃ W, W = V8.alloc (.cells (bcells (Zs 32)).toArray 52) := ⟨_, rfl⟩
      obtain ⟨q32, hq_⟩ : ∃ q, q = V8.heap.size := ⟨_, rfl⟩
      rw [← hW_, ← hq_] at k_
      rw [← hW_, ← hq_]
      clear hq_
      have RV9 : Hid (Loc V8 V9 [(q32, 52, bcells (Zs 32))]) := k_
      clear k_ hW_ HL8
      simp only [Act.put, aS, aC, aZ]
      refine wlS rfl rfl _ (run_storeL ag52 (.tmp 32) (.tmp 216) rfl RV9.out 0 rfl (0) rfl (bcells (Zs 32)) rfl (bz 32) (by rw [bz]; decide) (bcells_one _)).1 ?_
      have k_ := RV9.out.lay 0 rfl (0) (bcells (Zs 32))
      rw [splice_zs (n := 32) _ (Zs_length 32)] at k_ ⊢
      obtain ⟨V10, hW_⟩ : ∃ W, W = V9.setRow q32 (bcells (Zs 32)).toArray := ⟨_, rfl⟩
      rw [← hW_] at k_ ⊢
      have RV10 : Hid (Loc V8 V10 [(q32, 52, bcells (Zs 32))]) := k_
      clear k_ hW_ RV9
      refine wl rfl (.bool false) _ (run_asZ (.tmp 217) rfl (.bool false) rfl) ?_
      simp only [Act.put, aS, aC, aZ]
      refine wpList_nil ?_
      go_upto_region 53 with fail
      refine wp_region_lit ?_
      refine wl rfl (.bool true) _ (run_mvZ (.tmp 31) rfl (.bool true) rfl) ?_
      refine wl rfl (.bool true) _ (run_mvZ (.tmp 218) rfl (.bool true) rfl) ?_
      simp only [Act.put, aS, aC, aZ]
      refine wl (by kernel_rfl) (.bool false) _ (run_mvZ (.tmp 33) rfl (.bool false) rfl) ?_
      refine wl (by kernel_rfl) (.bool true) _ (run_not (.tmp 220) 4 rfl false rfl) ?_
      simp only [Act.put, aS, aC, aZ]
      refine wl rfl (.bool true) _ (run_pickZ (.tmp 219) (.tmp 221) (.const (.bool false)) rfl true (.bool true) rfl rfl) ?_
      refine wl rfl (.bool true) _ (run_asZ (.tmp 222) rfl (.bool true) rfl) ?_
      simp only [Act.put, aS, aC, aZ]
      refine wpList_nil ?_
      go_wp2_with fail
      rw [HPQ.out]
      exact ⟨rfl, HB8.out.trans (RV10.out.below.mono HB8.out.size)⟩

end Go.Proofs.YtpkkkkomdblpoaaDoor

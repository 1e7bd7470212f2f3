/- Layer 13: the document's Take, Abort, Add. -/
import Derived.Test.YtcjanjofjnedbaaS12
namespace Go.Proofs.Ytcjanjofjnedbaa
open Go.RowKit Go.Maps Go.MapKept

theorem cut_to {w : World} {v : Value} {l : List En} (h : RRow w v l) (k : Nat) (hk : k < l.length) : ∃ v1 ad c, (∀ w', (Instr.slice 48 v none (some (.int .i64 (k : Nat))) none).run Try.prog w' = .ok v1 w') ∧ v1 = .slice (some ad) (l.take k).length c ∧ ∀ W : World, (∀ q, v.ownBlock = some q → W.heap[q]? = w.heap[q]?) → ∀ j u, (rcells (l.take k))[j]? = some u → W.cell? (ad.add j) = some u := by
  obtain ⟨i, hi3, hsz⟩ := Option.map_eq_some_iff.1 sz52
  have hsize : ∀ w' : World, (sizeOf 52).run Try.prog w' = .ok 2 w' := fun w' => by simp [sizeOf, typeInfo, hi3, hsz]
  have hv : ∃ p cap, v = .slice p l.length cap ∧ l.length ≤ cap := by
    rcases h.2 with ⟨rfl, h0⟩ | ⟨g, cap, cur, rfl, _, _, hc, _⟩
    · omega
    · exact ⟨_, cap, rfl, hc⟩
  obtain ⟨p, cap, rfl, hcap⟩ := hv
  obtain ⟨p', e, hc⟩ := cut_row h 0 k (Nat.zero_le _) (by omega) cap cap (by omega) ⟨p, rfl⟩
  injection e with e
  subst e
  rcases hc with ⟨ad, e2, hc⟩ | ⟨e2, _⟩
  · refine ⟨sliced p 0 k cap 2, ad, cap - 0, fun w' => by rw [run_slice_h _ _ _ _ _ sl48 _ _ (by omega) (by omega), elem48, hsize]; rfl, by rw [e2]; simp, fun W hW j u hu => hc W hW j u (by simpa using hu)⟩
  · rw [e2] at hk; simp at hk
theorem cut_from {w : World} {v : Value} {l : List En} (h : RRow w v l) (k : Nat) (hk : k < l.length) : ∃ v1 ad c, (∀ w', (Instr.slice 48 v (some (.int .i64 ((k + 1 : Nat) : Int))) none none).run Try.prog w' = .ok v1 w') ∧ v1 = .slice (some ad) (l.drop (k + 1)).length c ∧ ∀ W : World, (∀ q, v.ownBlock = some q → W.heap[q]? = w.heap[q]?) → ∀ j u, (rcells (l.drop (k + 1)))[j]? = some u → W.cell? (ad.add j) = some u := by
  obtain ⟨i, hi3, hsz⟩ := Option.map_eq_some_iff.1 sz52
  have hsize : ∀ w' : World, (sizeOf 52).run Try.prog w' = .ok 2 w' := fun w' => by simp [sizeOf, typeInfo, hi3, hsz]
  have hv : ∃ p cap, v = .slice p l.length cap ∧ l.length ≤ cap := by
    rcases h.2 with ⟨rfl, h0⟩ | ⟨g, cap, cur, rfl, _, _, hc, _⟩
    · omega
    · exact ⟨_, cap, rfl, hc⟩
  obtain ⟨p, cap, rfl, hcap⟩ := hv
  obtain ⟨p', e, hc⟩ := cut_row h (k + 1) l.length (by omega) (Nat.le_refl _) cap cap hcap ⟨p, rfl⟩
  injection e with e
  subst e
  rcases hc with ⟨ad, e2, hc⟩ | ⟨e2, _⟩
  · refine ⟨sliced p (k + 1) l.length cap 2, ad, cap - (k + 1), fun w' => by rw [run_slice_l _ _ _ _ _ sl48 _ _ (by omega) (by omega), elem48, hsize]; rfl, by rw [e2]; simp, fun W hW j u hu => hc W hW j u (by simpa using hu)⟩
  · rw [e2] at hk; simp at hk
theorem run_sub48 {w : World} {a : Act} {o : Oper} (x : Operand) (lo hi : Option Operand) (ho : o.op = .slice 48 x lo hi none) (v v' : Value) (hv : ∃ p n c, v = .slice p n c) (hx : a.eval x = v) (l h : Option Value) (hl : lo.map a.eval = l) (hh : hi.map a.eval = h) (hr : ∀ w', (Instr.slice 48 v l h none).run Try.prog w' = .ok v' w') : (execOp a.eval o).run Try.prog w = .ok (.value v') w := by
  subst hl hh
  obtain ⟨p, n, c, rfl⟩ := hv
  simp [execOp, ho, hx, run_sliceAt_slice _ _ _ _ _ _ sl48, hr]
theorem total_app (a b : List En) : total (a ++ b) = total a + total b := by simp [total]
theorem total_cut (l : List En) (k : Nat) : total (l.take k ++ l.drop (k + 1)) ≤ total l := by
  induction l generalizing k with
  | nil => simp
  | cons x m ih =>
    cases k with
    | zero => simp [total]
    | succ k =>
      have h1 := ih k
      have h2 : ∀ l : List En, total (x :: l) = x.bs.length + total l := fun l => by simp [total]
      rw [List.take_succ_cons, List.drop_succ_cons, List.cons_append, h2, h2]
      omega
set_option maxHeartbeats 4000000 in
set_option maxRecDepth 100000 in
theorem rtake_no {w : World} {F : Nat → Prop} {g nx : Nat} {l : List En} (h : RfAt w F g nx l) (p : Int) (hl : ∀ x ∈ l, (x.no : Int) ≠ p) : Calls Try.prog 15 #[ptr g, .int .i64 p] w fun e w' => e = .returned (.tuple #[.slice none 0 0, .int .i64 130]) ∧ w = w' := by
  obtain ⟨v, h1, h2, h3, h4⟩ := h.top
  have HT : Hid (Row w g 50 [.int .i64 (nx : Nat), v] ∧ RRow w v l) := ⟨h1, h2⟩
  have HF : Hid (F g ∧ ∀ k, v.ownBlock = some k → F k) := ⟨h3, h4⟩
  have HR : Hid (RfAt w F g nx l) := h
  have H8 : Hid (l.length ≤ 8) := h.eight
  have HFN : Hid (Calls Try.prog 21 #[ptr g, .int .i64 p] w fun e w' => e = .returned (.int .i64 (-1)) ∧ w = w') := by
    refine (find_any h p).mono ?_
    rintro e w' ⟨⟨k, hk, h5, _⟩ | ⟨_, rfl⟩, rfl⟩
    · exact absurd h5 (hl _ (List.getElem_mem hk))
    · exact ⟨rfl, rfl⟩
  obtain ⟨PQ, hPQ⟩ : ∃ PQ : Ending → World → Prop, PQ = fun (e : Ending) (w' : World) => e = .returned (.tuple #[.slice none 0 0, .int .i64 130]) ∧ w = w' := ⟨_, rfl⟩
  have HPQ : Hid (PQ = fun (e : Ending) (w' : World) => e = .returned (.tuple #[.slice none 0 0, .int .i64 130]) ∧ w = w') := hPQ
  rw [← hPQ]
  clear hPQ h1 h2 h3 h4 h hl
  go_enter Try.func15, Try.ntmps15
  go_upto_region 0 with fail
  refine wp_region_lit ?_
  refine wl rfl (.slice none 0 0) _ (run_asZ (.const (.slice none 0 0)) rfl (.slice none 0 0) rfl) ?_
  simp only [Act.put, List.setIfInBounds_toArray, List.set_cons_succ, List.set_cons_zero]
  refine wl rfl (.int .i64 0) _ (run_asZ (.const (.int .i64 0)) rfl (.int .i64 0) rfl) ?_
  simp only [Act.put, List.setIfInBounds_toArray, List.set_cons_succ, List.set_cons_zero]
  refine wpList_nil ?_
  go_upto_region 1 with fail
  refine wp_region_lit ?_
  refine wl rfl (ptr g) _ (run_mvZ (.tmp 0) rfl (ptr g) rfl) ?_
  simp only [Act.put, List.setIfInBounds_toArray, List.set_cons_succ, List.set_cons_zero]
  refine wl rfl (.int .i64 p) _ (run_mvZ (.tmp 1) rfl (.int .i64 p) rfl) ?_
  simp only [Act.put, List.setIfInBounds_toArray, List.set_cons_succ, List.set_cons_zero]
  refine wpList_callW eN21 [.tmp 9, .tmp 10] _ rfl rfl [(ptr g), (.int .i64 p)] rfl ?_
  refine (HFN.out).mono ?_
  rintro e w1 ⟨rfl, e1⟩
  refine ⟨_, rfl, ?_⟩
  subst e1
  simp only [Act.put, List.setIfInBounds_toArray, List.set_cons_succ, List.set_cons_zero]
  refine wl rfl (.int .i64 (-1)) _ (run_asZ (.tmp 11) rfl (.int .i64 (-1)) rfl) ?_
  simp only [Act.put, List.setIfInBounds_toArray, List.set_cons_succ, List.set_cons_zero]
  refine wpList_nil ?_
  go_upto_region 2 with fail
  refine wp_region_lit ?_
  refine wl rfl (.int .i64 (-1)) _ (run_mvZ (.tmp 6) rfl (.int .i64 (-1)) rfl) ?_
  simp only [Act.put, List.setIfInBounds_toArray, List.set_cons_succ, List.set_cons_zero]
  refine wl rfl (.bool true) _ (run_lssZ (.tmp 12) (.const (.int .i64 0)) rfl (-1) 0 rfl rfl true (by decide)) ?_
  simp only [Act.put, List.setIfInBounds_toArray, List.set_cons_succ, List.set_cons_zero]
  refine wpList_nil ?_
  go_wp2_with fail
  rw [HPQ.out]
  exact ⟨rfl, rfl⟩
theorem cutE_mem {l : List En} (k : Nat) {n : En} (h : n ∈ l.take k ++ l.drop (k + 1)) : n ∈ l := by
  rcases List.mem_append.1 h with h | h
  · exact List.mem_of_mem_take h
  · exact List.mem_of_mem_drop h
theorem cutE_ord {l : List En} (h : l.Pairwise (fun x y => x.no < y.no)) (k : Nat) : (l.take k ++ l.drop (k + 1)).Pairwise (fun x y => x.no < y.no) := by
  rw [← List.eraseIdx_eq_take_drop_succ]
  exact h.sublist (List.eraseIdx_sublist l k)
set_option maxHeartbeats 4000000 in
set_option maxRecDepth 100000 in
theorem rtake_yes {w : World} {F : Nat → Prop} {g nx : Nat} {l : List En} (h : RfAt w F g nx l) (p : Int) (k : Nat) (hk : k < l.length) (hp : (l[k].no : Int) = p) : Calls Try.prog 15 #[ptr g, .int .i64 p] w fun e w' => ∃ F', e = .returned (.tuple #[svV l[k].a, .int .i64 0]) ∧ RfAt w' F' g nx (l.take k ++ l.drop (k + 1)) ∧ Tn F F' w w' ∧ SliceIn w' (svV l[k].a) l[k].bs := by
  obtain ⟨v, h1, h2, h3, h4⟩ := h.top
  have HT : Hid (Row w g 50 [.int .i64 (nx : Nat), v] ∧ RRow w v l) := ⟨h1, h2⟩
  have HF : Hid (F g ∧ ∀ k, v.ownBlock = some k → F k) := ⟨h3, h4⟩
  have HR : Hid (RfAt w F g nx l) := h
  have H8 : Hid (l.length ≤ 8) := h.eight
  have HFN : Hid (Calls Try.prog 21 #[ptr g, .int .i64 p] w fun e w' => e = .returned (.int .i64 (k : Nat)) ∧ w = w') := by
    refine (find_any h p).mono ?_
    rintro e w' ⟨⟨k', hk', h5, rfl⟩ | ⟨h5, _⟩, rfl⟩
    · have e : k' = k := by
        rcases Nat.lt_trichotomy k' k with h6 | h6 | h6
        · have := List.pairwise_iff_getElem.1 h.ord k' k hk' hk h6; omega
        · exact h6
        · have := List.pairwise_iff_getElem.1 h.ord k k' hk hk' h6; omega
      subst e
      exact ⟨rfl, rfl⟩
    · exact absurd hp (h5 _ (List.getElem_mem hk))
  obtain ⟨b, hb, hx1, hx2⟩ := ix_en HT.out.2 k hk
  obtain ⟨vx, hvx⟩ : ∃ u, u = svV l[k].a := ⟨_, rfl⟩
  have HX : Hid ((∀ w', (Instr.indexAt 48 v (.int .i64 (k : Nat))).run Try.prog w' = .ok (.pointer (some ⟨b, k * 2, none⟩)) w') ∧ (∀ W, RRow W v l → W.cell? ⟨b, k * 2 + 1, none⟩ = some vx) ∧ v.ownBlock = some b) := ⟨hx1, fun W hW => by rw [hvx]; exact (hx2 W hW).2, hb⟩
  have HVX : Hid (vx = svV l[k].a) := hvx
  have HOK : Hid (BOwn w 0 vx l[k].bs ∧ (∀ c ∈ l[k].bs, c < 256) ∧ l[k].bs.length ≤ 512 ∧ ∀ q, svB l[k].a = some q → F q) := by
    have h5 := h.own _ (List.getElem_mem hk)
    exact ⟨by rw [hvx]; exact h5.1, h5.2.2.1, h5.2.2.2, h5.2.1⟩
  obtain ⟨PQ, hPQ⟩ : ∃ PQ : Ending → World → Prop, PQ = fun (e : Ending) (w' : World) => ∃ F', e = .returned (.tuple #[svV l[k].a, .int .i64 0]) ∧ RfAt w' F' g nx (l.take k ++ l.drop (k + 1)) ∧ Tn F F' w w' ∧ SliceIn w' (svV l[k].a) l[k].bs := ⟨_, rfl⟩
  have HPQ : Hid (PQ = fun (e : Ending) (w' : World) => ∃ F', e = .returned (.tuple #[svV l[k].a, .int .i64 0]) ∧ RfAt w' F' g nx (l.take k ++ l.drop (k + 1)) ∧ Tn F F' w w' ∧ SliceIn w' (svV l[k].a) l[k].bs) := hPQ
  rw [← hPQ]
  clear hPQ h1 h2 h3 h4 h hb hx1 hx2 hvx hp
  go_enter Try.func15, Try.ntmps15
  go_upto_region 0 with fail
  refine wp_region_lit ?_
  refine wl rfl (.slice none 0 0) _ (run_asZ (.const (.slice none 0 0)) rfl (.slice none 0 0) rfl) ?_
  simp only [Act.put, List.setIfInBounds_toArray, List.set_cons_succ, List.set_cons_zero]
  refine wl rfl (.int .i64 0) _ (run_asZ (.const (.int .i64 0)) rfl (.int .i64 0) rfl) ?_
  simp only [Act.put, List.setIfInBounds_toArray, List.set_cons_succ, List.set_cons_zero]
  refine wpList_nil ?_
  go_upto_region 1 with fail
  refine wp_region_lit ?_
  refine wl rfl (ptr g) _ (run_mvZ (.tmp 0) rfl (ptr g) rfl) ?_
  simp only [Act.put, List.setIfInBounds_toArray, List.set_cons_succ, List.set_cons_zero]
  refine wl rfl (.int .i64 p) _ (run_mvZ (.tmp 1) rfl (.int .i64 p) rfl) ?_
  simp only [Act.put, List.setIfInBounds_toArray, List.set_cons_succ, List.set_cons_zero]
  refine wpList_callW eN21 [.tmp 9, .tmp 10] _ rfl rfl [(ptr g), (.int .i64 p)] rfl ?_
  refine (HFN.out).mono ?_
  rintro e w1 ⟨rfl, e1⟩
  refine ⟨_, rfl, ?_⟩
  subst e1
  simp only [Act.put, List.setIfInBounds_toArray, List.set_cons_succ, List.set_cons_zero]
  refine wl rfl (.int .i64 (k : Nat)) _ (run_asZ (.tmp 11) rfl (.int .i64 (k : Nat)) rfl) ?_
  simp only [Act.put, List.setIfInBounds_toArray, List.set_cons_succ, List.set_cons_zero]
  refine wpList_nil ?_
  go_upto_region 2 with fail
  refine wp_region_lit ?_
  refine wl rfl (.int .i64 (k : Nat)) _ (run_mvZ (.tmp 6) rfl (.int .i64 (k : Nat)) rfl) ?_
  simp only [Act.put, List.setIfInBounds_toArray, List.set_cons_succ, List.set_cons_zero]
  refine wl rfl (.bool false) _ (run_lssZ (.tmp 12) (.const (.int .i64 0)) rfl (k : Nat) 0 rfl rfl false (decide_eq_false (by omega))) ?_
  simp only [Act.put, List.setIfInBounds_toArray, List.set_cons_succ, List.set_cons_zero]
  refine wpList_nil ?_
  go_upto_region 4 with fail
  refine wp_region_lit ?_
  refine wl rfl (ptr g) _ (run_mvZ (.tmp 0) rfl (ptr g) rfl) ?_
  simp only [Act.put, List.setIfInBounds_toArray, List.set_cons_succ, List.set_cons_zero]
  refine wl rfl (ptr g) _ (run_nil (.tmp 14) rfl ⟨g, 0, none⟩ rfl) ?_
  simp only [Act.put, List.setIfInBounds_toArray, List.set_cons_succ, List.set_cons_zero]
  refine wl rfl (.pointer (some ⟨g, 0 + 1, none⟩)) _ (run_fieldOp' f50_1 (.tmp 15) rfl g (0) rfl) ?_
  simp only [Act.put, List.setIfInBounds_toArray, List.set_cons_succ, List.set_cons_zero]
  refine wl rfl v _ (run_load1 o48 (.tmp 16) rfl g (0 + 1) rfl v (HT.out.1.at 1 _ rfl)) ?_
  simp only [Act.put, List.setIfInBounds_toArray, List.set_cons_succ, List.set_cons_zero]
  refine wl rfl (.int .i64 (k : Nat)) _ (run_mvZ (.tmp 6) rfl (.int .i64 (k : Nat)) rfl) ?_
  simp only [Act.put, List.setIfInBounds_toArray, List.set_cons_succ, List.set_cons_zero]
  refine wl rfl (.pointer (some ⟨b, k * 2, none⟩)) _ (run_idx (.tmp 17) (.tmp 18) rfl v _ _ rfl rfl HX.out.1) ?_
  simp only [Act.put, List.setIfInBounds_toArray, List.set_cons_succ, List.set_cons_zero]
  refine wl rfl (.pointer (some ⟨b, k * 2 + 1, none⟩)) _ (run_fieldOp' f52_1 (.tmp 19) rfl b (k * 2) rfl) ?_
  simp only [Act.put, List.setIfInBounds_toArray, List.set_cons_succ, List.set_cons_zero]
  refine wl rfl vx _ (run_load1 o28 (.tmp 20) rfl b (k * 2 + 1) rfl vx (HX.out.2.1 w HT.out.2)) ?_
  simp only [Act.put, List.setIfInBounds_toArray, List.set_cons_succ, List.set_cons_zero]
  refine wl rfl vx _ (run_asZ (.tmp 21) rfl vx rfl) ?_
  simp only [Act.put, List.setIfInBounds_toArray, List.set_cons_succ, List.set_cons_zero]
  refine wpList_nil ?_
  obtain ⟨v1, a1, c1, hs1, hv1, hc1⟩ := cut_to HT.out.2 k hk
  obtain ⟨v2, a2, c2, hs2, hv2, hc2⟩ := cut_from HT.out.2 k hk
  have HS1 : Hid ((∀ w', (Instr.slice 48 v none (some (.int .i64 (k : Nat))) none).run Try.prog w' = .ok v1 w') ∧ v1 = .slice (some a1) (l.take k).length c1 ∧ ∀ W : World, (∀ q, v.ownBlock = some q → W.heap[q]? = w.heap[q]?) → ∀ j u, (rcells (l.take k))[j]? = some u → W.cell? (a1.add j) = some u) := ⟨hs1, hv1, hc1⟩
  have HS2 : Hid ((∀ w', (Instr.slice 48 v (some (.int .i64 ((k + 1 : Nat) : Int))) none none).run Try.prog w' = .ok v2 w') ∧ v2 = .slice (some a2) (l.drop (k + 1)).length c2 ∧ ∀ W : World, (∀ q, v.ownBlock = some q → W.heap[q]? = w.heap[q]?) → ∀ j u, (rcells (l.drop (k + 1)))[j]? = some u → W.cell? (a2.add j) = some u) := ⟨hs2, hv2, hc2⟩
  have HIS : Hid (∃ p n c, v = .slice p n c) := own_isSlice HT.out.2
  clear hs1 hv1 hc1 hs2 hv2 hc2
  go_upto_region 5 with fail
  refine wp_region_lit ?_
  refine wl rfl (.slice (some ⟨w.heap.size, 0, none⟩) 0 0) _ (run_rlit0 rfl) ?_
  have HE0 : Hid (RRow (w.alloc (.cells #[] 52)) (.slice (some ⟨w.heap.size, 0, none⟩) 0 0) [] ∧ Below w.heap.size w (w.alloc (.cells #[] 52)) ∧ ∀ q, (Value.slice (some ⟨w.heap.size, 0, none⟩) 0 0).ownBlock = some q → w.heap.size ≤ q) := ⟨rlit0_row w, below_alloc w _, fun q e => by injection e with e; rw [← e]; exact Nat.le_refl _⟩
  obtain ⟨w3, hW_⟩ : ∃ W, W = w.alloc (.cells #[] 52) := ⟨_, rfl⟩
  obtain ⟨v3, hq_⟩ : ∃ q, q = Value.slice (some ⟨w.heap.size, 0, none⟩) 0 0 := ⟨_, rfl⟩
  rw [← hW_, ← hq_] at HE0
  rw [← hW_, ← hq_]
  clear hW_ hq_
  have HT3 : Hid (Row w3 g 50 [.int .i64 (nx : Nat), v]) := HT.out.1.later HE0.out.2.1 HT.out.1.lt
  simp only [Act.put, List.setIfInBounds_toArray, List.set_cons_succ, List.set_cons_zero]
  refine wl rfl (ptr g) _ (run_mvZ (.tmp 0) rfl (ptr g) rfl) ?_
  simp only [Act.put, List.setIfInBounds_toArray, List.set_cons_succ, List.set_cons_zero]
  refine wl rfl (ptr g) _ (run_nil (.tmp 23) rfl ⟨g, 0, none⟩ rfl) ?_
  simp only [Act.put, List.setIfInBounds_toArray, List.set_cons_succ, List.set_cons_zero]
  refine wl rfl (.pointer (some ⟨g, 0 + 1, none⟩)) _ (run_fieldOp' f50_1 (.tmp 24) rfl g (0) rfl) ?_
  simp only [Act.put, List.setIfInBounds_toArray, List.set_cons_succ, List.set_cons_zero]
  refine wl rfl v _ (run_load1 o48 (.tmp 25) rfl g (0 + 1) rfl v (HT3.out.at 1 _ rfl)) ?_
  simp only [Act.put, List.setIfInBounds_toArray, List.set_cons_succ, List.set_cons_zero]
  refine wl rfl (.int .i64 (k : Nat)) _ (run_mvZ (.tmp 6) rfl (.int .i64 (k : Nat)) rfl) ?_
  simp only [Act.put, List.setIfInBounds_toArray, List.set_cons_succ, List.set_cons_zero]
  refine wl rfl v1 _ (run_sub48 (.tmp 26) none (some (.tmp 27)) rfl v v1 HIS.out rfl none (some (.int .i64 (k : Nat))) rfl rfl HS1.out.1) ?_
  simp only [Act.put, List.setIfInBounds_toArray, List.set_cons_succ, List.set_cons_zero]
  obtain ⟨v4, w4, hr4, ho4, hg4, hat4⟩ := run_rapp (Oper.type _) v3 [] (l.take k) HE0.out.1 v1 a1 c1 HS1.out.2.1 (HS1.out.2.2 w3 fun q e => HE0.out.2.1.block q (HT.out.2.lt q e).2) (by have := H8.out; simp; omega)
  refine wl rfl v4 w4 (run_append (.tmp 22) (.tmp 28) rfl v3 v1 v4 rfl rfl hr4) ?_
  have HE4 : Hid (RRow w4 v4 (l.take k) ∧ Below w.heap.size w w4 ∧ ∀ q, v4.ownBlock = some q → w.heap.size ≤ q) := ⟨ho4, HE0.out.2.1.grown hg4 HE0.out.2.1.size HE0.out.2.2, fun q e => hat4.elim (fun h => HE0.out.2.2 q (by rw [← h]; exact e)) fun h => by rw [h] at e; injection e with e; rw [← e]; exact HE0.out.2.1.size⟩
  clear hr4 ho4 hg4 hat4 HE0 HT3
  have HT4 : Hid (Row w4 g 50 [.int .i64 (nx : Nat), v]) := HT.out.1.later HE4.out.2.1 HT.out.1.lt
  simp only [Act.put, List.setIfInBounds_toArray, List.set_cons_succ, List.set_cons_zero]
  refine wl rfl v4 _ (run_asZ (.tmp 29) rfl v4 rfl) ?_
  simp only [Act.put, List.setIfInBounds_toArray, List.set_cons_succ, List.set_cons_zero]
  refine wpList_nil ?_
  go_upto_region 6 with fail
  refine wp_region_lit ?_
  refine wl rfl (ptr g) _ (run_mvZ (.tmp 0) rfl (ptr g) rfl) ?_
  simp only [Act.put, List.setIfInBounds_toArray, List.set_cons_succ, List.set_cons_zero]
  refine wl rfl v4 _ (run_mvZ (.tmp 8) rfl v4 rfl) ?_
  simp only [Act.put, List.setIfInBounds_toArray, List.set_cons_succ, List.set_cons_zero]
  refine wl rfl (ptr g) _ (run_mvZ (.tmp 0) rfl (ptr g) rfl) ?_
  simp only [Act.put, List.setIfInBounds_toArray, List.set_cons_succ, List.set_cons_zero]
  refine wl rfl (ptr g) _ (run_nil (.tmp 32) rfl ⟨g, 0, none⟩ rfl) ?_
  simp only [Act.put, List.setIfInBounds_toArray, List.set_cons_succ, List.set_cons_zero]
  refine wl rfl (.pointer (some ⟨g, 0 + 1, none⟩)) _ (run_fieldOp' f50_1 (.tmp 33) rfl g (0) rfl) ?_
  simp only [Act.put, List.setIfInBounds_toArray, List.set_cons_succ, List.set_cons_zero]
  refine wl rfl v _ (run_load1 o48 (.tmp 34) rfl g (0 + 1) rfl v (HT4.out.at 1 _ rfl)) ?_
  simp only [Act.put, List.setIfInBounds_toArray, List.set_cons_succ, List.set_cons_zero]
  refine wl rfl (.int .i64 (k : Nat)) _ (run_mvZ (.tmp 6) rfl (.int .i64 (k : Nat)) rfl) ?_
  simp only [Act.put, List.setIfInBounds_toArray, List.set_cons_succ, List.set_cons_zero]
  refine wl rfl (.int .i64 ((k + 1 : Nat) : Int)) _ (run_addI (.tmp 36) (.const (.int .i64 1)) rfl (k : Nat) 1 ((k + 1 : Nat) : Int) (by omega) (by have := H8.out; omega) (by omega) rfl rfl) ?_
  simp only [Act.put, List.setIfInBounds_toArray, List.set_cons_succ, List.set_cons_zero]
  refine wl rfl v2 _ (run_sub48 (.tmp 35) (some (.tmp 37)) none rfl v v2 HIS.out rfl (some (.int .i64 ((k + 1 : Nat) : Int))) none rfl rfl HS2.out.1) ?_
  simp only [Act.put, List.setIfInBounds_toArray, List.set_cons_succ, List.set_cons_zero]
  obtain ⟨v5, w5, hr5, ho5, hg5, hat5⟩ := run_rapp (Oper.type _) v4 (l.take k) (l.drop (k + 1)) HE4.out.1 v2 a2 c2 HS2.out.2.1 (HS2.out.2.2 w4 fun q e => HE4.out.2.1.block q (HT.out.2.lt q e).2) (by have := H8.out; simp; omega)
  refine wl rfl v5 w5 (run_append (.tmp 31) (.tmp 38) rfl v4 v2 v5 rfl rfl hr5) ?_
  have HE5 : Hid (RRow w5 v5 (l.take k ++ l.drop (k + 1)) ∧ Below w.heap.size w w5 ∧ ∀ q, v5.ownBlock = some q → w.heap.size ≤ q) := ⟨ho5, HE4.out.2.1.grown hg5 HE4.out.2.1.size HE4.out.2.2, fun q e => hat5.elim (fun h => HE4.out.2.2 q (by rw [← h]; exact e)) fun h => by rw [h] at e; injection e with e; rw [← e]; exact HE4.out.2.1.size⟩
  clear hr5 ho5 hg5 hat5 HE4 HT4
  have HT5 : Hid (Row w5 g 50 [.int .i64 (nx : Nat), v]) := HT.out.1.later HE5.out.2.1 HT.out.1.lt
  simp only [Act.put, List.setIfInBounds_toArray, List.set_cons_succ, List.set_cons_zero]
  refine wl rfl (ptr g) _ (run_nil (.tmp 30) rfl ⟨g, 0, none⟩ rfl) ?_
  simp only [Act.put, List.setIfInBounds_toArray, List.set_cons_succ, List.set_cons_zero]
  refine wl rfl (.pointer (some ⟨g, 0 + 1, none⟩)) _ (run_fieldOp' f50_1 (.tmp 40) rfl g (0) rfl) ?_
  simp only [Act.put, List.setIfInBounds_toArray, List.set_cons_succ, List.set_cons_zero]
  refine wlS rfl rfl _ (run_putRow sz48 (.tmp 41) (.tmp 39) rfl g (0 + 1) 50 [.int .i64 (nx : Nat), v] rfl v5 rfl (own_cells HE5.out.1) HT5.out (by simp)) ?_
  have HT6 : Hid (Row (w5.setCell ⟨g, 0 + 1, none⟩ v5) g 50 [.int .i64 (nx : Nat), v5]) := Row.setCell HT5.out 1 v5
  obtain ⟨w6, hW_⟩ : ∃ W, W = w5.setCell ⟨g, 0 + 1, none⟩ v5 := ⟨_, rfl⟩
  have HW6 : Hid (w6 = w5.setCell ⟨g, 0 + 1, none⟩ v5) := hW_
  rw [← hW_] at HT6
  rw [← hW_]
  clear hW_
  refine wpList_nil ?_
  have HCH : Hid (Ch (fun q => q = g ∨ v.ownBlock = some q) w w6 ∧ RRow w6 v5 (l.take k ++ l.drop (k + 1)) ∧ ∀ q, v5.ownBlock = some q → Nw F w w6 q) := by
    refine ⟨by rw [HW6.out]; exact (Ch.of_below HE5.out.2.1).setCell (Or.inl (Or.inl rfl)) _ _, ?_, fun q e => Or.inr ⟨HE5.out.2.2 q e, ?_⟩⟩
    · refine ownK HE5.out.1 fun q e => ?_
      rw [HW6.out, Below.heap_setCell w5 _ _ q (fun e2 : q = g => HE5.out.1.neG HT5.out (by decide) (e2 ▸ e))]
    · have h6 := (HE5.out.1.lt q e).2
      rw [HW6.out]
      simpa using h6
  have HST : Hid _ := HR.out.step (l' := l.take k ++ l.drop (k + 1)) HT.out.1 HT.out.2 HCH.out.1 HT6.out HCH.out.2.1 HCH.out.2.2 (fun x hx => Or.inl (cutE_mem k hx)) (cutE_ord HR.out.ord k) (fun x hx => HR.out.lt x (cutE_mem k hx)) (by have := H8.out; simp; omega) (Nat.le_trans (total_cut l k) HR.out.all)
  have HSV : Hid (SliceIn w6 vx l[k].bs) := by
    have h7 := HR.out.olds HT.out.1 HT.out.2 HCH.out.1 _ (List.getElem_mem hk)
    show SliceIn w6 vx l[k].bs
    rw [HVX.out]
    exact h7.slice HOK.out.2.1 (by have := HOK.out.2.2.1; omega)
  go_wp2_with fail
  rw [HPQ.out]
  exact ⟨_, by rw [HVX.out]; rfl, HST.out.1, HST.out.2, by rw [← HVX.out]; exact HSV.out⟩
set_option maxHeartbeats 4000000 in
set_option maxRecDepth 100000 in
theorem rabort_no {w : World} {F : Nat → Prop} {g nx : Nat} {l : List En} (h : RfAt w F g nx l) (p : Int) (hl : ∀ x ∈ l, (x.no : Int) ≠ p) : Calls Try.prog 17 #[ptr g, .int .i64 p] w fun e w' => e = .returned (.int .i64 130) ∧ w = w' := by
  have HH : Hid (RfAt w F g nx l) := h
  have HL : Hid (∀ x ∈ l, (x.no : Int) ≠ p) := hl
  obtain ⟨PQ, hPQ⟩ : ∃ PQ : Ending → World → Prop, PQ = fun (e : Ending) (w' : World) => e = .returned (.int .i64 130) ∧ w = w' := ⟨_, rfl⟩
  have HPQ : Hid (PQ = fun (e : Ending) (w' : World) => e = .returned (.int .i64 130) ∧ w = w') := hPQ
  rw [← hPQ]
  clear hPQ h hl
  go_enter Try.func17, Try.ntmps17
  go_upto_region 0 with fail
  refine wp_region_lit ?_
  refine wl rfl (.int .i64 0) _ (run_asZ (.const (.int .i64 0)) rfl (.int .i64 0) rfl) ?_
  simp only [Act.put, List.setIfInBounds_toArray, List.set_cons_succ, List.set_cons_zero]
  refine wpList_nil ?_
  go_upto_region 1 with fail
  refine wp_region_lit ?_
  refine wl rfl (ptr g) _ (run_mvZ (.tmp 0) rfl (ptr g) rfl) ?_
  simp only [Act.put, List.setIfInBounds_toArray, List.set_cons_succ, List.set_cons_zero]
  refine wl rfl (.int .i64 p) _ (run_mvZ (.tmp 1) rfl (.int .i64 p) rfl) ?_
  simp only [Act.put, List.setIfInBounds_toArray, List.set_cons_succ, List.set_cons_zero]
  refine wpList_callW eN15 [.tmp 8, .tmp 9] _ rfl rfl [(ptr g), (.int .i64 p)] rfl ?_
  refine (rtake_no HH.out p HL.out).mono ?_
  rintro e w1 ⟨rfl, e1⟩
  refine ⟨_, rfl, ?_⟩
  subst e1
  simp only [Act.put, List.setIfInBounds_toArray, List.set_cons_succ, List.set_cons_zero]
  refine wl rfl (.tuple #[.slice none 0 0, .int .i64 130]) _ (run_mvZ (.tmp 10) rfl (.tuple #[.slice none 0 0, .int .i64 130]) rfl) ?_
  simp only [Act.put, List.setIfInBounds_toArray, List.set_cons_succ, List.set_cons_zero]
  refine wl rfl (.slice none 0 0) _ (run_extZ (.tmp 7) 0 rfl #[(.slice none 0 0), (.int .i64 130)] rfl (.slice none 0 0) rfl) ?_
  simp only [Act.put, List.setIfInBounds_toArray, List.set_cons_succ, List.set_cons_zero]
  refine wl rfl (.int .i64 130) _ (run_extZ (.tmp 7) 1 rfl #[(.slice none 0 0), (.int .i64 130)] rfl (.int .i64 130) rfl) ?_
  simp only [Act.put, List.setIfInBounds_toArray, List.set_cons_succ, List.set_cons_zero]
  refine wl rfl (.slice none 0 0) _ (run_asZ (.tmp 11) rfl (.slice none 0 0) rfl) ?_
  simp only [Act.put, List.setIfInBounds_toArray, List.set_cons_succ, List.set_cons_zero]
  refine wl rfl (.int .i64 130) _ (run_asZ (.tmp 12) rfl (.int .i64 130) rfl) ?_
  simp only [Act.put, List.setIfInBounds_toArray, List.set_cons_succ, List.set_cons_zero]
  refine wpList_nil ?_
  go_wp2_with fail
  rw [HPQ.out]
  exact ⟨rfl, rfl⟩
set_option maxHeartbeats 4000000 in
set_option maxRecDepth 100000 in
theorem rabort_yes {w : World} {F : Nat → Prop} {g nx : Nat} {l : List En} (h : RfAt w F g nx l) (p : Int) (k : Nat) (hk : k < l.length) (hl : (l[k].no : Int) = p) : Calls Try.prog 17 #[ptr g, .int .i64 p] w fun e w' => ∃ F', e = .returned (.int .i64 0) ∧ RfAt w' F' g nx (l.take k ++ l.drop (k + 1)) ∧ Tn F F' w w' := by
  have HH : Hid (RfAt w F g nx l) := h
  have HL : Hid ((l[k].no : Int) = p) := hl
  obtain ⟨PQ, hPQ⟩ : ∃ PQ : Ending → World → Prop, PQ = fun (e : Ending) (w' : World) => ∃ F', e = .returned (.int .i64 0) ∧ RfAt w' F' g nx (l.take k ++ l.drop (k + 1)) ∧ Tn F F' w w' := ⟨_, rfl⟩
  have HPQ : Hid (PQ = fun (e : Ending) (w' : World) => ∃ F', e = .returned (.int .i64 0) ∧ RfAt w' F' g nx (l.take k ++ l.drop (k + 1)) ∧ Tn F F' w w') := hPQ
  rw [← hPQ]
  clear hPQ h hl
  go_enter Try.func17, Try.ntmps17
  go_upto_region 0 with fail
  refine wp_region_lit ?_
  refine wl rfl (.int .i64 0) _ (run_asZ (.const (.int .i64 0)) rfl (.int .i64 0) rfl) ?_
  simp only [Act.put, List.setIfInBounds_toArray, List.set_cons_succ, List.set_cons_zero]
  refine wpList_nil ?_
  go_upto_region 1 with fail
  refine wp_region_lit ?_
  refine wl rfl (ptr g) _ (run_mvZ (.tmp 0) rfl (ptr g) rfl) ?_
  simp only [Act.put, List.setIfInBounds_toArray, List.set_cons_succ, List.set_cons_zero]
  refine wl rfl (.int .i64 p) _ (run_mvZ (.tmp 1) rfl (.int .i64 p) rfl) ?_
  simp only [Act.put, List.setIfInBounds_toArray, List.set_cons_succ, List.set_cons_zero]
  refine wpList_callW eN15 [.tmp 8, .tmp 9] _ rfl rfl [(ptr g), (.int .i64 p)] rfl ?_
  refine (rtake_yes HH.out p k hk HL.out).mono ?_
  rintro e w1 ⟨F1, rfl, s1, t1, o1⟩
  refine ⟨_, rfl, ?_⟩
  have HE : Hid (RfAt w1 F1 g nx (l.take k ++ l.drop (k + 1)) ∧ Tn F F1 w w1) := ⟨s1, t1⟩
  clear s1 t1 o1
  simp only [Act.put, List.setIfInBounds_toArray, List.set_cons_succ, List.set_cons_zero]
  refine wl rfl (.tuple #[svV l[k].a, .int .i64 0]) _ (run_mvZ (.tmp 10) rfl (.tuple #[svV l[k].a, .int .i64 0]) rfl) ?_
  simp only [Act.put, List.setIfInBounds_toArray, List.set_cons_succ, List.set_cons_zero]
  refine wl rfl (svV l[k].a) _ (run_extZ (.tmp 7) 0 rfl #[(svV l[k].a), (.int .i64 0)] rfl (svV l[k].a) rfl) ?_
  simp only [Act.put, List.setIfInBounds_toArray, List.set_cons_succ, List.set_cons_zero]
  refine wl rfl (.int .i64 0) _ (run_extZ (.tmp 7) 1 rfl #[(svV l[k].a), (.int .i64 0)] rfl (.int .i64 0) rfl) ?_
  simp only [Act.put, List.setIfInBounds_toArray, List.set_cons_succ, List.set_cons_zero]
  refine wl rfl (svV l[k].a) _ (run_asZ (.tmp 11) rfl (svV l[k].a) rfl) ?_
  simp only [Act.put, List.setIfInBounds_toArray, List.set_cons_succ, List.set_cons_zero]
  refine wl rfl (.int .i64 0) _ (run_asZ (.tmp 12) rfl (.int .i64 0) rfl) ?_
  simp only [Act.put, List.setIfInBounds_toArray, List.set_cons_succ, List.set_cons_zero]
  refine wpList_nil ?_
  go_wp2_with fail
  rw [HPQ.out]
  exact ⟨F1, rfl, HE.out.1, HE.out.2⟩
set_option maxHeartbeats 4000000 in
set_option maxRecDepth 100000 in
theorem radd_no {w : World} {F : Nat → Prop} {g nx : Nat} {l : List En} (h : RfAt w F g nx l) (p : Int) (hl : ∀ x ∈ l, (x.no : Int) ≠ p) (vb : Value) (cs : List Nat) : Calls Try.prog 13 #[ptr g, .int .i64 p, vb] w fun e w' => ∃ F' l', e = .returned (.int .i64 (addP (ssOf l) p cs).1) ∧ RfAt w' F' g nx l' ∧ ssOf l' = (addP (ssOf l) p cs).2 ∧ Tn F F' w w' := by
  obtain ⟨v, h1, h2, h3, h4⟩ := h.top
  have HT : Hid (Row w g 50 [.int .i64 (nx : Nat), v] ∧ RRow w v l) := ⟨h1, h2⟩
  have HF : Hid (F g ∧ ∀ k, v.ownBlock = some k → F k) := ⟨h3, h4⟩
  have HR : Hid (RfAt w F g nx l) := h
  have H8 : Hid (l.length ≤ 8) := h.eight
  have HFN : Hid (Calls Try.prog 21 #[ptr g, .int .i64 p] w fun e w' => e = .returned (.int .i64 (-1)) ∧ w = w') := by
    refine (find_any h p).mono ?_
    rintro e w' ⟨⟨k, hk, h5, _⟩ | ⟨_, rfl⟩, rfl⟩
    · exact absurd h5 (hl _ (List.getElem_mem hk))
    · exact ⟨rfl, rfl⟩
  have HA : Hid (addP (ssOf l) p cs = (130, ssOf l)) := by
    show _ = _
    unfold addP
    rw [findS_of, look_no hl]
    rfl
  obtain ⟨PQ, hPQ⟩ : ∃ PQ : Ending → World → Prop, PQ = fun (e : Ending) (w' : World) => ∃ F' l', e = .returned (.int .i64 (addP (ssOf l) p cs).1) ∧ RfAt w' F' g nx l' ∧ ssOf l' = (addP (ssOf l) p cs).2 ∧ Tn F F' w w' := ⟨_, rfl⟩
  have HPQ : Hid (PQ = fun (e : Ending) (w' : World) => ∃ F' l', e = .returned (.int .i64 (addP (ssOf l) p cs).1) ∧ RfAt w' F' g nx l' ∧ ssOf l' = (addP (ssOf l) p cs).2 ∧ Tn F F' w w') := hPQ
  rw [← hPQ]
  clear hPQ h1 h2 h3 h4 h hl
  go_enter Try.func13, Try.ntmps13
  go_upto_region 0 with fail
  refine wp_region_lit ?_
  refine wl rfl (.int .i64 0) _ (run_asZ (.const (.int .i64 0)) rfl (.int .i64 0) rfl) ?_
  simp only [Act.put, List.setIfInBounds_toArray, List.set_cons_succ, List.set_cons_zero]
  refine wpList_nil ?_
  go_upto_region 1 with fail
  refine wp_region_lit ?_
  refine wl rfl (ptr g) _ (run_mvZ (.tmp 0) rfl (ptr g) rfl) ?_
  simp only [Act.put, List.setIfInBounds_toArray, List.set_cons_succ, List.set_cons_zero]
  refine wl rfl (.int .i64 p) _ (run_mvZ (.tmp 1) rfl (.int .i64 p) rfl) ?_
  simp only [Act.put, List.setIfInBounds_toArray, List.set_cons_succ, List.set_cons_zero]
  refine wpList_callW eN21 [.tmp 11, .tmp 12] _ rfl rfl [(ptr g), (.int .i64 p)] rfl ?_
  refine (HFN.out).mono ?_
  rintro e w1 ⟨rfl, e1⟩
  refine ⟨_, rfl, ?_⟩
  subst e1
  simp only [Act.put, List.setIfInBounds_toArray, List.set_cons_succ, List.set_cons_zero]
  refine wl rfl (.int .i64 (-1)) _ (run_asZ (.tmp 13) rfl (.int .i64 (-1)) rfl) ?_
  simp only [Act.put, List.setIfInBounds_toArray, List.set_cons_succ, List.set_cons_zero]
  refine wpList_nil ?_
  go_upto_region 2 with fail
  refine wp_region_lit ?_
  refine wl rfl (.int .i64 (-1)) _ (run_mvZ (.tmp 7) rfl (.int .i64 (-1)) rfl) ?_
  simp only [Act.put, List.setIfInBounds_toArray, List.set_cons_succ, List.set_cons_zero]
  refine wl rfl (.bool true) _ (run_lssZ (.tmp 14) (.const (.int .i64 0)) rfl (-1) 0 rfl rfl true (by decide)) ?_
  simp only [Act.put, List.setIfInBounds_toArray, List.set_cons_succ, List.set_cons_zero]
  refine wpList_nil ?_
  go_wp2_with fail
  rw [HPQ.out]
  exact ⟨F, l, by rw [HA.out]; rfl, HR.out, by rw [HA.out], Tn.refl F w⟩
theorem sz28b : (Try.prog.info? 28).map (·.size) = some 1 := by kernel_rfl
def sumTo (l : List En) (i : Nat) : Nat := total (l.take i)
theorem sumTo_step (l : List En) (i : Nat) (hi : i < l.length) : sumTo l (i + 1) = sumTo l i + l[i].bs.length := by
  unfold sumTo
  rw [List.take_add_one, List.getElem?_eq_getElem hi]
  exact total_snoc _ _
theorem sumTo_all (l : List En) : sumTo l l.length = total l := by
  unfold sumTo
  rw [List.take_length]
theorem sumTo_le (l : List En) (i : Nat) : sumTo l i ≤ total l := by
  have h : total l = total (l.take i) + total (l.drop i) := by
    rw [← total_app, List.take_append_drop]
  unfold sumTo
  omega
set_option maxHeartbeats 8000000 in
set_option maxRecDepth 100000 in
theorem radd_yes {w : World} {F : Nat → Prop} {g nx : Nat} {l : List En} (h : RfAt w F g nx l) (p : Int) (k : Nat) (hk : k < l.length) (hp : (l[k].no : Int) = p) (vb : Value) (cs : List Nat) (hin : SliceIn w vb cs) (hcs : cs.length ≤ 140737488355328) : Calls Try.prog 13 #[ptr g, .int .i64 p, vb] w fun e w' => ∃ F' l', e = .returned (.int .i64 (addP (ssOf l) p cs).1) ∧ RfAt w' F' g nx l' ∧ ssOf l' = (addP (ssOf l) p cs).2 ∧ Tn F F' w w' := by
  obtain ⟨v, h1, h2, h3, h4⟩ := h.top
  have HT : Hid (Row w g 50 [.int .i64 (nx : Nat), v] ∧ RRow w v l) := ⟨h1, h2⟩
  have HF : Hid (F g ∧ ∀ k, v.ownBlock = some k → F k) := ⟨h3, h4⟩
  have HR : Hid (RfAt w F g nx l) := h
  have H8 : Hid (l.length ≤ 8) := h.eight
  have HFN : Hid (Calls Try.prog 21 #[ptr g, .int .i64 p] w fun e w' => e = .returned (.int .i64 (k : Nat)) ∧ w = w') := by
    refine (find_any h p).mono ?_
    rintro e w' ⟨⟨k', hk', h5, rfl⟩ | ⟨h5, _⟩, rfl⟩
    · have e : k' = k := by
        rcases Nat.lt_trichotomy k' k with h6 | h6 | h6
        · have := List.pairwise_iff_getElem.1 h.ord k' k hk' hk h6; omega
        · exact h6
        · have := List.pairwise_iff_getElem.1 h.ord k k' hk hk' h6; omega
      subst e
      exact ⟨rfl, rfl⟩
    · exact absurd hp (h5 _ (List.getElem_mem hk))
  obtain ⟨b, hb, hx1, hx2⟩ := ix_en HT.out.2 k hk
  obtain ⟨vx, hvx⟩ : ∃ u, u = svV l[k].a := ⟨_, rfl⟩
  have HX : Hid ((∀ w', (Instr.indexAt 48 v (.int .i64 (k : Nat))).run Try.prog w' = .ok (.pointer (some ⟨b, k * 2, none⟩)) w') ∧ (∀ W, RRow W v l → W.cell? ⟨b, k * 2 + 1, none⟩ = some vx) ∧ v.ownBlock = some b) := ⟨hx1, fun W hW => by rw [hvx]; exact (hx2 W hW).2, hb⟩
  have HVX : Hid (vx = svV l[k].a) := hvx
  have HOK : Hid (BOwn w 0 vx l[k].bs ∧ (∀ c ∈ l[k].bs, c < 256) ∧ l[k].bs.length ≤ 512 ∧ ∀ q, svB l[k].a = some q → F q) := by
    have h5 := h.own _ (List.getElem_mem hk)
    exact ⟨by rw [hvx]; exact h5.1, h5.2.2.1, h5.2.2.2, h5.2.1⟩
  have HIN : Hid (SliceIn w vb cs) := hin
  have HLT : Hid (∀ c ∈ cs, c < 256) := hin.lt256
  obtain ⟨n, hn⟩ : ∃ n, n = l[k].bs.length := ⟨_, rfl⟩
  have HN : Hid (n = l[k].bs.length) := hn
  have hn5 : n ≤ 512 := by rw [hn]; exact HOK.out.2.2.1
  have HAD0 : Hid (addP (ssOf l) p cs = if n + cs.length > 512 then (5, ssOf l) else if total l + cs.length > 2048 then (131, ssOf l) else (0, (ssOf l).map (fun y => if (y.1 : Int) = p then (y.1, y.2 ++ cs) else y))) := by
    show _ = _
    unfold addP
    rw [findS_of, look_at h.ord k hk hp, totS_of, hn]
    rfl
  obtain ⟨PQ, hPQ⟩ : ∃ PQ : Ending → World → Prop, PQ = fun (e : Ending) (w' : World) => ∃ F' l', e = .returned (.int .i64 (addP (ssOf l) p cs).1) ∧ RfAt w' F' g nx l' ∧ ssOf l' = (addP (ssOf l) p cs).2 ∧ Tn F F' w w' := ⟨_, rfl⟩
  have HPQ : Hid (PQ = fun (e : Ending) (w' : World) => ∃ F' l', e = .returned (.int .i64 (addP (ssOf l) p cs).1) ∧ RfAt w' F' g nx l' ∧ ssOf l' = (addP (ssOf l) p cs).2 ∧ Tn F F' w w') := hPQ
  rw [← hPQ]
  clear hPQ h1 h2 h3 h4 h hb hx1 hx2 hvx hin hn
  by_cases h512 : n + cs.length ≤ 512
  · go_enter Try.func13, Try.ntmps13
    go_upto_region 0 with fail
    refine wp_region_lit ?_
    refine wl rfl (.int .i64 0) _ (run_asZ (.const (.int .i64 0)) rfl (.int .i64 0) rfl) ?_
    simp only [Act.put, List.setIfInBounds_toArray, List.set_cons_succ, List.set_cons_zero]
    refine wpList_nil ?_
    go_upto_region 1 with fail
    refine wp_region_lit ?_
    refine wl rfl (ptr g) _ (run_mvZ (.tmp 0) rfl (ptr g) rfl) ?_
    simp only [Act.put, List.setIfInBounds_toArray, List.set_cons_succ, List.set_cons_zero]
    refine wl rfl (.int .i64 p) _ (run_mvZ (.tmp 1) rfl (.int .i64 p) rfl) ?_
    simp only [Act.put, List.setIfInBounds_toArray, List.set_cons_succ, List.set_cons_zero]
    refine wpList_callW eN21 [.tmp 11, .tmp 12] _ rfl rfl [(ptr g), (.int .i64 p)] rfl ?_
    refine (HFN.out).mono ?_
    rintro e w1 ⟨rfl, e1⟩
    refine ⟨_, rfl, ?_⟩
    subst e1
    simp only [Act.put, List.setIfInBounds_toArray, List.set_cons_succ, List.set_cons_zero]
    refine wl rfl (.int .i64 (k : Nat)) _ (run_asZ (.tmp 13) rfl (.int .i64 (k : Nat)) rfl) ?_
    simp only [Act.put, List.setIfInBounds_toArray, List.set_cons_succ, List.set_cons_zero]
    refine wpList_nil ?_
    go_upto_region 2 with fail
    refine wp_region_lit ?_
    refine wl rfl (.int .i64 (k : Nat)) _ (run_mvZ (.tmp 7) rfl (.int .i64 (k : Nat)) rfl) ?_
    simp only [Act.put, List.setIfInBounds_toArray, List.set_cons_succ, List.set_cons_zero]
    refine wl rfl (.bool false) _ (run_lssZ (.tmp 14) (.const (.int .i64 0)) rfl (k : Nat) 0 rfl rfl false (decide_eq_false (by omega))) ?_
    simp only [Act.put, List.setIfInBounds_toArray, List.set_cons_succ, List.set_cons_zero]
    refine wpList_nil ?_
    go_upto_region 4 with fail
    refine wp_region_lit ?_
    refine wl rfl (ptr g) _ (run_mvZ (.tmp 0) rfl (ptr g) rfl) ?_
    simp only [Act.put, List.setIfInBounds_toArray, List.set_cons_succ, List.set_cons_zero]
    refine wl rfl (ptr g) _ (run_nil (.tmp 16) rfl ⟨g, 0, none⟩ rfl) ?_
    simp only [Act.put, List.setIfInBounds_toArray, List.set_cons_succ, List.set_cons_zero]
    refine wl rfl (.pointer (some ⟨g, 0 + 1, none⟩)) _ (run_fieldOp' f50_1 (.tmp 17) rfl g (0) rfl) ?_
    simp only [Act.put, List.setIfInBounds_toArray, List.set_cons_succ, List.set_cons_zero]
    refine wl rfl v _ (run_load1 o48 (.tmp 18) rfl g (0 + 1) rfl v (HT.out.1.at 1 _ rfl)) ?_
    simp only [Act.put, List.setIfInBounds_toArray, List.set_cons_succ, List.set_cons_zero]
    refine wl rfl (.int .i64 (k : Nat)) _ (run_mvZ (.tmp 7) rfl (.int .i64 (k : Nat)) rfl) ?_
    simp only [Act.put, List.setIfInBounds_toArray, List.set_cons_succ, List.set_cons_zero]
    refine wl rfl (.pointer (some ⟨b, k * 2, none⟩)) _ (run_idx (.tmp 19) (.tmp 20) rfl v _ _ rfl rfl HX.out.1) ?_
    simp only [Act.put, List.setIfInBounds_toArray, List.set_cons_succ, List.set_cons_zero]
    refine wl rfl (.pointer (some ⟨b, k * 2 + 1, none⟩)) _ (run_fieldOp' f52_1 (.tmp 21) rfl b (k * 2) rfl) ?_
    simp only [Act.put, List.setIfInBounds_toArray, List.set_cons_succ, List.set_cons_zero]
    refine wl rfl vx _ (run_load1 o28 (.tmp 22) rfl b (k * 2 + 1) rfl vx (HX.out.2.1 w HT.out.2)) ?_
    simp only [Act.put, List.setIfInBounds_toArray, List.set_cons_succ, List.set_cons_zero]
    refine wl rfl (.int .i64 (n : Nat)) _ ((HN.out ▸ run_lenB (HOK.out.1.slice HOK.out.2.1 (by have := HOK.out.2.2.1; omega)) (.tmp 23) rfl rfl)) ?_
    simp only [Act.put, List.setIfInBounds_toArray, List.set_cons_succ, List.set_cons_zero]
    refine wl rfl vb _ (run_mvZ (.tmp 2) rfl vb rfl) ?_
    simp only [Act.put, List.setIfInBounds_toArray, List.set_cons_succ, List.set_cons_zero]
    refine wl rfl (.int .i64 (cs.length : Nat)) _ (run_lenB HIN.out (.tmp 25) rfl rfl) ?_
    simp only [Act.put, List.setIfInBounds_toArray, List.set_cons_succ, List.set_cons_zero]
    refine wl rfl (.int .i64 ((n + cs.length : Nat) : Int)) _ (run_addI (.tmp 24) (.tmp 26) rfl (n : Nat) (cs.length : Nat) ((n + cs.length : Nat) : Int) (by omega) (by omega) (by omega) rfl rfl) ?_
    simp only [Act.put, List.setIfInBounds_toArray, List.set_cons_succ, List.set_cons_zero]
    refine wl rfl (.bool false) _ (run_gtrZ (.tmp 27) (.const (.int .i64 512)) rfl ((n + cs.length : Nat) : Int) 512 rfl rfl false (decide_eq_false (by omega))) ?_
    simp only [Act.put, List.setIfInBounds_toArray, List.set_cons_succ, List.set_cons_zero]
    refine wpList_nil ?_
    go_upto_region 6 with fail
    refine wp_region_lit ?_
    refine wl rfl vb _ (run_mvZ (.tmp 2) rfl vb rfl) ?_
    simp only [Act.put, List.setIfInBounds_toArray, List.set_cons_succ, List.set_cons_zero]
    refine wl rfl (.int .i64 (cs.length : Nat)) _ (run_lenB HIN.out (.tmp 29) rfl rfl) ?_
    simp only [Act.put, List.setIfInBounds_toArray, List.set_cons_succ, List.set_cons_zero]
    refine wl rfl (.int .i64 (cs.length : Nat)) _ (run_asZ (.tmp 30) rfl (.int .i64 (cs.length : Nat)) rfl) ?_
    simp only [Act.put, List.setIfInBounds_toArray, List.set_cons_succ, List.set_cons_zero]
    refine wpList_nil ?_
    go_upto_region 7 with fail
    go_wp2_with fail
    go_loopw [8, 9] (fun va vi W => ∃ (i : Nat), vi = .int .i64 (i : Nat) ∧ i ≤ l.length ∧ (∃ s : Nat, va = .int .i64 (s : Nat) ∧ Hid (s = cs.length + sumTo l i)) ∧ w = W) (fun _ vi _ => l.length - (intOf vi).toNat)
    case atStart => exact ⟨0, rfl, Nat.zero_le _, ⟨cs.length, rfl, by show _ = _; simp [sumTo, total]⟩, rfl⟩
    case round =>
      obtain ⟨i, rfl, hil, ⟨s, rfl, HSM⟩, hw⟩ := hrel
      subst hw
      have h8 := H8.out
      by_cases hlt : i < l.length
      · obtain ⟨b2, hb2, hy1, hy2⟩ := ix_en HT.out.2 i hlt
        have hown := HR.out.own _ (List.getElem_mem hlt)
        obtain ⟨vy, hvy⟩ : ∃ u, u = svV l[i].a := ⟨_, rfl⟩
        obtain ⟨m, hm⟩ : ∃ m, m = l[i].bs.length := ⟨_, rfl⟩
        have HY : Hid ((∀ w', (Instr.indexAt 48 v (.int .i64 (i : Nat))).run Try.prog w' = .ok (.pointer (some ⟨b2, i * 2, none⟩)) w') ∧ w.cell? ⟨b2, i * 2 + 1, none⟩ = some vy) := ⟨hy1, by rw [hvy]; exact (hy2 w HT.out.2).2⟩
        have HYS : Hid (SliceIn w vy l[i].bs ∧ m = l[i].bs.length) := ⟨by rw [hvy]; exact hown.1.slice hown.2.2.1 (by have := hown.2.2.2; omega), hm⟩
        have HSM2 : Hid (s + m = cs.length + sumTo l (i + 1) ∧ s + m ≤ 5000) := by
          have h5 := sumTo_step l i hlt
          have h6 := sumTo_le l (i + 1)
          have h7 := HR.out.all
          have h9 := HSM.out
          refine ⟨by rw [hm]; omega, by rw [hm]; omega⟩
        clear hb2 hy1 hy2 hown hvy hm
        go_upto_region 8 with fail
        refine wp_region_lit ?_
        refine wl rfl (.int .i64 (i : Nat)) _ (run_mvZ (.tmp 9) rfl (.int .i64 (i : Nat)) rfl) ?_
        simp only [Act.put, List.setIfInBounds_toArray, List.set_cons_succ, List.set_cons_zero]
        refine wl rfl (ptr g) _ (run_mvZ (.tmp 0) rfl (ptr g) rfl) ?_
        simp only [Act.put, List.setIfInBounds_toArray, List.set_cons_succ, List.set_cons_zero]
        refine wl rfl (ptr g) _ (run_nil (.tmp 32) rfl ⟨g, 0, none⟩ rfl) ?_
        simp only [Act.put, List.setIfInBounds_toArray, List.set_cons_succ, List.set_cons_zero]
        refine wl rfl (.pointer (some ⟨g, 0 + 1, none⟩)) _ (run_fieldOp' f50_1 (.tmp 33) rfl g (0) rfl) ?_
        simp only [Act.put, List.setIfInBounds_toArray, List.set_cons_succ, List.set_cons_zero]
        refine wl rfl v _ (run_load1 o48 (.tmp 34) rfl g (0 + 1) rfl v (HT.out.1.at 1 _ rfl)) ?_
        simp only [Act.put, List.setIfInBounds_toArray, List.set_cons_succ, List.set_cons_zero]
        refine wl rfl (.int .i64 (l.length : Nat)) _ (run_lenO HT.out.2 (.tmp 35) rfl rfl) ?_
        simp only [Act.put, List.setIfInBounds_toArray, List.set_cons_succ, List.set_cons_zero]
        refine wl rfl (.bool true) _ (run_lssZ (.tmp 31) (.tmp 36) rfl (i : Nat) (l.length : Nat) rfl rfl true (decide_eq_true (by omega))) ?_
        simp only [Act.put, List.setIfInBounds_toArray, List.set_cons_succ, List.set_cons_zero]
        refine wpList_nil ?_
        go_upto_region 10 with fail
        refine wp_region_lit ?_
        refine wl rfl (.int .i64 (s : Nat)) _ (run_mvZ (.tmp 8) rfl (.int .i64 (s : Nat)) rfl) ?_
        simp only [Act.put, List.setIfInBounds_toArray, List.set_cons_succ, List.set_cons_zero]
        refine wl rfl (ptr g) _ (run_mvZ (.tmp 0) rfl (ptr g) rfl) ?_
        simp only [Act.put, List.setIfInBounds_toArray, List.set_cons_succ, List.set_cons_zero]
        refine wl rfl (ptr g) _ (run_nil (.tmp 41) rfl ⟨g, 0, none⟩ rfl) ?_
        simp only [Act.put, List.setIfInBounds_toArray, List.set_cons_succ, List.set_cons_zero]
        refine wl rfl (.pointer (some ⟨g, 0 + 1, none⟩)) _ (run_fieldOp' f50_1 (.tmp 42) rfl g (0) rfl) ?_
        simp only [Act.put, List.setIfInBounds_toArray, List.set_cons_succ, List.set_cons_zero]
        refine wl rfl v _ (run_load1 o48 (.tmp 43) rfl g (0 + 1) rfl v (HT.out.1.at 1 _ rfl)) ?_
        simp only [Act.put, List.setIfInBounds_toArray, List.set_cons_succ, List.set_cons_zero]
        refine wl rfl (.int .i64 (i : Nat)) _ (run_mvZ (.tmp 9) rfl (.int .i64 (i : Nat)) rfl) ?_
        simp only [Act.put, List.setIfInBounds_toArray, List.set_cons_succ, List.set_cons_zero]
        refine wl rfl (.pointer (some ⟨b2, i * 2, none⟩)) _ (run_idx (.tmp 44) (.tmp 45) rfl v _ _ rfl rfl HY.out.1) ?_
        simp only [Act.put, List.setIfInBounds_toArray, List.set_cons_succ, List.set_cons_zero]
        refine wl rfl (.pointer (some ⟨b2, i * 2 + 1, none⟩)) _ (run_fieldOp' f52_1 (.tmp 46) rfl b2 (i * 2) rfl) ?_
        simp only [Act.put, List.setIfInBounds_toArray, List.set_cons_succ, List.set_cons_zero]
        refine wl rfl vy _ (run_load1 o28 (.tmp 47) rfl b2 (i * 2 + 1) rfl vy HY.out.2) ?_
        simp only [Act.put, List.setIfInBounds_toArray, List.set_cons_succ, List.set_cons_zero]
        refine wl rfl (.int .i64 (m : Nat)) _ ((HYS.out.2 ▸ run_lenB HYS.out.1 (.tmp 48) rfl rfl)) ?_
        simp only [Act.put, List.setIfInBounds_toArray, List.set_cons_succ, List.set_cons_zero]
        refine wl rfl (.int .i64 ((s + m : Nat) : Int)) _ (run_addI (.tmp 40) (.tmp 49) rfl (s : Nat) (m : Nat) ((s + m : Nat) : Int) (by omega) (by have := HSM2.out.2; omega) (by omega) rfl rfl) ?_
        simp only [Act.put, List.setIfInBounds_toArray, List.set_cons_succ, List.set_cons_zero]
        refine wl rfl (.int .i64 ((s + m : Nat) : Int)) _ (run_asZ (.tmp 50) rfl (.int .i64 ((s + m : Nat) : Int)) rfl) ?_
        simp only [Act.put, List.setIfInBounds_toArray, List.set_cons_succ, List.set_cons_zero]
        refine wpList_nil ?_
        go_wp2_with fail
        refine ⟨⟨i + 1, by go_num, by omega, ⟨s + m, rfl, HSM2.out.1⟩, trivial⟩, ?_⟩
        simp [intOf]; omega
      · have hst : s = cs.length + total l := by
          have h5 := HSM.out
          rw [show i = l.length by omega, sumTo_all] at h5
          exact h5
        clear HSM
        by_cases hov : 2048 < s
        · go_upto_region 8 with fail
          refine wp_region_lit ?_
          refine wl rfl (.int .i64 (i : Nat)) _ (run_mvZ (.tmp 9) rfl (.int .i64 (i : Nat)) rfl) ?_
          simp only [Act.put, List.setIfInBounds_toArray, List.set_cons_succ, List.set_cons_zero]
          refine wl rfl (ptr g) _ (run_mvZ (.tmp 0) rfl (ptr g) rfl) ?_
          simp only [Act.put, List.setIfInBounds_toArray, List.set_cons_succ, List.set_cons_zero]
          refine wl rfl (ptr g) _ (run_nil (.tmp 32) rfl ⟨g, 0, none⟩ rfl) ?_
          simp only [Act.put, List.setIfInBounds_toArray, List.set_cons_succ, List.set_cons_zero]
          refine wl rfl (.pointer (some ⟨g, 0 + 1, none⟩)) _ (run_fieldOp' f50_1 (.tmp 33) rfl g (0) rfl) ?_
          simp only [Act.put, List.setIfInBounds_toArray, List.set_cons_succ, List.set_cons_zero]
          refine wl rfl v _ (run_load1 o48 (.tmp 34) rfl g (0 + 1) rfl v (HT.out.1.at 1 _ rfl)) ?_
          simp only [Act.put, List.setIfInBounds_toArray, List.set_cons_succ, List.set_cons_zero]
          refine wl rfl (.int .i64 (l.length : Nat)) _ (run_lenO HT.out.2 (.tmp 35) rfl rfl) ?_
          simp only [Act.put, List.setIfInBounds_toArray, List.set_cons_succ, List.set_cons_zero]
          refine wl rfl (.bool false) _ (run_lssZ (.tmp 31) (.tmp 36) rfl (i : Nat) (l.length : Nat) rfl rfl false (decide_eq_false (by omega))) ?_
          simp only [Act.put, List.setIfInBounds_toArray, List.set_cons_succ, List.set_cons_zero]
          refine wpList_nil ?_
          go_upto_region 11 with fail
          refine wp_region_lit ?_
          refine wl rfl (.int .i64 (s : Nat)) _ (run_mvZ (.tmp 8) rfl (.int .i64 (s : Nat)) rfl) ?_
          simp only [Act.put, List.setIfInBounds_toArray, List.set_cons_succ, List.set_cons_zero]
          refine wl rfl (.bool true) _ (run_gtrZ (.tmp 51) (.const (.int .i64 2048)) rfl (s : Nat) 2048 rfl rfl true (decide_eq_true (by omega))) ?_
          simp only [Act.put, List.setIfInBounds_toArray, List.set_cons_succ, List.set_cons_zero]
          refine wpList_nil ?_
          have HA : Hid (addP (ssOf l) p cs = (131, ssOf l)) := by
            show _ = _
            rw [HAD0.out, if_neg (by omega), if_pos (by omega)]
          go_wp2_with fail
          rw [HPQ.out]
          exact ⟨F, l, by rw [HA.out]; rfl, HR.out, by rw [HA.out], Tn.refl F w⟩
        · go_upto_region 8 with fail
          refine wp_region_lit ?_
          refine wl rfl (.int .i64 (i : Nat)) _ (run_mvZ (.tmp 9) rfl (.int .i64 (i : Nat)) rfl) ?_
          simp only [Act.put, List.setIfInBounds_toArray, List.set_cons_succ, List.set_cons_zero]
          refine wl rfl (ptr g) _ (run_mvZ (.tmp 0) rfl (ptr g) rfl) ?_
          simp only [Act.put, List.setIfInBounds_toArray, List.set_cons_succ, List.set_cons_zero]
          refine wl rfl (ptr g) _ (run_nil (.tmp 32) rfl ⟨g, 0, none⟩ rfl) ?_
          simp only [Act.put, List.setIfInBounds_toArray, List.set_cons_succ, List.set_cons_zero]
          refine wl rfl (.pointer (some ⟨g, 0 + 1, none⟩)) _ (run_fieldOp' f50_1 (.tmp 33) rfl g (0) rfl) ?_
          simp only [Act.put, List.setIfInBounds_toArray, List.set_cons_succ, List.set_cons_zero]
          refine wl rfl v _ (run_load1 o48 (.tmp 34) rfl g (0 + 1) rfl v (HT.out.1.at 1 _ rfl)) ?_
          simp only [Act.put, List.setIfInBounds_toArray, List.set_cons_succ, List.set_cons_zero]
          refine wl rfl (.int .i64 (l.length : Nat)) _ (run_lenO HT.out.2 (.tmp 35) rfl rfl) ?_
          simp only [Act.put, List.setIfInBounds_toArray, List.set_cons_succ, List.set_cons_zero]
          refine wl rfl (.bool false) _ (run_lssZ (.tmp 31) (.tmp 36) rfl (i : Nat) (l.length : Nat) rfl rfl false (decide_eq_false (by omega))) ?_
          simp only [Act.put, List.setIfInBounds_toArray, List.set_cons_succ, List.set_cons_zero]
          refine wpList_nil ?_
          go_upto_region 11 with fail
          refine wp_region_lit ?_
          refine wl rfl (.int .i64 (s : Nat)) _ (run_mvZ (.tmp 8) rfl (.int .i64 (s : Nat)) rfl) ?_
          simp only [Act.put, List.setIfInBounds_toArray, List.set_cons_succ, List.set_cons_zero]
          refine wl rfl (.bool false) _ (run_gtrZ (.tmp 51) (.const (.int .i64 2048)) rfl (s : Nat) 2048 rfl rfl false (decide_eq_false (by omega))) ?_
          simp only [Act.put, List.setIfInBounds_toArray, List.set_cons_succ, List.set_cons_zero]
          refine wpList_nil ?_
          go_upto_region 13 with fail
          refine wp_region_lit ?_
          refine wl_blit0 rfl rfl ?_
          intro w3 r3 z3 b3
          have HE0 : Hid (BOwn w3 0 (whole w.heap.size 0) [] ∧ Below w.heap.size w w3 ∧ ∀ q, (whole w.heap.size 0).ownBlock = some q → w.heap.size ≤ q) := ⟨whole_own (cs := []) r3 (Nat.zero_le _) (by decide), b3, fun q e => by injection e with e; rw [← e]; exact Nat.le_refl _⟩
          obtain ⟨v3, hq_⟩ : ∃ q, q = whole w.heap.size 0 := ⟨_, rfl⟩
          rw [← hq_] at HE0
          rw [← hq_]
          clear hq_ r3 z3 b3
          have HT3 : Hid (Row w3 g 50 [.int .i64 (nx : Nat), v] ∧ RRow w3 v l) := ⟨HT.out.1.later HE0.out.2.1 HT.out.1.lt, own_later HT.out.2 HE0.out.2.1⟩
          simp only [Act.put, List.setIfInBounds_toArray, List.set_cons_succ, List.set_cons_zero]
          refine wl rfl (ptr g) _ (run_mvZ (.tmp 0) rfl (ptr g) rfl) ?_
          simp only [Act.put, List.setIfInBounds_toArray, List.set_cons_succ, List.set_cons_zero]
          refine wl rfl (ptr g) _ (run_nil (.tmp 54) rfl ⟨g, 0, none⟩ rfl) ?_
          simp only [Act.put, List.setIfInBounds_toArray, List.set_cons_succ, List.set_cons_zero]
          refine wl rfl (.pointer (some ⟨g, 0 + 1, none⟩)) _ (run_fieldOp' f50_1 (.tmp 55) rfl g (0) rfl) ?_
          simp only [Act.put, List.setIfInBounds_toArray, List.set_cons_succ, List.set_cons_zero]
          refine wl rfl v _ (run_load1 o48 (.tmp 56) rfl g (0 + 1) rfl v (HT3.out.1.at 1 _ rfl)) ?_
          simp only [Act.put, List.setIfInBounds_toArray, List.set_cons_succ, List.set_cons_zero]
          refine wl rfl (.int .i64 (k : Nat)) _ (run_mvZ (.tmp 7) rfl (.int .i64 (k : Nat)) rfl) ?_
          simp only [Act.put, List.setIfInBounds_toArray, List.set_cons_succ, List.set_cons_zero]
          refine wl rfl (.pointer (some ⟨b, k * 2, none⟩)) _ (run_idx (.tmp 57) (.tmp 58) rfl v _ _ rfl rfl HX.out.1) ?_
          simp only [Act.put, List.setIfInBounds_toArray, List.set_cons_succ, List.set_cons_zero]
          refine wl rfl (.pointer (some ⟨b, k * 2 + 1, none⟩)) _ (run_fieldOp' f52_1 (.tmp 59) rfl b (k * 2) rfl) ?_
          simp only [Act.put, List.setIfInBounds_toArray, List.set_cons_succ, List.set_cons_zero]
          refine wl rfl vx _ (run_load1 o28 (.tmp 60) rfl b (k * 2 + 1) rfl vx (HX.out.2.1 w3 HT3.out.2)) ?_
          simp only [Act.put, List.setIfInBounds_toArray, List.set_cons_succ, List.set_cons_zero]
          obtain ⟨v4, w4, hr4, ho4, hg4, hat4⟩ := run_bappAt (Oper.type _) v3 vx [] l[k].bs HE0.out.1 (BOwn.slice (base := 0) (own_later HOK.out.1 HE0.out.2.1) HOK.out.2.1 (by have := HOK.out.2.2.1; omega)) (by have := HOK.out.2.2.1; simp; omega)
          refine wl rfl v4 w4 (run_append (.tmp 53) (.tmp 61) rfl v3 vx v4 rfl rfl hr4) ?_
          have HE4 : Hid (BOwn w4 0 v4 l[k].bs ∧ Below w.heap.size w w4 ∧ ∀ q, v4.ownBlock = some q → w.heap.size ≤ q) := ⟨ho4, HE0.out.2.1.grown hg4 HE0.out.2.1.size HE0.out.2.2, fun q e => hat4.elim (fun h => HE0.out.2.2 q (by rw [← h]; exact e)) fun h => by rw [h] at e; injection e with e; rw [← e]; exact HE0.out.2.1.size⟩
          clear hr4 ho4 hg4 hat4 HE0 HT3
          simp only [Act.put, List.setIfInBounds_toArray, List.set_cons_succ, List.set_cons_zero]
          refine wl rfl v4 _ (run_asZ (.tmp 62) rfl v4 rfl) ?_
          simp only [Act.put, List.setIfInBounds_toArray, List.set_cons_succ, List.set_cons_zero]
          refine wpList_nil ?_
          go_upto_region 14 with fail
          refine wp_region_held (S := fun X => Row X g 50 [.int .i64 (nx : Nat), v]) (by kernel_rfl) ?_
          show wpAnyH _ _ _ _ _ 11 (Array.replicate 11 false) _ _
          obtain ⟨X, hX⟩ : ∃ X : World, X = { w4 with drawn := w4.drawn + 1 } := ⟨_, rfl⟩
          rw [← hX]
          have HEX : Hid (BOwn X 0 v4 l[k].bs ∧ Below w.heap.size w X) := by
            have hb : Below w4.heap.size w4 X := by rw [hX]; exact ⟨rfl, rfl, rfl, Nat.le_refl _, fun _ _ => rfl⟩
            exact ⟨own_later HE4.out.1 hb, HE4.out.2.1.trans (hb.mono HE4.out.2.1.size)⟩
          have hS : Row X g 50 [.int .i64 (nx : Nat), v] := HT.out.1.later HEX.out.2 HT.out.1.lt
          clear hX
          refine takeH (i := 0) (some 63) rfl rfl (by kernel_rfl) (by kernel_rfl) (by kernel_rfl) (fun _ _ _ h => h) (gRun rfl (ptr g) fun _ h => run_mvZ (.tmp 0) rfl (ptr g) rfl) hS ?_
          simp only [Act.put, List.setIfInBounds_toArray, List.set_cons_succ, List.set_cons_zero]
          refine takeH (i := 1) (some 64) rfl rfl (by kernel_rfl) (by kernel_rfl) (by kernel_rfl) (fun _ _ _ h => h) (gRun rfl (ptr g) fun _ h => run_nil (.tmp 63) rfl ⟨g, 0, none⟩ rfl) hS ?_
          simp only [Act.put, List.setIfInBounds_toArray, List.set_cons_succ, List.set_cons_zero]
          refine takeH (i := 2) (some 65) rfl rfl (by kernel_rfl) (by kernel_rfl) (by kernel_rfl) (fun _ _ _ h => h) (gRun rfl (.pointer (some ⟨g, 0 + 1, none⟩)) fun _ h => run_fieldOp' f50_1 (.tmp 64) rfl g (0) rfl) hS ?_
          simp only [Act.put, List.setIfInBounds_toArray, List.set_cons_succ, List.set_cons_zero]
          refine takeH (i := 3) (some 66) rfl rfl (by kernel_rfl) (by kernel_rfl) (by kernel_rfl) (fun _ _ _ h => h) (gRun rfl v fun _ h => run_load1 o48 (.tmp 65) rfl g (0 + 1) rfl v (h.at 1 _ rfl)) hS ?_
          simp only [Act.put, List.setIfInBounds_toArray, List.set_cons_succ, List.set_cons_zero]
          refine takeH (i := 4) (some 67) rfl rfl (by kernel_rfl) (by kernel_rfl) (by kernel_rfl) (fun _ _ _ h => h) (gRun rfl (.int .i64 (k : Nat)) fun _ h => run_mvZ (.tmp 7) rfl (.int .i64 (k : Nat)) rfl) hS ?_
          simp only [Act.put, List.setIfInBounds_toArray, List.set_cons_succ, List.set_cons_zero]
          refine takeH (i := 5) (some 68) rfl rfl (by kernel_rfl) (by kernel_rfl) (by kernel_rfl) (fun _ _ _ h => h) (gRun rfl v4 fun _ h => run_mvZ (.tmp 10) rfl v4 rfl) hS ?_
          simp only [Act.put, List.setIfInBounds_toArray, List.set_cons_succ, List.set_cons_zero]
          refine takeH (i := 6) (some 69) rfl rfl (by kernel_rfl) (by kernel_rfl) (by kernel_rfl) (fun _ _ _ h => h) (gRun rfl vb fun _ h => run_mvZ (.tmp 2) rfl vb rfl) hS ?_
          simp only [Act.put, List.setIfInBounds_toArray, List.set_cons_succ, List.set_cons_zero]
          refine oneH (i := 7) (by kernel_rfl) ?_
          obtain ⟨v5, w5, hr5, ho5, hg5, hat5⟩ := run_bappAt (Oper.type _) v4 vb l[k].bs cs HEX.out.1 (SliceIn.later HEX.out.2 HIN.out) (by have := HOK.out.2.2.1; omega)
          refine opValueG (some 70) rfl rfl rfl v5 w5 (run_append (.tmp 68) (.tmp 69) rfl v4 vb v5 rfl rfl hr5) ?_
          have HE5 : Hid (BOwn w5 0 v5 (l[k].bs ++ cs) ∧ Below w.heap.size w w5 ∧ ∀ q, v5.ownBlock = some q → w.heap.size ≤ q) := ⟨ho5, HEX.out.2.grown hg5 HEX.out.2.size HE4.out.2.2, fun q e => hat5.elim (fun h => HE4.out.2.2 q (by rw [← h]; exact e)) fun h => by rw [h] at e; injection e with e; rw [← e]; exact HEX.out.2.size⟩
          clear hr5 ho5 hg5 hat5 hS
          have HT5 : Hid (Row w5 g 50 [.int .i64 (nx : Nat), v] ∧ RRow w5 v l) := ⟨HT.out.1.later HE5.out.2.1 HT.out.1.lt, own_later HT.out.2 HE5.out.2.1⟩
          have hS := HT5.out.1
          refine ⟨hS, ?_⟩
          simp only [Act.put, List.setIfInBounds_toArray, List.set_cons_succ, List.set_cons_zero]
          refine takeH (i := 8) (some 71) rfl rfl (by kernel_rfl) (by kernel_rfl) (by kernel_rfl) (fun _ _ _ h => h) (gRun rfl (.pointer (some ⟨b, k * 2, none⟩)) fun _ h => run_idx (.tmp 66) (.tmp 67) rfl v _ _ rfl rfl HX.out.1) hS ?_
          simp only [Act.put, List.setIfInBounds_toArray, List.set_cons_succ, List.set_cons_zero]
          refine takeH (i := 9) (some 72) rfl rfl (by kernel_rfl) (by kernel_rfl) (by kernel_rfl) (fun _ _ _ h => h) (gRun rfl (.pointer (some ⟨b, k * 2 + 1, none⟩)) fun _ h => run_fieldOp' f52_1 (.tmp 71) rfl b (k * 2) rfl) hS ?_
          simp only [Act.put, List.setIfInBounds_toArray, List.set_cons_succ, List.set_cons_zero]
          refine oneH (i := 10) (by kernel_rfl) ?_
          obtain ⟨capv, hvs⟩ : ∃ c, v = .slice (some ⟨b, 0, none⟩) l.length c := by
            rcases HT5.out.2.2 with ⟨e, _⟩ | ⟨g', cap, cur, e, _⟩
            · rw [e] at HX; exact absurd HX.out.2.2 (by intro h; cases h)
            · have := HX.out.2.2
              rw [e] at this
              have e9 : g' = b := Option.some.inj this
              exact ⟨cap, by rw [e, e9]⟩
          obtain ⟨cur, hcur, hcl⟩ : ∃ cur, Row w5 b 52 cur ∧ l.length * 2 ≤ cur.length := by
            rcases HT5.out.2.2 with ⟨e, _⟩ | ⟨g', cap, cur, e, _, hg', hnc, _, hcs, _⟩
            · rw [e] at hvs; cases hvs
            · rw [e] at hvs
              injection hvs with hvs
              injection hvs with hvs
              injection hvs with hvs
              subst hvs
              refine ⟨cur.toList, by unfold Row; rw [hg'], ?_⟩
              have h5 : cur.toList.length = cap * 2 := by rw [Array.length_toList]; exact hcs
              rw [h5]
              exact Nat.mul_le_mul_right _ hnc
          have HST5 : Hid _ := World.ownsRow.stored (by have h5 := HT5.out.2; unfold RRow at h5; rw [hvs] at h5; exact h5) (k * 2 + 1) v5
          refine opSkipZ rfl rfl rfl _ (run_putRow sz28b (.tmp 72) (.tmp 70) rfl b (k * 2 + 1) 52 cur rfl v5 rfl (own_cells HE5.out.1) hcur (by omega)) ?_
          have HT6 : Hid (Row (w5.setCell ⟨b, k * 2 + 1, none⟩ v5) g 50 [.int .i64 (nx : Nat), v]) := HT5.out.1.setCell_other (fun e => HT5.out.2.neG HT5.out.1 (by decide) (by rw [HX.out.2.2, e])) _ _
          clear hS
          have hS := HT6.out
          refine ⟨hS, ?_⟩
          refine wpAnyH_done (by kernel_rfl) ?_ _
          obtain ⟨w6, hW_⟩ : ∃ W, W = w5.setCell ⟨b, k * 2 + 1, none⟩ v5 := ⟨_, rfl⟩
          have HW6 : Hid (w6 = w5.setCell ⟨b, k * 2 + 1, none⟩ v5) := hW_
          rw [← hW_] at HT6
          rw [← hW_]
          obtain ⟨s5, hs5⟩ := Sv.of HE5.out.1
          have HCH : Hid (Ch (fun q => q = g ∨ v.ownBlock = some q) w w6 ∧ RRow w6 v (l.set k ⟨l[k].no, s5, l[k].bs ++ cs⟩) ∧ BOwn w6 0 (svV s5) (l[k].bs ++ cs) ∧ ∀ q, svB s5 = some q → Nw F w w6 q) := by
            have c5 : Ch (fun q => q = g ∨ v.ownBlock = some q) w w6 := by rw [hW_]; exact (Ch.of_below HE5.out.2.1).setCell (Or.inl (Or.inr HX.out.2.2)) _ _
            have hkb : ∀ q, v5.ownBlock = some q → q ≠ b := fun q e e2 => HT5.out.2.neB HE5.out.1 e (by rw [e2]; exact HX.out.2.2)
            refine ⟨c5, ?_, ?_, fun q e => Or.inr ⟨HE5.out.2.2 q (by rw [hs5, svV_block]; exact e), ?_⟩⟩
            · have h5 := HST5.out.1
              unfold RRow
              rw [← rcells_set l k hk s5 (l[k].bs ++ cs), List.length_set, ← hs5, hW_, hvs]
              exact h5
            · rw [← hs5]
              refine ownK HE5.out.1 fun q e => ?_
              rw [hW_, Below.heap_setCell w5 _ _ q (hkb q e)]
            · have h6 := (HE5.out.1.lt q (by rw [hs5, svV_block]; exact e)).2
              rw [hW_]
              simpa using h6
          have HTU : Hid (total (l.set k ⟨l[k].no, s5, l[k].bs ++ cs⟩) = total l + cs.length) := by
            show _ = _
            rw [← upd_set HR.out.ord k hk hp s5 cs]
            exact total_upd HR.out.ord (look_at HR.out.ord k hk hp)
          have HST : Hid _ := HR.out.step (l' := l.set k ⟨l[k].no, s5, l[k].bs ++ cs⟩) HT.out.1 HT.out.2 HCH.out.1 HT6.out HCH.out.2.1 (fun q e => Or.inl (HF.out.2 q e)) (fun x hx => by
            rcases List.mem_or_eq_of_mem_set hx with hx | rfl
            · exact Or.inl hx
            · refine Or.inr ⟨HCH.out.2.2.1, HCH.out.2.2.2, fun c hc => ?_, ?_⟩
              · rcases List.mem_append.1 hc with hc | hc
                · exact HOK.out.2.1 c hc
                · exact HLT.out c hc
              · have := HN.out
                rw [List.length_append]
                omega) (by rw [← upd_set HR.out.ord k hk hp s5 cs, List.pairwise_map]; exact HR.out.ord.imp fun h => by rw [upd_no, upd_no]; exact h) (fun x hx => by
            rcases List.mem_or_eq_of_mem_set hx with hx | rfl
            · exact HR.out.lt x hx
            · exact HR.out.lt l[k] (List.getElem_mem hk)) (by rw [List.length_set]; exact H8.out) (by rw [HTU.out]; omega)
          have HA : Hid (addP (ssOf l) p cs = (0, (ssOf l).map (fun y => if (y.1 : Int) = p then (y.1, y.2 ++ cs) else y))) := by
            show _ = _
            rw [HAD0.out, if_neg (by omega), if_neg (by omega)]
          clear hW_ hvs hs5 hcur hcl HST5
          go_wp2_with fail
          rw [HPQ.out]
          exact ⟨_, _, by rw [HA.out]; rfl, HST.out.1, by rw [HA.out, ← upd_set HR.out.ord k hk hp s5 cs]; exact ssOf_upd _ _ _ _, HST.out.2⟩
  · have HA : Hid (addP (ssOf l) p cs = (5, ssOf l)) := by
      show _ = _
      rw [HAD0.out, if_pos (by omega)]
    go_enter Try.func13, Try.ntmps13
    go_upto_region 0 with fail
    refine wp_region_lit ?_
    refine wl rfl (.int .i64 0) _ (run_asZ (.const (.int .i64 0)) rfl (.int .i64 0) rfl) ?_
    simp only [Act.put, List.setIfInBounds_toArray, List.set_cons_succ, List.set_cons_zero]
    refine wpList_nil ?_
    go_upto_region 1 with fail
    refine wp_region_lit ?_
    refine wl rfl (ptr g) _ (run_mvZ (.tmp 0) rfl (ptr g) rfl) ?_
    simp only [Act.put, List.setIfInBounds_toArray, List.set_cons_succ, List.set_cons_zero]
    refine wl rfl (.int .i64 p) _ (run_mvZ (.tmp 1) rfl (.int .i64 p) rfl) ?_
    simp only [Act.put, List.setIfInBounds_toArray, List.set_cons_succ, List.set_cons_zero]
    refine wpList_callW eN21 [.tmp 11, .tmp 12] _ rfl rfl [(ptr g), (.int .i64 p)] rfl ?_
    refine (HFN.out).mono ?_
    rintro e w1 ⟨rfl, e1⟩
    refine ⟨_, rfl, ?_⟩
    subst e1
    simp only [Act.put, List.setIfInBounds_toArray, List.set_cons_succ, List.set_cons_zero]
    refine wl rfl (.int .i64 (k : Nat)) _ (run_asZ (.tmp 13) rfl (.int .i64 (k : Nat)) rfl) ?_
    simp only [Act.put, List.setIfInBounds_toArray, List.set_cons_succ, List.set_cons_zero]
    refine wpList_nil ?_
    go_upto_region 2 with fail
    refine wp_region_lit ?_
    refine wl rfl (.int .i64 (k : Nat)) _ (run_mvZ (.tmp 7) rfl (.int .i64 (k : Nat)) rfl) ?_
    simp only [Act.put, List.setIfInBounds_toArray, List.set_cons_succ, List.set_cons_zero]
    refine wl rfl (.bool false) _ (run_lssZ (.tmp 14) (.const (.int .i64 0)) rfl (k : Nat) 0 rfl rfl false (decide_eq_false (by omega))) ?_
    simp only [Act.put, List.setIfInBounds_toArray, List.set_cons_succ, List.set_cons_zero]
    refine wpList_nil ?_
    go_upto_region 4 with fail
    refine wp_region_lit ?_
    refine wl rfl (ptr g) _ (run_mvZ (.tmp 0) rfl (ptr g) rfl) ?_
    simp only [Act.put, List.setIfInBounds_toArray, List.set_cons_succ, List.set_cons_zero]
    refine wl rfl (ptr g) _ (run_nil (.tmp 16) rfl ⟨g, 0, none⟩ rfl) ?_
    simp only [Act.put, List.setIfInBounds_toArray, List.set_cons_succ, List.set_cons_zero]
    refine wl rfl (.pointer (some ⟨g, 0 + 1, none⟩)) _ (run_fieldOp' f50_1 (.tmp 17) rfl g (0) rfl) ?_
    simp only [Act.put, List.setIfInBounds_toArray, List.set_cons_succ, List.set_cons_zero]
    refine wl rfl v _ (run_load1 o48 (.tmp 18) rfl g (0 + 1) rfl v (HT.out.1.at 1 _ rfl)) ?_
    simp only [Act.put, List.setIfInBounds_toArray, List.set_cons_succ, List.set_cons_zero]
    refine wl rfl (.int .i64 (k : Nat)) _ (run_mvZ (.tmp 7) rfl (.int .i64 (k : Nat)) rfl) ?_
    simp only [Act.put, List.setIfInBounds_toArray, List.set_cons_succ, List.set_cons_zero]
    refine wl rfl (.pointer (some ⟨b, k * 2, none⟩)) _ (run_idx (.tmp 19) (.tmp 20) rfl v _ _ rfl rfl HX.out.1) ?_
    simp only [Act.put, List.setIfInBounds_toArray, List.set_cons_succ, List.set_cons_zero]
    refine wl rfl (.pointer (some ⟨b, k * 2 + 1, none⟩)) _ (run_fieldOp' f52_1 (.tmp 21) rfl b (k * 2) rfl) ?_
    simp only [Act.put, List.setIfInBounds_toArray, List.set_cons_succ, List.set_cons_zero]
    refine wl rfl vx _ (run_load1 o28 (.tmp 22) rfl b (k * 2 + 1) rfl vx (HX.out.2.1 w HT.out.2)) ?_
    simp only [Act.put, List.setIfInBounds_toArray, List.set_cons_succ, List.set_cons_zero]
    refine wl rfl (.int .i64 (n : Nat)) _ ((HN.out ▸ run_lenB (HOK.out.1.slice HOK.out.2.1 (by have := HOK.out.2.2.1; omega)) (.tmp 23) rfl rfl)) ?_
    simp only [Act.put, List.setIfInBounds_toArray, List.set_cons_succ, List.set_cons_zero]
    refine wl rfl vb _ (run_mvZ (.tmp 2) rfl vb rfl) ?_
    simp only [Act.put, List.setIfInBounds_toArray, List.set_cons_succ, List.set_cons_zero]
    refine wl rfl (.int .i64 (cs.length : Nat)) _ (run_lenB HIN.out (.tmp 25) rfl rfl) ?_
    simp only [Act.put, List.setIfInBounds_toArray, List.set_cons_succ, List.set_cons_zero]
    refine wl rfl (.int .i64 ((n + cs.length : Nat) : Int)) _ (run_addI (.tmp 24) (.tmp 26) rfl (n : Nat) (cs.length : Nat) ((n + cs.length : Nat) : Int) (by omega) (by omega) (by omega) rfl rfl) ?_
    simp only [Act.put, List.setIfInBounds_toArray, List.set_cons_succ, List.set_cons_zero]
    refine wl rfl (.bool true) _ (run_gtrZ (.tmp 27) (.const (.int .i64 512)) rfl ((n + cs.length : Nat) : Int) 512 rfl rfl true (decide_eq_true (by omega))) ?_
    simp only [Act.put, List.setIfInBounds_toArray, List.set_cons_succ, List.set_cons_zero]
    refine wpList_nil ?_
    go_wp2_with fail
    rw [HPQ.out]
    exact ⟨F, l, by rw [HA.out]; rfl, HR.out, by rw [HA.out], Tn.refl F w⟩

end Go.Proofs.Ytcjanjofjnedbaa

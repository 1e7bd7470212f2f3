/- Records in memory; whether one may be. -/
import Derived.Test.YtncjmolhofnpbaaR4
namespace Go.Proofs.Ytncjmolhofnpbaa
open Go.RowKit

/-- places as cells -/
def pcs : List Pc → List Value
  | [] => []
  | p :: ps => pcells p ++ pcs ps
theorem pcs_length (ps : List Pc) : (pcs ps).length = ps.length * 4 := by
  induction ps with
  | nil => rfl
  | cons p ps ih => simp [pcs, ih, pcells]; omega
theorem pcs_append (a b : List Pc) : pcs (a ++ b) = pcs a ++ pcs b := by
  induction a with
  | nil => rfl
  | cons p a ih => simp [pcs, ih]
theorem pcs_at (ps : List Pc) (i : Nat) (p : Pc) (h : ps[i]? = some p) (j : Nat) (hj : j < 4) : (pcs ps)[i * 4 + j]? = (pcells p)[j]? := by
  induction ps generalizing i with
  | nil => simp at h
  | cons q ps ih =>
    cases i with
    | zero =>
      simp at h
      subst h
      rw [pcs, Nat.zero_mul, Nat.zero_add, List.getElem?_append_left (by simpa [pcells] using hj)]
    | succ i =>
      simp at h
      rw [pcs, List.getElem?_append_right (by simp [pcells]; omega), ← ih i h]
      congr 1
      simp [pcells]
      omega
/-- a slice that holds these places -/
def PlIn (w : World) (v : Value) (ps : List Pc) : Prop :=
  ∃ p cap, v = .slice p ps.length cap ∧ (ps.length ≤ cap ∧ ps.length ≤ 9223372036854775807) ∧ (ps = [] ∨ ∃ b off, p = some ⟨b, off, none⟩ ∧ ∀ j, j < ps.length * 4 → w.cell? ⟨b, off + j, none⟩ = (pcs ps)[j]?)
theorem PlIn.later {w w' : World} {v : Value} {ps : List Pc} (h : PlIn w v ps) (hb : Below w.heap.size w w') : PlIn w' v ps := by
  obtain ⟨p, cap, rfl, hl, h⟩ := h
  refine ⟨p, cap, rfl, hl, ?_⟩
  rcases h with h | ⟨b, off, rfl, h1⟩
  · exact Or.inl h
  · refine Or.inr ⟨b, off, rfl, fun j hj => ?_⟩
    obtain ⟨u, hu⟩ : ∃ u, (pcs ps)[j]? = some u := ⟨_, List.getElem?_eq_getElem (by rw [pcs_length]; exact hj)⟩
    rw [hu, ← hu, ← h1 j hj]
    exact World.cell?_of_block (w := w) (hb.block b (block_lt_of_cell ((h1 j hj).trans hu)))
theorem PlIn.nil (w : World) : PlIn w (.slice none 0 0) [] := ⟨none, 0, rfl, ⟨Nat.le_refl _, by decide⟩, Or.inl rfl⟩
theorem PlIn.isSlice {w : World} {v : Value} {ps : List Pc} (h : PlIn w v ps) : ∃ p n c, v = .slice p n c := by
  obtain ⟨p, c, rfl, _⟩ := h
  exact ⟨_, _, _, rfl⟩
theorem slice_one {v : Value} (h : ∃ p n c, v = .slice p n c) : v.cells = #[v] ∧ v.oneCell' = true := by
  obtain ⟨p, n, c, rfl⟩ := h
  exact ⟨rfl, rfl⟩
theorem sl24 : Try.prog.underlying 24 = some (.slice (Try.prog.elem 24)) := by kernel_rfl
theorem und24 : Try.prog.underlying 24 = some (.slice 43) := Try.underlying24
theorem size43 : (Try.prog.info? 43).map (·.size) = some 4 := by kernel_rfl
theorem run_lenP {w0 w : World} {a : Act} {o : Oper} {v : Value} {ps : List Pc} (hin : PlIn w0 v ps) (x : Operand) (ho : o.op = .call { callee := .builtin .len, args := #[x], argTypes := #[24] }) (hx : a.eval x = v) : (execOp a.eval o).run Try.prog w = .ok (.value (.int .i64 (ps.length : Nat))) w := by
  obtain ⟨p, cap, rfl, _⟩ := hin
  exact run_lenZ sl24 x ho p _ cap hx
theorem ix_place {w : World} {v : Value} {ps : List Pc} (hin : PlIn w v ps) (i : Nat) (p : Pc) (h : ps[i]? = some p) :
    ∃ b off, (∀ w', (Instr.indexAt 24 v (.int .i64 (i : Nat))).run Try.prog w' = .ok (.pointer (some ⟨b, off, none⟩)) w') ∧ ∀ j u, (pcells p)[j]? = some u → w.cell? ⟨b, off + j, none⟩ = some u := by
  obtain ⟨q, cap, rfl, hl, hin⟩ := hin
  have hi : i < ps.length := (List.getElem?_eq_some_iff.1 h).1
  obtain ⟨i5, hi5, hsz⟩ := Option.map_eq_some_iff.1 size43
  rcases hin with rfl | ⟨b, off, rfl, hc⟩
  · simp at hi
  · refine ⟨b, off + i * 4, fun w' => by simp [Instr.indexAt, asIntOf, run_underlying und24, hi, sizeOf, typeInfo, hi5, hsz, add_none], fun j u hu => ?_⟩
    have hj : j < 4 := by simpa [pcells] using (List.getElem?_eq_some_iff.1 hu).1
    rw [Nat.add_assoc, hc (i * 4 + j) (by omega), pcs_at ps i p h j hj, hu]

/-- a record as cells -/
def rcells (r : Rc) (vc : Value) : List Value := str r.id :: .int .i64 r.length :: (bcells r.root ++ [.int .i64 r.index, .int .i64 r.expiry, .bool r.hold, .bool r.gone, vc])
/-- what a record's parts are -/
structure Fits (w : World) (r : Rc) (vc : Value) : Prop where
  root : r.root.length = 32
  id : ∀ c ∈ r.id, c < 256
  bytes : ∀ c ∈ r.root, c < 256
  cp : PlIn w vc r.cp
theorem Fits.later {w w' : World} {r : Rc} {vc : Value} (h : Fits w r vc) (hb : Below w.heap.size w w') : Fits w' r vc := ⟨h.root, h.id, h.bytes, h.cp.later hb⟩
theorem rcells_length {r : Rc} (vc : Value) (h : r.root.length = 32) : (rcells r vc).length = 39 := by simp [rcells, bcells_length, h]
theorem rcells_one {w : World} {r : Rc} {vc : Value} (h : Fits w r vc) : ∀ v ∈ rcells r vc, v.oneCell' = true := by
  intro v hv
  simp only [rcells, List.mem_cons, List.mem_append, List.not_mem_nil, or_false] at hv
  rcases hv with rfl | rfl | hv | rfl | rfl | rfl | rfl | rfl
  · rfl
  · rfl
  · exact bcells_one _ v hv
  · rfl
  · rfl
  · rfl
  · rfl
  · exact (slice_one h.cp.isSlice).2
theorem rc0 (r : Rc) (vc : Value) : (rcells r vc)[0]? = some (str r.id) := rfl
theorem rc1 (r : Rc) (vc : Value) : (rcells r vc)[1]? = some (.int .i64 r.length) := rfl
theorem rcB {r : Rc} (vc : Value) (h : r.root.length = 32) (k : Nat) : (rcells r vc)[34 + k]? = [Value.int .i64 r.index, .int .i64 r.expiry, .bool r.hold, .bool r.gone, vc][k]? := by
  rw [show 34 + k = (32 + k) + 1 + 1 by omega]
  simp only [rcells, List.getElem?_cons_succ]
  rw [List.getElem?_append_right (by rw [bcells_length, h]; omega), bcells_length, h]
  congr 1
  omega
theorem rcR {r : Rc} (vc : Value) (h : r.root.length = 32) : ∀ j v, (bcells r.root)[j]? = some v → (rcells r vc)[2 + j]? = some v := by
  intro j v hv
  have hj : j < 32 := by rw [← h, ← bcells_length]; exact (List.getElem?_eq_some_iff.1 hv).1
  rw [show 2 + j = j + 1 + 1 by omega]
  simp only [rcells, List.getElem?_cons_succ]
  rw [List.getElem?_append_left (by rw [bcells_length, h]; exact hj), hv]
theorem entryHolds_any (id : List Nat) (hb : ∀ c ∈ id, c < 256) (n : Int) (w : World) : Calls Try.prog 25 #[str id, .int .i64 n] w fun e w' => e = .returned (.bool (entB id n)) ∧ w = w' := by
  have HN := fun W => name_any id hb W
  have HW := fun W => within_any n 512 W
  unfold entB
  generalize nameB id = b1 at HN ⊢
  generalize inB n 512 = b2 at HW ⊢
  obtain ⟨vs, hvs⟩ : ∃ vs, vs = str id := ⟨_, rfl⟩
  rw [← hvs]
  have HN : Hid (∀ W, Calls Try.prog 13 #[vs] W fun e w' => e = .returned (.bool b1) ∧ W = w') := by rw [hvs]; exact HN
  have HW : Hid (∀ W, Calls Try.prog 33 #[.int .i64 n, .int .i64 512] W fun e w' => e = .returned (.bool b2) ∧ W = w') := HW
  clear hvs
  cases b1 with
  | true =>
    go_enter Try.func25, Try.ntmps25
    go_wp2_with (first
      | (go_at_call 13; refine (HN.out _).mono ?_; rintro e w1 ⟨rfl, rfl⟩)
      | (go_at_call 33; refine (HW.out _).mono ?_; rintro e w1 ⟨rfl, rfl⟩))
    all_goals (first | exact ⟨rfl, rfl⟩ | (go_ret; exact ⟨rfl, rfl⟩))
  | false =>
    go_enter Try.func25, Try.ntmps25
    go_wp2_with (first
      | (go_at_call 13; refine (HN.out _).mono ?_; rintro e w1 ⟨rfl, rfl⟩)
      | (go_at_call 33; refine (HW.out _).mono ?_; rintro e w1 ⟨rfl, rfl⟩))
    all_goals (first | exact ⟨rfl, rfl⟩ | (go_ret; exact ⟨rfl, rfl⟩))
set_option maxHeartbeats 1000000 in
theorem copyHolds_any (p : Pc) (w : World) : Calls Try.prog 34 #[.agg (pcells p).toArray] w fun e w' => e = .returned (.bool (pcB p)) ∧ Below w.heap.size w w' := by
  have H1 := fun W => within_any p.dev 11 W
  have H2 := fun W => within_any p.pl 4095 W
  have H3 := fun W => within_any p.len 255 W
  unfold pcB
  generalize inB p.dev 11 = b1 at H1 ⊢
  generalize inB p.pl 4095 = b2 at H2 ⊢
  generalize inB p.len 255 = b3 at H3 ⊢
  have H : Hid ((∀ W, Calls Try.prog 33 #[.int .i64 p.dev, .int .i64 11] W fun e w' => e = .returned (.bool b1) ∧ W = w') ∧ (∀ W, Calls Try.prog 33 #[.int .i64 p.pl, .int .i64 4095] W fun e w' => e = .returned (.bool b2) ∧ W = w') ∧ (∀ W, Calls Try.prog 33 #[.int .i64 p.len, .int .i64 255] W fun e w' => e = .returned (.bool b3) ∧ W = w')) := ⟨H1, H2, H3⟩
  clear H1 H2 H3
  obtain ⟨PQ, HPQ⟩ : ∃ PQ : Ending → World → Prop, Hid (PQ = fun e w' => e = .returned (.bool (b1 && b2 && b3)) ∧ Below w.heap.size w w') := ⟨_, rfl⟩
  rw [← HPQ.out]
  have R0 : Hid (Loc w w []) := Loc.nil (Below.refl _ w)
  go_enter Try.func34, Try.ntmps34
  go_upto_region 0 with fail
  refine wp_region_lit ?_
  refine wl rfl (ptr w.heap.size) _ (run_boxA (.tmp 0) rfl (pcells p) rfl) ?_
  have k_ := R0.out.box 43 (pcells p)
  obtain ⟨w1, hW_⟩ : ∃ W, W = w.alloc (.cells (pcells p).toArray 43) := ⟨_, rfl⟩
  obtain ⟨q, hq_⟩ : ∃ q, q = w.heap.size := ⟨_, rfl⟩
  rw [← hW_, ← hq_] at k_
  rw [← hW_, ← hq_]
  clear hq_
  have Rw1 : Hid (Loc w w1 [(q, 43, pcells p)]) := k_
  clear k_ hW_ R0
  simp only [Act.put, List.setIfInBounds_toArray, List.set_cons_succ, List.set_cons_zero]
  refine wl rfl (.bool false) _ (run_asZ (.const (.bool false)) rfl (.bool false) rfl) ?_
  simp only [Act.put, List.setIfInBounds_toArray, List.set_cons_succ, List.set_cons_zero]
  refine wpList_nil ?_
  cases b1 with
  | false =>
    go_upto_region 1 with fail
    refine wp_region_lit ?_
    refine wl rfl (.pointer (some ⟨q, 0 + 0, none⟩)) _ (run_fieldOp' f43_0 (.tmp 1) rfl q (0) rfl) ?_
    simp only [Act.put, List.setIfInBounds_toArray, List.set_cons_succ, List.set_cons_zero]
    refine wl rfl (.int .i64 p.dev) _ (run_load1 o3 (.tmp 3) rfl q (0 + 0) rfl (.int .i64 p.dev) ((Rw1.out.at 0 rfl).at 0 _ rfl)) ?_
    simp only [Act.put, List.setIfInBounds_toArray, List.set_cons_succ, List.set_cons_zero]
    refine wpList_callW eN33 [.tmp 4, .const ((.int .i64 11))] _ rfl rfl [(.int .i64 p.dev), (.int .i64 11)] rfl ?_
    refine (H.out.1 w1).mono ?_
    rintro e w2 ⟨rfl, rfl⟩
    refine ⟨_, rfl, ?_⟩
    simp only [Act.put, List.setIfInBounds_toArray, List.set_cons_succ, List.set_cons_zero]
    refine wl rfl (.bool false) _ (run_mvZ (.tmp 5) rfl (.bool false) rfl) ?_
    simp only [Act.put, List.setIfInBounds_toArray, List.set_cons_succ, List.set_cons_zero]
    refine wpList_skip (by kernel_rfl) ?_
    simp only [Act.put, List.setIfInBounds_toArray, List.set_cons_succ, List.set_cons_zero]
    refine wpList_skip (by kernel_rfl) ?_
    simp only [Act.put, List.setIfInBounds_toArray, List.set_cons_succ, List.set_cons_zero]
    refine wpList_skip (by kernel_rfl) ?_
    simp only [Act.put, List.setIfInBounds_toArray, List.set_cons_succ, List.set_cons_zero]
    refine wl rfl (.bool false) _ (run_pickZ (.tmp 6) (.tmp 9) (.const (.bool false)) rfl false (.bool false) rfl rfl) ?_
    simp only [Act.put, List.setIfInBounds_toArray, List.set_cons_succ, List.set_cons_zero]
    refine wl rfl (.bool false) _ (run_mvZ (.tmp 10) rfl (.bool false) rfl) ?_
    simp only [Act.put, List.setIfInBounds_toArray, List.set_cons_succ, List.set_cons_zero]
    refine wpList_skip (by kernel_rfl) ?_
    simp only [Act.put, List.setIfInBounds_toArray, List.set_cons_succ, List.set_cons_zero]
    refine wpList_skip (by kernel_rfl) ?_
    simp only [Act.put, List.setIfInBounds_toArray, List.set_cons_succ, List.set_cons_zero]
    refine wpList_skip (by kernel_rfl) ?_
    simp only [Act.put, List.setIfInBounds_toArray, List.set_cons_succ, List.set_cons_zero]
    refine wl rfl (.bool false) _ (run_pickZ (.tmp 11) (.tmp 14) (.const (.bool false)) rfl false (.bool false) rfl rfl) ?_
    simp only [Act.put, List.setIfInBounds_toArray, List.set_cons_succ, List.set_cons_zero]
    refine wl rfl (.bool false) _ (run_asZ (.tmp 15) rfl (.bool false) rfl) ?_
    simp only [Act.put, List.setIfInBounds_toArray, List.set_cons_succ, List.set_cons_zero]
    refine wpList_nil ?_
    go_wp2_with fail
    rw [HPQ.out]
    exact ⟨rfl, Rw1.out.below⟩
  | true =>
    cases b2 with
    | false =>
      go_upto_region 1 with fail
      refine wp_region_lit ?_
      refine wl rfl (.pointer (some ⟨q, 0 + 0, none⟩)) _ (run_fieldOp' f43_0 (.tmp 1) rfl q (0) rfl) ?_
      simp only [Act.put, List.setIfInBounds_toArray, List.set_cons_succ, List.set_cons_zero]
      refine wl rfl (.int .i64 p.dev) _ (run_load1 o3 (.tmp 3) rfl q (0 + 0) rfl (.int .i64 p.dev) ((Rw1.out.at 0 rfl).at 0 _ rfl)) ?_
      simp only [Act.put, List.setIfInBounds_toArray, List.set_cons_succ, List.set_cons_zero]
      refine wpList_callW eN33 [.tmp 4, .const ((.int .i64 11))] _ rfl rfl [(.int .i64 p.dev), (.int .i64 11)] rfl ?_
      refine (H.out.1 w1).mono ?_
      rintro e w2 ⟨rfl, rfl⟩
      refine ⟨_, rfl, ?_⟩
      simp only [Act.put, List.setIfInBounds_toArray, List.set_cons_succ, List.set_cons_zero]
      refine wl rfl (.bool true) _ (run_mvZ (.tmp 5) rfl (.bool true) rfl) ?_
      simp only [Act.put, List.setIfInBounds_toArray, List.set_cons_succ, List.set_cons_zero]
      refine wl (by kernel_rfl) (.pointer (some ⟨q, 0 + 1, none⟩)) _ (run_fieldOp' f43_1 (.tmp 1) rfl q (0) rfl) ?_
      simp only [Act.put, List.setIfInBounds_toArray, List.set_cons_succ, List.set_cons_zero]
      refine wl (by kernel_rfl) (.int .i64 p.pl) _ (run_load1 o3 (.tmp 7) rfl q (0 + 1) rfl (.int .i64 p.pl) ((Rw1.out.at 0 rfl).at 1 _ rfl)) ?_
      simp only [Act.put, List.setIfInBounds_toArray, List.set_cons_succ, List.set_cons_zero]
      refine wpList_callW eN33 [.tmp 8, .const ((.int .i64 4095))] _ rfl rfl [(.int .i64 p.pl), (.int .i64 4095)] rfl ?_
      refine (H.out.2.1 w1).mono ?_
      rintro e w2 ⟨rfl, rfl⟩
      refine ⟨_, rfl, ?_⟩
      simp only [Act.put, List.setIfInBounds_toArray, List.set_cons_succ, List.set_cons_zero]
      refine wl rfl (.bool false) _ (run_pickZ (.tmp 6) (.tmp 9) (.const (.bool false)) rfl true (.bool false) rfl rfl) ?_
      simp only [Act.put, List.setIfInBounds_toArray, List.set_cons_succ, List.set_cons_zero]
      refine wl rfl (.bool false) _ (run_mvZ (.tmp 10) rfl (.bool false) rfl) ?_
      simp only [Act.put, List.setIfInBounds_toArray, List.set_cons_succ, List.set_cons_zero]
      refine wpList_skip (by kernel_rfl) ?_
      simp only [Act.put, List.setIfInBounds_toArray, List.set_cons_succ, List.set_cons_zero]
      refine wpList_skip (by kernel_rfl) ?_
      simp only [Act.put, List.setIfInBounds_toArray, List.set_cons_succ, List.set_cons_zero]
      refine wpList_skip (by kernel_rfl) ?_
      simp only [Act.put, List.setIfInBounds_toArray, List.set_cons_succ, List.set_cons_zero]
      refine wl rfl (.bool false) _ (run_pickZ (.tmp 11) (.tmp 14) (.const (.bool false)) rfl false (.bool false) rfl rfl) ?_
      simp only [Act.put, List.setIfInBounds_toArray, List.set_cons_succ, List.set_cons_zero]
      refine wl rfl (.bool false) _ (run_asZ (.tmp 15) rfl (.bool false) rfl) ?_
      simp only [Act.put, List.setIfInBounds_toArray, List.set_cons_succ, List.set_cons_zero]
      refine wpList_nil ?_
      go_wp2_with fail
      rw [HPQ.out]
      exact ⟨rfl, Rw1.out.below⟩
    | true =>
      go_upto_region 1 with fail
      refine wp_region_lit ?_
      refine wl rfl (.pointer (some ⟨q, 0 + 0, none⟩)) _ (run_fieldOp' f43_0 (.tmp 1) rfl q (0) rfl) ?_
      simp only [Act.put, List.setIfInBounds_toArray, List.set_cons_succ, List.set_cons_zero]
      refine wl rfl (.int .i64 p.dev) _ (run_load1 o3 (.tmp 3) rfl q (0 + 0) rfl (.int .i64 p.dev) ((Rw1.out.at 0 rfl).at 0 _ rfl)) ?_
      simp only [Act.put, List.setIfInBounds_toArray, List.set_cons_succ, List.set_cons_zero]
      refine wpList_callW eN33 [.tmp 4, .const ((.int .i64 11))] _ rfl rfl [(.int .i64 p.dev), (.int .i64 11)] rfl ?_
      refine (H.out.1 w1).mono ?_
      rintro e w2 ⟨rfl, rfl⟩
      refine ⟨_, rfl, ?_⟩
      simp only [Act.put, List.setIfInBounds_toArray, List.set_cons_succ, List.set_cons_zero]
      refine wl rfl (.bool true) _ (run_mvZ (.tmp 5) rfl (.bool true) rfl) ?_
      simp only [Act.put, List.setIfInBounds_toArray, List.set_cons_succ, List.set_cons_zero]
      refine wl (by kernel_rfl) (.pointer (some ⟨q, 0 + 1, none⟩)) _ (run_fieldOp' f43_1 (.tmp 1) rfl q (0) rfl) ?_
      simp only [Act.put, List.setIfInBounds_toArray, List.set_cons_succ, List.set_cons_zero]
      refine wl (by kernel_rfl) (.int .i64 p.pl) _ (run_load1 o3 (.tmp 7) rfl q (0 + 1) rfl (.int .i64 p.pl) ((Rw1.out.at 0 rfl).at 1 _ rfl)) ?_
      simp only [Act.put, List.setIfInBounds_toArray, List.set_cons_succ, List.set_cons_zero]
      refine wpList_callW eN33 [.tmp 8, .const ((.int .i64 4095))] _ rfl rfl [(.int .i64 p.pl), (.int .i64 4095)] rfl ?_
      refine (H.out.2.1 w1).mono ?_
      rintro e w2 ⟨rfl, rfl⟩
      refine ⟨_, rfl, ?_⟩
      simp only [Act.put, List.setIfInBounds_toArray, List.set_cons_succ, List.set_cons_zero]
      refine wl rfl (.bool true) _ (run_pickZ (.tmp 6) (.tmp 9) (.const (.bool false)) rfl true (.bool true) rfl rfl) ?_
      simp only [Act.put, List.setIfInBounds_toArray, List.set_cons_succ, List.set_cons_zero]
      refine wl rfl (.bool true) _ (run_mvZ (.tmp 10) rfl (.bool true) rfl) ?_
      simp only [Act.put, List.setIfInBounds_toArray, List.set_cons_succ, List.set_cons_zero]
      refine wl (by kernel_rfl) (.pointer (some ⟨q, 0 + 2, none⟩)) _ (run_fieldOp' f43_2 (.tmp 1) rfl q (0) rfl) ?_
      simp only [Act.put, List.setIfInBounds_toArray, List.set_cons_succ, List.set_cons_zero]
      refine wl (by kernel_rfl) (.int .i64 p.len) _ (run_load1 o3 (.tmp 12) rfl q (0 + 2) rfl (.int .i64 p.len) ((Rw1.out.at 0 rfl).at 2 _ rfl)) ?_
      simp only [Act.put, List.setIfInBounds_toArray, List.set_cons_succ, List.set_cons_zero]
      refine wpList_callW eN33 [.tmp 13, .const ((.int .i64 255))] _ rfl rfl [(.int .i64 p.len), (.int .i64 255)] rfl ?_
      refine (H.out.2.2 w1).mono ?_
      rintro e w2 ⟨rfl, rfl⟩
      refine ⟨_, rfl, ?_⟩
      simp only [Act.put, List.setIfInBounds_toArray, List.set_cons_succ, List.set_cons_zero]
      refine wl rfl (.bool b3) _ (run_pickZ (.tmp 11) (.tmp 14) (.const (.bool false)) rfl true (.bool b3) rfl rfl) ?_
      simp only [Act.put, List.setIfInBounds_toArray, List.set_cons_succ, List.set_cons_zero]
      refine wl rfl (.bool b3) _ (run_asZ (.tmp 15) rfl (.bool b3) rfl) ?_
      simp only [Act.put, List.setIfInBounds_toArray, List.set_cons_succ, List.set_cons_zero]
      refine wpList_nil ?_
      go_wp2_with fail
      rw [HPQ.out]
      exact ⟨rfl, Rw1.out.below⟩

end Go.Proofs.Ytncjmolhofnpbaa

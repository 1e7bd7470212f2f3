/- Layer 9: sectors read and written. -/
import Derived.Test.YtkpnflgnhhfjoaaDoorZ21
namespace Go.Proofs.YtkpnflgnhhfjoaaDoor
open Go.RowKit Go.Maps
open Fr.Frame (be val)

def Nx (w : World) (c : Nat → Colour) (t g : Nat) (m' : Pl) (w' : World) : Prop := ∃ c', (∀ b, b < w.heap.size → c' b = c b) ∧ Live w' c' t g m' ∧ Ch (fun b => (c b).1 = t) w w'
section
variable {w w1 w2 : World} {c c1 : Nat → Colour} {t g : Nat} {m m1 m2 : Pl}
theorem Next.nx (h : Next w c t g m w1) : Nx w c t g m w1 := by
  obtain ⟨c', h1, _, h3, h4⟩ := h
  exact ⟨c', h1, h3, h4⟩
theorem Nx.after (hcc : ∀ b, b < w.heap.size → c1 b = c b) (hch : Ch (fun b => (c b).1 = t) w w1) (h : Nx w1 c1 t g m2 w2) : Nx w c t g m2 w2 := by
  obtain ⟨c', h1, h3, h4⟩ := h
  refine ⟨c', fun b hb => by rw [h1 b (Nat.lt_of_lt_of_le hb hch.size), hcc b hb], h3, hch.trans' h4 fun b hb e => by rw [← hcc b hb]; exact e⟩
/-- a block of another's -/
theorem Nx.block (h : Nx w c t g m w1) (b : Nat) (hb : b < w.heap.size) (hc : (c b).1 ≠ t) : w1.heap[b]? = w.heap[b]? := by obtain ⟨_, _, _, h4⟩ := h; exact h4.block b hb hc
end
theorem below_alloc' (w : World) (o : Obj) : Below w.heap.size w (w.alloc o) := (Below.refl _ _).alloc (Nat.le_refl _) _
theorem whole_slice64 {w : World} {g T : Nat} {s : List Nat} (h : Row w g T (bcells s)) (hs : Sec s) : SliceIn w (.slice (some ⟨g, 0 + 0, none⟩) 64 64) s :=
  ⟨_, 64, by rw [hs.1], ⟨by rw [hs.1]; exact Nat.le_refl _, by rw [hs.1]; decide⟩, Or.inr ⟨g, 0, rfl, fun j hj => by rw [Nat.zero_add]; exact h.at j _ (bat hj), Fr.Frame.getD_lt hs.2⟩⟩
/-- a disk of a plant that is on -/
structure DkOn (m : Pl) (ds ts : List Nat) (i : Nat) : Prop where
  shape : ShapeOf m ds ts
  lt : i < ds.length
  on : m.on = true
  steps : m.steps + 20 < 1099511627775
theorem DkOn.ltn {m : Pl} {ds ts : List Nat} {i : Nat} (h : DkOn m ds ts i) : i < m.n := by rw [h.shape.n]; have := h.lt; omega
theorem DkOn.len {m : Pl} {ds ts : List Nat} {i : Nat} (h : DkOn m ds ts i) : m.len i = ds.getD i 0 := by
  unfold Pl.len
  rw [(h.shape.disk i h.lt).1, (h.shape.disk i h.lt).2]
  rfl
theorem bc64 (s : List Nat) (h : s.length = 64) : (bcells s).length = 64 := by rw [bcells_length]; exact h
theorem z64 : (zerosU8 64).length = 64 := by simp [zerosU8]
theorem splice64 (s : List Nat) (h : s.length = 64) : splice (zerosU8 64) 0 (bcells s) = bcells s := splice_all _ _ (by rw [bc64 s h, z64])
set_option maxHeartbeats 4000000 in
set_option maxRecDepth 100000 in
theorem readSector_any {w : World} {c : Nat → Colour} {t g : Nat} {m : Pl} (h : Live w c t g m) {ds ts : List Nat} {i : Nat} (hd : DkOn m ds ts i) (p : Nat) (hp : p < ds.getD i 0) : Calls Tryd.prog 76 #[ptr g, .int .i64 (i : Nat), .int .i64 (p : Nat)] w fun e w' => e = .returned (.tuple #[.agg (bcells (m.rd i p)).toArray, .int .i64 0]) ∧ Below w.heap.size w w' := by
  obtain ⟨s, hs⟩ : ∃ s, s = m.rd i p := ⟨_, rfl⟩
  have HS : Hid (s.length = 64) := by show _ = _; rw [hs]; exact (Pl.rd_sec h.2.1 i p).1
  have HRD : Hid (∀ W, Below w.heap.size w W → Calls Tryd.prog 31 #[ptr g, .int .i64 (i : Nat), .int .i64 (p : Nat)] W fun e w' => ∃ b, e = .returned (.tuple #[.slice (some ⟨b, 0, none⟩) 64 64, .int .i64 0]) ∧ W.heap.size ≤ b ∧ Row w' b 5 (bcells s) ∧ Below W.heap.size W w') := fun W hW => by
    rw [hs]
    exact (h.below hW).read (by have := hd.steps; omega) hd.on i p hd.ltn (by rw [hd.len]; exact hp)
  obtain ⟨PQ, hPQ⟩ : ∃ PQ : Ending → World → Prop, PQ = fun (e : Ending) (w' : World) => e = .returned (.tuple #[.agg (bcells s).toArray, .int .i64 0]) ∧ Below w.heap.size w w' := ⟨_, rfl⟩
  have HPQ : Hid (PQ = fun (e : Ending) (w' : World) => e = .returned (.tuple #[.agg (bcells s).toArray, .int .i64 0]) ∧ Below w.heap.size w w') := hPQ
  rw [← hs, ← hPQ]
  clear hs hPQ h hd hp
  have R0 : Hid (Loc w w []) := Loc.nil (Below.refl _ w)
  go_enter Tryd.func76, Tryd.ntmps76
  go_upto_region 0 with fail
  refine wp_region_lit ?_
  refine wl rfl (ptr w.heap.size) _ (run_allocA (zerosU8 64) zero122 rfl) ?_
  have k_ := R0.out.box 122 (zerosU8 64)
  obtain ⟨w1, hW_⟩ : ∃ W, W = w.alloc (.cells (zerosU8 64).toArray 122) := ⟨_, rfl⟩
  obtain ⟨q1, hq_⟩ : ∃ q, q = w.heap.size := ⟨_, rfl⟩
  rw [← hW_, ← hq_] at k_
  rw [← hW_, ← hq_]
  clear hq_
  have Rw1 : Hid (Loc w w1 [(q1, 122, zerosU8 64)]) := k_
  clear k_ hW_ R0
  simp only [Act.put, aS, aC, aZ]
  refine wl rfl (.int .i64 0) _ (run_asZ (.const (.int .i64 0)) rfl (.int .i64 0) rfl) ?_
  simp only [Act.put, aS, aC, aZ]
  refine wpList_nil ?_
  go_upto_region 1 with fail
  refine wp_region_lit ?_
  refine wl rfl (ptr g) _ (run_mvZ (.tmp 0) rfl (ptr g) rfl) ?_
  simp only [Act.put, aS, aC, aZ]
  refine wl rfl (.int .i64 (i : Nat)) _ (run_mvZ (.tmp 1) rfl (.int .i64 (i : Nat)) rfl) ?_
  simp only [Act.put, aS, aC, aZ]
  refine wl rfl (.int .i64 (p : Nat)) _ (run_mvZ (.tmp 2) rfl (.int .i64 (p : Nat)) rfl) ?_
  simp only [Act.put, aS, aC, aZ]
  refine wpList_callW eN31 [.tmp 12, .tmp 13, .tmp 14] _ rfl rfl [(ptr g), (.int .i64 (i : Nat)), (.int .i64 (p : Nat))] rfl ?_
  refine (HRD.out w1 Rw1.out.below).mono ?_
  rintro e w2 ⟨b, rfl, hb, r2, b2⟩
  refine ⟨_, rfl, ?_⟩
  have RB : Hid (Row w2 b 5 (bcells s)) := r2
  have Rw2 : Hid (Loc w w2 [(q1, 122, zerosU8 64)]) := Rw1.out.later b2
  clear r2 b2 Rw1 hb
  simp only [Act.put, aS, aC, aZ]
  refine wl rfl (.tuple #[(.slice (some ⟨b, 0, none⟩) 64 64), (.int .i64 0)]) _ (run_mvZ (.tmp 15) rfl (.tuple #[(.slice (some ⟨b, 0, none⟩) 64 64), (.int .i64 0)]) rfl) ?_
  simp only [Act.put, aS, aC, aZ]
  refine wl rfl (.slice (some ⟨b, 0, none⟩) 64 64) _ (run_extZ (.tmp 11) 0 rfl #[(.slice (some ⟨b, 0, none⟩) 64 64), (.int .i64 0)] rfl (.slice (some ⟨b, 0, none⟩) 64 64) rfl) ?_
  simp only [Act.put, aS, aC, aZ]
  refine wl rfl (.int .i64 0) _ (run_extZ (.tmp 11) 1 rfl #[(.slice (some ⟨b, 0, none⟩) 64 64), (.int .i64 0)] rfl (.int .i64 0) rfl) ?_
  simp only [Act.put, aS, aC, aZ]
  refine wl rfl (.slice (some ⟨b, 0, none⟩) 64 64) _ (run_asZ (.tmp 16) rfl (.slice (some ⟨b, 0, none⟩) 64 64) rfl) ?_
  simp only [Act.put, aS, aC, aZ]
  refine wl rfl (.int .i64 0) _ (run_asZ (.tmp 17) rfl (.int .i64 0) rfl) ?_
  simp only [Act.put, aS, aC, aZ]
  refine wpList_nil ?_
  go_upto_region 2 with fail
  refine wp_region_lit ?_
  refine wl rfl (.int .i64 0) _ (run_mvZ (.tmp 9) rfl (.int .i64 0) rfl) ?_
  simp only [Act.put, aS, aC, aZ]
  refine wl rfl (.bool false) _ (run_neZ (.tmp 18) (.const (.int .i64 0)) rfl (0) (0) rfl rfl false rfl) ?_
  simp only [Act.put, aS, aC, aZ]
  refine wpList_nil ?_
  go_upto_region 4 with fail
  refine wp_region_lit ?_
  refine wl rfl (ptr w2.heap.size) _ (run_allocA (zerosU8 64) zero122 rfl) ?_
  have k_ := Rw2.out.box 122 (zerosU8 64)
  have k9 := RB.out.later (below_alloc' w2 (.cells (zerosU8 64).toArray 122)) RB.out.lt
  obtain ⟨w3, hW_⟩ : ∃ W, W = w2.alloc (.cells (zerosU8 64).toArray 122) := ⟨_, rfl⟩
  rw [← hW_] at k9
  have RB3 : Hid (Row w3 b 5 (bcells s)) := k9
  clear k9 RB
  obtain ⟨q2, hq_⟩ : ∃ q, q = w2.heap.size := ⟨_, rfl⟩
  rw [← hW_, ← hq_] at k_
  rw [← hW_, ← hq_]
  clear hq_
  have Rw3 : Hid (Loc w w3 [(q1, 122, zerosU8 64), (q2, 122, zerosU8 64)]) := k_
  clear k_ hW_ Rw2
  simp only [Act.put, aS, aC, aZ]
  refine wpList_nil ?_
  go_upto_region 5 with fail
  refine wp_region_lit ?_
  refine wl rfl (.slice (some ⟨q2, 0 + 0, none⟩) (64) (64)) _ (run_slA arr122 (.tmp 10) none none rfl q2 (0) 0 64 rfl ⟨(Or.inl ⟨rfl, rfl⟩), (Or.inl ⟨rfl, rfl⟩), by omega, by omega, by omega⟩) ?_
  simp only [Act.put, aS, aC, aZ]
  refine wl rfl (.slice (some ⟨b, 0, none⟩) 64 64) _ (run_mvZ (.tmp 8) rfl (.slice (some ⟨b, 0, none⟩) 64 64) rfl) ?_
  simp only [Act.put, aS, aC, aZ]
  refine wl rfl (.int .i64 (64 : Nat)) _ (run_copyL (.tmp 22) (.tmp 23) rfl Rw3.out 1 rfl 0 64 64 b 0 64 64 64 rfl rfl s HS.out rfl (fun j hj => by rw [Nat.zero_add]; exact RB3.out.at j _ (bat hj)) (by rw [z64]; decide)).1 ?_
  have k_ := Rw3.out.lay 1 rfl 0 (bcells s)
  rw [splice64 s HS.out] at k_ ⊢
  obtain ⟨w4, hW_⟩ : ∃ W, W = w3.setRow q2 (bcells s).toArray := ⟨_, rfl⟩
  rw [← hW_] at k_ ⊢
  have Rw4 : Hid (Loc w w4 [(q1, 122, zerosU8 64), (q2, 122, bcells s)]) := k_
  clear k_ hW_ Rw3 RB3
  simp only [Act.put, aS, aC, aZ]
  refine wpList_nil ?_
  go_upto_region 6 with fail
  refine wp_region_lit ?_
  refine wl rfl (.agg (bcells s).toArray) _ (run_loadA ag122 (.tmp 10) rfl q2 (0) rfl (bcells s) (bc64 s HS.out) (rows_all Rw4.out 1 rfl)) ?_
  simp only [Act.put, aS, aC, aZ]
  refine wlS rfl rfl _ (run_storeL ag122 (.tmp 6) (.tmp 25) rfl Rw4.out 0 rfl (0) rfl (bcells s) rfl (bc64 s HS.out) (by rw [bc64 s HS.out, z64]; decide) (bcells_one s)).1 ?_
  have k_ := Rw4.out.lay 0 rfl (0) (bcells s)
  rw [splice64 s HS.out] at k_ ⊢
  obtain ⟨w5, hW_⟩ : ∃ W, W = w4.setRow q1 (bcells s).toArray := ⟨_, rfl⟩
  rw [← hW_] at k_ ⊢
  have Rw5 : Hid (Loc w w5 [(q1, 122, bcells s), (q2, 122, bcells s)]) := k_
  clear k_ hW_ Rw4
  refine wl rfl (.int .i64 0) _ (run_asZ (.const (.int .i64 0)) rfl (.int .i64 0) rfl) ?_
  simp only [Act.put, aS, aC, aZ]
  refine wpList_nil ?_
  go_wp2_with fail
  rw [HPQ.out]
  exact bodyPost_ret (results_cell_tmp ag122 Tryd.results76 _ _ q1 122 rfl (bcells s) (bc64 s HS.out) (Rw5.out.at 0 rfl)) rfl ⟨rfl, Rw5.out.below⟩
set_option maxHeartbeats 4000000 in
set_option maxRecDepth 100000 in
theorem writeSector_any {w : World} {c : Nat → Colour} {t g : Nat} {m : Pl} (h : Live w c t g m) (hst : m.steps + 20 < 1099511627775) (d p : Int) (s : List Nat) (hs : Sec s) : Calls Tryd.prog 66 #[ptr g, .int .i64 d, .int .i64 p, .agg (bcells s).toArray] w fun e w' => e = .returned (.int .i64 (m.write d p s).1) ∧ Nx w c t g (m.write d p s).2 w' := by
  obtain ⟨er, her⟩ : ∃ er, er = (m.write d p s).1 := ⟨_, rfl⟩
  obtain ⟨M, hM⟩ : ∃ M, M = (m.write d p s).2 := ⟨_, rfl⟩
  have HW : Hid (∀ W v, Below w.heap.size w W → SliceIn W v s → Calls Tryd.prog 33 #[ptr g, .int .i64 d, .int .i64 p, v] W fun e w' => e = .returned (.int .i64 er) ∧ Nx w c t g M w') := fun W v hW hv => by
    refine ((h.below hW).write (by omega) d p v s hv).mono fun e w' he => ⟨by rw [her]; exact he.1, ?_⟩
    rw [hM]
    exact Nx.after (fun _ _ => rfl) (Ch.of_below hW) he.2.nx
  have HS : Hid (Sec s) := hs
  obtain ⟨PQ, hPQ⟩ : ∃ PQ : Ending → World → Prop, PQ = fun (e : Ending) (w' : World) => e = .returned (.int .i64 er) ∧ Nx w c t g M w' := ⟨_, rfl⟩
  have HPQ : Hid (PQ = fun (e : Ending) (w' : World) => e = .returned (.int .i64 er) ∧ Nx w c t g M w') := hPQ
  rw [← her, ← hM, ← hPQ]
  clear her hM hPQ h hst hs
  have R0 : Hid (Loc w w []) := Loc.nil (Below.refl _ w)
  go_enter Tryd.func66, Tryd.ntmps66
  go_upto_region 0 with fail
  refine wp_region_lit ?_
  refine wl rfl (ptr w.heap.size) _ (run_boxA (.tmp 3) rfl (bcells s) rfl) ?_
  have k_ := R0.out.box 122 (bcells s)
  obtain ⟨w1, hW_⟩ : ∃ W, W = w.alloc (.cells (bcells s).toArray 122) := ⟨_, rfl⟩
  obtain ⟨q1, hq_⟩ : ∃ q, q = w.heap.size := ⟨_, rfl⟩
  rw [← hW_, ← hq_] at k_
  rw [← hW_, ← hq_]
  clear hq_
  have Rw1 : Hid (Loc w w1 [(q1, 122, bcells s)]) := k_
  clear k_ hW_ R0
  simp only [Act.put, aS, aC, aZ]
  refine wl rfl (.int .i64 0) _ (run_asZ (.const (.int .i64 0)) rfl (.int .i64 0) rfl) ?_
  simp only [Act.put, aS, aC, aZ]
  refine wpList_nil ?_
  go_upto_region 1 with fail
  refine wp_region_lit ?_
  refine wl rfl (ptr g) _ (run_mvZ (.tmp 0) rfl (ptr g) rfl) ?_
  simp only [Act.put, aS, aC, aZ]
  refine wl rfl (.int .i64 d) _ (run_mvZ (.tmp 1) rfl (.int .i64 d) rfl) ?_
  simp only [Act.put, aS, aC, aZ]
  refine wl rfl (.int .i64 p) _ (run_mvZ (.tmp 2) rfl (.int .i64 p) rfl) ?_
  simp only [Act.put, aS, aC, aZ]
  refine wl rfl (.slice (some ⟨q1, 0 + 0, none⟩) (64) (64)) _ (run_slA arr122 (.tmp 7) none none rfl q1 (0) 0 64 rfl ⟨(Or.inl ⟨rfl, rfl⟩), (Or.inl ⟨rfl, rfl⟩), by omega, by omega, by omega⟩) ?_
  simp only [Act.put, aS, aC, aZ]
  refine wpList_callW eN33 [.tmp 9, .tmp 10, .tmp 11, .tmp 12] _ rfl rfl [(ptr g), (.int .i64 d), (.int .i64 p), (.slice (some ⟨q1, 0 + 0, none⟩) (64) (64))] rfl ?_
  refine (HW.out w1 _ Rw1.out.below (whole_slice64 (Rw1.out.at 0 rfl) HS.out)).mono ?_
  rintro e w2 ⟨rfl, n2⟩
  refine ⟨_, rfl, ?_⟩
  have R2 : Hid (Nx w c t g M w2) := n2
  clear n2 Rw1
  simp only [Act.put, aS, aC, aZ]
  refine wl rfl (.int .i64 er) _ (run_asZ (.tmp 13) rfl (.int .i64 er) rfl) ?_
  simp only [Act.put, aS, aC, aZ]
  refine wpList_nil ?_
  go_wp2_with fail
  rw [HPQ.out]
  exact ⟨rfl, R2.out⟩
end Go.Proofs.YtkpnflgnhhfjoaaDoor

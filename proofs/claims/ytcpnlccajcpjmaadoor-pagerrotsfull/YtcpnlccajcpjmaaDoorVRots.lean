/- Layer 9: whatever a disk has. Layer 9: PagerRots, walked. Layer 9: turns that come in. For every list of pages that are put, and every list of bytes that turn on the disk behind the commit: Open tells the disk to be corrupt, or it is a pager whose pages are told, or told to be corrupt: the law PagerRots returns true and changes nothing that was there. Condition: the table crc.halves starts as the program's text lays it (the card ties it). -/
import Derived.Test.YtcpnlccajcpjmaaDoorZ35
import Derived.Test.YtcpnlccajcpjmaaDoorZ36
namespace Go.Proofs.YtcpnlccajcpjmaaDoor
open Go.RowKit Go.Maps

theorem secAt_join8 (f : Nat → List Nat) (h : ∀ j, (f j).length = 64) : ∀ k j, j < k → secAt (join8 f k) j = f j := by
  intro k
  induction k with
  | zero => intro j hj; exact absurd hj (Nat.not_lt_zero _)
  | succ k ih =>
    intro j hj
    have hl := join8_length f h k
    rw [join8]
    rcases Nat.lt_or_ge j k with h1 | h1
    · have h2 := ih j h1
      unfold secAt at h2 ⊢
      rw [List.drop_append_of_le_length (by omega), List.take_append_of_le_length (by rw [List.length_drop]; omega)]
      exact h2
    · have e : j = k := by omega
      subst e
      unfold secAt
      rw [← hl, List.drop_left, List.take_of_length_le (by rw [h j]; exact Nat.le_refl _)]
/-- whatever a disk has: where it has a pager, it is one -/
theorem PgO.of_last {m : Pl} {i n : Nat} {L : Hd} (hlv : Lv m i) (hw : m.wt i = []) (hpg : n = pagesN (m.size i)) (hpos : 1 ≤ n) (h : lastOf (m.rd i) n = some L) : PgO m i n L L.used (pageAt m i) := by
  have hh := PgH.of_last hlv.wf hw h
  have hs : ∀ p j, j < 8 → secAt (pageAt m i p) j = m.rd i (placeP p j) := fun p j hj => secAt_join8 (fun j => m.rd i (placeP p j)) (fun j => (Pl.rd_sec hlv.wf i _).1) 8 j hj
  refine ⟨⟨hlv.wf, hlv.lt, hlv.disk, hpg, hpos, hh, fun p hp hb j hj => ?_, fun p => ⟨join8_length _ (fun j => (Pl.rd_sec hlv.wf i _).1) 8, join8_lt (fun j => (Pl.rd_sec hlv.wf i _).2) 8⟩⟩, hlv.on, hh.lwf.used, hh.holds.1, fun p hp hb j hj => (hs p j hj).symm⟩
  rw [hs p j hj]
  exact Firm.of_rd hw
theorem rot_same (m : Pl) (d p a y : Int) : (m.rot d p a y).2.sh = m.sh ∧ (m.rot d p a y).2.on = m.on ∧ (m.rot d p a y).2.fuse = m.fuse ∧ (m.rot d p a y).2.steps = m.steps ∧ ∀ i, (m.rot d p a y).2.wt i = m.wt i := by
  unfold Pl.rot
  split <;> exact ⟨rfl, rfl, rfl, rfl, fun _ => rfl⟩
section
variable {w W W' : World} {c : Nat → Colour} {gp g : Nat} {m m' : Pl} {ds ts : List Nat} {i n : Nat} {L : Hd} {U : List Nat} {X : Nat → List Nat} {K : Nat}
theorem PlW.lv (h : PlW w W c g m ds ts K) (hi : i < ds.length) (hon : m.on = true) : Lv m i := ⟨h.live.2.1, hon, by rw [h.shape.n]; omega, (h.shape.disk i hi).1⟩
theorem PlW.rot (h : PlW w W c g m ds ts K) (d p a y : Int) : Calls Tryd.prog 30 #[ptr g, .int .i64 d, .int .i64 p, .int .i64 a, .int .i64 y] W fun e W' => ∃ b c' m', e = .returned (.bool b) ∧ PlW w W' c' g m' ds ts K ∧ m'.on = m.on ∧ m'.fuse = m.fuse ∧ ∀ i, m'.wt i = m.wt i := by
  obtain ⟨h1, h2, h3, h4, h5⟩ := rot_same m d p a y
  refine (h.live.rot d p a y).mono fun e W' he => ?_
  obtain ⟨c', _, _, k3⟩ := h.nx he.2.nx h1 (K' := K) (by rw [h4]; exact h.le) 0
  exact ⟨_, c', _, he.1, k3, h2, h3, h5⟩
theorem PlW.openAny (h : PlW w W c g m ds ts K) (hK : K ≤ 1000000000000) (hi : 0 < ds.length) (hlv : Lv m 0) (hw : m.wt 0 = []) (hn : n = pagesN (ds.getD 0 0)) (hn1 : 1 ≤ n) : Calls Tryd.prog 13 #[ptr g, .int .i64 0] W fun e W' => (e = .returned (.tuple #[.pointer none, .int .i64 4]) ∧ Below W.heap.size W W') ∨ ∃ gp L, e = .returned (.tuple #[ptr gp, .int .i64 0]) ∧ Below W.heap.size W W' ∧ PgW w W' c gp g m ds ts 0 n L L.used (pageAt m 0) K := by
  cases hl : lastOf (m.rd 0) n with
  | none => exact (h.openNone (i := 0) hK hi hlv.on hn hn1 hl).mono fun e W' he => Or.inl he
  | some L =>
    refine (h.openZ hK hi (PgO.of_last hlv hw (by rw [(h.shape.disk 0 hi).2]; exact hn) hn1 hl)).mono ?_
    rintro e W' ⟨gp, h1, h2, h3⟩
    exact Or.inr ⟨gp, L, h1, h2, h3⟩
theorem PgW.rootB (h : PgW w W c gp g m ds ts i n L U X K) : -1 ≤ L.root ∧ L.root < n := by
  have hp := h.o.c.pos
  have h3 := h.n384
  rcases h.o.c.h.holds.2 with h1 | h1
  · omega
  · have hb := hasP_bound h1
    refine ⟨by omega, ?_⟩
    rcases Int.lt_or_le L.root n with h2 | h2
    · exact h2
    · have e : L.root = ((L.root.toNat : Nat) : Int) := by omega
      have h4 := h.o.c.h.holds.1 L.root.toNat (by omega) (by omega)
      rw [e, hasP_nat L.used _ (by omega), h4] at h1
      cases h1
theorem PgW.reads (h : PgW w W c gp g m ds ts i n L U X K) (hK : K ≤ 1000000000000) (p : Int) : Calls Tryd.prog 28 #[ptr gp, .int .i64 p] W fun e W' => ∃ (pv : Option Addr) (nv cv : Nat) (er : Int), e = .returned (.tuple #[.slice pv nv cv, .int .i64 er]) ∧ PgW w W' c gp g m ds ts i n L U X K ∧ ((er = 90 ∧ nv = 0) ∨ (er = 4 ∧ nv = 0) ∨ (er = 0 ∧ nv ≤ 500)) := by
  refine (h.read hK p).mono ?_
  rintro e W' ⟨h1, ⟨_, h2⟩ | ⟨_, _, h2⟩ | ⟨v, _, h3, h4, h5⟩⟩
  · exact ⟨none, 0, 0, 90, h2, h.bel h1, Or.inl ⟨rfl, rfl⟩⟩
  · exact ⟨none, 0, 0, 4, h2, h.bel h1, Or.inr (Or.inl ⟨rfl, rfl⟩)⟩
  · obtain ⟨q, rfl, _, _⟩ := h4
    refine ⟨_, _, _, 0, h5, h.bel h1, Or.inr (Or.inr ⟨rfl, ?_⟩)⟩
    unfold readV at h3
    have h6 := of_decide_eq_true (Bool.and_eq_true _ _ ▸ h3).1
    unfold imBytes
    rw [List.length_take]
    omega
theorem PgW.putAny (h : PgW w W c gp g m ds ts i n L U X K) (hK : K ≤ 1000000000000) (hf : m.fuse < 0) (v : Value) (b : List Nat) (hv : SliceIn W v b) : Calls Tryd.prog 15 #[ptr gp, v] W fun e W' => ∃ (k : Nat) (er : Int) (c' : Nat → Colour) (m' : Pl) (U' : List Nat) (X' : Nat → List Nat), e = .returned (.tuple #[.int .i64 (k : Nat), .int .i64 er]) ∧ m'.fuse < 0 ∧ PgW w W' c' gp g m' ds ts i n L U' X' (K + 8) := by
  refine (h.putC hK hf v b hv).mono ?_
  rintro e W' ⟨c', _, ⟨_, h2, h3⟩ | ⟨_, _, h2, h3⟩ | ⟨p, m', _, _, h2, h4, h3⟩⟩
  · exact ⟨0, 5, c', m, U, X, h2, hf, h3.mono (by omega)⟩
  · exact ⟨0, 3, c', m, U, X, h2, hf, h3.mono (by omega)⟩
  · exact ⟨p, 0, c', m', _, _, h2, h4, h3⟩
end
theorem rootNone (U : List Nat) : rootOk U (-1) = true := rfl
/-- turns of three numbers -/
def TurnsIn (W : World) (v : Value) (bs : List (Int × Int × Int)) : Prop :=
  ∃ p cap, v = .slice p bs.length cap ∧ bs.length ≤ 9223372036854775807 ∧ (bs = [] ∨ ∃ b off, p = some ⟨b, off, none⟩ ∧ ∀ i, i < bs.length → W.cell? ⟨b, off + i * 3 + 0, none⟩ = some (.int .i64 (bs.getD i default).1) ∧ W.cell? ⟨b, off + i * 3 + 1, none⟩ = some (.int .i64 (bs.getD i default).2.1) ∧ W.cell? ⟨b, off + i * 3 + 2, none⟩ = some (.int .i64 (bs.getD i default).2.2))
theorem TurnsIn.at {w : World} {p : Option Addr} {n cap : Nat} {bs : List (Int × Int × Int)} (h : TurnsIn w (.slice p n cap) bs) (i : Nat) (hi : i < bs.length) : ∃ (b off : Nat) (x0 x1 x2 : Int), p = some ⟨b, off, none⟩ ∧ ∀ W, Below w.heap.size w W → W.cell? ⟨b, off + i * 3 + 0, none⟩ = some (.int .i64 x0) ∧ W.cell? ⟨b, off + i * 3 + 1, none⟩ = some (.int .i64 x1) ∧ W.cell? ⟨b, off + i * 3 + 2, none⟩ = some (.int .i64 x2) := by
  obtain ⟨p', cap', h1, _, h3⟩ := h
  injection h1 with h1 h1'
  subst h1
  rcases h3 with h3 | ⟨b, off, h4, h5⟩
  · rw [h3] at hi; exact absurd hi (Nat.not_lt_zero _)
  · obtain ⟨h6, h7, h8⟩ := h5 i hi
    refine ⟨b, off, (bs.getD i default).1, (bs.getD i default).2.1, (bs.getD i default).2.2, h4, fun W hW => ?_⟩
    have hk := hW.block b (block_lt_of_cell h6)
    exact ⟨(World.cell?_of_block hk).trans h6, (World.cell?_of_block hk).trans h7, (World.cell?_of_block hk).trans h8⟩
theorem TurnsIn.len {w : World} {p : Option Addr} {n cap : Nat} {bs : List (Int × Int × Int)} (h : TurnsIn w (.slice p n cap) bs) : n = bs.length ∧ n ≤ 9223372036854775807 := by
  obtain ⟨p', cap', h1, h2, _⟩ := h
  injection h1 with h1 h3 h4
  exact ⟨h3, by omega⟩
theorem sl56 : Tryd.prog.underlying 56 = some (.slice (Tryd.prog.elem 56)) := by kernel_rfl
theorem info58 : (Tryd.prog.info? 58).map (·.size) = some 3 := by kernel_rfl
theorem info3s : (Tryd.prog.info? 3).map (·.size) = some 1 := by kernel_rfl
theorem arr58 : Tryd.prog.underlying 58 = some (.array 3 3) := by kernel_rfl
section
variable {w : World} {a : Act} {o : Oper}
theorem run_ix56 (x i : Operand) (ho : o.op = .indexAddr 56 x i) (g off n cap j : Nat) (hx : a.eval x = .slice (some ⟨g, off, none⟩) n cap) (hi : a.eval i = .int .i64 (j : Nat)) (hj : j < n) : (execOp a.eval o).run Tryd.prog w = .ok (.value (.pointer (some ⟨g, off + j * 3, none⟩))) w := by
  obtain ⟨i5, hi5, hsz⟩ := Option.map_eq_some_iff.1 info58
  simp [execOp, ho, hx, hi, Instr.indexAt, asIntOf, run_underlying Tryd.underlying56, hj, sizeOf, typeInfo, hi5, hsz, add_none]
theorem run_ix58 (x i : Operand) (ho : o.op = .indexAddr 58 x i) (g off j : Nat) (hx : a.eval x = .pointer (some ⟨g, off, none⟩)) (hi : a.eval i = .int .i64 (j : Nat)) (hj : j < 3) : (execOp a.eval o).run Tryd.prog w = .ok (.value (.pointer (some ⟨g, off + j, none⟩))) w := by
  obtain ⟨i5, hi5, hsz⟩ := Option.map_eq_some_iff.1 info3s
  simp [execOp, ho, hx, hi, Instr.indexAt, asIntOf, run_underlying arr58, Instr.sureAddr, hj, sizeOf, typeInfo, hi5, hsz, add_none]
end
end Go.Proofs.YtcpnlccajcpjmaaDoor

namespace Go.Proofs.YtcpnlccajcpjmaaDoor
open Go.RowKit Go.Maps

set_option maxHeartbeats 16000000 in
set_option maxRecDepth 100000 in
theorem pagerRots_any (w : World) (ht : Fr.TabIn w) (p0 : Option Addr) (n0 cap0 : Nat) (first : List (List Nat)) (hf : RowsIn w (.slice p0 n0 cap0) first) (p1 : Option Addr) (n1 cap1 : Nat) (bs : List (Int × Int × Int)) (hb : TurnsIn w (.slice p1 n1 cap1) bs) : Calls Tryd.prog 7 #[.slice p0 n0 cap0, .slice p1 n1 cap1] w fun e w' => e = .returned (.bool true) ∧ Below w.heap.size w w' := by
  have HT : Hid (Fr.TabIn w) := ht
  have HR : Hid (RowsIn w (.slice p0 n0 cap0) first) := hf
  have HN : Hid (n0 = first.length ∧ n0 ≤ 9223372036854775807) := hf.len
  have HTN : Hid (TurnsIn w (.slice p1 n1 cap1) bs) := hb
  have HN1 : Hid (n1 = bs.length ∧ n1 ≤ 9223372036854775807) := hb.len
  obtain ⟨PQ, hPQ⟩ : ∃ PQ : Ending → World → Prop, PQ = fun (e : Ending) (w' : World) => e = .returned (.bool true) ∧ Below w.heap.size w w' := ⟨_, rfl⟩
  have HPQ : Hid (PQ = fun (e : Ending) (w' : World) => e = .returned (.bool true) ∧ Below w.heap.size w w') := hPQ
  rw [← hPQ]
  clear hPQ ht hf hb
  go_enter Tryd.func7, Tryd.ntmps7
  go_upto_region 0 with fail
  refine wp_region_lit ?_
  refine wl rfl (.bool false) _ (run_asZ (.const (.bool false)) rfl (.bool false) rfl) ?_
  simp only [Act.put, List.setIfInBounds_toArray, List.set_cons_succ, List.set_cons_zero]
  refine wpList_nil ?_
  go_upto_region 1 with fail
  refine wp_region_lit ?_
  refine wpList_callW eN9 [] _ rfl rfl [] rfl ?_
  refine (shown_any w HT.out).mono ?_
  rintro e W0 ⟨rfl, b_⟩
  refine ⟨_, rfl, ?_⟩
  have HB0 : Hid (Below w.heap.size w W0) := b_
  clear b_
  simp only [Act.put, List.setIfInBounds_toArray, List.set_cons_succ, List.set_cons_zero]
  refine wl rfl (.bool true) _ (run_asZ (.tmp 17) rfl (.bool true) rfl) ?_
  simp only [Act.put, List.setIfInBounds_toArray, List.set_cons_succ, List.set_cons_zero]
  refine wpList_nil ?_
  go_upto_region 2 with fail
  refine wp_region_lit ?_
  refine wl rfl (.slice (some ⟨W0.heap.size, 0, none⟩) 1 1) _ (run_lit28 (.const (.int .i64 100)) rfl 100 rfl) ?_
  have HI : Hid (IntsIn (W0.alloc (.cells #[.int .i64 100] 3)) (.slice (some ⟨W0.heap.size, 0, none⟩) 1 1) [((100 : Nat) : Int)] ∧ Below W0.heap.size W0 (W0.alloc (.cells #[.int .i64 100] 3))) := ⟨ints_lit W0 100, below_alloc W0 _⟩
  obtain ⟨W1, hW_⟩ : ∃ W, W = W0.alloc (.cells #[.int .i64 100] 3) := ⟨_, rfl⟩
  obtain ⟨q0, hq_⟩ : ∃ q, q = W0.heap.size := ⟨_, rfl⟩
  rw [← hW_] at HI ⊢
  rw [← hq_] at ⊢
  have HI2 : Hid (IntsIn W1 (.slice (some ⟨q0, 0, none⟩) 1 1) [((100 : Nat) : Int)] ∧ Below W0.heap.size W0 W1) := by rw [hq_]; exact HI.out
  clear hW_ hq_ HI
  simp only [Act.put, List.setIfInBounds_toArray, List.set_cons_succ, List.set_cons_zero]
  refine wl rfl (.agg #[.slice (some ⟨q0, 0, none⟩) 1 1, .slice none 0 0]) _ (run_build30 (.tmp 19) rfl _ _ _ rfl) ?_
  simp only [Act.put, List.setIfInBounds_toArray, List.set_cons_succ, List.set_cons_zero]
  refine wpList_callW eN10 [.tmp 20] _ rfl rfl [(.agg #[.slice (some ⟨q0, 0, none⟩) 1 1, .slice none 0 0])] rfl ?_
  refine (PlW.new (HB0.out.trans (HI2.out.2.mono HB0.out.size)) HT.out 100 ⟨by decide, by decide⟩ _ HI2.out.1).mono ?_
  rintro e W2 ⟨g, c2, rfl, b_, h_⟩
  refine ⟨_, rfl, ?_⟩
  have H2 : Hid (PlW w W2 c2 g (newPl [((100 : Nat) : Int)] []) [100] [] 0) := h_
  clear h_ b_ HI2
  simp only [Act.put, List.setIfInBounds_toArray, List.set_cons_succ, List.set_cons_zero]
  refine wl rfl (.tuple #[(ptr g), (.int .i64 0)]) _ (run_mvZ (.tmp 21) rfl (.tuple #[(ptr g), (.int .i64 0)]) rfl) ?_
  simp only [Act.put, List.setIfInBounds_toArray, List.set_cons_succ, List.set_cons_zero]
  refine wl rfl (ptr g) _ (run_extZ (.tmp 18) 0 rfl #[(ptr g), (.int .i64 0)] rfl (ptr g) rfl) ?_
  simp only [Act.put, List.setIfInBounds_toArray, List.set_cons_succ, List.set_cons_zero]
  refine wl rfl (.int .i64 0) _ (run_extZ (.tmp 18) 1 rfl #[(ptr g), (.int .i64 0)] rfl (.int .i64 0) rfl) ?_
  simp only [Act.put, List.setIfInBounds_toArray, List.set_cons_succ, List.set_cons_zero]
  refine wl rfl (ptr g) _ (run_asZ (.tmp 22) rfl (ptr g) rfl) ?_
  simp only [Act.put, List.setIfInBounds_toArray, List.set_cons_succ, List.set_cons_zero]
  refine wl rfl (.int .i64 0) _ (run_asZ (.tmp 23) rfl (.int .i64 0) rfl) ?_
  simp only [Act.put, List.setIfInBounds_toArray, List.set_cons_succ, List.set_cons_zero]
  refine wpList_nil ?_
  go_upto_region 3 with fail
  refine wp_region_lit ?_
  refine wl rfl (.bool true) _ (run_mvZ (.tmp 5) rfl (.bool true) rfl) ?_
  simp only [Act.put, List.setIfInBounds_toArray, List.set_cons_succ, List.set_cons_zero]
  refine wl rfl (.bool false) _ (run_not (.tmp 24) 4 rfl true rfl) ?_
  simp only [Act.put, List.setIfInBounds_toArray, List.set_cons_succ, List.set_cons_zero]
  refine wl rfl (.bool false) _ (run_mvZ (.tmp 25) rfl (.bool false) rfl) ?_
  simp only [Act.put, List.setIfInBounds_toArray, List.set_cons_succ, List.set_cons_zero]
  refine wl (by kernel_rfl) (ptr g) _ (run_mvZ (.tmp 6) rfl (ptr g) rfl) ?_
  simp only [Act.put, List.setIfInBounds_toArray, List.set_cons_succ, List.set_cons_zero]
  refine wl (by kernel_rfl) (.bool false) _ (run_binOp' (.tmp 27) (.const (.pointer none)) rfl _ _ _ rfl rfl rfl (by kernel_rfl)) ?_
  simp only [Act.put, List.setIfInBounds_toArray, List.set_cons_succ, List.set_cons_zero]
  refine wl rfl (.bool false) _ (run_pickZ (.tmp 26) (.const (.bool true)) (.tmp 28) rfl false (.bool false) rfl rfl) ?_
  simp only [Act.put, List.setIfInBounds_toArray, List.set_cons_succ, List.set_cons_zero]
  refine wl rfl (.bool false) _ (run_mvZ (.tmp 29) rfl (.bool false) rfl) ?_
  simp only [Act.put, List.setIfInBounds_toArray, List.set_cons_succ, List.set_cons_zero]
  refine wl (by kernel_rfl) (.int .i64 0) _ (run_mvZ (.tmp 7) rfl (.int .i64 0) rfl) ?_
  simp only [Act.put, List.setIfInBounds_toArray, List.set_cons_succ, List.set_cons_zero]
  refine wl (by kernel_rfl) (.bool false) _ (run_neZ (.tmp 31) (.const (.int .i64 0)) rfl (0) (0) rfl rfl false rfl) ?_
  simp only [Act.put, List.setIfInBounds_toArray, List.set_cons_succ, List.set_cons_zero]
  refine wl rfl (.bool false) _ (run_pickZ (.tmp 30) (.const (.bool true)) (.tmp 32) rfl false (.bool false) rfl rfl) ?_
  simp only [Act.put, List.setIfInBounds_toArray, List.set_cons_succ, List.set_cons_zero]
  refine wpList_nil ?_
  go_upto_region 5 with fail
  refine wp_region_lit ?_
  refine wl rfl (ptr g) _ (run_mvZ (.tmp 6) rfl (ptr g) rfl) ?_
  simp only [Act.put, List.setIfInBounds_toArray, List.set_cons_succ, List.set_cons_zero]
  refine wpList_callW eN11 [.tmp 34, .const (.int .i64 0)] _ rfl rfl [(ptr g), .int .i64 0] rfl ?_
  refine (PlW.first (n := 12) ⟨by decide, by decide⟩ (by decide) (by decide) H2.out).mono ?_
  rintro e W4 ⟨rfl, c4, m4, h_, o_, f_⟩
  refine ⟨_, rfl, ?_⟩
  have H4 : Hid (PlW w W4 c4 g m4 [100] [] 6 ∧ PgO m4 0 12 (noHd 1) noneP zX ∧ m4.fuse < 0) := ⟨h_, o_, f_⟩
  clear h_ o_ f_ H2
  simp only [Act.put, List.setIfInBounds_toArray, List.set_cons_succ, List.set_cons_zero]
  refine wl rfl (.int .i64 0) _ (run_asZ (.tmp 35) rfl (.int .i64 0) rfl) ?_
  simp only [Act.put, List.setIfInBounds_toArray, List.set_cons_succ, List.set_cons_zero]
  refine wpList_nil ?_
  go_upto_region 6 with fail
  refine wp_region_lit ?_
  refine wl rfl (ptr g) _ (run_mvZ (.tmp 6) rfl (ptr g) rfl) ?_
  simp only [Act.put, List.setIfInBounds_toArray, List.set_cons_succ, List.set_cons_zero]
  refine wpList_callW eN13 [.tmp 37, .const (.int .i64 0)] _ rfl rfl [(ptr g), .int .i64 0] rfl ?_
  refine (PlW.openZ H4.out.1 (by decide) (by decide) (L := noHd 1) H4.out.2.1).mono ?_
  rintro e W5 ⟨gp, rfl, b_, h_⟩
  refine ⟨_, rfl, ?_⟩
  have H5 : Hid (PgW w W5 c4 gp g m4 [100] [] 0 12 (noHd 1) noneP zX (6 + 8 * 0) ∧ m4.fuse < 0) := ⟨h_, H4.out.2.2⟩
  clear h_ b_ H4
  simp only [Act.put, List.setIfInBounds_toArray, List.set_cons_succ, List.set_cons_zero]
  refine wl rfl (.tuple #[(ptr gp), (.int .i64 0)]) _ (run_mvZ (.tmp 38) rfl (.tuple #[(ptr gp), (.int .i64 0)]) rfl) ?_
  simp only [Act.put, List.setIfInBounds_toArray, List.set_cons_succ, List.set_cons_zero]
  refine wl rfl (ptr gp) _ (run_extZ (.tmp 36) 0 rfl #[(ptr gp), (.int .i64 0)] rfl (ptr gp) rfl) ?_
  simp only [Act.put, List.setIfInBounds_toArray, List.set_cons_succ, List.set_cons_zero]
  refine wl rfl (.int .i64 0) _ (run_extZ (.tmp 36) 1 rfl #[(ptr gp), (.int .i64 0)] rfl (.int .i64 0) rfl) ?_
  simp only [Act.put, List.setIfInBounds_toArray, List.set_cons_succ, List.set_cons_zero]
  refine wl rfl (ptr gp) _ (run_asZ (.tmp 39) rfl (ptr gp) rfl) ?_
  simp only [Act.put, List.setIfInBounds_toArray, List.set_cons_succ, List.set_cons_zero]
  refine wl rfl (.int .i64 0) _ (run_asZ (.tmp 40) rfl (.int .i64 0) rfl) ?_
  simp only [Act.put, List.setIfInBounds_toArray, List.set_cons_succ, List.set_cons_zero]
  refine wpList_nil ?_
  go_upto_region 7 with fail
  refine wp_region_lit ?_
  refine wl rfl (.int .i64 0) _ (run_mvZ (.tmp 8) rfl (.int .i64 0) rfl) ?_
  simp only [Act.put, List.setIfInBounds_toArray, List.set_cons_succ, List.set_cons_zero]
  refine wl rfl (.bool false) _ (run_neZ (.tmp 41) (.const (.int .i64 0)) rfl (0) (0) rfl rfl false rfl) ?_
  simp only [Act.put, List.setIfInBounds_toArray, List.set_cons_succ, List.set_cons_zero]
  refine wl rfl (.bool false) _ (run_mvZ (.tmp 42) rfl (.bool false) rfl) ?_
  simp only [Act.put, List.setIfInBounds_toArray, List.set_cons_succ, List.set_cons_zero]
  refine wl (by kernel_rfl) (ptr gp) _ (run_mvZ (.tmp 9) rfl (ptr gp) rfl) ?_
  simp only [Act.put, List.setIfInBounds_toArray, List.set_cons_succ, List.set_cons_zero]
  refine wl (by kernel_rfl) (.bool false) _ (run_binOp' (.tmp 44) (.const (.pointer none)) rfl _ _ _ rfl rfl rfl (by kernel_rfl)) ?_
  simp only [Act.put, List.setIfInBounds_toArray, List.set_cons_succ, List.set_cons_zero]
  refine wl rfl (.bool false) _ (run_pickZ (.tmp 43) (.const (.bool true)) (.tmp 45) rfl false (.bool false) rfl rfl) ?_
  simp only [Act.put, List.setIfInBounds_toArray, List.set_cons_succ, List.set_cons_zero]
  refine wl rfl (.bool false) _ (run_mvZ (.tmp 46) rfl (.bool false) rfl) ?_
  simp only [Act.put, List.setIfInBounds_toArray, List.set_cons_succ, List.set_cons_zero]
  refine wl (by kernel_rfl) (.int .i64 0) _ (run_mvZ (.tmp 10) rfl (.int .i64 0) rfl) ?_
  simp only [Act.put, List.setIfInBounds_toArray, List.set_cons_succ, List.set_cons_zero]
  refine wl (by kernel_rfl) (.bool false) _ (run_neZ (.tmp 48) (.const (.int .i64 0)) rfl (0) (0) rfl rfl false rfl) ?_
  simp only [Act.put, List.setIfInBounds_toArray, List.set_cons_succ, List.set_cons_zero]
  refine wl rfl (.bool false) _ (run_pickZ (.tmp 47) (.const (.bool true)) (.tmp 49) rfl false (.bool false) rfl rfl) ?_
  simp only [Act.put, List.setIfInBounds_toArray, List.set_cons_succ, List.set_cons_zero]
  refine wpList_nil ?_
  go_upto_region 9 with fail
  refine wp_region_lit ?_
  refine wl rfl (.int .i64 0) _ (run_asZ (.const (.int .i64 0)) rfl (.int .i64 0) rfl) ?_
  simp only [Act.put, List.setIfInBounds_toArray, List.set_cons_succ, List.set_cons_zero]
  refine wpList_nil ?_
  go_wp2_with fail
  go_loopw [11] (fun vi W => ∃ (i : Nat) (c : Nat → Colour) (m : Pl) (U : List Nat) (X : Nat → List Nat), vi = .int .i64 (i : Nat) ∧ i ≤ 9 ∧ PgW w W c gp g m [100] [] 0 12 (noHd 1) U X (6 + 8 * i) ∧ m.fuse < 0) (fun vi _ => 9 - (intOf vi).toNat)
  case atStart => exact ⟨0, c4, m4, noneP, zX, rfl, by decide, H5.out.1, H5.out.2⟩
  case round =>
    obtain ⟨i, c, m, U, X, rfl, hi9, hst⟩ := hrel
    have HS : Hid (PgW w wr c gp g m [100] [] 0 12 (noHd 1) U X (6 + 8 * i) ∧ m.fuse < 0) := hst
    clear hst H5
    by_cases hlt : i < n0
    · by_cases hi2 : i < 9
      · have h1 : decide ((i : Int) < (n0 : Int)) = true := decide_eq_true (by omega)
        have h2 : decide ((i : Int) < (9 : Int)) = true := decide_eq_true (by omega)
        go_upto_region 10 with fail
        refine wp_region_lit ?_
        refine wl rfl (.int .i64 (i : Nat)) _ (run_mvZ (.tmp 11) rfl (.int .i64 (i : Nat)) rfl) ?_
        simp only [Act.put, List.setIfInBounds_toArray, List.set_cons_succ, List.set_cons_zero]
        refine wl rfl (.slice p0 n0 cap0) _ (run_mvZ (.tmp 0) rfl (.slice p0 n0 cap0) rfl) ?_
        simp only [Act.put, List.setIfInBounds_toArray, List.set_cons_succ, List.set_cons_zero]
        refine wl rfl (.int .i64 (n0 : Nat)) _ (run_lenZ sl50 (.tmp 52) rfl p0 n0 cap0 rfl) ?_
        simp only [Act.put, List.setIfInBounds_toArray, List.set_cons_succ, List.set_cons_zero]
        refine wl rfl (.bool true) _ (run_lssZ (.tmp 51) (.tmp 53) rfl _ _ rfl rfl true h1) ?_
        simp only [Act.put, List.setIfInBounds_toArray, List.set_cons_succ, List.set_cons_zero]
        refine wl rfl (.bool true) _ (run_mvZ (.tmp 54) rfl (.bool true) rfl) ?_
        simp only [Act.put, List.setIfInBounds_toArray, List.set_cons_succ, List.set_cons_zero]
        refine wl (by kernel_rfl) (.int .i64 (i : Nat)) _ (run_mvZ (.tmp 11) rfl (.int .i64 (i : Nat)) rfl) ?_
        simp only [Act.put, List.setIfInBounds_toArray, List.set_cons_succ, List.set_cons_zero]
        refine wl (by kernel_rfl) (.bool true) _ (run_lssZ (.tmp 56) (.const (.int .i64 9)) rfl _ _ rfl rfl true h2) ?_
        simp only [Act.put, List.setIfInBounds_toArray, List.set_cons_succ, List.set_cons_zero]
        refine wl rfl (.bool true) _ (run_pickZ (.tmp 55) (.tmp 57) (.const (.bool false)) rfl true (.bool true) rfl rfl) ?_
        simp only [Act.put, List.setIfInBounds_toArray, List.set_cons_succ, List.set_cons_zero]
        refine wpList_nil ?_
        obtain ⟨fb, fo, pu, cu, hp0, hul, hu⟩ := HR.out.at i (by rw [← HN.out.1]; exact hlt)
        subst hp0
        obtain ⟨hu1, hu2⟩ := hu wr HS.out.1.pl.below
        obtain ⟨ul, hue⟩ : ∃ ul, ul = (first.getD i []).length := ⟨_, rfl⟩
        rw [← hue] at hu1 hu2 hul
        have HU : Hid (wr.cell? ⟨fb, fo + i, none⟩ = some (.slice pu ul cu) ∧ SliceIn wr (.slice pu ul cu) (first.getD i [])) := ⟨hu1, hu2⟩
        clear hu1 hu2 hue
        go_upto_region 12 with fail
        refine wp_region_lit ?_
        refine wl rfl (ptr gp) _ (run_mvZ (.tmp 9) rfl (ptr gp) rfl) ?_
        simp only [Act.put, List.setIfInBounds_toArray, List.set_cons_succ, List.set_cons_zero]
        refine wl rfl (.slice (some ⟨fb, fo, none⟩) n0 cap0) _ (run_mvZ (.tmp 0) rfl (.slice (some ⟨fb, fo, none⟩) n0 cap0) rfl) ?_
        simp only [Act.put, List.setIfInBounds_toArray, List.set_cons_succ, List.set_cons_zero]
        refine wl rfl (.int .i64 (i : Nat)) _ (run_mvZ (.tmp 11) rfl (.int .i64 (i : Nat)) rfl) ?_
        simp only [Act.put, List.setIfInBounds_toArray, List.set_cons_succ, List.set_cons_zero]
        refine wl rfl (.pointer (some ⟨fb, fo + i, none⟩)) _ (run_ix50 (.tmp 62) (.tmp 63) rfl fb fo n0 cap0 i rfl rfl hlt) ?_
        simp only [Act.put, List.setIfInBounds_toArray, List.set_cons_succ, List.set_cons_zero]
        refine wl rfl (.slice pu ul cu) _ (run_load1 o38' (.tmp 64) rfl fb (fo + i) rfl (.slice pu ul cu) HU.out.1) ?_
        simp only [Act.put, List.setIfInBounds_toArray, List.set_cons_succ, List.set_cons_zero]
        refine wpList_callW eN15 [.tmp 61, .tmp 65] _ rfl rfl [(ptr gp), (.slice pu ul cu)] rfl ?_
        refine (PgW.putAny HS.out.1 (by omega) HS.out.2 _ _ HU.out.2).mono ?_
        rintro e W6 ⟨k6, er, c6, m6, U6, X6, rfl, f_, h_⟩
        refine ⟨_, rfl, ?_⟩
        have H6 : Hid (PgW w W6 c6 gp g m6 [100] [] 0 12 (noHd 1) U6 X6 (6 + 8 * i + 8) ∧ m6.fuse < 0) := ⟨h_, f_⟩
        clear h_ f_ HU HS
        simp only [Act.put, List.setIfInBounds_toArray, List.set_cons_succ, List.set_cons_zero]
        refine wpList_nil ?_
        go_wp2_with fail
        refine ⟨⟨i + 1, c6, m6, U6, X6, by go_num, by omega, H6.out.1.mono (by omega), H6.out.2⟩, ?_⟩
        simp [intOf]; omega
      · have h1 : decide ((i : Int) < (n0 : Int)) = true := decide_eq_true (by omega)
        have h2 : decide ((i : Int) < (9 : Int)) = false := decide_eq_false (by omega)
        go_upto_region 10 with fail
        refine wp_region_lit ?_
        refine wl rfl (.int .i64 (i : Nat)) _ (run_mvZ (.tmp 11) rfl (.int .i64 (i : Nat)) rfl) ?_
        simp only [Act.put, List.setIfInBounds_toArray, List.set_cons_succ, List.set_cons_zero]
        refine wl rfl (.slice p0 n0 cap0) _ (run_mvZ (.tmp 0) rfl (.slice p0 n0 cap0) rfl) ?_
        simp only [Act.put, List.setIfInBounds_toArray, List.set_cons_succ, List.set_cons_zero]
        refine wl rfl (.int .i64 (n0 : Nat)) _ (run_lenZ sl50 (.tmp 52) rfl p0 n0 cap0 rfl) ?_
        simp only [Act.put, List.setIfInBounds_toArray, List.set_cons_succ, List.set_cons_zero]
        refine wl rfl (.bool true) _ (run_lssZ (.tmp 51) (.tmp 53) rfl _ _ rfl rfl true h1) ?_
        simp only [Act.put, List.setIfInBounds_toArray, List.set_cons_succ, List.set_cons_zero]
        refine wl rfl (.bool true) _ (run_mvZ (.tmp 54) rfl (.bool true) rfl) ?_
        simp only [Act.put, List.setIfInBounds_toArray, List.set_cons_succ, List.set_cons_zero]
        refine wl (by kernel_rfl) (.int .i64 (i : Nat)) _ (run_mvZ (.tmp 11) rfl (.int .i64 (i : Nat)) rfl) ?_
        simp only [Act.put, List.setIfInBounds_toArray, List.set_cons_succ, List.set_cons_zero]
        refine wl (by kernel_rfl) (.bool false) _ (run_lssZ (.tmp 56) (.const (.int .i64 9)) rfl _ _ rfl rfl false h2) ?_
        simp only [Act.put, List.setIfInBounds_toArray, List.set_cons_succ, List.set_cons_zero]
        refine wl rfl (.bool false) _ (run_pickZ (.tmp 55) (.tmp 57) (.const (.bool false)) rfl true (.bool false) rfl rfl) ?_
        simp only [Act.put, List.setIfInBounds_toArray, List.set_cons_succ, List.set_cons_zero]
        refine wpList_nil ?_
        clear h1 h2
        go_upto_region 13 with fail
        refine wp_region_lit ?_
        refine wl rfl (ptr gp) _ (run_mvZ (.tmp 9) rfl (ptr gp) rfl) ?_
        simp only [Act.put, List.setIfInBounds_toArray, List.set_cons_succ, List.set_cons_zero]
        refine wpList_callW eN19 [.tmp 67, .const (.int .i64 (-1))] _ rfl rfl [(ptr gp), .int .i64 (-1)] rfl ?_
        refine (PgW.comC HS.out.1 (by omega) HS.out.2 (-1) (rootNone U)).mono ?_
        rintro e W6 ⟨c6, m6, rfl, _, f_, w_, h_⟩
        refine ⟨_, rfl, ?_⟩
        have H6 : Hid (PlW w W6 c6 g m6 [100] [] 100 ∧ m6.on = true ∧ m6.fuse < 0 ∧ m6.wt 0 = []) := ⟨h_.pl.mono (by omega), h_.o.on, f_, w_⟩
        clear h_ f_ w_ HS
        simp only [Act.put, List.setIfInBounds_toArray, List.set_cons_succ, List.set_cons_zero]
        refine wpList_nil ?_
        go_upto_region 14 with fail
        refine wp_region_lit ?_
        refine wl rfl (.int .i64 0) _ (run_asZ (.const (.int .i64 0)) rfl (.int .i64 0) rfl) ?_
        simp only [Act.put, List.setIfInBounds_toArray, List.set_cons_succ, List.set_cons_zero]
        refine wpList_nil ?_
        clear hlt hi9
        go_wp2_with fail
        go_loopw [12] (fun vj W => ∃ (j : Nat) (c : Nat → Colour) (m : Pl), vj = .int .i64 (j : Nat) ∧ j ≤ n1 ∧ PlW w W c g m [100] [] 100 ∧ m.on = true ∧ m.fuse < 0 ∧ m.wt 0 = []) (fun vj _ => n1 - (intOf vj).toNat)
        case atStart => exact ⟨0, c6, m6, rfl, Nat.zero_le _, H6.out⟩
        case round =>
          obtain ⟨j, c, m, rfl, hj1, hst⟩ := hrel
          have HJ : Hid (PlW w wr c g m [100] [] 100 ∧ m.on = true ∧ m.fuse < 0 ∧ m.wt 0 = []) := hst
          clear hst H6
          have hn1 := HN1.out.2
          by_cases hj : j < n1
          · have h1 : decide ((j : Int) < (n1 : Int)) = true := decide_eq_true (by omega)
            go_upto_region 15 with fail
            refine wp_region_lit ?_
            refine wl rfl (.int .i64 (j : Nat)) _ (run_mvZ (.tmp 12) rfl (.int .i64 (j : Nat)) rfl) ?_
            simp only [Act.put, List.setIfInBounds_toArray, List.set_cons_succ, List.set_cons_zero]
            refine wl rfl (.slice p1 n1 cap1) _ (run_mvZ (.tmp 1) rfl (.slice p1 n1 cap1) rfl) ?_
            simp only [Act.put, List.setIfInBounds_toArray, List.set_cons_succ, List.set_cons_zero]
            refine wl rfl (.int .i64 (n1 : Nat)) _ (run_lenZ sl56 (.tmp 70) rfl p1 n1 cap1 rfl) ?_
            simp only [Act.put, List.setIfInBounds_toArray, List.set_cons_succ, List.set_cons_zero]
            refine wl rfl (.bool true) _ (run_lssZ (.tmp 69) (.tmp 71) rfl _ _ rfl rfl true h1) ?_
            simp only [Act.put, List.setIfInBounds_toArray, List.set_cons_succ, List.set_cons_zero]
            refine wpList_nil ?_
            obtain ⟨tb, to, x0, x1, x2, hp1, hu⟩ := HTN.out.at j (by rw [← HN1.out.1]; exact hj)
            subst hp1
            have HC : Hid (∀ W, Below w.heap.size w W → W.cell? ⟨tb, to + j * 3 + 0, none⟩ = some (.int .i64 x0) ∧ W.cell? ⟨tb, to + j * 3 + 1, none⟩ = some (.int .i64 x1) ∧ W.cell? ⟨tb, to + j * 3 + 2, none⟩ = some (.int .i64 x2)) := hu
            clear hu
            go_upto_region 17 with fail
            refine wp_region_held (S := fun X => Below w.heap.size w X) (by kernel_rfl) ?_
            show wpAnyH _ _ _ _ _ 17 (Array.replicate 17 false) _ _
            obtain ⟨Z, hX⟩ : ∃ Z : World, Z = { wr with drawn := wr.drawn + 1 } := ⟨_, rfl⟩
            rw [← hX]
            have hP : PlW w Z c g m [100] [] 100 := by rw [hX]; exact HJ.out.1.bel ⟨rfl, rfl, rfl, Nat.le_refl _, fun _ _ => rfl⟩
            have hS : Below w.heap.size w Z := hP.below
            clear hX
            refine takeH (i := 0) (some 75) rfl rfl (by kernel_rfl) (by kernel_rfl) (by kernel_rfl) (fun _ _ _ h => h) (gRun rfl (ptr g) fun _ h => run_mvZ (.tmp 6) rfl (ptr g) rfl) hS ?_
            simp only [Act.put, List.setIfInBounds_toArray, List.set_cons_succ, List.set_cons_zero]
            refine takeH (i := 1) (some 76) rfl rfl (by kernel_rfl) (by kernel_rfl) (by kernel_rfl) (fun _ _ _ h => h) (gRun rfl (.slice (some ⟨tb, to, none⟩) n1 cap1) fun _ h => run_mvZ (.tmp 1) rfl (.slice (some ⟨tb, to, none⟩) n1 cap1) rfl) hS ?_
            simp only [Act.put, List.setIfInBounds_toArray, List.set_cons_succ, List.set_cons_zero]
            refine takeH (i := 2) (some 77) rfl rfl (by kernel_rfl) (by kernel_rfl) (by kernel_rfl) (fun _ _ _ h => h) (gRun rfl (.int .i64 (j : Nat)) fun _ h => run_mvZ (.tmp 12) rfl (.int .i64 (j : Nat)) rfl) hS ?_
            simp only [Act.put, List.setIfInBounds_toArray, List.set_cons_succ, List.set_cons_zero]
            refine takeH (i := 3) (some 78) rfl rfl (by kernel_rfl) (by kernel_rfl) (by kernel_rfl) (fun _ _ _ h => h) (gRun rfl (.pointer (some ⟨tb, to + j * 3, none⟩)) fun _ h => run_ix56 (.tmp 76) (.tmp 77) rfl tb to n1 cap1 j rfl rfl hj) hS ?_
            simp only [Act.put, List.setIfInBounds_toArray, List.set_cons_succ, List.set_cons_zero]
            refine takeH (i := 4) (some 79) rfl rfl (by kernel_rfl) (by kernel_rfl) (by kernel_rfl) (fun _ _ _ h => h) (gRun rfl (.pointer (some ⟨tb, to + j * 3 + 0, none⟩)) fun _ h => run_ix58 (.tmp 78) (.const (.int .i64 0)) rfl tb (to + j * 3) 0 rfl rfl (by decide)) hS ?_
            simp only [Act.put, List.setIfInBounds_toArray, List.set_cons_succ, List.set_cons_zero]
            refine takeH (i := 5) (some 80) rfl rfl (by kernel_rfl) (by kernel_rfl) (by kernel_rfl) (fun _ _ _ h => h) (gRun rfl (.int .i64 x0) fun _ h => run_load1 o3 (.tmp 79) rfl tb (to + j * 3 + 0) rfl (.int .i64 x0) (HC.out _ h).1) hS ?_
            simp only [Act.put, List.setIfInBounds_toArray, List.set_cons_succ, List.set_cons_zero]
            refine takeH (i := 6) (some 81) rfl rfl (by kernel_rfl) (by kernel_rfl) (by kernel_rfl) (fun _ _ _ h => h) (gRun rfl (.slice (some ⟨tb, to, none⟩) n1 cap1) fun _ h => run_mvZ (.tmp 1) rfl (.slice (some ⟨tb, to, none⟩) n1 cap1) rfl) hS ?_
            simp only [Act.put, List.setIfInBounds_toArray, List.set_cons_succ, List.set_cons_zero]
            refine takeH (i := 7) (some 82) rfl rfl (by kernel_rfl) (by kernel_rfl) (by kernel_rfl) (fun _ _ _ h => h) (gRun rfl (.int .i64 (j : Nat)) fun _ h => run_mvZ (.tmp 12) rfl (.int .i64 (j : Nat)) rfl) hS ?_
            simp only [Act.put, List.setIfInBounds_toArray, List.set_cons_succ, List.set_cons_zero]
            refine takeH (i := 8) (some 83) rfl rfl (by kernel_rfl) (by kernel_rfl) (by kernel_rfl) (fun _ _ _ h => h) (gRun rfl (.pointer (some ⟨tb, to + j * 3, none⟩)) fun _ h => run_ix56 (.tmp 81) (.tmp 82) rfl tb to n1 cap1 j rfl rfl hj) hS ?_
            simp only [Act.put, List.setIfInBounds_toArray, List.set_cons_succ, List.set_cons_zero]
            refine takeH (i := 9) (some 84) rfl rfl (by kernel_rfl) (by kernel_rfl) (by kernel_rfl) (fun _ _ _ h => h) (gRun rfl (.pointer (some ⟨tb, to + j * 3 + 1, none⟩)) fun _ h => run_ix58 (.tmp 83) (.const (.int .i64 1)) rfl tb (to + j * 3) 1 rfl rfl (by decide)) hS ?_
            simp only [Act.put, List.setIfInBounds_toArray, List.set_cons_succ, List.set_cons_zero]
            refine takeH (i := 10) (some 85) rfl rfl (by kernel_rfl) (by kernel_rfl) (by kernel_rfl) (fun _ _ _ h => h) (gRun rfl (.int .i64 x1) fun _ h => run_load1 o3 (.tmp 84) rfl tb (to + j * 3 + 1) rfl (.int .i64 x1) (HC.out _ h).2.1) hS ?_
            simp only [Act.put, List.setIfInBounds_toArray, List.set_cons_succ, List.set_cons_zero]
            refine takeH (i := 11) (some 86) rfl rfl (by kernel_rfl) (by kernel_rfl) (by kernel_rfl) (fun _ _ _ h => h) (gRun rfl (.slice (some ⟨tb, to, none⟩) n1 cap1) fun _ h => run_mvZ (.tmp 1) rfl (.slice (some ⟨tb, to, none⟩) n1 cap1) rfl) hS ?_
            simp only [Act.put, List.setIfInBounds_toArray, List.set_cons_succ, List.set_cons_zero]
            refine takeH (i := 12) (some 87) rfl rfl (by kernel_rfl) (by kernel_rfl) (by kernel_rfl) (fun _ _ _ h => h) (gRun rfl (.int .i64 (j : Nat)) fun _ h => run_mvZ (.tmp 12) rfl (.int .i64 (j : Nat)) rfl) hS ?_
            simp only [Act.put, List.setIfInBounds_toArray, List.set_cons_succ, List.set_cons_zero]
            refine takeH (i := 13) (some 88) rfl rfl (by kernel_rfl) (by kernel_rfl) (by kernel_rfl) (fun _ _ _ h => h) (gRun rfl (.pointer (some ⟨tb, to + j * 3, none⟩)) fun _ h => run_ix56 (.tmp 86) (.tmp 87) rfl tb to n1 cap1 j rfl rfl hj) hS ?_
            simp only [Act.put, List.setIfInBounds_toArray, List.set_cons_succ, List.set_cons_zero]
            refine takeH (i := 14) (some 89) rfl rfl (by kernel_rfl) (by kernel_rfl) (by kernel_rfl) (fun _ _ _ h => h) (gRun rfl (.pointer (some ⟨tb, to + j * 3 + 2, none⟩)) fun _ h => run_ix58 (.tmp 88) (.const (.int .i64 2)) rfl tb (to + j * 3) 2 rfl rfl (by decide)) hS ?_
            simp only [Act.put, List.setIfInBounds_toArray, List.set_cons_succ, List.set_cons_zero]
            refine takeH (i := 15) (some 90) rfl rfl (by kernel_rfl) (by kernel_rfl) (by kernel_rfl) (fun _ _ _ h => h) (gRun rfl (.int .i64 x2) fun _ h => run_load1 o3 (.tmp 89) rfl tb (to + j * 3 + 2) rfl (.int .i64 x2) (HC.out _ h).2.2) hS ?_
            simp only [Act.put, List.setIfInBounds_toArray, List.set_cons_succ, List.set_cons_zero]
            refine oneH (i := 16) (by kernel_rfl) ?_
            refine opCallG (some 91) rfl rfl rfl 30 _ (run_call eN30 [.tmp 75, .const (.int .i64 0), .tmp 80, .tmp 85, .tmp 90] _ rfl [(ptr g), .int .i64 0, (.int .i64 x0), (.int .i64 x1), (.int .i64 x2)] rfl) ?_
            refine (PlW.rot hP 0 x0 x1 x2).mono ?_
            rintro e W7 ⟨rb, c7, m7, rfl, h_, on_, f_, w_⟩
            refine ⟨_, rfl, ?_⟩
            have H7 : Hid (PlW w W7 c7 g m7 [100] [] 100 ∧ m7.on = true ∧ m7.fuse < 0 ∧ m7.wt 0 = []) := ⟨h_, on_.trans HJ.out.2.1, (by show m7.fuse < 0; rw [f_]; exact HJ.out.2.2.1), (w_ 0).trans HJ.out.2.2.2⟩
            clear h_ on_ f_ w_ hP hS HJ
            refine ⟨H7.out.1.below, ?_⟩
            simp only [Act.put, List.setIfInBounds_toArray, List.set_cons_succ, List.set_cons_zero]
            refine wpAnyH_done (by kernel_rfl) ?_ _
            go_wp2_with fail
            refine ⟨⟨j + 1, c7, m7, by go_num, by omega, H7.out⟩, ?_⟩
            simp [intOf]; omega
          · have h1 : decide ((j : Int) < (n1 : Int)) = false := decide_eq_false (by omega)
            go_upto_region 15 with fail
            refine wp_region_lit ?_
            refine wl rfl (.int .i64 (j : Nat)) _ (run_mvZ (.tmp 12) rfl (.int .i64 (j : Nat)) rfl) ?_
            simp only [Act.put, List.setIfInBounds_toArray, List.set_cons_succ, List.set_cons_zero]
            refine wl rfl (.slice p1 n1 cap1) _ (run_mvZ (.tmp 1) rfl (.slice p1 n1 cap1) rfl) ?_
            simp only [Act.put, List.setIfInBounds_toArray, List.set_cons_succ, List.set_cons_zero]
            refine wl rfl (.int .i64 (n1 : Nat)) _ (run_lenZ sl56 (.tmp 70) rfl p1 n1 cap1 rfl) ?_
            simp only [Act.put, List.setIfInBounds_toArray, List.set_cons_succ, List.set_cons_zero]
            refine wl rfl (.bool false) _ (run_lssZ (.tmp 69) (.tmp 71) rfl _ _ rfl rfl false h1) ?_
            simp only [Act.put, List.setIfInBounds_toArray, List.set_cons_succ, List.set_cons_zero]
            refine wpList_nil ?_
            clear h1
            go_upto_region 18 with fail
            refine wp_region_lit ?_
            refine wl rfl (ptr g) _ (run_mvZ (.tmp 6) rfl (ptr g) rfl) ?_
            simp only [Act.put, List.setIfInBounds_toArray, List.set_cons_succ, List.set_cons_zero]
            refine wpList_callW eN13 [.tmp 93, .const (.int .i64 0)] _ rfl rfl [(ptr g), .int .i64 0] rfl ?_
            refine (PlW.openAny (n := 12) HJ.out.1 (by decide) (by decide) (HJ.out.1.lv (by decide) HJ.out.2.1) HJ.out.2.2.2 (by decide) (by decide)).mono ?_
            rintro e W8 (⟨rfl, b_⟩ | ⟨gq, L2, rfl, b_, h_⟩)
            · have HZ : Hid (Below w.heap.size w W8) := (HJ.out.1.bel b_).below
              clear b_ HJ
              refine ⟨_, rfl, ?_⟩
              simp only [Act.put, List.setIfInBounds_toArray, List.set_cons_succ, List.set_cons_zero]
              refine wl rfl (.tuple #[(.pointer none), (.int .i64 4)]) _ (run_mvZ (.tmp 94) rfl (.tuple #[(.pointer none), (.int .i64 4)]) rfl) ?_
              simp only [Act.put, List.setIfInBounds_toArray, List.set_cons_succ, List.set_cons_zero]
              refine wl rfl (.pointer none) _ (run_extZ (.tmp 92) 0 rfl #[(.pointer none), (.int .i64 4)] rfl (.pointer none) rfl) ?_
              simp only [Act.put, List.setIfInBounds_toArray, List.set_cons_succ, List.set_cons_zero]
              refine wl rfl (.int .i64 4) _ (run_extZ (.tmp 92) 1 rfl #[(.pointer none), (.int .i64 4)] rfl (.int .i64 4) rfl) ?_
              simp only [Act.put, List.setIfInBounds_toArray, List.set_cons_succ, List.set_cons_zero]
              refine wl rfl (.pointer none) _ (run_asZ (.tmp 95) rfl (.pointer none) rfl) ?_
              simp only [Act.put, List.setIfInBounds_toArray, List.set_cons_succ, List.set_cons_zero]
              refine wl rfl (.int .i64 4) _ (run_asZ (.tmp 96) rfl (.int .i64 4) rfl) ?_
              simp only [Act.put, List.setIfInBounds_toArray, List.set_cons_succ, List.set_cons_zero]
              refine wpList_nil ?_
              go_upto_region 19 with fail
              refine wp_region_lit ?_
              refine wl rfl (.pointer none) _ (run_mvZ (.tmp 9) rfl (.pointer none) rfl) ?_
              simp only [Act.put, List.setIfInBounds_toArray, List.set_cons_succ, List.set_cons_zero]
              refine wl rfl (.bool true) _ (run_binOp' (.tmp 97) (.const (.pointer none)) rfl _ _ _ rfl rfl rfl (by kernel_rfl)) ?_
              simp only [Act.put, List.setIfInBounds_toArray, List.set_cons_succ, List.set_cons_zero]
              refine wpList_nil ?_
              go_upto_region 20 with fail
              refine wp_region_lit ?_
              refine wl rfl (.int .i64 4) _ (run_mvZ (.tmp 10) rfl (.int .i64 4) rfl) ?_
              simp only [Act.put, List.setIfInBounds_toArray, List.set_cons_succ, List.set_cons_zero]
              refine wl rfl (.bool true) _ (run_eqZ (.tmp 99) (.const (.int .i64 4)) rfl (4) (4) rfl rfl true rfl) ?_
              simp only [Act.put, List.setIfInBounds_toArray, List.set_cons_succ, List.set_cons_zero]
              refine wl rfl (.bool true) _ (run_asZ (.tmp 100) rfl (.bool true) rfl) ?_
              simp only [Act.put, List.setIfInBounds_toArray, List.set_cons_succ, List.set_cons_zero]
              refine wpList_nil ?_
              go_wp2_with fail
              rw [HPQ.out]
              exact ⟨rfl, HZ.out⟩
            · have H8 : Hid (PgW w W8 c gq g m [100] [] 0 12 L2 L2.used (pageAt m 0) 100 ∧ m.fuse < 0) := ⟨h_, HJ.out.2.2.1⟩
              clear b_ h_ HJ
              refine ⟨_, rfl, ?_⟩
              simp only [Act.put, List.setIfInBounds_toArray, List.set_cons_succ, List.set_cons_zero]
              refine wl rfl (.tuple #[(ptr gq), (.int .i64 0)]) _ (run_mvZ (.tmp 94) rfl (.tuple #[(ptr gq), (.int .i64 0)]) rfl) ?_
              simp only [Act.put, List.setIfInBounds_toArray, List.set_cons_succ, List.set_cons_zero]
              refine wl rfl (ptr gq) _ (run_extZ (.tmp 92) 0 rfl #[(ptr gq), (.int .i64 0)] rfl (ptr gq) rfl) ?_
              simp only [Act.put, List.setIfInBounds_toArray, List.set_cons_succ, List.set_cons_zero]
              refine wl rfl (.int .i64 0) _ (run_extZ (.tmp 92) 1 rfl #[(ptr gq), (.int .i64 0)] rfl (.int .i64 0) rfl) ?_
              simp only [Act.put, List.setIfInBounds_toArray, List.set_cons_succ, List.set_cons_zero]
              refine wl rfl (ptr gq) _ (run_asZ (.tmp 95) rfl (ptr gq) rfl) ?_
              simp only [Act.put, List.setIfInBounds_toArray, List.set_cons_succ, List.set_cons_zero]
              refine wl rfl (.int .i64 0) _ (run_asZ (.tmp 96) rfl (.int .i64 0) rfl) ?_
              simp only [Act.put, List.setIfInBounds_toArray, List.set_cons_succ, List.set_cons_zero]
              refine wpList_nil ?_
              obtain ⟨r, hr⟩ : ∃ r, r = L2.root := ⟨_, rfl⟩
              have hrb := H8.out.1.rootB
              rw [← hr] at hrb
              obtain ⟨s, hs⟩ : ∃ s, s = roomTo L2 L2.used 12 := ⟨_, rfl⟩
              have hsb : s ≤ 12 := by rw [hs]; exact roomTo_le L2 L2.used 12
              have HRT : Hid (∀ W, PgW w W c gq g m [100] [] 0 12 L2 L2.used (pageAt m 0) 100 → Calls Tryd.prog 27 #[ptr gq] W fun e W' => e = .returned (.int .i64 r) ∧ W = W') := fun W h => by rw [hr]; exact h.root
              have HRM : Hid (∀ W, PgW w W c gq g m [100] [] 0 12 L2 L2.used (pageAt m 0) 100 → Calls Tryd.prog 29 #[ptr gq] W fun e W' => e = .returned (.int .i64 (s : Nat)) ∧ Below W.heap.size W W') := fun W h => by rw [hs]; exact h.room
              clear hr hs
              have d1 : decide (r < -1) = false := decide_eq_false (by omega)
              have d2 : decide ((12 : Int) ≤ r) = false := decide_eq_false (by omega)
              have d3 : decide ((s : Int) < 0) = false := decide_eq_false (by omega)
              have d4 : decide ((12 : Int) < (s : Int)) = false := decide_eq_false (by omega)
              go_upto_region 19 with fail
              refine wp_region_lit ?_
              refine wl rfl (ptr gq) _ (run_mvZ (.tmp 9) rfl (ptr gq) rfl) ?_
              simp only [Act.put, List.setIfInBounds_toArray, List.set_cons_succ, List.set_cons_zero]
              refine wl rfl (.bool false) _ (run_binOp' (.tmp 97) (.const (.pointer none)) rfl _ _ _ rfl rfl rfl (by kernel_rfl)) ?_
              simp only [Act.put, List.setIfInBounds_toArray, List.set_cons_succ, List.set_cons_zero]
              refine wpList_nil ?_
              go_upto_region 21 with fail
              refine wp_region_lit ?_
              refine wl rfl (ptr gq) _ (run_mvZ (.tmp 9) rfl (ptr gq) rfl) ?_
              simp only [Act.put, List.setIfInBounds_toArray, List.set_cons_succ, List.set_cons_zero]
              refine wpList_callW eN27 [.tmp 101] _ (by kernel_rfl) rfl [(ptr gq)] rfl ?_
              refine (HRT.out W8 H8.out.1).mono ?_
              rintro e W_ ⟨rfl, rfl⟩
              refine ⟨_, rfl, ?_⟩
              simp only [Act.put, List.setIfInBounds_toArray, List.set_cons_succ, List.set_cons_zero]
              refine wl rfl (.bool false) _ (run_lssZ (.tmp 102) (.const (.int .i64 (-1))) rfl _ _ rfl rfl false d1) ?_
              simp only [Act.put, List.setIfInBounds_toArray, List.set_cons_succ, List.set_cons_zero]
              refine wl rfl (.bool false) _ (run_mvZ (.tmp 103) rfl (.bool false) rfl) ?_
              simp only [Act.put, List.setIfInBounds_toArray, List.set_cons_succ, List.set_cons_zero]
              refine wl (by kernel_rfl) (ptr gq) _ (run_mvZ (.tmp 9) rfl (ptr gq) rfl) ?_
              simp only [Act.put, List.setIfInBounds_toArray, List.set_cons_succ, List.set_cons_zero]
              refine wpList_callW eN27 [.tmp 105] _ (by kernel_rfl) rfl [(ptr gq)] rfl ?_
              refine (HRT.out W8 H8.out.1).mono ?_
              rintro e W_ ⟨rfl, rfl⟩
              refine ⟨_, rfl, ?_⟩
              simp only [Act.put, List.setIfInBounds_toArray, List.set_cons_succ, List.set_cons_zero]
              refine wl (by kernel_rfl) (.bool false) _ (run_geqZ (.tmp 106) (.const (.int .i64 12)) rfl _ _ rfl rfl false d2) ?_
              simp only [Act.put, List.setIfInBounds_toArray, List.set_cons_succ, List.set_cons_zero]
              refine wl rfl (.bool false) _ (run_pickZ (.tmp 104) (.const (.bool true)) (.tmp 107) rfl false (.bool false) rfl rfl) ?_
              simp only [Act.put, List.setIfInBounds_toArray, List.set_cons_succ, List.set_cons_zero]
              refine wl rfl (.bool false) _ (run_mvZ (.tmp 108) rfl (.bool false) rfl) ?_
              simp only [Act.put, List.setIfInBounds_toArray, List.set_cons_succ, List.set_cons_zero]
              refine wl (by kernel_rfl) (ptr gq) _ (run_mvZ (.tmp 9) rfl (ptr gq) rfl) ?_
              simp only [Act.put, List.setIfInBounds_toArray, List.set_cons_succ, List.set_cons_zero]
              refine wpList_callW eN29 [.tmp 110] _ (by kernel_rfl) rfl [(ptr gq)] rfl ?_
              refine (HRM.out W8 H8.out.1).mono ?_
              rintro e W9 ⟨rfl, b_⟩
              refine ⟨_, rfl, ?_⟩
              have H9 : Hid (PgW w W9 c gq g m [100] [] 0 12 L2 L2.used (pageAt m 0) 100 ∧ m.fuse < 0) := ⟨H8.out.1.bel b_, H8.out.2⟩
              clear b_ H8
              simp only [Act.put, List.setIfInBounds_toArray, List.set_cons_succ, List.set_cons_zero]
              refine wl (by kernel_rfl) (.bool false) _ (run_lssZ (.tmp 111) (.const (.int .i64 0)) rfl _ _ rfl rfl false d3) ?_
              simp only [Act.put, List.setIfInBounds_toArray, List.set_cons_succ, List.set_cons_zero]
              refine wl rfl (.bool false) _ (run_pickZ (.tmp 109) (.const (.bool true)) (.tmp 112) rfl false (.bool false) rfl rfl) ?_
              simp only [Act.put, List.setIfInBounds_toArray, List.set_cons_succ, List.set_cons_zero]
              refine wl rfl (.bool false) _ (run_mvZ (.tmp 113) rfl (.bool false) rfl) ?_
              simp only [Act.put, List.setIfInBounds_toArray, List.set_cons_succ, List.set_cons_zero]
              refine wl (by kernel_rfl) (ptr gq) _ (run_mvZ (.tmp 9) rfl (ptr gq) rfl) ?_
              simp only [Act.put, List.setIfInBounds_toArray, List.set_cons_succ, List.set_cons_zero]
              refine wpList_callW eN29 [.tmp 115] _ (by kernel_rfl) rfl [(ptr gq)] rfl ?_
              refine (HRM.out W9 H9.out.1).mono ?_
              rintro e W10 ⟨rfl, b_⟩
              refine ⟨_, rfl, ?_⟩
              have H10 : Hid (PgW w W10 c gq g m [100] [] 0 12 L2 L2.used (pageAt m 0) 100 ∧ m.fuse < 0) := ⟨H9.out.1.bel b_, H9.out.2⟩
              clear b_ H9
              simp only [Act.put, List.setIfInBounds_toArray, List.set_cons_succ, List.set_cons_zero]
              refine wl (by kernel_rfl) (.bool false) _ (run_gtrZ (.tmp 116) (.const (.int .i64 12)) rfl _ _ rfl rfl false d4) ?_
              simp only [Act.put, List.setIfInBounds_toArray, List.set_cons_succ, List.set_cons_zero]
              refine wl rfl (.bool false) _ (run_pickZ (.tmp 114) (.const (.bool true)) (.tmp 117) rfl false (.bool false) rfl rfl) ?_
              simp only [Act.put, List.setIfInBounds_toArray, List.set_cons_succ, List.set_cons_zero]
              refine wpList_nil ?_
              go_upto_region 23 with fail
              refine wp_region_lit ?_
              refine wl rfl (.int .i64 (-1)) _ (run_asZ (.const (.int .i64 (-1))) rfl (.int .i64 (-1)) rfl) ?_
              simp only [Act.put, List.setIfInBounds_toArray, List.set_cons_succ, List.set_cons_zero]
              refine wpList_nil ?_
              clear d1 d2 d3 d4 hrb hsb HRT HRM
              go_wp2_with fail
              go_loopw [13] (fun vz W => ∃ z : Int, vz = .int .i64 z ∧ -1 ≤ z ∧ z ≤ 14 ∧ PgW w W c gq g m [100] [] 0 12 L2 L2.used (pageAt m 0) 100) (fun vz _ => (14 - intOf vz).toNat)
              case atStart => exact ⟨-1, rfl, by decide, by decide, H10.out.1⟩
              case round =>
                obtain ⟨z, rfl, hz0, hz1, hst⟩ := hrel
                have HL : Hid (PgW w wr c gq g m [100] [] 0 12 L2 L2.used (pageAt m 0) 100 ∧ m.fuse < 0) := ⟨hst, H10.out.2⟩
                clear hst H10
                by_cases hz : z < 14
                · have h1 : decide (z < (14 : Int)) = true := decide_eq_true hz
                  go_upto_region 24 with fail
                  refine wp_region_lit ?_
                  refine wl rfl (.int .i64 z) _ (run_mvZ (.tmp 13) rfl (.int .i64 z) rfl) ?_
                  simp only [Act.put, List.setIfInBounds_toArray, List.set_cons_succ, List.set_cons_zero]
                  refine wl rfl (.bool true) _ (run_lssZ (.tmp 119) (.const (.int .i64 14)) rfl _ _ rfl rfl true h1) ?_
                  simp only [Act.put, List.setIfInBounds_toArray, List.set_cons_succ, List.set_cons_zero]
                  refine wpList_nil ?_
                  go_upto_region 26 with fail
                  refine wp_region_lit ?_
                  refine wl rfl (ptr gq) _ (run_mvZ (.tmp 9) rfl (ptr gq) rfl) ?_
                  simp only [Act.put, List.setIfInBounds_toArray, List.set_cons_succ, List.set_cons_zero]
                  refine wl rfl (.int .i64 z) _ (run_mvZ (.tmp 13) rfl (.int .i64 z) rfl) ?_
                  simp only [Act.put, List.setIfInBounds_toArray, List.set_cons_succ, List.set_cons_zero]
                  refine wpList_callW eN28 [.tmp 124, .tmp 125] _ rfl rfl [(ptr gq), (.int .i64 z)] rfl ?_
                  refine (PgW.reads HL.out.1 (by decide) z).mono ?_
                  rintro e W11 ⟨pv, nv, cv, er, rfl, h_, a_⟩
                  refine ⟨_, rfl, ?_⟩
                  have H11 : Hid (PgW w W11 c gq g m [100] [] 0 12 L2 L2.used (pageAt m 0) 100) := h_
                  clear h_ HL
                  simp only [Act.put, List.setIfInBounds_toArray, List.set_cons_succ, List.set_cons_zero]
                  refine wl rfl (.tuple #[(.slice pv nv cv), (.int .i64 er)]) _ (run_mvZ (.tmp 126) rfl (.tuple #[(.slice pv nv cv), (.int .i64 er)]) rfl) ?_
                  simp only [Act.put, List.setIfInBounds_toArray, List.set_cons_succ, List.set_cons_zero]
                  refine wl rfl (.slice pv nv cv) _ (run_extZ (.tmp 123) 0 rfl #[(.slice pv nv cv), (.int .i64 er)] rfl (.slice pv nv cv) rfl) ?_
                  simp only [Act.put, List.setIfInBounds_toArray, List.set_cons_succ, List.set_cons_zero]
                  refine wl rfl (.int .i64 er) _ (run_extZ (.tmp 123) 1 rfl #[(.slice pv nv cv), (.int .i64 er)] rfl (.int .i64 er) rfl) ?_
                  simp only [Act.put, List.setIfInBounds_toArray, List.set_cons_succ, List.set_cons_zero]
                  refine wl rfl (.slice pv nv cv) _ (run_asZ (.tmp 127) rfl (.slice pv nv cv) rfl) ?_
                  simp only [Act.put, List.setIfInBounds_toArray, List.set_cons_succ, List.set_cons_zero]
                  refine wl rfl (.int .i64 er) _ (run_asZ (.tmp 128) rfl (.int .i64 er) rfl) ?_
                  simp only [Act.put, List.setIfInBounds_toArray, List.set_cons_succ, List.set_cons_zero]
                  refine wpList_nil ?_
                  rcases a_ with ⟨rfl, hnv⟩ | ⟨rfl, hnv⟩ | ⟨rfl, hnv⟩
                  · have d1 : decide ((500 : Int) < (nv : Int)) = false := decide_eq_false (by omega)
                    have d2 : decide ((0 : Int) < (nv : Int)) = false := decide_eq_false (by omega)
                    go_upto_region 27 with fail
                    refine wp_region_lit ?_
                    refine wl rfl (.int .i64 90) _ (run_mvZ (.tmp 15) rfl (.int .i64 90) rfl) ?_
                    simp only [Act.put, List.setIfInBounds_toArray, List.set_cons_succ, List.set_cons_zero]
                    refine wl rfl (.bool true) _ (run_neZ (.tmp 129) (.const (.int .i64 0)) rfl (90) (0) rfl rfl true rfl) ?_
                    simp only [Act.put, List.setIfInBounds_toArray, List.set_cons_succ, List.set_cons_zero]
                    refine wl rfl (.bool true) _ (run_mvZ (.tmp 130) rfl (.bool true) rfl) ?_
                    simp only [Act.put, List.setIfInBounds_toArray, List.set_cons_succ, List.set_cons_zero]
                    refine wl (by kernel_rfl) (.int .i64 90) _ (run_mvZ (.tmp 15) rfl (.int .i64 90) rfl) ?_
                    simp only [Act.put, List.setIfInBounds_toArray, List.set_cons_succ, List.set_cons_zero]
                    refine wl (by kernel_rfl) (.bool false) _ (run_neZ (.tmp 132) (.const (.int .i64 90)) rfl (90) (90) rfl rfl false rfl) ?_
                    simp only [Act.put, List.setIfInBounds_toArray, List.set_cons_succ, List.set_cons_zero]
                    refine wl rfl (.bool false) _ (run_pickZ (.tmp 131) (.tmp 133) (.const (.bool false)) rfl true (.bool false) rfl rfl) ?_
                    simp only [Act.put, List.setIfInBounds_toArray, List.set_cons_succ, List.set_cons_zero]
                    refine wl rfl (.bool false) _ (run_mvZ (.tmp 134) rfl (.bool false) rfl) ?_
                    simp only [Act.put, List.setIfInBounds_toArray, List.set_cons_succ, List.set_cons_zero]
                    refine wpList_skip (by kernel_rfl) ?_
                    simp only [Act.put, List.setIfInBounds_toArray, List.set_cons_succ, List.set_cons_zero]
                    refine wpList_skip (by kernel_rfl) ?_
                    simp only [Act.put, List.setIfInBounds_toArray, List.set_cons_succ, List.set_cons_zero]
                    refine wl rfl (.bool false) _ (run_pickZ (.tmp 135) (.tmp 137) (.const (.bool false)) rfl false (.bool false) rfl rfl) ?_
                    simp only [Act.put, List.setIfInBounds_toArray, List.set_cons_succ, List.set_cons_zero]
                    refine wl rfl (.bool false) _ (run_mvZ (.tmp 138) rfl (.bool false) rfl) ?_
                    simp only [Act.put, List.setIfInBounds_toArray, List.set_cons_succ, List.set_cons_zero]
                    refine wl (by kernel_rfl) (.slice pv nv cv) _ (run_mvZ (.tmp 14) rfl (.slice pv nv cv) rfl) ?_
                    simp only [Act.put, List.setIfInBounds_toArray, List.set_cons_succ, List.set_cons_zero]
                    refine wl (by kernel_rfl) (.int .i64 (nv : Nat)) _ (run_lenZ sl38 (.tmp 140) rfl pv nv cv rfl) ?_
                    simp only [Act.put, List.setIfInBounds_toArray, List.set_cons_succ, List.set_cons_zero]
                    refine wl (by kernel_rfl) (.bool false) _ (run_gtrZ (.tmp 141) (.const (.int .i64 500)) rfl _ _ rfl rfl false d1) ?_
                    simp only [Act.put, List.setIfInBounds_toArray, List.set_cons_succ, List.set_cons_zero]
                    refine wl rfl (.bool false) _ (run_pickZ (.tmp 139) (.const (.bool true)) (.tmp 142) rfl false (.bool false) rfl rfl) ?_
                    simp only [Act.put, List.setIfInBounds_toArray, List.set_cons_succ, List.set_cons_zero]
                    refine wl rfl (.bool false) _ (run_mvZ (.tmp 143) rfl (.bool false) rfl) ?_
                    simp only [Act.put, List.setIfInBounds_toArray, List.set_cons_succ, List.set_cons_zero]
                    refine wl (by kernel_rfl) (.int .i64 90) _ (run_mvZ (.tmp 15) rfl (.int .i64 90) rfl) ?_
                    simp only [Act.put, List.setIfInBounds_toArray, List.set_cons_succ, List.set_cons_zero]
                    refine wl (by kernel_rfl) (.bool true) _ (run_neZ (.tmp 145) (.const (.int .i64 0)) rfl (90) (0) rfl rfl true rfl) ?_
                    simp only [Act.put, List.setIfInBounds_toArray, List.set_cons_succ, List.set_cons_zero]
                    refine wl (by kernel_rfl) (.bool true) _ (run_mvZ (.tmp 146) rfl (.bool true) rfl) ?_
                    simp only [Act.put, List.setIfInBounds_toArray, List.set_cons_succ, List.set_cons_zero]
                    refine wl (by kernel_rfl) (.slice pv nv cv) _ (run_mvZ (.tmp 14) rfl (.slice pv nv cv) rfl) ?_
                    simp only [Act.put, List.setIfInBounds_toArray, List.set_cons_succ, List.set_cons_zero]
                    refine wl (by kernel_rfl) (.int .i64 (nv : Nat)) _ (run_lenZ sl38 (.tmp 148) rfl pv nv cv rfl) ?_
                    simp only [Act.put, List.setIfInBounds_toArray, List.set_cons_succ, List.set_cons_zero]
                    refine wl (by kernel_rfl) (.bool false) _ (run_gtrZ (.tmp 149) (.const (.int .i64 0)) rfl _ _ rfl rfl false d2) ?_
                    simp only [Act.put, List.setIfInBounds_toArray, List.set_cons_succ, List.set_cons_zero]
                    refine wl (by kernel_rfl) (.bool false) _ (run_pickZ (.tmp 147) (.tmp 150) (.const (.bool false)) rfl true (.bool false) rfl rfl) ?_
                    simp only [Act.put, List.setIfInBounds_toArray, List.set_cons_succ, List.set_cons_zero]
                    refine wl rfl (.bool false) _ (run_pickZ (.tmp 144) (.const (.bool true)) (.tmp 151) rfl false (.bool false) rfl rfl) ?_
                    simp only [Act.put, List.setIfInBounds_toArray, List.set_cons_succ, List.set_cons_zero]
                    refine wpList_nil ?_
                    go_wp2_with fail
                    refine ⟨⟨z + 1, by go_num, by omega, by omega, H11.out⟩, ?_⟩
                    simp [intOf]; omega
                  · have d1 : decide ((500 : Int) < (nv : Int)) = false := decide_eq_false (by omega)
                    have d2 : decide ((0 : Int) < (nv : Int)) = false := decide_eq_false (by omega)
                    go_upto_region 27 with fail
                    refine wp_region_lit ?_
                    refine wl rfl (.int .i64 4) _ (run_mvZ (.tmp 15) rfl (.int .i64 4) rfl) ?_
                    simp only [Act.put, List.setIfInBounds_toArray, List.set_cons_succ, List.set_cons_zero]
                    refine wl rfl (.bool true) _ (run_neZ (.tmp 129) (.const (.int .i64 0)) rfl (4) (0) rfl rfl true rfl) ?_
                    simp only [Act.put, List.setIfInBounds_toArray, List.set_cons_succ, List.set_cons_zero]
                    refine wl rfl (.bool true) _ (run_mvZ (.tmp 130) rfl (.bool true) rfl) ?_
                    simp only [Act.put, List.setIfInBounds_toArray, List.set_cons_succ, List.set_cons_zero]
                    refine wl (by kernel_rfl) (.int .i64 4) _ (run_mvZ (.tmp 15) rfl (.int .i64 4) rfl) ?_
                    simp only [Act.put, List.setIfInBounds_toArray, List.set_cons_succ, List.set_cons_zero]
                    refine wl (by kernel_rfl) (.bool true) _ (run_neZ (.tmp 132) (.const (.int .i64 90)) rfl (4) (90) rfl rfl true rfl) ?_
                    simp only [Act.put, List.setIfInBounds_toArray, List.set_cons_succ, List.set_cons_zero]
                    refine wl rfl (.bool true) _ (run_pickZ (.tmp 131) (.tmp 133) (.const (.bool false)) rfl true (.bool true) rfl rfl) ?_
                    simp only [Act.put, List.setIfInBounds_toArray, List.set_cons_succ, List.set_cons_zero]
                    refine wl rfl (.bool true) _ (run_mvZ (.tmp 134) rfl (.bool true) rfl) ?_
                    simp only [Act.put, List.setIfInBounds_toArray, List.set_cons_succ, List.set_cons_zero]
                    refine wl (by kernel_rfl) (.int .i64 4) _ (run_mvZ (.tmp 15) rfl (.int .i64 4) rfl) ?_
                    simp only [Act.put, List.setIfInBounds_toArray, List.set_cons_succ, List.set_cons_zero]
                    refine wl (by kernel_rfl) (.bool false) _ (run_neZ (.tmp 136) (.const (.int .i64 4)) rfl (4) (4) rfl rfl false rfl) ?_
                    simp only [Act.put, List.setIfInBounds_toArray, List.set_cons_succ, List.set_cons_zero]
                    refine wl rfl (.bool false) _ (run_pickZ (.tmp 135) (.tmp 137) (.const (.bool false)) rfl true (.bool false) rfl rfl) ?_
                    simp only [Act.put, List.setIfInBounds_toArray, List.set_cons_succ, List.set_cons_zero]
                    refine wl rfl (.bool false) _ (run_mvZ (.tmp 138) rfl (.bool false) rfl) ?_
                    simp only [Act.put, List.setIfInBounds_toArray, List.set_cons_succ, List.set_cons_zero]
                    refine wl (by kernel_rfl) (.slice pv nv cv) _ (run_mvZ (.tmp 14) rfl (.slice pv nv cv) rfl) ?_
                    simp only [Act.put, List.setIfInBounds_toArray, List.set_cons_succ, List.set_cons_zero]
                    refine wl (by kernel_rfl) (.int .i64 (nv : Nat)) _ (run_lenZ sl38 (.tmp 140) rfl pv nv cv rfl) ?_
                    simp only [Act.put, List.setIfInBounds_toArray, List.set_cons_succ, List.set_cons_zero]
                    refine wl (by kernel_rfl) (.bool false) _ (run_gtrZ (.tmp 141) (.const (.int .i64 500)) rfl _ _ rfl rfl false d1) ?_
                    simp only [Act.put, List.setIfInBounds_toArray, List.set_cons_succ, List.set_cons_zero]
                    refine wl rfl (.bool false) _ (run_pickZ (.tmp 139) (.const (.bool true)) (.tmp 142) rfl false (.bool false) rfl rfl) ?_
                    simp only [Act.put, List.setIfInBounds_toArray, List.set_cons_succ, List.set_cons_zero]
                    refine wl rfl (.bool false) _ (run_mvZ (.tmp 143) rfl (.bool false) rfl) ?_
                    simp only [Act.put, List.setIfInBounds_toArray, List.set_cons_succ, List.set_cons_zero]
                    refine wl (by kernel_rfl) (.int .i64 4) _ (run_mvZ (.tmp 15) rfl (.int .i64 4) rfl) ?_
                    simp only [Act.put, List.setIfInBounds_toArray, List.set_cons_succ, List.set_cons_zero]
                    refine wl (by kernel_rfl) (.bool true) _ (run_neZ (.tmp 145) (.const (.int .i64 0)) rfl (4) (0) rfl rfl true rfl) ?_
                    simp only [Act.put, List.setIfInBounds_toArray, List.set_cons_succ, List.set_cons_zero]
                    refine wl (by kernel_rfl) (.bool true) _ (run_mvZ (.tmp 146) rfl (.bool true) rfl) ?_
                    simp only [Act.put, List.setIfInBounds_toArray, List.set_cons_succ, List.set_cons_zero]
                    refine wl (by kernel_rfl) (.slice pv nv cv) _ (run_mvZ (.tmp 14) rfl (.slice pv nv cv) rfl) ?_
                    simp only [Act.put, List.setIfInBounds_toArray, List.set_cons_succ, List.set_cons_zero]
                    refine wl (by kernel_rfl) (.int .i64 (nv : Nat)) _ (run_lenZ sl38 (.tmp 148) rfl pv nv cv rfl) ?_
                    simp only [Act.put, List.setIfInBounds_toArray, List.set_cons_succ, List.set_cons_zero]
                    refine wl (by kernel_rfl) (.bool false) _ (run_gtrZ (.tmp 149) (.const (.int .i64 0)) rfl _ _ rfl rfl false d2) ?_
                    simp only [Act.put, List.setIfInBounds_toArray, List.set_cons_succ, List.set_cons_zero]
                    refine wl (by kernel_rfl) (.bool false) _ (run_pickZ (.tmp 147) (.tmp 150) (.const (.bool false)) rfl true (.bool false) rfl rfl) ?_
                    simp only [Act.put, List.setIfInBounds_toArray, List.set_cons_succ, List.set_cons_zero]
                    refine wl rfl (.bool false) _ (run_pickZ (.tmp 144) (.const (.bool true)) (.tmp 151) rfl false (.bool false) rfl rfl) ?_
                    simp only [Act.put, List.setIfInBounds_toArray, List.set_cons_succ, List.set_cons_zero]
                    refine wpList_nil ?_
                    go_wp2_with fail
                    refine ⟨⟨z + 1, by go_num, by omega, by omega, H11.out⟩, ?_⟩
                    simp [intOf]; omega
                  · have d1 : decide ((500 : Int) < (nv : Int)) = false := decide_eq_false (by omega)
                    go_upto_region 27 with fail
                    refine wp_region_lit ?_
                    refine wl rfl (.int .i64 0) _ (run_mvZ (.tmp 15) rfl (.int .i64 0) rfl) ?_
                    simp only [Act.put, List.setIfInBounds_toArray, List.set_cons_succ, List.set_cons_zero]
                    refine wl rfl (.bool false) _ (run_neZ (.tmp 129) (.const (.int .i64 0)) rfl (0) (0) rfl rfl false rfl) ?_
                    simp only [Act.put, List.setIfInBounds_toArray, List.set_cons_succ, List.set_cons_zero]
                    refine wl rfl (.bool false) _ (run_mvZ (.tmp 130) rfl (.bool false) rfl) ?_
                    simp only [Act.put, List.setIfInBounds_toArray, List.set_cons_succ, List.set_cons_zero]
                    refine wpList_skip (by kernel_rfl) ?_
                    simp only [Act.put, List.setIfInBounds_toArray, List.set_cons_succ, List.set_cons_zero]
                    refine wpList_skip (by kernel_rfl) ?_
                    simp only [Act.put, List.setIfInBounds_toArray, List.set_cons_succ, List.set_cons_zero]
                    refine wl rfl (.bool false) _ (run_pickZ (.tmp 131) (.tmp 133) (.const (.bool false)) rfl false (.bool false) rfl rfl) ?_
                    simp only [Act.put, List.setIfInBounds_toArray, List.set_cons_succ, List.set_cons_zero]
                    refine wl rfl (.bool false) _ (run_mvZ (.tmp 134) rfl (.bool false) rfl) ?_
                    simp only [Act.put, List.setIfInBounds_toArray, List.set_cons_succ, List.set_cons_zero]
                    refine wpList_skip (by kernel_rfl) ?_
                    simp only [Act.put, List.setIfInBounds_toArray, List.set_cons_succ, List.set_cons_zero]
                    refine wpList_skip (by kernel_rfl) ?_
                    simp only [Act.put, List.setIfInBounds_toArray, List.set_cons_succ, List.set_cons_zero]
                    refine wl rfl (.bool false) _ (run_pickZ (.tmp 135) (.tmp 137) (.const (.bool false)) rfl false (.bool false) rfl rfl) ?_
                    simp only [Act.put, List.setIfInBounds_toArray, List.set_cons_succ, List.set_cons_zero]
                    refine wl rfl (.bool false) _ (run_mvZ (.tmp 138) rfl (.bool false) rfl) ?_
                    simp only [Act.put, List.setIfInBounds_toArray, List.set_cons_succ, List.set_cons_zero]
                    refine wl (by kernel_rfl) (.slice pv nv cv) _ (run_mvZ (.tmp 14) rfl (.slice pv nv cv) rfl) ?_
                    simp only [Act.put, List.setIfInBounds_toArray, List.set_cons_succ, List.set_cons_zero]
                    refine wl (by kernel_rfl) (.int .i64 (nv : Nat)) _ (run_lenZ sl38 (.tmp 140) rfl pv nv cv rfl) ?_
                    simp only [Act.put, List.setIfInBounds_toArray, List.set_cons_succ, List.set_cons_zero]
                    refine wl (by kernel_rfl) (.bool false) _ (run_gtrZ (.tmp 141) (.const (.int .i64 500)) rfl _ _ rfl rfl false d1) ?_
                    simp only [Act.put, List.setIfInBounds_toArray, List.set_cons_succ, List.set_cons_zero]
                    refine wl rfl (.bool false) _ (run_pickZ (.tmp 139) (.const (.bool true)) (.tmp 142) rfl false (.bool false) rfl rfl) ?_
                    simp only [Act.put, List.setIfInBounds_toArray, List.set_cons_succ, List.set_cons_zero]
                    refine wl rfl (.bool false) _ (run_mvZ (.tmp 143) rfl (.bool false) rfl) ?_
                    simp only [Act.put, List.setIfInBounds_toArray, List.set_cons_succ, List.set_cons_zero]
                    refine wl (by kernel_rfl) (.int .i64 0) _ (run_mvZ (.tmp 15) rfl (.int .i64 0) rfl) ?_
                    simp only [Act.put, List.setIfInBounds_toArray, List.set_cons_succ, List.set_cons_zero]
                    refine wl (by kernel_rfl) (.bool false) _ (run_neZ (.tmp 145) (.const (.int .i64 0)) rfl (0) (0) rfl rfl false rfl) ?_
                    simp only [Act.put, List.setIfInBounds_toArray, List.set_cons_succ, List.set_cons_zero]
                    refine wl (by kernel_rfl) (.bool false) _ (run_mvZ (.tmp 146) rfl (.bool false) rfl) ?_
                    simp only [Act.put, List.setIfInBounds_toArray, List.set_cons_succ, List.set_cons_zero]
                    refine wpList_skip (by kernel_rfl) ?_
                    simp only [Act.put, List.setIfInBounds_toArray, List.set_cons_succ, List.set_cons_zero]
                    refine wpList_skip (by kernel_rfl) ?_
                    simp only [Act.put, List.setIfInBounds_toArray, List.set_cons_succ, List.set_cons_zero]
                    refine wpList_skip (by kernel_rfl) ?_
                    simp only [Act.put, List.setIfInBounds_toArray, List.set_cons_succ, List.set_cons_zero]
                    refine wl (by kernel_rfl) (.bool false) _ (run_pickZ (.tmp 147) (.tmp 150) (.const (.bool false)) rfl false (.bool false) rfl rfl) ?_
                    simp only [Act.put, List.setIfInBounds_toArray, List.set_cons_succ, List.set_cons_zero]
                    refine wl rfl (.bool false) _ (run_pickZ (.tmp 144) (.const (.bool true)) (.tmp 151) rfl false (.bool false) rfl rfl) ?_
                    simp only [Act.put, List.setIfInBounds_toArray, List.set_cons_succ, List.set_cons_zero]
                    refine wpList_nil ?_
                    go_wp2_with fail
                    refine ⟨⟨z + 1, by go_num, by omega, by omega, H11.out⟩, ?_⟩
                    simp [intOf]; omega
                · have h1 : decide (z < (14 : Int)) = false := decide_eq_false hz
                  go_upto_region 24 with fail
                  refine wp_region_lit ?_
                  refine wl rfl (.int .i64 z) _ (run_mvZ (.tmp 13) rfl (.int .i64 z) rfl) ?_
                  simp only [Act.put, List.setIfInBounds_toArray, List.set_cons_succ, List.set_cons_zero]
                  refine wl rfl (.bool false) _ (run_lssZ (.tmp 119) (.const (.int .i64 14)) rfl _ _ rfl rfl false h1) ?_
                  simp only [Act.put, List.setIfInBounds_toArray, List.set_cons_succ, List.set_cons_zero]
                  refine wpList_nil ?_
                  go_upto_region 29 with fail
                  refine wp_region_lit ?_
                  refine wl rfl (ptr gq) _ (run_mvZ (.tmp 9) rfl (ptr gq) rfl) ?_
                  simp only [Act.put, List.setIfInBounds_toArray, List.set_cons_succ, List.set_cons_zero]
                  refine wl rfl (.slice (some ⟨wr.heap.size, 0, none⟩) 4 4) _ (run_lit38_4 rfl) ?_
                  simp only [Act.put, List.setIfInBounds_toArray, List.set_cons_succ, List.set_cons_zero]
                  refine wl rfl (.slice (some ⟨wr.heap.size, 0, none⟩) 4 4) _ (run_cv38 (w := wr) (.tmp 154) rfl _ _ rfl) ?_
                  have HB : Hid (SliceIn (wr.alloc (.cells #[.int .u8 109, .int .u8 111, .int .u8 114, .int .u8 101] 5 (4, 4 + 1))) (.slice (some ⟨wr.heap.size, 0, none⟩) 4 4) [109, 111, 114, 101] ∧ Below wr.heap.size wr (wr.alloc (.cells #[.int .u8 109, .int .u8 111, .int .u8 114, .int .u8 101] 5 (4, 4 + 1)))) := ⟨bytes_lit wr [109, 111, 114, 101] (by decide) (by decide) _, below_alloc wr _⟩
                  obtain ⟨W12, hW_⟩ : ∃ W, W = wr.alloc (.cells #[.int .u8 109, .int .u8 111, .int .u8 114, .int .u8 101] 5 (4, 4 + 1)) := ⟨_, rfl⟩
                  obtain ⟨q9, hq_⟩ : ∃ q, q = wr.heap.size := ⟨_, rfl⟩
                  rw [← hW_] at HB
                  change wpList _ _ _ _ _ (wr.alloc (.cells #[.int .u8 109, .int .u8 111, .int .u8 114, .int .u8 101] 5 (4, 4 + 1)))
                  rw [← hW_, ← hq_]
                  have HS : Hid (SliceIn W12 (.slice (some ⟨q9, 0, none⟩) 4 4) [109, 111, 114, 101]) := by rw [hq_]; exact HB.out.1
                  have H12 : Hid (PgW w W12 c gq g m [100] [] 0 12 L2 L2.used (pageAt m 0) 100 ∧ m.fuse < 0) := ⟨HL.out.1.bel HB.out.2, HL.out.2⟩
                  clear HL
                  clear hW_ hq_ HB
                  simp only [Act.put, List.setIfInBounds_toArray, List.set_cons_succ, List.set_cons_zero]
                  refine wpList_callW eN15 [.tmp 153, .tmp 155] _ rfl rfl [(ptr gq), (.slice (some ⟨q9, 0, none⟩) 4 4)] rfl ?_
                  refine (PgW.putAny H12.out.1 (by decide) H12.out.2 _ _ HS.out).mono ?_
                  rintro e W13 ⟨k9, er, c13, m13, U13, X13, rfl, f_, h_⟩
                  refine ⟨_, rfl, ?_⟩
                  have H13 : Hid (PgW w W13 c13 gq g m13 [100] [] 0 12 L2 U13 X13 108 ∧ m13.fuse < 0) := ⟨h_, f_⟩
                  clear h_ f_ H12 HS
                  simp only [Act.put, List.setIfInBounds_toArray, List.set_cons_succ, List.set_cons_zero]
                  refine wpList_nil ?_
                  go_upto_region 30 with fail
                  refine wp_region_lit ?_
                  refine wl rfl (ptr gq) _ (run_mvZ (.tmp 9) rfl (ptr gq) rfl) ?_
                  simp only [Act.put, List.setIfInBounds_toArray, List.set_cons_succ, List.set_cons_zero]
                  refine wpList_callW eN19 [.tmp 157, .const (.int .i64 (-1))] _ rfl rfl [(ptr gq), .int .i64 (-1)] rfl ?_
                  refine (PgW.comC H13.out.1 (by decide) H13.out.2 (-1) (rootNone U13)).mono ?_
                  rintro e W14 ⟨c14, m14, rfl, _, _, _, h_⟩
                  refine ⟨_, rfl, ?_⟩
                  have HZ : Hid (Below w.heap.size w W14) := h_.pl.below
                  clear h_ H13
                  simp only [Act.put, List.setIfInBounds_toArray, List.set_cons_succ, List.set_cons_zero]
                  refine wl rfl (.int .i64 0) _ (run_asZ (.tmp 158) rfl (.int .i64 0) rfl) ?_
                  simp only [Act.put, List.setIfInBounds_toArray, List.set_cons_succ, List.set_cons_zero]
                  refine wpList_nil ?_
                  go_upto_region 31 with fail
                  refine wp_region_lit ?_
                  refine wl rfl (.int .i64 0) _ (run_mvZ (.tmp 16) rfl (.int .i64 0) rfl) ?_
                  simp only [Act.put, List.setIfInBounds_toArray, List.set_cons_succ, List.set_cons_zero]
                  refine wl rfl (.bool true) _ (run_eqZ (.tmp 159) (.const (.int .i64 0)) rfl (0) (0) rfl rfl true rfl) ?_
                  simp only [Act.put, List.setIfInBounds_toArray, List.set_cons_succ, List.set_cons_zero]
                  refine wl rfl (.bool true) _ (run_asZ (.tmp 160) rfl (.bool true) rfl) ?_
                  simp only [Act.put, List.setIfInBounds_toArray, List.set_cons_succ, List.set_cons_zero]
                  refine wpList_nil ?_
                  go_wp2_with fail
                  rw [HPQ.out]
                  exact ⟨rfl, HZ.out⟩
    · have h1 : decide ((i : Int) < (n0 : Int)) = false := decide_eq_false (by omega)
      go_upto_region 10 with fail
      refine wp_region_lit ?_
      refine wl rfl (.int .i64 (i : Nat)) _ (run_mvZ (.tmp 11) rfl (.int .i64 (i : Nat)) rfl) ?_
      simp only [Act.put, List.setIfInBounds_toArray, List.set_cons_succ, List.set_cons_zero]
      refine wl rfl (.slice p0 n0 cap0) _ (run_mvZ (.tmp 0) rfl (.slice p0 n0 cap0) rfl) ?_
      simp only [Act.put, List.setIfInBounds_toArray, List.set_cons_succ, List.set_cons_zero]
      refine wl rfl (.int .i64 (n0 : Nat)) _ (run_lenZ sl50 (.tmp 52) rfl p0 n0 cap0 rfl) ?_
      simp only [Act.put, List.setIfInBounds_toArray, List.set_cons_succ, List.set_cons_zero]
      refine wl rfl (.bool false) _ (run_lssZ (.tmp 51) (.tmp 53) rfl _ _ rfl rfl false h1) ?_
      simp only [Act.put, List.setIfInBounds_toArray, List.set_cons_succ, List.set_cons_zero]
      refine wl rfl (.bool false) _ (run_mvZ (.tmp 54) rfl (.bool false) rfl) ?_
      simp only [Act.put, List.setIfInBounds_toArray, List.set_cons_succ, List.set_cons_zero]
      refine wpList_skip (by kernel_rfl) ?_
      simp only [Act.put, List.setIfInBounds_toArray, List.set_cons_succ, List.set_cons_zero]
      refine wpList_skip (by kernel_rfl) ?_
      simp only [Act.put, List.setIfInBounds_toArray, List.set_cons_succ, List.set_cons_zero]
      refine wl rfl (.bool false) _ (run_pickZ (.tmp 55) (.tmp 57) (.const (.bool false)) rfl false (.bool false) rfl rfl) ?_
      simp only [Act.put, List.setIfInBounds_toArray, List.set_cons_succ, List.set_cons_zero]
      refine wpList_nil ?_
      clear h1
      go_upto_region 13 with fail
      refine wp_region_lit ?_
      refine wl rfl (ptr gp) _ (run_mvZ (.tmp 9) rfl (ptr gp) rfl) ?_
      simp only [Act.put, List.setIfInBounds_toArray, List.set_cons_succ, List.set_cons_zero]
      refine wpList_callW eN19 [.tmp 67, .const (.int .i64 (-1))] _ rfl rfl [(ptr gp), .int .i64 (-1)] rfl ?_
      refine (PgW.comC HS.out.1 (by omega) HS.out.2 (-1) (rootNone U)).mono ?_
      rintro e W6 ⟨c6, m6, rfl, _, f_, w_, h_⟩
      refine ⟨_, rfl, ?_⟩
      have H6 : Hid (PlW w W6 c6 g m6 [100] [] 100 ∧ m6.on = true ∧ m6.fuse < 0 ∧ m6.wt 0 = []) := ⟨h_.pl.mono (by omega), h_.o.on, f_, w_⟩
      clear h_ f_ w_ HS
      simp only [Act.put, List.setIfInBounds_toArray, List.set_cons_succ, List.set_cons_zero]
      refine wpList_nil ?_
      go_upto_region 14 with fail
      refine wp_region_lit ?_
      refine wl rfl (.int .i64 0) _ (run_asZ (.const (.int .i64 0)) rfl (.int .i64 0) rfl) ?_
      simp only [Act.put, List.setIfInBounds_toArray, List.set_cons_succ, List.set_cons_zero]
      refine wpList_nil ?_
      clear hlt hi9
      go_wp2_with fail
      go_loopw [12] (fun vj W => ∃ (j : Nat) (c : Nat → Colour) (m : Pl), vj = .int .i64 (j : Nat) ∧ j ≤ n1 ∧ PlW w W c g m [100] [] 100 ∧ m.on = true ∧ m.fuse < 0 ∧ m.wt 0 = []) (fun vj _ => n1 - (intOf vj).toNat)
      case atStart => exact ⟨0, c6, m6, rfl, Nat.zero_le _, H6.out⟩
      case round =>
        obtain ⟨j, c, m, rfl, hj1, hst⟩ := hrel
        have HJ : Hid (PlW w wr c g m [100] [] 100 ∧ m.on = true ∧ m.fuse < 0 ∧ m.wt 0 = []) := hst
        clear hst H6
        have hn1 := HN1.out.2
        by_cases hj : j < n1
        · have h1 : decide ((j : Int) < (n1 : Int)) = true := decide_eq_true (by omega)
          go_upto_region 15 with fail
          refine wp_region_lit ?_
          refine wl rfl (.int .i64 (j : Nat)) _ (run_mvZ (.tmp 12) rfl (.int .i64 (j : Nat)) rfl) ?_
          simp only [Act.put, List.setIfInBounds_toArray, List.set_cons_succ, List.set_cons_zero]
          refine wl rfl (.slice p1 n1 cap1) _ (run_mvZ (.tmp 1) rfl (.slice p1 n1 cap1) rfl) ?_
          simp only [Act.put, List.setIfInBounds_toArray, List.set_cons_succ, List.set_cons_zero]
          refine wl rfl (.int .i64 (n1 : Nat)) _ (run_lenZ sl56 (.tmp 70) rfl p1 n1 cap1 rfl) ?_
          simp only [Act.put, List.setIfInBounds_toArray, List.set_cons_succ, List.set_cons_zero]
          refine wl rfl (.bool true) _ (run_lssZ (.tmp 69) (.tmp 71) rfl _ _ rfl rfl true h1) ?_
          simp only [Act.put, List.setIfInBounds_toArray, List.set_cons_succ, List.set_cons_zero]
          refine wpList_nil ?_
          obtain ⟨tb, to, x0, x1, x2, hp1, hu⟩ := HTN.out.at j (by rw [← HN1.out.1]; exact hj)
          subst hp1
          have HC : Hid (∀ W, Below w.heap.size w W → W.cell? ⟨tb, to + j * 3 + 0, none⟩ = some (.int .i64 x0) ∧ W.cell? ⟨tb, to + j * 3 + 1, none⟩ = some (.int .i64 x1) ∧ W.cell? ⟨tb, to + j * 3 + 2, none⟩ = some (.int .i64 x2)) := hu
          clear hu
          go_upto_region 17 with fail
          refine wp_region_held (S := fun X => Below w.heap.size w X) (by kernel_rfl) ?_
          show wpAnyH _ _ _ _ _ 17 (Array.replicate 17 false) _ _
          obtain ⟨Z, hX⟩ : ∃ Z : World, Z = { wr with drawn := wr.drawn + 1 } := ⟨_, rfl⟩
          rw [← hX]
          have hP : PlW w Z c g m [100] [] 100 := by rw [hX]; exact HJ.out.1.bel ⟨rfl, rfl, rfl, Nat.le_refl _, fun _ _ => rfl⟩
          have hS : Below w.heap.size w Z := hP.below
          clear hX
          refine takeH (i := 0) (some 75) rfl rfl (by kernel_rfl) (by kernel_rfl) (by kernel_rfl) (fun _ _ _ h => h) (gRun rfl (ptr g) fun _ h => run_mvZ (.tmp 6) rfl (ptr g) rfl) hS ?_
          simp only [Act.put, List.setIfInBounds_toArray, List.set_cons_succ, List.set_cons_zero]
          refine takeH (i := 1) (some 76) rfl rfl (by kernel_rfl) (by kernel_rfl) (by kernel_rfl) (fun _ _ _ h => h) (gRun rfl (.slice (some ⟨tb, to, none⟩) n1 cap1) fun _ h => run_mvZ (.tmp 1) rfl (.slice (some ⟨tb, to, none⟩) n1 cap1) rfl) hS ?_
          simp only [Act.put, List.setIfInBounds_toArray, List.set_cons_succ, List.set_cons_zero]
          refine takeH (i := 2) (some 77) rfl rfl (by kernel_rfl) (by kernel_rfl) (by kernel_rfl) (fun _ _ _ h => h) (gRun rfl (.int .i64 (j : Nat)) fun _ h => run_mvZ (.tmp 12) rfl (.int .i64 (j : Nat)) rfl) hS ?_
          simp only [Act.put, List.setIfInBounds_toArray, List.set_cons_succ, List.set_cons_zero]
          refine takeH (i := 3) (some 78) rfl rfl (by kernel_rfl) (by kernel_rfl) (by kernel_rfl) (fun _ _ _ h => h) (gRun rfl (.pointer (some ⟨tb, to + j * 3, none⟩)) fun _ h => run_ix56 (.tmp 76) (.tmp 77) rfl tb to n1 cap1 j rfl rfl hj) hS ?_
          simp only [Act.put, List.setIfInBounds_toArray, List.set_cons_succ, List.set_cons_zero]
          refine takeH (i := 4) (some 79) rfl rfl (by kernel_rfl) (by kernel_rfl) (by kernel_rfl) (fun _ _ _ h => h) (gRun rfl (.pointer (some ⟨tb, to + j * 3 + 0, none⟩)) fun _ h => run_ix58 (.tmp 78) (.const (.int .i64 0)) rfl tb (to + j * 3) 0 rfl rfl (by decide)) hS ?_
          simp only [Act.put, List.setIfInBounds_toArray, List.set_cons_succ, List.set_cons_zero]
          refine takeH (i := 5) (some 80) rfl rfl (by kernel_rfl) (by kernel_rfl) (by kernel_rfl) (fun _ _ _ h => h) (gRun rfl (.int .i64 x0) fun _ h => run_load1 o3 (.tmp 79) rfl tb (to + j * 3 + 0) rfl (.int .i64 x0) (HC.out _ h).1) hS ?_
          simp only [Act.put, List.setIfInBounds_toArray, List.set_cons_succ, List.set_cons_zero]
          refine takeH (i := 6) (some 81) rfl rfl (by kernel_rfl) (by kernel_rfl) (by kernel_rfl) (fun _ _ _ h => h) (gRun rfl (.slice (some ⟨tb, to, none⟩) n1 cap1) fun _ h => run_mvZ (.tmp 1) rfl (.slice (some ⟨tb, to, none⟩) n1 cap1) rfl) hS ?_
          simp only [Act.put, List.setIfInBounds_toArray, List.set_cons_succ, List.set_cons_zero]
          refine takeH (i := 7) (some 82) rfl rfl (by kernel_rfl) (by kernel_rfl) (by kernel_rfl) (fun _ _ _ h => h) (gRun rfl (.int .i64 (j : Nat)) fun _ h => run_mvZ (.tmp 12) rfl (.int .i64 (j : Nat)) rfl) hS ?_
          simp only [Act.put, List.setIfInBounds_toArray, List.set_cons_succ, List.set_cons_zero]
          refine takeH (i := 8) (some 83) rfl rfl (by kernel_rfl) (by kernel_rfl) (by kernel_rfl) (fun _ _ _ h => h) (gRun rfl (.pointer (some ⟨tb, to + j * 3, none⟩)) fun _ h => run_ix56 (.tmp 81) (.tmp 82) rfl tb to n1 cap1 j rfl rfl hj) hS ?_
          simp only [Act.put, List.setIfInBounds_toArray, List.set_cons_succ, List.set_cons_zero]
          refine takeH (i := 9) (some 84) rfl rfl (by kernel_rfl) (by kernel_rfl) (by kernel_rfl) (fun _ _ _ h => h) (gRun rfl (.pointer (some ⟨tb, to + j * 3 + 1, none⟩)) fun _ h => run_ix58 (.tmp 83) (.const (.int .i64 1)) rfl tb (to + j * 3) 1 rfl rfl (by decide)) hS ?_
          simp only [Act.put, List.setIfInBounds_toArray, List.set_cons_succ, List.set_cons_zero]
          refine takeH (i := 10) (some 85) rfl rfl (by kernel_rfl) (by kernel_rfl) (by kernel_rfl) (fun _ _ _ h => h) (gRun rfl (.int .i64 x1) fun _ h => run_load1 o3 (.tmp 84) rfl tb (to + j * 3 + 1) rfl (.int .i64 x1) (HC.out _ h).2.1) hS ?_
          simp only [Act.put, List.setIfInBounds_toArray, List.set_cons_succ, List.set_cons_zero]
          refine takeH (i := 11) (some 86) rfl rfl (by kernel_rfl) (by kernel_rfl) (by kernel_rfl) (fun _ _ _ h => h) (gRun rfl (.slice (some ⟨tb, to, none⟩) n1 cap1) fun _ h => run_mvZ (.tmp 1) rfl (.slice (some ⟨tb, to, none⟩) n1 cap1) rfl) hS ?_
          simp only [Act.put, List.setIfInBounds_toArray, List.set_cons_succ, List.set_cons_zero]
          refine takeH (i := 12) (some 87) rfl rfl (by kernel_rfl) (by kernel_rfl) (by kernel_rfl) (fun _ _ _ h => h) (gRun rfl (.int .i64 (j : Nat)) fun _ h => run_mvZ (.tmp 12) rfl (.int .i64 (j : Nat)) rfl) hS ?_
          simp only [Act.put, List.setIfInBounds_toArray, List.set_cons_succ, List.set_cons_zero]
          refine takeH (i := 13) (some 88) rfl rfl (by kernel_rfl) (by kernel_rfl) (by kernel_rfl) (fun _ _ _ h => h) (gRun rfl (.pointer (some ⟨tb, to + j * 3, none⟩)) fun _ h => run_ix56 (.tmp 86) (.tmp 87) rfl tb to n1 cap1 j rfl rfl hj) hS ?_
          simp only [Act.put, List.setIfInBounds_toArray, List.set_cons_succ, List.set_cons_zero]
          refine takeH (i := 14) (some 89) rfl rfl (by kernel_rfl) (by kernel_rfl) (by kernel_rfl) (fun _ _ _ h => h) (gRun rfl (.pointer (some ⟨tb, to + j * 3 + 2, none⟩)) fun _ h => run_ix58 (.tmp 88) (.const (.int .i64 2)) rfl tb (to + j * 3) 2 rfl rfl (by decide)) hS ?_
          simp only [Act.put, List.setIfInBounds_toArray, List.set_cons_succ, List.set_cons_zero]
          refine takeH (i := 15) (some 90) rfl rfl (by kernel_rfl) (by kernel_rfl) (by kernel_rfl) (fun _ _ _ h => h) (gRun rfl (.int .i64 x2) fun _ h => run_load1 o3 (.tmp 89) rfl tb (to + j * 3 + 2) rfl (.int .i64 x2) (HC.out _ h).2.2) hS ?_
          simp only [Act.put, List.setIfInBounds_toArray, List.set_cons_succ, List.set_cons_zero]
          refine oneH (i := 16) (by kernel_rfl) ?_
          refine opCallG (some 91) rfl rfl rfl 30 _ (run_call eN30 [.tmp 75, .const (.int .i64 0), .tmp 80, .tmp 85, .tmp 90] _ rfl [(ptr g), .int .i64 0, (.int .i64 x0), (.int .i64 x1), (.int .i64 x2)] rfl) ?_
          refine (PlW.rot hP 0 x0 x1 x2).mono ?_
          rintro e W7 ⟨rb, c7, m7, rfl, h_, on_, f_, w_⟩
          refine ⟨_, rfl, ?_⟩
          have H7 : Hid (PlW w W7 c7 g m7 [100] [] 100 ∧ m7.on = true ∧ m7.fuse < 0 ∧ m7.wt 0 = []) := ⟨h_, on_.trans HJ.out.2.1, (by show m7.fuse < 0; rw [f_]; exact HJ.out.2.2.1), (w_ 0).trans HJ.out.2.2.2⟩
          clear h_ on_ f_ w_ hP hS HJ
          refine ⟨H7.out.1.below, ?_⟩
          simp only [Act.put, List.setIfInBounds_toArray, List.set_cons_succ, List.set_cons_zero]
          refine wpAnyH_done (by kernel_rfl) ?_ _
          go_wp2_with fail
          refine ⟨⟨j + 1, c7, m7, by go_num, by omega, H7.out⟩, ?_⟩
          simp [intOf]; omega
        · have h1 : decide ((j : Int) < (n1 : Int)) = false := decide_eq_false (by omega)
          go_upto_region 15 with fail
          refine wp_region_lit ?_
          refine wl rfl (.int .i64 (j : Nat)) _ (run_mvZ (.tmp 12) rfl (.int .i64 (j : Nat)) rfl) ?_
          simp only [Act.put, List.setIfInBounds_toArray, List.set_cons_succ, List.set_cons_zero]
          refine wl rfl (.slice p1 n1 cap1) _ (run_mvZ (.tmp 1) rfl (.slice p1 n1 cap1) rfl) ?_
          simp only [Act.put, List.setIfInBounds_toArray, List.set_cons_succ, List.set_cons_zero]
          refine wl rfl (.int .i64 (n1 : Nat)) _ (run_lenZ sl56 (.tmp 70) rfl p1 n1 cap1 rfl) ?_
          simp only [Act.put, List.setIfInBounds_toArray, List.set_cons_succ, List.set_cons_zero]
          refine wl rfl (.bool false) _ (run_lssZ (.tmp 69) (.tmp 71) rfl _ _ rfl rfl false h1) ?_
          simp only [Act.put, List.setIfInBounds_toArray, List.set_cons_succ, List.set_cons_zero]
          refine wpList_nil ?_
          clear h1
          go_upto_region 18 with fail
          refine wp_region_lit ?_
          refine wl rfl (ptr g) _ (run_mvZ (.tmp 6) rfl (ptr g) rfl) ?_
          simp only [Act.put, List.setIfInBounds_toArray, List.set_cons_succ, List.set_cons_zero]
          refine wpList_callW eN13 [.tmp 93, .const (.int .i64 0)] _ rfl rfl [(ptr g), .int .i64 0] rfl ?_
          refine (PlW.openAny (n := 12) HJ.out.1 (by decide) (by decide) (HJ.out.1.lv (by decide) HJ.out.2.1) HJ.out.2.2.2 (by decide) (by decide)).mono ?_
          rintro e W8 (⟨rfl, b_⟩ | ⟨gq, L2, rfl, b_, h_⟩)
          · have HZ : Hid (Below w.heap.size w W8) := (HJ.out.1.bel b_).below
            clear b_ HJ
            refine ⟨_, rfl, ?_⟩
            simp only [Act.put, List.setIfInBounds_toArray, List.set_cons_succ, List.set_cons_zero]
            refine wl rfl (.tuple #[(.pointer none), (.int .i64 4)]) _ (run_mvZ (.tmp 94) rfl (.tuple #[(.pointer none), (.int .i64 4)]) rfl) ?_
            simp only [Act.put, List.setIfInBounds_toArray, List.set_cons_succ, List.set_cons_zero]
            refine wl rfl (.pointer none) _ (run_extZ (.tmp 92) 0 rfl #[(.pointer none), (.int .i64 4)] rfl (.pointer none) rfl) ?_
            simp only [Act.put, List.setIfInBounds_toArray, List.set_cons_succ, List.set_cons_zero]
            refine wl rfl (.int .i64 4) _ (run_extZ (.tmp 92) 1 rfl #[(.pointer none), (.int .i64 4)] rfl (.int .i64 4) rfl) ?_
            simp only [Act.put, List.setIfInBounds_toArray, List.set_cons_succ, List.set_cons_zero]
            refine wl rfl (.pointer none) _ (run_asZ (.tmp 95) rfl (.pointer none) rfl) ?_
            simp only [Act.put, List.setIfInBounds_toArray, List.set_cons_succ, List.set_cons_zero]
            refine wl rfl (.int .i64 4) _ (run_asZ (.tmp 96) rfl (.int .i64 4) rfl) ?_
            simp only [Act.put, List.setIfInBounds_toArray, List.set_cons_succ, List.set_cons_zero]
            refine wpList_nil ?_
            go_upto_region 19 with fail
            refine wp_region_lit ?_
            refine wl rfl (.pointer none) _ (run_mvZ (.tmp 9) rfl (.pointer none) rfl) ?_
            simp only [Act.put, List.setIfInBounds_toArray, List.set_cons_succ, List.set_cons_zero]
            refine wl rfl (.bool true) _ (run_binOp' (.tmp 97) (.const (.pointer none)) rfl _ _ _ rfl rfl rfl (by kernel_rfl)) ?_
            simp only [Act.put, List.setIfInBounds_toArray, List.set_cons_succ, List.set_cons_zero]
            refine wpList_nil ?_
            go_upto_region 20 with fail
            refine wp_region_lit ?_
            refine wl rfl (.int .i64 4) _ (run_mvZ (.tmp 10) rfl (.int .i64 4) rfl) ?_
            simp only [Act.put, List.setIfInBounds_toArray, List.set_cons_succ, List.set_cons_zero]
            refine wl rfl (.bool true) _ (run_eqZ (.tmp 99) (.const (.int .i64 4)) rfl (4) (4) rfl rfl true rfl) ?_
            simp only [Act.put, List.setIfInBounds_toArray, List.set_cons_succ, List.set_cons_zero]
            refine wl rfl (.bool true) _ (run_asZ (.tmp 100) rfl (.bool true) rfl) ?_
            simp only [Act.put, List.setIfInBounds_toArray, List.set_cons_succ, List.set_cons_zero]
            refine wpList_nil ?_
            go_wp2_with fail
            rw [HPQ.out]
            exact ⟨rfl, HZ.out⟩
          · have H8 : Hid (PgW w W8 c gq g m [100] [] 0 12 L2 L2.used (pageAt m 0) 100 ∧ m.fuse < 0) := ⟨h_, HJ.out.2.2.1⟩
            clear b_ h_ HJ
            refine ⟨_, rfl, ?_⟩
            simp only [Act.put, List.setIfInBounds_toArray, List.set_cons_succ, List.set_cons_zero]
            refine wl rfl (.tuple #[(ptr gq), (.int .i64 0)]) _ (run_mvZ (.tmp 94) rfl (.tuple #[(ptr gq), (.int .i64 0)]) rfl) ?_
            simp only [Act.put, List.setIfInBounds_toArray, List.set_cons_succ, List.set_cons_zero]
            refine wl rfl (ptr gq) _ (run_extZ (.tmp 92) 0 rfl #[(ptr gq), (.int .i64 0)] rfl (ptr gq) rfl) ?_
            simp only [Act.put, List.setIfInBounds_toArray, List.set_cons_succ, List.set_cons_zero]
            refine wl rfl (.int .i64 0) _ (run_extZ (.tmp 92) 1 rfl #[(ptr gq), (.int .i64 0)] rfl (.int .i64 0) rfl) ?_
            simp only [Act.put, List.setIfInBounds_toArray, List.set_cons_succ, List.set_cons_zero]
            refine wl rfl (ptr gq) _ (run_asZ (.tmp 95) rfl (ptr gq) rfl) ?_
            simp only [Act.put, List.setIfInBounds_toArray, List.set_cons_succ, List.set_cons_zero]
            refine wl rfl (.int .i64 0) _ (run_asZ (.tmp 96) rfl (.int .i64 0) rfl) ?_
            simp only [Act.put, List.setIfInBounds_toArray, List.set_cons_succ, List.set_cons_zero]
            refine wpList_nil ?_
            obtain ⟨r, hr⟩ : ∃ r, r = L2.root := ⟨_, rfl⟩
            have hrb := H8.out.1.rootB
            rw [← hr] at hrb
            obtain ⟨s, hs⟩ : ∃ s, s = roomTo L2 L2.used 12 := ⟨_, rfl⟩
            have hsb : s ≤ 12 := by rw [hs]; exact roomTo_le L2 L2.used 12
            have HRT : Hid (∀ W, PgW w W c gq g m [100] [] 0 12 L2 L2.used (pageAt m 0) 100 → Calls Tryd.prog 27 #[ptr gq] W fun e W' => e = .returned (.int .i64 r) ∧ W = W') := fun W h => by rw [hr]; exact h.root
            have HRM : Hid (∀ W, PgW w W c gq g m [100] [] 0 12 L2 L2.used (pageAt m 0) 100 → Calls Tryd.prog 29 #[ptr gq] W fun e W' => e = .returned (.int .i64 (s : Nat)) ∧ Below W.heap.size W W') := fun W h => by rw [hs]; exact h.room
            clear hr hs
            have d1 : decide (r < -1) = false := decide_eq_false (by omega)
            have d2 : decide ((12 : Int) ≤ r) = false := decide_eq_false (by omega)
            have d3 : decide ((s : Int) < 0) = false := decide_eq_false (by omega)
            have d4 : decide ((12 : Int) < (s : Int)) = false := decide_eq_false (by omega)
            go_upto_region 19 with fail
            refine wp_region_lit ?_
            refine wl rfl (ptr gq) _ (run_mvZ (.tmp 9) rfl (ptr gq) rfl) ?_
            simp only [Act.put, List.setIfInBounds_toArray, List.set_cons_succ, List.set_cons_zero]
            refine wl rfl (.bool false) _ (run_binOp' (.tmp 97) (.const (.pointer none)) rfl _ _ _ rfl rfl rfl (by kernel_rfl)) ?_
            simp only [Act.put, List.setIfInBounds_toArray, List.set_cons_succ, List.set_cons_zero]
            refine wpList_nil ?_
            go_upto_region 21 with fail
            refine wp_region_lit ?_
            refine wl rfl (ptr gq) _ (run_mvZ (.tmp 9) rfl (ptr gq) rfl) ?_
            simp only [Act.put, List.setIfInBounds_toArray, List.set_cons_succ, List.set_cons_zero]
            refine wpList_callW eN27 [.tmp 101] _ (by kernel_rfl) rfl [(ptr gq)] rfl ?_
            refine (HRT.out W8 H8.out.1).mono ?_
            rintro e W_ ⟨rfl, rfl⟩
            refine ⟨_, rfl, ?_⟩
            simp only [Act.put, List.setIfInBounds_toArray, List.set_cons_succ, List.set_cons_zero]
            refine wl rfl (.bool false) _ (run_lssZ (.tmp 102) (.const (.int .i64 (-1))) rfl _ _ rfl rfl false d1) ?_
            simp only [Act.put, List.setIfInBounds_toArray, List.set_cons_succ, List.set_cons_zero]
            refine wl rfl (.bool false) _ (run_mvZ (.tmp 103) rfl (.bool false) rfl) ?_
            simp only [Act.put, List.setIfInBounds_toArray, List.set_cons_succ, List.set_cons_zero]
            refine wl (by kernel_rfl) (ptr gq) _ (run_mvZ (.tmp 9) rfl (ptr gq) rfl) ?_
            simp only [Act.put, List.setIfInBounds_toArray, List.set_cons_succ, List.set_cons_zero]
            refine wpList_callW eN27 [.tmp 105] _ (by kernel_rfl) rfl [(ptr gq)] rfl ?_
            refine (HRT.out W8 H8.out.1).mono ?_
            rintro e W_ ⟨rfl, rfl⟩
            refine ⟨_, rfl, ?_⟩
            simp only [Act.put, List.setIfInBounds_toArray, List.set_cons_succ, List.set_cons_zero]
            refine wl (by kernel_rfl) (.bool false) _ (run_geqZ (.tmp 106) (.const (.int .i64 12)) rfl _ _ rfl rfl false d2) ?_
            simp only [Act.put, List.setIfInBounds_toArray, List.set_cons_succ, List.set_cons_zero]
            refine wl rfl (.bool false) _ (run_pickZ (.tmp 104) (.const (.bool true)) (.tmp 107) rfl false (.bool false) rfl rfl) ?_
            simp only [Act.put, List.setIfInBounds_toArray, List.set_cons_succ, List.set_cons_zero]
            refine wl rfl (.bool false) _ (run_mvZ (.tmp 108) rfl (.bool false) rfl) ?_
            simp only [Act.put, List.setIfInBounds_toArray, List.set_cons_succ, List.set_cons_zero]
            refine wl (by kernel_rfl) (ptr gq) _ (run_mvZ (.tmp 9) rfl (ptr gq) rfl) ?_
            simp only [Act.put, List.setIfInBounds_toArray, List.set_cons_succ, List.set_cons_zero]
            refine wpList_callW eN29 [.tmp 110] _ (by kernel_rfl) rfl [(ptr gq)] rfl ?_
            refine (HRM.out W8 H8.out.1).mono ?_
            rintro e W9 ⟨rfl, b_⟩
            refine ⟨_, rfl, ?_⟩
            have H9 : Hid (PgW w W9 c gq g m [100] [] 0 12 L2 L2.used (pageAt m 0) 100 ∧ m.fuse < 0) := ⟨H8.out.1.bel b_, H8.out.2⟩
            clear b_ H8
            simp only [Act.put, List.setIfInBounds_toArray, List.set_cons_succ, List.set_cons_zero]
            refine wl (by kernel_rfl) (.bool false) _ (run_lssZ (.tmp 111) (.const (.int .i64 0)) rfl _ _ rfl rfl false d3) ?_
            simp only [Act.put, List.setIfInBounds_toArray, List.set_cons_succ, List.set_cons_zero]
            refine wl rfl (.bool false) _ (run_pickZ (.tmp 109) (.const (.bool true)) (.tmp 112) rfl false (.bool false) rfl rfl) ?_
            simp only [Act.put, List.setIfInBounds_toArray, List.set_cons_succ, List.set_cons_zero]
            refine wl rfl (.bool false) _ (run_mvZ (.tmp 113) rfl (.bool false) rfl) ?_
            simp only [Act.put, List.setIfInBounds_toArray, List.set_cons_succ, List.set_cons_zero]
            refine wl (by kernel_rfl) (ptr gq) _ (run_mvZ (.tmp 9) rfl (ptr gq) rfl) ?_
            simp only [Act.put, List.setIfInBounds_toArray, List.set_cons_succ, List.set_cons_zero]
            refine wpList_callW eN29 [.tmp 115] _ (by kernel_rfl) rfl [(ptr gq)] rfl ?_
            refine (HRM.out W9 H9.out.1).mono ?_
            rintro e W10 ⟨rfl, b_⟩
            refine ⟨_, rfl, ?_⟩
            have H10 : Hid (PgW w W10 c gq g m [100] [] 0 12 L2 L2.used (pageAt m 0) 100 ∧ m.fuse < 0) := ⟨H9.out.1.bel b_, H9.out.2⟩
            clear b_ H9
            simp only [Act.put, List.setIfInBounds_toArray, List.set_cons_succ, List.set_cons_zero]
            refine wl (by kernel_rfl) (.bool false) _ (run_gtrZ (.tmp 116) (.const (.int .i64 12)) rfl _ _ rfl rfl false d4) ?_
            simp only [Act.put, List.setIfInBounds_toArray, List.set_cons_succ, List.set_cons_zero]
            refine wl rfl (.bool false) _ (run_pickZ (.tmp 114) (.const (.bool true)) (.tmp 117) rfl false (.bool false) rfl rfl) ?_
            simp only [Act.put, List.setIfInBounds_toArray, List.set_cons_succ, List.set_cons_zero]
            refine wpList_nil ?_
            go_upto_region 23 with fail
            refine wp_region_lit ?_
            refine wl rfl (.int .i64 (-1)) _ (run_asZ (.const (.int .i64 (-1))) rfl (.int .i64 (-1)) rfl) ?_
            simp only [Act.put, List.setIfInBounds_toArray, List.set_cons_succ, List.set_cons_zero]
            refine wpList_nil ?_
            clear d1 d2 d3 d4 hrb hsb HRT HRM
            go_wp2_with fail
            go_loopw [13] (fun vz W => ∃ z : Int, vz = .int .i64 z ∧ -1 ≤ z ∧ z ≤ 14 ∧ PgW w W c gq g m [100] [] 0 12 L2 L2.used (pageAt m 0) 100) (fun vz _ => (14 - intOf vz).toNat)
            case atStart => exact ⟨-1, rfl, by decide, by decide, H10.out.1⟩
            case round =>
              obtain ⟨z, rfl, hz0, hz1, hst⟩ := hrel
              have HL : Hid (PgW w wr c gq g m [100] [] 0 12 L2 L2.used (pageAt m 0) 100 ∧ m.fuse < 0) := ⟨hst, H10.out.2⟩
              clear hst H10
              by_cases hz : z < 14
              · have h1 : decide (z < (14 : Int)) = true := decide_eq_true hz
                go_upto_region 24 with fail
                refine wp_region_lit ?_
                refine wl rfl (.int .i64 z) _ (run_mvZ (.tmp 13) rfl (.int .i64 z) rfl) ?_
                simp only [Act.put, List.setIfInBounds_toArray, List.set_cons_succ, List.set_cons_zero]
                refine wl rfl (.bool true) _ (run_lssZ (.tmp 119) (.const (.int .i64 14)) rfl _ _ rfl rfl true h1) ?_
                simp only [Act.put, List.setIfInBounds_toArray, List.set_cons_succ, List.set_cons_zero]
                refine wpList_nil ?_
                go_upto_region 26 with fail
                refine wp_region_lit ?_
                refine wl rfl (ptr gq) _ (run_mvZ (.tmp 9) rfl (ptr gq) rfl) ?_
                simp only [Act.put, List.setIfInBounds_toArray, List.set_cons_succ, List.set_cons_zero]
                refine wl rfl (.int .i64 z) _ (run_mvZ (.tmp 13) rfl (.int .i64 z) rfl) ?_
                simp only [Act.put, List.setIfInBounds_toArray, List.set_cons_succ, List.set_cons_zero]
                refine wpList_callW eN28 [.tmp 124, .tmp 125] _ rfl rfl [(ptr gq), (.int .i64 z)] rfl ?_
                refine (PgW.reads HL.out.1 (by decide) z).mono ?_
                rintro e W11 ⟨pv, nv, cv, er, rfl, h_, a_⟩
                refine ⟨_, rfl, ?_⟩
                have H11 : Hid (PgW w W11 c gq g m [100] [] 0 12 L2 L2.used (pageAt m 0) 100) := h_
                clear h_ HL
                simp only [Act.put, List.setIfInBounds_toArray, List.set_cons_succ, List.set_cons_zero]
                refine wl rfl (.tuple #[(.slice pv nv cv), (.int .i64 er)]) _ (run_mvZ (.tmp 126) rfl (.tuple #[(.slice pv nv cv), (.int .i64 er)]) rfl) ?_
                simp only [Act.put, List.setIfInBounds_toArray, List.set_cons_succ, List.set_cons_zero]
                refine wl rfl (.slice pv nv cv) _ (run_extZ (.tmp 123) 0 rfl #[(.slice pv nv cv), (.int .i64 er)] rfl (.slice pv nv cv) rfl) ?_
                simp only [Act.put, List.setIfInBounds_toArray, List.set_cons_succ, List.set_cons_zero]
                refine wl rfl (.int .i64 er) _ (run_extZ (.tmp 123) 1 rfl #[(.slice pv nv cv), (.int .i64 er)] rfl (.int .i64 er) rfl) ?_
                simp only [Act.put, List.setIfInBounds_toArray, List.set_cons_succ, List.set_cons_zero]
                refine wl rfl (.slice pv nv cv) _ (run_asZ (.tmp 127) rfl (.slice pv nv cv) rfl) ?_
                simp only [Act.put, List.setIfInBounds_toArray, List.set_cons_succ, List.set_cons_zero]
                refine wl rfl (.int .i64 er) _ (run_asZ (.tmp 128) rfl (.int .i64 er) rfl) ?_
                simp only [Act.put, List.setIfInBounds_toArray, List.set_cons_succ, List.set_cons_zero]
                refine wpList_nil ?_
                rcases a_ with ⟨rfl, hnv⟩ | ⟨rfl, hnv⟩ | ⟨rfl, hnv⟩
                · have d1 : decide ((500 : Int) < (nv : Int)) = false := decide_eq_false (by omega)
                  have d2 : decide ((0 : Int) < (nv : Int)) = false := decide_eq_false (by omega)
                  go_upto_region 27 with fail
                  refine wp_region_lit ?_
                  refine wl rfl (.int .i64 90) _ (run_mvZ (.tmp 15) rfl (.int .i64 90) rfl) ?_
                  simp only [Act.put, List.setIfInBounds_toArray, List.set_cons_succ, List.set_cons_zero]
                  refine wl rfl (.bool true) _ (run_neZ (.tmp 129) (.const (.int .i64 0)) rfl (90) (0) rfl rfl true rfl) ?_
                  simp only [Act.put, List.setIfInBounds_toArray, List.set_cons_succ, List.set_cons_zero]
                  refine wl rfl (.bool true) _ (run_mvZ (.tmp 130) rfl (.bool true) rfl) ?_
                  simp only [Act.put, List.setIfInBounds_toArray, List.set_cons_succ, List.set_cons_zero]
                  refine wl (by kernel_rfl) (.int .i64 90) _ (run_mvZ (.tmp 15) rfl (.int .i64 90) rfl) ?_
                  simp only [Act.put, List.setIfInBounds_toArray, List.set_cons_succ, List.set_cons_zero]
                  refine wl (by kernel_rfl) (.bool false) _ (run_neZ (.tmp 132) (.const (.int .i64 90)) rfl (90) (90) rfl rfl false rfl) ?_
                  simp only [Act.put, List.setIfInBounds_toArray, List.set_cons_succ, List.set_cons_zero]
                  refine wl rfl (.bool false) _ (run_pickZ (.tmp 131) (.tmp 133) (.const (.bool false)) rfl true (.bool false) rfl rfl) ?_
                  simp only [Act.put, List.setIfInBounds_toArray, List.set_cons_succ, List.set_cons_zero]
                  refine wl rfl (.bool false) _ (run_mvZ (.tmp 134) rfl (.bool false) rfl) ?_
                  simp only [Act.put, List.setIfInBounds_toArray, List.set_cons_succ, List.set_cons_zero]
                  refine wpList_skip (by kernel_rfl) ?_
                  simp only [Act.put, List.setIfInBounds_toArray, List.set_cons_succ, List.set_cons_zero]
                  refine wpList_skip (by kernel_rfl) ?_
                  simp only [Act.put, List.setIfInBounds_toArray, List.set_cons_succ, List.set_cons_zero]
                  refine wl rfl (.bool false) _ (run_pickZ (.tmp 135) (.tmp 137) (.const (.bool false)) rfl false (.bool false) rfl rfl) ?_
                  simp only [Act.put, List.setIfInBounds_toArray, List.set_cons_succ, List.set_cons_zero]
                  refine wl rfl (.bool false) _ (run_mvZ (.tmp 138) rfl (.bool false) rfl) ?_
                  simp only [Act.put, List.setIfInBounds_toArray, List.set_cons_succ, List.set_cons_zero]
                  refine wl (by kernel_rfl) (.slice pv nv cv) _ (run_mvZ (.tmp 14) rfl (.slice pv nv cv) rfl) ?_
                  simp only [Act.put, List.setIfInBounds_toArray, List.set_cons_succ, List.set_cons_zero]
                  refine wl (by kernel_rfl) (.int .i64 (nv : Nat)) _ (run_lenZ sl38 (.tmp 140) rfl pv nv cv rfl) ?_
                  simp only [Act.put, List.setIfInBounds_toArray, List.set_cons_succ, List.set_cons_zero]
                  refine wl (by kernel_rfl) (.bool false) _ (run_gtrZ (.tmp 141) (.const (.int .i64 500)) rfl _ _ rfl rfl false d1) ?_
                  simp only [Act.put, List.setIfInBounds_toArray, List.set_cons_succ, List.set_cons_zero]
                  refine wl rfl (.bool false) _ (run_pickZ (.tmp 139) (.const (.bool true)) (.tmp 142) rfl false (.bool false) rfl rfl) ?_
                  simp only [Act.put, List.setIfInBounds_toArray, List.set_cons_succ, List.set_cons_zero]
                  refine wl rfl (.bool false) _ (run_mvZ (.tmp 143) rfl (.bool false) rfl) ?_
                  simp only [Act.put, List.setIfInBounds_toArray, List.set_cons_succ, List.set_cons_zero]
                  refine wl (by kernel_rfl) (.int .i64 90) _ (run_mvZ (.tmp 15) rfl (.int .i64 90) rfl) ?_
                  simp only [Act.put, List.setIfInBounds_toArray, List.set_cons_succ, List.set_cons_zero]
                  refine wl (by kernel_rfl) (.bool true) _ (run_neZ (.tmp 145) (.const (.int .i64 0)) rfl (90) (0) rfl rfl true rfl) ?_
                  simp only [Act.put, List.setIfInBounds_toArray, List.set_cons_succ, List.set_cons_zero]
                  refine wl (by kernel_rfl) (.bool true) _ (run_mvZ (.tmp 146) rfl (.bool true) rfl) ?_
                  simp only [Act.put, List.setIfInBounds_toArray, List.set_cons_succ, List.set_cons_zero]
                  refine wl (by kernel_rfl) (.slice pv nv cv) _ (run_mvZ (.tmp 14) rfl (.slice pv nv cv) rfl) ?_
                  simp only [Act.put, List.setIfInBounds_toArray, List.set_cons_succ, List.set_cons_zero]
                  refine wl (by kernel_rfl) (.int .i64 (nv : Nat)) _ (run_lenZ sl38 (.tmp 148) rfl pv nv cv rfl) ?_
                  simp only [Act.put, List.setIfInBounds_toArray, List.set_cons_succ, List.set_cons_zero]
                  refine wl (by kernel_rfl) (.bool false) _ (run_gtrZ (.tmp 149) (.const (.int .i64 0)) rfl _ _ rfl rfl false d2) ?_
                  simp only [Act.put, List.setIfInBounds_toArray, List.set_cons_succ, List.set_cons_zero]
                  refine wl (by kernel_rfl) (.bool false) _ (run_pickZ (.tmp 147) (.tmp 150) (.const (.bool false)) rfl true (.bool false) rfl rfl) ?_
                  simp only [Act.put, List.setIfInBounds_toArray, List.set_cons_succ, List.set_cons_zero]
                  refine wl rfl (.bool false) _ (run_pickZ (.tmp 144) (.const (.bool true)) (.tmp 151) rfl false (.bool false) rfl rfl) ?_
                  simp only [Act.put, List.setIfInBounds_toArray, List.set_cons_succ, List.set_cons_zero]
                  refine wpList_nil ?_
                  go_wp2_with fail
                  refine ⟨⟨z + 1, by go_num, by omega, by omega, H11.out⟩, ?_⟩
                  simp [intOf]; omega
                · have d1 : decide ((500 : Int) < (nv : Int)) = false := decide_eq_false (by omega)
                  have d2 : decide ((0 : Int) < (nv : Int)) = false := decide_eq_false (by omega)
                  go_upto_region 27 with fail
                  refine wp_region_lit ?_
                  refine wl rfl (.int .i64 4) _ (run_mvZ (.tmp 15) rfl (.int .i64 4) rfl) ?_
                  simp only [Act.put, List.setIfInBounds_toArray, List.set_cons_succ, List.set_cons_zero]
                  refine wl rfl (.bool true) _ (run_neZ (.tmp 129) (.const (.int .i64 0)) rfl (4) (0) rfl rfl true rfl) ?_
                  simp only [Act.put, List.setIfInBounds_toArray, List.set_cons_succ, List.set_cons_zero]
                  refine wl rfl (.bool true) _ (run_mvZ (.tmp 130) rfl (.bool true) rfl) ?_
                  simp only [Act.put, List.setIfInBounds_toArray, List.set_cons_succ, List.set_cons_zero]
                  refine wl (by kernel_rfl) (.int .i64 4) _ (run_mvZ (.tmp 15) rfl (.int .i64 4) rfl) ?_
                  simp only [Act.put, List.setIfInBounds_toArray, List.set_cons_succ, List.set_cons_zero]
                  refine wl (by kernel_rfl) (.bool true) _ (run_neZ (.tmp 132) (.const (.int .i64 90)) rfl (4) (90) rfl rfl true rfl) ?_
                  simp only [Act.put, List.setIfInBounds_toArray, List.set_cons_succ, List.set_cons_zero]
                  refine wl rfl (.bool true) _ (run_pickZ (.tmp 131) (.tmp 133) (.const (.bool false)) rfl true (.bool true) rfl rfl) ?_
                  simp only [Act.put, List.setIfInBounds_toArray, List.set_cons_succ, List.set_cons_zero]
                  refine wl rfl (.bool true) _ (run_mvZ (.tmp 134) rfl (.bool true) rfl) ?_
                  simp only [Act.put, List.setIfInBounds_toArray, List.set_cons_succ, List.set_cons_zero]
                  refine wl (by kernel_rfl) (.int .i64 4) _ (run_mvZ (.tmp 15) rfl (.int .i64 4) rfl) ?_
                  simp only [Act.put, List.setIfInBounds_toArray, List.set_cons_succ, List.set_cons_zero]
                  refine wl (by kernel_rfl) (.bool false) _ (run_neZ (.tmp 136) (.const (.int .i64 4)) rfl (4) (4) rfl rfl false rfl) ?_
                  simp only [Act.put, List.setIfInBounds_toArray, List.set_cons_succ, List.set_cons_zero]
                  refine wl rfl (.bool false) _ (run_pickZ (.tmp 135) (.tmp 137) (.const (.bool false)) rfl true (.bool false) rfl rfl) ?_
                  simp only [Act.put, List.setIfInBounds_toArray, List.set_cons_succ, List.set_cons_zero]
                  refine wl rfl (.bool false) _ (run_mvZ (.tmp 138) rfl (.bool false) rfl) ?_
                  simp only [Act.put, List.setIfInBounds_toArray, List.set_cons_succ, List.set_cons_zero]
                  refine wl (by kernel_rfl) (.slice pv nv cv) _ (run_mvZ (.tmp 14) rfl (.slice pv nv cv) rfl) ?_
                  simp only [Act.put, List.setIfInBounds_toArray, List.set_cons_succ, List.set_cons_zero]
                  refine wl (by kernel_rfl) (.int .i64 (nv : Nat)) _ (run_lenZ sl38 (.tmp 140) rfl pv nv cv rfl) ?_
                  simp only [Act.put, List.setIfInBounds_toArray, List.set_cons_succ, List.set_cons_zero]
                  refine wl (by kernel_rfl) (.bool false) _ (run_gtrZ (.tmp 141) (.const (.int .i64 500)) rfl _ _ rfl rfl false d1) ?_
                  simp only [Act.put, List.setIfInBounds_toArray, List.set_cons_succ, List.set_cons_zero]
                  refine wl rfl (.bool false) _ (run_pickZ (.tmp 139) (.const (.bool true)) (.tmp 142) rfl false (.bool false) rfl rfl) ?_
                  simp only [Act.put, List.setIfInBounds_toArray, List.set_cons_succ, List.set_cons_zero]
                  refine wl rfl (.bool false) _ (run_mvZ (.tmp 143) rfl (.bool false) rfl) ?_
                  simp only [Act.put, List.setIfInBounds_toArray, List.set_cons_succ, List.set_cons_zero]
                  refine wl (by kernel_rfl) (.int .i64 4) _ (run_mvZ (.tmp 15) rfl (.int .i64 4) rfl) ?_
                  simp only [Act.put, List.setIfInBounds_toArray, List.set_cons_succ, List.set_cons_zero]
                  refine wl (by kernel_rfl) (.bool true) _ (run_neZ (.tmp 145) (.const (.int .i64 0)) rfl (4) (0) rfl rfl true rfl) ?_
                  simp only [Act.put, List.setIfInBounds_toArray, List.set_cons_succ, List.set_cons_zero]
                  refine wl (by kernel_rfl) (.bool true) _ (run_mvZ (.tmp 146) rfl (.bool true) rfl) ?_
                  simp only [Act.put, List.setIfInBounds_toArray, List.set_cons_succ, List.set_cons_zero]
                  refine wl (by kernel_rfl) (.slice pv nv cv) _ (run_mvZ (.tmp 14) rfl (.slice pv nv cv) rfl) ?_
                  simp only [Act.put, List.setIfInBounds_toArray, List.set_cons_succ, List.set_cons_zero]
                  refine wl (by kernel_rfl) (.int .i64 (nv : Nat)) _ (run_lenZ sl38 (.tmp 148) rfl pv nv cv rfl) ?_
                  simp only [Act.put, List.setIfInBounds_toArray, List.set_cons_succ, List.set_cons_zero]
                  refine wl (by kernel_rfl) (.bool false) _ (run_gtrZ (.tmp 149) (.const (.int .i64 0)) rfl _ _ rfl rfl false d2) ?_
                  simp only [Act.put, List.setIfInBounds_toArray, List.set_cons_succ, List.set_cons_zero]
                  refine wl (by kernel_rfl) (.bool false) _ (run_pickZ (.tmp 147) (.tmp 150) (.const (.bool false)) rfl true (.bool false) rfl rfl) ?_
                  simp only [Act.put, List.setIfInBounds_toArray, List.set_cons_succ, List.set_cons_zero]
                  refine wl rfl (.bool false) _ (run_pickZ (.tmp 144) (.const (.bool true)) (.tmp 151) rfl false (.bool false) rfl rfl) ?_
                  simp only [Act.put, List.setIfInBounds_toArray, List.set_cons_succ, List.set_cons_zero]
                  refine wpList_nil ?_
                  go_wp2_with fail
                  refine ⟨⟨z + 1, by go_num, by omega, by omega, H11.out⟩, ?_⟩
                  simp [intOf]; omega
                · have d1 : decide ((500 : Int) < (nv : Int)) = false := decide_eq_false (by omega)
                  go_upto_region 27 with fail
                  refine wp_region_lit ?_
                  refine wl rfl (.int .i64 0) _ (run_mvZ (.tmp 15) rfl (.int .i64 0) rfl) ?_
                  simp only [Act.put, List.setIfInBounds_toArray, List.set_cons_succ, List.set_cons_zero]
                  refine wl rfl (.bool false) _ (run_neZ (.tmp 129) (.const (.int .i64 0)) rfl (0) (0) rfl rfl false rfl) ?_
                  simp only [Act.put, List.setIfInBounds_toArray, List.set_cons_succ, List.set_cons_zero]
                  refine wl rfl (.bool false) _ (run_mvZ (.tmp 130) rfl (.bool false) rfl) ?_
                  simp only [Act.put, List.setIfInBounds_toArray, List.set_cons_succ, List.set_cons_zero]
                  refine wpList_skip (by kernel_rfl) ?_
                  simp only [Act.put, List.setIfInBounds_toArray, List.set_cons_succ, List.set_cons_zero]
                  refine wpList_skip (by kernel_rfl) ?_
                  simp only [Act.put, List.setIfInBounds_toArray, List.set_cons_succ, List.set_cons_zero]
                  refine wl rfl (.bool false) _ (run_pickZ (.tmp 131) (.tmp 133) (.const (.bool false)) rfl false (.bool false) rfl rfl) ?_
                  simp only [Act.put, List.setIfInBounds_toArray, List.set_cons_succ, List.set_cons_zero]
                  refine wl rfl (.bool false) _ (run_mvZ (.tmp 134) rfl (.bool false) rfl) ?_
                  simp only [Act.put, List.setIfInBounds_toArray, List.set_cons_succ, List.set_cons_zero]
                  refine wpList_skip (by kernel_rfl) ?_
                  simp only [Act.put, List.setIfInBounds_toArray, List.set_cons_succ, List.set_cons_zero]
                  refine wpList_skip (by kernel_rfl) ?_
                  simp only [Act.put, List.setIfInBounds_toArray, List.set_cons_succ, List.set_cons_zero]
                  refine wl rfl (.bool false) _ (run_pickZ (.tmp 135) (.tmp 137) (.const (.bool false)) rfl false (.bool false) rfl rfl) ?_
                  simp only [Act.put, List.setIfInBounds_toArray, List.set_cons_succ, List.set_cons_zero]
                  refine wl rfl (.bool false) _ (run_mvZ (.tmp 138) rfl (.bool false) rfl) ?_
                  simp only [Act.put, List.setIfInBounds_toArray, List.set_cons_succ, List.set_cons_zero]
                  refine wl (by kernel_rfl) (.slice pv nv cv) _ (run_mvZ (.tmp 14) rfl (.slice pv nv cv) rfl) ?_
                  simp only [Act.put, List.setIfInBounds_toArray, List.set_cons_succ, List.set_cons_zero]
                  refine wl (by kernel_rfl) (.int .i64 (nv : Nat)) _ (run_lenZ sl38 (.tmp 140) rfl pv nv cv rfl) ?_
                  simp only [Act.put, List.setIfInBounds_toArray, List.set_cons_succ, List.set_cons_zero]
                  refine wl (by kernel_rfl) (.bool false) _ (run_gtrZ (.tmp 141) (.const (.int .i64 500)) rfl _ _ rfl rfl false d1) ?_
                  simp only [Act.put, List.setIfInBounds_toArray, List.set_cons_succ, List.set_cons_zero]
                  refine wl rfl (.bool false) _ (run_pickZ (.tmp 139) (.const (.bool true)) (.tmp 142) rfl false (.bool false) rfl rfl) ?_
                  simp only [Act.put, List.setIfInBounds_toArray, List.set_cons_succ, List.set_cons_zero]
                  refine wl rfl (.bool false) _ (run_mvZ (.tmp 143) rfl (.bool false) rfl) ?_
                  simp only [Act.put, List.setIfInBounds_toArray, List.set_cons_succ, List.set_cons_zero]
                  refine wl (by kernel_rfl) (.int .i64 0) _ (run_mvZ (.tmp 15) rfl (.int .i64 0) rfl) ?_
                  simp only [Act.put, List.setIfInBounds_toArray, List.set_cons_succ, List.set_cons_zero]
                  refine wl (by kernel_rfl) (.bool false) _ (run_neZ (.tmp 145) (.const (.int .i64 0)) rfl (0) (0) rfl rfl false rfl) ?_
                  simp only [Act.put, List.setIfInBounds_toArray, List.set_cons_succ, List.set_cons_zero]
                  refine wl (by kernel_rfl) (.bool false) _ (run_mvZ (.tmp 146) rfl (.bool false) rfl) ?_
                  simp only [Act.put, List.setIfInBounds_toArray, List.set_cons_succ, List.set_cons_zero]
                  refine wpList_skip (by kernel_rfl) ?_
                  simp only [Act.put, List.setIfInBounds_toArray, List.set_cons_succ, List.set_cons_zero]
                  refine wpList_skip (by kernel_rfl) ?_
                  simp only [Act.put, List.setIfInBounds_toArray, List.set_cons_succ, List.set_cons_zero]
                  refine wpList_skip (by kernel_rfl) ?_
                  simp only [Act.put, List.setIfInBounds_toArray, List.set_cons_succ, List.set_cons_zero]
                  refine wl (by kernel_rfl) (.bool false) _ (run_pickZ (.tmp 147) (.tmp 150) (.const (.bool false)) rfl false (.bool false) rfl rfl) ?_
                  simp only [Act.put, List.setIfInBounds_toArray, List.set_cons_succ, List.set_cons_zero]
                  refine wl rfl (.bool false) _ (run_pickZ (.tmp 144) (.const (.bool true)) (.tmp 151) rfl false (.bool false) rfl rfl) ?_
                  simp only [Act.put, List.setIfInBounds_toArray, List.set_cons_succ, List.set_cons_zero]
                  refine wpList_nil ?_
                  go_wp2_with fail
                  refine ⟨⟨z + 1, by go_num, by omega, by omega, H11.out⟩, ?_⟩
                  simp [intOf]; omega
              · have h1 : decide (z < (14 : Int)) = false := decide_eq_false hz
                go_upto_region 24 with fail
                refine wp_region_lit ?_
                refine wl rfl (.int .i64 z) _ (run_mvZ (.tmp 13) rfl (.int .i64 z) rfl) ?_
                simp only [Act.put, List.setIfInBounds_toArray, List.set_cons_succ, List.set_cons_zero]
                refine wl rfl (.bool false) _ (run_lssZ (.tmp 119) (.const (.int .i64 14)) rfl _ _ rfl rfl false h1) ?_
                simp only [Act.put, List.setIfInBounds_toArray, List.set_cons_succ, List.set_cons_zero]
                refine wpList_nil ?_
                go_upto_region 29 with fail
                refine wp_region_lit ?_
                refine wl rfl (ptr gq) _ (run_mvZ (.tmp 9) rfl (ptr gq) rfl) ?_
                simp only [Act.put, List.setIfInBounds_toArray, List.set_cons_succ, List.set_cons_zero]
                refine wl rfl (.slice (some ⟨wr.heap.size, 0, none⟩) 4 4) _ (run_lit38_4 rfl) ?_
                simp only [Act.put, List.setIfInBounds_toArray, List.set_cons_succ, List.set_cons_zero]
                refine wl rfl (.slice (some ⟨wr.heap.size, 0, none⟩) 4 4) _ (run_cv38 (w := wr) (.tmp 154) rfl _ _ rfl) ?_
                have HB : Hid (SliceIn (wr.alloc (.cells #[.int .u8 109, .int .u8 111, .int .u8 114, .int .u8 101] 5 (4, 4 + 1))) (.slice (some ⟨wr.heap.size, 0, none⟩) 4 4) [109, 111, 114, 101] ∧ Below wr.heap.size wr (wr.alloc (.cells #[.int .u8 109, .int .u8 111, .int .u8 114, .int .u8 101] 5 (4, 4 + 1)))) := ⟨bytes_lit wr [109, 111, 114, 101] (by decide) (by decide) _, below_alloc wr _⟩
                obtain ⟨W12, hW_⟩ : ∃ W, W = wr.alloc (.cells #[.int .u8 109, .int .u8 111, .int .u8 114, .int .u8 101] 5 (4, 4 + 1)) := ⟨_, rfl⟩
                obtain ⟨q9, hq_⟩ : ∃ q, q = wr.heap.size := ⟨_, rfl⟩
                rw [← hW_] at HB
                change wpList _ _ _ _ _ (wr.alloc (.cells #[.int .u8 109, .int .u8 111, .int .u8 114, .int .u8 101] 5 (4, 4 + 1)))
                rw [← hW_, ← hq_]
                have HS : Hid (SliceIn W12 (.slice (some ⟨q9, 0, none⟩) 4 4) [109, 111, 114, 101]) := by rw [hq_]; exact HB.out.1
                have H12 : Hid (PgW w W12 c gq g m [100] [] 0 12 L2 L2.used (pageAt m 0) 100 ∧ m.fuse < 0) := ⟨HL.out.1.bel HB.out.2, HL.out.2⟩
                clear HL
                clear hW_ hq_ HB
                simp only [Act.put, List.setIfInBounds_toArray, List.set_cons_succ, List.set_cons_zero]
                refine wpList_callW eN15 [.tmp 153, .tmp 155] _ rfl rfl [(ptr gq), (.slice (some ⟨q9, 0, none⟩) 4 4)] rfl ?_
                refine (PgW.putAny H12.out.1 (by decide) H12.out.2 _ _ HS.out).mono ?_
                rintro e W13 ⟨k9, er, c13, m13, U13, X13, rfl, f_, h_⟩
                refine ⟨_, rfl, ?_⟩
                have H13 : Hid (PgW w W13 c13 gq g m13 [100] [] 0 12 L2 U13 X13 108 ∧ m13.fuse < 0) := ⟨h_, f_⟩
                clear h_ f_ H12 HS
                simp only [Act.put, List.setIfInBounds_toArray, List.set_cons_succ, List.set_cons_zero]
                refine wpList_nil ?_
                go_upto_region 30 with fail
                refine wp_region_lit ?_
                refine wl rfl (ptr gq) _ (run_mvZ (.tmp 9) rfl (ptr gq) rfl) ?_
                simp only [Act.put, List.setIfInBounds_toArray, List.set_cons_succ, List.set_cons_zero]
                refine wpList_callW eN19 [.tmp 157, .const (.int .i64 (-1))] _ rfl rfl [(ptr gq), .int .i64 (-1)] rfl ?_
                refine (PgW.comC H13.out.1 (by decide) H13.out.2 (-1) (rootNone U13)).mono ?_
                rintro e W14 ⟨c14, m14, rfl, _, _, _, h_⟩
                refine ⟨_, rfl, ?_⟩
                have HZ : Hid (Below w.heap.size w W14) := h_.pl.below
                clear h_ H13
                simp only [Act.put, List.setIfInBounds_toArray, List.set_cons_succ, List.set_cons_zero]
                refine wl rfl (.int .i64 0) _ (run_asZ (.tmp 158) rfl (.int .i64 0) rfl) ?_
                simp only [Act.put, List.setIfInBounds_toArray, List.set_cons_succ, List.set_cons_zero]
                refine wpList_nil ?_
                go_upto_region 31 with fail
                refine wp_region_lit ?_
                refine wl rfl (.int .i64 0) _ (run_mvZ (.tmp 16) rfl (.int .i64 0) rfl) ?_
                simp only [Act.put, List.setIfInBounds_toArray, List.set_cons_succ, List.set_cons_zero]
                refine wl rfl (.bool true) _ (run_eqZ (.tmp 159) (.const (.int .i64 0)) rfl (0) (0) rfl rfl true rfl) ?_
                simp only [Act.put, List.setIfInBounds_toArray, List.set_cons_succ, List.set_cons_zero]
                refine wl rfl (.bool true) _ (run_asZ (.tmp 160) rfl (.bool true) rfl) ?_
                simp only [Act.put, List.setIfInBounds_toArray, List.set_cons_succ, List.set_cons_zero]
                refine wpList_nil ?_
                go_wp2_with fail
                rw [HPQ.out]
                exact ⟨rfl, HZ.out⟩
end Go.Proofs.YtcpnlccajcpjmaaDoor

namespace Go.Proofs.YtcpnlccajcpjmaaDoor
open Go.ChangeShapes Go.WideShapes Go.ChangeAt Go.RowKit Go.Deep

theorem cells58 : Tryd.prog.cellsOf 58 = 3 := by kernel_rfl
set_option maxRecDepth 100000 in
theorem open_turn {H : Type} {enc : TypeId × Value → H} {W : World} {cs : List Value} {y : DataW H × List MemPlace} {n : Nat} (hf : DataW.trod enc Tryd.prog W 0 (fun _ => true) true n 58 cs = some y) : ∃ o : Int × Int × Int, cs = [.int .i64 o.1, .int .i64 o.2.1, .int .i64 o.2.2] := by
  obtain ⟨xs, m, _, hxy, hl, hxl, hx⟩ := DataW.trod_array arr58 hf
  rw [cells58] at hl
  match cs, hl, xs, hxl with
  | [v0, v1, v2], _, [y0, y1, y2], _ =>
    have g0 := hx 0 (by decide)
    have g1 := hx 1 (by decide)
    have g2 := hx 2 (by decide)
    simp only [cells3] at g0 g1 g2
    simp at g0 g1 g2
    obtain ⟨z0, rfl, _⟩ := open_i64 g0
    obtain ⟨z1, rfl, _⟩ := open_i64 g1
    obtain ⟨z2, rfl, _⟩ := open_i64 g2
    exact ⟨(z0, z1, z2), rfl⟩
set_option maxRecDepth 100000 in
/-- A SLICE OF BITS THAT CAME IN -/
theorem open_turns {H : Type} {enc : TypeId × Value → H} {W : World} {v : Value} {d : DataW H} {p : List MemPlace} {base : Nat}
    (hv : Value.okWide Tryd.prog W .any base 56 v) (h : DataW.Trod enc Tryd.prog W 0 (fun _ => true) true 56 v d p) : ∃ L, TurnsIn W v L := by
  obtain ⟨a0, len0, cap0, rfl⟩ := okWide_slice Tryd.underlying56 hv
  obtain ⟨fuel, hf⟩ := h
  rcases open_slice Tryd.underlying56 hf with ⟨hcs, _⟩ | ⟨a, len, cap, m, n, D, Pl, hcs, _, hl, hm, hmm, hx, hrow⟩
  · simp [Value.cells] at hcs
    obtain ⟨rfl, rfl, rfl⟩ := hcs
    exact ⟨[], none, 0, rfl, by simp, Or.inl rfl⟩
  · simp [Value.cells] at hcs
    obtain ⟨rfl, rfl, rfl⟩ := hcs
    unfold maxLen at hm
    have hlm : len0 ≤ m := by rw [hmm]; split <;> omega
    obtain ⟨F, hF⟩ := choose_lt (α := Int × Int × Int) (n := len0) (p := fun i o => W.cells? 0 (a.add (i * 3)) 3 = some [.int .i64 o.1, .int .i64 o.2.1, .int .i64 o.2.2] ∧ True) (fun i hi => by
      obtain ⟨cs', h1, h2⟩ := hrow i (by omega)
      rw [cells58] at h1
      obtain ⟨o, ho⟩ := open_turn h2
      exact ⟨o, by rw [← ho]; exact h1, trivial⟩)
    refine ⟨(List.range len0).map F, some a, cap0, by simp, by simp; omega, ?_⟩
    · by_cases h0 : len0 = 0
      · subst h0
        exact Or.inl (by simp)
      · right
        obtain ⟨_, _, hcell0⟩ := World.cells?_some (hF 0 (by omega)).1
        have hplain : ∃ b off, a = ⟨b, off, none⟩ := by
          have h1 := hcell0 0 (by omega)
          obtain ⟨ab, ao, sp⟩ := a
          have h1' : W.cell? ⟨ab, ao, sp⟩ = some (.int .i64 (F 0).1) := by
            simpa [Addr.add] using h1
          have hsp : sp = none := by simpa [Addr.add] using World.cell?_spot h1'
          subst hsp
          exact ⟨ab, ao, rfl⟩
        obtain ⟨b, off, rfl⟩ := hplain
        refine ⟨b, off, rfl, fun i hi => ?_⟩
        rw [List.length_map, List.length_range] at hi
        obtain ⟨_, _, hcell⟩ := World.cells?_some (hF i hi).1
        have e : ((List.range len0).map F).getD i default = F i := by simp [hi]
        rw [e]
        have h0' := hcell 0 (by omega)
        have h1' := hcell 1 (by omega)
        have h2' := hcell 2 (by omega)
        rw [add_none, add_none] at h0' h1' h2'
        exact ⟨h0', h1', h2'⟩
end Go.Proofs.YtcpnlccajcpjmaaDoor

namespace Go.Proofs.YtcpnlccajcpjmaaDoor.pagerRots
open Go.ChangeShapes Go.WideShapes Go.ChangeAt Go.RowKit

set_option maxRecDepth 100000 in
/-- WHAT THE WALK GIVES, FOR EVERY ARGUMENT AND EVERY WORLD THAT HOLDS THE TABLE -/
theorem contract (H : Type) (enc : TypeId × Value → H) (W : World) (base : Nat) (args : Array Value) (ds gs : List (DataW H)) (before : List MemPlace)
    (hval : ∀ (j : Nat) t v, Tryd.f7.params[j]? = some t → args[j]? = some v → Value.okWide Tryd.prog W .any base t v)
    (hW : DataW.Whole enc Tryd.prog Tryd.f7.params.toList Rows.pagerRotsSpec.vars false W args.toList ds gs before)
    (hL : laidMetH Tryd.prog Rows.pagerRotsRow.laid W) :
    Calls Tryd.prog 7 args W fun e W' => ∃ v, e = .returned v ∧ Rows.pagerRotsSpec.post enc Tryd.prog Tryd.f7 false true false false W args v W' := by
  have hW' := hW
  obtain ⟨p, q, hA0, hV, rfl, hfz, hnd⟩ := hW
  have hA : DataW.TrodAll enc Tryd.prog W 0 (fun _ => true) true Tryd.f7.params.toList args.toList ds p := hA0
  rw [Tryd.params7] at hA hval
  obtain ⟨v0, vs0, d0, ds0, p0, q0, hargs, rfl, rfl, h0, r0⟩ := trodAll_cons hA
  obtain ⟨v1, vs1, d1, ds1, p1, q1, rfl, rfl, rfl, h1, r1⟩ := trodAll_cons r0
  obtain ⟨rfl, rfl, rfl⟩ := trodAll_nil r1
  obtain rfl : args = #[v0, v1] := by cases args; simp_all
  obtain ⟨rfl, rfl⟩ := trodVars_none hV
  have lt0 : ∀ x ∈ p0, x.block < W.heap.size := by obtain ⟨m, hm⟩ := h0; exact DataW.trod_lt m _ _ _ hm
  obtain ⟨L0, hs0, hd0⟩ := open_rows (hval 0 50 v0 rfl rfl) h0
  have lt1 : ∀ x ∈ p1, x.block < W.heap.size := by obtain ⟨m, hm⟩ := h1; exact DataW.trod_lt m _ _ _ hm
  clear hA0
  have hr0 := hs0
  obtain ⟨p0', cap0', hv0, _, _⟩ := id hr0
  subst hv0
  obtain ⟨bs, hbs⟩ := open_turns (hval 1 56 v1 rfl rfl) h1
  obtain ⟨p1', cap1', hv1, _, _⟩ := id hbs
  subst hv1
  have walk := pagerRots_any W (tabIn_of hL) p0' L0.length cap0' L0 hr0 p1' bs.length cap1' bs hbs
  refine walk.mono fun e W' ⟨he, bel⟩ => ?_
  subst he
  exact ⟨_, rfl, _, _, _, [], _, [], hW', trodAll_mk1 (shut_bool Tryd.underlying4 _), (trodAll_cons_mk (Below.trod laidOut (by kernel_rfl) (of_decide_eq_true (by kernel_rfl)) h0 bel lt0) (trodAll_cons_mk (Below.trod laidOut (by kernel_rfl) (of_decide_eq_true (by kernel_rfl)) h1 bel lt1) trodAll_mk0)), rfl, bel.frame _, fun h => by cases h⟩

theorem laid_met (os : Os) : laidMet Tryd.prog Rows.pagerRotsRow.laid ((laidOn (World.holding Tryd.prog os ⟨#[], #[], []⟩)).forCall (fun _ _ => 0) ⟨#[], #[.slice none 0 0, .slice none 0 0], []⟩).memory :=
  laidMet_of_run' 8 (by kernel_rfl) (by kernel_rfl)
theorem reads (os : Os) {H : Type} (enc : TypeId × Value → H) : ∃ places, DataW.whole enc Tryd.prog ((laidOn (World.holding Tryd.prog os ⟨#[], #[], []⟩)).forCall (fun _ _ => 0) ⟨#[], #[.slice none 0 0, .slice none 0 0], []⟩).memory Tryd.f7.params.toList Rows.pagerRotsSpec.vars false #[Value.slice none 0 0, .slice none 0 0].toList 8 = some ([.nil, .nil], [], places) :=
  ⟨[], by kernel_rfl⟩

set_option maxRecDepth 100000 in
theorem lifted (os : Os) (started : os.Started) (H : Type) (enc : TypeId × Value → H) (F : Stop.Interp) :
    ReturnsInHanded {} Tryd.checked os 7 .any ((OpenSpec.ofChange Rows.pagerRotsSpec).preRow enc Tryd.prog Tryd.f7 Rows.pagerRotsRow.domain false Rows.pagerRotsRow.laid) (((OpenSpec.ofChange Rows.pagerRotsSpec).at F).post enc Tryd.prog Tryd.f7 false true false false) := by
  obtain ⟨places, hx⟩ := reads os enc
  refine returnsInHanded_of_row (C := Tryd.checked) (s := OpenSpec.ofChange Rows.pagerRotsSpec) own started (by kernel_rfl) Tryd.func7
    (witness_row_at (enc := enc) (C := Tryd.checked) false (laidOn (World.holding Tryd.prog os ⟨#[], #[], []⟩)) #[.slice none 0 0, .slice none 0 0] rfl (by kernel_rfl) (by kernel_rfl) (by kernel_rfl)
      (OpenSpec.preRow_of_cond 8 hx (by kernel_rfl) (fun k hk => by cases hk) (by kernel_rfl) (laid_met os))) ?_
  intro W base args ds gs before hval hW _ _ _ hL _ _
  exact contract H enc W base args ds gs before hval hW hL

theorem said : Rows.PagerRotsSaid :=
  OpenClaim.holds_of_cond 7 Tryd.f7 rfl rfl rfl rfl rfl rfl rfl ⟨rfl, rfl, rfl, rfl, rfl⟩ rfl rfl rfl rfl rfl (by kernel_rfl) Tryd.func7 (by kernel_rfl)
    (of_decide_eq_true (by kernel_rfl)) (by unfold Func.isWrapper; first | (rw [if_pos (by decide +kernel)]; kernel_rfl) | (rw [if_neg (by decide +kernel)]; exact ⟨rfl, rfl⟩))
    (fun os started H enc _ F => by rw [OpenClaim.pre_eq_preRow]; exact lifted os started H enc F)

theorem plain (f : FuncId) (fn : Func) (hf : Tryd.pinned.checked.prog.funcNamed "muniment/munimentlaw09.PagerRots" = some f) (hfn : Tryd.pinned.checked.prog.funcs[f]? = some fn) :
    false = Tryd.pinned.checked.prog.looks [] ∧ ∀ (j : Nat) t, fn.params[j]? = some t → Tryd.pinned.checked.prog.wantsStandIn t = false := by
  obtain rfl : f = 7 := Option.some.inj ((show Tryd.prog.funcNamed "muniment/munimentlaw09.PagerRots" = some 7 by kernel_rfl).symm.trans hf) |>.symm
  obtain rfl : fn = Tryd.f7 := (Option.some.inj (Tryd.func7.symm.trans hfn)).symm
  refine ⟨by kernel_rfl, fun j t ht => ?_⟩
  rw [Tryd.params7] at ht
  have hm := Array.mem_of_getElem? ht
  have : t = 50 ∨ t = 56 := by simpa using hm
  rcases this with rfl | rfl
  · exact (show Tryd.prog.wantsStandIn 50 = false by kernel_rfl)
  · exact (show Tryd.prog.wantsStandIn 56 = false by kernel_rfl)

end Go.Proofs.YtcpnlccajcpjmaaDoor.pagerRots
namespace Go.Proofs.YtcpnlccajcpjmaaDoor
/-- THE CARD -/
theorem pagerRots_card : Rows.PagerRotsCardSaid :=
  Claim7.holds_tied_plain_at .later [] _ _ _ _ pagerRots.said (fun _ h => by cases h) (by kernel_rfl) (fun _ h => by cases h) pagerRots_row_tie rfl ⟨rfl, rfl⟩ (by kernel_rfl) rfl pagerRots.plain (by kernel_rfl)
end Go.Proofs.YtcpnlccajcpjmaaDoor

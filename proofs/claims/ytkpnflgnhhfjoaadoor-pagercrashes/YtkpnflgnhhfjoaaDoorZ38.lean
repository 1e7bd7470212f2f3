/- The document's pager: Drop. The document's pager: Put. -/
import Derived.Test.YtkpnflgnhhfjoaaDoorZ37
namespace Go.Proofs.YtkpnflgnhhfjoaaDoor
open Go.RowKit Go.Maps

theorem own_base {W : World} {base e sz n : Nat} {v : Value} {xs : List Value} (h : W.ownsRow base e sz v n xs) : W.ownsRow 0 e sz v n xs := by
  refine ⟨h.1, ?_⟩
  rcases h.2 with h0 | ⟨g, cap, cur, e, _, h2⟩
  · exact Or.inl h0
  · exact Or.inr ⟨g, cap, cur, e, Nat.zero_le _, h2⟩
/-- a copy of a row: append to nothing -/
theorem run_cp {S : Nat → Prop} {W : World} (t e : TypeId) (z : Value) (bytes : Nat) (hund : Tryd.prog.underlying t = some (.slice e)) (hinf : (Tryd.prog.info? e).map (fun i => (i.zero, i.size, i.bytes)) = some (some z, 1, bytes)) (hz : z.cells.size = 1) (hby : bytes ≤ 24) (ty : TypeId) {v : Value} {xs : List Value} (h : Own1 S W e v xs) (h1 : ∀ x ∈ xs, x.oneCell' = true) (hne : xs ≠ []) (hn : xs.length ≤ 384) (hS : ∀ b, W.heap.size ≤ b → S b) :
    ∃ v' W', (Builtin.append_ #[t, t] ty #[.slice (some ⟨W.heap.size, 0, none⟩) 0 0, v]).run Tryd.prog (W.alloc (.cells #[] e)) = .ok v' W' ∧ Own1 S W' e v' xs ∧ Below W.heap.size W W' ∧ (∀ b, v'.ownBlock = some b → W.heap.size ≤ b) := by
  obtain ⟨i, hi, hz0, hz1, hz2⟩ := info_parts hinf
  have h' := h.keep (W' := W.alloc (.cells #[] e)) fun b hb _ => (below_alloc W _).block b hb
  rcases h'.1.2 with ⟨rfl, h0⟩ | ⟨g, cap, cur, rfl, hb, hgg, hcap, hmax, hsz2, htake⟩
  · exact absurd (List.length_eq_zero_iff.1 h0) hne
  · have hmul : (0 + xs.length) * bytes ≤ 384 * 24 := Nat.mul_le_mul (by omega) hby
    obtain ⟨v', W', hr, ho, hg, _⟩ := run_append_own (P := Tryd.prog) (w := W.alloc (.cells #[] e)) W.heap.size t ty e i z 1 bytes hund hi hz0 hz1 hz2 hz (by decide) (.slice (some ⟨W.heap.size, 0, none⟩) 0 0) 0 [] (World.ownsRow_made W #[] 0 (Nat.le_refl _) (Nat.zero_le _) rfl)
      ⟨g, 0, none⟩ xs.length cap xs (by simp) (fun j u hu => by
        have hj : j < xs.length := (List.getElem?_eq_some_iff.1 hu).1
        rw [add_none, Nat.zero_add, ← hu, ← htake, List.getElem?_take, if_pos (by omega)]
        simp [World.cell?, hgg]) h1 (by unfold maxLen; omega) (by omega) (below_alloc W _).size
    rw [Nat.zero_add, List.nil_append] at ho
    have hge : ∀ b, v'.ownBlock = some b → W.heap.size ≤ b := fun b hb => (ho.lt b hb).1
    exact ⟨v', W', hr, ⟨own_base ho, fun b hb => hS b (hge b hb)⟩, (below_alloc W _).trans ((Below.refl _ _).grown hg (below_alloc W _).size fun k hk => by cases hk; exact Nat.le_refl _), hge⟩
theorem inf4 : (Tryd.prog.info? 4).map (fun i => (i.zero, i.size, i.bytes)) = some (some (.bool false), 1, 1) := by kernel_rfl
theorem inf38 : (Tryd.prog.info? 38).map (fun i => (i.zero, i.size, i.bytes)) = some (some (.slice none 0 0), 1, 24) := by kernel_rfl
theorem run_lit82 {w : World} {a : Act} {o : Oper} (ho : o.op = .buildSlice 82 0 #[]) : (execOp a.eval o).run Tryd.prog w = .ok (.value (.slice (some ⟨w.heap.size, 0, none⟩) 0 0)) (w.alloc (.cells #[] 4)) := by
  have hr : (Instr.buildSlice 82 0 #[]).run Tryd.prog w = .ok (.slice (some ⟨w.heap.size, 0, none⟩) 0 0) (w.alloc (.cells #[] 4)) := by kernel_rfl
  simp only [execOp, ho, List.map_toArray, List.map_nil, hr, Sem.run_bind, Sem.run_pure, Result.andThen_ok]
theorem run_lit50 {w : World} {a : Act} {o : Oper} (ho : o.op = .buildSlice 50 0 #[]) : (execOp a.eval o).run Tryd.prog w = .ok (.value (.slice (some ⟨w.heap.size, 0, none⟩) 0 0)) (w.alloc (.cells #[] 38)) := by
  have hr : (Instr.buildSlice 50 0 #[]).run Tryd.prog w = .ok (.slice (some ⟨w.heap.size, 0, none⟩) 0 0) (w.alloc (.cells #[] 38)) := by kernel_rfl
  simp only [execOp, ho, List.map_toArray, List.map_nil, hr, Sem.run_bind, Sem.run_pure, Result.andThen_ok]
/-- all of it but the struct itself -/
structure RefX (S : Nat → Prop) (W : World) (gy n : Nat) (r : RefS) (vb vu vw vc : Value) (bs cs : List Value) : Prop where
  sgy : S gy
  b : Own1 S W 38 vb bs
  u : Own1 S W 4 vu (r.us.map .bool)
  w : Own1 S W 4 vw (r.ws.map .bool)
  c : Own1 S W 38 vc cs
  uw : ∀ b, vu.ownBlock = some b → vw.ownBlock ≠ some b
  bc : ∀ b, vb.ownBlock = some b → vc.ownBlock ≠ some b
  lu : r.us.length = n
  lw : r.ws.length = n
  lb : bs.length = n
  lc : cs.length = n
  mb : r.lb.length = n
  mc : r.lc.length = n
  byb : ∀ (i : Nat) v b, bs[i]? = some v → r.lb[i]? = some b → ByIn S W v b
  byc : ∀ (i : Nat) v b, cs[i]? = some v → r.lc[i]? = some b → ByIn S W v b
section
variable {S : Nat → Prop} {W W' : World} {gy n : Nat} {r : RefS} {vb vu vw vc : Value} {bs cs : List Value}
theorem RefO.x (h : RefO S W gy n r vb vu vw vc bs cs) : RefX S W gy n r vb vu vw vc bs cs := ⟨h.sgy, h.b, h.u, h.w, h.c, h.uw, h.bc, h.lu, h.lw, h.lb, h.lc, h.mb, h.mc, h.byb, h.byc⟩
theorem RefX.o (h : RefX S W gy n r vb vu vw vc bs cs) (hr : Row W gy 84 [.int .i64 (n : Nat), vb, vu, vw, .int .i64 r.rt, vc]) : RefO S W gy n r vb vu vw vc bs cs := ⟨hr, h.sgy, h.b, h.u, h.w, h.c, h.uw, h.bc, h.lu, h.lw, h.lb, h.lc, h.mb, h.mc, h.byb, h.byc⟩
theorem Own1.offRow {e : TypeId} {v : Value} {xs cs0 : List Value} (h : Own1 S W e v xs) (hr : Row W gy 84 cs0) (he : 84 ≠ e) (hc : Ch (· = gy) W W') : Own1 S W' e v xs := h.keepB fun b hb => hc.one b (h.lt hb) fun e2 => h.ne hr he (e2 ▸ hb)
theorem RefX.put {cs0 : List Value} (h : RefX S W gy n r vb vu vw vc bs cs) (hr : Row W gy 84 cs0) (hc : Ch (· = gy) W W') : RefX S W' gy n r vb vu vw vc bs cs :=
  ⟨h.sgy, h.b.offRow hr (by decide) hc, h.u.offRow hr (by decide) hc, h.w.offRow hr (by decide) hc, h.c.offRow hr (by decide) hc, h.uw, h.bc, h.lu, h.lw, h.lb, h.lc, h.mb, h.mc, fun i v b e e' => ⟨(h.byb i v b e e').1.offRow hr (by decide) hc, (h.byb i v b e e').2⟩, fun i v b e e' => ⟨(h.byc i v b e e').1.offRow hr (by decide) hc, (h.byc i v b e e').2⟩⟩
theorem map_one (us : List Bool) : ∀ x ∈ us.map Value.bool, x.oneCell' = true := by
  intro x hx
  obtain ⟨b, _, rfl⟩ := List.mem_map.1 hx
  rfl
theorem by_one {lb : List (List Nat)} (hl : lb.length = bs.length) (h : ∀ (i : Nat) v b, bs[i]? = some v → lb[i]? = some b → ByIn S W v b) : ∀ x ∈ bs, x.oneCell' = true := by
  intro x hx
  obtain ⟨i, hi, rfl⟩ := List.mem_iff_getElem.1 hx
  exact (own_cells (h i _ _ (List.getElem?_eq_getElem hi) (List.getElem?_eq_getElem (by omega))).1.1).2
theorem len_map {us : List Bool} {n : Nat} (h : us.length = n) : (us.map Value.bool).length = n := by rw [List.length_map]; exact h
theorem ne_nil {α : Type} {l : List α} {n : Nat} (h : l.length = n) (hn : 1 ≤ n) : l ≠ [] := fun e => by rw [e] at h; simp at h; omega
/-- Was is told anew, out of Use -/
theorem RefX.was (h : RefX S W gy n r vb vu vw vc bs cs) {v2 : Value} (ho : Own1 S W 4 v2 (r.us.map .bool)) (hne : ∀ b, vu.ownBlock = some b → v2.ownBlock ≠ some b) : RefX S W gy n { r with ws := r.us } vb vu v2 vc bs cs := ⟨h.sgy, h.b, h.u, ho, h.c, hne, h.bc, h.lu, h.lu, h.lb, h.lc, h.mb, h.mc, h.byb, h.byc⟩
theorem RefX.com (h : RefX S W gy n r vb vu vw vc bs cs) {v2 : Value} (ho : Own1 S W 38 v2 bs) (hne : ∀ b, vb.ownBlock = some b → v2.ownBlock ≠ some b) : RefX S W gy n { r with lc := r.lb } vb vu vw v2 bs bs := ⟨h.sgy, h.b, h.u, h.w, ho, h.uw, hne, h.lu, h.lw, h.lb, h.lb, h.mb, h.mb, h.byb, h.byb⟩
theorem RefX.use (h : RefX S W gy n r vb vu vw vc bs cs) {v2 : Value} (ho : Own1 S W 4 v2 (r.ws.map .bool)) (hne : ∀ b, v2.ownBlock = some b → vw.ownBlock ≠ some b) : RefX S W gy n { r with us := r.ws } vb v2 vw vc bs cs := ⟨h.sgy, h.b, ho, h.w, h.c, hne, h.bc, h.lw, h.lw, h.lb, h.lc, h.mb, h.mc, h.byb, h.byc⟩
theorem RefX.back (h : RefX S W gy n r vb vu vw vc bs cs) {v2 : Value} (ho : Own1 S W 38 v2 cs) (hne : ∀ b, v2.ownBlock = some b → vc.ownBlock ≠ some b) : RefX S W gy n { r with lb := r.lc } v2 vu vw vc cs cs := ⟨h.sgy, ho, h.u, h.w, h.c, h.uw, hne, h.lu, h.lw, h.lc, h.lc, h.mc, h.mc, h.byc, h.byc⟩
end
theorem rdrop_any (S : Nat → Prop) (w : World) (gy n : Nat) (r : RefS) (h : Ref S w gy n r) (hn : 1 ≤ n ∧ n ≤ 384) (hS : ∀ b, w.heap.size ≤ b → S b) : Calls Tryd.prog 21 #[ptr gy] w fun e w' => e = .returned noResult ∧ Ch (· = gy) w w' ∧ Ref S w' gy n { r with us := r.ws, lb := r.lc } := by
  have HRef : Hid (Ref S w gy n r) := h
  have HN : Hid (1 ≤ n ∧ n ≤ 384) := hn
  have HS : Hid (∀ b, w.heap.size ≤ b → S b) := hS
  obtain ⟨vb, vu, vw, vc, bs, cs, ho⟩ := h.opened
  have HO : Hid (RefO S w gy n r vb vu vw vc bs cs) := ho
  clear h ho hn hS
  obtain ⟨PQ, HPQ⟩ : ∃ PQ : Ending → World → Prop, Hid (PQ = fun e w' => e = .returned noResult ∧ Ch (· = gy) w w' ∧ Ref S w' gy n { r with us := r.ws, lb := r.lc }) := ⟨_, rfl⟩
  rw [← HPQ.out]
  go_enter Tryd.func21, Tryd.ntmps21
  have HLT1 : Hid (∀ b, (vw : Value).ownBlock = some b → b < w.heap.size) := fun b hb => HO.out.w.lt hb
  go_upto_region 0 with fail
  refine wp_region_lit ?_
  refine wl rfl (ptr gy) _ (run_mvZ (.tmp 0) rfl (ptr gy) rfl) ?_
  simp only [Act.put, aS, aC, aZ]
  obtain ⟨z1, wA, hrun, ho, hbl, hge⟩ := run_cp 82 4 (.bool false) 1 und82 inf4 rfl (by decide) 82 HO.out.w (map_one _) (ne_nil (len_map HO.out.lw) HN.out.1) (by rw [(len_map HO.out.lw)]; exact HN.out.2) HS.out
  refine wl rfl (.slice (some ⟨w.heap.size, 0, none⟩) 0 0) _ (run_lit82 rfl) ?_
  obtain ⟨q1, hq⟩ : ∃ q, q = w.heap.size := ⟨_, rfl⟩
  obtain ⟨wL, hw⟩ : ∃ W, W = w.alloc (.cells #[] 4) := ⟨_, rfl⟩
  have RL1 : Hid (Row wL gy 84 [.int .i64 (n : Nat), vb, vu, vw, .int .i64 r.rt, vc]) := (by rw [hw]; exact HO.out.row.later (below_alloc w _) HO.out.row.lt)
  rw [← hw] at hrun ⊢
  rw [← hq] at hrun ⊢
  have HA1 : Hid ((Builtin.append_ #[82, 82] 82 #[.slice (some ⟨q1, 0, none⟩) 0 0, vw]).run Tryd.prog wL = .ok z1 wA) := hrun
  have HO1a : Hid (RefO S wA gy n r vb vu vw vc bs cs ∧ Own1 S wA 4 z1 (r.ws.map Value.bool) ∧ (∀ b, z1.ownBlock = some b → w.heap.size ≤ b) ∧ Ch (· = gy) w wA ∧ ∀ b, wA.heap.size ≤ b → S b) := ⟨HO.out.later hbl, ho, hge, (Ch.refl (· = gy) w).trans (Ch.of_below hbl) , fun b hb => HS.out b (Nat.le_trans hbl.size hb)⟩
  clear hrun ho hbl hge hq hw
  simp only [Act.put, aS, aC, aZ]
  refine wl rfl (ptr gy) _ (run_mvZ (.tmp 0) rfl (ptr gy) rfl) ?_
  simp only [Act.put, aS, aC, aZ]
  refine wl rfl (ptr gy) _ (run_nil (.tmp 4) rfl ⟨gy, 0, none⟩ rfl) ?_
  simp only [Act.put, aS, aC, aZ]
  refine wl rfl (.pointer (some ⟨gy, 0 + 3, none⟩)) _ (run_fieldOp' f84_3 (.tmp 5) rfl gy (0) rfl) ?_
  simp only [Act.put, aS, aC, aZ]
  refine wl rfl vw _ (run_load1 o82 (.tmp 6) rfl gy (0 + 3) rfl vw (RL1.out.at 3 _ rfl)) ?_
  simp only [Act.put, aS, aC, aZ]
  refine wl rfl z1 wA (run_append (.tmp 3) (.tmp 7) rfl _ vw z1 rfl rfl HA1.out) ?_
  simp only [Act.put, aS, aC, aZ]
  refine wl rfl (ptr gy) _ (run_nil (.tmp 2) rfl ⟨gy, 0, none⟩ rfl) ?_
  simp only [Act.put, aS, aC, aZ]
  refine wl rfl (.pointer (some ⟨gy, 0 + 2, none⟩)) _ (run_fieldOp' f84_2 (.tmp 9) rfl gy (0) rfl) ?_
  simp only [Act.put, aS, aC, aZ]
  refine wl_put (t := 82) (by kernel_rfl) (.tmp 10) (.tmp 8) rfl rfl rfl gy (0 + 2) 84 [.int .i64 (n : Nat), vb, vu, vw, .int .i64 r.rt, vc] rfl z1 rfl (own_cells HO1a.out.2.1.1) HO1a.out.1.row (by simp) ?_
  obtain ⟨r1, hr⟩ : ∃ r' : RefS, r' = { r with us := r.ws } := ⟨_, rfl⟩
  obtain ⟨w1, hw⟩ : ∃ W, W = wA.setCell ⟨gy, 0 + 2, none⟩ z1 := ⟨_, rfl⟩
  have HC1 : Hid (Ch (· = gy) w w1 ∧ (∀ b, w1.heap.size ≤ b → S b) ∧ r1 = { r with us := r.ws }) := (by
    have hc : Ch (· = gy) wA w1 := hw ▸ (Ch.refl (· = gy) wA).setCell (g := gy) (Or.inl rfl) _ _
    exact ⟨HO1a.out.2.2.2.1.trans hc, fun b hb => HO1a.out.2.2.2.2 b (Nat.le_trans hc.size hb), hr⟩)
  have HO1 : Hid (RefO S w1 gy n r1 vb z1 vw vc bs cs) := (by
    have hc : Ch (· = gy) wA w1 := hw ▸ (Ch.refl (· = gy) wA).setCell (g := gy) (Or.inl rfl) _ _
    have hrow := row_cell' (i := 0 + 2) HO1a.out.1.row z1
    rw [← hw] at hrow
    have hx := (HO1a.out.1.x.use HO1a.out.2.1 (fun b hb e => absurd (HO1a.out.2.2.1 b hb) (by have := HLT1.out b e; omega))).put HO1a.out.1.row hc
    rw [← hr] at hx
    refine hx.o ?_
    rw [hr]
    exact hrow)
  rw [← hw]
  clear hw hr
  refine wpList_nil ?_
  have HLT2 : Hid (∀ b, (vc : Value).ownBlock = some b → b < w1.heap.size) := fun b hb => HO1.out.c.lt hb
  go_upto_region 1 with fail
  refine wp_region_lit ?_
  refine wl rfl (ptr gy) _ (run_mvZ (.tmp 0) rfl (ptr gy) rfl) ?_
  simp only [Act.put, aS, aC, aZ]
  obtain ⟨z2, w1A, hrun, ho, hbl, hge⟩ := run_cp 50 38 (.slice none 0 0) 24 und50 inf38 rfl (by decide) 50 HO1.out.c (by_one (by rw [HO1.out.mc, HO1.out.lc]) HO1.out.byc) (ne_nil HO1.out.lc HN.out.1) (by rw [HO1.out.lc]; exact HN.out.2) HC1.out.2.1
  refine wl rfl (.slice (some ⟨w1.heap.size, 0, none⟩) 0 0) _ (run_lit50 rfl) ?_
  obtain ⟨q2, hq⟩ : ∃ q, q = w1.heap.size := ⟨_, rfl⟩
  obtain ⟨w1L, hw⟩ : ∃ W, W = w1.alloc (.cells #[] 38) := ⟨_, rfl⟩
  have RL2 : Hid (Row w1L gy 84 [.int .i64 (n : Nat), vb, z1, vw, .int .i64 r1.rt, vc]) := (by rw [hw]; exact HO1.out.row.later (below_alloc w1 _) HO1.out.row.lt)
  rw [← hw] at hrun ⊢
  rw [← hq] at hrun ⊢
  have HA2 : Hid ((Builtin.append_ #[50, 50] 50 #[.slice (some ⟨q2, 0, none⟩) 0 0, vc]).run Tryd.prog w1L = .ok z2 w1A) := hrun
  have HO2a : Hid (RefO S w1A gy n r1 vb z1 vw vc bs cs ∧ Own1 S w1A 38 z2 (cs) ∧ (∀ b, z2.ownBlock = some b → w1.heap.size ≤ b) ∧ Ch (· = gy) w w1A ∧ ∀ b, w1A.heap.size ≤ b → S b) := ⟨HO1.out.later hbl, ho, hge, HC1.out.1.trans (Ch.of_below hbl) , fun b hb => HC1.out.2.1 b (Nat.le_trans hbl.size hb)⟩
  clear hrun ho hbl hge hq hw
  simp only [Act.put, aS, aC, aZ]
  refine wl rfl (ptr gy) _ (run_mvZ (.tmp 0) rfl (ptr gy) rfl) ?_
  simp only [Act.put, aS, aC, aZ]
  refine wl rfl (ptr gy) _ (run_nil (.tmp 13) rfl ⟨gy, 0, none⟩ rfl) ?_
  simp only [Act.put, aS, aC, aZ]
  refine wl rfl (.pointer (some ⟨gy, 0 + 5, none⟩)) _ (run_fieldOp' f84_5 (.tmp 14) rfl gy (0) rfl) ?_
  simp only [Act.put, aS, aC, aZ]
  refine wl rfl vc _ (run_load1 o50 (.tmp 15) rfl gy (0 + 5) rfl vc (RL2.out.at 5 _ rfl)) ?_
  simp only [Act.put, aS, aC, aZ]
  refine wl rfl z2 w1A (run_append (.tmp 12) (.tmp 16) rfl _ vc z2 rfl rfl HA2.out) ?_
  simp only [Act.put, aS, aC, aZ]
  refine wl rfl (ptr gy) _ (run_nil (.tmp 11) rfl ⟨gy, 0, none⟩ rfl) ?_
  simp only [Act.put, aS, aC, aZ]
  refine wl rfl (.pointer (some ⟨gy, 0 + 1, none⟩)) _ (run_fieldOp' f84_1 (.tmp 18) rfl gy (0) rfl) ?_
  simp only [Act.put, aS, aC, aZ]
  refine wl_put (t := 50) (by kernel_rfl) (.tmp 19) (.tmp 17) rfl rfl rfl gy (0 + 1) 84 [.int .i64 (n : Nat), vb, z1, vw, .int .i64 r1.rt, vc] rfl z2 rfl (own_cells HO2a.out.2.1.1) HO2a.out.1.row (by simp) ?_
  obtain ⟨r2, hr⟩ : ∃ r' : RefS, r' = { r1 with lb := r1.lc } := ⟨_, rfl⟩
  obtain ⟨w2, hw⟩ : ∃ W, W = w1A.setCell ⟨gy, 0 + 1, none⟩ z2 := ⟨_, rfl⟩
  have HC2 : Hid (Ch (· = gy) w w2 ∧ (∀ b, w2.heap.size ≤ b → S b) ∧ r2 = { r1 with lb := r1.lc }) := (by
    have hc : Ch (· = gy) w1A w2 := hw ▸ (Ch.refl (· = gy) w1A).setCell (g := gy) (Or.inl rfl) _ _
    exact ⟨HO2a.out.2.2.2.1.trans hc, fun b hb => HO2a.out.2.2.2.2 b (Nat.le_trans hc.size hb), hr⟩)
  have HO2 : Hid (RefO S w2 gy n r2 z2 z1 vw vc cs cs) := (by
    have hc : Ch (· = gy) w1A w2 := hw ▸ (Ch.refl (· = gy) w1A).setCell (g := gy) (Or.inl rfl) _ _
    have hrow := row_cell' (i := 0 + 1) HO2a.out.1.row z2
    rw [← hw] at hrow
    have hx := (HO2a.out.1.x.back HO2a.out.2.1 (fun b hb e => absurd (HO2a.out.2.2.1 b hb) (by have := HLT2.out b e; omega))).put HO2a.out.1.row hc
    rw [← hr] at hx
    refine hx.o ?_
    rw [hr]
    exact hrow)
  rw [← hw]
  clear hw hr
  refine wpList_nil ?_
  go_wp2_with fail
  rw [HPQ.out]
  refine bodyPost_end (results_none Tryd.results21 _ _ _) rfl ⟨rfl, HC2.out.1, ?_⟩
  have h := HO2.out.ref
  rw [HC2.out.2.2, HC1.out.2.2] at h
  exact h
def RefS.ok (r : RefS) (p : Int) : Bool := decide (p = -1) || r.used p
theorem RefO.root {S : Nat → Prop} {W W' : World} {gy n : Nat} {r : RefS} {vb vu vw vc : Value} {bs cs : List Value} (h : RefO S W gy n r vb vu vw vc bs cs) (p : Int) (hW : W' = W.setCell ⟨gy, 0 + 4, none⟩ (.int .i64 p)) : RefO S W' gy n { r with rt := p } vb vu vw vc bs cs := by
  have hc : Ch (· = gy) W W' := hW ▸ (Ch.refl (· = gy) W).setCell (g := gy) (Or.inl rfl) _ _
  have hrow := row_cell' (i := 0 + 4) h.row (.int .i64 p)
  rw [← hW] at hrow
  have hx := h.x.put h.row hc
  exact RefX.o (r := { r with rt := p }) ⟨hx.sgy, hx.b, hx.u, hx.w, hx.c, hx.uw, hx.bc, hx.lu, hx.lw, hx.lb, hx.lc, hx.mb, hx.mc, hx.byb, hx.byc⟩ hrow
theorem rcommit_any (S : Nat → Prop) (w : World) (gy n : Nat) (r : RefS) (h : Ref S w gy n r) (hn : 1 ≤ n ∧ n ≤ 384) (hS : ∀ b, w.heap.size ≤ b → S b) (p : Int) : Calls Tryd.prog 20 #[ptr gy, .int .i64 p] w fun e w' => (r.ok p = false ∧ e = .returned (.int .i64 90) ∧ w = w') ∨ (r.ok p = true ∧ e = .returned (.int .i64 0) ∧ Ch (· = gy) w w' ∧ Ref S w' gy n { r with rt := p, ws := r.us, lc := r.lb }) := by
  have HRef : Hid (Ref S w gy n r) := h
  have HN : Hid (1 ≤ n ∧ n ≤ 384) := hn
  have HS : Hid (∀ b, w.heap.size ≤ b → S b) := hS
  obtain ⟨vb, vu, vw, vc, bs, cs, ho⟩ := h.opened
  have HO : Hid (RefO S w gy n r vb vu vw vc bs cs) := ho
  clear h ho hn hS
  obtain ⟨PQ, HPQ⟩ : ∃ PQ : Ending → World → Prop, Hid (PQ = fun e w' => (r.ok p = false ∧ e = .returned (.int .i64 90) ∧ w = w') ∨ (r.ok p = true ∧ e = .returned (.int .i64 0) ∧ Ch (· = gy) w w' ∧ Ref S w' gy n { r with rt := p, ws := r.us, lc := r.lb })) := ⟨_, rfl⟩
  rw [← HPQ.out]
  obtain ⟨nq, hnq⟩ : ∃ x, (!decide (p = -1)) = x := ⟨_, rfl⟩
  obtain ⟨nu, hnu⟩ : ∃ x, x = !r.used p := ⟨_, rfl⟩
  have HQ : Hid ((!decide (p = -1)) = nq ∧ nu = !r.used p) := ⟨hnq, hnu⟩
  clear hnq hnu
  go_enter Tryd.func20, Tryd.ntmps20
  by_cases hq0 : nq = false
  · have HT : Hid (nq = false) := hq0
    have hok : r.ok p = true := (by have h := HQ.out.1; rw [hq0] at h; unfold RefS.ok; simp at h; simp [h])
    have HOK : Hid (r.ok p = true) := hok
    clear hok
    clear hq0
    go_upto_region 1 with fail
    refine wp_region_lit ?_
    refine wl rfl (.int .i64 p) _ (run_mvZ (.tmp 1) rfl (.int .i64 p) rfl) ?_
    simp only [Act.put, aS, aC, aZ]
    refine wl rfl (.bool nq) _ (run_neZ (.tmp 5) (.const (.int .i64 (-1))) rfl p (-1) rfl rfl nq HQ.out.1) ?_
    simp only [Act.put, aS, aC, aZ]
    refine wl rfl (.bool nq) _ (run_mvZ (.tmp 6) rfl (.bool nq) rfl) ?_
    simp only [Act.put, aS, aC, aZ]
    refine wpList_skip (by rw [HT.out]; kernel_rfl) ?_
    simp only [Act.put, aS, aC, aZ]
    refine wpList_skip (by rw [HT.out]; kernel_rfl) ?_
    simp only [Act.put, aS, aC, aZ]
    refine wpList_skip (by rw [HT.out]; kernel_rfl) ?_
    simp only [Act.put, aS, aC, aZ]
    refine wpList_skip (by rw [HT.out]; kernel_rfl) ?_
    simp only [Act.put, aS, aC, aZ]
    refine wl rfl (.bool nq) _ (run_pickZ (.tmp 7) (.tmp 11) (.const (.bool false)) rfl nq (.bool nq) rfl (by rw [HT.out]; rfl)) ?_
    simp only [Act.put, aS, aC, aZ]
    refine wpList_nil ?_
    obtain rfl : nq = false := HT.out
    go_upto_region 3 with fail
    refine wp_region_lit ?_
    refine wl rfl (ptr gy) _ (run_mvZ (.tmp 0) rfl (ptr gy) rfl) ?_
    simp only [Act.put, aS, aC, aZ]
    refine wl rfl (.int .i64 p) _ (run_mvZ (.tmp 1) rfl (.int .i64 p) rfl) ?_
    simp only [Act.put, aS, aC, aZ]
    refine wl rfl (ptr gy) _ (run_nil (.tmp 13) rfl ⟨gy, 0, none⟩ rfl) ?_
    simp only [Act.put, aS, aC, aZ]
    refine wl rfl (.pointer (some ⟨gy, 0 + 4, none⟩)) _ (run_fieldOp' f84_4 (.tmp 15) rfl gy (0) rfl) ?_
    simp only [Act.put, aS, aC, aZ]
    refine wl_put (t := 3) (by kernel_rfl) (.tmp 16) (.tmp 14) rfl rfl rfl gy (0 + 4) 84 [.int .i64 (n : Nat), vb, vu, vw, .int .i64 r.rt, vc] rfl (.int .i64 p) rfl ⟨rfl, rfl⟩ HO.out.row (by simp) ?_
    obtain ⟨r0, hr⟩ : ∃ r' : RefS, r' = { r with rt := p } := ⟨_, rfl⟩
    obtain ⟨w0, hw⟩ : ∃ W, W = w.setCell ⟨gy, 0 + 4, none⟩ (.int .i64 p) := ⟨_, rfl⟩
    have HC0 : Hid (Ch (· = gy) w w0 ∧ (∀ b, w0.heap.size ≤ b → S b) ∧ r0 = { r with rt := p }) := (by
      have hc : Ch (· = gy) w w0 := hw ▸ (Ch.refl (· = gy) w).setCell (g := gy) (Or.inl rfl) _ _
      exact ⟨hc, fun b hb => HS.out b (Nat.le_trans hc.size hb), hr⟩)
    have HO0 : Hid (RefO S w0 gy n r0 vb vu vw vc bs cs) := (by rw [hr]; exact HO.out.root p hw)
    rw [← hw]
    clear hw hr
    refine wpList_nil ?_
    have HLT1 : Hid (∀ b, (vu : Value).ownBlock = some b → b < w0.heap.size) := fun b hb => HO0.out.u.lt hb
    go_upto_region 4 with fail
    refine wp_region_lit ?_
    refine wl rfl (ptr gy) _ (run_mvZ (.tmp 0) rfl (ptr gy) rfl) ?_
    simp only [Act.put, aS, aC, aZ]
    obtain ⟨z1, w0A, hrun, ho, hbl, hge⟩ := run_cp 82 4 (.bool false) 1 und82 inf4 rfl (by decide) 82 HO0.out.u (map_one _) (ne_nil (len_map HO0.out.lu) HN.out.1) (by rw [(len_map HO0.out.lu)]; exact HN.out.2) HC0.out.2.1
    refine wl rfl (.slice (some ⟨w0.heap.size, 0, none⟩) 0 0) _ (run_lit82 rfl) ?_
    obtain ⟨q1, hq⟩ : ∃ q, q = w0.heap.size := ⟨_, rfl⟩
    obtain ⟨w0L, hw⟩ : ∃ W, W = w0.alloc (.cells #[] 4) := ⟨_, rfl⟩
    have RL1 : Hid (Row w0L gy 84 [.int .i64 (n : Nat), vb, vu, vw, .int .i64 r0.rt, vc]) := (by rw [hw]; exact HO0.out.row.later (below_alloc w0 _) HO0.out.row.lt)
    rw [← hw] at hrun ⊢
    rw [← hq] at hrun ⊢
    have HA1 : Hid ((Builtin.append_ #[82, 82] 82 #[.slice (some ⟨q1, 0, none⟩) 0 0, vu]).run Tryd.prog w0L = .ok z1 w0A) := hrun
    have HO1a : Hid (RefO S w0A gy n r0 vb vu vw vc bs cs ∧ Own1 S w0A 4 z1 (r0.us.map Value.bool) ∧ (∀ b, z1.ownBlock = some b → w0.heap.size ≤ b) ∧ Ch (· = gy) w w0A ∧ ∀ b, w0A.heap.size ≤ b → S b) := ⟨HO0.out.later hbl, ho, hge, HC0.out.1.trans (Ch.of_below hbl) , fun b hb => HC0.out.2.1 b (Nat.le_trans hbl.size hb)⟩
    clear hrun ho hbl hge hq hw
    simp only [Act.put, aS, aC, aZ]
    refine wl rfl (ptr gy) _ (run_mvZ (.tmp 0) rfl (ptr gy) rfl) ?_
    simp only [Act.put, aS, aC, aZ]
    refine wl rfl (ptr gy) _ (run_nil (.tmp 19) rfl ⟨gy, 0, none⟩ rfl) ?_
    simp only [Act.put, aS, aC, aZ]
    refine wl rfl (.pointer (some ⟨gy, 0 + 2, none⟩)) _ (run_fieldOp' f84_2 (.tmp 20) rfl gy (0) rfl) ?_
    simp only [Act.put, aS, aC, aZ]
    refine wl rfl vu _ (run_load1 o82 (.tmp 21) rfl gy (0 + 2) rfl vu (RL1.out.at 2 _ rfl)) ?_
    simp only [Act.put, aS, aC, aZ]
    refine wl rfl z1 w0A (run_append (.tmp 18) (.tmp 22) rfl _ vu z1 rfl rfl HA1.out) ?_
    simp only [Act.put, aS, aC, aZ]
    refine wl rfl (ptr gy) _ (run_nil (.tmp 17) rfl ⟨gy, 0, none⟩ rfl) ?_
    simp only [Act.put, aS, aC, aZ]
    refine wl rfl (.pointer (some ⟨gy, 0 + 3, none⟩)) _ (run_fieldOp' f84_3 (.tmp 24) rfl gy (0) rfl) ?_
    simp only [Act.put, aS, aC, aZ]
    refine wl_put (t := 82) (by kernel_rfl) (.tmp 25) (.tmp 23) rfl rfl rfl gy (0 + 3) 84 [.int .i64 (n : Nat), vb, vu, vw, .int .i64 r0.rt, vc] rfl z1 rfl (own_cells HO1a.out.2.1.1) HO1a.out.1.row (by simp) ?_
    obtain ⟨r1, hr⟩ : ∃ r' : RefS, r' = { r0 with ws := r0.us } := ⟨_, rfl⟩
    obtain ⟨w1, hw⟩ : ∃ W, W = w0A.setCell ⟨gy, 0 + 3, none⟩ z1 := ⟨_, rfl⟩
    have HC1 : Hid (Ch (· = gy) w w1 ∧ (∀ b, w1.heap.size ≤ b → S b) ∧ r1 = { r0 with ws := r0.us }) := (by
      have hc : Ch (· = gy) w0A w1 := hw ▸ (Ch.refl (· = gy) w0A).setCell (g := gy) (Or.inl rfl) _ _
      exact ⟨HO1a.out.2.2.2.1.trans hc, fun b hb => HO1a.out.2.2.2.2 b (Nat.le_trans hc.size hb), hr⟩)
    have HO1 : Hid (RefO S w1 gy n r1 vb vu z1 vc bs cs) := (by
      have hc : Ch (· = gy) w0A w1 := hw ▸ (Ch.refl (· = gy) w0A).setCell (g := gy) (Or.inl rfl) _ _
      have hrow := row_cell' (i := 0 + 3) HO1a.out.1.row z1
      rw [← hw] at hrow
      have hx := (HO1a.out.1.x.was HO1a.out.2.1 (fun b hb e => absurd (HO1a.out.2.2.1 b e) (by have := HLT1.out b hb; omega))).put HO1a.out.1.row hc
      rw [← hr] at hx
      refine hx.o ?_
      rw [hr]
      exact hrow)
    rw [← hw]
    clear hw hr
    refine wpList_nil ?_
    have HLT2 : Hid (∀ b, (vb : Value).ownBlock = some b → b < w1.heap.size) := fun b hb => HO1.out.b.lt hb
    go_upto_region 5 with fail
    refine wp_region_lit ?_
    refine wl rfl (ptr gy) _ (run_mvZ (.tmp 0) rfl (ptr gy) rfl) ?_
    simp only [Act.put, aS, aC, aZ]
    obtain ⟨z2, w1A, hrun, ho, hbl, hge⟩ := run_cp 50 38 (.slice none 0 0) 24 und50 inf38 rfl (by decide) 50 HO1.out.b (by_one (by rw [HO1.out.mb, HO1.out.lb]) HO1.out.byb) (ne_nil HO1.out.lb HN.out.1) (by rw [HO1.out.lb]; exact HN.out.2) HC1.out.2.1
    refine wl rfl (.slice (some ⟨w1.heap.size, 0, none⟩) 0 0) _ (run_lit50 rfl) ?_
    obtain ⟨q2, hq⟩ : ∃ q, q = w1.heap.size := ⟨_, rfl⟩
    obtain ⟨w1L, hw⟩ : ∃ W, W = w1.alloc (.cells #[] 38) := ⟨_, rfl⟩
    have RL2 : Hid (Row w1L gy 84 [.int .i64 (n : Nat), vb, vu, z1, .int .i64 r1.rt, vc]) := (by rw [hw]; exact HO1.out.row.later (below_alloc w1 _) HO1.out.row.lt)
    rw [← hw] at hrun ⊢
    rw [← hq] at hrun ⊢
    have HA2 : Hid ((Builtin.append_ #[50, 50] 50 #[.slice (some ⟨q2, 0, none⟩) 0 0, vb]).run Tryd.prog w1L = .ok z2 w1A) := hrun
    have HO2a : Hid (RefO S w1A gy n r1 vb vu z1 vc bs cs ∧ Own1 S w1A 38 z2 (bs) ∧ (∀ b, z2.ownBlock = some b → w1.heap.size ≤ b) ∧ Ch (· = gy) w w1A ∧ ∀ b, w1A.heap.size ≤ b → S b) := ⟨HO1.out.later hbl, ho, hge, HC1.out.1.trans (Ch.of_below hbl) , fun b hb => HC1.out.2.1 b (Nat.le_trans hbl.size hb)⟩
    clear hrun ho hbl hge hq hw
    simp only [Act.put, aS, aC, aZ]
    refine wl rfl (ptr gy) _ (run_mvZ (.tmp 0) rfl (ptr gy) rfl) ?_
    simp only [Act.put, aS, aC, aZ]
    refine wl rfl (ptr gy) _ (run_nil (.tmp 28) rfl ⟨gy, 0, none⟩ rfl) ?_
    simp only [Act.put, aS, aC, aZ]
    refine wl rfl (.pointer (some ⟨gy, 0 + 1, none⟩)) _ (run_fieldOp' f84_1 (.tmp 29) rfl gy (0) rfl) ?_
    simp only [Act.put, aS, aC, aZ]
    refine wl rfl vb _ (run_load1 o50 (.tmp 30) rfl gy (0 + 1) rfl vb (RL2.out.at 1 _ rfl)) ?_
    simp only [Act.put, aS, aC, aZ]
    refine wl rfl z2 w1A (run_append (.tmp 27) (.tmp 31) rfl _ vb z2 rfl rfl HA2.out) ?_
    simp only [Act.put, aS, aC, aZ]
    refine wl rfl (ptr gy) _ (run_nil (.tmp 26) rfl ⟨gy, 0, none⟩ rfl) ?_
    simp only [Act.put, aS, aC, aZ]
    refine wl rfl (.pointer (some ⟨gy, 0 + 5, none⟩)) _ (run_fieldOp' f84_5 (.tmp 33) rfl gy (0) rfl) ?_
    simp only [Act.put, aS, aC, aZ]
    refine wl_put (t := 50) (by kernel_rfl) (.tmp 34) (.tmp 32) rfl rfl rfl gy (0 + 5) 84 [.int .i64 (n : Nat), vb, vu, z1, .int .i64 r1.rt, vc] rfl z2 rfl (own_cells HO2a.out.2.1.1) HO2a.out.1.row (by simp) ?_
    obtain ⟨r2, hr⟩ : ∃ r' : RefS, r' = { r1 with lc := r1.lb } := ⟨_, rfl⟩
    obtain ⟨w2, hw⟩ : ∃ W, W = w1A.setCell ⟨gy, 0 + 5, none⟩ z2 := ⟨_, rfl⟩
    have HC2 : Hid (Ch (· = gy) w w2 ∧ (∀ b, w2.heap.size ≤ b → S b) ∧ r2 = { r1 with lc := r1.lb }) := (by
      have hc : Ch (· = gy) w1A w2 := hw ▸ (Ch.refl (· = gy) w1A).setCell (g := gy) (Or.inl rfl) _ _
      exact ⟨HO2a.out.2.2.2.1.trans hc, fun b hb => HO2a.out.2.2.2.2 b (Nat.le_trans hc.size hb), hr⟩)
    have HO2 : Hid (RefO S w2 gy n r2 vb vu z1 z2 bs bs) := (by
      have hc : Ch (· = gy) w1A w2 := hw ▸ (Ch.refl (· = gy) w1A).setCell (g := gy) (Or.inl rfl) _ _
      have hrow := row_cell' (i := 0 + 5) HO2a.out.1.row z2
      rw [← hw] at hrow
      have hx := (HO2a.out.1.x.com HO2a.out.2.1 (fun b hb e => absurd (HO2a.out.2.2.1 b e) (by have := HLT2.out b hb; omega))).put HO2a.out.1.row hc
      rw [← hr] at hx
      refine hx.o ?_
      rw [hr]
      exact hrow)
    rw [← hw]
    clear hw hr
    refine wpList_nil ?_
    go_wp2_with fail
    rw [HPQ.out]
    refine Or.inr ⟨HOK.out, rfl, HC2.out.1, ?_⟩
    have h := HO2.out.ref
    rw [HC2.out.2.2, HC1.out.2.2, HC0.out.2.2] at h
    exact h
  obtain rfl : nq = true := (by cases nq with | true => rfl | false => exact absurd rfl hq0)
  clear hq0
  go_upto_region 1 with fail
  refine wp_region_lit ?_
  refine wl rfl (.int .i64 p) _ (run_mvZ (.tmp 1) rfl (.int .i64 p) rfl) ?_
  simp only [Act.put, aS, aC, aZ]
  refine wl rfl (.bool true) _ (run_neZ (.tmp 5) (.const (.int .i64 (-1))) rfl p (-1) rfl rfl true HQ.out.1) ?_
  simp only [Act.put, aS, aC, aZ]
  refine wl rfl (.bool true) _ (run_mvZ (.tmp 6) rfl (.bool true) rfl) ?_
  simp only [Act.put, aS, aC, aZ]
  refine wl (by kernel_rfl) (ptr gy) _ (run_mvZ (.tmp 0) rfl (ptr gy) rfl) ?_
  simp only [Act.put, aS, aC, aZ]
  refine wl (by kernel_rfl) (.int .i64 p) _ (run_mvZ (.tmp 1) rfl (.int .i64 p) rfl) ?_
  simp only [Act.put, aS, aC, aZ]
  refine wpList_callW eN47 [.tmp 8, .tmp 9] _ (by kernel_rfl) rfl [(ptr gy), (.int .i64 p)] rfl ?_
  refine (rused_any S w gy n r HRef.out HN.out.2 p).mono ?_
  rintro e wg ⟨rfl, rfl⟩
  refine ⟨_, rfl, ?_⟩
  simp only [Act.put, aS, aC, aZ]
  refine wl (by kernel_rfl) (.bool nu) _ ((by rw [HQ.out.2]; exact run_not (.tmp 10) 4 rfl (r.used p) rfl)) ?_
  simp only [Act.put, aS, aC, aZ]
  refine wl rfl (.bool nu) _ (run_pickZ (.tmp 7) (.tmp 11) (.const (.bool false)) rfl true (.bool nu) rfl rfl) ?_
  simp only [Act.put, aS, aC, aZ]
  refine wpList_nil ?_
  cases nu with
  | true =>
    have hF : r.ok p = false := (by have h := HQ.out; unfold RefS.ok; simp at h; simp [h])
    go_wp2_with fail
    rw [HPQ.out]
    exact Or.inl ⟨hF, rfl, rfl⟩
  | false =>
    have hok : r.ok p = true := (by have h := HQ.out; unfold RefS.ok; simp at h; simp [h])
    have HOK : Hid (r.ok p = true) := hok
    clear hok
    go_upto_region 3 with fail
    refine wp_region_lit ?_
    refine wl rfl (ptr gy) _ (run_mvZ (.tmp 0) rfl (ptr gy) rfl) ?_
    simp only [Act.put, aS, aC, aZ]
    refine wl rfl (.int .i64 p) _ (run_mvZ (.tmp 1) rfl (.int .i64 p) rfl) ?_
    simp only [Act.put, aS, aC, aZ]
    refine wl rfl (ptr gy) _ (run_nil (.tmp 13) rfl ⟨gy, 0, none⟩ rfl) ?_
    simp only [Act.put, aS, aC, aZ]
    refine wl rfl (.pointer (some ⟨gy, 0 + 4, none⟩)) _ (run_fieldOp' f84_4 (.tmp 15) rfl gy (0) rfl) ?_
    simp only [Act.put, aS, aC, aZ]
    refine wl_put (t := 3) (by kernel_rfl) (.tmp 16) (.tmp 14) rfl rfl rfl gy (0 + 4) 84 [.int .i64 (n : Nat), vb, vu, vw, .int .i64 r.rt, vc] rfl (.int .i64 p) rfl ⟨rfl, rfl⟩ HO.out.row (by simp) ?_
    obtain ⟨r0, hr⟩ : ∃ r' : RefS, r' = { r with rt := p } := ⟨_, rfl⟩
    obtain ⟨w0, hw⟩ : ∃ W, W = w.setCell ⟨gy, 0 + 4, none⟩ (.int .i64 p) := ⟨_, rfl⟩
    have HC0 : Hid (Ch (· = gy) w w0 ∧ (∀ b, w0.heap.size ≤ b → S b) ∧ r0 = { r with rt := p }) := (by
      have hc : Ch (· = gy) w w0 := hw ▸ (Ch.refl (· = gy) w).setCell (g := gy) (Or.inl rfl) _ _
      exact ⟨hc, fun b hb => HS.out b (Nat.le_trans hc.size hb), hr⟩)
    have HO0 : Hid (RefO S w0 gy n r0 vb vu vw vc bs cs) := (by rw [hr]; exact HO.out.root p hw)
    rw [← hw]
    clear hw hr
    refine wpList_nil ?_
    have HLT1 : Hid (∀ b, (vu : Value).ownBlock = some b → b < w0.heap.size) := fun b hb => HO0.out.u.lt hb
    go_upto_region 4 with fail
    refine wp_region_lit ?_
    refine wl rfl (ptr gy) _ (run_mvZ (.tmp 0) rfl (ptr gy) rfl) ?_
    simp only [Act.put, aS, aC, aZ]
    obtain ⟨z1, w0A, hrun, ho, hbl, hge⟩ := run_cp 82 4 (.bool false) 1 und82 inf4 rfl (by decide) 82 HO0.out.u (map_one _) (ne_nil (len_map HO0.out.lu) HN.out.1) (by rw [(len_map HO0.out.lu)]; exact HN.out.2) HC0.out.2.1
    refine wl rfl (.slice (some ⟨w0.heap.size, 0, none⟩) 0 0) _ (run_lit82 rfl) ?_
    obtain ⟨q1, hq⟩ : ∃ q, q = w0.heap.size := ⟨_, rfl⟩
    obtain ⟨w0L, hw⟩ : ∃ W, W = w0.alloc (.cells #[] 4) := ⟨_, rfl⟩
    have RL1 : Hid (Row w0L gy 84 [.int .i64 (n : Nat), vb, vu, vw, .int .i64 r0.rt, vc]) := (by rw [hw]; exact HO0.out.row.later (below_alloc w0 _) HO0.out.row.lt)
    rw [← hw] at hrun ⊢
    rw [← hq] at hrun ⊢
    have HA1 : Hid ((Builtin.append_ #[82, 82] 82 #[.slice (some ⟨q1, 0, none⟩) 0 0, vu]).run Tryd.prog w0L = .ok z1 w0A) := hrun
    have HO1a : Hid (RefO S w0A gy n r0 vb vu vw vc bs cs ∧ Own1 S w0A 4 z1 (r0.us.map Value.bool) ∧ (∀ b, z1.ownBlock = some b → w0.heap.size ≤ b) ∧ Ch (· = gy) w w0A ∧ ∀ b, w0A.heap.size ≤ b → S b) := ⟨HO0.out.later hbl, ho, hge, HC0.out.1.trans (Ch.of_below hbl) , fun b hb => HC0.out.2.1 b (Nat.le_trans hbl.size hb)⟩
    clear hrun ho hbl hge hq hw
    simp only [Act.put, aS, aC, aZ]
    refine wl rfl (ptr gy) _ (run_mvZ (.tmp 0) rfl (ptr gy) rfl) ?_
    simp only [Act.put, aS, aC, aZ]
    refine wl rfl (ptr gy) _ (run_nil (.tmp 19) rfl ⟨gy, 0, none⟩ rfl) ?_
    simp only [Act.put, aS, aC, aZ]
    refine wl rfl (.pointer (some ⟨gy, 0 + 2, none⟩)) _ (run_fieldOp' f84_2 (.tmp 20) rfl gy (0) rfl) ?_
    simp only [Act.put, aS, aC, aZ]
    refine wl rfl vu _ (run_load1 o82 (.tmp 21) rfl gy (0 + 2) rfl vu (RL1.out.at 2 _ rfl)) ?_
    simp only [Act.put, aS, aC, aZ]
    refine wl rfl z1 w0A (run_append (.tmp 18) (.tmp 22) rfl _ vu z1 rfl rfl HA1.out) ?_
    simp only [Act.put, aS, aC, aZ]
    refine wl rfl (ptr gy) _ (run_nil (.tmp 17) rfl ⟨gy, 0, none⟩ rfl) ?_
    simp only [Act.put, aS, aC, aZ]
    refine wl rfl (.pointer (some ⟨gy, 0 + 3, none⟩)) _ (run_fieldOp' f84_3 (.tmp 24) rfl gy (0) rfl) ?_
    simp only [Act.put, aS, aC, aZ]
    refine wl_put (t := 82) (by kernel_rfl) (.tmp 25) (.tmp 23) rfl rfl rfl gy (0 + 3) 84 [.int .i64 (n : Nat), vb, vu, vw, .int .i64 r0.rt, vc] rfl z1 rfl (own_cells HO1a.out.2.1.1) HO1a.out.1.row (by simp) ?_
    obtain ⟨r1, hr⟩ : ∃ r' : RefS, r' = { r0 with ws := r0.us } := ⟨_, rfl⟩
    obtain ⟨w1, hw⟩ : ∃ W, W = w0A.setCell ⟨gy, 0 + 3, none⟩ z1 := ⟨_, rfl⟩
    have HC1 : Hid (Ch (· = gy) w w1 ∧ (∀ b, w1.heap.size ≤ b → S b) ∧ r1 = { r0 with ws := r0.us }) := (by
      have hc : Ch (· = gy) w0A w1 := hw ▸ (Ch.refl (· = gy) w0A).setCell (g := gy) (Or.inl rfl) _ _
      exact ⟨HO1a.out.2.2.2.1.trans hc, fun b hb => HO1a.out.2.2.2.2 b (Nat.le_trans hc.size hb), hr⟩)
    have HO1 : Hid (RefO S w1 gy n r1 vb vu z1 vc bs cs) := (by
      have hc : Ch (· = gy) w0A w1 := hw ▸ (Ch.refl (· = gy) w0A).setCell (g := gy) (Or.inl rfl) _ _
      have hrow := row_cell' (i := 0 + 3) HO1a.out.1.row z1
      rw [← hw] at hrow
      have hx := (HO1a.out.1.x.was HO1a.out.2.1 (fun b hb e => absurd (HO1a.out.2.2.1 b e) (by have := HLT1.out b hb; omega))).put HO1a.out.1.row hc
      rw [← hr] at hx
      refine hx.o ?_
      rw [hr]
      exact hrow)
    rw [← hw]
    clear hw hr
    refine wpList_nil ?_
    have HLT2 : Hid (∀ b, (vb : Value).ownBlock = some b → b < w1.heap.size) := fun b hb => HO1.out.b.lt hb
    go_upto_region 5 with fail
    refine wp_region_lit ?_
    refine wl rfl (ptr gy) _ (run_mvZ (.tmp 0) rfl (ptr gy) rfl) ?_
    simp only [Act.put, aS, aC, aZ]
    obtain ⟨z2, w1A, hrun, ho, hbl, hge⟩ := run_cp 50 38 (.slice none 0 0) 24 und50 inf38 rfl (by decide) 50 HO1.out.b (by_one (by rw [HO1.out.mb, HO1.out.lb]) HO1.out.byb) (ne_nil HO1.out.lb HN.out.1) (by rw [HO1.out.lb]; exact HN.out.2) HC1.out.2.1
    refine wl rfl (.slice (some ⟨w1.heap.size, 0, none⟩) 0 0) _ (run_lit50 rfl) ?_
    obtain ⟨q2, hq⟩ : ∃ q, q = w1.heap.size := ⟨_, rfl⟩
    obtain ⟨w1L, hw⟩ : ∃ W, W = w1.alloc (.cells #[] 38) := ⟨_, rfl⟩
    have RL2 : Hid (Row w1L gy 84 [.int .i64 (n : Nat), vb, vu, z1, .int .i64 r1.rt, vc]) := (by rw [hw]; exact HO1.out.row.later (below_alloc w1 _) HO1.out.row.lt)
    rw [← hw] at hrun ⊢
    rw [← hq] at hrun ⊢
    have HA2 : Hid ((Builtin.append_ #[50, 50] 50 #[.slice (some ⟨q2, 0, none⟩) 0 0, vb]).run Tryd.prog w1L = .ok z2 w1A) := hrun
    have HO2a : Hid (RefO S w1A gy n r1 vb vu z1 vc bs cs ∧ Own1 S w1A 38 z2 (bs) ∧ (∀ b, z2.ownBlock = some b → w1.heap.size ≤ b) ∧ Ch (· = gy) w w1A ∧ ∀ b, w1A.heap.size ≤ b → S b) := ⟨HO1.out.later hbl, ho, hge, HC1.out.1.trans (Ch.of_below hbl) , fun b hb => HC1.out.2.1 b (Nat.le_trans hbl.size hb)⟩
    clear hrun ho hbl hge hq hw
    simp only [Act.put, aS, aC, aZ]
    refine wl rfl (ptr gy) _ (run_mvZ (.tmp 0) rfl (ptr gy) rfl) ?_
    simp only [Act.put, aS, aC, aZ]
    refine wl rfl (ptr gy) _ (run_nil (.tmp 28) rfl ⟨gy, 0, none⟩ rfl) ?_
    simp only [Act.put, aS, aC, aZ]
    refine wl rfl (.pointer (some ⟨gy, 0 + 1, none⟩)) _ (run_fieldOp' f84_1 (.tmp 29) rfl gy (0) rfl) ?_
    simp only [Act.put, aS, aC, aZ]
    refine wl rfl vb _ (run_load1 o50 (.tmp 30) rfl gy (0 + 1) rfl vb (RL2.out.at 1 _ rfl)) ?_
    simp only [Act.put, aS, aC, aZ]
    refine wl rfl z2 w1A (run_append (.tmp 27) (.tmp 31) rfl _ vb z2 rfl rfl HA2.out) ?_
    simp only [Act.put, aS, aC, aZ]
    refine wl rfl (ptr gy) _ (run_nil (.tmp 26) rfl ⟨gy, 0, none⟩ rfl) ?_
    simp only [Act.put, aS, aC, aZ]
    refine wl rfl (.pointer (some ⟨gy, 0 + 5, none⟩)) _ (run_fieldOp' f84_5 (.tmp 33) rfl gy (0) rfl) ?_
    simp only [Act.put, aS, aC, aZ]
    refine wl_put (t := 50) (by kernel_rfl) (.tmp 34) (.tmp 32) rfl rfl rfl gy (0 + 5) 84 [.int .i64 (n : Nat), vb, vu, z1, .int .i64 r1.rt, vc] rfl z2 rfl (own_cells HO2a.out.2.1.1) HO2a.out.1.row (by simp) ?_
    obtain ⟨r2, hr⟩ : ∃ r' : RefS, r' = { r1 with lc := r1.lb } := ⟨_, rfl⟩
    obtain ⟨w2, hw⟩ : ∃ W, W = w1A.setCell ⟨gy, 0 + 5, none⟩ z2 := ⟨_, rfl⟩
    have HC2 : Hid (Ch (· = gy) w w2 ∧ (∀ b, w2.heap.size ≤ b → S b) ∧ r2 = { r1 with lc := r1.lb }) := (by
      have hc : Ch (· = gy) w1A w2 := hw ▸ (Ch.refl (· = gy) w1A).setCell (g := gy) (Or.inl rfl) _ _
      exact ⟨HO2a.out.2.2.2.1.trans hc, fun b hb => HO2a.out.2.2.2.2 b (Nat.le_trans hc.size hb), hr⟩)
    have HO2 : Hid (RefO S w2 gy n r2 vb vu z1 z2 bs bs) := (by
      have hc : Ch (· = gy) w1A w2 := hw ▸ (Ch.refl (· = gy) w1A).setCell (g := gy) (Or.inl rfl) _ _
      have hrow := row_cell' (i := 0 + 5) HO2a.out.1.row z2
      rw [← hw] at hrow
      have hx := (HO2a.out.1.x.com HO2a.out.2.1 (fun b hb e => absurd (HO2a.out.2.2.1 b e) (by have := HLT2.out b hb; omega))).put HO2a.out.1.row hc
      rw [← hr] at hx
      refine hx.o ?_
      rw [hr]
      exact hrow)
    rw [← hw]
    clear hw hr
    refine wpList_nil ?_
    go_wp2_with fail
    rw [HPQ.out]
    refine Or.inr ⟨HOK.out, rfl, HC2.out.1, ?_⟩
    have h := HO2.out.ref
    rw [HC2.out.2.2, HC1.out.2.2, HC0.out.2.2] at h
    exact h

end Go.Proofs.YtkpnflgnhhfjoaaDoor

namespace Go.Proofs.YtkpnflgnhhfjoaaDoor
open Go.RowKit Go.Maps

def freeR (r : RefS) (j : Nat) : Bool := !r.us.getD j false && !r.ws.getD j false
theorem run_gtrY {w : World} {a : Act} {o : Oper} (x y : Operand) (ho : o.op = .binOp .gtr 3 x y 3) (z z' : Int) (hx : a.eval x = .int .i64 z) (hy : a.eval y = .int .i64 z') (b : Bool) (hb : decide (z' < z) = b) : (execOp a.eval o).run Tryd.prog w = .ok (.value (.bool b)) w := by
  subst hb
  simp only [execOp, ho, hx, hy]
  simp [go_sem]
theorem run_lenY {w0 w : World} {a : Act} {o : Oper} {v : Value} {cs : List Nat} (hin : SliceIn w0 v cs) (x : Operand) (ho : o.op = .call { callee := .builtin .len, args := #[x], argTypes := #[38] }) (hx : a.eval x = v) : (execOp a.eval o).run Tryd.prog w = .ok (.value (.int .i64 (cs.length : Nat))) w := by
  obtain ⟨p, cap, rfl, _, _⟩ := hin
  exact run_lenZ sl38 x ho p cs.length cap hx
section
variable {S : Nat → Prop} {W W' : World} {gy n : Nat} {r : RefS} {vb vu vw vc : Value} {bs cs : List Value}
theorem RefO.setB (h : RefO S W gy n r vb vu vw vc bs cs) {g : Nat} (hg : vb.ownBlock = some g) (hc : Ch (· = g) W W') (k : Nat) (v2 : Value) (b : List Nat) (ho : Own1 S W' 38 vb (bs.set k v2)) (hb2 : ByIn S W v2 b) (hk : k < n) : RefO S W' gy n { r with lb := r.lb.set k b } vb vu vw vc (bs.set k v2) cs := by
  have hkp : ∀ {v : Value} {e : TypeId} {xs : List Value}, Own1 S W e v xs → v.ownBlock ≠ some g → Own1 S W' e v xs := fun h hne => h.keepB fun b hb => hc.one b (h.lt hb) fun e => hne (e ▸ hb)
  have hby : ∀ {v : Value} {b : List Nat}, ByIn S W v b → ByIn S W' v b := fun hb => ⟨hkp hb.1 (h.b.ne2 hb.1 (by decide) hg), hb.2⟩
  refine ⟨(hc.one gy h.row.lt fun e => h.b.ne h.row (by decide) (e ▸ hg)).trans h.row, h.sgy, ho, hkp h.u (h.b.ne2 h.u (by decide) hg), hkp h.w (h.b.ne2 h.w (by decide) hg), hkp h.c (h.bc g hg), h.uw, h.bc, h.lu, h.lw, by rw [List.length_set]; exact h.lb, h.lc, by show (r.lb.set k b).length = n; rw [List.length_set]; exact h.mb, h.mc, fun i v b' e e' => ?_, fun i v b' e e' => hby (h.byc i v b' e e')⟩
  by_cases hki : k = i
  · subst hki
    have h1 : (bs.set k v2)[k]? = some v2 := List.getElem?_set_self (by rw [h.lb]; exact hk)
    have h2 : (r.lb.set k b)[k]? = some b := List.getElem?_set_self (by rw [h.mb]; exact hk)
    rw [h1] at e
    have e3 : (r.lb.set k b)[k]? = some b' := e'
    rw [h2] at e3
    cases e
    cases e3
    exact hby hb2
  · rw [List.getElem?_set_ne hki] at e
    have e3 : (r.lb.set k b)[i]? = some b' := e'
    rw [List.getElem?_set_ne hki] at e3
    exact hby (h.byb i v b' e e3)
end
set_option maxHeartbeats 1000000 in
theorem rput_any (S : Nat → Prop) (w : World) (gy n : Nat) (r : RefS) (h : Ref S w gy n r) (hn : 1 ≤ n ∧ n ≤ 384) (hS : ∀ b, w.heap.size ≤ b → S b) (v : Value) (b : List Nat) (hin : ∀ W, Ch S w W → SliceIn W v b) : Calls Tryd.prog 16 #[ptr gy, v] w fun e w' => (500 < b.length ∧ e = ret2 0 5 ∧ w = w') ∨ (b.length ≤ 500 ∧ (∀ j, j < n → freeR r j = false) ∧ e = ret2 0 3 ∧ w = w') ∨ (b.length ≤ 500 ∧ ∃ k, k < n ∧ freeR r k = true ∧ (∀ j, j < k → freeR r j = false) ∧ e = ret2 k 0 ∧ Ch S w w' ∧ Ref S w' gy n { r with us := r.us.set k true, lb := r.lb.set k b }) := by
  have HRef : Hid (Ref S w gy n r) := h
  have HN : Hid (1 ≤ n ∧ n ≤ 384) := hn
  have HS : Hid (∀ b, w.heap.size ≤ b → S b) := hS
  obtain ⟨vb, vu, vw, vc, bs, cs, ho⟩ := h.opened
  have HO : Hid (RefO S w gy n r vb vu vw vc bs cs) := ho
  clear h ho hn hS
  obtain ⟨PQ, HPQ⟩ : ∃ PQ : Ending → World → Prop, Hid (PQ = fun e w' => (500 < b.length ∧ e = ret2 0 5 ∧ w = w') ∨ (b.length ≤ 500 ∧ (∀ j, j < n → freeR r j = false) ∧ e = ret2 0 3 ∧ w = w') ∨ (b.length ≤ 500 ∧ ∃ k, k < n ∧ freeR r k = true ∧ (∀ j, j < k → freeR r j = false) ∧ e = ret2 k 0 ∧ Ch S w w' ∧ Ref S w' gy n { r with us := r.us.set k true, lb := r.lb.set k b })) := ⟨_, rfl⟩
  rw [← HPQ.out]
  have HJ : Hid (∀ W, Ch S w W → SliceIn W v b) := hin
  have HI : Hid (SliceIn w v b) := hin w (Ch.refl S w)
  clear hin
  obtain ⟨lg, hlg⟩ : ∃ x, decide ((500 : Int) < (b.length : Nat)) = x := ⟨_, rfl⟩
  have HG : Hid (decide ((500 : Int) < (b.length : Nat)) = lg) := hlg
  clear hlg
  go_enter Tryd.func16, Tryd.ntmps16
  go_upto_region 1 with fail
  refine wp_region_lit ?_
  refine wl rfl v _ (run_mvZ (.tmp 1) rfl v rfl) ?_
  simp only [Act.put, aS, aC, aZ]
  refine wl rfl (.int .i64 (b.length : Nat)) _ (run_lenY HI.out (.tmp 7) rfl rfl) ?_
  simp only [Act.put, aS, aC, aZ]
  refine wl rfl (.bool lg) _ (run_gtrY (.tmp 8) (.const (.int .i64 500)) rfl (b.length : Nat) 500 rfl rfl lg HG.out) ?_
  simp only [Act.put, aS, aC, aZ]
  refine wpList_nil ?_
  cases lg with
  | true =>
    go_wp2_with fail
    rw [HPQ.out]
    exact Or.inl ⟨by have := of_decide_eq_true HG.out; omega, rfl, rfl⟩
  | false =>
    have HL : Hid (b.length ≤ 500) := (by have := of_decide_eq_false HG.out; omega : b.length ≤ 500)
    clear HG
    go_upto_region 3 with fail
    go_wp2_with fail
    go_loopw [6] (fun vi W => ∃ i : Nat, vi = .int .i64 (i : Nat) ∧ i ≤ n ∧ Hid (∀ j, j < i → freeR r j = false) ∧ w = W) (fun vi _ => n - (intOf vi).toNat)
    case atStart => exact ⟨0, rfl, Nat.zero_le _, fun j hj => absurd hj (by omega), rfl⟩
    case round =>
      obtain ⟨i, rfl, hi, HF, rfl⟩ := hrel
      have hn384 : n ≤ 384 := HN.out.2
      by_cases hlt : i < n
      · obtain ⟨gu, cu, hog, hsg, hx, hcell, hrow, hcl, hset⟩ := HO.out.u.ix 82 und82 sz4 i (by rw [List.length_map, HO.out.lu]; exact hlt)
        obtain ⟨gv, cv, _, _, hy, hdell, _, _, _⟩ := HO.out.w.ix 82 und82 sz4 i (by rw [List.length_map, HO.out.lw]; exact hlt)
        rw [bools_at _ _ (by rw [HO.out.lu]; exact hlt)] at hcell
        rw [bools_at _ _ (by rw [HO.out.lw]; exact hlt)] at hdell
        obtain ⟨u, hu⟩ : ∃ u, u = r.us.getD i false := ⟨_, rfl⟩
        obtain ⟨z, hz⟩ : ∃ u, u = r.ws.getD i false := ⟨_, rfl⟩
        rw [← hu] at hcell
        rw [← hz] at hdell
        have HX : Hid ((∀ w', (Instr.indexAt 82 vu (.int .i64 (i : Nat))).run Tryd.prog w' = .ok (.pointer (some ⟨gu, i, none⟩)) w') ∧ w.cell? ⟨gu, i, none⟩ = some (.bool u) ∧ (∀ w', (Instr.indexAt 82 vw (.int .i64 (i : Nat))).run Tryd.prog w' = .ok (.pointer (some ⟨gv, i, none⟩)) w') ∧ w.cell? ⟨gv, i, none⟩ = some (.bool z) ∧ u = r.us.getD i false ∧ z = r.ws.getD i false ∧ Row w gu 4 cu ∧ i < cu.length) := ⟨hx, hcell, hy, hdell, hu, hz, hrow, hcl⟩
        have HY : Hid (Ch S w (w.setCell ⟨gu, i, none⟩ (.bool true)) ∧ RefO S (w.setCell ⟨gu, i, none⟩ (.bool true)) gy n { r with us := r.us.set i true } vb vu vw vc bs cs) := (by
          have h2 := hset (.bool true)
          rw [← List.map_set] at h2
          exact ⟨h2.2.mono fun b _ e => by rw [e]; exact hsg, HO.out.setU hog h2.2 h2.1 (by rw [List.length_set]; exact HO.out.lu)⟩)
        clear hog hsg hx hcell hrow hcl hset hy hdell hu hz
        obtain ⟨nu, hnu⟩ : ∃ x, x = !u := ⟨_, rfl⟩
        obtain ⟨nz, hnz⟩ : ∃ x, x = !z := ⟨_, rfl⟩
        have HNU : Hid (nu = !u) := hnu
        have HNZ : Hid (nz = !z) := hnz
        clear hnu hnz
        go_upto_region 4 with fail
        refine wp_region_lit ?_
        refine wl rfl (.int .i64 (i : Nat)) _ (run_mvZ (.tmp 6) rfl (.int .i64 (i : Nat)) rfl) ?_
        simp only [Act.put, aS, aC, aZ]
        refine wl rfl (ptr gy) _ (run_mvZ (.tmp 0) rfl (ptr gy) rfl) ?_
        simp only [Act.put, aS, aC, aZ]
        refine wl rfl (ptr gy) _ (run_nil (.tmp 11) rfl ⟨gy, 0, none⟩ rfl) ?_
        simp only [Act.put, aS, aC, aZ]
        refine wl rfl (.pointer (some ⟨gy, 0 + 0, none⟩)) _ (run_fieldOp' f84_0 (.tmp 12) rfl gy (0) rfl) ?_
        simp only [Act.put, aS, aC, aZ]
        refine wl rfl (.int .i64 (n : Nat)) _ (run_load1 o3 (.tmp 13) rfl gy (0 + 0) rfl (.int .i64 (n : Nat)) (HO.out.row.at 0 _ rfl)) ?_
        simp only [Act.put, aS, aC, aZ]
        refine wl rfl (.bool true) _ (run_lssZ (.tmp 10) (.tmp 14) rfl (i : Nat) (n : Nat) rfl rfl true (decide_eq_true (by omega))) ?_
        simp only [Act.put, aS, aC, aZ]
        refine wpList_nil ?_
        by_cases hu0 : nu = false
        · have HT : Hid (nu = false) := hu0
          clear hu0
          go_upto_region 6 with fail
          refine wp_region_lit ?_
          refine wl rfl (ptr gy) _ (run_mvZ (.tmp 0) rfl (ptr gy) rfl) ?_
          simp only [Act.put, aS, aC, aZ]
          refine wl rfl (ptr gy) _ (run_nil (.tmp 18) rfl ⟨gy, 0, none⟩ rfl) ?_
          simp only [Act.put, aS, aC, aZ]
          refine wl rfl (.pointer (some ⟨gy, 0 + 2, none⟩)) _ (run_fieldOp' f84_2 (.tmp 19) rfl gy (0) rfl) ?_
          simp only [Act.put, aS, aC, aZ]
          refine wl rfl vu _ (run_load1 o82 (.tmp 20) rfl gy (0 + 2) rfl vu (HO.out.row.at 2 _ rfl)) ?_
          simp only [Act.put, aS, aC, aZ]
          refine wl rfl (.int .i64 (i : Nat)) _ (run_mvZ (.tmp 6) rfl (.int .i64 (i : Nat)) rfl) ?_
          simp only [Act.put, aS, aC, aZ]
          refine wl rfl (.pointer (some ⟨gu, i, none⟩)) _ (run_idx (.tmp 21) (.tmp 22) rfl vu _ _ rfl rfl HX.out.1) ?_
          simp only [Act.put, aS, aC, aZ]
          refine wl rfl (.bool u) _ (run_load1 o4 (.tmp 23) rfl gu (i) rfl (.bool u) HX.out.2.1) ?_
          simp only [Act.put, aS, aC, aZ]
          refine wl rfl (.bool nu) _ ((by rw [HNU.out]; exact run_not (.tmp 24) 4 rfl u rfl)) ?_
          simp only [Act.put, aS, aC, aZ]
          refine wl rfl (.bool nu) _ (run_mvZ (.tmp 25) rfl (.bool nu) rfl) ?_
          simp only [Act.put, aS, aC, aZ]
          refine wpList_skip (by rw [HT.out]; kernel_rfl) ?_
          simp only [Act.put, aS, aC, aZ]
          refine wpList_skip (by rw [HT.out]; kernel_rfl) ?_
          simp only [Act.put, aS, aC, aZ]
          refine wpList_skip (by rw [HT.out]; kernel_rfl) ?_
          simp only [Act.put, aS, aC, aZ]
          refine wpList_skip (by rw [HT.out]; kernel_rfl) ?_
          simp only [Act.put, aS, aC, aZ]
          refine wpList_skip (by rw [HT.out]; kernel_rfl) ?_
          simp only [Act.put, aS, aC, aZ]
          refine wpList_skip (by rw [HT.out]; kernel_rfl) ?_
          simp only [Act.put, aS, aC, aZ]
          refine wpList_skip (by rw [HT.out]; kernel_rfl) ?_
          simp only [Act.put, aS, aC, aZ]
          refine wpList_skip (by rw [HT.out]; kernel_rfl) ?_
          simp only [Act.put, aS, aC, aZ]
          refine wl rfl (.bool nu) _ (run_pickZ (.tmp 26) (.tmp 34) (.const (.bool false)) rfl nu (.bool nu) rfl (by rw [HT.out]; rfl)) ?_
          simp only [Act.put, aS, aC, aZ]
          refine wpList_nil ?_
          have hf_ : Hid (∀ j, j < i + 1 → freeR r j = false) := (by
            intro j hj
            by_cases hji : j < i
            · exact HF.out j hji
            · have e : j = i := (by omega)
              rw [e]
              unfold freeR
              rw [← HX.out.2.2.2.2.1, ← HNU.out, HT.out]
              rfl)
          obtain rfl : nu = false := HT.out
          clear HX HY
          go_wp2_with fail
          refine ⟨⟨i + 1, by go_num, by omega, hf_, by first | rfl | trivial⟩, ?_⟩
          simp [intOf]; omega
        obtain rfl : u = false := (by have h := HNU.out; cases u with | false => rfl | true => exact absurd h hu0)
        clear hu0
        go_upto_region 6 with fail
        refine wp_region_lit ?_
        refine wl rfl (ptr gy) _ (run_mvZ (.tmp 0) rfl (ptr gy) rfl) ?_
        simp only [Act.put, aS, aC, aZ]
        refine wl rfl (ptr gy) _ (run_nil (.tmp 18) rfl ⟨gy, 0, none⟩ rfl) ?_
        simp only [Act.put, aS, aC, aZ]
        refine wl rfl (.pointer (some ⟨gy, 0 + 2, none⟩)) _ (run_fieldOp' f84_2 (.tmp 19) rfl gy (0) rfl) ?_
        simp only [Act.put, aS, aC, aZ]
        refine wl rfl vu _ (run_load1 o82 (.tmp 20) rfl gy (0 + 2) rfl vu (HO.out.row.at 2 _ rfl)) ?_
        simp only [Act.put, aS, aC, aZ]
        refine wl rfl (.int .i64 (i : Nat)) _ (run_mvZ (.tmp 6) rfl (.int .i64 (i : Nat)) rfl) ?_
        simp only [Act.put, aS, aC, aZ]
        refine wl rfl (.pointer (some ⟨gu, i, none⟩)) _ (run_idx (.tmp 21) (.tmp 22) rfl vu _ _ rfl rfl HX.out.1) ?_
        simp only [Act.put, aS, aC, aZ]
        refine wl rfl (.bool false) _ (run_load1 o4 (.tmp 23) rfl gu (i) rfl (.bool false) HX.out.2.1) ?_
        simp only [Act.put, aS, aC, aZ]
        refine wl rfl (.bool true) _ (run_not (.tmp 24) 4 rfl false rfl) ?_
        simp only [Act.put, aS, aC, aZ]
        refine wl rfl (.bool true) _ (run_mvZ (.tmp 25) rfl (.bool true) rfl) ?_
        simp only [Act.put, aS, aC, aZ]
        refine wl (by kernel_rfl) (ptr gy) _ (run_mvZ (.tmp 0) rfl (ptr gy) rfl) ?_
        simp only [Act.put, aS, aC, aZ]
        refine wl (by kernel_rfl) (ptr gy) _ (run_nil (.tmp 27) rfl ⟨gy, 0, none⟩ rfl) ?_
        simp only [Act.put, aS, aC, aZ]
        refine wl (by kernel_rfl) (.pointer (some ⟨gy, 0 + 3, none⟩)) _ (run_fieldOp' f84_3 (.tmp 28) rfl gy (0) rfl) ?_
        simp only [Act.put, aS, aC, aZ]
        refine wl (by kernel_rfl) vw _ (run_load1 o82 (.tmp 29) rfl gy (0 + 3) rfl vw (HO.out.row.at 3 _ rfl)) ?_
        simp only [Act.put, aS, aC, aZ]
        refine wl (by kernel_rfl) (.int .i64 (i : Nat)) _ (run_mvZ (.tmp 6) rfl (.int .i64 (i : Nat)) rfl) ?_
        simp only [Act.put, aS, aC, aZ]
        refine wl (by kernel_rfl) (.pointer (some ⟨gv, i, none⟩)) _ (run_idx (.tmp 30) (.tmp 31) rfl vw _ _ rfl rfl HX.out.2.2.1) ?_
        simp only [Act.put, aS, aC, aZ]
        refine wl (by kernel_rfl) (.bool z) _ (run_load1 o4 (.tmp 32) rfl gv (i) rfl (.bool z) HX.out.2.2.2.1) ?_
        simp only [Act.put, aS, aC, aZ]
        refine wl (by kernel_rfl) (.bool nz) _ ((by rw [HNZ.out]; exact run_not (.tmp 33) 4 rfl z rfl)) ?_
        simp only [Act.put, aS, aC, aZ]
        refine wl rfl (.bool nz) _ (run_pickZ (.tmp 26) (.tmp 34) (.const (.bool false)) rfl true (.bool nz) rfl rfl) ?_
        simp only [Act.put, aS, aC, aZ]
        refine wpList_nil ?_
        cases nz with
        | false =>
          have hf_ : Hid (∀ j, j < i + 1 → freeR r j = false) := (by
            intro j hj
            by_cases hji : j < i
            · exact HF.out j hji
            · have e : j = i := (by omega)
              rw [e]
              unfold freeR
              rw [← HX.out.2.2.2.2.2.1, ← HNZ.out, Bool.and_false])
          clear HX HY
          go_wp2_with fail
          refine ⟨⟨i + 1, by go_num, by omega, hf_, by first | rfl | trivial⟩, ?_⟩
          simp [intOf]; omega
        | true =>
          have HFR : Hid (freeR r i = true) := (by unfold freeR; rw [← HX.out.2.2.2.2.1, ← HX.out.2.2.2.2.2.1, ← HNZ.out]; rfl)
          obtain ⟨gb, cb, hog, hsg, hx, hcell, hrow, hcl, hset⟩ := HY.out.2.b.ix 50 und50 sz38 i (by rw [HY.out.2.lb]; exact hlt)
          have HB : Hid ((∀ w', (Instr.indexAt 50 vb (.int .i64 (i : Nat))).run Tryd.prog w' = .ok (.pointer (some ⟨gb, i, none⟩)) w') ∧ vb.ownBlock = some gb) := ⟨hx, hog⟩
          clear hog hsg hx hcell hrow hcl hset
          go_upto_region 7 with fail
          refine wp_region_lit ?_
          refine wl rfl (ptr gy) _ (run_mvZ (.tmp 0) rfl (ptr gy) rfl) ?_
          simp only [Act.put, aS, aC, aZ]
          refine wl rfl (ptr gy) _ (run_nil (.tmp 36) rfl ⟨gy, 0, none⟩ rfl) ?_
          simp only [Act.put, aS, aC, aZ]
          refine wl rfl (.pointer (some ⟨gy, 0 + 2, none⟩)) _ (run_fieldOp' f84_2 (.tmp 37) rfl gy (0) rfl) ?_
          simp only [Act.put, aS, aC, aZ]
          refine wl rfl vu _ (run_load1 o82 (.tmp 38) rfl gy (0 + 2) rfl vu (HO.out.row.at 2 _ rfl)) ?_
          simp only [Act.put, aS, aC, aZ]
          refine wl rfl (.int .i64 (i : Nat)) _ (run_mvZ (.tmp 6) rfl (.int .i64 (i : Nat)) rfl) ?_
          simp only [Act.put, aS, aC, aZ]
          refine wl rfl (.pointer (some ⟨gu, i, none⟩)) _ (run_idx (.tmp 39) (.tmp 40) rfl vu _ _ rfl rfl HX.out.1) ?_
          simp only [Act.put, aS, aC, aZ]
          refine wl_put (t := 4) (by kernel_rfl) (.tmp 41) (.const (.bool true)) rfl rfl rfl gu i 4 cu rfl (.bool true) rfl ⟨rfl, rfl⟩ HX.out.2.2.2.2.2.2.1 HX.out.2.2.2.2.2.2.2 ?_
          obtain ⟨w1, hw1⟩ : ∃ W, W = w.setCell ⟨gu, i, none⟩ (.bool true) := ⟨_, rfl⟩
          rw [← hw1] at HY ⊢
          obtain ⟨r1, hr1⟩ : ∃ r' : RefS, r' = { r with us := r.us.set i true } := ⟨_, rfl⟩
          rw [← hr1] at HY
          have HR1 : Hid (r1 = { r with us := r.us.set i true } ∧ ∀ b, w1.heap.size ≤ b → S b) := ⟨hr1, fun b hb => HS.out b (Nat.le_trans HY.out.1.size hb)⟩
          have HIN1 : Hid (SliceIn w1 v b) := HJ.out w1 HY.out.1
          clear hw1 hr1 HX
          refine wpList_nil ?_
          go_upto_region 8 with fail
          refine wp_region_until (S := fun X => Row X gy 84 [.int .i64 (n : Nat), vb, vu, vw, .int .i64 r1.rt, vc]) 9 (by kernel_rfl) ?_
          show wpAnyU _ _ _ _ _ _ 10 (Array.replicate 10 false) _ _
          obtain ⟨Y, hX⟩ : ∃ Y : World, Y = { w1 with drawn := w1.drawn + 1 } := ⟨_, rfl⟩
          rw [← hX]
          have HS0 : Hid (RefO S Y gy n r1 vb vu vw vc bs cs ∧ SliceIn Y v b ∧ Ch S w Y ∧ ∀ b, Y.heap.size ≤ b → S b) := (by
            have hb : Below w1.heap.size w1 Y := hX ▸ ⟨rfl, rfl, rfl, Nat.le_refl _, fun _ _ => rfl⟩
            exact ⟨HY.out.2.later hb, HIN1.out.later hb, HY.out.1.trans (Ch.of_below hb), fun b hb2 => HR1.out.2 b (Nat.le_trans hb.size hb2)⟩)
          clear hX
          refine takeV (i := 0) [9] (some 42) rfl rfl (by kernel_rfl) (by kernel_rfl) (by kernel_rfl) (by kernel_rfl) (fun _ _ _ h => h) (gRun rfl (ptr gy) fun _ h => run_mvZ (.tmp 0) rfl (ptr gy) rfl) HS0.out.1.row ?_
          simp only [Act.put, aS, aC, aZ]
          refine takeV (i := 1) [9] (some 43) rfl rfl (by kernel_rfl) (by kernel_rfl) (by kernel_rfl) (by kernel_rfl) (fun _ _ _ h => h) (gRun rfl (ptr gy) fun _ h => run_nil (.tmp 42) rfl ⟨gy, 0, none⟩ rfl) HS0.out.1.row ?_
          simp only [Act.put, aS, aC, aZ]
          refine takeV (i := 2) [9] (some 44) rfl rfl (by kernel_rfl) (by kernel_rfl) (by kernel_rfl) (by kernel_rfl) (fun _ _ _ h => h) (gRun rfl (.pointer (some ⟨gy, 0 + 1, none⟩)) fun _ h => run_fieldOp' f84_1 (.tmp 43) rfl gy (0) rfl) HS0.out.1.row ?_
          simp only [Act.put, aS, aC, aZ]
          refine takeV (i := 3) [9] (some 45) rfl rfl (by kernel_rfl) (by kernel_rfl) (by kernel_rfl) (by kernel_rfl) (fun _ _ _ h => h) (gRun rfl vb fun _ h => run_load1 o50 (.tmp 44) rfl gy (0 + 1) rfl vb (h.at 1 _ rfl)) HS0.out.1.row ?_
          simp only [Act.put, aS, aC, aZ]
          refine takeV (i := 4) [9] (some 46) rfl rfl (by kernel_rfl) (by kernel_rfl) (by kernel_rfl) (by kernel_rfl) (fun _ _ _ h => h) (gRun rfl (.int .i64 (i : Nat)) fun _ h => run_mvZ (.tmp 6) rfl (.int .i64 (i : Nat)) rfl) HS0.out.1.row ?_
          simp only [Act.put, aS, aC, aZ]
          refine takeV (i := 6) [9] (some 48) rfl rfl (by kernel_rfl) (by kernel_rfl) (by kernel_rfl) (by kernel_rfl) (fun _ _ _ h => h) (gRun rfl v fun _ h => run_mvZ (.tmp 1) rfl v rfl) HS0.out.1.row ?_
          simp only [Act.put, aS, aC, aZ]
          refine oneU (i := 5) (by kernel_rfl) ?_
          refine opValueG (some 47) rfl rfl rfl _ _ (run_blit0 rfl) ?_
          obtain ⟨q, hq⟩ : ∃ q, q = Y.heap.size := ⟨_, rfl⟩
          obtain ⟨y2, hw⟩ : ∃ W, W = Y.alloc (.cells #[] 5) := ⟨_, rfl⟩
          have O2 : Hid (BOwn y2 Y.heap.size (.slice (some ⟨q, 0, none⟩) 0 0) [] ∧ Below Y.heap.size Y y2) := (by rw [hq, hw]; exact ⟨bown0 Y, below_alloc Y _⟩)
          rw [← hq, ← hw]
          clear hq hw
          refine ⟨fun _ => (HS0.out.1.later O2.out.2).row, ?_⟩
          simp only [Act.put, aS, aC, aZ]
          obtain ⟨v4, y3, hrun, ho3, hg3⟩ := run_bappend Y.heap.size 38 (.slice (some ⟨q, 0, none⟩) 0 0) v [] b O2.out.1 (HS0.out.2.1.later O2.out.2) (by have := HL.out; simp; omega) O2.out.2.size
          refine oneU (i := 7) (by kernel_rfl) ?_
          refine opValueG (some 49) rfl rfl rfl v4 y3 (run_append (.tmp 47) (.tmp 48) rfl _ v v4 rfl rfl hrun) ?_
          have HS3 : Hid (RefO S y3 gy n r1 vb vu vw vc bs cs ∧ ByIn S y3 v4 b ∧ Ch S w y3) := (by
            rw [List.nil_append] at ho3
            have hbl : Below Y.heap.size Y y3 := O2.out.2.trans ((Below.refl _ y2).grown hg3 O2.out.2.size fun k hk => (O2.out.1.lt k hk).1)
            have hown : Own1 S y3 5 v4 (bcells b) := ⟨(by have h1 := own_base ho3; rw [bcells_length]; exact h1), fun b' hb => HS0.out.2.2.2 b' (ho3.lt b' hb).1⟩
            exact ⟨HS0.out.1.later hbl, ⟨hown, SliceIn.lt256 HI.out, HL.out⟩, HS0.out.2.2.1.trans (Ch.of_below hbl)⟩)
          clear hrun ho3 hg3 O2
          refine ⟨fun _ => HS3.out.1.row, ?_⟩
          simp only [Act.put, aS, aC, aZ]
          refine takeV (i := 8) [9] (some 50) rfl rfl (by kernel_rfl) (by kernel_rfl) (by kernel_rfl) (by kernel_rfl) (fun _ _ _ h => h) (gRun rfl (.pointer (some ⟨gb, i, none⟩)) fun _ h => run_idx (.tmp 45) (.tmp 46) rfl vb _ _ rfl rfl HB.out.1) HS3.out.1.row ?_
          simp only [Act.put, aS, aC, aZ]
          obtain ⟨gb2, cb, hog, hsg, _, _, hrow, hcl, hset⟩ := HS3.out.1.b.ix 50 und50 sz38 i (by rw [HS3.out.1.lb]; exact hlt)
          obtain rfl : gb = gb2 := (by have h := HB.out.2; rw [hog] at h; injection h with h; exact h.symm)
          refine oneU (i := 9) (by kernel_rfl) ?_
          refine opSkipZ rfl rfl rfl _ (run_putRow (t := 38) (by kernel_rfl) (.tmp 50) (.tmp 49) rfl gb i 38 cb rfl v4 rfl (own_cells HS3.out.2.1.1.1) hrow hcl) ?_
          obtain ⟨y4, hw⟩ : ∃ W, W = y3.setCell ⟨gb, i, none⟩ v4 := ⟨_, rfl⟩
          have HS4 : Hid (Ch S w y4 ∧ Ref S y4 gy n { r with us := r.us.set i true, lb := r.lb.set i b }) := (by
            have h2 := hset v4
            rw [← hw] at h2
            have h3 := (HS3.out.1.setB hog h2.2 i v4 b h2.1 HS3.out.2.1 hlt).ref
            rw [HR1.out.1] at h3
            exact ⟨HS3.out.2.2.trans (h2.2.mono fun b _ e => by rw [e]; exact hsg), h3⟩)
          rw [← hw]
          clear hw hog hsg hrow hcl hset
          refine ⟨fun h => absurd (show true = false from h) (by decide), ?_⟩
          refine wpAnyU_done (by kernel_rfl) ?_ _
          go_wp2_with fail
          rw [HPQ.out]
          exact Or.inr (Or.inr ⟨HL.out, i, hlt, HFR.out, HF.out, rfl, HS4.out.1, HS4.out.2⟩)
      · go_upto_region 4 with fail
        refine wp_region_lit ?_
        refine wl rfl (.int .i64 (i : Nat)) _ (run_mvZ (.tmp 6) rfl (.int .i64 (i : Nat)) rfl) ?_
        simp only [Act.put, aS, aC, aZ]
        refine wl rfl (ptr gy) _ (run_mvZ (.tmp 0) rfl (ptr gy) rfl) ?_
        simp only [Act.put, aS, aC, aZ]
        refine wl rfl (ptr gy) _ (run_nil (.tmp 11) rfl ⟨gy, 0, none⟩ rfl) ?_
        simp only [Act.put, aS, aC, aZ]
        refine wl rfl (.pointer (some ⟨gy, 0 + 0, none⟩)) _ (run_fieldOp' f84_0 (.tmp 12) rfl gy (0) rfl) ?_
        simp only [Act.put, aS, aC, aZ]
        refine wl rfl (.int .i64 (n : Nat)) _ (run_load1 o3 (.tmp 13) rfl gy (0 + 0) rfl (.int .i64 (n : Nat)) (HO.out.row.at 0 _ rfl)) ?_
        simp only [Act.put, aS, aC, aZ]
        refine wl rfl (.bool false) _ (run_lssZ (.tmp 10) (.tmp 14) rfl (i : Nat) (n : Nat) rfl rfl false (decide_eq_false (by omega))) ?_
        simp only [Act.put, aS, aC, aZ]
        refine wpList_nil ?_
        have ei : i = n := by omega
        rw [ei] at HF
        go_wp2_with fail
        rw [HPQ.out]
        exact Or.inr (Or.inl ⟨HL.out, HF.out, rfl, rfl⟩)

end Go.Proofs.YtkpnflgnhhfjoaaDoor

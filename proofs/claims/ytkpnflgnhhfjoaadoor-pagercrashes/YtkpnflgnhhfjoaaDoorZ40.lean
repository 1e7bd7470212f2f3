/- The document's pager: Clone. -/
import Derived.Test.YtkpnflgnhhfjoaaDoorZ39
namespace Go.Proofs.YtkpnflgnhhfjoaaDoor
open Go.RowKit Go.Maps

theorem run_stV {w w' : World} {a : Act} {o : Oper} {t : TypeId} (x y : Operand) (ho : o.op = .store t x y) (g off : Nat) (hx : a.eval x = .pointer (some ⟨g, off, none⟩)) (v : Value) (hy : a.eval y = v) (hst : (storeVar t ⟨g, off, none⟩ v).run Tryd.prog w = .ok () w') : (execOp a.eval o).run Tryd.prog w = .ok .skip w' := by
  simp [execOp, ho, hx, hy, Instr.storeAt, Instr.sureAddr, hst]
theorem ag84 : AggT 84 6 := ⟨Or.inl ⟨((Tryd.prog.underlying 84).bind fun d => match d with | .struct fs => some fs | _ => none).getD #[], by kernel_rfl⟩, by kernel_rfl⟩
def z84 : List Value := [.int .i64 0, .slice none 0 0, .slice none 0 0, .slice none 0 0, .int .i64 0, .slice none 0 0]
theorem zero84y : (Tryd.prog.info? 84).map (·.zero) = some (some (.agg z84.toArray)) := by kernel_rfl
set_option maxHeartbeats 1000000 in
set_option maxRecDepth 100000 in
theorem rclone_any (S : Nat → Prop) (w : World) (gy n : Nat) (r : RefS) (h : Ref S w gy n r) (hn : 1 ≤ n ∧ n ≤ 384) (hS : ∀ b, w.heap.size ≤ b → S b) : Calls Tryd.prog 24 #[ptr gy] w fun e w' => ∃ gq, e = .returned (ptr gq) ∧ w.heap.size ≤ gq ∧ Below w.heap.size w w' ∧ Ref S w' gq n r := by
  have HN : Hid (1 ≤ n ∧ n ≤ 384) := hn
  have HS : Hid (∀ b, w.heap.size ≤ b → S b) := hS
  obtain ⟨vb, vu, vw, vc, bs, cs, ho⟩ := h.opened
  have HO : Hid (RefO S w gy n r vb vu vw vc bs cs) := ho
  clear h ho hn hS
  obtain ⟨PQ, HPQ⟩ : ∃ PQ : Ending → World → Prop, Hid (PQ = fun e w' => ∃ gq, e = .returned (ptr gq) ∧ w.heap.size ≤ gq ∧ Below w.heap.size w w' ∧ Ref S w' gq n r) := ⟨_, rfl⟩
  rw [← HPQ.out]
  go_enter Tryd.func24, Tryd.ntmps24
  go_upto_region 1 with fail
  refine wp_region_lit ?_
  refine wl rfl (ptr gy) _ (run_mvZ (.tmp 0) rfl (ptr gy) rfl) ?_
  simp only [Act.put, aS, aC, aZ]
  refine wl rfl (ptr gy) _ (run_nil (.tmp 4) rfl ⟨gy, 0, none⟩ rfl) ?_
  simp only [Act.put, aS, aC, aZ]
  refine wl rfl (.agg ([.int .i64 (n : Nat), vb, vu, vw, .int .i64 r.rt, vc] : List Value).toArray) _ (run_loadA ag84 (.tmp 5) rfl gy (0) rfl [.int .i64 (n : Nat), vb, vu, vw, .int .i64 r.rt, vc] rfl (fun j v hv => (by rw [Nat.zero_add]; exact HO.out.row.at j v hv))) ?_
  simp only [Act.put, aS, aC, aZ]
  refine wl rfl (ptr w.heap.size) _ (run_allocA z84 zero84y rfl) ?_
  obtain ⟨gq, hq⟩ : ∃ q, q = w.heap.size := ⟨_, rfl⟩
  obtain ⟨u0, hw⟩ : ∃ W, W = w.alloc (.cells z84.toArray 84) := ⟨_, rfl⟩
  have A0 : Hid (Below w.heap.size w u0 ∧ Row u0 gq 84 z84 ∧ w.heap.size ≤ gq) := (by rw [hq, hw]; exact ⟨below_alloc w _, Row.new _ _ _, Nat.le_refl _⟩)
  rw [← hq, ← hw]
  clear hq hw
  simp only [Act.put, aS, aC, aZ]
  have hone : ∀ v ∈ ([.int .i64 (n : Nat), vb, vu, vw, .int .i64 r.rt, vc] : List Value), v.oneCell' = true := (by
    intro v hv
    simp at hv
    rcases hv with rfl | rfl | rfl | rfl | rfl | rfl
    · rfl
    · exact (own_cells HO.out.b.1).2
    · exact (own_cells HO.out.u.1).2
    · exact (own_cells HO.out.w.1).2
    · rfl
    · exact (own_cells HO.out.c.1).2)
  have hst := run_storeVar ag84 u0 gq 0 84 z84 [.int .i64 (n : Nat), vb, vu, vw, .int .i64 r.rt, vc] rfl A0.out.2.1 (by simp [z84]) hone
  rw [show splice z84 0 [.int .i64 (n : Nat), vb, vu, vw, .int .i64 r.rt, vc] = [.int .i64 (n : Nat), vb, vu, vw, .int .i64 r.rt, vc] from rfl] at hst
  refine wlS rfl rfl _ (run_stV (.tmp 3) (.tmp 6) rfl gq 0 rfl _ rfl hst) ?_
  obtain ⟨u1, hw⟩ : ∃ W, W = u0.setRow gq ([.int .i64 (n : Nat), vb, vu, vw, .int .i64 r.rt, vc] : List Value).toArray := ⟨_, rfl⟩
  have A1 : Hid (Below w.heap.size w u1 ∧ Row u1 gq 84 [.int .i64 (n : Nat), vb, vu, vw, .int .i64 r.rt, vc] ∧ w.heap.size ≤ gq) := (by
    have hc : Ch (· = gq) u0 u1 := hw ▸ (Ch.refl (· = gq) u0).setRow (g := gq) (Or.inl rfl) _
    exact ⟨A0.out.1.trans (hc.below A0.out.1.size fun i hi e => by have := A0.out.2.2; omega), hw ▸ A0.out.2.1.setRow _, A0.out.2.2⟩)
  rw [← hw]
  clear hw hst hone A0
  refine wpList_nil ?_
  go_upto_region 2 with fail
  refine wp_region_lit ?_
  have HOK := HO.out.later A1.out.1
  obtain ⟨z1, u1A, hrun, ho, hbl, hge⟩ := run_cp 50 38 (.slice none 0 0) 24 und50 inf38 rfl (by decide) 50 HOK.b (by_one (by rw [HO.out.mb, HO.out.lb]) HOK.byb) (ne_nil HO.out.lb HN.out.1) (by rw [HO.out.lb]; exact HN.out.2) (fun b hb => HS.out b (Nat.le_trans A1.out.1.size hb))
  refine wl rfl (.slice (some ⟨u1.heap.size, 0, none⟩) 0 0) _ (run_lit50 rfl) ?_
  obtain ⟨q1, hq⟩ : ∃ q, q = u1.heap.size := ⟨_, rfl⟩
  obtain ⟨u1L, hw⟩ : ∃ W, W = u1.alloc (.cells #[] 38) := ⟨_, rfl⟩
  have RL1 : Hid (Row u1L gy 84 [.int .i64 (n : Nat), vb, vu, vw, .int .i64 r.rt, vc]) := (by rw [hw]; exact HOK.row.later (below_alloc u1 _) HOK.row.lt)
  rw [← hw] at hrun ⊢
  rw [← hq] at hrun ⊢
  have HA1 : Hid ((Builtin.append_ #[50, 50] 50 #[.slice (some ⟨q1, 0, none⟩) 0 0, vb]).run Tryd.prog u1L = .ok z1 u1A) := hrun
  have B1 : Hid (Below w.heap.size w u1A ∧ Row u1A gq 84 [.int .i64 (n : Nat), vb, vu, vw, .int .i64 r.rt, vc] ∧ w.heap.size ≤ gq) := ⟨A1.out.1.trans (hbl.mono A1.out.1.size), A1.out.2.1.later hbl A1.out.2.1.lt, A1.out.2.2⟩
  have Z1a1 : Hid (Own1 S u1A 38 z1 (bs)) := ho
  clear hrun ho hbl hge hq hw HOK A1
  simp only [Act.put, aS, aC, aZ]
  refine wl rfl (ptr gy) _ (run_mvZ (.tmp 0) rfl (ptr gy) rfl) ?_
  simp only [Act.put, aS, aC, aZ]
  refine wl rfl (ptr gy) _ (run_nil (.tmp 8) rfl ⟨gy, 0, none⟩ rfl) ?_
  simp only [Act.put, aS, aC, aZ]
  refine wl rfl (.pointer (some ⟨gy, 0 + 1, none⟩)) _ (run_fieldOp' f84_1 (.tmp 9) rfl gy (0) rfl) ?_
  simp only [Act.put, aS, aC, aZ]
  refine wl rfl vb _ (run_load1 o50 (.tmp 10) rfl gy (0 + 1) rfl vb (RL1.out.at 1 _ rfl)) ?_
  simp only [Act.put, aS, aC, aZ]
  refine wl rfl z1 u1A (run_append (.tmp 7) (.tmp 11) rfl _ vb z1 rfl rfl HA1.out) ?_
  simp only [Act.put, aS, aC, aZ]
  refine wl rfl (.pointer (some ⟨gq, 0 + 1, none⟩)) _ (run_fieldOp' f84_1 (.tmp 3) rfl gq (0) rfl) ?_
  simp only [Act.put, aS, aC, aZ]
  refine wl_put (t := 50) (by kernel_rfl) (.tmp 13) (.tmp 12) rfl rfl rfl gq (0 + 1) 84 [.int .i64 (n : Nat), vb, vu, vw, .int .i64 r.rt, vc] rfl z1 rfl (own_cells Z1a1.out.1) B1.out.2.1 (by simp) ?_
  obtain ⟨u2, hw⟩ : ∃ W, W = u1A.setCell ⟨gq, 0 + 1, none⟩ z1 := ⟨_, rfl⟩
  have hc : Ch (· = gq) u1A u2 := hw ▸ (Ch.refl (· = gq) u1A).setCell (g := gq) (Or.inl rfl) _ _
  have A2 : Hid (Below w.heap.size w u2 ∧ Row u2 gq 84 [.int .i64 (n : Nat), z1, vu, vw, .int .i64 r.rt, vc] ∧ w.heap.size ≤ gq) := (by
    have hrow := row_cell' (i := 0 + 1) B1.out.2.1 z1
    rw [← hw] at hrow
    exact ⟨B1.out.1.trans (hc.below B1.out.1.size fun i hi e => by have := B1.out.2.2; omega), hrow, B1.out.2.2⟩)
  have Z1b1 : Hid (Own1 S u2 38 z1 (bs)) := Z1a1.out.offRow B1.out.2.1 (by decide) hc
  clear Z1a1
  rw [← hw]
  clear hw hc B1 RL1 HA1
  refine wpList_nil ?_
  go_upto_region 3 with fail
  refine wp_region_lit ?_
  have HOK := HO.out.later A2.out.1
  obtain ⟨z2, u2A, hrun, ho, hbl, hge⟩ := run_cp 82 4 (.bool false) 1 und82 inf4 rfl (by decide) 82 HOK.u (map_one _) (ne_nil (len_map HO.out.lu) HN.out.1) (by rw [(len_map HO.out.lu)]; exact HN.out.2) (fun b hb => HS.out b (Nat.le_trans A2.out.1.size hb))
  refine wl rfl (.slice (some ⟨u2.heap.size, 0, none⟩) 0 0) _ (run_lit82 rfl) ?_
  obtain ⟨q2, hq⟩ : ∃ q, q = u2.heap.size := ⟨_, rfl⟩
  obtain ⟨u2L, hw⟩ : ∃ W, W = u2.alloc (.cells #[] 4) := ⟨_, rfl⟩
  have RL2 : Hid (Row u2L gy 84 [.int .i64 (n : Nat), vb, vu, vw, .int .i64 r.rt, vc]) := (by rw [hw]; exact HOK.row.later (below_alloc u2 _) HOK.row.lt)
  rw [← hw] at hrun ⊢
  rw [← hq] at hrun ⊢
  have HA2 : Hid ((Builtin.append_ #[82, 82] 82 #[.slice (some ⟨q2, 0, none⟩) 0 0, vu]).run Tryd.prog u2L = .ok z2 u2A) := hrun
  have B2 : Hid (Below w.heap.size w u2A ∧ Row u2A gq 84 [.int .i64 (n : Nat), z1, vu, vw, .int .i64 r.rt, vc] ∧ w.heap.size ≤ gq) := ⟨A2.out.1.trans (hbl.mono A2.out.1.size), A2.out.2.1.later hbl A2.out.2.1.lt, A2.out.2.2⟩
  have Z2a2 : Hid (Own1 S u2A 4 z2 (r.us.map Value.bool)) := ho
  have Z1a2 : Hid (Own1 S u2A 38 z1 (bs)) := Z1b1.out.keepB fun b hb => hbl.block b (Z1b1.out.lt hb)
  have HNE1_2 : Hid (∀ b, z1.ownBlock = some b → z2.ownBlock ≠ some b) := fun b hb e2 => absurd (hge b e2) (by have := Z1b1.out.lt hb; rw [← hq]; rw [← hq] at this; omega)
  clear Z1b1
  clear hrun ho hbl hge hq hw HOK A2
  simp only [Act.put, aS, aC, aZ]
  refine wl rfl (ptr gy) _ (run_mvZ (.tmp 0) rfl (ptr gy) rfl) ?_
  simp only [Act.put, aS, aC, aZ]
  refine wl rfl (ptr gy) _ (run_nil (.tmp 15) rfl ⟨gy, 0, none⟩ rfl) ?_
  simp only [Act.put, aS, aC, aZ]
  refine wl rfl (.pointer (some ⟨gy, 0 + 2, none⟩)) _ (run_fieldOp' f84_2 (.tmp 16) rfl gy (0) rfl) ?_
  simp only [Act.put, aS, aC, aZ]
  refine wl rfl vu _ (run_load1 o82 (.tmp 17) rfl gy (0 + 2) rfl vu (RL2.out.at 2 _ rfl)) ?_
  simp only [Act.put, aS, aC, aZ]
  refine wl rfl z2 u2A (run_append (.tmp 14) (.tmp 18) rfl _ vu z2 rfl rfl HA2.out) ?_
  simp only [Act.put, aS, aC, aZ]
  refine wl rfl (.pointer (some ⟨gq, 0 + 2, none⟩)) _ (run_fieldOp' f84_2 (.tmp 3) rfl gq (0) rfl) ?_
  simp only [Act.put, aS, aC, aZ]
  refine wl_put (t := 82) (by kernel_rfl) (.tmp 20) (.tmp 19) rfl rfl rfl gq (0 + 2) 84 [.int .i64 (n : Nat), z1, vu, vw, .int .i64 r.rt, vc] rfl z2 rfl (own_cells Z2a2.out.1) B2.out.2.1 (by simp) ?_
  obtain ⟨u3, hw⟩ : ∃ W, W = u2A.setCell ⟨gq, 0 + 2, none⟩ z2 := ⟨_, rfl⟩
  have hc : Ch (· = gq) u2A u3 := hw ▸ (Ch.refl (· = gq) u2A).setCell (g := gq) (Or.inl rfl) _ _
  have A3 : Hid (Below w.heap.size w u3 ∧ Row u3 gq 84 [.int .i64 (n : Nat), z1, z2, vw, .int .i64 r.rt, vc] ∧ w.heap.size ≤ gq) := (by
    have hrow := row_cell' (i := 0 + 2) B2.out.2.1 z2
    rw [← hw] at hrow
    exact ⟨B2.out.1.trans (hc.below B2.out.1.size fun i hi e => by have := B2.out.2.2; omega), hrow, B2.out.2.2⟩)
  have Z1b2 : Hid (Own1 S u3 38 z1 (bs)) := Z1a2.out.offRow B2.out.2.1 (by decide) hc
  clear Z1a2
  have Z2b2 : Hid (Own1 S u3 4 z2 (r.us.map Value.bool)) := Z2a2.out.offRow B2.out.2.1 (by decide) hc
  clear Z2a2
  rw [← hw]
  clear hw hc B2 RL2 HA2
  refine wpList_nil ?_
  go_upto_region 4 with fail
  refine wp_region_lit ?_
  have HOK := HO.out.later A3.out.1
  obtain ⟨z3, u3A, hrun, ho, hbl, hge⟩ := run_cp 82 4 (.bool false) 1 und82 inf4 rfl (by decide) 82 HOK.w (map_one _) (ne_nil (len_map HO.out.lw) HN.out.1) (by rw [(len_map HO.out.lw)]; exact HN.out.2) (fun b hb => HS.out b (Nat.le_trans A3.out.1.size hb))
  refine wl rfl (.slice (some ⟨u3.heap.size, 0, none⟩) 0 0) _ (run_lit82 rfl) ?_
  obtain ⟨q3, hq⟩ : ∃ q, q = u3.heap.size := ⟨_, rfl⟩
  obtain ⟨u3L, hw⟩ : ∃ W, W = u3.alloc (.cells #[] 4) := ⟨_, rfl⟩
  have RL3 : Hid (Row u3L gy 84 [.int .i64 (n : Nat), vb, vu, vw, .int .i64 r.rt, vc]) := (by rw [hw]; exact HOK.row.later (below_alloc u3 _) HOK.row.lt)
  rw [← hw] at hrun ⊢
  rw [← hq] at hrun ⊢
  have HA3 : Hid ((Builtin.append_ #[82, 82] 82 #[.slice (some ⟨q3, 0, none⟩) 0 0, vw]).run Tryd.prog u3L = .ok z3 u3A) := hrun
  have B3 : Hid (Below w.heap.size w u3A ∧ Row u3A gq 84 [.int .i64 (n : Nat), z1, z2, vw, .int .i64 r.rt, vc] ∧ w.heap.size ≤ gq) := ⟨A3.out.1.trans (hbl.mono A3.out.1.size), A3.out.2.1.later hbl A3.out.2.1.lt, A3.out.2.2⟩
  have Z3a3 : Hid (Own1 S u3A 4 z3 (r.ws.map Value.bool)) := ho
  have Z1a3 : Hid (Own1 S u3A 38 z1 (bs)) := Z1b2.out.keepB fun b hb => hbl.block b (Z1b2.out.lt hb)
  have HNE1_3 : Hid (∀ b, z1.ownBlock = some b → z3.ownBlock ≠ some b) := fun b hb e2 => absurd (hge b e2) (by have := Z1b2.out.lt hb; rw [← hq]; rw [← hq] at this; omega)
  clear Z1b2
  have Z2a3 : Hid (Own1 S u3A 4 z2 (r.us.map Value.bool)) := Z2b2.out.keepB fun b hb => hbl.block b (Z2b2.out.lt hb)
  have HNE2_3 : Hid (∀ b, z2.ownBlock = some b → z3.ownBlock ≠ some b) := fun b hb e2 => absurd (hge b e2) (by have := Z2b2.out.lt hb; rw [← hq]; rw [← hq] at this; omega)
  clear Z2b2
  clear hrun ho hbl hge hq hw HOK A3
  simp only [Act.put, aS, aC, aZ]
  refine wl rfl (ptr gy) _ (run_mvZ (.tmp 0) rfl (ptr gy) rfl) ?_
  simp only [Act.put, aS, aC, aZ]
  refine wl rfl (ptr gy) _ (run_nil (.tmp 22) rfl ⟨gy, 0, none⟩ rfl) ?_
  simp only [Act.put, aS, aC, aZ]
  refine wl rfl (.pointer (some ⟨gy, 0 + 3, none⟩)) _ (run_fieldOp' f84_3 (.tmp 23) rfl gy (0) rfl) ?_
  simp only [Act.put, aS, aC, aZ]
  refine wl rfl vw _ (run_load1 o82 (.tmp 24) rfl gy (0 + 3) rfl vw (RL3.out.at 3 _ rfl)) ?_
  simp only [Act.put, aS, aC, aZ]
  refine wl rfl z3 u3A (run_append (.tmp 21) (.tmp 25) rfl _ vw z3 rfl rfl HA3.out) ?_
  simp only [Act.put, aS, aC, aZ]
  refine wl rfl (.pointer (some ⟨gq, 0 + 3, none⟩)) _ (run_fieldOp' f84_3 (.tmp 3) rfl gq (0) rfl) ?_
  simp only [Act.put, aS, aC, aZ]
  refine wl_put (t := 82) (by kernel_rfl) (.tmp 27) (.tmp 26) rfl rfl rfl gq (0 + 3) 84 [.int .i64 (n : Nat), z1, z2, vw, .int .i64 r.rt, vc] rfl z3 rfl (own_cells Z3a3.out.1) B3.out.2.1 (by simp) ?_
  obtain ⟨u4, hw⟩ : ∃ W, W = u3A.setCell ⟨gq, 0 + 3, none⟩ z3 := ⟨_, rfl⟩
  have hc : Ch (· = gq) u3A u4 := hw ▸ (Ch.refl (· = gq) u3A).setCell (g := gq) (Or.inl rfl) _ _
  have A4 : Hid (Below w.heap.size w u4 ∧ Row u4 gq 84 [.int .i64 (n : Nat), z1, z2, z3, .int .i64 r.rt, vc] ∧ w.heap.size ≤ gq) := (by
    have hrow := row_cell' (i := 0 + 3) B3.out.2.1 z3
    rw [← hw] at hrow
    exact ⟨B3.out.1.trans (hc.below B3.out.1.size fun i hi e => by have := B3.out.2.2; omega), hrow, B3.out.2.2⟩)
  have Z1b3 : Hid (Own1 S u4 38 z1 (bs)) := Z1a3.out.offRow B3.out.2.1 (by decide) hc
  clear Z1a3
  have Z2b3 : Hid (Own1 S u4 4 z2 (r.us.map Value.bool)) := Z2a3.out.offRow B3.out.2.1 (by decide) hc
  clear Z2a3
  have Z3b3 : Hid (Own1 S u4 4 z3 (r.ws.map Value.bool)) := Z3a3.out.offRow B3.out.2.1 (by decide) hc
  clear Z3a3
  rw [← hw]
  clear hw hc B3 RL3 HA3
  refine wpList_nil ?_
  go_upto_region 5 with fail
  refine wp_region_lit ?_
  have HOK := HO.out.later A4.out.1
  obtain ⟨z4, u4A, hrun, ho, hbl, hge⟩ := run_cp 50 38 (.slice none 0 0) 24 und50 inf38 rfl (by decide) 50 HOK.c (by_one (by rw [HO.out.mc, HO.out.lc]) HOK.byc) (ne_nil HO.out.lc HN.out.1) (by rw [HO.out.lc]; exact HN.out.2) (fun b hb => HS.out b (Nat.le_trans A4.out.1.size hb))
  refine wl rfl (.slice (some ⟨u4.heap.size, 0, none⟩) 0 0) _ (run_lit50 rfl) ?_
  obtain ⟨q4, hq⟩ : ∃ q, q = u4.heap.size := ⟨_, rfl⟩
  obtain ⟨u4L, hw⟩ : ∃ W, W = u4.alloc (.cells #[] 38) := ⟨_, rfl⟩
  have RL4 : Hid (Row u4L gy 84 [.int .i64 (n : Nat), vb, vu, vw, .int .i64 r.rt, vc]) := (by rw [hw]; exact HOK.row.later (below_alloc u4 _) HOK.row.lt)
  rw [← hw] at hrun ⊢
  rw [← hq] at hrun ⊢
  have HA4 : Hid ((Builtin.append_ #[50, 50] 50 #[.slice (some ⟨q4, 0, none⟩) 0 0, vc]).run Tryd.prog u4L = .ok z4 u4A) := hrun
  have B4 : Hid (Below w.heap.size w u4A ∧ Row u4A gq 84 [.int .i64 (n : Nat), z1, z2, z3, .int .i64 r.rt, vc] ∧ w.heap.size ≤ gq) := ⟨A4.out.1.trans (hbl.mono A4.out.1.size), A4.out.2.1.later hbl A4.out.2.1.lt, A4.out.2.2⟩
  have Z4a4 : Hid (Own1 S u4A 38 z4 (cs)) := ho
  have Z1a4 : Hid (Own1 S u4A 38 z1 (bs)) := Z1b3.out.keepB fun b hb => hbl.block b (Z1b3.out.lt hb)
  have HNE1_4 : Hid (∀ b, z1.ownBlock = some b → z4.ownBlock ≠ some b) := fun b hb e2 => absurd (hge b e2) (by have := Z1b3.out.lt hb; rw [← hq]; rw [← hq] at this; omega)
  clear Z1b3
  have Z2a4 : Hid (Own1 S u4A 4 z2 (r.us.map Value.bool)) := Z2b3.out.keepB fun b hb => hbl.block b (Z2b3.out.lt hb)
  have HNE2_4 : Hid (∀ b, z2.ownBlock = some b → z4.ownBlock ≠ some b) := fun b hb e2 => absurd (hge b e2) (by have := Z2b3.out.lt hb; rw [← hq]; rw [← hq] at this; omega)
  clear Z2b3
  have Z3a4 : Hid (Own1 S u4A 4 z3 (r.ws.map Value.bool)) := Z3b3.out.keepB fun b hb => hbl.block b (Z3b3.out.lt hb)
  have HNE3_4 : Hid (∀ b, z3.ownBlock = some b → z4.ownBlock ≠ some b) := fun b hb e2 => absurd (hge b e2) (by have := Z3b3.out.lt hb; rw [← hq]; rw [← hq] at this; omega)
  clear Z3b3
  clear hrun ho hbl hge hq hw HOK A4
  simp only [Act.put, aS, aC, aZ]
  refine wl rfl (ptr gy) _ (run_mvZ (.tmp 0) rfl (ptr gy) rfl) ?_
  simp only [Act.put, aS, aC, aZ]
  refine wl rfl (ptr gy) _ (run_nil (.tmp 29) rfl ⟨gy, 0, none⟩ rfl) ?_
  simp only [Act.put, aS, aC, aZ]
  refine wl rfl (.pointer (some ⟨gy, 0 + 5, none⟩)) _ (run_fieldOp' f84_5 (.tmp 30) rfl gy (0) rfl) ?_
  simp only [Act.put, aS, aC, aZ]
  refine wl rfl vc _ (run_load1 o50 (.tmp 31) rfl gy (0 + 5) rfl vc (RL4.out.at 5 _ rfl)) ?_
  simp only [Act.put, aS, aC, aZ]
  refine wl rfl z4 u4A (run_append (.tmp 28) (.tmp 32) rfl _ vc z4 rfl rfl HA4.out) ?_
  simp only [Act.put, aS, aC, aZ]
  refine wl rfl (.pointer (some ⟨gq, 0 + 5, none⟩)) _ (run_fieldOp' f84_5 (.tmp 3) rfl gq (0) rfl) ?_
  simp only [Act.put, aS, aC, aZ]
  refine wl_put (t := 50) (by kernel_rfl) (.tmp 34) (.tmp 33) rfl rfl rfl gq (0 + 5) 84 [.int .i64 (n : Nat), z1, z2, z3, .int .i64 r.rt, vc] rfl z4 rfl (own_cells Z4a4.out.1) B4.out.2.1 (by simp) ?_
  obtain ⟨u5, hw⟩ : ∃ W, W = u4A.setCell ⟨gq, 0 + 5, none⟩ z4 := ⟨_, rfl⟩
  have hc : Ch (· = gq) u4A u5 := hw ▸ (Ch.refl (· = gq) u4A).setCell (g := gq) (Or.inl rfl) _ _
  have A5 : Hid (Below w.heap.size w u5 ∧ Row u5 gq 84 [.int .i64 (n : Nat), z1, z2, z3, .int .i64 r.rt, z4] ∧ w.heap.size ≤ gq) := (by
    have hrow := row_cell' (i := 0 + 5) B4.out.2.1 z4
    rw [← hw] at hrow
    exact ⟨B4.out.1.trans (hc.below B4.out.1.size fun i hi e => by have := B4.out.2.2; omega), hrow, B4.out.2.2⟩)
  have Z1b4 : Hid (Own1 S u5 38 z1 (bs)) := Z1a4.out.offRow B4.out.2.1 (by decide) hc
  clear Z1a4
  have Z2b4 : Hid (Own1 S u5 4 z2 (r.us.map Value.bool)) := Z2a4.out.offRow B4.out.2.1 (by decide) hc
  clear Z2a4
  have Z3b4 : Hid (Own1 S u5 4 z3 (r.ws.map Value.bool)) := Z3a4.out.offRow B4.out.2.1 (by decide) hc
  clear Z3a4
  have Z4b4 : Hid (Own1 S u5 38 z4 (cs)) := Z4a4.out.offRow B4.out.2.1 (by decide) hc
  clear Z4a4
  rw [← hw]
  clear hw hc B4 RL4 HA4
  refine wpList_nil ?_
  have HF : Hid (Ref S u5 gq n r) := (by
    have h := HO.out.later A5.out.1
    exact ⟨z1, z2, z3, z4, bs, cs, A5.out.2.1, HS.out gq A5.out.2.2, Z1b4.out, Z2b4.out, Z3b4.out, Z4b4.out, HNE2_3.out, HNE1_4.out, h.lu, h.lw, h.lb, h.lc, h.mb, h.mc, h.byb, h.byc⟩)
  go_wp2_with fail
  rw [HPQ.out]
  exact ⟨gq, rfl, A5.out.2.2, A5.out.1, HF.out⟩

end Go.Proofs.YtkpnflgnhhfjoaaDoor

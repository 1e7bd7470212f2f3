/- The document's own plant: settle on a tape; both. -/
import Derived.Test.YtdddfjkecmnggaaRefSettleW
import Derived.Maps.AppendAt
namespace Go.Proofs.Ytdddfjkecmnggaa
open Go.RowKit Go.Maps

theorem run_lit57 {w : World} {a : Act} {o : Oper} (x : Operand) (ho : o.op = .buildSlice 57 1 #[(0, x)]) (u : Value) (hu : ∃ p n c, u = .slice p n c) (hx : a.eval x = u) : (execOp a.eval o).run Try.prog w = .ok (.value (.slice (some ⟨w.heap.size, 0, none⟩) 1 1)) (w.alloc (.cells #[u] 40)) := by
  obtain ⟨p, n, c, rfl⟩ := hu
  have hr : (Instr.buildSlice 57 1 #[(0, .slice p n c)]).run Try.prog w = .ok (.slice (some ⟨w.heap.size, 0, none⟩) 1 1) (w.alloc (.cells #[.slice p n c] 40)) := by kernel_rfl
  simp only [execOp, ho, List.map_toArray, List.map_cons, List.map_nil, hx, hr, Sem.run_bind, Sem.run_pure, Result.andThen_ok]
theorem run_append {w w' : World} {a : Act} {o : Oper} {t : TypeId} (sv x : Operand) (ho : o.op = .call { callee := .builtin .append, args := #[sv, x], argTypes := #[t, t] }) (v vx v' : Value) (hs : a.eval sv = v) (hx : a.eval x = vx) (hr : (Builtin.append_ #[t, t] o.type #[v, vx]).run Try.prog w = .ok v' w') : (execOp a.eval o).run Try.prog w = .ok (.value v') w' := by
  simp only [execOp, ho, resolve, invoke, builtin, Sem.run_bind, Sem.run_pure, Result.andThen_ok, List.map_toArray, List.map_cons, List.map_nil, hs, hx, hr]
/-- one more behind a row of rows -/
theorem app_one {w : World} {t e : TypeId} (hu : Try.prog.underlying t = some (.slice e)) (hinfo : (Try.prog.info? e).map (fun i => (i.zero, i.size, i.bytes)) = some (some (.slice none 0 0), 1, 24)) (ty : TypeId) (v : Value) (n : Nat) (xs : List Value) (hown : w.ownsRow 0 e 1 v n xs) (b : Nat) (u : Value) (hu1 : u.oneCell' = true) (hb : Row w b e [u]) (hn : n ≤ 1000000) :
    ∃ v' w', (Builtin.append_ #[t, t] ty #[v, .slice (some ⟨b, 0, none⟩) 1 1]).run Try.prog w = .ok v' w' ∧ w'.ownsRow 0 e 1 v' (n + 1) (xs ++ [u]) ∧ w.grownBy w' v.ownBlock ∧ (v'.ownBlock = v.ownBlock ∨ v'.ownBlock = some w.heap.size) := by
  obtain ⟨i, hi, hz0, hz1, hz2⟩ := info_parts hinfo
  obtain ⟨v', w', hr, h2, h3, _, h5⟩ := run_append_own_at (P := Try.prog) (w := w) 0 t ty e i (.slice none 0 0) 1 24 hu hi hz0 hz1 hz2 rfl (by decide) v n xs hown
    ⟨b, 0, none⟩ 1 1 [u] (by simp) (fun j y hy => by rw [add_none, Nat.zero_add]; exact hb.at j y hy) (by intro y hy; rw [List.mem_singleton.1 hy]; exact hu1) (by unfold maxLen; omega) (by omega) (Nat.zero_le _)
  exact ⟨v', w', hr, h2, h3, h5⟩
theorem own_cells {w : World} {base e sz n : Nat} {v : Value} {xs : List Value} (h : w.ownsRow base e sz v n xs) : v.cells = #[v] ∧ v.oneCell' = true := by
  rcases h.2 with ⟨rfl, _⟩ | ⟨g, cap, cur, rfl, _⟩
  · exact ⟨rfl, rfl⟩
  · exact ⟨rfl, rfl⟩
set_option maxHeartbeats 4000000 in
set_option maxRecDepth 100000 in
theorem refSettle_tape {w : World} {c : Nat → Colour} {t g : Nat} {vd vt hv wv : Value} {ds ts : List Int} {m : Pl} (h : RefAt w c t g vd vt hv wv ds ts m) (ht1 : t ≠ 1) (hfr : ∀ b, w.heap.size ≤ b → (c b).1 = t + 1) (i p : Nat) (hi : ds.length ≤ i) (hin : i < m.n) (hp : (m.fl i).length ≤ 1000000) (u : Value) (s : List Nat) (hu : RO w c u s) :
    Calls Try.prog 51 #[ptr g, waitV i p u] w fun e w' => e = .returned noResult ∧ NextA w c t g vd vt hv wv ds ts { m with fl := upd m.fl i (m.fl i ++ [s]) } w' := by
  have HA : Hid (RefAt w c t g vd vt hv wv ds ts m) := h
  have HU : Hid (RO w c u s) := hu
  obtain ⟨⟨us, ho1, ho2⟩, ho3⟩ := h.has
  obtain ⟨⟨xs, hr1, hr2⟩, hr3⟩ := ho2 i hin
  obtain ⟨left, hleft, hrow⟩ := h.row
  obtain ⟨bh, hbh, hih, hch⟩ := own_index ho1 Try.underlying53 s57 i hin
  obtain ⟨cur, hcur, hcl⟩ := own_row ho1 bh hbh
  have hcb := ho3 bh hbh
  rw [Nat.mul_one] at hih
  have HO : Hid (w.ownsRow 0 57 1 hv m.n us) := ho1
  have HO2 : Hid (∀ j, j < m.n → RowOf w c (t, 3 + j) (us.getD j undef) (m.fl j)) := ho2
  have HO3 : Hid (∀ b, hv.ownBlock = some b → c b = (t, 1)) := ho3
  have HBH : Hid (hv.ownBlock = some bh ∧ c bh = (t, 1)) := ⟨hbh, hcb⟩
  have HR1 : Hid (w.ownsRow 0 40 1 (us.getD i undef) (m.fl i).length xs ∧ ∀ q, q < (m.fl i).length → RO w c (xs.getD q undef) ((m.fl i).getD q [])) := ⟨hr1, hr2⟩
  have HR3 : Hid (∀ b, (us.getD i undef).ownBlock = some b → c b = (t, 3 + i) ∧ b < w.heap.size) := fun b hb => ⟨hr3 b hb, (hr1.lt b hb).2⟩
  have HIH : Hid (∀ w', (Instr.indexAt 53 hv (.int .i64 (i : Nat))).run Try.prog w' = .ok (.pointer (some ⟨bh, i, none⟩)) w') := hih
  have HCH : Hid (w.cell? ⟨bh, i, none⟩ = some (us.getD i undef)) := by have := hch 0 (by decide); rw [Nat.add_zero, Nat.mul_one] at this; show _ = _; rw [this]; have hl := hasK ho1; simp [show i < us.length by omega]
  have HCUR : Hid (Row w bh 57 cur ∧ i < cur.length) := ⟨hcur, by omega⟩
  have HLT : Hid (g < w.heap.size ∧ bh < w.heap.size) := ⟨hrow.lt, (ho1.lt bh hbh).2⟩
  have HROW : Hid (Row w g 56 (rcells vd vt hv wv (!m.on) (decide (0 ≤ m.fuse)) left (m.steps : Nat) m.clock)) := hrow
  have HCG : Hid (c g = (t, 0)) := h.cg
  have HD : Hid (∀ W, Below w.heap.size w W → Calls Try.prog 44 #[ptr g] W fun e w' => e = .returned (.int .i64 (ds.length : Nat)) ∧ W = w') := fun W hW => refDisks_any (h.same (Same.below hW) hW.size).row (h.disks.same (t := t) (Same.below hW) hW.size).1
  have hdl : ¬ (i : Int) < (ds.length : Int) := by omega
  have hdl' : decide ((i : Int) < (ds.length : Int)) = false := decide_eq_false hdl
  have HUS : Hid (∃ pu nu cu, u = .slice pu nu cu) := hu.slices
  have HV : Hid (u.cells = #[u] ∧ u.oneCell' = true) := by obtain ⟨pu, nu, cu, hus⟩ := hu.slices; rw [hus]; exact ⟨rfl, rfl⟩
  generalize hrv : us.getD i undef = rv at HR1 HR3 HCH
  generalize hDL : ds.length = D at HD hdl hdl'
  obtain ⟨q, hq⟩ : ∃ q, q = w.heap.size := ⟨_, rfl⟩
  have HQ : Hid (q = w.heap.size) := hq
  rw [← hq] at HLT
  clear h hu ho1 ho2 ho3 hr1 hr2 hr3 hleft hrow hbh hih hch hcur hcl hcb hrv hDL hi
  go_enter Try.func51, Try.ntmps51
  go_upto_region 0 with fail
  refine wp_region_lit ?_
  refine wpList_box (.tmp 1) rfl rfl [.int .i64 (i : Nat), .int .i64 (p : Nat), u] rfl ?_
  rw [← hq]
  intro w1 r1 s1 b1
  refine wpList_nil ?_
  have R1 : Hid (Row w1 q 81 [.int .i64 (i : Nat), .int .i64 (p : Nat), u] ∧ w1.heap.size = q + 1 ∧ Below q w w1) := ⟨r1, s1, b1⟩
  clear r1 s1 b1 hq
  go_wp2_with fail
  refine wp_region_held (S := fun X => Row X q 81 [.int .i64 (i : Nat), .int .i64 (p : Nat), u] ∧ Below q w X) (by kernel_rfl) ?_
  show wpAnyH _ _ _ _ _ 5 (Array.replicate 5 false) _ _
  have hS : Row { w1 with drawn := w1.drawn + 1 } q 81 [.int .i64 (i : Nat), .int .i64 (p : Nat), u] ∧ Below q w { w1 with drawn := w1.drawn + 1 } := ⟨R1.out.1, Go.Proofs.Ytdddfjkecmnggaa.Below.drewN R1.out.2.2 1⟩
  have HW1 : Hid ({ w1 with drawn := w1.drawn + 1 } = w1.drewN 1) := rfl
  rw [HW1.out] at hS ⊢
  refine takeH (i := 0) (some 4) rfl rfl (by kernel_rfl) (by kernel_rfl) (by kernel_rfl) (fun _ _ _ h => h) (zField f81_0 rfl (.tmp 3) rfl q 0 rfl) hS ?_
  simp only [Act.put, List.setIfInBounds_toArray, List.set_cons_succ, List.set_cons_zero]
  refine takeH (i := 1) (some 5) rfl rfl (by kernel_rfl) (by kernel_rfl) (by kernel_rfl) (fun _ _ _ h => h) (zLoad o3 rfl (.tmp 4) rfl q (0 + 0) rfl (.int .i64 (i : Nat)) (fun X hX => hX.1.at 0 _ rfl)) hS ?_
  simp only [Act.put, List.setIfInBounds_toArray, List.set_cons_succ, List.set_cons_zero]
  refine takeH (i := 2) (some 6) rfl rfl (by kernel_rfl) (by kernel_rfl) (by kernel_rfl) (fun _ _ _ h => h) (zMove rfl (.tmp 0) rfl (ptr g) rfl) hS ?_
  simp only [Act.put, List.setIfInBounds_toArray, List.set_cons_succ, List.set_cons_zero]
  refine oneH (i := 3) (by kernel_rfl) ?_
  refine opCallA (some 7) rfl rfl rfl 44 _ (run_call en44 [.tmp 6] _ rfl [ptr g] rfl) ?_
  refine (HD.out _ (by rw [← HQ.out]; exact hS.2)).mono ?_
  rintro e w' ⟨rfl, rfl⟩
  refine ⟨_, rfl, hS, ?_⟩
  simp only [Act.put, List.setIfInBounds_toArray, List.set_cons_succ, List.set_cons_zero]
  refine oneH (i := 4) (by kernel_rfl) ?_
  refine opValZ (some 8) rfl rfl rfl (.bool false) _ (run_lss (.tmp 5) (.tmp 7) rfl i D rfl rfl false hdl') ?_
  refine ⟨hS, ?_⟩
  simp only [Act.put, List.setIfInBounds_toArray, List.set_cons_succ, List.set_cons_zero]
  refine wpAnyH_done (by kernel_rfl) ?_ _
  go_wp2_with fail
  have hS2 : Row ((w1.drewN 1).drewN 1) q 81 [.int .i64 (i : Nat), .int .i64 (p : Nat), u] ∧ Below q w ((w1.drewN 1).drewN 1) := ⟨R1.out.1, Go.Proofs.Ytdddfjkecmnggaa.Below.drewN (Go.Proofs.Ytdddfjkecmnggaa.Below.drewN R1.out.2.2 1) 1⟩
  have HZ : Hid (((w1.drewN 1).drewN 1).heap.size = q + 1) := R1.out.2.1
  refine wp_region_until (S := fun X => Row X q 81 [.int .i64 (i : Nat), .int .i64 (p : Nat), u] ∧ X.cell? ⟨g, 2, none⟩ = some hv ∧ X.cell? ⟨bh, i, none⟩ = some rv) 19 (by kernel_rfl) ?_
  show wpAnyU _ _ _ _ _ _ 20 (Array.replicate 20 false) _ _
  have HW2 : Hid ({ (w1.drewN 1) with drawn := (w1.drewN 1).drawn + 1 } = (w1.drewN 1).drewN 1) := rfl
  rw [HW2.out]
  generalize (w1.drewN 1).drewN 1 = W at hS2 HZ ⊢
  have hS3 : Row W q 81 [.int .i64 (i : Nat), .int .i64 (p : Nat), u] ∧ W.cell? ⟨g, 2, none⟩ = some hv ∧ W.cell? ⟨bh, i, none⟩ = some rv := ⟨hS2.1, by rw [hS2.2.cell (by show g < q; exact HLT.out.1)]; exact HROW.out.at 2 _ rfl, by rw [hS2.2.cell (by show bh < q; exact HLT.out.2)]; exact HCH.out⟩
  refine takeU (i := 0) (some 22) rfl rfl (by kernel_rfl) (by kernel_rfl) (by kernel_rfl) (by kernel_rfl) (by kernel_rfl) (fun _ _ _ h => h) (zMove rfl (.tmp 0) rfl (ptr g) rfl) hS3 ?_
  simp only [Act.put, List.setIfInBounds_toArray, List.set_cons_succ, List.set_cons_zero]
  refine takeU (i := 1) (some 23) rfl rfl (by kernel_rfl) (by kernel_rfl) (by kernel_rfl) (by kernel_rfl) (by kernel_rfl) (fun _ _ _ h => h) (zNil rfl (.tmp 22) rfl ⟨g, 0, none⟩ rfl) hS3 ?_
  simp only [Act.put, List.setIfInBounds_toArray, List.set_cons_succ, List.set_cons_zero]
  refine takeU (i := 2) (some 24) rfl rfl (by kernel_rfl) (by kernel_rfl) (by kernel_rfl) (by kernel_rfl) (by kernel_rfl) (fun _ _ _ h => h) (zField f56_h rfl (.tmp 23) rfl g 0 rfl) hS3 ?_
  simp only [Act.put, List.setIfInBounds_toArray, List.set_cons_succ, List.set_cons_zero]
  refine takeU (i := 3) (some 25) rfl rfl (by kernel_rfl) (by kernel_rfl) (by kernel_rfl) (by kernel_rfl) (by kernel_rfl) (fun _ _ _ h => h) (zLoad o53 rfl (.tmp 24) rfl g (0 + 2) rfl hv (fun X hX => hX.2.1)) hS3 ?_
  simp only [Act.put, List.setIfInBounds_toArray, List.set_cons_succ, List.set_cons_zero]
  refine takeU (i := 4) (some 26) rfl rfl (by kernel_rfl) (by kernel_rfl) (by kernel_rfl) (by kernel_rfl) (by kernel_rfl) (fun _ _ _ h => h) (zField f81_0 rfl (.tmp 3) rfl q 0 rfl) hS3 ?_
  simp only [Act.put, List.setIfInBounds_toArray, List.set_cons_succ, List.set_cons_zero]
  refine takeU (i := 5) (some 27) rfl rfl (by kernel_rfl) (by kernel_rfl) (by kernel_rfl) (by kernel_rfl) (by kernel_rfl) (fun _ _ _ h => h) (zLoad o3 rfl (.tmp 26) rfl q (0 + 0) rfl (.int .i64 (i : Nat)) (fun X hX => hX.1.at 0 _ rfl)) hS3 ?_
  simp only [Act.put, List.setIfInBounds_toArray, List.set_cons_succ, List.set_cons_zero]
  refine takeU (i := 6) (some 28) rfl rfl (by kernel_rfl) (by kernel_rfl) (by kernel_rfl) (by kernel_rfl) (by kernel_rfl) (fun _ _ _ h => h) (zMove rfl (.tmp 0) rfl (ptr g) rfl) hS3 ?_
  simp only [Act.put, List.setIfInBounds_toArray, List.set_cons_succ, List.set_cons_zero]
  refine takeU (i := 7) (some 29) rfl rfl (by kernel_rfl) (by kernel_rfl) (by kernel_rfl) (by kernel_rfl) (by kernel_rfl) (fun _ _ _ h => h) (zNil rfl (.tmp 28) rfl ⟨g, 0, none⟩ rfl) hS3 ?_
  simp only [Act.put, List.setIfInBounds_toArray, List.set_cons_succ, List.set_cons_zero]
  refine takeU (i := 8) (some 30) rfl rfl (by kernel_rfl) (by kernel_rfl) (by kernel_rfl) (by kernel_rfl) (by kernel_rfl) (fun _ _ _ h => h) (zField f56_h rfl (.tmp 29) rfl g 0 rfl) hS3 ?_
  simp only [Act.put, List.setIfInBounds_toArray, List.set_cons_succ, List.set_cons_zero]
  refine takeU (i := 9) (some 31) rfl rfl (by kernel_rfl) (by kernel_rfl) (by kernel_rfl) (by kernel_rfl) (by kernel_rfl) (fun _ _ _ h => h) (zLoad o53 rfl (.tmp 30) rfl g (0 + 2) rfl hv (fun X hX => hX.2.1)) hS3 ?_
  simp only [Act.put, List.setIfInBounds_toArray, List.set_cons_succ, List.set_cons_zero]
  refine takeU (i := 10) (some 32) rfl rfl (by kernel_rfl) (by kernel_rfl) (by kernel_rfl) (by kernel_rfl) (by kernel_rfl) (fun _ _ _ h => h) (zField f81_0 rfl (.tmp 3) rfl q 0 rfl) hS3 ?_
  simp only [Act.put, List.setIfInBounds_toArray, List.set_cons_succ, List.set_cons_zero]
  refine takeU (i := 11) (some 33) rfl rfl (by kernel_rfl) (by kernel_rfl) (by kernel_rfl) (by kernel_rfl) (by kernel_rfl) (fun _ _ _ h => h) (zLoad o3 rfl (.tmp 32) rfl q (0 + 0) rfl (.int .i64 (i : Nat)) (fun X hX => hX.1.at 0 _ rfl)) hS3 ?_
  simp only [Act.put, List.setIfInBounds_toArray, List.set_cons_succ, List.set_cons_zero]
  refine takeU (i := 12) (some 34) rfl rfl (by kernel_rfl) (by kernel_rfl) (by kernel_rfl) (by kernel_rfl) (by kernel_rfl) (fun _ _ _ h => h) (zIndex rfl (.tmp 31) (.tmp 33) rfl hv (.pointer (some ⟨bh, i, none⟩)) _ rfl rfl HIH.out) hS3 ?_
  simp only [Act.put, List.setIfInBounds_toArray, List.set_cons_succ, List.set_cons_zero]
  refine takeU (i := 13) (some 35) rfl rfl (by kernel_rfl) (by kernel_rfl) (by kernel_rfl) (by kernel_rfl) (by kernel_rfl) (fun _ _ _ h => h) (zLoad o57 rfl (.tmp 34) rfl bh i rfl rv (fun X hX => hX.2.2)) hS3 ?_
  simp only [Act.put, List.setIfInBounds_toArray, List.set_cons_succ, List.set_cons_zero]
  refine takeU (i := 14) (some 36) rfl rfl (by kernel_rfl) (by kernel_rfl) (by kernel_rfl) (by kernel_rfl) (by kernel_rfl) (fun _ _ _ h => h) (zField f81_2 rfl (.tmp 3) rfl q 0 rfl) hS3 ?_
  simp only [Act.put, List.setIfInBounds_toArray, List.set_cons_succ, List.set_cons_zero]
  refine takeU (i := 15) (some 37) rfl rfl (by kernel_rfl) (by kernel_rfl) (by kernel_rfl) (by kernel_rfl) (by kernel_rfl) (fun _ _ _ h => h) (zLoad o40 rfl (.tmp 36) rfl q (0 + 2) rfl u (fun X hX => hX.1.at 2 _ rfl)) hS3 ?_
  simp only [Act.put, List.setIfInBounds_toArray, List.set_cons_succ, List.set_cons_zero]
  refine oneU (i := 16) (by kernel_rfl) ?_
  refine opValZ (some 38) rfl rfl rfl (.slice (some ⟨W.heap.size, 0, none⟩) 1 1) _ (run_lit57 (.tmp 37) rfl u HUS.out rfl) ?_
  have HU3 : Hid (Row (W.alloc (.cells #[u] 40)) W.heap.size 40 [u]) := Row.new W 40 [u]
  have b3 : Below q w (W.alloc (.cells #[u] 40)) := hS2.2.alloc (by have := HZ.out; omega) _
  have z3 : (W.alloc (.cells #[u] 40)).heap.size = q + 2 := by rw [World.size_alloc, HZ.out]
  have q3 : Row (W.alloc (.cells #[u] 40)) q 81 [.int .i64 (i : Nat), .int .i64 (p : Nat), u] := by
    unfold Row
    rw [Below.heap_alloc W _ q (by rw [HZ.out]; omega)]
    exact hS2.1
  rw [HZ.out] at HU3 ⊢
  generalize W.alloc (.cells #[u] 40) = W3 at HU3 b3 z3 q3 ⊢
  have hS4 : Row W3 q 81 [.int .i64 (i : Nat), .int .i64 (p : Nat), u] ∧ W3.cell? ⟨g, 2, none⟩ = some hv ∧ W3.cell? ⟨bh, i, none⟩ = some rv := ⟨q3, by rw [b3.cell (by show g < q; exact HLT.out.1)]; exact HROW.out.at 2 _ rfl, by rw [b3.cell (by show bh < q; exact HLT.out.2)]; exact HCH.out⟩
  refine ⟨fun _ => hS4, ?_⟩
  simp only [Act.put, List.setIfInBounds_toArray, List.set_cons_succ, List.set_cons_zero]
  refine oneU (i := 17) (by kernel_rfl) ?_
  have hown3 : W3.ownsRow 0 40 1 rv (m.fl i).length xs := ownK HR1.out.1 fun b hb => b3.block b (by rw [HQ.out]; exact (HR1.out.1.lt b hb).2)
  obtain ⟨v5, W5, hr5, o5, g5, p5⟩ := app_one (w := W3) Try.underlying57 i40 57 rv _ xs hown3 (q + 1) u HV.out.2 HU3.out hp
  have HR5 : Hid ((Builtin.append_ #[57, 57] 57 #[rv, .slice (some ⟨q + 1, 0, none⟩) 1 1]).run Try.prog W3 = .ok v5 W5) := hr5
  have HO5 : Hid (W5.ownsRow 0 40 1 v5 ((m.fl i).length + 1) (xs ++ [u]) ∧ (v5.ownBlock = rv.ownBlock ∨ v5.ownBlock = some (q + 2))) := ⟨o5, by rw [← z3]; exact p5⟩
  have z5 : q + 2 ≤ W5.heap.size := by rw [← z3]; exact g5.size
  have hne : ∀ b, b < q + 2 → (∀ k, rv.ownBlock = some k → k ≠ b) → W5.heap[b]? = W3.heap[b]? := fun b hb hk => g5.block b (by omega) fun e => hk b e.symm rfl
  have HNQ : Hid (∀ k, rv.ownBlock = some k → k ≠ q ∧ k ≠ g ∧ k ≠ bh ∧ k < q) := fun k hk => by
    obtain ⟨h1, h2⟩ := HR3.out k hk
    have hq := HQ.out
    refine ⟨by omega, ?_, ?_, by omega⟩
    · rintro rfl
      rw [HCG.out] at h1
      simp at h1
      omega
    · rintro rfl
      rw [HBH.out.2] at h1
      simp at h1
      omega
  have hS5 : Row W5 q 81 [.int .i64 (i : Nat), .int .i64 (p : Nat), u] ∧ W5.cell? ⟨g, 2, none⟩ = some hv ∧ W5.cell? ⟨bh, i, none⟩ = some rv := by
    refine ⟨?_, ?_, ?_⟩
    · unfold Row
      rw [hne q (by omega) fun k hk => (HNQ.out k hk).1]
      exact hS4.1
    · rw [World.cell?_of_block (w := W3) (hne g (by have := HLT.out.1; omega) fun k hk => (HNQ.out k hk).2.1)]
      exact hS4.2.1
    · rw [World.cell?_of_block (w := W3) (hne bh (by have := HLT.out.2; omega) fun k hk => (HNQ.out k hk).2.2.1)]
      exact hS4.2.2
  have HG5 : Hid (W3.grownBy W5 rv.ownBlock) := g5
  clear hr5 o5 p5 g5
  refine opValZ (some 39) rfl rfl rfl v5 W5 (run_append (.tmp 35) (.tmp 38) rfl rv (.slice (some ⟨q + 1, 0, none⟩) 1 1) v5 rfl rfl HR5.out) ?_
  refine ⟨fun _ => hS5, ?_⟩
  simp only [Act.put, List.setIfInBounds_toArray, List.set_cons_succ, List.set_cons_zero]
  refine oneU (i := 18) (by kernel_rfl) ?_
  refine opValZ (some 40) rfl rfl rfl (.pointer (some ⟨bh, i, none⟩)) _ (run_idx (.tmp 25) (.tmp 27) rfl hv _ _ rfl rfl HIH.out) ?_
  refine ⟨fun _ => hS5, ?_⟩
  simp only [Act.put, List.setIfInBounds_toArray, List.set_cons_succ, List.set_cons_zero]
  refine oneU (i := 19) (by kernel_rfl) ?_
  have HC5 : Hid (Row W5 bh 57 cur) := by
    have := HCUR.out.1.later b3 HLT.out.2
    unfold Row at this
    show _ = _
    rw [hne bh (by have := HLT.out.2; omega) fun k hk => (HNQ.out k hk).2.2.1]
    exact this
  refine opSkipZ rfl rfl rfl _ (run_putRow s57 (.tmp 40) (.tmp 39) rfl bh i 57 cur rfl v5 rfl (own_cells HO5.out.1) HC5.out HCUR.out.2) ?_
  refine ⟨fun h => Bool.noConfusion (show true = false from h), ?_⟩
  refine wpAnyU_done (by kernel_rfl) ?_ _
  go_end0
  refine ⟨rfl, ?_⟩
  have hq := HQ.out
  have hblk : ∀ b, b < w.heap.size → b ≠ bh → (∀ k, rv.ownBlock = some k → k ≠ b) → (W5.setCell ⟨bh, i, none⟩ v5).heap[b]? = w.heap[b]? := fun b hb hn hk => by
    rw [Below.heap_setCell W5 ⟨bh, i, none⟩ v5 b hn, hne b (by omega) hk]
    exact b3.block b (by rw [hq]; exact hb)
  have hsz : (W5.setCell ⟨bh, i, none⟩ v5).heap.size = W5.heap.size := World.size_setCell W5 _ _
  have hch : Ch (fun b => (c b).1 = t) w (W5.setCell ⟨bh, i, none⟩ v5) := ((Ch.of_below (by rw [← hq]; exact b3)).grown HG5.out fun k hk => Or.inl (by rw [(HR3.out k hk).1])).setCell (Or.inl (by rw [HBH.out.2])) i v5
  obtain ⟨c2, hc2⟩ : ∃ c2 : Nat → Colour, c2 = fun b => if v5.ownBlock = some b then (t, 3 + i) else c b := ⟨_, rfl⟩
  have hcn : ∀ b, v5.ownBlock ≠ some b → c2 b = c b := fun b hb => by rw [hc2]; exact if_neg hb
  have hcy : ∀ b, v5.ownBlock = some b → c2 b = (t, 3 + i) := fun b hb => by rw [hc2]; exact if_pos hb
  have hold : ∀ b, b < w.heap.size → c2 b = c b := fun b hb => by
    by_cases e : v5.ownBlock = some b
    · rw [hcy b e]
      rcases HO5.out.2 with e' | e'
      · exact ((HR3.out b (by rw [← e']; exact e)).1).symm
      · rw [e] at e'
        injection e' with e'
        omega
    · exact hcn b e
  have hkept : KeptC (fun x => x.1 = 1 ∨ (x.1 = t ∧ x ≠ (t, 1) ∧ x ≠ (t, 3 + i))) w c (W5.setCell ⟨bh, i, none⟩ v5) c2 := ⟨fun b hb hK => ⟨hblk b hb (by
    rintro rfl
    rw [HBH.out.2] at hK
    rcases hK with h | h
    · exact ht1 h
    · exact h.2.1 rfl) (by
    rintro k hk rfl
    rw [(HR3.out k hk).1] at hK
    rcases hK with h | h
    · exact ht1 h
    · exact h.2.2 rfl), hold b hb⟩, by omega⟩
  have hlt5 : ∀ b, v5.ownBlock = some b → b < W5.heap.size := fun b hb => (HO5.out.1.lt b hb).2
  refine ⟨c2, hold, fun b hb => ?_, fun b hb => ?_, ?_, hch⟩
  · by_cases e : v5.ownBlock = some b
    · exact Or.inl (by rw [hcy b e])
    · rw [hcn b e]
      exact Or.inr (Or.inl (hfr b hb))
  · rw [hcn b fun e => by have := hlt5 b e; omega]
    exact hfr b (by omega)
  · have hown : W5.ownsRow 0 57 1 hv m.n us := ownK HO.out fun b hb => by
      have hbb : b = bh := by rw [HBH.out.1] at hb; injection hb with hb; exact hb.symm
      subst hbb
      rw [hne b (by have := HLT.out.2; omega) fun k hk => (HNQ.out k hk).2.2.1]
      exact b3.block b HLT.out.2
    obtain ⟨hown2, _⟩ := own_set hown bh HBH.out.1 i v5
    have hul : us.length = m.n := hasK HO.out
    refine HA.out.rowSet i _ (us.set i v5) hkept hown2 (fun b hb => by rw [hold b (HO.out.lt b hb).2]; exact HO3.out b hb) (fun j hj hji => ?_) fun _ => ?_
    · rw [List.getD_eq_getElem?_getD, List.getElem?_set_ne (Ne.symm hji), ← List.getD_eq_getElem?_getD]
      exact HO2.out j hj
    · rw [List.getD_eq_getElem?_getD, List.getElem?_set_self (by omega), Option.getD_some]
      have hKu : ∀ x, (fun x : Colour => x.1 = 1 ∨ (x.1 = t ∧ x ≠ (t, 1) ∧ x ≠ (t, 3 + i))) (1, x) := fun x => Or.inl rfl
      have hv5 : (W5.setCell ⟨bh, i, none⟩ v5).ownsRow 0 40 1 v5 ((m.fl i).length + 1) (xs ++ [u]) := ownK HO5.out.1 fun b hb => Below.heap_setCell W5 ⟨bh, i, none⟩ v5 b (by
        rintro rfl
        have h1 := hcy b hb
        rw [hold b (by have := HLT.out.2; omega), HBH.out.2] at h1
        simp at h1
        omega)
      have hxl : xs.length = (m.fl i).length := by have := HR1.out.1.1; omega
      refine ⟨⟨xs ++ [u], by rw [List.length_append]; exact hv5, fun k hk => ?_⟩, hcy⟩
      simp only [List.length_append, List.length_cons, List.length_nil] at hk
      by_cases hkp : k = (m.fl i).length
      · subst hkp
        rw [List.getD_eq_getElem?_getD, List.getElem?_append_right (by omega), List.getD_eq_getElem?_getD, List.getElem?_append_right (by omega)]
        simp only [hxl, Nat.sub_self, List.getElem?_cons_zero, Option.getD_some]
        exact HU.out.k hkept hKu
      · rw [List.getD_eq_getElem?_getD, List.getElem?_append_left (by omega), List.getD_eq_getElem?_getD, List.getElem?_append_left (by omega)]
        have := (HR1.out.2 k (by omega)).k hkept hKu
        simpa only [List.getD_eq_getElem?_getD] using this
/-- settle -/
theorem refSettle {w : World} {c : Nat → Colour} {t g : Nat} {vd vt hv wv : Value} {ds ts : List Int} {m : Pl} (h : RefAt w c t g vd vt hv wv ds ts m) (ht1 : t ≠ 1) (hfr : ∀ b, w.heap.size ≤ b → (c b).1 = t + 1) (i p : Nat) (hin : i < m.n) (hp : m.tape i = false → p < (m.fl i).length) (hp2 : (m.fl i).length ≤ 1000000) (u : Value) (s : List Nat) (hu : RO w c u s) :
    Calls Try.prog 51 #[ptr g, waitV i p u] w fun e w' => e = .returned noResult ∧ NextA w c t g vd vt hv wv ds ts { m with fl := upd m.fl i (lay (m.tape i) (m.fl i) p s) } w' := by
  have ht := h.shape.tape i hin
  unfold lay
  rcases Nat.lt_or_ge i ds.length with hi | hi
  · rw [decide_eq_false (by omega)] at ht
    rw [ht]
    exact refSettle_disk h ht1 hfr i p hi (hp ht) u s hu
  · rw [decide_eq_true hi] at ht
    rw [ht]
    exact refSettle_tape h ht1 hfr i p hi hin hp2 u s hu
end Go.Proofs.Ytdddfjkecmnggaa

/- The document's own plant: settle, walked. -/
import Derived.Test.YtdddfjkecmnggaaMF
import Derived.Test.YtdddfjkecmnggaaBootW
namespace Go.Proofs.Ytdddfjkecmnggaa
open Go.RowKit Go.Maps

/-- a wait as a value -/
def waitV (d p : Nat) (u : Value) : Value := .agg (([.int .i64 (d : Nat), .int .i64 (p : Nat), u] : List Value)).toArray
theorem en44 : EntersF 44 := Go.Proofs.enters_of Try.func44 (by kernel_rfl) rfl
theorem run_lss {w : World} {a : Act} {o : Oper} {t : Nat} (x y : Operand) (ho : o.op = .binOp .lss t x y t) (z z' : Int) (hx : a.eval x = .int .i64 z) (hy : a.eval y = .int .i64 z') (b : Bool) (hb : decide (z < z') = b) : (execOp a.eval o).run Try.prog w = .ok (.value (.bool b)) w := by
  subst hb
  simp only [execOp, ho, hx, hy]
  by_cases h : z < z'
  · simp [go_sem, h]
  · simp [go_sem, h]
theorem run_idx {w : World} {a : Act} {o : Oper} {t : TypeId} (x i : Operand) (ho : o.op = .indexAddr t x i) (v p I : Value) (hx : a.eval x = v) (hi : a.eval i = I) (hr : ∀ w', (Instr.indexAt t v I).run Try.prog w' = .ok p w') : (execOp a.eval o).run Try.prog w = .ok (.value p) w := by
  simp only [execOp, ho, hx, hi, hr, Sem.run_bind, Sem.run_pure, Result.andThen_ok]
theorem hasK {w : World} {v : Value} {n : Nat} {us : List Value} (h : w.ownsRow 0 57 1 v n us) : us.length = n := by have := h.1; omega
set_option maxHeartbeats 4000000 in
set_option maxRecDepth 100000 in
theorem refSettle_disk {w : World} {c : Nat → Colour} {t g : Nat} {vd vt hv wv : Value} {ds ts : List Int} {m : Pl} (h : RefAt w c t g vd vt hv wv ds ts m) (ht1 : t ≠ 1) (hfr : ∀ b, w.heap.size ≤ b → (c b).1 = t + 1) (i p : Nat) (hi : i < ds.length) (hp : p < (m.fl i).length) (u : Value) (s : List Nat) (hu : RO w c u s) :
    Calls Try.prog 51 #[ptr g, waitV i p u] w fun e w' => e = .returned noResult ∧ NextA w c t g vd vt hv wv ds ts { m with fl := upd m.fl i ((m.fl i).set p s) } w' := by
  have hin : i < m.n := by rw [h.shape.n]; omega
  have HA : Hid (RefAt w c t g vd vt hv wv ds ts m) := h
  have HU : Hid (RO w c u s) := hu
  obtain ⟨⟨us, ho1, ho2⟩, ho3⟩ := h.has
  obtain ⟨⟨xs, hr1, hr2⟩, hr3⟩ := ho2 i hin
  obtain ⟨left, hleft, hrow⟩ := h.row
  obtain ⟨bh, hbh, hih, hch⟩ := own_index ho1 Try.underlying53 s57 i hin
  obtain ⟨br, hbr, hir, hcr⟩ := own_index hr1 Try.underlying57 s40 p hp
  obtain ⟨cur, hcur, hcl⟩ := own_row hr1 br hbr
  have hcb := ho3 bh hbh
  have hcrb := hr3 br hbr
  rw [Nat.mul_one] at hih hir
  have HO : Hid (w.ownsRow 0 57 1 hv m.n us) := ho1
  have HO2 : Hid (∀ j, j < m.n → RowOf w c (t, 3 + j) (us.getD j undef) (m.fl j)) := ho2
  have HO3 : Hid (∀ b, hv.ownBlock = some b → c b = (t, 1)) := ho3
  have HR1 : Hid (w.ownsRow 0 40 1 (us.getD i undef) (m.fl i).length xs ∧ ∀ q, q < (m.fl i).length → RO w c (xs.getD q undef) ((m.fl i).getD q [])) := ⟨hr1, hr2⟩
  have HR3 : Hid (∀ b, (us.getD i undef).ownBlock = some b → c b = (t, 3 + i)) := hr3
  have HBR : Hid ((us.getD i undef).ownBlock = some br ∧ c br = (t, 3 + i)) := ⟨hbr, hcrb⟩
  have HIH : Hid (∀ w', (Instr.indexAt 53 hv (.int .i64 (i : Nat))).run Try.prog w' = .ok (.pointer (some ⟨bh, i, none⟩)) w') := hih
  have HIR : Hid (∀ w', (Instr.indexAt 57 (us.getD i undef) (.int .i64 (p : Nat))).run Try.prog w' = .ok (.pointer (some ⟨br, p, none⟩)) w') := hir
  have HCH : Hid (w.cell? ⟨bh, i, none⟩ = some (us.getD i undef)) := by have := hch 0 (by decide); rw [Nat.add_zero, Nat.mul_one] at this; show _ = _; rw [this]; have hl := hasK ho1; simp [show i < us.length by omega]
  have HCUR : Hid (Row w br 40 cur ∧ p < cur.length) := ⟨hcur, by omega⟩
  have HNE : Hid (br ≠ bh ∧ br ≠ g) := ⟨by rintro rfl; rw [hcb] at hcrb; simp at hcrb; omega, by rintro rfl; rw [h.cg] at hcrb; simp at hcrb; omega⟩
  have HLT : Hid (g < w.heap.size ∧ bh < w.heap.size ∧ br < w.heap.size) := ⟨hrow.lt, (ho1.lt bh hbh).2, (hr1.lt br hbr).2⟩
  have HROW : Hid (Row w g 56 (rcells vd vt hv wv (!m.on) (decide (0 ≤ m.fuse)) left (m.steps : Nat) m.clock)) := hrow
  have HD : Hid (∀ W, Below w.heap.size w W → Calls Try.prog 44 #[ptr g] W fun e w' => e = .returned (.int .i64 (ds.length : Nat)) ∧ W = w') := fun W hW => refDisks_any (h.same (Same.below hW) hW.size).row (h.disks.same (t := t) (Same.below hW) hW.size).1
  have hdl : (i : Int) < (ds.length : Int) := by omega
  have hdl' : decide ((i : Int) < (ds.length : Int)) = true := decide_eq_true hdl
  obtain ⟨pu, nu, cu, hus⟩ := hu.slices
  have HV : Hid (u.cells = #[u] ∧ u.oneCell' = true) := by rw [hus]; exact ⟨rfl, rfl⟩
  generalize hrv : us.getD i undef = rv at HR1 HR3 HBR HIR HCH
  have HRV : Hid (us.getD i undef = rv) := hrv
  generalize hDL : ds.length = D at HD hdl hdl'
  obtain ⟨q, hq⟩ : ∃ q, q = w.heap.size := ⟨_, rfl⟩
  have HQ : Hid (q = w.heap.size) := hq
  rw [← hq] at HLT
  clear h hu ho1 ho2 ho3 hr1 hr2 hr3 hleft hrow hbh hih hch hbr hir hcr hcur hcl hcb hcrb hus hrv hDL hi
  go_enter Try.func51, Try.ntmps51
  go_upto_region 0 with fail
  refine wp_region_lit ?_
  refine wpList_box (.tmp 1) rfl rfl [.int .i64 (i : Nat), .int .i64 (p : Nat), u] rfl ?_
  rw [← hq]
  intro w1 r1 s1 b1
  refine wpList_nil ?_
  have R1 : Hid (Row w1 q 81 [.int .i64 (i : Nat), .int .i64 (p : Nat), u] ∧ w1.heap.size = q + 1 ∧ Below q w w1) := ⟨r1, s1, b1⟩
  clear r1 s1 b1 hq
  go_wp2_with fail
  refine wp_region_held (S := fun X => Row X q 81 [.int .i64 (i : Nat), .int .i64 (p : Nat), u] ∧ Below q w X) (by kernel_rfl) ?_
  show wpAnyH _ _ _ _ _ 5 (Array.replicate 5 false) _ _
  have hS : Row { w1 with drawn := w1.drawn + 1 } q 81 [.int .i64 (i : Nat), .int .i64 (p : Nat), u] ∧ Below q w { w1 with drawn := w1.drawn + 1 } := ⟨R1.out.1, Go.Proofs.Ytdddfjkecmnggaa.Below.drewN R1.out.2.2 1⟩
  have HW1 : Hid ({ w1 with drawn := w1.drawn + 1 } = w1.drewN 1) := rfl
  rw [HW1.out] at hS ⊢
  refine takeH (i := 0) (some 4) rfl rfl (by kernel_rfl) (by kernel_rfl) (by kernel_rfl) (fun _ _ _ h => h) (zField f81_0 rfl (.tmp 3) rfl q 0 rfl) hS ?_
  simp only [Act.put, List.setIfInBounds_toArray, List.set_cons_succ, List.set_cons_zero]
  refine takeH (i := 1) (some 5) rfl rfl (by kernel_rfl) (by kernel_rfl) (by kernel_rfl) (fun _ _ _ h => h) (zLoad o3 rfl (.tmp 4) rfl q (0 + 0) rfl (.int .i64 (i : Nat)) (fun X hX => hX.1.at 0 _ rfl)) hS ?_
  simp only [Act.put, List.setIfInBounds_toArray, List.set_cons_succ, List.set_cons_zero]
  refine takeH (i := 2) (some 6) rfl rfl (by kernel_rfl) (by kernel_rfl) (by kernel_rfl) (fun _ _ _ h => h) (zMove rfl (.tmp 0) rfl (ptr g) rfl) hS ?_
  simp only [Act.put, List.setIfInBounds_toArray, List.set_cons_succ, List.set_cons_zero]
  refine oneH (i := 3) (by kernel_rfl) ?_
  refine opCallA (some 7) rfl rfl rfl 44 _ (run_call en44 [.tmp 6] _ rfl [ptr g] rfl) ?_
  refine (HD.out _ (by rw [← HQ.out]; exact hS.2)).mono ?_
  rintro e w' ⟨rfl, rfl⟩
  refine ⟨_, rfl, hS, ?_⟩
  simp only [Act.put, List.setIfInBounds_toArray, List.set_cons_succ, List.set_cons_zero]
  refine oneH (i := 4) (by kernel_rfl) ?_
  refine opValZ (some 8) rfl rfl rfl (.bool true) _ (run_lss (.tmp 5) (.tmp 7) rfl i D rfl rfl true hdl') ?_
  refine ⟨hS, ?_⟩
  simp only [Act.put, List.setIfInBounds_toArray, List.set_cons_succ, List.set_cons_zero]
  refine wpAnyH_done (by kernel_rfl) ?_ _
  go_wp2_with fail
  refine wp_region_until (S := fun X => Row X q 81 [.int .i64 (i : Nat), .int .i64 (p : Nat), u] ∧ Below q w X) 13 (by kernel_rfl) ?_
  show wpAnyU _ _ _ _ _ _ 14 (Array.replicate 14 false) _ _
  have hS2 : Row ((w1.drewN 1).drewN 1) q 81 [.int .i64 (i : Nat), .int .i64 (p : Nat), u] ∧ Below q w ((w1.drewN 1).drewN 1) := ⟨R1.out.1, Go.Proofs.Ytdddfjkecmnggaa.Below.drewN (Go.Proofs.Ytdddfjkecmnggaa.Below.drewN R1.out.2.2 1) 1⟩
  have HW2 : Hid ({ (w1.drewN 1) with drawn := (w1.drewN 1).drawn + 1 } = (w1.drewN 1).drewN 1) := rfl
  rw [HW2.out]
  refine takeU (i := 0) (some 9) rfl rfl (by kernel_rfl) (by kernel_rfl) (by kernel_rfl) (by kernel_rfl) (by kernel_rfl) (fun _ _ _ h => h) (zMove rfl (.tmp 0) rfl (ptr g) rfl) hS2 ?_
  simp only [Act.put, List.setIfInBounds_toArray, List.set_cons_succ, List.set_cons_zero]
  refine takeU (i := 1) (some 10) rfl rfl (by kernel_rfl) (by kernel_rfl) (by kernel_rfl) (by kernel_rfl) (by kernel_rfl) (fun _ _ _ h => h) (zNil rfl (.tmp 9) rfl ⟨g, 0, none⟩ rfl) hS2 ?_
  simp only [Act.put, List.setIfInBounds_toArray, List.set_cons_succ, List.set_cons_zero]
  refine takeU (i := 2) (some 11) rfl rfl (by kernel_rfl) (by kernel_rfl) (by kernel_rfl) (by kernel_rfl) (by kernel_rfl) (fun _ _ _ h => h) (zField f56_h rfl (.tmp 10) rfl g 0 rfl) hS2 ?_
  simp only [Act.put, List.setIfInBounds_toArray, List.set_cons_succ, List.set_cons_zero]
  refine takeU (i := 3) (some 12) rfl rfl (by kernel_rfl) (by kernel_rfl) (by kernel_rfl) (by kernel_rfl) (by kernel_rfl) (fun _ _ _ h => h) (zLoad o53 rfl (.tmp 11) rfl g (0 + 2) rfl hv (fun X hX => by rw [hX.2.cell (by show g < q; exact HLT.out.1)]; exact HROW.out.at 2 _ rfl)) hS2 ?_
  simp only [Act.put, List.setIfInBounds_toArray, List.set_cons_succ, List.set_cons_zero]
  refine takeU (i := 4) (some 13) rfl rfl (by kernel_rfl) (by kernel_rfl) (by kernel_rfl) (by kernel_rfl) (by kernel_rfl) (fun _ _ _ h => h) (zField f81_0 rfl (.tmp 3) rfl q 0 rfl) hS2 ?_
  simp only [Act.put, List.setIfInBounds_toArray, List.set_cons_succ, List.set_cons_zero]
  refine takeU (i := 5) (some 14) rfl rfl (by kernel_rfl) (by kernel_rfl) (by kernel_rfl) (by kernel_rfl) (by kernel_rfl) (fun _ _ _ h => h) (zLoad o3 rfl (.tmp 13) rfl q (0 + 0) rfl (.int .i64 (i : Nat)) (fun X hX => hX.1.at 0 _ rfl)) hS2 ?_
  simp only [Act.put, List.setIfInBounds_toArray, List.set_cons_succ, List.set_cons_zero]
  refine takeU (i := 6) (some 15) rfl rfl (by kernel_rfl) (by kernel_rfl) (by kernel_rfl) (by kernel_rfl) (by kernel_rfl) (fun _ _ _ h => h) (zIndex rfl (.tmp 12) (.tmp 14) rfl hv (.pointer (some ⟨bh, i, none⟩)) _ rfl rfl HIH.out) hS2 ?_
  simp only [Act.put, List.setIfInBounds_toArray, List.set_cons_succ, List.set_cons_zero]
  refine takeU (i := 7) (some 16) rfl rfl (by kernel_rfl) (by kernel_rfl) (by kernel_rfl) (by kernel_rfl) (by kernel_rfl) (fun _ _ _ h => h) (zLoad o57 rfl (.tmp 15) rfl bh i rfl rv (fun X hX => by rw [hX.2.cell (by show bh < q; exact HLT.out.2.1)]; exact HCH.out)) hS2 ?_
  simp only [Act.put, List.setIfInBounds_toArray, List.set_cons_succ, List.set_cons_zero]
  refine takeU (i := 8) (some 17) rfl rfl (by kernel_rfl) (by kernel_rfl) (by kernel_rfl) (by kernel_rfl) (by kernel_rfl) (fun _ _ _ h => h) (zField f81_1 rfl (.tmp 3) rfl q 0 rfl) hS2 ?_
  simp only [Act.put, List.setIfInBounds_toArray, List.set_cons_succ, List.set_cons_zero]
  refine takeU (i := 9) (some 18) rfl rfl (by kernel_rfl) (by kernel_rfl) (by kernel_rfl) (by kernel_rfl) (by kernel_rfl) (fun _ _ _ h => h) (zLoad o3 rfl (.tmp 17) rfl q (0 + 1) rfl (.int .i64 (p : Nat)) (fun X hX => hX.1.at 1 _ rfl)) hS2 ?_
  simp only [Act.put, List.setIfInBounds_toArray, List.set_cons_succ, List.set_cons_zero]
  refine takeU (i := 10) (some 19) rfl rfl (by kernel_rfl) (by kernel_rfl) (by kernel_rfl) (by kernel_rfl) (by kernel_rfl) (fun _ _ _ h => h) (zField f81_2 rfl (.tmp 3) rfl q 0 rfl) hS2 ?_
  simp only [Act.put, List.setIfInBounds_toArray, List.set_cons_succ, List.set_cons_zero]
  refine takeU (i := 11) (some 20) rfl rfl (by kernel_rfl) (by kernel_rfl) (by kernel_rfl) (by kernel_rfl) (by kernel_rfl) (fun _ _ _ h => h) (zLoad o40 rfl (.tmp 19) rfl q (0 + 2) rfl u (fun X hX => hX.1.at 2 _ rfl)) hS2 ?_
  simp only [Act.put, List.setIfInBounds_toArray, List.set_cons_succ, List.set_cons_zero]
  refine oneU (i := 12) (by kernel_rfl) ?_
  refine opValZ (some 21) rfl rfl rfl (.pointer (some ⟨br, p, none⟩)) _ (run_idx (.tmp 16) (.tmp 18) rfl rv _ _ rfl rfl HIR.out) ?_
  refine ⟨fun _ => hS2, ?_⟩
  simp only [Act.put, List.setIfInBounds_toArray, List.set_cons_succ, List.set_cons_zero]
  refine oneU (i := 13) (by kernel_rfl) ?_
  refine opSkipZ rfl rfl rfl _ (run_putRow s40 (.tmp 21) (.tmp 20) rfl br p 40 cur rfl u rfl HV.out (HCUR.out.1.later hS2.2 HLT.out.2.2) HCUR.out.2) ?_
  refine ⟨fun h => Bool.noConfusion (show true = false from h), ?_⟩
  refine wpAnyU_done (by kernel_rfl) ?_ _
  go_end0
  refine ⟨rfl, ?_⟩
  have b2 := hS2.2
  have z2 : ((w1.drewN 1).drewN 1).heap.size = q + 1 := R1.out.2.1
  generalize (w1.drewN 1).drewN 1 = W at b2 z2 ⊢
  have hq := HQ.out
  have hown : W.ownsRow 0 40 1 rv (m.fl i).length xs := ownK HR1.out.1 fun b hb => b2.block b (by rw [hq]; exact (HR1.out.1.lt b hb).2)
  obtain ⟨hown2, hg2⟩ := own_set hown br HBR.out.1 p u
  have hch : Ch (fun b => (c b).1 = t) w (W.setCell ⟨br, p, none⟩ u) := (Ch.of_below (by rw [← hq]; exact b2)).setCell (Or.inl (by rw [HBR.out.2])) p u
  have hblk : ∀ b, b < w.heap.size → b ≠ br → (W.setCell ⟨br, p, none⟩ u).heap[b]? = w.heap[b]? := fun b hb hne => by
    rw [Below.heap_setCell W ⟨br, p, none⟩ u b hne]
    exact b2.block b (by rw [hq]; exact hb)
  have hsz : (W.setCell ⟨br, p, none⟩ u).heap.size = q + 1 := by rw [← z2]; exact World.size_setCell W _ _
  have hkept : KeptC (fun x => x.1 = 1 ∨ (x.1 = t ∧ x ≠ (t, 1) ∧ x ≠ (t, 3 + i))) w c (W.setCell ⟨br, p, none⟩ u) c := ⟨fun b hb hK => ⟨hblk b hb (by
    rintro rfl
    rw [HBR.out.2] at hK
    rcases hK with h | h
    · exact ht1 h
    · exact h.2.2 rfl), rfl⟩, by omega⟩
  refine ⟨c, fun _ _ => rfl, fun b hb => Or.inr (Or.inl (hfr b hb)), fun b hb => hfr b (by omega), ?_, hch⟩
  have hbh : ∀ b, hv.ownBlock = some b → (W.setCell ⟨br, p, none⟩ u).heap[b]? = w.heap[b]? := fun b hb => hblk b (HO.out.lt b hb).2 (by
    rintro rfl
    have := HO3.out b hb
    rw [HBR.out.2] at this
    simp at this
    omega)
  refine HA.out.rowSet i _ us hkept (ownK HO.out hbh) HO3.out (fun j hj _ => HO2.out j hj) fun _ => ?_
  rw [HRV.out]
  have hKu : ∀ x, (fun x : Colour => x.1 = 1 ∨ (x.1 = t ∧ x ≠ (t, 1) ∧ x ≠ (t, 3 + i))) (1, x) := fun x => Or.inl rfl
  refine ⟨⟨xs.set p u, by rw [List.length_set]; exact hown2, fun k hk => ?_⟩, HR3.out⟩
  rw [List.length_set] at hk
  have hxl : xs.length = (m.fl i).length := by have := HR1.out.1.1; omega
  by_cases hkp : k = p
  · subst hkp
    simp only [List.getD_eq_getElem?_getD, List.getElem?_set_self (show k < xs.length by omega), List.getElem?_set_self hk, Option.getD_some]
    exact HU.out.k hkept hKu
  · simp only [List.getD_eq_getElem?_getD, List.getElem?_set_ne (show p ≠ k by omega)]
    have := (HR1.out.2 k hk).k hkept hKu
    simpa only [List.getD_eq_getElem?_getD] using this
end Go.Proofs.Ytdddfjkecmnggaa

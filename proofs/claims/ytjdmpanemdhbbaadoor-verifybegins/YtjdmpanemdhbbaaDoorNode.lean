/- The walks of tree.Node and of the document's Node. -/
import Derived.Test.YtjdmpanemdhbbaaDoorLeaf
namespace Go.Proofs.YtjdmpanemdhbbaaDoor
open Go.RowKit

theorem agg47 : AggT 62 65 := ⟨Or.inr ⟨_, _, Tryd.underlying62⟩, by kernel_rfl⟩
theorem zero47 : (Tryd.prog.info? 62).map (·.zero) = some (some (.agg (zerosU8 65).toArray)) := by kernel_rfl
/-- the text of a node ahead of the copies -/
def text0 : List Nat := 1 :: List.replicate 64 0
theorem run_text0 (w : World) : (Instr.build 62 #[(0, .int .u8 1)]).run Tryd.prog w = .ok (.agg (bcells text0).toArray) w := by kernel_rfl
theorem slice47_from (g r : Nat) (hr : r < 65) (W : World) : (Instr.sliceAt 62 (.pointer (some ⟨g, 0, none⟩)) (some (.int .i64 (r : Nat))) none none).run Tryd.prog W = .ok (.slice (some ⟨g, r, none⟩) (65 - r) (65 - r)) W := by
  obtain ⟨i, hi, hsz⟩ := Option.map_eq_some_iff.1 info5
  have h1 : (r : Int) ≤ 65 := by omega
  have h2 : ¬ 65 = r := by omega
  have h3 : r ≤ 65 := by omega
  simp [Instr.sliceAt, run_underlying Tryd.underlying62, Instr.sureAddr, Instr.sliceBounds, Instr.sliceBound, asIntOf, sizeOf, typeInfo, hi, hsz, h2, h3, add_none]
theorem slice47_all (g : Nat) (W : World) : (Instr.sliceAt 62 (.pointer (some ⟨g, 0, none⟩)) none none none).run Tryd.prog W = .ok (.slice (some ⟨g, 0, none⟩) 65 65) W := by
  obtain ⟨i, hi, _⟩ := Option.map_eq_some_iff.1 info5
  simp [Instr.sliceAt, run_underlying Tryd.underlying62, Instr.sureAddr, Instr.sliceBounds, sizeOf, typeInfo, hi, add_none]
section
variable {w : World} {ops : Array Oper} {rest : List Oper} {o : Oper} {a : Act} {Q : Exit → Act → World → Prop}
theorem rx_from47 (x y : Operand) (ho : o.op = .slice 62 x (some y) none none) (g r : Nat) (hr : r < 65) (hx : a.eval x = .pointer (some ⟨g, 0, none⟩)) (R : Int) (hy : a.eval y = .int .i64 R) (hR : R = (r : Int)) : (execOp a.eval o).run Tryd.prog w = .ok (.value (.slice (some ⟨g, r, none⟩) (65 - r) (65 - r))) w := by
  subst hR
  simp [execOp, ho, hx, hy, slice47_from g r hr]
theorem rx_all47 (x : Operand) (ho : o.op = .slice 62 x none none none) (g : Nat) (hx : a.eval x = .pointer (some ⟨g, 0, none⟩)) : (execOp a.eval o).run Tryd.prog w = .ok (.value (.slice (some ⟨g, 0, none⟩) 65 65)) w := by
  simp [execOp, ho, hx, slice47_all]
theorem wl_text0 (hgd : Region.wanted o (yielded ops a.tmps) = true) (ho : o.op = .build 62 #[(0, .const (.int .u8 1))]) (h : wpList Tryd.prog ops Q rest (a.put o.dst (.agg (bcells text0).toArray)) w) : wpList Tryd.prog ops Q (o :: rest) a w :=
  wl hgd _ w (by simp [execOp, ho, Act.eval, run_text0]) h
/-- a hash copied into the text -/
theorem rx_copy (d s : Operand) (ho : o.op = .call { callee := .builtin .copy, args := #[d, s], argTypes := #[57, 57] }) (g off n b : Nat) (hd : a.eval d = .slice (some ⟨g, off, none⟩) n n) (hs : a.eval s = .slice (some ⟨b, 0, none⟩) 32 32)
    (T : List Nat) (hT : Row w g 62 (bcells T)) (h : List Nat) (hh : HIs w b h) (hn : 32 ≤ n) (hfit : off + 32 ≤ T.length) : (execOp a.eval o).run Tryd.prog w = .ok (.value (goInt 32)) (w.setRow g (bcells (splice T off h)).toArray) := by
  have hl : (bcells h).length = 32 := hh.len
  have hrun := run_copy_row (P := Tryd.prog) w 57 57 o.type 5 g off n n ⟨b, 0, none⟩ 32 32 (bcells T).toArray 62 (bcells h) Tryd.underlying57 info5 hT (by rw [hl]; exact (Nat.min_eq_left hn).symm) (fun j v hv => by
    have hj : j < h.length := by
      have := (List.getElem?_eq_some_iff.1 hv).1
      rwa [bcells_length] at this
    rw [add_none, Nat.zero_add, hh.2.at j _ (bcells_at h j hj), ← hv, bcells_at h j hj]) (by rw [hl]; simpa [bcells_length] using hfit) (bcells_one h)
  have e : ((bcells T).toArray.toList.take off ++ (bcells h ++ (bcells T).toArray.toList.drop (off + (bcells h).length))) = bcells (splice T off h) := by
    unfold splice
    simp [bcells]
  rw [List.append_assoc, e, hl] at hrun
  simp only [execOp, ho, resolve, invoke, builtin, Sem.run_bind, Sem.run_pure, Result.andThen_ok, List.map_toArray, List.map_cons, List.map_nil, hd, hs, hrun]
  rfl
end
theorem text_done (l r : List Nat) (hl : l.length = 32) (hr : r.length = 32) : splice (splice text0 1 l) 33 r = 1 :: (l ++ r) := by
  unfold splice text0
  have e1 : (1 :: List.replicate 64 0 : List Nat).take 1 = [1] := rfl
  have e2 : (1 :: List.replicate 64 0 : List Nat).drop (1 + l.length) = List.replicate 32 0 := by rw [hl]; rfl
  rw [e1, e2, hr]
  have e3 : ([1] ++ (l ++ List.replicate 32 0) : List Nat).take 33 = [1] ++ l := by
    rw [← List.append_assoc, List.take_append_of_le_length (by simp [hl]), List.take_of_length_le (by simp [hl])]
  have e4 : ([1] ++ (l ++ List.replicate 32 0) : List Nat).drop (33 + 32) = [] := by
    rw [List.drop_of_length_le (by simp [hl])]
  rw [e3, e4]
  simp
theorem text1_length (l : List Nat) (hl : l.length = 32) : (splice text0 1 l).length = 65 := by rw [length_splice _ _ _ (by rw [hl]; decide)]; rfl

set_option maxHeartbeats 1000000 in
set_option maxRecDepth 100000 in
theorem node_any (l r : List Nat) (hl : IsH l) (hr : IsH r) (w : World) (ht : TabIn w) (hst : StartIn w) :
    Calls Tryd.prog 22 #[hv l, hv r] w fun e w' => e = .returned (hv (Tree.node l r)) ∧ Below w.heap.size w w' := by
  obtain ⟨B, hB⟩ : ∃ B, B = w.heap.size := ⟨_, rfl⟩
  go_enter Tryd.func22, Tryd.ntmps22
  go_upto_region 0 with fail
  refine wp_region_lit ?_
  refine wl_box (.tmp 0) rfl rfl l hl rfl ?_
  rw [← hB]
  intro w1 r1 s1 b1
  refine wl_box (.tmp 1) rfl rfl r hr rfl ?_
  rw [s1]
  intro w2 r2 s2 b2
  refine wl_alloc rfl rfl ?_
  rw [s2]
  intro w3 r3 s3 b3
  refine wpList_nil ?_
  have hR3 : HIs w3 B l ∧ HIs w3 (B + 1) r ∧ HIs w3 (B + 1 + 1) noH ∧ w3.heap.size = B + 3 ∧ Below B w w3 := ⟨(r1.later b2 (by omega)).later b3 (by omega), r2.later b3 (by omega), r3, s3, (b1.trans (b2.mono (by omega))).trans (b3.mono (by omega))⟩
  clear r1 s1 b1 r2 s2 b2 r3 s3 b3
  go_upto_region 1 with fail
  refine wp_region_lit ?_
  refine wl_text0 rfl rfl ?_
  refine wpList_alloc' (zerosU8 65) zero47 rfl rfl ?_
  rw [hR3.2.2.2.1]
  intro w4 r4 s4 b4
  have hlt0 : (bcells text0).length = 65 := rfl
  refine wpList_store0 agg47 (.tmp 5) (.tmp 6) rfl rfl rfl (B + 3) 0 62 rfl (bcells text0) (zerosU8 65) rfl hlt0 r4 (by decide) (bcells_one _) ?_
  refine wpList_nil ?_
  rw [splice_all _ _ (by rw [hlt0]; rfl)]
  have hR5 : HIs (w4.setRow (B + 3) (bcells text0).toArray) B l ∧ HIs (w4.setRow (B + 3) (bcells text0).toArray) (B + 1) r ∧ HIs (w4.setRow (B + 3) (bcells text0).toArray) (B + 1 + 1) noH ∧ Row (w4.setRow (B + 3) (bcells text0).toArray) (B + 3) 62 (bcells text0) ∧ Below B w (w4.setRow (B + 3) (bcells text0).toArray) :=
    ⟨⟨hl, (hR3.1.2.later b4 (by omega)).setRow_other (by omega) _⟩, ⟨hr, (hR3.2.1.2.later b4 (by omega)).setRow_other (by omega) _⟩, ⟨noH_isH, (hR3.2.2.1.2.later b4 (by omega)).setRow_other (by omega) _⟩, r4.setRow _, below_setRow (hR3.2.2.2.2.trans (b4.mono (by omega))) (by omega) _⟩
  generalize w4.setRow (B + 3) (bcells text0).toArray = w5 at hR5 ⊢
  have R5 : Hid (HIs w5 B l ∧ HIs w5 (B + 1) r ∧ HIs w5 (B + 1 + 1) noH ∧ Row w5 (B + 3) 62 (bcells text0) ∧ Below B w w5) := hR5
  have HB : Hid (B = w.heap.size) := hB
  clear hR5 hR3 r4 s4 b4 hB hlt0
  go_wp2_with fail
  refine wp_region_held (S := fun _ => True) (by kernel_rfl) ?_
  show wpAnyH _ _ _ _ _ 3 (Array.replicate 3 false) _ _
  refine takeH (i := 0) (some 7) rfl rfl (by kernel_rfl) (by kernel_rfl) (by kernel_rfl) (fun _ _ _ h => h) (yRun rfl _ fun _ _ => rx_from47 (.tmp 5) (.const (.int .i64 1)) rfl (B + 3) 1 (by decide) rfl _ rfl rfl) trivial ?_
  simp only [Act.put, List.setIfInBounds_toArray, List.set_cons_succ, List.set_cons_zero]
  refine takeH (i := 1) (some 8) rfl rfl (by kernel_rfl) (by kernel_rfl) (by kernel_rfl) (fun _ _ _ h => h) (yRun rfl _ fun _ _ => rx_bytes (.tmp 2) rfl B rfl) trivial ?_
  simp only [Act.put, List.setIfInBounds_toArray, List.set_cons_succ, List.set_cons_zero]
  refine oneH (i := 2) (by kernel_rfl) ?_
  have D5 : HIs { w5 with drawn := w5.drawn + 1 } B l ∧ Row { w5 with drawn := w5.drawn + 1 } (B + 3) 62 (bcells text0) := ⟨R5.out.1, R5.out.2.2.2.1⟩
  refine opVal (some 9) rfl rfl rfl _ _ (rx_copy (.tmp 7) (.tmp 8) rfl (B + 3) 1 64 B rfl rfl text0 D5.2 l D5.1 (by decide) (by decide)) ?_
  refine ⟨trivial, ?_⟩
  simp only [Act.put, List.setIfInBounds_toArray, List.set_cons_succ, List.set_cons_zero]
  refine wpAnyH_done (by kernel_rfl) ?_ _
  have R6 : Hid (HIs (World.setRow { w5 with drawn := w5.drawn + 1 } (B + 3) (bcells (splice text0 1 l)).toArray) (B + 1) r ∧ HIs (World.setRow { w5 with drawn := w5.drawn + 1 } (B + 3) (bcells (splice text0 1 l)).toArray) (B + 1 + 1) noH ∧ Row (World.setRow { w5 with drawn := w5.drawn + 1 } (B + 3) (bcells (splice text0 1 l)).toArray) (B + 3) 62 (bcells (splice text0 1 l)) ∧ Below B w (World.setRow { w5 with drawn := w5.drawn + 1 } (B + 3) (bcells (splice text0 1 l)).toArray)) :=
    ⟨⟨hr, Row.setRow_other (w := { w5 with drawn := w5.drawn + 1 }) R5.out.2.1.2 (by omega) _⟩, ⟨noH_isH, Row.setRow_other (w := { w5 with drawn := w5.drawn + 1 }) R5.out.2.2.1.2 (by omega) _⟩, D5.2.setRow _, below_setRow (w := { w5 with drawn := w5.drawn + 1 }) ⟨R5.out.2.2.2.2.os, R5.out.2.2.2.2.tape, R5.out.2.2.2.2.output, R5.out.2.2.2.2.size, R5.out.2.2.2.2.block⟩ (by omega) _⟩
  generalize World.setRow { w5 with drawn := w5.drawn + 1 } (B + 3) (bcells (splice text0 1 l)).toArray = w6 at R6 ⊢
  clear D5 R5
  go_wp2_with fail
  refine wp_region_held (S := fun _ => True) (by kernel_rfl) ?_
  show wpAnyH _ _ _ _ _ 3 (Array.replicate 3 false) _ _
  refine takeH (i := 0) (some 10) rfl rfl (by kernel_rfl) (by kernel_rfl) (by kernel_rfl) (fun _ _ _ h => h) (yRun rfl _ fun _ _ => rx_from47 (.tmp 5) (.const (.int .i64 33)) rfl (B + 3) 33 (by decide) rfl _ rfl rfl) trivial ?_
  simp only [Act.put, List.setIfInBounds_toArray, List.set_cons_succ, List.set_cons_zero]
  refine takeH (i := 1) (some 11) rfl rfl (by kernel_rfl) (by kernel_rfl) (by kernel_rfl) (fun _ _ _ h => h) (yRun rfl _ fun _ _ => rx_bytes (.tmp 3) rfl (B + 1) rfl) trivial ?_
  simp only [Act.put, List.setIfInBounds_toArray, List.set_cons_succ, List.set_cons_zero]
  refine oneH (i := 2) (by kernel_rfl) ?_
  have D6 : HIs { w6 with drawn := w6.drawn + 1 } (B + 1) r ∧ Row { w6 with drawn := w6.drawn + 1 } (B + 3) 62 (bcells (splice text0 1 l)) := ⟨R6.out.1, R6.out.2.2.1⟩
  refine opVal (some 12) rfl rfl rfl _ _ (rx_copy (.tmp 10) (.tmp 11) rfl (B + 3) 33 32 (B + 1) rfl rfl (splice text0 1 l) D6.2 r D6.1 (by decide) (by rw [text1_length l hl.1]; decide)) ?_
  refine ⟨trivial, ?_⟩
  simp only [Act.put, List.setIfInBounds_toArray, List.set_cons_succ, List.set_cons_zero]
  refine wpAnyH_done (by kernel_rfl) ?_ _
  rw [text_done l r hl.1 hr.1]
  have R7 : Hid (HIs (World.setRow { w6 with drawn := w6.drawn + 1 } (B + 3) (bcells (1 :: (l ++ r))).toArray) (B + 1 + 1) noH ∧ Row (World.setRow { w6 with drawn := w6.drawn + 1 } (B + 3) (bcells (1 :: (l ++ r))).toArray) (B + 3) 62 (bcells (1 :: (l ++ r))) ∧ Below B w (World.setRow { w6 with drawn := w6.drawn + 1 } (B + 3) (bcells (1 :: (l ++ r))).toArray)) :=
    ⟨⟨noH_isH, Row.setRow_other (w := { w6 with drawn := w6.drawn + 1 }) R6.out.2.1.2 (by omega) _⟩, D6.2.setRow _, below_setRow (w := { w6 with drawn := w6.drawn + 1 }) ⟨R6.out.2.2.2.os, R6.out.2.2.2.tape, R6.out.2.2.2.output, R6.out.2.2.2.size, R6.out.2.2.2.block⟩ (by omega) _⟩
  generalize World.setRow { w6 with drawn := w6.drawn + 1 } (B + 3) (bcells (1 :: (l ++ r))).toArray = w7 at R7 ⊢
  clear D6 R6
  have S7 : Hid (SliceIn w7 (.slice (some ⟨B + 3, 0, none⟩) 65 65) (1 :: (l ++ r))) := by
    have hlen : (1 :: (l ++ r)).length = 65 := by simp [hl.1, hr.1]
    exact ⟨_, 65, by rw [hlen], ⟨by rw [hlen]; decide, by rw [hlen]; decide⟩, Or.inr ⟨B + 3, 0, rfl, fun j hj => by rw [Nat.zero_add]; exact R7.out.2.1.at j _ (bcells_at _ j hj), lt256 _ (fun c hc => by
      rcases List.mem_cons.1 hc with rfl | hc
      · decide
      · rcases List.mem_append.1 hc with hc | hc
        · exact hl.2 c hc
        · exact hr.2 c hc)⟩⟩
  go_wp2_with (first
    | (refine wl rfl _ _ (rx_all47 (.tmp 5) rfl (B + 3) rfl) ?_)
    | (go_at_call 30; refine (sum_any _ (1 :: (l ++ r)) w7 S7.out (ht.later (HB.out ▸ R7.out.2.2)) (hst.later (HB.out ▸ R7.out.2.2)) (by simp [hl.1, hr.1])).mono ?_; rintro e w8 ⟨rfl, b8⟩; rw [show (Value.agg (bcells (Sha.sha (1 :: (l ++ r)))).toArray) = hv (Tree.node l r) from rfl]; have R8 : Hid (HIs w8 (B + 1 + 1) noH ∧ Below B w w8) := ⟨R7.out.1.next b8, R7.out.2.2.trans (b8.mono (HB.out ▸ (HB.out ▸ R7.out.2.2).size))⟩; clear b8 R7 S7)
    | (refine wl_store (.tmp 4) (.tmp 14) rfl rfl rfl (B + 1 + 1) rfl noH (Tree.node l r) (node_isH _ _) rfl R8.out.1 ?_; intro w9 r9 o9 s9; have R9 : Hid (HIs w9 (B + 1 + 1) (Tree.node l r) ∧ Below B w w9) := ⟨r9, R8.out.2.trans (o9.below (by omega) (HB.out ▸ (HB.out ▸ R8.out.2).size))⟩; clear r9 o9 s9 R8))
  exact bodyPost_ret (results_H Tryd.results22 _ _ (B + 1 + 1) rfl _ R9.out.1) rfl ⟨rfl, HB.out ▸ R9.out.2⟩

set_option maxHeartbeats 1000000 in
set_option maxRecDepth 100000 in
theorem refNode_any (l r : List Nat) (hl : IsH l) (hr : IsH r) (w : World) :
    Calls Tryd.prog 36 #[hv l, hv r] w fun e w' => e = .returned (hv (Tree.node l r)) ∧ Below w.heap.size w w' := by
  obtain ⟨B, hB⟩ : ∃ B, B = w.heap.size := ⟨_, rfl⟩
  go_enter Tryd.func36, Tryd.ntmps36
  go_upto_region 0 with fail
  refine wp_region_lit ?_
  refine wl_box (.tmp 0) rfl rfl l hl rfl ?_
  rw [← hB]
  intro w1 r1 s1 b1
  refine wl_box (.tmp 1) rfl rfl r hr rfl ?_
  rw [s1]
  intro w2 r2 s2 b2
  refine wl_alloc rfl rfl ?_
  rw [s2]
  intro w3 r3 s3 b3
  refine wpList_nil ?_
  have R3 : Hid (HIs w3 B l ∧ HIs w3 (B + 1) r ∧ HIs w3 (B + 1 + 1) noH ∧ w3.heap.size = B + 3 ∧ Below B w w3) := ⟨(r1.later b2 (by omega)).later b3 (by omega), r2.later b3 (by omega), r3, s3, (b1.trans (b2.mono (by omega))).trans (b3.mono (by omega))⟩
  have HB : Hid (B = w.heap.size) := hB
  clear r1 s1 b1 r2 s2 b2 r3 s3 b3 hB
  go_wp2_with (first
    | (refine wl_blit1 (.const (.int .u8 1)) rfl rfl 1 (by decide) _ rfl rfl ?_; intro w4 _ o4 b4; have R4 : Hid (BOwn w4 w3.heap.size (.slice (some ⟨w3.heap.size, 0, none⟩) 1 1) [1] ∧ Below w3.heap.size w3 w4) := ⟨o4, b4⟩; clear o4 b4)
    | (refine wl_bytes (.tmp 2) rfl rfl B rfl ?_)
    | (refine wl_bappend (.tmp 6) (.tmp 7) rfl rfl w3.heap.size _ _ [1] l rfl R4.out.1 rfl (his_bytes (R3.out.1.next R4.out.2)) (by simp [hl.1]) R4.out.2.size ?_; intro v5 w5 o5 b5; have R5 : Hid (BOwn w5 w3.heap.size v5 ([1] ++ l) ∧ Below w3.heap.size w3 w5) := ⟨o5, R4.out.2.trans b5⟩; clear o5 b5 R4)
    | (refine wl_bytes (.tmp 3) rfl rfl (B + 1) rfl ?_)
    | (refine wl_bappend (.tmp 9) (.tmp 10) rfl rfl w3.heap.size v5 _ ([1] ++ l) r rfl R5.out.1 rfl (his_bytes (R3.out.2.1.next R5.out.2)) (by simp [hl.1, hr.1]) R5.out.2.size ?_; intro v6 w6 o6 b6; have R6 : Hid (SliceIn w6 v6 (1 :: (l ++ r)) ∧ Below w3.heap.size w3 w6) := ⟨o6.slice (lt256 _ (fun c hc => by rcases List.mem_append.1 hc with hc | hc; (rcases List.mem_append.1 hc with hc | hc; (rw [List.mem_singleton.1 hc]; decide); (exact hl.2 c hc)); (exact hr.2 c hc))), R5.out.2.trans b6⟩; clear o6 b6 R5)
    | (go_at_call 34; refine (refSum_any v6 (1 :: (l ++ r)) w6 R6.out.1 (by simp [hl.1, hr.1])).mono ?_; rintro e w8 ⟨rfl, b8⟩; rw [show (Value.agg (bcells (Sha.sha (1 :: (l ++ r)))).toArray) = hv (Tree.node l r) from rfl]; have R8 : Hid (HIs w8 (B + 1 + 1) noH ∧ Below B w w8) := ⟨R3.out.2.2.1.next (below_append R6.out.2 b8), R3.out.2.2.2.2.trans ((below_append R6.out.2 b8).mono (by have := R3.out.2.2.2.1; omega))⟩; clear b8 R6)
    | (refine wl_store (.tmp 4) (.tmp 12) rfl rfl rfl (B + 1 + 1) rfl noH (Tree.node l r) (node_isH _ _) rfl R8.out.1 ?_; intro w9 r9 o9 s9; have R9 : Hid (HIs w9 (B + 1 + 1) (Tree.node l r) ∧ Below B w w9) := ⟨r9, R8.out.2.trans (o9.below (by omega) (HB.out ▸ (HB.out ▸ R8.out.2).size))⟩; clear r9 o9 s9 R8))
  exact bodyPost_ret (results_H Tryd.results36 _ _ (B + 1 + 1) rfl _ R9.out.1) rfl ⟨rfl, HB.out ▸ R9.out.2⟩
end Go.Proofs.YtjdmpanemdhbbaaDoor

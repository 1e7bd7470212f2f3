/- The walks of device.clone and Plant.Clone. -/
import Derived.Test.YteacjeihliajpaaLive
namespace Go.Proofs.Yteacjeihliajpaa
open Go.RowKit Go.Maps

theorem mapClone58 {w : World} {b n : Nat} {f : Nat → Option (List Nat)} (h : MapAt secs w b n f) : Calls Try.prog 58 #[.map (some b)] w fun e w' => e = .returned (.map (some w.heap.size)) ∧ MapAt secs w' w.heap.size n f ∧ Below w.heap.size w w' := by
  obtain ⟨D, ho, hr⟩ := h
  exact (AnyW.maps_Clone_owns Try.layClone58 3 secs.R b n D w ho).mono fun e w' ⟨he, h1, _, hb⟩ => ⟨he, ⟨D, h1, hr⟩, hb⟩
theorem mapClone59 {w : World} {b n : Nat} {f : Nat → Option Int} (h : MapAt ints w b n f) : Calls Try.prog 59 #[.map (some b)] w fun e w' => e = .returned (.map (some w.heap.size)) ∧ MapAt ints w' w.heap.size n f ∧ Below w.heap.size w w' := by
  obtain ⟨D, ho, hr⟩ := h
  exact (AnyW.maps_Clone_owns Try.layClone59 3 ints.R b n D w ho).mono fun e w' ⟨he, h1, _, hb⟩ => ⟨he, ⟨D, h1, hr⟩, hb⟩
theorem wcells_one (l : List Wr) : ∀ v ∈ wcells l, v.oneCell' = true := by
  intro v hv
  obtain ⟨x, _, hx⟩ := List.mem_flatMap.1 hv
  exact wrCells_one x v hx
theorem waitClone {w : World} {c : Nat → Colour} {k : Colour} {v : Value} {wt : List Wr} (h : WtIn w c k v wt) (hn : wt.length < 1099511627776) (k' : Colour) :
    Calls Try.prog 60 #[v] w fun e w' => ∃ v', e = .returned v' ∧ WtIn w' (paint c w.heap.size k') k' v' wt ∧ Below w.heap.size w w' := by
  obtain ⟨⟨hl, h1⟩, _⟩ := h
  rcases h1 with ⟨rfl, h0⟩ | ⟨g, cap, cur, rfl, h0, hg, hc1, hc2, hc3, hc4⟩
  · refine (AnyE.slices_Clone_nil Try.layClone60 0 0 w).mono fun e w' he => ?_
    obtain ⟨rfl, rfl⟩ := he
    exact ⟨_, rfl, ⟨⟨hl, Or.inl ⟨rfl, h0⟩⟩, fun b hb => by cases hb⟩, Below.refl _ _⟩
  · obtain ⟨i0, hi0, hz0, hz1, hz2⟩ := info_parts info87
    refine (AnyE.slices_Clone Try.layClone60 i0 _ 66 80 hi0 hz0 hz1 hz2 rfl (by decide) (fun w => by have := Try.sizeOf87 w; exact this) g 0 wt.length cap (wcells wt) w hl (by unfold maxLen; omega) (by omega) ?_ (wcells_one wt)).mono ?_
    · intro j u hu
      rw [← hc4, List.getElem?_take] at hu
      split at hu
      · simp [World.cell?, hg]
        simpa using hu
      · cases hu
    · rintro e w' ⟨v', rfl, ho, _, hb⟩
      refine ⟨v', rfl, ⟨?_, fun b hb => paint_new _ _ _ _ (ho.lt b hb).1⟩, hb⟩
      obtain ⟨hl', h'⟩ := ho
      refine ⟨hl', ?_⟩
      rcases h' with h' | ⟨g', cap', cur', e1, _, e2⟩
      · exact Or.inl h'
      · exact Or.inr ⟨g', cap', cur', e1, Nat.zero_le _, e2⟩
theorem zero76 : (Try.prog.info? 76).map (·.zero) = some (some (.agg ([.bool false, .int .i64 0, .map none, .slice none 0 0, .map none] : List Value).toArray)) := by kernel_rfl
theorem size72 : (Try.prog.info? 72).map (·.size) = some 1 := by kernel_rfl
theorem en58 : EntersF 58 := Go.Proofs.enters_of Try.func58 (by kernel_rfl) rfl
theorem en59 : EntersF 59 := Go.Proofs.enters_of Try.func59 (by kernel_rfl) rfl
theorem en60 : EntersF 60 := Go.Proofs.enters_of Try.func60 (by kernel_rfl) rfl

theorem run_fieldOp {w : World} {a : Act} {o : Oper} {T i k : Nat} (hf : FieldAt T i k) (x : Operand) (ho : o.op = .fieldAddr T x i) (g off : Nat) (hx : a.eval x = .pointer (some ⟨g, off, none⟩)) : (execOp a.eval o).run Try.prog w = .ok (.value (.pointer (some ⟨g, off + k, none⟩))) w := by
  simp [execOp, ho, hx, hf w g off]

set_option maxHeartbeats 1000000 in
set_option maxRecDepth 100000 in
theorem devClone_any {w : World} {c : Nat → Colour} {k : Colour} {g : Nat} {tape : Bool} {size : Nat} {fl : List (List Nat)} {wt : List Wr} (h : DevIn w c k g tape size fl wt) (hn : wt.length < 1099511627776) (k' : Colour) :
    Calls Try.prog 40 #[ptr g] w fun e w' => ∃ g', e = .returned (ptr g') ∧ w.heap.size ≤ g' ∧ DevIn w' (paint c w.heap.size k') k' g' tape size fl wt ∧ Below w.heap.size w w' := by
  obtain ⟨bm, bl, v, hr, hg, hm, hl, hne, ⟨f, nf, hf1, hf2⟩, hw, ⟨nl, hl1⟩⟩ := h
  obtain ⟨B, hB⟩ : ∃ B, B = w.heap.size := ⟨_, rfl⟩
  rw [← hB]
  have HB : Hid (B = w.heap.size) := hB
  have hvc := slice_cells hw
  have HF : Hid (MapAt secs w bm nf f) := hf1
  have HL : Hid (MapAt ints w bl nl (fun p => (lastIdx wt p).map fun j => (j : Int))) := hl1
  have HW : Hid (WtIn w c k v wt) := hw
  have HR : Hid (Row w g 76 [.bool tape, .int .i64 (size : Nat), .map (some bm), v, .map (some bl)]) := hr
  have HF2 : Hid ((∀ p, p < fl.length → (f p).getD zeros = fl.getD p zeros) ∧ (tape = true → nf = fl.length ∧ ∀ p, (f p).isSome = decide (p < fl.length))) := hf2
  have HN : Hid (wt.length < 1099511627776) := hn
  clear hr hg hm hl hne hf1 hf2 hw hl1 hB hn
  go_enter Try.func40, Try.ntmps40
  go_upto_region 1 with fail
  refine wp_region_lit ?_
  refine wpList_move (.tmp 0) rfl rfl (ptr g) rfl ?_
  simp only [Act.put, List.setIfInBounds_toArray, List.set_cons_succ, List.set_cons_zero]
  refine wpList_nilCheck (.tmp 4) rfl rfl _ rfl ?_
  simp only [Act.put, List.setIfInBounds_toArray, List.set_cons_succ, List.set_cons_zero]
  refine wpList_load agg76 (.tmp 5) rfl rfl g 0 rfl [.bool tape, .int .i64 (size : Nat), .map (some bm), v, .map (some bl)] rfl (fun j u hu => by rw [Nat.zero_add]; exact HR.out.at j u hu) ?_
  simp only [Act.put, List.setIfInBounds_toArray, List.set_cons_succ, List.set_cons_zero]
  refine wpList_alloc_store agg76 _ zero76 rfl rfl rfl rfl rfl (.tmp 6) rfl [.bool tape, .int .i64 (size : Nat), .map (some bm), v, .map (some bl)] rfl rfl ?one (fun _ => rfl) (fun _ => rfl) ?_
  case one =>
    intro u hu
    simp only [List.mem_cons, List.not_mem_nil, or_false] at hu
    rcases hu with rfl | rfl | rfl | rfl | rfl
    · rfl
    · rfl
    · rfl
    · exact hvc.2
    · rfl
  intro w1 r1 s1 b1
  rw [← HB.out] at r1 s1 b1 ⊢
  refine wpList_nil ?_
  simp only [Act.put, List.setIfInBounds_toArray, List.set_cons_succ, List.set_cons_zero]
  have hgB : g < B := by have := HR.out.lt; have := HB.out; omega
  have HR1 : Hid (Row w1 B 76 [.bool tape, .int .i64 (size : Nat), .map (some bm), v, .map (some bl)]) := r1
  have HB1 : Hid (Below B w w1) := b1
  have HS1 : Hid (w1.heap.size = B + 1) := s1
  have HO1 : Hid (Row w1 g 76 [.bool tape, .int .i64 (size : Nat), .map (some bm), v, .map (some bl)]) := HR.out.later b1 hgB
  clear r1 s1 b1
  go_upto_region 2 with fail
  have HSS : Hid ((w1.drewN 1).cell? ⟨g, 0 + 2, none⟩ = some (.map (some bm)) ∧ (w1.drewN 1).cell? ⟨g, 0 + 4, none⟩ = some (.map (some bl))) := ⟨HO1.out.at 2 _ rfl, HO1.out.at 4 _ rfl⟩
  refine wp_region_any (by kernel_rfl) (wpAny_of_held (S := fun W => W.cell? ⟨g, 0 + 2, none⟩ = some (.map (some bm)) ∧ W.cell? ⟨g, 0 + 4, none⟩ = some (.map (some bl))) _ _ _ _ ?_)
  show wpAnyH _ _ _ _ _ 14 (Array.replicate 14 false) _ (w1.drewN 1)
  refine takeH (i := 0) (some 7) rfl rfl (by kernel_rfl) (by kernel_rfl) (by kernel_rfl) (fun _ _ _ h => h) (yMove rfl (.tmp 0) rfl (ptr g) rfl).yieldsIf HSS.out ?_
  simp only [Act.put, List.setIfInBounds_toArray, List.set_cons_succ, List.set_cons_zero]
  refine takeH (i := 1) (some 8) rfl rfl (by kernel_rfl) (by kernel_rfl) (by kernel_rfl) (fun _ _ _ h => h) (yNil rfl (.tmp 7) rfl _ rfl).yieldsIf HSS.out ?_
  simp only [Act.put, List.setIfInBounds_toArray, List.set_cons_succ, List.set_cons_zero]
  refine takeH (i := 2) (some 9) rfl rfl (by kernel_rfl) (by kernel_rfl) (by kernel_rfl) (fun _ _ _ h => h) (yField f76_2 rfl (.tmp 8) rfl g 0 rfl).yieldsIf HSS.out ?_
  simp only [Act.put, List.setIfInBounds_toArray, List.set_cons_succ, List.set_cons_zero]
  refine takeH (i := 3) (some 10) rfl rfl (by kernel_rfl) (by kernel_rfl) (by kernel_rfl) (fun _ _ _ h => h) (yLoad1H one72 rfl (.tmp 9) rfl g (0 + 2) rfl _ (fun W hW => hW.1)) HSS.out ?_
  simp only [Act.put, List.setIfInBounds_toArray, List.set_cons_succ, List.set_cons_zero]
  refine takeH (i := 5) (some 12) rfl rfl (by kernel_rfl) (by kernel_rfl) (by kernel_rfl) (fun _ _ _ h => h) (yMove rfl (.tmp 0) rfl (ptr g) rfl).yieldsIf HSS.out ?_
  simp only [Act.put, List.setIfInBounds_toArray, List.set_cons_succ, List.set_cons_zero]
  refine takeH (i := 6) (some 13) rfl rfl (by kernel_rfl) (by kernel_rfl) (by kernel_rfl) (fun _ _ _ h => h) (yNil rfl (.tmp 12) rfl _ rfl).yieldsIf HSS.out ?_
  simp only [Act.put, List.setIfInBounds_toArray, List.set_cons_succ, List.set_cons_zero]
  refine takeH (i := 7) (some 14) rfl rfl (by kernel_rfl) (by kernel_rfl) (by kernel_rfl) (fun _ _ _ h => h) (yField f76_4 rfl (.tmp 13) rfl g 0 rfl).yieldsIf HSS.out ?_
  simp only [Act.put, List.setIfInBounds_toArray, List.set_cons_succ, List.set_cons_zero]
  refine takeH (i := 8) (some 15) rfl rfl (by kernel_rfl) (by kernel_rfl) (by kernel_rfl) (fun _ _ _ h => h) (yLoad1H one74 rfl (.tmp 14) rfl g (0 + 4) rfl _ (fun W hW => hW.2)) HSS.out ?_
  simp only [Act.put, List.setIfInBounds_toArray, List.set_cons_succ, List.set_cons_zero]
  have HC58 : Hid (Calls Try.prog 58 #[.map (some bm)] (w1.drewN 1) fun e w' => e = .returned (.map (some (B + 1))) ∧ MapAt secs w' (B + 1) nf f ∧ Below (B + 1) (w1.drewN 1) w') := by
    have h1 : MapAt secs (w1.drewN 1) bm nf f := HF.out.kept (HB1.out.block bm (by have := HF.out.lt; have := HB.out; omega))
    have := mapClone58 h1
    rw [show (w1.drewN 1).heap.size = B + 1 from HS1.out] at this
    exact this
  refine oneH (i := 4) (by kernel_rfl) ?_
  refine opCallA (some 11) rfl rfl rfl 58 _ (run_call en58 [.tmp 10] _ rfl [.map (some bm)] rfl) ?_
  refine (HC58.out).mono ?_
  rintro e w2 ⟨rfl, m2, b2⟩
  have r2g : Row w2 g 76 [.bool tape, .int .i64 (size : Nat), .map (some bm), v, .map (some bl)] := Row.later (w := w1.drewN 1) HO1.out b2 (by omega)
  have r2B : Row w2 B 76 [.bool tape, .int .i64 (size : Nat), .map (some bm), v, .map (some bl)] := Row.later (w := w1.drewN 1) HR1.out b2 (by omega)
  have bw2 : Below B w w2 := HB1.out.trans ((Below.drewN (Below.refl B w1) 1).trans (b2.mono (by omega)))
  refine ⟨_, rfl, ⟨r2g.at 2 _ rfl, r2g.at 4 _ rfl⟩, ?_⟩
  simp only [Act.put, List.setIfInBounds_toArray, List.set_cons_succ, List.set_cons_zero]
  obtain ⟨q2, hq2⟩ : ∃ q2, q2 = w2.heap.size := ⟨_, rfl⟩
  have hm2 := m2.lt
  have HC59 : Hid (Calls Try.prog 59 #[.map (some bl)] w2 fun e w' => e = .returned (.map (some q2)) ∧ MapAt ints w' q2 nl (fun p => (lastIdx wt p).map fun j => (j : Int)) ∧ Below q2 w2 w') := by
    have h1 : MapAt ints w2 bl nl (fun p => (lastIdx wt p).map fun j => (j : Int)) := HL.out.kept (bw2.block bl (by have := HL.out.lt; have := HB.out; omega))
    have := mapClone59 h1
    rw [← hq2] at this
    exact this
  refine oneH (i := 9) (by kernel_rfl) ?_
  refine opCallA (some 16) rfl rfl rfl 59 _ (run_call en59 [.tmp 15] _ rfl [.map (some bl)] rfl) ?_
  refine (HC59.out).mono ?_
  rintro e w3 ⟨rfl, m3, b3⟩
  rw [← hq2] at hm2
  have r3g := r2g.later b3 (by omega)
  have r3B := r2B.later b3 (by omega)
  have bw3 : Below B w w3 := bw2.trans (b3.mono (by omega))
  have m3f : MapAt secs w3 (B + 1) nf f := m2.kept (b3.block _ (by omega))
  refine ⟨_, rfl, ⟨r3g.at 2 _ rfl, r3g.at 4 _ rfl⟩, ?_⟩
  simp only [Act.put, List.setIfInBounds_toArray, List.set_cons_succ, List.set_cons_zero]
  refine oneH (i := 10) (by kernel_rfl) ?_
  refine opValue (some 17) rfl rfl rfl _ _ (run_fieldOp f76_2 (.tmp 3) rfl B 0 rfl) ⟨⟨r3g.at 2 _ rfl, r3g.at 4 _ rfl⟩, ?_⟩
  simp only [Act.put, List.setIfInBounds_toArray, List.set_cons_succ, List.set_cons_zero]
  refine oneH (i := 11) (by kernel_rfl) ?_
  obtain ⟨w4, hw4⟩ : ∃ w4, w4 = w3.setRow B ([.bool tape, .int .i64 (size : Nat), .map (some (B + 1)), v, .map (some bl)] : List Value).toArray := ⟨_, rfl⟩
  have hrun4 := fun (aa : Act) (oo : Oper) (ho : oo.op = .store 72 (.tmp 17) (.tmp 11)) (hx : aa.eval (.tmp 17) = .pointer (some ⟨B, 0 + 2, none⟩)) (hy : aa.eval (.tmp 11) = .map (some (B + 1))) => run_storeOp1 (a := aa) (o := oo) size72 (.tmp 17) (.tmp 11) ho B (0 + 2) 76 hx (.map (some (B + 1))) _ hy rfl rfl r3B (by simp)
  have e4 : w3.setRow B (([.bool tape, .int .i64 (size : Nat), .map (some bm), v, .map (some bl)] : List Value).set (0 + 2) (.map (some (B + 1)))).toArray = w4 := by rw [hw4]; rfl
  simp only [e4] at hrun4
  have r4B : Row w4 B 76 [.bool tape, .int .i64 (size : Nat), .map (some (B + 1)), v, .map (some bl)] := by rw [hw4]; exact r3B.setRow _
  have k4 : ∀ b, b ≠ B → w4.heap[b]? = w3.heap[b]? := fun b hb => by rw [hw4]; exact Go.setRow_other w3 B b _ hb
  have s4 : w4.heap.size = w3.heap.size := by rw [hw4]; simp [World.setRow]
  have r4g : Row w4 g 76 [.bool tape, .int .i64 (size : Nat), .map (some bm), v, .map (some bl)] := by
    show w4.heap[g]? = _
    rw [k4 g (by omega)]
    exact r3g
  have bw4 : Below B w w4 := bw3.trans ⟨by rw [hw4]; rfl, by rw [hw4]; rfl, by rw [hw4]; rfl, by omega, fun b hb => k4 b (by omega)⟩
  refine opSkip rfl rfl rfl w4 (hrun4 _ _ rfl rfl rfl) ⟨⟨r4g.at 2 _ rfl, r4g.at 4 _ rfl⟩, ?_⟩
  refine oneH (i := 12) (by kernel_rfl) ?_
  refine opValue (some 18) rfl rfl rfl _ _ (run_fieldOp f76_4 (.tmp 3) rfl B 0 rfl) ⟨⟨r4g.at 2 _ rfl, r4g.at 4 _ rfl⟩, ?_⟩
  simp only [Act.put, List.setIfInBounds_toArray, List.set_cons_succ, List.set_cons_zero]
  refine oneH (i := 13) (by kernel_rfl) ?_
  obtain ⟨w5, hw5⟩ : ∃ w5, w5 = w4.setRow B ([.bool tape, .int .i64 (size : Nat), .map (some (B + 1)), v, .map (some q2)] : List Value).toArray := ⟨_, rfl⟩
  have hrun5 := fun (aa : Act) (oo : Oper) (ho : oo.op = .store 74 (.tmp 18) (.tmp 16)) (hx : aa.eval (.tmp 18) = .pointer (some ⟨B, 0 + 4, none⟩)) (hy : aa.eval (.tmp 16) = .map (some q2)) => run_storeOp1 (a := aa) (o := oo) size74 (.tmp 18) (.tmp 16) ho B (0 + 4) 76 hx (.map (some q2)) _ hy rfl rfl r4B (by simp)
  have e5 : w4.setRow B (([.bool tape, .int .i64 (size : Nat), .map (some (B + 1)), v, .map (some bl)] : List Value).set (0 + 4) (.map (some q2))).toArray = w5 := by rw [hw5]; rfl
  simp only [e5] at hrun5
  have r5B : Row w5 B 76 [.bool tape, .int .i64 (size : Nat), .map (some (B + 1)), v, .map (some q2)] := by rw [hw5]; exact r4B.setRow _
  have k5 : ∀ b, b ≠ B → w5.heap[b]? = w4.heap[b]? := fun b hb => by rw [hw5]; exact Go.setRow_other w4 B b _ hb
  have s5 : w5.heap.size = w4.heap.size := by rw [hw5]; simp [World.setRow]
  have r5g : Row w5 g 76 [.bool tape, .int .i64 (size : Nat), .map (some bm), v, .map (some bl)] := by
    show w5.heap[g]? = _
    rw [k5 g (by omega)]
    exact r4g
  have bw5 : Below B w w5 := bw4.trans ⟨by rw [hw5]; rfl, by rw [hw5]; rfl, by rw [hw5]; rfl, by omega, fun b hb => k5 b (by omega)⟩
  refine opSkip rfl rfl rfl w5 (hrun5 _ _ rfl rfl rfl) ⟨⟨r5g.at 2 _ rfl, r5g.at 4 _ rfl⟩, ?_⟩
  refine wpAnyH_done (by kernel_rfl) ?_ _
  have hq3 : q2 < w5.heap.size := by have := m3.lt; omega
  have HM5 : Hid (MapAt secs w5 (B + 1) nf f) := (m3f.kept (k4 _ (by omega))).kept (k5 _ (by omega))
  have HL5 : Hid (MapAt ints w5 q2 nl (fun p => (lastIdx wt p).map fun j => (j : Int))) := (m3.kept (k4 _ (by omega))).kept (k5 _ (by omega))
  have HB5 : Hid (Below B w w5) := bw5
  have HR5 : Hid (Row w5 B 76 [.bool tape, .int .i64 (size : Nat), .map (some (B + 1)), v, .map (some q2)]) := r5B
  have HG5 : Hid (Row w5 g 76 [.bool tape, .int .i64 (size : Nat), .map (some bm), v, .map (some bl)]) := r5g
  have HQ5 : Hid (q2 < w5.heap.size ∧ B + 1 < q2) := ⟨hq3, hm2⟩
  clear hq3 hq2 hm2 m2 m3 m3f b2 b3 r2g r2B r3g r3B bw2 bw3 hw4 hrun4 e4 r4B k4 s4 r4g bw4 hw5 hrun5 e5 r5B k5 s5 r5g bw5 HC58 HC59 HSS HO1 HR1 HB1 HS1
  go_upto_region 3 with fail
  refine wp_region_lit ?_
  refine wpList_move (.tmp 0) rfl rfl (ptr g) rfl ?_
  simp only [Act.put, List.setIfInBounds_toArray, List.set_cons_succ, List.set_cons_zero]
  refine wpList_nilCheck (.tmp 19) rfl rfl _ rfl ?_
  simp only [Act.put, List.setIfInBounds_toArray, List.set_cons_succ, List.set_cons_zero]
  refine wpList_field f76_3 (.tmp 20) rfl rfl g 0 rfl ?_
  simp only [Act.put, List.setIfInBounds_toArray, List.set_cons_succ, List.set_cons_zero]
  refine wpList_load1 one73 (.tmp 21) rfl rfl g (0 + 3) rfl v (HG5.out.at 3 _ rfl) ?_
  simp only [Act.put, List.setIfInBounds_toArray, List.set_cons_succ, List.set_cons_zero]
  refine wpList_callF en60 [.tmp 22] _ rfl rfl [v] rfl ?_
  have hw5 : WtIn w5 c k v wt := HW.out.kept fun b hb hk => ⟨HB5.out.block b (by have := HB.out; omega), hk⟩
  refine (waitClone hw5 HN.out k').mono ?_
  rintro e w6 ⟨v6, rfl, i6, b6⟩
  refine ⟨_, rfl, ?_⟩
  simp only [Act.put, List.setIfInBounds_toArray, List.set_cons_succ, List.set_cons_zero]
  have hB5 : B < w5.heap.size := HR5.out.lt
  have r6 := HR5.out.later b6 hB5
  have hv6 := slice_cells i6
  refine wpList_field f76_3 (.tmp 3) rfl rfl B 0 rfl ?_
  simp only [Act.put, List.setIfInBounds_toArray, List.set_cons_succ, List.set_cons_zero]
  refine wpList_store1 size73 (.tmp 24) (.tmp 23) rfl rfl rfl B (0 + 3) 76 rfl v6 _ rfl hv6.1 hv6.2 r6 (by simp) ?_
  refine wpList_nil ?_
  obtain ⟨w7, hw7⟩ : ∃ w7, w7 = w6.setRow B ([.bool tape, .int .i64 (size : Nat), .map (some (B + 1)), v6, .map (some q2)] : List Value).toArray := ⟨_, rfl⟩
  have e7 : w6.setRow B (([.bool tape, .int .i64 (size : Nat), .map (some (B + 1)), v, .map (some q2)] : List Value).set (0 + 3) v6).toArray = w7 := by rw [hw7]; rfl
  rw [e7]
  have k7 : ∀ b, b ≠ B → w7.heap[b]? = w6.heap[b]? := fun b hb => by rw [hw7]; exact Go.setRow_other w6 B b _ hb
  have s7 : w7.heap.size = w6.heap.size := by rw [hw7]; simp [World.setRow]
  have HD : Hid (DevIn w7 (paint c B k') k' B tape size fl wt) := by
    have hq := HQ5.out
    refine ⟨B + 1, q2, v6, by rw [hw7]; exact r6.setRow _, paint_new _ _ _ _ (by omega), paint_new _ _ _ _ (by omega), paint_new _ _ _ _ (by omega), by omega, ⟨f, nf, (HM5.out.kept (b6.block _ (by omega))).kept (k7 _ (by omega)), HF2.out⟩, ?_, ⟨nl, (HL5.out.kept (b6.block _ (by omega))).kept (k7 _ (by omega))⟩⟩
    refine ⟨ownsRow_kept i6.1 fun b hb => k7 b ?_, fun b hb => ?_⟩
    · rintro rfl
      obtain ⟨_, cur, hcur⟩ := ownBlock_lt i6.1 hb
      rw [show w6.heap[b]? = _ from r6] at hcur
      simp at hcur
    · have := i6.2 b hb
      by_cases hlt : B ≤ b
      · exact paint_new _ _ _ _ hlt
      · rw [paint_old _ _ _ _ (by omega)] at this ⊢
        exact this
  have HB7 : Hid (Below B w w7) := (HB5.out.trans (b6.mono (by omega))).trans ⟨by rw [hw7]; rfl, by rw [hw7]; rfl, by rw [hw7]; rfl, by omega, fun b hb => k7 b (by omega)⟩
  clear e7 k7 s7 hw7 r6 hv6 i6 b6 hw5 hB5
  go_wp2
  go_ret
  exact ⟨B, rfl, Nat.le_refl _, HD.out, HB7.out⟩
end Go.Proofs.Yteacjeihliajpaa

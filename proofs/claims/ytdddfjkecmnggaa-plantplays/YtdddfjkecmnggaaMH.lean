/- The walk of Plant.Tick. The walks of device.clone and Plant.Clone. The walk of Plant.Clone. -/
import Derived.Test.YtdddfjkecmnggaaME
namespace Go.Proofs.Ytdddfjkecmnggaa
open Go.RowKit Go.Maps

def Pl.tick (m : Pl) (n : Int) : Pl := if 0 < n then { m with clock := m.clock + min n (1099511627776 - m.clock) } else m
theorem Pl.tick_wf {m : Pl} (h : m.WF) (n : Int) : (m.tick n).WF := by
  unfold Pl.tick
  split
  · rename_i hn
    have h0 := h.clock0
    have h1 := h.clock1
    exact ⟨h.few, h.pos, h.sizes, h.secs, h.disk, h.tapes, h.wsec, h.wdev, h.order, h.count, h.fuse0, h.fuse1, (by show 0 ≤ m.clock + min n (1099511627776 - m.clock); omega), (by show m.clock + min n (1099511627776 - m.clock) ≤ 1099511627776; omega)⟩
  · exact h
theorem size3 : (Try.prog.info? 3).map (·.size) = some 1 := by kernel_rfl
theorem f69_4 : FieldAt 69 4 4 := fun w g off => by kernel_rfl
set_option maxRecDepth 100000 in
theorem tick_any {w : World} {c : Nat → Colour} {t g db cap : Nat} {gs : Nat → Nat} {m : Pl} (h : PlantAt w c t g db cap gs m) (hwf : m.WF) (n : Int) (hn1 : n ≤ 9223372036854775807) :
    Calls Try.prog 29 #[ptr g, .int .i64 n] w fun e w' => e = .returned noResult ∧ PlantAt w' c t g db cap gs (m.tick n) ∧ Ch (· = g) w w' := by
  have HP : Hid (PlantAt w c t g db cap gs m) := h
  have HW : Hid (m.WF) := hwf
  obtain ⟨k0, hk0⟩ : ∃ k0, k0 = m.clock := ⟨_, rfl⟩
  have c4 : w.cell? ⟨g, 4, none⟩ = some (.int .i64 k0) := by rw [hk0]; exact h.c4
  have HK0 : Hid (k0 = m.clock) := hk0
  have hc0 : 0 ≤ k0 := by rw [hk0]; exact hwf.clock0
  have hc1 : k0 ≤ 1099511627776 := by rw [hk0]; exact hwf.clock1
  clear h hwf hk0
  by_cases hpos : 0 < n
  · have tp : decide (0 < n) = true := by simpa using hpos
    obtain ⟨k, hk⟩ : ∃ k, k = min n (1099511627776 - k0) := ⟨_, rfl⟩
    have hmin : min n (1099511627776 - k0) = k := hk.symm
    have hkb : 0 ≤ k ∧ k ≤ 1099511627776 - k0 := by omega
    have HK : Hid (k = min n (1099511627776 - k0)) := hk
    obtain ⟨hkb0, hkb1⟩ := hkb
    clear hk
    go_enter Try.func29, Try.ntmps29
    go_upto_region 1 with fail
    refine wp_region_headOne_drew 11 (.tmp 0) (by kernel_rfl) (by kernel_rfl) rfl rfl (fun _ _ _ h => h) ?_
    simp only [List.take_succ_cons, List.take_zero, List.drop_succ_cons, List.drop_zero]
    iterate 12 (go_big_quiet_step (fail))
    refine wpQuiet_nil ?_
    intro _ hw'
    obtain ⟨nq, hw''⟩ := hw'
    subst hw''
    refine wpList_nilCheck (.tmp 6) rfl rfl _ rfl ?_
    simp only [Act.put, List.setIfInBounds_toArray, List.set_cons_succ, List.set_cons_zero]
    refine wpList_field f69_4 (.tmp 18) rfl rfl g 0 rfl ?_
    simp only [Act.put, List.setIfInBounds_toArray, List.set_cons_succ, List.set_cons_zero]
    refine wpList_store1 size3 (.tmp 19) (.tmp 17) rfl rfl rfl g (0 + 4) 69 rfl (.int .i64 (k0 + k)) (plCells db cap m) rfl rfl rfl HP.out.row (by simp [plCells]) ?_
    refine wpList_nil ?_
    have HC : Hid (Ch (· = g) w ((w.drewN nq).setRow g ((plCells db cap m).set (0 + 4) (.int .i64 (k0 + k))).toArray)) := ((Ch.refl (· = g) w).drewN nq).setRow (g := g) (Or.inl rfl) _
    have HE : Hid (PlantAt ((w.drewN nq).setRow g ((plCells db cap m).set (0 + 4) (.int .i64 (k0 + k))).toArray) c t g db cap gs (m.tick n)) := by
      have e : m.tick n = { m with clock := k0 + k } := by
        unfold Pl.tick
        rw [if_pos (by omega), HK.out, HK0.out]
      rw [e]
      refine HP.out.head _ rfl rfl rfl HC.out ?_
      have hr : Row (w.drewN nq) g 69 (plCells db cap m) := HP.out.row
      have := hr.setRow ((plCells db cap m).set (0 + 4) (.int .i64 (k0 + k)))
      simpa [plCells, Pl.n] using this
    go_wp2
    go_end0
    exact ⟨rfl, HE.out, HC.out⟩
  · have tp : decide (0 < n) = false := by simpa using hpos
    go_enter Try.func29, Try.ntmps29
    go_wp2
    go_end0
    refine ⟨rfl, ?_, Ch.refl _ _⟩
    unfold Pl.tick
    rw [if_neg (by omega)]
    exact HP.out
end Go.Proofs.Ytdddfjkecmnggaa

namespace Go.Proofs.Ytdddfjkecmnggaa
open Go.RowKit Go.Maps

theorem mapClone58 {w : World} {b n : Nat} {f : Nat → Option (List Nat)} (h : MapAt secs w b n f) : Calls Try.prog 58 #[.map (some b)] w fun e w' => e = .returned (.map (some w.heap.size)) ∧ MapAt secs w' w.heap.size n f ∧ Below w.heap.size w w' := by
  obtain ⟨D, ho, hr⟩ := h
  exact (AnyW.maps_Clone_owns Try.layClone58 3 secs.R b n D w ho).mono fun e w' ⟨he, h1, _, hb⟩ => ⟨he, ⟨D, h1, hr⟩, hb⟩
theorem mapClone59 {w : World} {b n : Nat} {f : Nat → Option Int} (h : MapAt ints w b n f) : Calls Try.prog 59 #[.map (some b)] w fun e w' => e = .returned (.map (some w.heap.size)) ∧ MapAt ints w' w.heap.size n f ∧ Below w.heap.size w w' := by
  obtain ⟨D, ho, hr⟩ := h
  exact (AnyW.maps_Clone_owns Try.layClone59 3 ints.R b n D w ho).mono fun e w' ⟨he, h1, _, hb⟩ => ⟨he, ⟨D, h1, hr⟩, hb⟩
theorem wcells_one (l : List Wr) : ∀ v ∈ wcells l, v.oneCell' = true := by
  intro v hv
  obtain ⟨x, _, hx⟩ := List.mem_flatMap.1 hv
  exact wrCells_one x v hx
theorem waitClone {w : World} {c : Nat → Colour} {k : Colour} {v : Value} {wt : List Wr} (h : WtIn w c k v wt) (hn : wt.length < 1099511627776) (k' : Colour) :
    Calls Try.prog 60 #[v] w fun e w' => ∃ v', e = .returned v' ∧ WtIn w' (paint c w.heap.size k') k' v' wt ∧ Below w.heap.size w w' := by
  obtain ⟨⟨hl, h1⟩, _⟩ := h
  rcases h1 with ⟨rfl, h0⟩ | ⟨g, cap, cur, rfl, h0, hg, hc1, hc2, hc3, hc4⟩
  · refine (AnyE.slices_Clone_nil Try.layClone60 0 0 w).mono fun e w' he => ?_
    obtain ⟨rfl, rfl⟩ := he
    exact ⟨_, rfl, ⟨⟨hl, Or.inl ⟨rfl, h0⟩⟩, fun b hb => by cases hb⟩, Below.refl _ _⟩
  · obtain ⟨i0, hi0, hz0, hz1, hz2⟩ := info_parts info87
    refine (AnyE.slices_Clone Try.layClone60 i0 _ 66 80 hi0 hz0 hz1 hz2 rfl (by decide) (fun w => by have := Try.sizeOf87 w; exact this) g 0 wt.length cap (wcells wt) w hl (by unfold maxLen; omega) (by omega) ?_ (wcells_one wt)).mono ?_
    · intro j u hu
      rw [← hc4, List.getElem?_take] at hu
      split at hu
      · simp [World.cell?, hg]
        simpa using hu
      · cases hu
    · rintro e w' ⟨v', rfl, ho, _, hb⟩
      refine ⟨v', rfl, ⟨?_, fun b hb => paint_new _ _ _ _ (ho.lt b hb).1⟩, hb⟩
      obtain ⟨hl', h'⟩ := ho
      refine ⟨hl', ?_⟩
      rcases h' with h' | ⟨g', cap', cur', e1, _, e2⟩
      · exact Or.inl h'
      · exact Or.inr ⟨g', cap', cur', e1, Nat.zero_le _, e2⟩
theorem zero76 : (Try.prog.info? 76).map (·.zero) = some (some (.agg ([.bool false, .int .i64 0, .map none, .slice none 0 0, .map none] : List Value).toArray)) := by kernel_rfl
theorem size72 : (Try.prog.info? 72).map (·.size) = some 1 := by kernel_rfl
theorem en58 : EntersF 58 := Go.Proofs.enters_of Try.func58 (by kernel_rfl) rfl
theorem en59 : EntersF 59 := Go.Proofs.enters_of Try.func59 (by kernel_rfl) rfl
theorem en60 : EntersF 60 := Go.Proofs.enters_of Try.func60 (by kernel_rfl) rfl

theorem run_fieldOp {w : World} {a : Act} {o : Oper} {T i k : Nat} (hf : FieldAt T i k) (x : Operand) (ho : o.op = .fieldAddr T x i) (g off : Nat) (hx : a.eval x = .pointer (some ⟨g, off, none⟩)) : (execOp a.eval o).run Try.prog w = .ok (.value (.pointer (some ⟨g, off + k, none⟩))) w := by
  simp [execOp, ho, hx, hf w g off]

set_option maxHeartbeats 1000000 in
set_option maxRecDepth 100000 in
theorem devClone_any {w : World} {c : Nat → Colour} {k : Colour} {g : Nat} {tape : Bool} {size : Nat} {fl : List (List Nat)} {wt : List Wr} (h : DevIn w c k g tape size fl wt) (hn : wt.length < 1099511627776) (k' : Colour) :
    Calls Try.prog 40 #[ptr g] w fun e w' => ∃ g', e = .returned (ptr g') ∧ w.heap.size ≤ g' ∧ DevIn w' (paint c w.heap.size k') k' g' tape size fl wt ∧ Below w.heap.size w w' := by
  obtain ⟨bm, bl, v, hr, hg, hm, hl, hne, ⟨f, nf, hf1, hf2⟩, hw, ⟨nl, hl1⟩⟩ := h
  obtain ⟨B, hB⟩ : ∃ B, B = w.heap.size := ⟨_, rfl⟩
  rw [← hB]
  have HB : Hid (B = w.heap.size) := hB
  have hvc := slice_cells hw
  have HF : Hid (MapAt secs w bm nf f) := hf1
  have HL : Hid (MapAt ints w bl nl (fun p => (lastIdx wt p).map fun j => (j : Int))) := hl1
  have HW : Hid (WtIn w c k v wt) := hw
  have HR : Hid (Row w g 76 [.bool tape, .int .i64 (size : Nat), .map (some bm), v, .map (some bl)]) := hr
  have HF2 : Hid ((∀ p, p < fl.length → (f p).getD zeros = fl.getD p zeros) ∧ (tape = true → nf = fl.length ∧ ∀ p, (f p).isSome = decide (p < fl.length))) := hf2
  have HN : Hid (wt.length < 1099511627776) := hn
  clear hr hg hm hl hne hf1 hf2 hw hl1 hB hn
  go_enter Try.func40, Try.ntmps40
  go_upto_region 1 with fail
  refine wp_region_lit ?_
  refine wpList_move (.tmp 0) rfl rfl (ptr g) rfl ?_
  simp only [Act.put, List.setIfInBounds_toArray, List.set_cons_succ, List.set_cons_zero]
  refine wpList_nilCheck (.tmp 4) rfl rfl _ rfl ?_
  simp only [Act.put, List.setIfInBounds_toArray, List.set_cons_succ, List.set_cons_zero]
  refine wpList_load agg76 (.tmp 5) rfl rfl g 0 rfl [.bool tape, .int .i64 (size : Nat), .map (some bm), v, .map (some bl)] rfl (fun j u hu => by rw [Nat.zero_add]; exact HR.out.at j u hu) ?_
  simp only [Act.put, List.setIfInBounds_toArray, List.set_cons_succ, List.set_cons_zero]
  refine wpList_alloc_store agg76 _ zero76 rfl rfl rfl rfl rfl (.tmp 6) rfl [.bool tape, .int .i64 (size : Nat), .map (some bm), v, .map (some bl)] rfl rfl ?one (fun _ => rfl) (fun _ => rfl) ?_
  case one =>
    intro u hu
    simp only [List.mem_cons, List.not_mem_nil, or_false] at hu
    rcases hu with rfl | rfl | rfl | rfl | rfl
    · rfl
    · rfl
    · rfl
    · exact hvc.2
    · rfl
  intro w1 r1 s1 b1
  rw [← HB.out] at r1 s1 b1 ⊢
  refine wpList_nil ?_
  simp only [Act.put, List.setIfInBounds_toArray, List.set_cons_succ, List.set_cons_zero]
  have hgB : g < B := by have := HR.out.lt; have := HB.out; omega
  have HR1 : Hid (Row w1 B 76 [.bool tape, .int .i64 (size : Nat), .map (some bm), v, .map (some bl)]) := r1
  have HB1 : Hid (Below B w w1) := b1
  have HS1 : Hid (w1.heap.size = B + 1) := s1
  have HO1 : Hid (Row w1 g 76 [.bool tape, .int .i64 (size : Nat), .map (some bm), v, .map (some bl)]) := HR.out.later b1 hgB
  clear r1 s1 b1
  go_upto_region 2 with fail
  have HSS : Hid ((w1.drewN 1).cell? ⟨g, 0 + 2, none⟩ = some (.map (some bm)) ∧ (w1.drewN 1).cell? ⟨g, 0 + 4, none⟩ = some (.map (some bl))) := ⟨HO1.out.at 2 _ rfl, HO1.out.at 4 _ rfl⟩
  refine wp_region_any (by kernel_rfl) (wpAny_of_held (S := fun W => W.cell? ⟨g, 0 + 2, none⟩ = some (.map (some bm)) ∧ W.cell? ⟨g, 0 + 4, none⟩ = some (.map (some bl))) _ _ _ _ ?_)
  show wpAnyH _ _ _ _ _ 14 (Array.replicate 14 false) _ (w1.drewN 1)
  refine takeH (i := 0) (some 7) rfl rfl (by kernel_rfl) (by kernel_rfl) (by kernel_rfl) (fun _ _ _ h => h) (yMove rfl (.tmp 0) rfl (ptr g) rfl).yieldsIf HSS.out ?_
  simp only [Act.put, List.setIfInBounds_toArray, List.set_cons_succ, List.set_cons_zero]
  refine takeH (i := 1) (some 8) rfl rfl (by kernel_rfl) (by kernel_rfl) (by kernel_rfl) (fun _ _ _ h => h) (yNil rfl (.tmp 7) rfl _ rfl).yieldsIf HSS.out ?_
  simp only [Act.put, List.setIfInBounds_toArray, List.set_cons_succ, List.set_cons_zero]
  refine takeH (i := 2) (some 9) rfl rfl (by kernel_rfl) (by kernel_rfl) (by kernel_rfl) (fun _ _ _ h => h) (yField f76_2 rfl (.tmp 8) rfl g 0 rfl).yieldsIf HSS.out ?_
  simp only [Act.put, List.setIfInBounds_toArray, List.set_cons_succ, List.set_cons_zero]
  refine takeH (i := 3) (some 10) rfl rfl (by kernel_rfl) (by kernel_rfl) (by kernel_rfl) (fun _ _ _ h => h) (yLoad1H one72 rfl (.tmp 9) rfl g (0 + 2) rfl _ (fun W hW => hW.1)) HSS.out ?_
  simp only [Act.put, List.setIfInBounds_toArray, List.set_cons_succ, List.set_cons_zero]
  refine takeH (i := 5) (some 12) rfl rfl (by kernel_rfl) (by kernel_rfl) (by kernel_rfl) (fun _ _ _ h => h) (yMove rfl (.tmp 0) rfl (ptr g) rfl).yieldsIf HSS.out ?_
  simp only [Act.put, List.setIfInBounds_toArray, List.set_cons_succ, List.set_cons_zero]
  refine takeH (i := 6) (some 13) rfl rfl (by kernel_rfl) (by kernel_rfl) (by kernel_rfl) (fun _ _ _ h => h) (yNil rfl (.tmp 12) rfl _ rfl).yieldsIf HSS.out ?_
  simp only [Act.put, List.setIfInBounds_toArray, List.set_cons_succ, List.set_cons_zero]
  refine takeH (i := 7) (some 14) rfl rfl (by kernel_rfl) (by kernel_rfl) (by kernel_rfl) (fun _ _ _ h => h) (yField f76_4 rfl (.tmp 13) rfl g 0 rfl).yieldsIf HSS.out ?_
  simp only [Act.put, List.setIfInBounds_toArray, List.set_cons_succ, List.set_cons_zero]
  refine takeH (i := 8) (some 15) rfl rfl (by kernel_rfl) (by kernel_rfl) (by kernel_rfl) (fun _ _ _ h => h) (yLoad1H one74 rfl (.tmp 14) rfl g (0 + 4) rfl _ (fun W hW => hW.2)) HSS.out ?_
  simp only [Act.put, List.setIfInBounds_toArray, List.set_cons_succ, List.set_cons_zero]
  have HC58 : Hid (Calls Try.prog 58 #[.map (some bm)] (w1.drewN 1) fun e w' => e = .returned (.map (some (B + 1))) ∧ MapAt secs w' (B + 1) nf f ∧ Below (B + 1) (w1.drewN 1) w') := by
    have h1 : MapAt secs (w1.drewN 1) bm nf f := HF.out.kept (HB1.out.block bm (by have := HF.out.lt; have := HB.out; omega))
    have := mapClone58 h1
    rw [show (w1.drewN 1).heap.size = B + 1 from HS1.out] at this
    exact this
  refine oneH (i := 4) (by kernel_rfl) ?_
  refine opCallA (some 11) rfl rfl rfl 58 _ (run_call en58 [.tmp 10] _ rfl [.map (some bm)] rfl) ?_
  refine (HC58.out).mono ?_
  rintro e w2 ⟨rfl, m2, b2⟩
  have r2g : Row w2 g 76 [.bool tape, .int .i64 (size : Nat), .map (some bm), v, .map (some bl)] := Row.later (w := w1.drewN 1) HO1.out b2 (by omega)
  have r2B : Row w2 B 76 [.bool tape, .int .i64 (size : Nat), .map (some bm), v, .map (some bl)] := Row.later (w := w1.drewN 1) HR1.out b2 (by omega)
  have bw2 : Below B w w2 := HB1.out.trans ((Below.drewN (Below.refl B w1) 1).trans (b2.mono (by omega)))
  refine ⟨_, rfl, ⟨r2g.at 2 _ rfl, r2g.at 4 _ rfl⟩, ?_⟩
  simp only [Act.put, List.setIfInBounds_toArray, List.set_cons_succ, List.set_cons_zero]
  obtain ⟨q2, hq2⟩ : ∃ q2, q2 = w2.heap.size := ⟨_, rfl⟩
  have hm2 := m2.lt
  have HC59 : Hid (Calls Try.prog 59 #[.map (some bl)] w2 fun e w' => e = .returned (.map (some q2)) ∧ MapAt ints w' q2 nl (fun p => (lastIdx wt p).map fun j => (j : Int)) ∧ Below q2 w2 w') := by
    have h1 : MapAt ints w2 bl nl (fun p => (lastIdx wt p).map fun j => (j : Int)) := HL.out.kept (bw2.block bl (by have := HL.out.lt; have := HB.out; omega))
    have := mapClone59 h1
    rw [← hq2] at this
    exact this
  refine oneH (i := 9) (by kernel_rfl) ?_
  refine opCallA (some 16) rfl rfl rfl 59 _ (run_call en59 [.tmp 15] _ rfl [.map (some bl)] rfl) ?_
  refine (HC59.out).mono ?_
  rintro e w3 ⟨rfl, m3, b3⟩
  rw [← hq2] at hm2
  have r3g := r2g.later b3 (by omega)
  have r3B := r2B.later b3 (by omega)
  have bw3 : Below B w w3 := bw2.trans (b3.mono (by omega))
  have m3f : MapAt secs w3 (B + 1) nf f := m2.kept (b3.block _ (by omega))
  refine ⟨_, rfl, ⟨r3g.at 2 _ rfl, r3g.at 4 _ rfl⟩, ?_⟩
  simp only [Act.put, List.setIfInBounds_toArray, List.set_cons_succ, List.set_cons_zero]
  refine oneH (i := 10) (by kernel_rfl) ?_
  refine opValue (some 17) rfl rfl rfl _ _ (run_fieldOp f76_2 (.tmp 3) rfl B 0 rfl) ⟨⟨r3g.at 2 _ rfl, r3g.at 4 _ rfl⟩, ?_⟩
  simp only [Act.put, List.setIfInBounds_toArray, List.set_cons_succ, List.set_cons_zero]
  refine oneH (i := 11) (by kernel_rfl) ?_
  obtain ⟨w4, hw4⟩ : ∃ w4, w4 = w3.setRow B ([.bool tape, .int .i64 (size : Nat), .map (some (B + 1)), v, .map (some bl)] : List Value).toArray := ⟨_, rfl⟩
  have hrun4 := fun (aa : Act) (oo : Oper) (ho : oo.op = .store 72 (.tmp 17) (.tmp 11)) (hx : aa.eval (.tmp 17) = .pointer (some ⟨B, 0 + 2, none⟩)) (hy : aa.eval (.tmp 11) = .map (some (B + 1))) => run_storeOp1 (a := aa) (o := oo) size72 (.tmp 17) (.tmp 11) ho B (0 + 2) 76 hx (.map (some (B + 1))) _ hy rfl rfl r3B (by simp)
  have e4 : w3.setRow B (([.bool tape, .int .i64 (size : Nat), .map (some bm), v, .map (some bl)] : List Value).set (0 + 2) (.map (some (B + 1)))).toArray = w4 := by rw [hw4]; rfl
  simp only [e4] at hrun4
  have r4B : Row w4 B 76 [.bool tape, .int .i64 (size : Nat), .map (some (B + 1)), v, .map (some bl)] := by rw [hw4]; exact r3B.setRow _
  have k4 : ∀ b, b ≠ B → w4.heap[b]? = w3.heap[b]? := fun b hb => by rw [hw4]; exact Go.setRow_other w3 B b _ hb
  have s4 : w4.heap.size = w3.heap.size := by rw [hw4]; simp [World.setRow]
  have r4g : Row w4 g 76 [.bool tape, .int .i64 (size : Nat), .map (some bm), v, .map (some bl)] := by
    show w4.heap[g]? = _
    rw [k4 g (by omega)]
    exact r3g
  have bw4 : Below B w w4 := bw3.trans ⟨by rw [hw4]; rfl, by rw [hw4]; rfl, by rw [hw4]; rfl, by omega, fun b hb => k4 b (by omega)⟩
  refine opSkip rfl rfl rfl w4 (hrun4 _ _ rfl rfl rfl) ⟨⟨r4g.at 2 _ rfl, r4g.at 4 _ rfl⟩, ?_⟩
  refine oneH (i := 12) (by kernel_rfl) ?_
  refine opValue (some 18) rfl rfl rfl _ _ (run_fieldOp f76_4 (.tmp 3) rfl B 0 rfl) ⟨⟨r4g.at 2 _ rfl, r4g.at 4 _ rfl⟩, ?_⟩
  simp only [Act.put, List.setIfInBounds_toArray, List.set_cons_succ, List.set_cons_zero]
  refine oneH (i := 13) (by kernel_rfl) ?_
  obtain ⟨w5, hw5⟩ : ∃ w5, w5 = w4.setRow B ([.bool tape, .int .i64 (size : Nat), .map (some (B + 1)), v, .map (some q2)] : List Value).toArray := ⟨_, rfl⟩
  have hrun5 := fun (aa : Act) (oo : Oper) (ho : oo.op = .store 74 (.tmp 18) (.tmp 16)) (hx : aa.eval (.tmp 18) = .pointer (some ⟨B, 0 + 4, none⟩)) (hy : aa.eval (.tmp 16) = .map (some q2)) => run_storeOp1 (a := aa) (o := oo) size74 (.tmp 18) (.tmp 16) ho B (0 + 4) 76 hx (.map (some q2)) _ hy rfl rfl r4B (by simp)
  have e5 : w4.setRow B (([.bool tape, .int .i64 (size : Nat), .map (some (B + 1)), v, .map (some bl)] : List Value).set (0 + 4) (.map (some q2))).toArray = w5 := by rw [hw5]; rfl
  simp only [e5] at hrun5
  have r5B : Row w5 B 76 [.bool tape, .int .i64 (size : Nat), .map (some (B + 1)), v, .map (some q2)] := by rw [hw5]; exact r4B.setRow _
  have k5 : ∀ b, b ≠ B → w5.heap[b]? = w4.heap[b]? := fun b hb => by rw [hw5]; exact Go.setRow_other w4 B b _ hb
  have s5 : w5.heap.size = w4.heap.size := by rw [hw5]; simp [World.setRow]
  have r5g : Row w5 g 76 [.bool tape, .int .i64 (size : Nat), .map (some bm), v, .map (some bl)] := by
    show w5.heap[g]? = _
    rw [k5 g (by omega)]
    exact r4g
  have bw5 : Below B w w5 := bw4.trans ⟨by rw [hw5]; rfl, by rw [hw5]; rfl, by rw [hw5]; rfl, by omega, fun b hb => k5 b (by omega)⟩
  refine opSkip rfl rfl rfl w5 (hrun5 _ _ rfl rfl rfl) ⟨⟨r5g.at 2 _ rfl, r5g.at 4 _ rfl⟩, ?_⟩
  refine wpAnyH_done (by kernel_rfl) ?_ _
  have hq3 : q2 < w5.heap.size := by have := m3.lt; omega
  have HM5 : Hid (MapAt secs w5 (B + 1) nf f) := (m3f.kept (k4 _ (by omega))).kept (k5 _ (by omega))
  have HL5 : Hid (MapAt ints w5 q2 nl (fun p => (lastIdx wt p).map fun j => (j : Int))) := (m3.kept (k4 _ (by omega))).kept (k5 _ (by omega))
  have HB5 : Hid (Below B w w5) := bw5
  have HR5 : Hid (Row w5 B 76 [.bool tape, .int .i64 (size : Nat), .map (some (B + 1)), v, .map (some q2)]) := r5B
  have HG5 : Hid (Row w5 g 76 [.bool tape, .int .i64 (size : Nat), .map (some bm), v, .map (some bl)]) := r5g
  have HQ5 : Hid (q2 < w5.heap.size ∧ B + 1 < q2) := ⟨hq3, hm2⟩
  clear hq3 hq2 hm2 m2 m3 m3f b2 b3 r2g r2B r3g r3B bw2 bw3 hw4 hrun4 e4 r4B k4 s4 r4g bw4 hw5 hrun5 e5 r5B k5 s5 r5g bw5 HC58 HC59 HSS HO1 HR1 HB1 HS1
  go_upto_region 3 with fail
  refine wp_region_lit ?_
  refine wpList_move (.tmp 0) rfl rfl (ptr g) rfl ?_
  simp only [Act.put, List.setIfInBounds_toArray, List.set_cons_succ, List.set_cons_zero]
  refine wpList_nilCheck (.tmp 19) rfl rfl _ rfl ?_
  simp only [Act.put, List.setIfInBounds_toArray, List.set_cons_succ, List.set_cons_zero]
  refine wpList_field f76_3 (.tmp 20) rfl rfl g 0 rfl ?_
  simp only [Act.put, List.setIfInBounds_toArray, List.set_cons_succ, List.set_cons_zero]
  refine wpList_load1 one73 (.tmp 21) rfl rfl g (0 + 3) rfl v (HG5.out.at 3 _ rfl) ?_
  simp only [Act.put, List.setIfInBounds_toArray, List.set_cons_succ, List.set_cons_zero]
  refine wpList_callF en60 [.tmp 22] _ rfl rfl [v] rfl ?_
  have hw5 : WtIn w5 c k v wt := HW.out.kept fun b hb hk => ⟨HB5.out.block b (by have := HB.out; omega), hk⟩
  refine (waitClone hw5 HN.out k').mono ?_
  rintro e w6 ⟨v6, rfl, i6, b6⟩
  refine ⟨_, rfl, ?_⟩
  simp only [Act.put, List.setIfInBounds_toArray, List.set_cons_succ, List.set_cons_zero]
  have hB5 : B < w5.heap.size := HR5.out.lt
  have r6 := HR5.out.later b6 hB5
  have hv6 := slice_cells i6
  refine wpList_field f76_3 (.tmp 3) rfl rfl B 0 rfl ?_
  simp only [Act.put, List.setIfInBounds_toArray, List.set_cons_succ, List.set_cons_zero]
  refine wpList_store1 size73 (.tmp 24) (.tmp 23) rfl rfl rfl B (0 + 3) 76 rfl v6 _ rfl hv6.1 hv6.2 r6 (by simp) ?_
  refine wpList_nil ?_
  obtain ⟨w7, hw7⟩ : ∃ w7, w7 = w6.setRow B ([.bool tape, .int .i64 (size : Nat), .map (some (B + 1)), v6, .map (some q2)] : List Value).toArray := ⟨_, rfl⟩
  have e7 : w6.setRow B (([.bool tape, .int .i64 (size : Nat), .map (some (B + 1)), v, .map (some q2)] : List Value).set (0 + 3) v6).toArray = w7 := by rw [hw7]; rfl
  rw [e7]
  have k7 : ∀ b, b ≠ B → w7.heap[b]? = w6.heap[b]? := fun b hb => by rw [hw7]; exact Go.setRow_other w6 B b _ hb
  have s7 : w7.heap.size = w6.heap.size := by rw [hw7]; simp [World.setRow]
  have HD : Hid (DevIn w7 (paint c B k') k' B tape size fl wt) := by
    have hq := HQ5.out
    refine ⟨B + 1, q2, v6, by rw [hw7]; exact r6.setRow _, paint_new _ _ _ _ (by omega), paint_new _ _ _ _ (by omega), paint_new _ _ _ _ (by omega), by omega, ⟨f, nf, (HM5.out.kept (b6.block _ (by omega))).kept (k7 _ (by omega)), HF2.out⟩, ?_, ⟨nl, (HL5.out.kept (b6.block _ (by omega))).kept (k7 _ (by omega))⟩⟩
    refine ⟨ownsRow_kept i6.1 fun b hb => k7 b ?_, fun b hb => ?_⟩
    · rintro rfl
      obtain ⟨_, cur, hcur⟩ := ownBlock_lt i6.1 hb
      rw [show w6.heap[b]? = _ from r6] at hcur
      simp at hcur
    · have := i6.2 b hb
      by_cases hlt : B ≤ b
      · exact paint_new _ _ _ _ hlt
      · rw [paint_old _ _ _ _ (by omega)] at this ⊢
        exact this
  have HB7 : Hid (Below B w w7) := (HB5.out.trans (b6.mono (by omega))).trans ⟨by rw [hw7]; rfl, by rw [hw7]; rfl, by rw [hw7]; rfl, by omega, fun b hb => k7 b (by omega)⟩
  clear e7 k7 s7 hw7 r6 hv6 i6 b6 hw5 hB5
  go_wp2
  go_ret
  exact ⟨B, rfl, Nat.le_refl _, HD.out, HB7.out⟩
end Go.Proofs.Ytdddfjkecmnggaa

namespace Go.Proofs.Ytdddfjkecmnggaa
open Go.RowKit Go.Maps

def CloneIn (W : World) (c : Nat → Colour) (t B q N : Nat) (m : Pl) (k : Nat) : Prop :=
  ∃ (L : List Value) (gs : Nat → Nat), Row W B 69 [.slice (some ⟨q, 0, none⟩) N N, .bool m.on, .int .i64 m.fuse, .int .i64 (m.steps : Nat), .int .i64 m.clock] ∧ c B = (t, 0) ∧ Row W q 70 L ∧ c q = (t, 0) ∧ L.length = N ∧ (∀ i, i < k → L[i]? = some (ptr (gs i))) ∧
    ∀ i, i < k → DevIn W c (t, i + 1) (gs i) (m.tape i) (m.size i) (m.fl i) (m.wt i)
theorem clone_step {W W5 : World} {c : Nat → Colour} {t B q N k gd : Nat} {m : Pl} {L : List Value} {gs : Nat → Nat} (hr : Row W B 69 [.slice (some ⟨q, 0, none⟩) N N, .bool m.on, .int .i64 m.fuse, .int .i64 (m.steps : Nat), .int .i64 m.clock]) (hcB : c B = (t, 0)) (hq : Row W q 70 L) (hcq : c q = (t, 0)) (hL : L.length = N) (hc : ∀ i, i < k → L[i]? = some (ptr (gs i)))
    (hd : ∀ i, i < k → DevIn W c (t, i + 1) (gs i) (m.tape i) (m.size i) (m.fl i) (m.wt i)) (hk : k < N)
    (hd5 : DevIn W5 (paint c W.heap.size (t, k + 1)) (t, k + 1) gd (m.tape k) (m.size k) (m.fl k) (m.wt k)) (hb : Below W.heap.size W W5) (hne : B ≠ q) :
    CloneIn (W5.setRow q (L.set k (ptr gd)).toArray) (paint c W.heap.size (t, k + 1)) t B q N m (k + 1) := by
  have hq5 : Row W5 q 70 L := hq.later hb hq.lt
  have hr5 := hr.later hb hr.lt
  refine ⟨L.set k (ptr gd), fun i => if i = k then gd else gs i, hr5.setRow_other hne _, by rw [paint_old _ _ _ _ hr.lt]; exact hcB, hq5.setRow _, by rw [paint_old _ _ _ _ hq.lt]; exact hcq, by simpa using hL, fun i hi => ?_, fun i hi => ?_⟩
  · by_cases e : i = k
    · subst e
      rw [List.getElem?_set_self (by omega)]
      simp
    · rw [List.getElem?_set_ne (Ne.symm e)]
      simp only [if_neg e]
      exact hc i (by omega)
  · by_cases e : i = k
    · subst e
      simp only [if_pos]
      refine hd5.kept fun b hlt hkk => ⟨Go.setRow_other W5 q b _ ?_, hkk⟩
      rintro rfl
      rw [paint_old _ _ _ _ hq.lt, hcq] at hkk
      simp at hkk
    · simp only [if_neg e]
      refine (hd i (by omega)).kept fun b hlt hkk => ⟨?_, by rw [paint_old _ _ _ _ hlt]; exact hkk⟩
      rw [Go.setRow_other W5 q b _ (by rintro rfl; rw [hcq] at hkk; simp at hkk)]
      exact hb.block b hlt
theorem clone_done {W : World} {c : Nat → Colour} {t B q N : Nat} {m : Pl} (h : CloneIn W c t B q N m N) (hN : N = m.n) (hne : q ≠ B) : ∃ gs, PlantAt W c t B q N gs m := by
  obtain ⟨L, gs, hr, hcB, hq, hcq, hL, hc, hd⟩ := h
  subst hN
  exact ⟨gs, ⟨hr, hcB, hcq, hne, hq.lt, Nat.le_refl _, fun i hi => hq.at i _ (hc i hi), hd⟩⟩
theorem wpList_len67 {w : World} {ops : Array Oper} {rest : List Oper} {o : Oper} {a : Act} {Q : Exit → Act → World → Prop} (x : Operand) (hgd : o.guard = none) (ho : o.op = .call { callee := .builtin .len, args := #[x], argTypes := #[67] }) (p : Option Addr) (n cap : Nat) (hx : a.eval x = .slice p n cap)
    (h : wpList Try.prog ops Q rest (a.put o.dst (.int .i64 (n : Nat))) w) : wpList Try.prog ops Q (o :: rest) a w :=
  wpList_value hgd _ w (by
    have hl := run_len_slice (P := Try.prog) (w := w) 67 o.type p n cap (by kernel_rfl)
    simp only [execOp, ho, resolve, invoke, builtin, Sem.run_bind, Sem.run_pure, Result.andThen_ok, List.map_toArray, List.map_cons, List.map_nil, hx, hl]
    rfl) h
theorem zero69 : (Try.prog.info? 69).map (·.zero) = some (some (.agg ([.slice none 0 0, .bool false, .int .i64 0, .int .i64 0, .int .i64 0] : List Value).toArray)) := by kernel_rfl
theorem en40 : EntersF 40 := Go.Proofs.enters_of Try.func40 (by kernel_rfl) rfl
theorem run_indexOp {w : World} {a : Act} {o : Oper} {t e n : Nat} (ht : Try.prog.underlying t = some (.slice e)) (hs : (Try.prog.info? e).map (·.size) = some n) (x ix : Operand) (ho : o.op = .indexAddr t x ix) (b off len cap j : Nat) (hx : a.eval x = .slice (some ⟨b, off, none⟩) len cap)
    (hix : a.eval ix = .int .i64 (j : Nat)) (hj : j < len) : (execOp a.eval o).run Try.prog w = .ok (.value (.pointer (some ⟨b, off + j * n, none⟩))) w := by
  obtain ⟨i, hi, hsz⟩ := Option.map_eq_some_iff.1 hs
  simp [execOp, ho, hx, hix, Instr.indexAt, asIntOf, run_underlying ht, sizeOf, typeInfo, hi, hsz, hj, add_none]

set_option maxHeartbeats 1000000 in
set_option maxRecDepth 100000 in
theorem clone_any {w : World} {c : Nat → Colour} {t g db cap : Nat} {gs : Nat → Nat} {m : Pl} (h : PlantAt w c t g db cap gs m) (hwf : m.WF) (hst : m.steps < 1099511627775) (t' : Nat) :
    Calls Try.prog 12 #[ptr g] w fun e w' => ∃ g' c' db' cap' gs', e = .returned (ptr g') ∧ w.heap.size ≤ g' ∧ (∀ b, b < w.heap.size → c' b = c b) ∧ PlantAt w' c' t' g' db' cap' gs' m ∧ Below w.heap.size w w' := by
  obtain ⟨B, hB⟩ : ∃ B, B = w.heap.size := ⟨_, rfl⟩
  obtain ⟨N, hN⟩ : ∃ N, N = m.n := ⟨_, rfl⟩
  rw [← hB]
  have HB : Hid (B = w.heap.size) := hB
  have HN : Hid (N = m.n) := hN
  have hN12 : N ≤ 12 := by rw [hN]; exact hwf.few
  have HP : Hid (PlantAt w c t g db cap gs m) := h
  have HWF : Hid (m.WF) := hwf
  have HST : Hid (m.steps < 1099511627775) := hst
  have HR : Hid (Row w g 69 [.slice (some ⟨db, 0, none⟩) N cap, .bool m.on, .int .i64 m.fuse, .int .i64 (m.steps : Nat), .int .i64 m.clock]) := by rw [hN]; exact h.row
  have hgB : g < B := by have := h.row.lt; omega
  clear h hwf hst hB hN
  go_enter Try.func12, Try.ntmps12
  go_upto_region 1 with fail
  refine wp_region_lit ?_
  refine wpList_move (.tmp 0) rfl rfl (ptr g) rfl ?_
  simp only [Act.put, List.setIfInBounds_toArray, List.set_cons_succ, List.set_cons_zero]
  refine wpList_nilCheck (.tmp 6) rfl rfl _ rfl ?_
  simp only [Act.put, List.setIfInBounds_toArray, List.set_cons_succ, List.set_cons_zero]
  refine wpList_load agg69 (.tmp 7) rfl rfl g 0 rfl [.slice (some ⟨db, 0, none⟩) N cap, .bool m.on, .int .i64 m.fuse, .int .i64 (m.steps : Nat), .int .i64 m.clock] rfl (fun j u hu => by rw [Nat.zero_add]; exact HR.out.at j u hu) ?_
  simp only [Act.put, List.setIfInBounds_toArray, List.set_cons_succ, List.set_cons_zero]
  refine wpList_alloc_store agg69 _ zero69 rfl rfl rfl rfl rfl (.tmp 8) rfl [.slice (some ⟨db, 0, none⟩) N cap, .bool m.on, .int .i64 m.fuse, .int .i64 (m.steps : Nat), .int .i64 m.clock] rfl rfl ?one (fun _ => rfl) (fun _ => rfl) ?_
  case one =>
    intro u hu
    simp only [List.mem_cons, List.not_mem_nil, or_false] at hu
    rcases hu with rfl | rfl | rfl | rfl | rfl <;> rfl
  intro w1 r1 s1 b1
  rw [← HB.out] at r1 s1 b1 ⊢
  refine wpList_nil ?_
  simp only [Act.put, List.setIfInBounds_toArray, List.set_cons_succ, List.set_cons_zero]
  obtain ⟨i0, hi0, hz0, hz1, hz2⟩ := info_parts info70
  have hmk0 := run_make (P := Try.prog) w1 67 70 i0 _ und67 hi0 hz0 .i64 .i64 (N : Int) (N : Int) (by omega) (Int.le_refl _) (by rw [hz2]; omega) (by omega)
  simp only [Int.toNat_natCast, s1, hz1] at hmk0
  obtain ⟨L0, hL0⟩ : ∃ L0, L0 = (madeCells (Value.pointer none).cells (N * 1)).toList := ⟨_, rfl⟩
  obtain ⟨w2, hw2⟩ : ∃ w2, w2 = w1.alloc (.cells (madeCells (Value.pointer none).cells (N * 1)) 70) := ⟨_, rfl⟩
  have hmk : (Instr.makeSlice 67 (.int .i64 (N : Int)) (.int .i64 (N : Int))).run Try.prog w1 = .ok (.slice (some ⟨B + 1, 0, none⟩) N N) w2 := by rw [hw2]; exact hmk0
  have hl0 : L0.length = N := by rw [hL0]; simp [size_madeCells]
  have r2q : Row w2 (B + 1) 70 L0 := by
    have := Row.new' w1 70 (madeCells (Value.pointer none).cells (N * 1))
    rw [s1, ← hL0, ← hw2] at this
    exact this
  have b2 : Below (B + 1) w1 w2 := by rw [hw2]; exact (Below.refl _ w1).alloc (by omega) _
  have s2 : w2.heap.size = B + 2 := by rw [hw2]; simp [s1]
  have r2B := r1.later b2 (by omega)
  have HR1g : Hid (Row w1 g 69 [.slice (some ⟨db, 0, none⟩) N cap, .bool m.on, .int .i64 m.fuse, .int .i64 (m.steps : Nat), .int .i64 m.clock]) := HR.out.later b1 hgB
  have HR2g : Hid (Row w2 g 69 [.slice (some ⟨db, 0, none⟩) N cap, .bool m.on, .int .i64 m.fuse, .int .i64 (m.steps : Nat), .int .i64 m.clock]) := HR1g.out.later b2 (by omega)
  obtain ⟨w3, hw3⟩ : ∃ w3, w3 = w2.setRow B ([.slice (some ⟨B + 1, 0, none⟩) N N, .bool m.on, .int .i64 m.fuse, .int .i64 (m.steps : Nat), .int .i64 m.clock] : List Value).toArray := ⟨_, rfl⟩
  have r3B : Row w3 B 69 [.slice (some ⟨B + 1, 0, none⟩) N N, .bool m.on, .int .i64 m.fuse, .int .i64 (m.steps : Nat), .int .i64 m.clock] := by rw [hw3]; exact r2B.setRow _
  have r3q : Row w3 (B + 1) 70 L0 := by rw [hw3]; exact r2q.setRow_other (by omega) _
  have b3 : Below B w w3 := by
    rw [hw3]
    exact (b1.trans (b2.mono (by omega))).trans ⟨rfl, rfl, rfl, by simp [World.setRow], fun k hk => Go.setRow_other w2 B k _ (by omega)⟩
  have HI : Hid (CloneIn w3 (paint c B (t', 0)) t' B (B + 1) N m 0) := ⟨L0, fun _ => 0, r3B, paint_new _ _ _ _ (by omega), r3q, paint_new _ _ _ _ (by omega), hl0, fun i hi => (by omega), fun i hi => (by omega)⟩
  have HB3 : Hid (Below B w w3) := b3
  have HR3g : Hid (Row w3 g 69 [.slice (some ⟨db, 0, none⟩) N cap, .bool m.on, .int .i64 m.fuse, .int .i64 (m.steps : Nat), .int .i64 m.clock]) := HR.out.later b3 hgB
  have hs3 : w3.heap.size = B + 2 := by rw [hw3]; simpa [World.setRow] using s2
  have HS3 : Hid (w3.heap.size = B + 2) := hs3
  have c1 := HR1g.out.at 0 _ rfl
  have c3 := HR3g.out.at 0 _ rfl
  have hst3 : w2.setRow B (([.slice (some ⟨db, 0, none⟩) N cap, .bool m.on, .int .i64 m.fuse, .int .i64 (m.steps : Nat), .int .i64 m.clock] : List Value).set (0 + 0) (.slice (some ⟨B + 1, 0, none⟩) N N)).toArray = w3 := by rw [hw3]; rfl
  clear r1 s1 b1 hi0 hz0 hz1 hz2 hmk0 hL0 hw2 hl0 r2q b2 s2 hs3 r3B r3q b3 hw3
  go_upto_region 2 with fail
  refine wp_region_lit ?_
  refine wpList_move (.tmp 0) rfl rfl (ptr g) rfl ?_
  simp only [Act.put, List.setIfInBounds_toArray, List.set_cons_succ, List.set_cons_zero]
  refine wpList_nilCheck (.tmp 9) rfl rfl _ rfl ?_
  simp only [Act.put, List.setIfInBounds_toArray, List.set_cons_succ, List.set_cons_zero]
  refine wpList_field f69_0 (.tmp 10) rfl rfl g 0 rfl ?_
  simp only [Act.put, List.setIfInBounds_toArray, List.set_cons_succ, List.set_cons_zero]
  refine wpList_load1 one67 (.tmp 11) rfl rfl g (0 + 0) rfl _ c1 ?_
  simp only [Act.put, List.setIfInBounds_toArray, List.set_cons_succ, List.set_cons_zero]
  refine wpList_len67 (.tmp 12) rfl rfl _ N cap rfl ?_
  simp only [Act.put, List.setIfInBounds_toArray, List.set_cons_succ, List.set_cons_zero]
  refine wpList_value rfl (.slice (some ⟨B + 1, 0, none⟩) N N) w2 (by simp [execOp, Act.eval, hmk]) ?_
  simp only [Act.put, List.setIfInBounds_toArray, List.set_cons_succ, List.set_cons_zero]
  refine wpList_field f69_0 (.tmp 3) rfl rfl B 0 rfl ?_
  simp only [Act.put, List.setIfInBounds_toArray, List.set_cons_succ, List.set_cons_zero]
  refine wpList_store1 size67 (.tmp 15) (.tmp 14) rfl rfl rfl B (0 + 0) 69 rfl (.slice (some ⟨B + 1, 0, none⟩) N N) _ rfl rfl rfl r2B (by simp) ?_
  refine wpList_nil ?_
  rw [hst3]
  clear hst3 r2B hmk c1 HR1g HR2g
  go_wp2
  go_loopw [21] (fun ix W => ∃ n : Nat, n ≤ N ∧ ix = .int .i64 n ∧ ∃ c', (∀ b, b < B → c' b = c b) ∧ CloneIn W c' t' B (B + 1) N m n ∧ Below B w W) (fun ix _ => N - (intOf ix).toNat)
  case atStart => exact ⟨0, Nat.zero_le _, rfl, _, fun b hb => paint_old _ _ _ _ hb, HI.out, HB3.out⟩
  case round =>
    obtain ⟨n, hn, rfl, c', hcc, hin, hbw⟩ := hrel
    clear c3 HI
    by_cases hlt : n < N
    · have hcell := HP.out.cell n (by rw [← HN.out]; exact hlt)
      have cn : wr.cell? ⟨db, n, none⟩ = some (ptr (gs n)) := cell_later (by rw [← HB.out]; exact hbw) hcell
      obtain ⟨L, gl, hr, hcB, hq, hcq, hL, hc, hd⟩ := hin
      have HIN : Hid (Row wr B 69 [.slice (some ⟨B + 1, 0, none⟩) N N, .bool m.on, .int .i64 m.fuse, .int .i64 (m.steps : Nat), .int .i64 m.clock] ∧ c' B = (t', 0) ∧ Row wr (B + 1) 70 L ∧ c' (B + 1) = (t', 0) ∧ L.length = N ∧ (∀ i, i < n → L[i]? = some (ptr (gl i))) ∧ ∀ i, i < n → DevIn wr c' (t', i + 1) (gl i) (m.tape i) (m.size i) (m.fl i) (m.wt i)) := ⟨hr, hcB, hq, hcq, hL, hc, hd⟩
      have HBL : Hid (Below B w wr ∧ (∀ b, b < B → c' b = c b)) := ⟨hbw, hcc⟩
      have HDV : Hid (DevIn wr c' (t, n + 1) (gs n) (m.tape n) (m.size n) (m.fl n) (m.wt n)) := (HP.out.dev n (by rw [← HN.out]; exact hlt)).kept fun b hb hk => ⟨hbw.block b (by have := HB.out; omega), (hcc b (by have := HB.out; omega)).trans hk⟩
      clear hcell hr hcB hq hcq hL hc hd hbw hcc
      go_upto_region 6 with fail
      have HSS : Hid ((wr.drewN 1).cell? ⟨B, 0 + 0, none⟩ = some (.slice (some ⟨B + 1, 0, none⟩) N N)) := HIN.out.1.at 0 _ rfl
      refine wp_region_any (by kernel_rfl) (wpAny_of_held (S := fun W => W.cell? ⟨B, 0 + 0, none⟩ = some (.slice (some ⟨B + 1, 0, none⟩) N N)) _ _ _ _ ?_)
      show wpAnyH _ _ _ _ _ 7 (Array.replicate 7 false) _ (wr.drewN 1)
      refine takeH (i := 0) (some 26) rfl rfl (by kernel_rfl) (by kernel_rfl) (by kernel_rfl) (fun _ _ _ h => h) (yField f69_0 rfl (.tmp 3) rfl B 0 rfl).yieldsIf HSS.out ?_
      simp only [Act.put, List.setIfInBounds_toArray, List.set_cons_succ, List.set_cons_zero]
      refine takeH (i := 1) (some 27) rfl rfl (by kernel_rfl) (by kernel_rfl) (by kernel_rfl) (fun _ _ _ h => h) (yLoad1H one67 rfl (.tmp 26) rfl B (0 + 0) rfl _ (fun W hW => hW)) HSS.out ?_
      simp only [Act.put, List.setIfInBounds_toArray, List.set_cons_succ, List.set_cons_zero]
      refine takeH (i := 2) (some 28) rfl rfl (by kernel_rfl) (by kernel_rfl) (by kernel_rfl) (fun _ _ _ h => h) (yMove rfl (.tmp 4) rfl (.int .i64 (n : Int)) rfl).yieldsIf HSS.out ?_
      simp only [Act.put, List.setIfInBounds_toArray, List.set_cons_succ, List.set_cons_zero]
      refine takeH (i := 3) (some 29) rfl rfl (by kernel_rfl) (by kernel_rfl) (by kernel_rfl) (fun _ _ _ h => h) (yMove rfl (.tmp 5) rfl (ptr (gs n)) rfl).yieldsIf HSS.out ?_
      simp only [Act.put, List.setIfInBounds_toArray, List.set_cons_succ, List.set_cons_zero]
      refine oneH (i := 4) (by kernel_rfl) ?_
      have hwl : (m.wt n).length < 1099511627776 := by
        have h1 := HWF.out.count
        have h2 : (m.wt n).length ≤ m.wts.length := List.length_filter_le _ _
        have := HST.out
        omega
      have hcall := devClone_any (w := wr.drewN 1) HDV.out hwl (t', n + 1)
      refine opCallA (some 30) rfl rfl rfl 40 _ (run_call en40 [.tmp 29] _ rfl [ptr (gs n)] rfl) (hcall.mono ?_)
      rintro e w5 ⟨gd, rfl, hgd, hd5, hb5⟩
      have hb5' : Below wr.heap.size wr w5 := (Below.drewN (Below.refl wr.heap.size wr) 1).trans hb5
      obtain ⟨hr, hcB, hq, hcq, hL, hc, hd⟩ := HIN.out
      have r5 := hr.later hb5' hr.lt
      have q5 := hq.later hb5' hq.lt
      refine ⟨_, rfl, r5.at 0 _ rfl, ?_⟩
      simp only [Act.put, List.setIfInBounds_toArray, List.set_cons_succ, List.set_cons_zero]
      refine oneH (i := 5) (by kernel_rfl) ?_
      refine opValue (some 31) rfl rfl rfl _ _ (run_indexOp und67 size70 (.tmp 27) (.tmp 28) rfl (B + 1) 0 N N n rfl rfl hlt) ⟨r5.at 0 _ rfl, ?_⟩
      simp only [Act.put, List.setIfInBounds_toArray, List.set_cons_succ, List.set_cons_zero]
      refine oneH (i := 6) (by kernel_rfl) ?_
      have hN6 := clone_step (m := m) hr hcB hq hcq hL hc hd hlt hd5 hb5' (by omega)
      have hrun6 := fun (aa : Act) (oo : Oper) (ho : oo.op = .store 70 (.tmp 31) (.tmp 30)) (hx : aa.eval (.tmp 31) = .pointer (some ⟨B + 1, 0 + n * 1, none⟩)) (hy : aa.eval (.tmp 30) = ptr gd) => run_storeOp1 (a := aa) (o := oo) size70 (.tmp 31) (.tmp 30) ho (B + 1) (0 + n * 1) 70 hx (ptr gd) _ hy rfl rfl q5 (by omega)
      obtain ⟨w6, hw6⟩ : ∃ w6, w6 = w5.setRow (B + 1) (L.set n (ptr gd)).toArray := ⟨_, rfl⟩
      have e6 : w5.setRow (B + 1) (L.set (0 + n * 1) (ptr gd)).toArray = w6 := by rw [hw6, show 0 + n * 1 = n by omega]
      simp only [e6] at hrun6
      rw [← hw6] at hN6
      have r6 : Row w6 B 69 [.slice (some ⟨B + 1, 0, none⟩) N N, .bool m.on, .int .i64 m.fuse, .int .i64 (m.steps : Nat), .int .i64 m.clock] := by rw [hw6]; exact r5.setRow_other (by omega) _
      refine opSkip rfl rfl rfl w6 (hrun6 _ _ rfl rfl rfl) ⟨r6.at 0 _ rfl, ?_⟩
      refine wpAnyH_done (by kernel_rfl) ?_ _
      have HN6 : Hid (CloneIn w6 (paint c' wr.heap.size (t', n + 1)) t' B (B + 1) N m (n + 1)) := hN6
      have HB6 : Hid (Below B w w6) := by
        have hsz : B ≤ wr.heap.size := by have := hr.lt; omega
        rw [hw6]
        exact (HBL.out.1.trans (hb5'.mono hsz)).trans ⟨rfl, rfl, rfl, by simp [World.setRow], fun k hk => Go.setRow_other w5 (B + 1) k _ (by omega)⟩
      have HC6 : Hid (∀ b, b < B → paint c' wr.heap.size (t', n + 1) b = c b) := fun b hb => by
        rw [paint_old _ _ _ _ (by have := hr.lt; omega)]
        exact HBL.out.2 b hb
      clear hN6 hrun6 hw6 e6 r6 q5 r5 hr hcB hq hcq hL hc hd hb5' hb5 hd5 hcall hwl HSS
      go_wp2
      exact ⟨⟨n + 1, by omega, by go_num, _, HC6.out, HN6.out, HB6.out⟩, by simp [intOf]; omega⟩
    · have e : n = N := by omega
      subst e
      have HIN : Hid (CloneIn wr c' t' B (B + 1) n m n) := hin
      have HBL : Hid (Below B w wr ∧ (∀ b, b < B → c' b = c b)) := ⟨hbw, hcc⟩
      clear hin hbw hcc
      go_wp2
      go_ret
      obtain ⟨gs', hP'⟩ := clone_done HIN.out HN.out (by omega)
      exact ⟨B, c', B + 1, n, gs', rfl, Nat.le_refl _, HBL.out.2, hP', HBL.out.1⟩
/-- a plant's double -/
theorem Live.clone {w : World} {c : Nat → Colour} {t g : Nat} {m : Pl} (h : Live w c t g m) (hst : m.steps < 1099511627775) (t' : Nat) :
    Calls Try.prog 12 #[ptr g] w fun e w' => ∃ g' c', e = .returned (ptr g') ∧ w.heap.size ≤ g' ∧ (∀ b, b < w.heap.size → c' b = c b) ∧ (∀ b, w.heap.size ≤ b → (c' b).1 = t' ∨ (c' b).1 = t' + 1) ∧ Live w' c' t' g' m ∧ Below w.heap.size w w' := by
  obtain ⟨⟨db, cap, gs, hP⟩, hwf, _⟩ := h
  refine (clone_any hP hwf hst t').mono fun e w' ⟨g', c', db', cap', gs', he, hg, hcc, hP', hb⟩ => ?_
  obtain ⟨c2, h1, h2, h3, _⟩ := Live.post (w := w) (c := c) (t := t') (g := g') ⟨c', hcc, hP', Ch.of_below hb⟩ hwf
  exact ⟨g', c2, he, hg, h1, h2, h3, hb⟩
end Go.Proofs.Ytdddfjkecmnggaa

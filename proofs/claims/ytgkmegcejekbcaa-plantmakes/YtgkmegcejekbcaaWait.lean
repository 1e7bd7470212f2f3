/- The walk of device.wait: a write is taken. -/
import Derived.Test.YtgkmegcejekbcaaOrders
namespace Go.Proofs.Ytgkmegcejekbcaa
open Go.RowKit Go.Maps

section
variable {w : World} {ops : Array Oper} {rest : List Oper} {o : Oper} {a : Act} {Q : Exit → Act → World → Prop}
theorem splice_one {α : Type} (cur : List α) (i : Nat) (v : α) (h : i < cur.length) : splice cur i [v] = cur.set i v := by
  unfold splice
  rw [List.set_eq_take_append_cons_drop, if_pos h]
  rfl
theorem run_store1 {t : Nat} (ht : (Try.prog.info? t).map (·.size) = some 1) (w : World) (g off T : Nat) (cur : List Value) (v : Value) (hv : v.cells = #[v]) (h1 : v.oneCell' = true) (hr : Row w g T cur) (hfit : off < cur.length) :
    (storeVar t ⟨g, off, none⟩ v).run Try.prog w = .ok () (w.setRow g (cur.set off v).toArray) := by
  obtain ⟨i, hi, hsz⟩ := Option.map_eq_some_iff.1 ht
  have hst := run_storeCells_at (P := Try.prog) g off T [v] 0 cur.toArray w hr (by simp; omega) (by simpa using h1)
  simp only [Nat.add_zero] at hst
  rw [← splice_one cur off v hfit]
  simp [storeVar, sizeOf, typeInfo, hi, hsz, hv]
  simpa [splice] using hst
theorem wpList_store1 {t : Nat} (ht : (Try.prog.info? t).map (·.size) = some 1) (x y : Operand) (hgd : o.guard = none) (hdst : o.dst = none) (ho : o.op = .store t x y) (g off T : Nat) (hx : a.eval x = .pointer (some ⟨g, off, none⟩)) (v : Value) (cur : List Value) (hy : a.eval y = v) (hv : v.cells = #[v]) (h1 : v.oneCell' = true)
    (hr : Row w g T cur) (hfit : off < cur.length) (h : wpList Try.prog ops Q rest a (w.setRow g (cur.set off v).toArray)) : wpList Try.prog ops Q (o :: rest) a w :=
  wpList_skip' hgd (w.setRow g (cur.set off v).toArray) (by simp [execOp, ho, hx, hy, Instr.storeAt, Instr.sureAddr, run_store1 ht w g off T cur v hv h1 hr hfit]) (by rw [hdst]; exact h)
theorem wpList_build87 (x y : Operand) (hgd : o.guard = none) (ho : o.op = .build 87 #[(0, x), (1, y)]) (i j : Int) (hx : a.eval x = .int .i64 i) (hy : a.eval y = .int .i64 j)
    (h : wpList Try.prog ops Q rest (a.put o.dst (.agg (Value.int .i64 i :: Value.int .i64 j :: zerosU8 64).toArray)) w) : wpList Try.prog ops Q (o :: rest) a w :=
  wpList_value hgd _ w (by simp [execOp, ho, hx, hy, run_build87]) h
theorem wpList_slice84 (x : Operand) (hgd : o.guard = none) (ho : o.op = .slice 84 x none none none) (g off : Nat) (hx : a.eval x = .pointer (some ⟨g, off, none⟩))
    (h : wpList Try.prog ops Q rest (a.put o.dst (.slice (some ⟨g, off, none⟩) 64 64)) w) : wpList Try.prog ops Q (o :: rest) a w :=
  wpList_value hgd _ w (by simp [execOp, ho, hx, slice84]) h
theorem wpList_one {t e n bytes : Nat} {zs : List Value} (ht : Try.prog.underlying t = some (.slice e)) (hi : (Try.prog.info? e).map (fun i => (i.zero, i.size, i.bytes)) = some (some (.agg zs.toArray), n, bytes)) (hn : 0 < n) (hn' : n ≤ 100)
    (x : Operand) (hgd : o.guard = none) (ho : o.op = .buildSlice t 1 #[(0, x)]) (cs : List Value) (hc : cs.length = n) (hx : a.eval x = .agg cs.toArray)
    (h : ∀ w', Row w' w.heap.size e cs → w'.heap.size = w.heap.size + 1 → Below w.heap.size w w' → wpList Try.prog ops Q rest (a.put o.dst (.slice (some ⟨w.heap.size, 0, none⟩) 1 1)) w') : wpList Try.prog ops Q (o :: rest) a w :=
  wpList_value hgd _ _ (by simp [execOp, ho, hx, run_one ht hi hn hn' w cs hc]) (h (w.alloc (.cells cs.toArray e)) (Row.new w e cs) (by simp) ((Below.refl _ _).alloc (Nat.le_refl _) _))
end
theorem ownBlock_lt {w : World} {e n k : Nat} {v : Value} {xs : List Value} (h : w.ownsRow 0 e n v k xs) {b : Nat} (hb : v.ownBlock = some b) : b < w.heap.size ∧ ∃ cur, w.heap[b]? = some (.cells cur e (0, 0)) := by
  obtain ⟨_, h⟩ := h
  rcases h with ⟨rfl, _⟩ | ⟨g, cap, cur, rfl, _, hg, _⟩
  · cases hb
  · cases hb
    exact ⟨(Array.getElem?_eq_some_iff.1 hg).1, cur, hg⟩
theorem ownsRow_kept {w w' : World} {e n k : Nat} {v : Value} {xs : List Value} (h : w.ownsRow 0 e n v k xs) (hb : ∀ b, v.ownBlock = some b → w'.heap[b]? = w.heap[b]?) : w'.ownsRow 0 e n v k xs := by
  obtain ⟨hl, h⟩ := h
  refine ⟨hl, ?_⟩
  rcases h with ⟨rfl, h⟩ | ⟨g, cap, cur, rfl, h0, hg, h⟩
  · exact Or.inl ⟨rfl, h⟩
  · exact Or.inr ⟨g, cap, cur, rfl, h0, (hb g rfl).trans hg, h⟩
theorem slice_cells {w : World} {c : Nat → Colour} {k : Colour} {v : Value} {wt : List Wr} (h : WtIn w c k v wt) : v.cells = #[v] ∧ v.oneCell' = true := by
  obtain ⟨p, cap, rfl⟩ := h.shape
  exact ⟨rfl, rfl⟩
theorem size73 : (Try.prog.info? 73).map (·.size) = some 1 := by kernel_rfl
theorem size74 : (Try.prog.info? 74).map (·.size) = some 1 := by kernel_rfl
theorem wcells_snoc (l : List Wr) (x : Wr) : wcells (l ++ [x]) = wcells l ++ wrCells x := by simp [wcells]
theorem wrCells_one (x : Wr) : ∀ v ∈ wrCells x, v.oneCell' = true := by
  intro v hv
  simp only [wrCells, List.mem_cons] at hv
  rcases hv with rfl | rfl | hv
  · rfl
  · rfl
  · exact bcells_one _ v hv
/-- old colours, and new blocks of one colour -/
def paint (c : Nat → Colour) (n : Nat) (k : Colour) : Nat → Colour := fun b => if b < n then c b else k
theorem paint_old (c : Nat → Colour) (n : Nat) (k : Colour) (b : Nat) (h : b < n) : paint c n k b = c b := if_pos h
theorem paint_new (c : Nat → Colour) (n : Nat) (k : Colour) (b : Nat) (h : n ≤ b) : paint c n k b = k := if_neg (by omega)

set_option maxHeartbeats 1000000 in
set_option maxRecDepth 100000 in
theorem wait_any {w : World} {c : Nat → Colour} {k : Colour} {g : Nat} {tape : Bool} {size : Nat} {fl : List (List Nat)} {wt : List Wr} (h : DevIn w c k g tape size fl wt) (d step p : Nat) (hp : p < 4096) (hwl : wt.length < 1099511627776) (s : List Nat) (hs : Sec s) (v : Value) (hv : SliceIn w v s) :
    Calls Try.prog 43 #[ptr g, .int .i64 (step : Int), .int .i64 (p : Int), v] w fun e w' => e = .returned noResult ∧ ∃ c', (∀ b, b < w.heap.size → c' b = c b) ∧ DevIn w' c' k g tape size fl (wt ++ [⟨d, step, p, s⟩]) ∧ Ch (fun b => c b = k) w w' := by
  obtain ⟨pb, capb, rfl, _, hb⟩ := hv
  have hs64 := hs.1
  rcases hb with rfl | ⟨bb, off, rfl, hby⟩
  · simp at hs64
  have hbb : bb < w.heap.size := hby.lt (by rintro rfl; simp at hs64)
  obtain ⟨q, hq⟩ : ∃ q, q = w.heap.size := ⟨_, rfl⟩
  have HQ : Hid (q = w.heap.size) := hq
  have HH : Hid (DevIn w c k g tape size fl wt) := h
  have HBY : Hid (BytesIn w bb off s) := hby
  rw [hs64]
  clear h hby
  go_enter Try.func43, Try.ntmps43
  go_upto_region 0 with fail
  refine wp_region_lit ?_
  refine wpList_move (.tmp 1) rfl rfl _ rfl ?_
  refine wpList_move (.tmp 2) rfl rfl _ rfl ?_
  simp only [Act.put, List.setIfInBounds_toArray, List.set_cons_succ, List.set_cons_zero]
  refine wpList_build87 (.tmp 9) (.tmp 10) rfl rfl _ _ rfl rfl ?_
  simp only [Act.put, List.setIfInBounds_toArray, List.set_cons_succ, List.set_cons_zero]
  refine wpList_alloc_store agg87 _ zero87 rfl rfl rfl rfl rfl (.tmp 11) rfl (Value.int .i64 (step : Int) :: Value.int .i64 (p : Int) :: zerosU8 64) rfl rfl ?ones (fun _ => rfl) (fun _ => rfl) ?_
  case ones =>
    intro u hu
    simp only [List.mem_cons] at hu
    rcases hu with rfl | rfl | hu
    · rfl
    · rfl
    · obtain rfl := (List.mem_replicate.1 hu).2
      rfl
  intro w1 r1 s1 b1
  refine wpList_nil ?_
  simp only [Act.put, List.setIfInBounds_toArray, List.set_cons_succ, List.set_cons_zero]
  rw [← hq] at r1 s1 b1 ⊢
  have HB1 : Hid (Below q w w1) := b1
  have HS1 : Hid (w1.heap.size = q + 1) := s1
  clear b1 s1 hq
  go_upto_region 1 with fail
  refine wp_region_lit ?_
  refine wpList_field f87_2 (.tmp 8) rfl rfl q 0 rfl ?_
  refine wpList_slice84 (.tmp 12) rfl rfl q (0 + 2) rfl ?_
  simp only [Act.put, List.setIfInBounds_toArray, List.set_cons_succ, List.set_cons_zero]
  refine wpList_move (.tmp 3) rfl rfl _ rfl ?_
  refine wpList_copy_row (.tmp 13) (.tmp 14) rfl rfl q (0 + 2) 64 64 bb off 64 capb 87 64 rfl rfl _ r1 s hs64 rfl ?cp (by simp [zerosU8]) ?_
  case cp =>
    intro j hj
    have hbl : Below w.heap.size w w1 := by rw [← HQ.out]; exact HB1.out
    exact (HBY.out.later hbl).1 j hj
  intro w2 r2 s2 ch2
  refine wpList_nil ?_
  simp only [Act.put, List.setIfInBounds_toArray, List.set_cons_succ, List.set_cons_zero]
  obtain ⟨x, hx⟩ : ∃ x : Wr, x = ⟨d, step, p, s⟩ := ⟨_, rfl⟩
  have r2' : Row w2 q 87 (wrCells x) := by
    rw [hx]
    have e : splice (Value.int .i64 (step : Int) :: Value.int .i64 (p : Int) :: zerosU8 64) (0 + 2) (bcells s) = wrCells ⟨d, step, p, s⟩ := by
      have hbl : (bcells s).length = 64 := by rw [bcells_length, hs64]
      simp [splice, wrCells, hbl, zerosU8]
    rw [← e]
    exact r2
  have HB2 : Hid (Below q w w2) := HB1.out.trans (ch2.below (by have := HS1.out; omega) (fun i hi e => by omega))
  have HS2 : Hid (w2.heap.size = q + 1) := by rw [s2]; exact HS1.out
  have HX : Hid (x = ⟨d, step, p, s⟩) := hx
  have hxl : x.b.length = 64 := by rw [hx]; exact hs64
  clear r1 r2 s2 ch2 HB1 HS1 HBY hx
  have h2 : DevIn w2 c k g tape size fl wt := HH.out.kept fun b hb hk => ⟨HB2.out.block b (by rw [HQ.out]; exact hb), hk⟩
  obtain ⟨bm, bl, v, hr, cg, cm, cl, hne, hfl, hwi, ⟨nl, hl⟩⟩ := h2
  have c3 := hr.at 3 _ rfl
  have c4 := hr.at 4 _ rfl
  obtain ⟨pv, cap, rfl⟩ := hwi.shape
  obtain ⟨L, hL⟩ : ∃ L, L = wt.length := ⟨_, rfl⟩
  have HL : Hid (L = wt.length) := hL
  rw [← hL] at c3
  have hwl' : L < 1099511627776 := by omega
  have HWI : Hid (WtIn w2 c k (.slice pv L cap) wt) := by rw [HL.out]; exact hwi
  have HCB : Hid (∀ b, (Value.slice pv L cap).ownBlock = some b → c b = k) := by rw [HL.out]; exact hwi.2
  have HR : Hid (Row w2 g 76 [.bool tape, .int .i64 (size : Nat), .map (some bm), .slice pv L cap, .map (some bl)]) := by rw [HL.out]; exact hr
  have HF : Hid (FlIn w2 bm tape fl) := hfl
  clear hwi hr hL hfl
  go_upto_region 2 with fail
  refine wp_region_head_drew 10 (by kernel_rfl) (by kernel_rfl) ?_
  simp only [List.take_succ_cons, List.take_zero, List.drop_succ_cons, List.drop_zero]
  repeat (go_big_quiet_step (fail))
  refine wpQuiet_nil ?_
  intro _ hw'
  obtain ⟨nq, hw''⟩ := hw'
  subst hw''
  refine wpList_putMap0 (hl.drewN nq) (.tmp 19) (.tmp 20) (.tmp 25) 74 3 rfl rfl rfl Try.underlying74 p hp (L : Int) (wf_nat L (by omega)) rfl rfl rfl ?_
  intro w3 hl3 t3
  refine wpList_nil ?_
  -- what has turned since
  have hbne : bl ≠ g := fun e => (hl.ne_row HR.out) e
  have hbm : bm ≠ g := by
    obtain ⟨f, n, hm, _⟩ := HF.out
    exact hm.ne_row HR.out
  have hblk : ∀ b, b < w2.heap.size → b ≠ bl → w3.heap[b]? = w2.heap[b]? := fun b hb hne => t3.grown.block b hb (by simpa using hne)
  have HS3 : Hid (w3.heap.size = q + 1) := (mapTurned_size t3).trans HS2.out
  have hgl : g < w2.heap.size := HR.out.lt
  have hql : q < w2.heap.size := r2'.lt
  have hblq : bl ≠ q := hl.ne_row r2'
  have HR3 : Hid (Row w3 g 76 [.bool tape, .int .i64 (size : Nat), .map (some bm), .slice pv L cap, .map (some bl)]) := by
    show w3.heap[g]? = _
    rw [hblk g hgl (Ne.symm hbne)]
    exact HR.out
  have r3 : Row w3 q 87 (wrCells x) := by
    show w3.heap[q]? = _
    rw [hblk q hql (Ne.symm hblq)]
    exact r2'
  have hob : ∀ b, (Value.slice pv L cap).ownBlock = some b → w3.heap[b]? = w2.heap[b]? := fun b hb => by
    obtain ⟨hlt, cur, hc⟩ := ownBlock_lt HWI.out.1 hb
    refine hblk b hlt ?_
    rintro rfl
    obtain ⟨D, ⟨es, clock, h1, _⟩, _⟩ := hl
    rw [show w2.heap[b]? = _ from h1] at hc
    cases hc
  have HO3 : Hid (w3.ownsRow 0 87 66 (.slice pv L cap) L (wcells wt)) := by
    have := ownsRow_kept HWI.out.1 hob
    rw [← HL.out] at this
    exact this
  have HF3 : Hid (FlIn w3 bm tape fl) := HF.out.kept (hblk bm HF.out.lt hne)
  have HL3 : Hid (LtIn w3 bl (wt ++ [x])) := by
    refine ⟨if ((lastIdx wt p).map fun j => (j : Int)).isSome then nl else nl + 1, ?_⟩
    · have e : (fun q => (lastIdx (wt ++ [x]) q).map fun j => (j : Int)) = fun q => if q = p then some (L : Int) else (lastIdx wt q).map fun j => (j : Int) := by
        funext q'
        rw [lastIdx_snoc, HX.out]
        by_cases e : p = q'
        · simp [e, HL.out]
        · simp [e, Ne.symm e]
      rw [e]
      exact hl3
  have HC3 : Hid (Ch (fun b => c b = k) w w3) := by
    have h1 : Ch (fun b => c b = k) w (w2.drewN nq) := (Ch.of_below (by rw [← HQ.out]; exact HB2.out) : Ch (fun b => c b = k) w w2).drewN nq
    exact h1.grown t3.grown (fun b hb => by cases hb; exact Or.inl cl)
  have c3' := HR3.out.at 3 _ rfl
  have hcx : ∀ j v, (wrCells x)[j]? = some v → w3.cell? ⟨q, 0 + j, none⟩ = some v := fun j v hv => by rw [Nat.zero_add]; exact r3.at j v hv
  clear hl hl3 t3 hblk hob HF HWI HR HB2 HS2 c3 c4 r2' HH
  go_upto_region 3 with fail
  refine wp_region_any (by kernel_rfl) ?_
  show wpAny _ _ _ _ 11 (Array.replicate 11 false) _ (w3.drewN 1)
  refine takeA (i := 0) (some 26) rfl rfl (by kernel_rfl) (by kernel_rfl) (by kernel_rfl) (fun _ _ _ h => h) (yMove rfl (.tmp 0) rfl _ rfl) ?_
  simp only [Act.put, List.setIfInBounds_toArray, List.set_cons_succ, List.set_cons_zero]
  refine takeA (i := 1) (some 27) rfl rfl (by kernel_rfl) (by kernel_rfl) (by kernel_rfl) (fun _ _ _ h => h) (yMove rfl (.tmp 0) rfl _ rfl) ?_
  simp only [Act.put, List.setIfInBounds_toArray, List.set_cons_succ, List.set_cons_zero]
  refine takeA (i := 2) (some 28) rfl rfl (by kernel_rfl) (by kernel_rfl) (by kernel_rfl) (fun _ _ _ h => h) (yNil rfl (.tmp 27) rfl _ rfl) ?_
  simp only [Act.put, List.setIfInBounds_toArray, List.set_cons_succ, List.set_cons_zero]
  refine takeA (i := 3) (some 29) rfl rfl (by kernel_rfl) (by kernel_rfl) (by kernel_rfl) (fun _ _ _ h => h) (yField f76_3 rfl (.tmp 28) rfl g 0 rfl) ?_
  simp only [Act.put, List.setIfInBounds_toArray, List.set_cons_succ, List.set_cons_zero]
  have hcb3 : ∀ (o : Obj), Below w3.heap.size w3 ((w3.drewN 1).alloc o) := fun o => (Below.drewN (Below.refl w3.heap.size w3) 1).alloc (Nat.le_refl _) o
  refine anyThree (i := 4) (j := 5) (k := 6) 30 31 32 rfl rfl rfl (by decide) (by decide) (by decide) (by decide) (by kernel_rfl) (by kernel_rfl) (by kernel_rfl) (by kernel_rfl) (by kernel_rfl)
    (.slice pv L cap) (fun v w' => v = .agg (wrCells x).toArray ∧ w' = w3.drewN 1) (fun _ u w'' => u = .slice (some ⟨w3.heap.size, 0, none⟩) 1 1 ∧ w'' = (w3.drewN 1).alloc (.cells (wrCells x).toArray 87)) ?_ ?_ ?_ ?_ ?_ ?_ ?_ ?_
  · exact run_load1 one73 (.tmp 29) rfl g (0 + 3) rfl _ c3'
  · rintro v w' ⟨rfl, rfl⟩
    exact run_load1 one73 (.tmp 29) rfl g (0 + 3) rfl _ c3'
  · rintro v w' u w'' ⟨rfl, rfl⟩ ⟨rfl, rfl⟩
    exact run_load1 one73 (.tmp 29) rfl g (0 + 3) rfl _ (cell_later (hcb3 _) c3')
  · intro R hR
    exact opValue (some 31) rfl rfl rfl _ _ (run_loadA agg87 (.tmp 8) rfl q 0 rfl (wrCells x) (wrCells_length x hxl) hcx) (hR _ _ ⟨rfl, rfl⟩)
  · intro R hR
    exact opValue (some 31) rfl rfl rfl _ _ (run_loadA agg87 (.tmp 8) rfl q 0 rfl (wrCells x) (wrCells_length x hxl) hcx) (hR _ _ ⟨rfl, rfl⟩)
  · rintro v w' ⟨rfl, rfl⟩ R hR
    exact opValue (some 32) rfl rfl rfl _ _ (run_oneOp und73 info87 (by decide) (by decide) (.tmp 31) rfl (wrCells x) (wrCells_length x hxl) rfl) (hR _ _ ⟨rfl, rfl⟩)
  · rintro v w' ⟨rfl, rfl⟩ R hR
    exact opValue (some 32) rfl rfl rfl _ _ (run_oneOp und73 info87 (by decide) (by decide) (.tmp 31) rfl (wrCells x) (wrCells_length x hxl) rfl) (hR _ _ ⟨rfl, rfl⟩)
  rintro v w' u w4 ⟨rfl, rfl⟩ ⟨rfl, hw4⟩
  have r4 : Row w4 w3.heap.size 87 (wrCells x) := by rw [hw4]; exact Row.new (w3.drewN 1) 87 (wrCells x)
  have s4 : w4.heap.size = w3.heap.size + 1 := by rw [hw4]; simp
  have b4 : Below w3.heap.size w3 w4 := by rw [hw4]; exact hcb3 _
  clear hw4 hcb3
  simp only [Act.put, List.setIfInBounds_toArray, List.set_cons_succ, List.set_cons_zero]
  refine anySeqD 7 (by kernel_rfl) rfl ?_
  simp only [List.drop_succ_cons, List.drop_zero]
  obtain ⟨i0, hi, hz0, hz1, hz2⟩ := info_parts info87
  have ho4 : w4.ownsRow 0 87 66 (.slice pv L cap) L (wcells wt) := ownsRow_kept (HO3.out) (fun b hb => b4.block b (ownBlock_lt HO3.out hb).1)
  refine wpList_append_own_at _ rfl (.tmp 30) (.tmp 32) 73 rfl 0 87 i0 _ 66 80 und73 hi hz0 hz1 hz2 rfl (by decide) _ L (wcells wt) rfl ho4 ⟨w3.heap.size, 0, none⟩ 1 1 (wrCells x) rfl (by rw [wrCells_length x hxl]) ?cells (wrCells_one x) (by unfold maxLen; omega) (by omega) (Nat.zero_le _) ?_
  case cells =>
    intro j u hu
    rw [add_none, Nat.zero_add]
    exact r4.at j u hu
  intro v5 w5 o5 g5 n5 l5
  simp only [Act.put, List.setIfInBounds_toArray, List.set_cons_succ, List.set_cons_zero]
  have hkind : ∀ b, (Value.slice pv L cap).ownBlock = some b → b ≠ g ∧ b ≠ bm ∧ b ≠ bl := fun b hb => by
    obtain ⟨_, cur, hc⟩ := ownBlock_lt HO3.out hb
    refine ⟨?_, ?_, ?_⟩
    · rintro rfl
      rw [show w3.heap[b]? = _ from HR3.out] at hc
      cases hc
    · rintro rfl
      obtain ⟨f, n, ⟨D, ⟨es, clock, h1, _⟩, _⟩, _⟩ := HF3.out
      rw [h1] at hc
      cases hc
    · rintro rfl
      obtain ⟨n, ⟨D, ⟨es, clock, h1, _⟩, _⟩⟩ := HL3.out
      rw [h1] at hc
      cases hc
  have hk45 : ∀ b, b < w3.heap.size → (Value.slice pv L cap).ownBlock ≠ some b → w5.heap[b]? = w3.heap[b]? := fun b hb hne =>
    (g5.block b (by omega) (fun e => hne e.symm)).trans (b4.block b hb)
  have HR5 : Row w5 g 76 [.bool tape, .int .i64 (size : Nat), .map (some bm), .slice pv L cap, .map (some bl)] := by
    show w5.heap[g]? = _
    rw [hk45 g HR3.out.lt (fun e => (hkind g e).1 rfl)]
    exact HR3.out
  have hv5 : v5.cells = #[v5] ∧ v5.oneCell' = true := by
    obtain ⟨_, h⟩ := o5
    rcases h with ⟨rfl, _⟩ | ⟨_, _, _, rfl, _⟩
    · exact ⟨rfl, rfl⟩
    · exact ⟨rfl, rfl⟩
  refine wpList_nilCheck (.tmp 26) rfl rfl _ rfl ?_
  simp only [Act.put, List.setIfInBounds_toArray, List.set_cons_succ, List.set_cons_zero]
  refine wpList_field f76_3 (.tmp 34) rfl rfl g 0 rfl ?_
  simp only [Act.put, List.setIfInBounds_toArray, List.set_cons_succ, List.set_cons_zero]
  refine wpList_store1 size73 (.tmp 35) (.tmp 33) rfl rfl rfl g (0 + 3) 76 rfl v5 _ rfl hv5.1 hv5.2 HR5 (by simp) ?_
  refine wpList_nil ?_
  have r6 := HR5.setRow (([.bool tape, .int .i64 (size : Nat), .map (some bm), .slice pv L cap, .map (some bl)] : List Value).set (0 + 3) v5)
  have hk6 : ∀ b, b ≠ g → (w5.setRow g (([.bool tape, .int .i64 (size : Nat), .map (some bm), .slice pv L cap, .map (some bl)] : List Value).set (0 + 3) v5).toArray).heap[b]? = w5.heap[b]? := fun b hb => Go.setRow_other w5 g b _ hb
  have hcb : ∀ b, (Value.slice pv L cap).ownBlock = some b → c b = k := HCB.out
  have HE : Hid (∃ c', (∀ b, b < w.heap.size → c' b = c b) ∧ DevIn (w5.setRow g (([.bool tape, .int .i64 (size : Nat), .map (some bm), .slice pv L cap, .map (some bl)] : List Value).set (0 + 3) v5).toArray) c' k g tape size fl (wt ++ [⟨d, step, p, s⟩]) ∧ Ch (fun b => c b = k) w (w5.setRow g (([.bool tape, .int .i64 (size : Nat), .map (some bm), .slice pv L cap, .map (some bl)] : List Value).set (0 + 3) v5).toArray)) := by
    have hq := HQ.out
    have hpc : ∀ b, c b = k → paint c q k b = k := fun b hb => by
      unfold paint
      split
      · exact hb
      · rfl
    refine ⟨paint c q k, fun b hb => paint_old c q k b (by omega), ⟨bm, bl, v5, r6, hpc g cg, hpc bm cm, hpc bl cl, hne, ?_, ⟨?_, ?_⟩, ?_⟩, ?_⟩
    · refine HF3.out.kept ?_
      rw [hk6 bm hbm, hk45 bm HF3.out.lt (fun e => (hkind bm e).2.1 rfl)]
    · rw [← HX.out, wcells_snoc, List.length_append, ← HL.out]
      refine ownsRow_kept o5 (fun b hb => hk6 b ?_)
      rcases l5 with l5 | l5
      · exact (hkind b (l5 ▸ hb)).1
      · rw [l5] at hb
        cases hb
        have := HR3.out.lt
        omega
    · intro b hb
      rcases l5 with l5 | l5
      · exact hpc b (hcb b (l5 ▸ hb))
      · rw [l5] at hb
        cases hb
        refine paint_new c q k _ ?_
        have := HS3.out
        omega
    · rw [← HX.out]
      refine HL3.out.kept ?_
      rw [hk6 bl hbne, hk45 bl HL3.out.lt (fun e => (hkind bl e).2.2 rfl)]
    · refine ((HC3.out.trans (Ch.of_below b4)).grown g5 (fun b hb => Or.inl (hcb b hb))).setRow (Or.inl cg) _
  clear hk6 r6 hcb HR5 hk45 hkind o5 g5 n5 l5 b4 r4 s4 ho4
  go_wp2
  go_end0
  exact ⟨rfl, HE.out⟩
end Go.Proofs.Ytgkmegcejekbcaa

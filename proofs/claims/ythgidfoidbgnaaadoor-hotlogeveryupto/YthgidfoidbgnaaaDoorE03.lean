/- The walk of device.wait: a write is taken. What the calls make of a plant. The walks of Plant.Write, Plant.Append, Plant.Len. The walks of Plant.Append, Plant.Len, Plant.Read. The walk of Plant.Read. -/
import Derived.Test.YthgidfoidbgnaaaDoorE02
import Derived.Shelf.Abstract
namespace Go.Proofs.YthgidfoidbgnaaaDoor
open Go.RowKit Go.Maps

section
variable {w : World} {ops : Array Oper} {rest : List Oper} {o : Oper} {a : Act} {Q : Exit → Act → World → Prop}
theorem splice_one {α : Type} (cur : List α) (i : Nat) (v : α) (h : i < cur.length) : splice cur i [v] = cur.set i v := by
 unfold splice
 rw [List.set_eq_take_append_cons_drop, if_pos h]
 rfl
theorem run_store1 {t : Nat} (ht : (Tryd.prog.info? t).map (·.size) = some 1) (w : World) (g off T : Nat) (cur : List Value) (v : Value) (hv : v.cells = #[v]) (h1 : v.oneCell' = true) (hr : Row w g T cur) (hfit : off < cur.length) :
  (storeVar t ⟨g, off, none⟩ v).run Tryd.prog w = .ok () (w.setRow g (cur.set off v).toArray) := by
 obtain ⟨i, hi, hsz⟩ := Option.map_eq_some_iff.1 ht
 have hst := run_storeCells_at (P := Tryd.prog) g off T [v] 0 cur.toArray w hr (by simp; omega) (by simpa using h1)
 simp only [Nat.add_zero] at hst
 rw [← splice_one cur off v hfit]
 simp [storeVar, sizeOf, typeInfo, hi, hsz, hv]
 simpa [splice] using hst
theorem wpList_store1 {t : Nat} (ht : (Tryd.prog.info? t).map (·.size) = some 1) (x y : Operand) (hgd : o.guard = none) (hdst : o.dst = none) (ho : o.op = .store t x y) (g off T : Nat) (hx : a.eval x = .pointer (some ⟨g, off, none⟩)) (v : Value) (cur : List Value) (hy : a.eval y = v) (hv : v.cells = #[v]) (h1 : v.oneCell' = true)
  (hr : Row w g T cur) (hfit : off < cur.length) (h : wpList Tryd.prog ops Q rest a (w.setRow g (cur.set off v).toArray)) : wpList Tryd.prog ops Q (o :: rest) a w :=
 wpList_skip' hgd (w.setRow g (cur.set off v).toArray) (by simp [execOp, ho, hx, hy, Instr.storeAt, Instr.sureAddr, run_store1 ht w g off T cur v hv h1 hr hfit]) (by rw [hdst]; exact h)
theorem wpList_build87 (x y : Operand) (hgd : o.guard = none) (ho : o.op = .build 76 #[(0, x), (1, y)]) (i j : Int) (hx : a.eval x = .int .i64 i) (hy : a.eval y = .int .i64 j)
  (h : wpList Tryd.prog ops Q rest (a.put o.dst (.agg (Value.int .i64 i :: Value.int .i64 j :: zerosU8 64).toArray)) w) : wpList Tryd.prog ops Q (o :: rest) a w :=
 wpList_value hgd _ w (by simp [execOp, ho, hx, hy, run_build87]) h
theorem wpList_slice84 (x : Operand) (hgd : o.guard = none) (ho : o.op = .slice 74 x none none none) (g off : Nat) (hx : a.eval x = .pointer (some ⟨g, off, none⟩))
  (h : wpList Tryd.prog ops Q rest (a.put o.dst (.slice (some ⟨g, off, none⟩) 64 64)) w) : wpList Tryd.prog ops Q (o :: rest) a w :=
 wpList_value hgd _ w (by simp [execOp, ho, hx, slice84]) h
theorem wpList_one {t e n bytes : Nat} {zs : List Value} (ht : Tryd.prog.underlying t = some (.slice e)) (hi : (Tryd.prog.info? e).map (fun i => (i.zero, i.size, i.bytes)) = some (some (.agg zs.toArray), n, bytes)) (hn : 0 < n) (hn' : n ≤ 100)
  (x : Operand) (hgd : o.guard = none) (ho : o.op = .buildSlice t 1 #[(0, x)]) (cs : List Value) (hc : cs.length = n) (hx : a.eval x = .agg cs.toArray)
  (h : ∀ w', Row w' w.heap.size e cs → w'.heap.size = w.heap.size + 1 → Below w.heap.size w w' → wpList Tryd.prog ops Q rest (a.put o.dst (.slice (some ⟨w.heap.size, 0, none⟩) 1 1)) w') : wpList Tryd.prog ops Q (o :: rest) a w :=
 wpList_value hgd _ _ (by simp [execOp, ho, hx, run_one ht hi hn hn' w cs hc]) (h (w.alloc (.cells cs.toArray e)) (Row.new w e cs) (by simp) ((Below.refl _ _).alloc (Nat.le_refl _) _))
end
theorem ownBlock_lt {w : World} {e n k : Nat} {v : Value} {xs : List Value} (h : w.ownsRow 0 e n v k xs) {b : Nat} (hb : v.ownBlock = some b) : b < w.heap.size ∧ ∃ cur, w.heap[b]? = some (.cells cur e (0, 0)) := by
 obtain ⟨_, h⟩ := h
 rcases h with ⟨rfl, _⟩ | ⟨g, cap, cur, rfl, _, hg, _⟩
 ·cases hb
 ·cases hb
  exact ⟨(Array.getElem?_eq_some_iff.1 hg).1, cur, hg⟩
theorem ownsRow_kept {w w' : World} {e n k : Nat} {v : Value} {xs : List Value} (h : w.ownsRow 0 e n v k xs) (hb : ∀ b, v.ownBlock = some b → w'.heap[b]? = w.heap[b]?) : w'.ownsRow 0 e n v k xs := by
 obtain ⟨hl, h⟩ := h
 refine ⟨hl, ?_⟩
 rcases h with ⟨rfl, h⟩ | ⟨g, cap, cur, rfl, h0, hg, h⟩
 ·exact Or.inl ⟨rfl, h⟩
 ·exact Or.inr ⟨g, cap, cur, rfl, h0, (hb g rfl).trans hg, h⟩
theorem size73 : (Tryd.prog.info? 104).map (·.size) = some 1 := by kernel_rfl
theorem size74 : (Tryd.prog.info? 88).map (·.size) = some 1 := by kernel_rfl
theorem wcells_snoc (l : List Wr) (x : Wr) : wcells (l ++ [x]) = wcells l ++ wrCells x := by simp [wcells]
theorem wrCells_one (x : Wr) : ∀ v ∈ wrCells x, v.oneCell' = true := by
 intro v hv
 simp only [wrCells, List.mem_cons] at hv
 rcases hv with rfl | rfl | hv
 ·rfl
 ·rfl
 ·exact bcells_one _ v hv
/-- old colours, and new blocks of one colour -/
def paint (c : Nat → Colour) (n : Nat) (k : Colour) : Nat → Colour := fun b => if b < n then c b else k
theorem paint_old (c : Nat → Colour) (n : Nat) (k : Colour) (b : Nat) (h : b < n) : paint c n k b = c b := if_pos h
theorem paint_new (c : Nat → Colour) (n : Nat) (k : Colour) (b : Nat) (h : n ≤ b) : paint c n k b = k := if_neg (by omega)

set_option maxHeartbeats 1000000 in
set_option maxRecDepth 100000 in
theorem wait_any {w : World} {c : Nat → Colour} {k : Colour} {g : Nat} {tape : Bool} {size : Nat} {fl : List (List Nat)} {wt : List Wr} (h : DevIn w c k g tape size fl wt) (d step p : Nat) (hp : p < 4096) (hwl : wt.length < 1099511627776) (s : List Nat) (hs : Sec s) (v : Value) (hv : SliceIn w v s) :
  Calls Tryd.prog 73 #[ptr g, .int .i64 (step : Int), .int .i64 (p : Int), v] w fun e w' => e = .returned noResult ∧ ∃ c', (∀ b, b < w.heap.size → c' b = c b) ∧ DevIn w' c' k g tape size fl (wt ++ [⟨d, step, p, s⟩]) ∧ Ch (fun b => c b = k) w w' := by
 obtain ⟨pb, capb, rfl, _, hb⟩ := hv
 have hs64 := hs.1
 rcases hb with rfl | ⟨bb, off, rfl, hby⟩
 ·simp at hs64
 have hbb : bb < w.heap.size := hby.lt (by rintro rfl; simp at hs64)
 obtain ⟨q, hq⟩ : ∃ q, q = w.heap.size := ⟨_, rfl⟩
 have HQ : Hid (q = w.heap.size) := hq
 have HH : Hid (DevIn w c k g tape size fl wt) := h
 have HBY : Hid (BytesIn w bb off s) := hby
 rw [hs64]
 clear h hby
 go_enter Tryd.func73, Tryd.ntmps73
 go_upto_region 0 with fail
 refine wp_region_lit ?_
 refine wpList_move (.tmp 1) rfl rfl _ rfl ?_
 refine wpList_move (.tmp 2) rfl rfl _ rfl ?_
 simp only [Act.put, aS, aC, aZ]
 refine wpList_build87 (.tmp 9) (.tmp 10) rfl rfl _ _ rfl rfl ?_
 simp only [Act.put, aS, aC, aZ]
 refine wpList_alloc_store agg87 _ zero87 rfl rfl rfl rfl rfl (.tmp 11) rfl (Value.int .i64 (step : Int) :: Value.int .i64 (p : Int) :: zerosU8 64) rfl rfl ?ones (fun _ => rfl) (fun _ => rfl) ?_
 case ones =>
  intro u hu
  simp only [List.mem_cons] at hu
  rcases hu with rfl | rfl | hu
  ·rfl
  ·rfl
  ·obtain rfl := (List.mem_replicate.1 hu).2
   rfl
 intro w1 r1 s1 b1
 refine wpList_nil ?_
 simp only [Act.put, aS, aC, aZ]
 rw [← hq] at r1 s1 b1 ⊢
 have HB1 : Hid (Below q w w1) := b1
 have HS1 : Hid (w1.heap.size = q + 1) := s1
 clear b1 s1 hq
 go_upto_region 1 with fail
 refine wp_region_lit ?_
 refine wpList_field f87_2 (.tmp 8) rfl rfl q 0 rfl ?_
 refine wpList_slice84 (.tmp 12) rfl rfl q (0 + 2) rfl ?_
 simp only [Act.put, aS, aC, aZ]
 refine wpList_move (.tmp 3) rfl rfl _ rfl ?_
 refine wpList_copy_row (.tmp 13) (.tmp 14) rfl rfl q (0 + 2) 64 64 bb off 64 capb 76 64 rfl rfl _ r1 s hs64 rfl ?cp (by simp [zerosU8]) ?_
 case cp =>
  intro j hj
  have hbl : Below w.heap.size w w1 := by rw [← HQ.out]; exact HB1.out
  exact (HBY.out.later hbl).1 j hj
 intro w2 r2 s2 ch2
 refine wpList_nil ?_
 simp only [Act.put, aS, aC, aZ]
 obtain ⟨x, hx⟩ : ∃ x : Wr, x = ⟨d, step, p, s⟩ := ⟨_, rfl⟩
 have r2' : Row w2 q 76 (wrCells x) := by
  rw [hx]
  have e : splice (Value.int .i64 (step : Int) :: Value.int .i64 (p : Int) :: zerosU8 64) (0 + 2) (bcells s) = wrCells ⟨d, step, p, s⟩ := by
   have hbl : (bcells s).length = 64 := by rw [bcells_length, hs64]
   simp [splice, wrCells, hbl, zerosU8]
  rw [← e]
  exact r2
 have HB2 : Hid (Below q w w2) := HB1.out.trans (ch2.below (by have := HS1.out; omega) (fun i hi e => by omega))
 have HS2 : Hid (w2.heap.size = q + 1) := by rw [s2]; exact HS1.out
 have HX : Hid (x = ⟨d, step, p, s⟩) := hx
 have hxl : x.b.length = 64 := by rw [hx]; exact hs64
 clear r1 r2 s2 ch2 HB1 HS1 HBY hx
 have h2 : DevIn w2 c k g tape size fl wt := HH.out.kept fun b hb hk => ⟨HB2.out.block b (by rw [HQ.out]; exact hb), hk⟩
 obtain ⟨bm, bl, v, hr, cg, cm, cl, hne, hfl, hwi, ⟨nl, hl⟩⟩ := h2
 have c3 := hr.at 3 _ rfl
 have c4 := hr.at 4 _ rfl
 obtain ⟨pv, cap, rfl⟩ := hwi.shape
 obtain ⟨L, hL⟩ : ∃ L, L = wt.length := ⟨_, rfl⟩
 have HL : Hid (L = wt.length) := hL
 rw [← hL] at c3
 have hwl' : L < 1099511627776 := by omega
 have HWI : Hid (WtIn w2 c k (.slice pv L cap) wt) := by rw [HL.out]; exact hwi
 have HCB : Hid (∀ b, (Value.slice pv L cap).ownBlock = some b → c b = k) := by rw [HL.out]; exact hwi.2
 have HR : Hid (Row w2 g 106 [.bool tape, .int .i64 (size : Nat), .map (some bm), .slice pv L cap, .map (some bl)]) := by rw [HL.out]; exact hr
 have HF : Hid (FlIn w2 bm tape fl) := hfl
 clear hwi hr hL hfl
 go_upto_region 2 with fail
 refine wp_region_head_drew 10 (by kernel_rfl) (by kernel_rfl) ?_
 simp only [List.take_succ_cons, List.take_zero, List.drop_succ_cons, List.drop_zero]
 repeat (go_big_quiet_step (fail))
 refine wpQuiet_nil ?_
 intro _ hw'
 obtain ⟨nq, hw''⟩ := hw'
 subst hw''
 refine wpList_putMap0 (hl.drewN nq) (.tmp 19) (.tmp 20) (.tmp 25) 88 3 rfl rfl rfl Tryd.underlying88 p hp (L : Int) (wf_nat L (by omega)) rfl rfl rfl ?_
 intro w3 hl3 t3
 refine wpList_nil ?_
 -- what has turned since
 have hbne : bl ≠ g := fun e => (hl.ne_row HR.out) e
 have hbm : bm ≠ g := by
  obtain ⟨f, n, hm, _⟩ := HF.out
  exact hm.ne_row HR.out
 have hblk : ∀ b, b < w2.heap.size → b ≠ bl → w3.heap[b]? = w2.heap[b]? := fun b hb hne => t3.grown.block b hb (by simpa using hne)
 have HS3 : Hid (w3.heap.size = q + 1) := (mapTurned_size t3).trans HS2.out
 have hgl : g < w2.heap.size := HR.out.lt
 have hql : q < w2.heap.size := r2'.lt
 have hblq : bl ≠ q := hl.ne_row r2'
 have HR3 : Hid (Row w3 g 106 [.bool tape, .int .i64 (size : Nat), .map (some bm), .slice pv L cap, .map (some bl)]) := by
  show w3.heap[g]? = _
  rw [hblk g hgl (Ne.symm hbne)]
  exact HR.out
 have r3 : Row w3 q 76 (wrCells x) := by
  show w3.heap[q]? = _
  rw [hblk q hql (Ne.symm hblq)]
  exact r2'
 have hob : ∀ b, (Value.slice pv L cap).ownBlock = some b → w3.heap[b]? = w2.heap[b]? := fun b hb => by
  obtain ⟨hlt, cur, hc⟩ := ownBlock_lt HWI.out.1 hb
  refine hblk b hlt ?_
  rintro rfl
  obtain ⟨D, ⟨es, clock, h1, _⟩, _⟩ := hl
  rw [show w2.heap[b]? = _ from h1] at hc
  cases hc
 have HO3 : Hid (w3.ownsRow 0 76 66 (.slice pv L cap) L (wcells wt)) := by
  have := ownsRow_kept HWI.out.1 hob
  rw [← HL.out] at this
  exact this
 have HF3 : Hid (FlIn w3 bm tape fl) := HF.out.kept (hblk bm HF.out.lt hne)
 have HL3 : Hid (LtIn w3 bl (wt ++ [x])) := by
  refine ⟨if ((lastIdx wt p).map fun j => (j : Int)).isSome then nl else nl + 1, ?_⟩
  ·have e : (fun q => (lastIdx (wt ++ [x]) q).map fun j => (j : Int)) = fun q => if q = p then some (L : Int) else (lastIdx wt q).map fun j => (j : Int) := by
    funext q'
    rw [lastIdx_snoc, HX.out]
    by_cases e : p = q'
    ·simp [e, HL.out]
    ·simp [e, Ne.symm e]
   rw [e]
   exact hl3
 have HC3 : Hid (Ch (fun b => c b = k) w w3) := by
  have h1 : Ch (fun b => c b = k) w (w2.drewN nq) := (Ch.of_below (by rw [← HQ.out]; exact HB2.out) : Ch (fun b => c b = k) w w2).drewN nq
  exact h1.grown t3.grown (fun b hb => by cases hb; exact Or.inl cl)
 have c3' := HR3.out.at 3 _ rfl
 have hcx : ∀ j v, (wrCells x)[j]? = some v → w3.cell? ⟨q, 0 + j, none⟩ = some v := fun j v hv => by rw [Nat.zero_add]; exact r3.at j v hv
 clear hl hl3 t3 hblk hob HF HWI HR HB2 HS2 c3 c4 r2' HH
 go_upto_region 3 with fail
 refine wp_region_any (by kernel_rfl) ?_
 show wpAny _ _ _ _ 11 (Array.replicate 11 false) _ (w3.drewN 1)
 refine takeA (i := 0) (some 26) rfl rfl (by kernel_rfl) (by kernel_rfl) (by kernel_rfl) (fun _ _ _ h => h) (yMove rfl (.tmp 0) rfl _ rfl) ?_
 simp only [Act.put, aS, aC, aZ]
 refine takeA (i := 1) (some 27) rfl rfl (by kernel_rfl) (by kernel_rfl) (by kernel_rfl) (fun _ _ _ h => h) (yMove rfl (.tmp 0) rfl _ rfl) ?_
 simp only [Act.put, aS, aC, aZ]
 refine takeA (i := 2) (some 28) rfl rfl (by kernel_rfl) (by kernel_rfl) (by kernel_rfl) (fun _ _ _ h => h) (yNil rfl (.tmp 27) rfl _ rfl) ?_
 simp only [Act.put, aS, aC, aZ]
 refine takeA (i := 3) (some 29) rfl rfl (by kernel_rfl) (by kernel_rfl) (by kernel_rfl) (fun _ _ _ h => h) (yField f76_3 rfl (.tmp 28) rfl g 0 rfl) ?_
 simp only [Act.put, aS, aC, aZ]
 have hcb3 : ∀ (o : Obj), Below w3.heap.size w3 ((w3.drewN 1).alloc o) := fun o => (Below.drewN (Below.refl w3.heap.size w3) 1).alloc (Nat.le_refl _) o
 refine anyThree (i := 4) (j := 5) (k := 6) 30 31 32 rfl rfl rfl (by decide) (by decide) (by decide) (by decide) (by kernel_rfl) (by kernel_rfl) (by kernel_rfl) (by kernel_rfl) (by kernel_rfl)
  (.slice pv L cap) (fun v w' => v = .agg (wrCells x).toArray ∧ w' = w3.drewN 1) (fun _ u w'' => u = .slice (some ⟨w3.heap.size, 0, none⟩) 1 1 ∧ w'' = (w3.drewN 1).alloc (.cells (wrCells x).toArray 76)) ?_ ?_ ?_ ?_ ?_ ?_ ?_ ?_
 ·exact run_load1 one73 (.tmp 29) rfl g (0 + 3) rfl _ c3'
 ·rintro v w' ⟨rfl, rfl⟩
  exact run_load1 one73 (.tmp 29) rfl g (0 + 3) rfl _ c3'
 ·rintro v w' u w'' ⟨rfl, rfl⟩ ⟨rfl, rfl⟩
  exact run_load1 one73 (.tmp 29) rfl g (0 + 3) rfl _ (cell_later (hcb3 _) c3')
 ·intro R hR
  exact opValue (some 31) rfl rfl rfl _ _ (run_loadA agg87 (.tmp 8) rfl q 0 rfl (wrCells x) (wrCells_length x hxl) hcx) (hR _ _ ⟨rfl, rfl⟩)
 ·intro R hR
  exact opValue (some 31) rfl rfl rfl _ _ (run_loadA agg87 (.tmp 8) rfl q 0 rfl (wrCells x) (wrCells_length x hxl) hcx) (hR _ _ ⟨rfl, rfl⟩)
 ·rintro v w' ⟨rfl, rfl⟩ R hR
  exact opValue (some 32) rfl rfl rfl _ _ (run_oneOp und73 info87 (by decide) (by decide) (.tmp 31) rfl (wrCells x) (wrCells_length x hxl) rfl) (hR _ _ ⟨rfl, rfl⟩)
 ·rintro v w' ⟨rfl, rfl⟩ R hR
  exact opValue (some 32) rfl rfl rfl _ _ (run_oneOp und73 info87 (by decide) (by decide) (.tmp 31) rfl (wrCells x) (wrCells_length x hxl) rfl) (hR _ _ ⟨rfl, rfl⟩)
 rintro v w' u w4 ⟨rfl, rfl⟩ ⟨rfl, hw4⟩
 have r4 : Row w4 w3.heap.size 76 (wrCells x) := by rw [hw4]; exact Row.new (w3.drewN 1) 76 (wrCells x)
 have s4 : w4.heap.size = w3.heap.size + 1 := by rw [hw4]; simp
 have b4 : Below w3.heap.size w3 w4 := by rw [hw4]; exact hcb3 _
 clear hw4 hcb3
 simp only [Act.put, aS, aC, aZ]
 refine anySeqD 7 (by kernel_rfl) rfl ?_
 simp only [List.drop_succ_cons, List.drop_zero]
 obtain ⟨i0, hi, hz0, hz1, hz2⟩ := info_parts info87
 have ho4 : w4.ownsRow 0 76 66 (.slice pv L cap) L (wcells wt) := ownsRow_kept (HO3.out) (fun b hb => b4.block b (ownBlock_lt HO3.out hb).1)
 refine wpList_append_own_at _ rfl (.tmp 30) (.tmp 32) 104 rfl 0 76 i0 _ 66 80 und73 hi hz0 hz1 hz2 rfl (by decide) _ L (wcells wt) rfl ho4 ⟨w3.heap.size, 0, none⟩ 1 1 (wrCells x) rfl (by rw [wrCells_length x hxl]) ?cells (wrCells_one x) (by unfold maxLen; omega) (by omega) (Nat.zero_le _) ?_
 case cells =>
  intro j u hu
  rw [add_none, Nat.zero_add]
  exact r4.at j u hu
 intro v5 w5 o5 g5 n5 l5
 simp only [Act.put, aS, aC, aZ]
 have hkind : ∀ b, (Value.slice pv L cap).ownBlock = some b → b ≠ g ∧ b ≠ bm ∧ b ≠ bl := fun b hb => by
  obtain ⟨_, cur, hc⟩ := ownBlock_lt HO3.out hb
  refine ⟨?_, ?_, ?_⟩
  ·rintro rfl
   rw [show w3.heap[b]? = _ from HR3.out] at hc
   cases hc
  ·rintro rfl
   obtain ⟨f, n, ⟨D, ⟨es, clock, h1, _⟩, _⟩, _⟩ := HF3.out
   rw [h1] at hc
   cases hc
  ·rintro rfl
   obtain ⟨n, ⟨D, ⟨es, clock, h1, _⟩, _⟩⟩ := HL3.out
   rw [h1] at hc
   cases hc
 have hk45 : ∀ b, b < w3.heap.size → (Value.slice pv L cap).ownBlock ≠ some b → w5.heap[b]? = w3.heap[b]? := fun b hb hne =>
  (g5.block b (by omega) (fun e => hne e.symm)).trans (b4.block b hb)
 have HR5 : Row w5 g 106 [.bool tape, .int .i64 (size : Nat), .map (some bm), .slice pv L cap, .map (some bl)] := by
  show w5.heap[g]? = _
  rw [hk45 g HR3.out.lt (fun e => (hkind g e).1 rfl)]
  exact HR3.out
 have hv5 : v5.cells = #[v5] ∧ v5.oneCell' = true := by
  obtain ⟨_, h⟩ := o5
  rcases h with ⟨rfl, _⟩ | ⟨_, _, _, rfl, _⟩
  ·exact ⟨rfl, rfl⟩
  ·exact ⟨rfl, rfl⟩
 refine wpList_nilCheck (.tmp 26) rfl rfl _ rfl ?_
 simp only [Act.put, aS, aC, aZ]
 refine wpList_field f76_3 (.tmp 34) rfl rfl g 0 rfl ?_
 simp only [Act.put, aS, aC, aZ]
 refine wpList_store1 size73 (.tmp 35) (.tmp 33) rfl rfl rfl g (0 + 3) 106 rfl v5 _ rfl hv5.1 hv5.2 HR5 (by simp) ?_
 refine wpList_nil ?_
 have r6 := HR5.setRow (([.bool tape, .int .i64 (size : Nat), .map (some bm), .slice pv L cap, .map (some bl)] : List Value).set (0 + 3) v5)
 have hk6 : ∀ b, b ≠ g → (w5.setRow g (([.bool tape, .int .i64 (size : Nat), .map (some bm), .slice pv L cap, .map (some bl)] : List Value).set (0 + 3) v5).toArray).heap[b]? = w5.heap[b]? := fun b hb => Go.setRow_other w5 g b _ hb
 have hcb : ∀ b, (Value.slice pv L cap).ownBlock = some b → c b = k := HCB.out
 have HE : Hid (∃ c', (∀ b, b < w.heap.size → c' b = c b) ∧ DevIn (w5.setRow g (([.bool tape, .int .i64 (size : Nat), .map (some bm), .slice pv L cap, .map (some bl)] : List Value).set (0 + 3) v5).toArray) c' k g tape size fl (wt ++ [⟨d, step, p, s⟩]) ∧ Ch (fun b => c b = k) w (w5.setRow g (([.bool tape, .int .i64 (size : Nat), .map (some bm), .slice pv L cap, .map (some bl)] : List Value).set (0 + 3) v5).toArray)) := by
  have hq := HQ.out
  have hpc : ∀ b, c b = k → paint c q k b = k := fun b hb => by
   unfold paint
   split
   ·exact hb
   ·rfl
  refine ⟨paint c q k, fun b hb => paint_old c q k b (by omega), ⟨bm, bl, v5, r6, hpc g cg, hpc bm cm, hpc bl cl, hne, ?_, ⟨?_, ?_⟩, ?_⟩, ?_⟩
  ·refine HF3.out.kept ?_
   rw [hk6 bm hbm, hk45 bm HF3.out.lt (fun e => (hkind bm e).2.1 rfl)]
  ·rw [← HX.out, wcells_snoc, List.length_append, ← HL.out]
   refine ownsRow_kept o5 (fun b hb => hk6 b ?_)
   rcases l5 with l5 | l5
   ·exact (hkind b (l5 ▸ hb)).1
   ·rw [l5] at hb
    cases hb
    have := HR3.out.lt
    omega
  ·intro b hb
   rcases l5 with l5 | l5
   ·exact hpc b (hcb b (l5 ▸ hb))
   ·rw [l5] at hb
    cases hb
    refine paint_new c q k _ ?_
    have := HS3.out
    omega
  ·rw [← HX.out]
   refine HL3.out.kept ?_
   rw [hk6 bl hbne, hk45 bl HL3.out.lt (fun e => (hkind bl e).2.2 rfl)]
  ·refine ((HC3.out.trans (Ch.of_below b4)).grown g5 (fun b hb => Or.inl (hcb b hb))).setRow (Or.inl cg) _
 clear hk6 r6 hcb HR5 hk45 hkind o5 g5 n5 l5 b4 r4 s4 ho4
 go_wp2
 go_end0
 exact ⟨rfl, HE.out⟩
end Go.Proofs.YthgidfoidbgnaaaDoor

namespace Go.Proofs.YthgidfoidbgnaaaDoor

/-- is there such a device, such a place -/
def Pl.has (m : Pl) (d : Int) : Prop := 0 ≤ d ∧ d < (m.n : Int)
instance (m : Pl) (d : Int) : Decidable (m.has d) := inferInstanceAs (Decidable (_ ∧ _))
/-- Write: the answer, and the plant behind it -/
def Pl.write (m : Pl) (d p : Int) (s : List Nat) : Int × Pl :=
 if m.on = false then (2, m)
 else if ¬ (m.has d ∧ m.tape d.toNat = false ∧ 0 ≤ p ∧ p < (m.size d.toNat : Int)) then (31, m)
 else if s.length ≠ 64 then (32, m)
 else if m.fuse = 0 then (2, m.step)
 else (0, m.step.wait d.toNat p.toNat s)
def Pl.flush (m : Pl) (d : Int) : Int × Pl :=
 if m.on = false then (2, m) else if ¬ m.has d then (31, m) else if m.fuse = 0 then (2, m.step) else (0, m.step.flushed d.toNat)
theorem Pl.step_sh (m : Pl) : m.step.sh = m.sh := by unfold Pl.step; split <;> rfl
theorem Pl.step_fl (m : Pl) : m.step.fl = m.fl := by unfold Pl.step; split <;> rfl
theorem Pl.step_wts (m : Pl) : m.step.wts = m.wts := by unfold Pl.step; split <;> rfl
theorem Pl.step_n (m : Pl) : m.step.n = m.n := by unfold Pl.n; rw [m.step_sh]
theorem Pl.step_tape (m : Pl) (i : Nat) : m.step.tape i = m.tape i := by unfold Pl.tape; rw [m.step_sh]
theorem Pl.step_size (m : Pl) (i : Nat) : m.step.size i = m.size i := by unfold Pl.size; rw [m.step_sh]
theorem Pl.step_wt (m : Pl) (i : Nat) : m.step.wt i = m.wt i := by unfold Pl.wt; rw [m.step_wts]
theorem Pl.step_steps (m : Pl) (h : m.fuse ≠ 0) : m.step.steps = m.steps + 1 := by unfold Pl.step; rw [if_neg h]
theorem Pl.step_wf {m : Pl} (h : m.WF) : m.step.WF := by
 have e := m.step_sh
 have e1 := m.step_fl
 have e2 := m.step_wts
 have hs : m.steps ≤ m.step.steps := by unfold Pl.step; split <;> simp
 refine ⟨by rw [e]; exact h.few, by rw [e]; exact h.pos, fun i hi => by rw [m.step_size]; exact h.sizes i (by rwa [e] at hi), fun i => by rw [e1]; exact h.secs i, fun i hi ht => by rw [e1, m.step_size]; exact h.disk i (by rwa [e] at hi) (by rwa [m.step_tape] at ht),
  fun i hi ht => by rw [e1, m.step_size, m.step_wt]; exact h.tapes i (by rwa [e] at hi) (by rwa [m.step_tape] at ht), by rw [e2]; exact h.wsec, ?_, by rw [e2]; exact h.order, by rw [e2]; exact Nat.le_trans h.count hs, ?_, ?_, ?_, ?_⟩
 ·rw [e2]
  intro x hx
  have := h.wdev x hx
  rw [e, m.step_size]
  exact ⟨this.1, this.2.1, by omega⟩
 ·have := h.fuse0
  unfold Pl.step
  split
  ·simp
  ·dsimp only
   split <;> omega
 ·have := h.fuse1
  unfold Pl.step
  split
  ·simp
  ·dsimp only
   split <;> omega
 ·have := h.clock0
  unfold Pl.step
  split <;> simpa using this
 ·have := h.clock1
  unfold Pl.step
  split <;> simpa using this
theorem Pl.wt_mem {m : Pl} {i : Nat} {x : Wr} (h : x ∈ m.wt i) : x ∈ m.wts ∧ x.dev = i := by
 unfold Pl.wt at h
 simpa using h
theorem Pl.wt_len (m : Pl) (i : Nat) : (m.wt i).length ≤ m.wts.length := by unfold Pl.wt; exact List.length_filter_le _ _
/-- a write, behind a step that was done -/
theorem Pl.wait_wf {m : Pl} (h : m.WF) (hf : m.fuse ≠ 0) (i p : Nat) (s : List Nat) (hi : i < m.n) (hp : p < m.size i) (hs : s.length = 64 ∧ ∀ c ∈ s, c < 256) (ht : m.tape i = true → p = m.len i ∧ m.len i < m.size i) : (m.step.wait i p s).WF := by
 have H := Pl.step_wf h
 have hst := m.step_steps hf
 have hn : m.step.sh.length = m.n := by rw [m.step_sh]; rfl
 refine ⟨H.few, H.pos, H.sizes, H.secs, H.disk, ?_, ?_, ?_, ?_, ?_, H.fuse0, H.fuse1, H.clock0, H.clock1⟩
 ·intro j hj htj
  have hj2 : m.step.tape j = true := htj
  obtain ⟨h1, h2⟩ := H.tapes j hj hj2
  rw [Pl.wt_wait]
  by_cases hij : i = j
  ·subst hij
   rw [if_pos rfl]
   have htm : m.tape i = true := by rwa [m.step_tape] at hj2
   obtain ⟨hp1, hp2⟩ := ht htm
   have hlen : m.len i = (m.fl i).length + (m.wt i).length := by unfold Pl.len; rw [if_pos htm]
   have e1 : (m.step.wait i p s).fl i = m.fl i := by show m.step.fl i = _; rw [m.step_fl]
   have e2 : (m.step.wait i p s).size i = m.size i := m.step_size i
   rw [e1, e2, m.step_wt]
   refine ⟨by simp; omega, fun k x hx => ?_⟩
   rw [m.step_fl, m.step_wt] at h2
   rcases Nat.lt_or_ge k (m.wt i).length with hk | hk
   ·rw [List.getElem?_append_left hk] at hx
    exact h2 k x hx
   ·rw [List.getElem?_append_right hk] at hx
    have hk0 : k - (m.wt i).length = 0 := by
     have := (List.getElem?_eq_some_iff.1 hx).1
     simp at this
     omega
    rw [hk0] at hx
    simp at hx
    subst hx
    simp only
    omega
  ·rw [if_neg hij]
   exact ⟨h1, h2⟩
 ·intro x hx
  rcases List.mem_append.1 hx with hx | hx
  ·exact H.wsec x hx
  ·obtain rfl := List.mem_singleton.1 hx
   exact hs
 ·intro x hx
  rcases List.mem_append.1 hx with hx | hx
  ·exact H.wdev x hx
  ·obtain rfl := List.mem_singleton.1 hx
   exact ⟨by show i < m.step.sh.length; omega, by show p < m.step.size i; rw [m.step_size]; exact hp, Nat.le_refl _⟩
 ·show (m.step.wts ++ [_]).Pairwise _
  rw [List.pairwise_append]
  refine ⟨H.order, by simp, fun x hx y hy => ?_⟩
  obtain rfl := List.mem_singleton.1 hy
  rw [m.step_wts] at hx
  have := (h.wdev x hx).2.2
  show x.step < m.step.steps
  omega
 ·show (m.step.wts ++ [_]).length ≤ m.step.steps
  rw [List.length_append, m.step_wts, hst]
  have := h.count
  simp
  omega
end Go.Proofs.YthgidfoidbgnaaaDoor

namespace Go.Proofs.YthgidfoidbgnaaaDoor
open Go.RowKit Go.Maps

/-- what a call leaves behind: the plant as m', old colours, nothing turned but the plant's own -/
def Post (w : World) (c : Nat → Colour) (t g db cap : Nat) (gs : Nat → Nat) (m' : Pl) (w' : World) : Prop :=
 ∃ c', (∀ b, b < w.heap.size → c' b = c b) ∧ PlantAt w' c' t g db cap gs m' ∧ Ch (fun b => (c b).1 = t) w w'

section
variable {w : World} {c : Nat → Colour} {t g db cap : Nat} {gs : Nat → Nat} {m : Pl}
theorem PlantAt.same {w' : World} (h : PlantAt w c t g db cap gs m) (he : w'.heap = w.heap) : PlantAt w' c t g db cap gs m := by
 refine ⟨?_, h.cg, h.cd, h.ne, by rw [he]; exact h.lt, h.cap, fun i hi => ?_, fun i hi => (h.dev i hi).kept fun b _ hk => ⟨by rw [he], hk⟩⟩
 ·show w'.heap[g]? = _
  rw [he]
  exact h.row
 ·rw [← h.cell i hi]
  exact World.cell?_of_block (by rw [he])
theorem PlantAt.drewN (h : PlantAt w c t g db cap gs m) (n : Nat) : PlantAt (w.drewN n) c t g db cap gs m := h.same rfl
theorem Post.refl (h : PlantAt w c t g db cap gs m) : Post w c t g db cap gs m w := ⟨c, fun _ _ => rfl, h, Ch.refl _ _⟩
theorem Post.stepped {w' : World} (h : PlantAt w c t g db cap gs m) {m' : Pl} (h' : PlantAt w' c t g db cap gs m') (hc : Ch (· = g) w w') : Post w c t g db cap gs m' w' :=
 ⟨c, fun _ _ => rfl, h', hc.mono fun i _ e => by rw [e, h.cg]⟩
/-- a device's contract, as the plant's -/
theorem Post.device {w1 w2 : World} {m1 m2 : Pl} (h1 : PlantAt w1 c t g db cap gs m1) (hc : Ch (fun b => (c b).1 = t) w w1) (i : Nat) (e1 : m2.sh = m1.sh) (e2 : ∀ j, j ≠ i → m2.fl j = m1.fl j ∧ m2.wt j = m1.wt j)
  (e3 : m2.on = m1.on ∧ m2.fuse = m1.fuse ∧ m2.steps = m1.steps ∧ m2.clock = m1.clock) (c' : Nat → Colour) (hcc : ∀ b, b < w1.heap.size → c' b = c b) (hch : Ch (fun b => c b = (t, i + 1)) w1 w2)
  (hd : DevIn w2 c' (t, i + 1) (gs i) (m2.tape i) (m2.size i) (m2.fl i) (m2.wt i)) : Post w c t g db cap gs m2 w2 :=
 ⟨c', fun b hb => hcc b (Nat.lt_of_lt_of_le hb hc.size), h1.device m2 i e1 e2 e3 hch hcc (fun _ => hd), hc.trans' hch fun b _ e => by rw [e]⟩
/-- the device of that number, or none -/
theorem device_any (h : PlantAt w c t g db cap gs m) (d : Int) : Calls Tryd.prog 47 #[ptr g, .int .i64 d] w fun e w' => (∃ v, e = .returned v ∧ (m.has d → v = ptr (gs d.toNat)) ∧ (¬ m.has d → v = .pointer none)) ∧ w' = w := by
 by_cases hd : m.has d
 ·obtain ⟨i, rfl⟩ : ∃ i : Nat, d = (i : Int) := ⟨d.toNat, by have := hd.1; omega⟩
  have hi : i < m.n := by have := hd.2; omega
  refine (device_in w g db m.n cap (gs i) i h.c0 hi (h.cell i hi)).mono ?_
  rintro e w' ⟨rfl, rfl⟩
  exact ⟨⟨_, rfl, fun _ => by simp, fun h => absurd hd h⟩, rfl⟩
 ·refine (device_out w g db m.n cap d h.c0 (by unfold Pl.has at hd; omega)).mono ?_
  rintro e w' ⟨rfl, rfl⟩
  exact ⟨⟨_, rfl, fun h => absurd h hd, fun _ => rfl⟩, rfl⟩
theorem device_at (h : PlantAt w c t g db cap gs m) (d : Int) (i : Nat) (hd : d = (i : Int)) (hi : i < m.n) : Calls Tryd.prog 47 #[ptr g, .int .i64 d] w fun e w' => e = .returned (ptr (gs i)) ∧ w' = w := by
 subst hd
 exact device_in w g db m.n cap (gs i) i h.c0 hi (h.cell i hi)
theorem device_no (h : PlantAt w c t g db cap gs m) (d : Int) (hd : ¬ m.has d) : Calls Tryd.prog 47 #[ptr g, .int .i64 d] w fun e w' => e = .returned (.pointer none) ∧ w' = w :=
 device_out w g db m.n cap d h.c0 (by unfold Pl.has at hd; omega)
theorem DevIn.d0 {k : Colour} {gi : Nat} {tape : Bool} {size : Nat} {fl : List (List Nat)} {wt : List Wr} (h : DevIn w c k gi tape size fl wt) : w.cell? ⟨gi, 0, none⟩ = some (.bool tape) := by
 obtain ⟨bm, bl, v, hr, _⟩ := h
 exact hr.at 0 _ rfl
theorem DevIn.d1 {k : Colour} {gi : Nat} {tape : Bool} {size : Nat} {fl : List (List Nat)} {wt : List Wr} (h : DevIn w c k gi tape size fl wt) : w.cell? ⟨gi, 1, none⟩ = some (.int .i64 (size : Nat)) := by
 obtain ⟨bm, bl, v, hr, _⟩ := h
 exact hr.at 1 _ rfl
theorem SliceIn.shape {v : Value} {cs : List Nat} (h : SliceIn w v cs) : ∃ p cap, v = .slice p cs.length cap ∧ cs.length ≤ 9223372036854775807 := by
 obtain ⟨p, cap, rfl, hl, _⟩ := h
 exact ⟨p, cap, rfl, hl.2⟩
/-- bytes are no part of a plant's block -/
theorem SliceIn.stepped {w' : World} {v : Value} {cs : List Nat} (h : SliceIn w v cs) (hp : PlantAt w c t g db cap gs m) (hc : Ch (· = g) w w') : SliceIn w' v cs := by
 obtain ⟨p, cp, rfl, hl, h⟩ := h
 refine ⟨p, cp, rfl, hl, ?_⟩
 rcases h with h | ⟨b, off, rfl, hb, h2⟩
 ·exact Or.inl h
 ·refine Or.inr ⟨b, off, rfl, fun j hj => hc.cell ?_ (hb j hj), h2⟩
  rintro rfl
  have h1 := hb j hj
  rw [hp.row.cell] at h1
  have hlt : off + j < 5 := by
   have := (List.getElem?_eq_some_iff.1 h1).1
   simpa [plCells] using this
  generalize off + j = k at *
  match k, hlt with
  | 0, _ => simp [plCells] at h1
  | 1, _ => simp [plCells] at h1
  | 2, _ => simp [plCells] at h1
  | 3, _ => simp [plCells] at h1
  | 4, _ => simp [plCells] at h1
theorem SliceIn.sec {v : Value} {cs : List Nat} (h : SliceIn w v cs) (hl : cs.length = 64) : Sec cs := by
 refine ⟨hl, fun x hx => ?_⟩
 obtain ⟨p, cap, rfl, _, h⟩ := h
 rcases h with rfl | ⟨b, off, rfl, _, hb⟩
 ·simp at hl
 ·obtain ⟨j, hj, rfl⟩ := List.getElem_of_mem hx
  have := hb j
  simpa [hj] using this
end

theorem post_wait {w w1 w2 : World} {c c' : Nat → Colour} {t g db cap : Nat} {gs : Nat → Nat} {m : Pl} (h : PlantAt w c t g db cap gs m) (hc : Ch (· = g) w w1) (h1 : PlantAt w1 c t g db cap gs m.step) (hf : m.fuse ≠ 0) (i q : Nat) (s : List Nat)
  (hcc : ∀ b, b < w1.heap.size → c' b = c b) (hd : DevIn w2 c' (t, i + 1) (gs i) (m.step.tape i) (m.step.size i) (m.step.fl i) (m.step.wt i ++ [⟨i, m.steps + 1, q, s⟩])) (hc2 : Ch (fun b => c b = (t, i + 1)) w1 w2) : Post w c t g db cap gs (m.step.wait i q s) w2 := by
 refine Post.device (m1 := m.step) (m2 := m.step.wait i q s) h1 (hc.mono fun b _ e => by rw [e, h.cg]) i ?_ (fun j hj => ⟨?_, ?_⟩) ?_ c' hcc hc2 ?_
 ·unfold Pl.wait; rfl
 ·unfold Pl.wait; rfl
 ·rw [Pl.wt_wait, if_neg (Ne.symm hj)]
 ·unfold Pl.wait; exact ⟨rfl, rfl, rfl, rfl⟩
 ·rw [Pl.wt_wait, if_pos rfl, m.step_steps hf]
  exact hd

set_option maxHeartbeats 400000 in
set_option maxRecDepth 100000 in
theorem write_any {w : World} {c : Nat → Colour} {t g db cap : Nat} {gs : Nat → Nat} {m : Pl} (h : PlantAt w c t g db cap gs m) (hwf : m.WF) (hst : m.steps < 1099511627776) (d p : Int) (v : Value) (s : List Nat) (hv : SliceIn w v s) :
  Calls Tryd.prog 60 #[ptr g, .int .i64 d, .int .i64 p, v] w fun e w' => e = .returned (.int .i64 (m.write d p s).1) ∧ Post w c t g db cap gs (m.write d p s).2 w' := by
 obtain ⟨r, hr⟩ : ∃ r, r = m.write d p s := ⟨_, rfl⟩
 rw [← hr]
 have c1 := h.c1
 have HP : Hid (PlantAt w c t g db cap gs m) := h
 have HR : Hid (r = m.write d p s) := hr
 clear h hr
 by_cases hon : m.on = false
 ·have er : r = (2, m) := by rw [HR.out]; unfold Pl.write; rw [if_pos hon]
  rw [hon] at c1
  subst er
  clear HR
  go_enter Tryd.func60, Tryd.ntmps60
  go_wp2_with (go_at_call 47; refine (device_any HP.out d).mono ?_; rintro e w' ⟨⟨vd, rfl, _, _⟩, rfl⟩)
  go_ret
  exact ⟨rfl, Post.refl HP.out⟩
 ·have hon' : m.on = true := by simpa using hon
  rw [hon'] at c1
  by_cases hd : m.has d
  ·obtain ⟨i, rfl⟩ : ∃ i : Nat, d = (i : Int) := ⟨d.toNat, by have := hd.1; omega⟩
   have hi : i < m.n := by have := hd.2; omega
   have HD : Hid (DevIn w c (t, i + 1) (gs i) (m.tape i) (m.size i) (m.fl i) (m.wt i)) := HP.out.dev i hi
   have d0 := HD.out.d0
   have d1 := HD.out.d1
   by_cases ht : m.tape i = true
   ·have er : r = (31, m) := by rw [HR.out]; unfold Pl.write; rw [if_neg hon, if_pos (by simp [ht])]
    subst er
    rw [ht] at d0
    clear HR
    go_enter Tryd.func60, Tryd.ntmps60
    go_wp2_with (go_at_call 47; refine (device_at HP.out _ i rfl hi).mono ?_; rintro e w' ⟨rfl, rfl⟩)
    go_ret
    exact ⟨rfl, Post.refl HP.out⟩
   ·have ht' : m.tape i = false := by simpa using ht
    rw [ht'] at d0
    by_cases hp : 0 ≤ p ∧ p < (m.size i : Int)
    ·obtain ⟨q, rfl⟩ : ∃ q : Nat, p = (q : Int) := ⟨p.toNat, by have := hp.1; omega⟩
     have hq : q < m.size i := by omega
     have hsz := (hwf.sizes i hi).2
     have t1 : decide ((q : Int) < 0) = false := by simp
     have t2 : decide ((m.size i : Int) ≤ (q : Int)) = false := by simp; omega
     obtain ⟨pv, cv, rfl, _⟩ := hv.shape
     by_cases hl : s.length = 64
     ·have hsec := hv.sec hl
      by_cases hf : m.fuse = 0
      ·have er : r = (2, m.step) := by rw [HR.out]; unfold Pl.write; rw [if_neg hon, if_neg (by simp [hd, ht', hq]), if_neg (by simp [hl]), if_pos hf]
       subst er
       have hok : m.stepOk = false := by simp [Pl.stepOk, hf]
       clear HR
       have t3 : ((s.length : Int) != 64) = false := by simp [hl]
       go_enter Tryd.func60, Tryd.ntmps60
       go_wp2_with (first | (go_at_call 47; refine (device_at HP.out _ i rfl hi).mono ?_; rintro e w' ⟨rfl, rfl⟩) | (go_at_call 72; refine (step_any HP.out (by omega) hwf.fuse1).mono ?_; rw [hok]; rintro e w' ⟨rfl, h1, hc1⟩))
       go_ret
       exact ⟨rfl, Post.stepped HP.out h1 hc1⟩
      ·have er : r = (0, m.step.wait i q s) := by rw [HR.out]; unfold Pl.write; rw [if_neg hon, if_neg (by simp [hd, ht', hq]), if_neg (by simp [hl]), if_neg hf]; simp
       subst er
       have hok : m.stepOk = true := by simp [Pl.stepOk, hf]
       clear HR
       have HV : Hid (SliceIn w (.slice pv 64 cv) s) := by rw [← hl]; exact hv
       rw [hl]
       clear hv hl
       go_enter Tryd.func60, Tryd.ntmps60
       go_upto_region 10 with (first | (go_at_call 47; refine (device_at HP.out _ i rfl hi).mono ?_; rintro e wd ⟨rfl, rfl⟩) | (go_at_call 72; refine (step_any HP.out (by omega) hwf.fuse1).mono ?_; rw [hok]; rintro e w1 ⟨rfl, h1, hc1⟩))
       have HC : Hid (Ch (· = g) wd w1) := hc1
       have H1 : Hid (PlantAt w1 c t g db cap gs m.step) := h1
       have c3 := h1.c3
       rw [m.step_steps hf] at c3
       obtain ⟨st, hst1⟩ : ∃ st, st = m.steps + 1 := ⟨_, rfl⟩
       rw [← hst1] at c3
       have HST : Hid (st = m.steps + 1) := hst1
       have HV1 : Hid (SliceIn w1 (.slice pv 64 cv) s) := HV.out.stepped HP.out hc1
       have hwl : (m.step.wt i).length < 1099511627776 := by
        have := m.wt_len i
        have := hwf.count
        rw [m.step_wt]
        omega
       have hi1 : i < m.step.n := by rw [m.step_n]; exact hi
       have HW := wait_any (H1.out.dev i hi1) i st q (by omega) hwl s hsec _ HV1.out
       have HWW : Hid (Calls Tryd.prog 73 #[ptr (gs i), .int .i64 (st : Int), .int .i64 (q : Int), .slice pv 64 cv] w1 fun e w' => e = .returned noResult ∧ ∃ c', (∀ b, b < w1.heap.size → c' b = c b) ∧ DevIn w' c' (t, i + 1) (gs i) (m.step.tape i) (m.step.size i) (m.step.fl i) (m.step.wt i ++ [⟨i, m.steps + 1, q, s⟩]) ∧ Ch (fun b => c b = (t, i + 1)) w1 w') := by rw [← hst1]; exact HW
       clear h1 hc1 HW c1 d0 d1 t1 t2 hst1
       go_wp2_with (go_at_call 73; refine HWW.out.mono ?_; rintro e w2 ⟨rfl, c', hcc, hd2, hc2⟩)
       go_ret
       exact ⟨rfl, post_wait HP.out HC.out H1.out hf i q s hcc hd2 hc2⟩
     ·have er : r = (32, m) := by rw [HR.out]; unfold Pl.write; rw [if_neg hon, if_neg (by simp [hd, ht', hq]), if_pos (by simp [hl])]
      subst er
      clear HR
      have t3 : ((s.length : Int) != 64) = true := by simp; omega
      go_enter Tryd.func60, Tryd.ntmps60
      go_wp2_with (go_at_call 47; refine (device_at HP.out _ i rfl hi).mono ?_; rintro e w' ⟨rfl, rfl⟩)
      go_ret
      exact ⟨rfl, Post.refl HP.out⟩
    ·have er : r = (31, m) := by rw [HR.out]; unfold Pl.write; rw [if_neg hon, if_pos (by simp only [Int.toNat_natCast]; intro hh; exact hp hh.2.2)]
     subst er
     clear HR
     by_cases hp0 : p < 0
     ·have t1 : decide (p < 0) = true := by simpa using hp0
      go_enter Tryd.func60, Tryd.ntmps60
      go_wp2_with (go_at_call 47; refine (device_at HP.out _ i rfl hi).mono ?_; rintro e w' ⟨rfl, rfl⟩)
      go_ret
      exact ⟨rfl, Post.refl HP.out⟩
     ·have t1 : decide (p < 0) = false := by simpa using hp0
      have t2 : decide ((m.size i : Int) ≤ p) = true := by simp; omega
      go_enter Tryd.func60, Tryd.ntmps60
      go_wp2_with (go_at_call 47; refine (device_at HP.out _ i rfl hi).mono ?_; rintro e w' ⟨rfl, rfl⟩)
      go_ret
      exact ⟨rfl, Post.refl HP.out⟩
  ·have er : r = (31, m) := by rw [HR.out]; unfold Pl.write; rw [if_neg hon, if_pos (by intro hh; exact hd hh.1)]
   subst er
   clear HR
   go_enter Tryd.func60, Tryd.ntmps60
   go_wp2_with (go_at_call 47; refine (device_no HP.out d hd).mono ?_; rintro e w' ⟨rfl, rfl⟩)
   go_ret
   exact ⟨rfl, Post.refl HP.out⟩
end Go.Proofs.YthgidfoidbgnaaaDoor

namespace Go.Proofs.YthgidfoidbgnaaaDoor
open Go.RowKit Go.Maps

theorem DevIn.drewN {w : World} {c : Nat → Colour} {k : Colour} {g : Nat} {tape : Bool} {size : Nat} {fl : List (List Nat)} {wt : List Wr} (h : DevIn w c k g tape size fl wt) (n : Nat) : DevIn (w.drewN n) c k g tape size fl wt :=
 h.kept fun _ _ hk => ⟨rfl, hk⟩
theorem length_is {w : World} {c : Nat → Colour} {t g db cap : Nat} {gs : Nat → Nat} {m : Pl} (h : PlantAt w c t g db cap gs m) (hwf : m.WF) (hst : m.steps < 1099511627776) (i : Nat) (hi : i < m.n) (L : Nat) (hL : L = m.len i) (n : Nat) :
  Calls Tryd.prog 77 #[ptr (gs i)] (w.drewN n) fun e w' => e = .returned (.int .i64 (L : Int)) ∧ ∃ k, w' = (w.drewN n).drewN k := by
 subst hL
 refine (length_any ((h.dev i hi).drewN n) (by have := m.wt_len i; have := hwf.count; omega)).mono ?_
 rintro e w' ⟨rfl, k, rfl⟩
 exact ⟨rfl, k, rfl⟩
theorem length_is0 {w : World} {c : Nat → Colour} {t g db cap : Nat} {gs : Nat → Nat} {m : Pl} (h : PlantAt w c t g db cap gs m) (hwf : m.WF) (hst : m.steps < 1099511627776) (i : Nat) (hi : i < m.n) (L : Nat) (hL : L = m.len i) :
  Calls Tryd.prog 77 #[ptr (gs i)] w fun e w' => e = .returned (.int .i64 (L : Int)) ∧ ∃ k, w' = w.drewN k := length_is h hwf hst i hi L hL 0
theorem Pl.len_le {m : Pl} (h : m.WF) (i : Nat) (hi : i < m.n) : m.len i ≤ 4096 := by
 have h1 := h.sizes i hi
 unfold Pl.len
 split
 ·rename_i ht
  have := (h.tapes i hi ht).1
  omega
 ·omega

end Go.Proofs.YthgidfoidbgnaaaDoor

namespace Go.Proofs.YthgidfoidbgnaaaDoor
open Go.RowKit Go.Maps

section
variable {w : World} {ops : Array Oper} {rest : List Oper} {o : Oper} {a : Act} {Q : Exit → Act → World → Prop}
/-- a function that has a body is entered -/
def EntersF (f : Nat) : Prop := ∀ args w, (callFunc f args).run Tryd.prog w = .ok (.enter f args) w
theorem en49 : EntersF 78 := Go.Proofs.enters_of Tryd.func78 (by kernel_rfl) rfl
theorem run_call {f : Nat} (ef : EntersF f) (xs : List Operand) (ts : Array TypeId) (ho : o.op = .call { callee := .value (.func f), args := xs.toArray, argTypes := ts }) (vs : List Value) (hv : xs.map a.eval = vs) : (execOp a.eval o).run Tryd.prog w = .ok (.enter f vs.toArray) w := by
 subst hv
 have hen := ef (xs.map a.eval).toArray w
 simp [execOp, ho, resolve, BigFrame.eval_func, Deferred.ofValue, invoke, hen]
theorem wpList_callF {f : Nat} (ef : EntersF f) (xs : List Operand) (ts : Array TypeId) (hgd : o.guard = none) (ho : o.op = .call { callee := .value (.func f), args := xs.toArray, argTypes := ts }) (vs : List Value) (hv : xs.map a.eval = vs)
  (h : Calls Tryd.prog f vs.toArray w fun e w' => ∃ v, e = .returned v ∧ wpList Tryd.prog ops Q rest (a.put o.dst v) w') : wpList Tryd.prog ops Q (o :: rest) a w :=
 wpList_plain hgd fun K hK => by
  unfold Oper.wp
  rw [run_call ef xs ts ho vs hv]
  refine h.mono fun e w' he => ?_
  obtain ⟨v, rfl, hw⟩ := he
  exact hK _ _ hw
theorem run_make64 (w : World) : (Instr.makeSlice 28 (.int .i64 64) (.int .i64 64)).run Tryd.prog w = .ok (.slice (some ⟨w.heap.size, 0, none⟩) 64 64) (w.alloc (.cells (zerosU8 64).toArray 5)) := by kernel_rfl
theorem wpList_make64 (x y : Operand) (hgd : o.guard = none) (ho : o.op = .makeSlice 28 x y) (hx : a.eval x = .int .i64 64) (hy : a.eval y = .int .i64 64)
  (h : ∀ w', Row w' w.heap.size 5 (zerosU8 64) → w'.heap.size = w.heap.size + 1 → Below w.heap.size w w' → wpList Tryd.prog ops Q rest (a.put o.dst (.slice (some ⟨w.heap.size, 0, none⟩) 64 64)) w') : wpList Tryd.prog ops Q (o :: rest) a w :=
 wpList_value hgd _ _ (by simp [execOp, ho, hx, hy, run_make64]) (h (w.alloc (.cells (zerosU8 64).toArray 5)) (Row.new w 5 (zerosU8 64)) (by simp) ((Below.refl _ _).alloc (Nat.le_refl _) _))
end
theorem Pl.rd_sec {m : Pl} (h : m.WF) (i p : Nat) : Sec (m.rd i p) := by
 unfold Pl.rd
 cases hl : lastAt (m.wt i) p with
 | none =>
  show Sec ((m.fl i).getD p zeros)
  by_cases hp : p < (m.fl i).length
  ·rw [List.getD_eq_getElem?_getD, List.getElem?_eq_getElem hp]
   exact h.secs i _ (List.getElem_mem hp)
  ·rw [List.getD_eq_getElem?_getD, List.getElem?_eq_none (by omega)]
   exact sec_zero
 | some b =>
  show Sec b
  unfold lastAt at hl
  cases hj : lastIdx (m.wt i) p with
  | none => rw [hj] at hl; cases hl
  | some j =>
   rw [hj] at hl
   simp only [Option.bind_some, Option.map_eq_some_iff] at hl
   obtain ⟨x, hx, rfl⟩ := hl
   exact h.wsec x (Pl.wt_mem (List.mem_of_getElem? hx)).1
theorem lastR_hit : ∀ (l : List Wr) (p : Nat), (∃ x ∈ l, x.place = p) → (lastR l p).isSome = true
 | [], _, h => by obtain ⟨x, hx, _⟩ := h; simp at hx
 | y :: r, p, h => by
  unfold lastR
  split
  ·rfl
  ·rename_i hn
   obtain ⟨x, hx, hp⟩ := h
   rcases List.mem_cons.1 hx with rfl | hx
   ·exact absurd hp hn
   ·exact lastR_hit r p ⟨x, hx, hp⟩
theorem Pl.there {m : Pl} (h : m.WF) (i p : Nat) (hi : i < m.n) (hp : p < m.len i) : p < (m.fl i).length ∨ (lastIdx (m.wt i) p).isSome = true := by
 unfold Pl.len at hp
 split at hp
 ·rename_i ht
  by_cases hl : p < (m.fl i).length
  ·exact Or.inl hl
  ·refine Or.inr (lastR_hit _ _ ?_)
   have hj : p - (m.fl i).length < (m.wt i).length := by omega
   refine ⟨_, List.mem_reverse.2 (List.getElem_mem hj), ?_⟩
   have := (h.tapes i hi ht).2 (p - (m.fl i).length) _ (List.getElem?_eq_getElem hj)
   omega
 ·rename_i ht
  left
  rw [h.disk i hi (by simpa using ht)]
  exact hp

set_option maxHeartbeats 400000 in
set_option maxRecDepth 100000 in
theorem readP_any {w : World} {c : Nat → Colour} {t g db cap : Nat} {gs : Nat → Nat} {m : Pl} (h : PlantAt w c t g db cap gs m) (hwf : m.WF) (hst : m.steps < 1099511627776) (hon : m.on = true) (i p : Nat) (hi : i < m.n) (hp : p < m.len i) :
  Calls Tryd.prog 66 #[ptr g, .int .i64 (i : Int), .int .i64 (p : Int)] w fun e w' => ∃ b, e = .returned (.tuple #[.slice (some ⟨b, 0, none⟩) 64 64, .int .i64 0]) ∧ w.heap.size ≤ b ∧ Row w' b 5 (bcells (m.rd i p)) ∧ Below w.heap.size w w' := by
 have c1 := h.c1
 rw [hon] at c1
 obtain ⟨L, hL⟩ : ∃ L, L = m.len i := ⟨_, rfl⟩
 rw [← hL] at hp
 obtain ⟨s, hs⟩ : ∃ s, s = m.rd i p := ⟨_, rfl⟩
 rw [← hs]
 have hsec : Sec s := by rw [hs]; exact Pl.rd_sec hwf i p
 have hL4 : L ≤ 4096 := by rw [hL]; exact Pl.len_le hwf i hi
 have hlen : (bcells s).length = 64 := by rw [bcells_length]; exact hsec.1
 have HP : Hid (PlantAt w c t g db cap gs m) := h
 have HL : Hid (L = m.len i) := hL
 have HS : Hid (s = m.rd i p) := hs
 have t1 : decide ((p : Int) < 0) = false := by simp
 have t2 : decide ((L : Int) ≤ (p : Int)) = false := by simp; omega
 have t3 : decide (L ≤ p) = false := by simp; omega
 clear h hL hs
 go_enter Tryd.func66, Tryd.ntmps66
 go_upto_region 6 with (first | (go_at_call 47; refine (device_at HP.out _ i rfl hi).mono ?_; rintro e wd ⟨rfl, rfl⟩) | (go_at_call 77; refine (length_is0 HP.out hwf hst i hi L HL.out).mono ?_; rintro e w2 ⟨rfl, k, rfl⟩))
 refine wp_region_lit ?_
 refine wpList_move (.tmp 8) rfl rfl (ptr (gs i)) rfl ?_
 refine wpList_move (.tmp 2) rfl rfl (.int .i64 (p : Int)) rfl ?_
 simp only [Act.put, aS, aC, aZ]
 refine wpList_callF en49 [.tmp 33, .tmp 34] _ rfl rfl [ptr (gs i), .int .i64 (p : Int)] rfl ?_
 have hrd := read_any ((HP.out.dev i hi).drewN k) p (by omega) (fun x hx => (hwf.wsec x (Pl.wt_mem hx).1).1) (Pl.there hwf i p hi (by rw [← HL.out]; exact hp)) (fun x hx => (hwf.secs i x hx).1) s HS.out.symm
 refine hrd.mono ?_
 clear hrd
 rintro e w3 ⟨rfl, b3⟩
 refine ⟨_, rfl, ?_⟩
 simp only [Act.put, aS, aC, aZ]
 refine wpList_alloc_store agg84 _ zero84 rfl rfl rfl rfl rfl (.tmp 35) rfl (bcells s) hlen rfl (bcells_one s) (fun _ => rfl) (fun _ => rfl) ?_
 intro w4 r4 s4 b4
 refine wpList_nil ?_
 simp only [Act.put, aS, aC, aZ]
 obtain ⟨q, hq⟩ : ∃ q, q = w3.heap.size := ⟨_, rfl⟩
 rw [← hq] at r4 s4 b4 ⊢
 have HB4 : Hid (Below wd.heap.size wd w4 ∧ wd.heap.size ≤ q) := by
  have hb3 : Below wd.heap.size wd w3 := (Below.drewN (Below.refl _ wd) k).trans b3
  have := b3.size
  have e : (wd.drewN k).heap.size = wd.heap.size := rfl
  exact ⟨hb3.trans (b4.mono (by omega)), by omega⟩
 clear b4 b3 hq
 go_upto_region 7 with fail
 refine wp_region_lit ?_
 refine wpList_make64 _ _ rfl rfl rfl rfl ?_
 intro w5 r5 s5 b5
 refine wpList_assign (.tmp 36) rfl rfl _ rfl ?_
 refine wpList_nil ?_
 simp only [Act.put, aS, aC, aZ]
 obtain ⟨q2, hq2⟩ : ∃ q2, q2 = w4.heap.size := ⟨_, rfl⟩
 rw [← hq2] at r5 s5 b5 ⊢
 have r45 : Row w5 q 74 (bcells s) := r4.later b5 (by omega)
 have HB5 : Hid (Below wd.heap.size wd w5 ∧ wd.heap.size ≤ q2 ∧ q < q2) := by
  have := HB4.out.1.size
  exact ⟨HB4.out.1.trans (b5.mono (by omega)), by omega, by omega⟩
 clear b5 s5 s4 r4 hq2 HB4
 go_upto_region 8 with fail
 refine wp_region_lit ?_
 refine wpList_move (.tmp 10) rfl rfl (.slice (some ⟨q2, 0, none⟩) 64 64) rfl ?_
 refine wpList_slice84 (.tmp 9) rfl rfl q 0 rfl ?_
 simp only [Act.put, aS, aC, aZ]
 refine wpList_copy_row (.tmp 37) (.tmp 38) rfl rfl q2 0 64 64 q 0 64 64 5 64 rfl rfl _ r5 s hsec.1 rfl (fun j hj => ?_) (by simp [zerosU8]) ?_
 ·rw [Nat.zero_add, r45.cell]
  exact bcells_at s j hj
 intro w6 r6 s6 ch6
 refine wpList_nil ?_
 simp only [Act.put, aS, aC, aZ]
 rw [splice_all _ _ (by rw [hlen]; simp [zerosU8])] at r6
 have HB6 : Hid (Below wd.heap.size wd w6 ∧ wd.heap.size ≤ q2) := ⟨HB5.out.1.trans (ch6.below HB5.out.1.size (fun b hb e => by have := HB5.out.2.1; omega)), HB5.out.2.1⟩
 have R6 : Hid (Row w6 q2 5 (bcells s)) := r6
 clear r6 s6 ch6 r5 r45 HB5
 go_wp2
 go_ret2
 exact ⟨q2, rfl, HB6.out.2, R6.out, HB6.out.1⟩
end Go.Proofs.YthgidfoidbgnaaaDoor

/- Layer 14: sectors read; bytes that are new. -/
import Derived.Test.YthgidfoidbgnaaaDoorE30
import Derived.Laws.StructEq
namespace Go.Proofs.YthgidfoidbgnaaaDoor
open Go.RowKit Go.Maps

theorem heql64 (a b : List Nat) (ha : Sec a) (hb : Sec b) (W : World) : (Op.equalIn 10000 73 (.agg (bcells a).toArray) (.agg (bcells b).toArray)).run Tryd.prog W = .ok (decide (a = b)) W := by
 obtain ⟨i, hi, hsz⟩ := Option.map_eq_some_iff.1 info5
 have key : ∀ (c : List Nat) (_ : Sec c) j, j < 64 → ((part 5 (bcells c).toArray (j * i.size)).run Tryd.prog W = .ok (.int .u8 (c.getD j 0 : Nat)) W) := by
  intro c hc j hj
  have := bcells_at c j (by rw [hc.1]; exact hj)
  simp [part, isAgg, run_underlying Tryd.underlying5, this, hsz]
 have e : (10000 : Nat) = 9998 + 1 + 1 := rfl
 have hs5 : (sizeOf 5).run Tryd.prog W = .ok i.size W := by simp [sizeOf, typeInfo, hi]
 have hq : ∀ x y : Nat, (Op.equalIn (9998 + 1) 5 (.int .u8 (x : Nat)) (.int .u8 (y : Nat))).run Tryd.prog W = .ok (decide (x = y)) W := fun x y => by
  rw [run_equalIn_int W 9998 5 .u8 .u8 x y Tryd.underlying5]
  by_cases h : x = y
  ·subst h; simp
  ·have : ¬ (x : Int) = (y : Int) := by omega
   simp only [h, decide_false]
   simp [this]
 have hdec : decide (a = b) = decide (∀ j ∈ List.range' 0 64 1, a.getD j 0 = b.getD j 0) := by
  rw [decide_eq_decide]
  constructor
  ·rintro rfl j _; rfl
  ·intro h
   refine List.ext_getElem (by rw [ha.1, hb.1]) fun j h1 h2 => ?_
   have := h j (List.mem_range'_1.2 ⟨Nat.zero_le _, by rw [ha.1] at h1; omega⟩)
   simpa [h1, h2] using this
 rw [e, Op.equalIn]
 simp only [Sem.run_bind, run_underlying Tryd.underlying73, Result.andThen_ok, hs5, Std.Legacy.Range.forIn_eq_forIn_range']
 have hL : ∀ j ∈ List.range' 0 64 1, j < 64 := by
  intro j hj
  have := (List.mem_range'_1.1 hj).2
  omega
 rw [hdec]
 clear hdec
 show Result.andThen (Sem.run Tryd.prog (forIn (List.range' 0 64 1) _ _) W) _ = _
 generalize List.range' 0 64 1 = L at hL ⊢
 induction L with
 | nil => simp
 | cons j L ih =>
  have hj := hL j (by simp)
  have hka := key a ha j hj
  have hkb := key b hb j hj
  have ih' := ih (fun x hx => hL x (by simp [hx]))
  simp only [List.forIn_cons, Sem.run_bind, hka, hkb, Result.andThen_ok, hq]
  by_cases h : a.getD j 0 = b.getD j 0
  ·simp only [h, decide_true, Bool.not_true, Bool.false_eq_true, if_false, Sem.run_pure, Result.andThen_ok]
   have e2 : decide (∀ x ∈ j :: L, a.getD x 0 = b.getD x 0) = decide (∀ x ∈ L, a.getD x 0 = b.getD x 0) := by
    rw [decide_eq_decide]
    constructor
    ·intro hh x hx; exact hh x (List.mem_cons_of_mem _ hx)
    ·intro hh x hx
     rcases List.mem_cons.1 hx with rfl | hx
     ·exact h
     ·exact hh x hx
   rw [e2]
   exact ih'
  ·have e2 : decide (∀ x ∈ j :: L, a.getD x 0 = b.getD x 0) = false := by
    rw [decide_eq_false_iff_not]
    intro hh
    exact h (hh j (List.mem_cons_self ..))
   rw [e2]
   simp only [h, decide_false, Bool.not_false, if_true, Sem.run_pure, Result.andThen_ok]
theorem run_neSec {w : World} {a : Act} {o : Oper} (x y : Operand) (ho : o.op = .binOp .neq 73 x y 73) (h h' : List Nat) (hh : Sec h) (hh' : Sec h') (hx : a.eval x = .agg (bcells h).toArray) (hy : a.eval y = .agg (bcells h').toArray) (b : Bool) (hb : (!decide (h = h')) = b) : (execOp a.eval o).run Tryd.prog w = .ok (.value (.bool b)) w := by
 have hm : Tryd.prog.eqGuardType Tryd.prog.depth 73 = false := by kernel_rfl
 have he := heql64 h h' hh hh' w
 rw [← hb]
 simp [execOp, ho, hx, hy, run_eqGuard_agg w .neq 73 x y _ _ hm, run_neq_struct w 73, he]
/-- bytes that came out new: from the block B on -/
def BNew (B : Nat) (W : World) (v : Value) (cs : List Nat) : Prop := SliceIn W v cs ∧ (cs ≠ [] → ∃ g off cap cur, v = .slice (some ⟨g, off, none⟩) cs.length cap ∧ B ≤ g ∧ Row W g 5 cur ∧ off + cs.length ≤ cur.length)
theorem BNew.later {B : Nat} {W W' : World} {v : Value} {cs : List Nat} (h : BNew B W v cs) (hb : Below W.heap.size W W') : BNew B W' v cs := by
 refine ⟨h.1.later hb, fun hne => ?_⟩
 obtain ⟨g, off, cap, cur, h1, h2, h3, h4⟩ := h.2 hne
 exact ⟨g, off, cap, cur, h1, h2, h3.later hb h3.lt, h4⟩
theorem BNew.mono {B B' : Nat} {W : World} {v : Value} {cs : List Nat} (h : BNew B W v cs) (hb : B' ≤ B) : BNew B' W v cs := by
 refine ⟨h.1, fun hne => ?_⟩
 obtain ⟨g, off, cap, cur, h1, h2, h3, h4⟩ := h.2 hne
 exact ⟨g, off, cap, cur, h1, Nat.le_trans hb h2, h3, h4⟩
theorem sub_new {W : World} {base : Nat} {v : Value} {cs : List Nat} (h : BOwn W base v cs) (hb : ∀ c ∈ cs, c < 256) (hx : cs.length ≤ 9223372036854775807) (l : Nat) (hl : l ≤ cs.length) : ∃ v', (∀ w', (Instr.slice 28 v (some (.int .i64 (l : Nat))) none none).run Tryd.prog w' = .ok v' w') ∧ BNew base W v' (cs.drop l) := by
 have hsl := h.slice hb hx
 obtain ⟨p, cap, rfl, hcap, hin⟩ := hsl
 obtain ⟨i, hi5, hsz⟩ := Option.map_eq_some_iff.1 info5
 have hsize : ∀ w' : World, (sizeOf 5).run Tryd.prog w' = .ok 1 w' := fun w' => by simp [sizeOf, typeInfo, hi5, hsz]
 have hs := sub_in hcap hin l cs.length cap hl (Nat.le_refl _) hcap.1
 rw [List.take_of_length_le (Nat.le_refl _)] at hs
 refine ⟨sliced p l cs.length cap 1, fun w' => by rw [run_slice_l _ _ _ _ _ sl38 _ _ (by omega) (by omega), elem51, hsize]; rfl, hs, fun hne => ?_⟩
 have hlt : l < cs.length := by
  rcases Nat.lt_or_ge l cs.length with q | q
  ·exact q
  ·exact absurd (List.drop_of_length_le q) hne
 obtain ⟨_, h2⟩ := h
 rcases h2 with ⟨h2, h3⟩ | ⟨g, cap', cur, h2, h3, h4, h5, h6, h7, h8⟩
 ·omega
 ·injection h2 with e1 e2 e3
  subst e1
  subst e3
  refine ⟨g, 0 + l, cap - l, cur.toList, ?_, h3, h4, ?_⟩
  ·unfold sliced
   rw [if_neg (by omega), Option.map_some, Nat.mul_one, add_none, List.length_drop]
  ·rw [List.length_drop]
   simp
   omega

/-- the sectors up to i are read -/
def rdTo (f : Nat → List Nat) (l i : Nat) : List Nat := ((List.range i).map f).flatten ++ List.replicate (64 * (l - i)) 0
theorem rdTo_flat {f : Nat → List Nat} (h : ∀ j, (f j).length = 64) (i : Nat) : ((List.range i).map f).flatten.length = 64 * i := by
 rw [flat64 (fun s hs => by obtain ⟨j, _, rfl⟩ := List.mem_map.1 hs; exact h j)]
 simp
theorem rdTo_step {f : Nat → List Nat} (h : ∀ j, (f j).length = 64) (l i : Nat) (hi : i < l) : splice (rdTo f l i) (i * 64 + 0) (f i) = rdTo f l (i + 1) := by
 unfold rdTo
 rw [splice_mid _ _ _ _ (by rw [rdTo_flat h]; omega), List.drop_replicate, h, List.range_succ, List.map_append, List.flatten_append]
 simp only [List.map_cons, List.map_nil, List.flatten_cons, List.flatten_nil, List.append_nil, List.append_assoc]
 congr 3
 omega
set_option maxHeartbeats 4000000 in
set_option maxRecDepth 100000 in
theorem read_any' {w : World} {gh gp gf gm d n : Nat} {fr : List Nat} {f : Int → Option Int} {c : Nat → Colour} {m : Pl} (h : HotM w gh gp gf gm d n fr f) (hp : Live w c 2 gp m) (hst : m.steps < 1099511627775) (hon : m.on = true) (hd : d < m.n) (A l : Nat) (bd : Bool) (hA : A + l ≤ m.len d) (hA2 : A ≤ 1000000) (hl : l ≤ 1000) : Calls Tryd.prog 50 #[ptr gh, .agg (plC (d : Nat) (A : Nat) (l : Nat) bd).toArray] w fun e w' => ∃ gi, e = .returned (.tuple #[whole gi l, .int .i64 0]) ∧ w.heap.size ≤ gi ∧ ImgIn w' gi ((List.range l).map fun j => m.rd d (A + j)) ∧ Below w.heap.size w w' := by
 have HM : Hid (HotM w gh gp gf gm d n fr f ∧ Live w c 2 gp m) := ⟨h, hp⟩
 have HL : Hid (A + l ≤ m.len d ∧ d < m.n ∧ m.on = true ∧ m.steps < 1099511627775) := ⟨hA, hd, hon, hst⟩
 obtain ⟨fd, hfd⟩ : ∃ fd : Nat → List Nat, fd = fun j => m.rd d (A + j) := ⟨_, rfl⟩
 have HFD : Hid (fd = (fun j => m.rd d (A + j)) ∧ ∀ j, Sec (fd j)) := ⟨hfd, fun j => by rw [hfd]; exact Pl.rd_sec hp.2.1 d (A + j)⟩
 clear h hp hA hd hon hst hfd
 obtain ⟨PQ, HPQ⟩ := exPQ fun (e : Ending) (w' : World) => ∃ gi, e = .returned (.tuple #[whole gi l, .int .i64 0]) ∧ w.heap.size ≤ gi ∧ ImgIn w' gi ((List.range l).map fun j => m.rd d (A + j)) ∧ Below w.heap.size w w'
 rw [← HPQ.out]
 go_enter Tryd.func50, Tryd.ntmps50
 go_upto_region 0 with fail
 refine wp_region_lit ?_
 refine wl rfl (ptr w.heap.size) _ (run_boxA (.tmp 1) rfl (plC (d : Nat) (A : Nat) (l : Nat) bd) rfl) ?_
 have hb_ := below_alloc w (.cells (plC (d : Nat) (A : Nat) (l : Nat) bd).toArray 30)
 have r_ := Row.new w 30 (plC (d : Nat) (A : Nat) (l : Nat) bd)
 obtain ⟨w1, hW_⟩ : ∃ W, W = w.alloc (.cells (plC (d : Nat) (A : Nat) (l : Nat) bd).toArray 30) := ⟨_, rfl⟩
 obtain ⟨q, hq_⟩ : ∃ q, q = w.heap.size := ⟨_, rfl⟩
 rw [← hW_] at hb_
 rw [← hW_, ← hq_] at r_
 rw [← hW_, ← hq_]
 have HA : Hid (Row w1 q 30 (plC (d : Nat) (A : Nat) (l : Nat) bd) ∧ HotM w1 gh gp gf gm d n fr f ∧ Live w1 c 2 gp m ∧ Below w.heap.size w w1) := ⟨r_, HM.out.1.later hb_, HM.out.2.below hb_, hb_⟩
 clear r_ hb_ hW_ hq_
 simp only [Act.put, aS, aC, aZ]
 refine wl rfl (.slice none 0 0) _ (run_asZ (.const (.slice none 0 0)) rfl (.slice none 0 0) rfl) ?_
 refine wl rfl (.int .i64 0) _ (run_asZ (.const (.int .i64 0)) rfl (.int .i64 0) rfl) ?_
 simp only [Act.put, aS, aC, aZ]
 refine wpList_nil ?_
 go_upto_region 1 with fail
 refine wp_region_lit ?_
 refine wl rfl (.pointer (some ⟨q, 0 + 2, none⟩)) _ (run_fieldOp' f30_2 (.tmp 3) rfl q (0) rfl) ?_
 refine wl rfl (.int .i64 (l : Nat)) _ (run_load1 o3 (.tmp 10) rfl q (0 + 2) rfl (.int .i64 (l : Nat)) (HA.out.1.at 2 _ rfl)) ?_
 simp only [Act.put, aS, aC, aZ]
 refine wl_make (.tmp 11) (.tmp 11) 96 73 Z64 64 64 rfl rfl und96 info73 l rfl rfl (by omega) (by omega) ?_
 intro w5 r5 z5 b5
 rw [made73] at r5
 obtain ⟨gi, hgi⟩ : ∃ g, g = w1.heap.size := ⟨_, rfl⟩
 rw [← hgi] at r5 z5 ⊢
 have H5 : Hid (Row w5 gi 73 (bcells (rdTo fd l 0)) ∧ Below w1.heap.size w1 w5 ∧ w1.heap.size ≤ gi) := ⟨by simpa [rdTo] using r5, b5, by omega⟩
 clear r5 z5 b5 hgi
 simp only [Act.put, aS, aC, aZ]
 refine wl rfl (whole gi l) _ (run_asZ (.tmp 12) rfl (whole gi l) rfl) ?_
 simp only [Act.put, aS, aC, aZ]
 refine wpList_nil ?_
 go_upto_region 2 with fail
 refine wp_region_lit ?_
 refine wl rfl (whole gi l) _ (run_mvZ (.tmp 6) rfl (whole gi l) rfl) ?_
 refine wl rfl (.int .i64 (l : Nat)) _ (run_lenZ sl96 (.tmp 13) rfl (some ⟨gi, 0, none⟩) l l rfl) ?_
 refine wl rfl (.int .i64 0) _ (run_mvZ (.const (.int .i64 0)) rfl (.int .i64 0) rfl) ?_
 simp only [Act.put, aS, aC, aZ]
 refine wpList_nil ?_
 go_wp2_with fail
 go_loopw [15] (fun vi W => ∃ i : Nat, vi = .int .i64 (i : Nat) ∧ i ≤ l ∧ Hid (Row W gi 73 (bcells (rdTo fd l i)) ∧ Below w1.heap.size w1 W)) (fun vi _ => l - (intOf vi).toNat)
 case atStart => exact ⟨0, rfl, Nat.zero_le _, ⟨H5.out.1, H5.out.2.1⟩⟩
 case round =>
  obtain ⟨i, rfl, hi, HI⟩ := hrel
  by_cases hlt : i < l
  ·go_upto_region 3 with fail
   refine wp_region_lit ?_
   refine wl rfl (.bool true) _ (run_lssZ (.tmp 15) (.tmp 14) rfl (i : Nat) (l : Nat) rfl rfl true (decide_eq_true (by omega))) ?_
   simp only [Act.put, aS, aC, aZ]
   refine wpList_nil ?_
   go_upto_region 4 with fail
   refine wp_region_lit ?_
   refine wl rfl (.int .i64 (i : Nat)) _ (run_mvZ (.tmp 15) rfl (.int .i64 (i : Nat)) rfl) ?_
   refine wl rfl (.int .i64 (i : Nat)) _ (run_asZ (.tmp 17) rfl (.int .i64 (i : Nat)) rfl) ?_
   simp only [Act.put, aS, aC, aZ]
   refine wpList_nil ?_
   have HBD : Hid (A + i < m.len d) := (by have := HL.out.1; show _ < _; omega)
   go_upto_region 5 with fail
   refine wp_region_held (S := fun X => Row X q 30 (plC (d : Nat) (A : Nat) (l : Nat) bd) ∧ HotM X gh gp gf gm d n fr f) (by kernel_rfl) ?_
   show wpAnyH _ _ _ _ _ 18 (Array.replicate 18 false) _ _
   obtain ⟨X, hX⟩ : ∃ X : World, X = { wr with drawn := wr.drawn + 1 } := ⟨_, rfl⟩
   rw [← hX]
   have HBX : Hid (Below wr.heap.size wr X ∧ Below w1.heap.size w1 X) := (by rw [hX]; exact ⟨⟨rfl, rfl, rfl, Nat.le_refl _, fun _ _ => rfl⟩, HI.out.2.trans ⟨rfl, rfl, rfl, Nat.le_refl _, fun _ _ => rfl⟩⟩)
   have HS_ : Row X q 30 (plC (d : Nat) (A : Nat) (l : Nat) bd) ∧ HotM X gh gp gf gm d n fr f := ⟨HA.out.1.later HBX.out.2 HA.out.1.lt, HA.out.2.1.later HBX.out.2⟩
   have HLX : Hid (Live X c 2 gp m) := HA.out.2.2.1.below HBX.out.2
   clear hX
   refine tH 0 19 rfl rfl (gRun rfl (ptr gh) fun _ h => run_mvZ (.tmp 0) rfl (ptr gh) rfl) HS_ ?_
   refine tH 1 20 rfl rfl (gRun rfl (ptr gh) fun _ h => run_nil (.tmp 19) rfl ⟨gh, 0, none⟩ rfl) HS_ ?_
   refine tH 2 21 rfl rfl (gRun rfl (.pointer (some ⟨gh, 0 + 0, none⟩)) fun _ h => run_fieldOp' f90_0 (.tmp 20) rfl gh (0) rfl) HS_ ?_
   refine tH 3 22 rfl rfl (gRun rfl (ptr gp) fun _ h => run_load1 o34 (.tmp 21) rfl gh (0 + 0) rfl (ptr gp) (h.2.row.at 0 _ rfl)) HS_ ?_
   simp only [Act.put, aS, aC, aZ]
   refine tH 4 23 rfl rfl (gRun rfl (ptr gh) fun _ h => run_mvZ (.tmp 0) rfl (ptr gh) rfl) HS_ ?_
   refine tH 5 24 rfl rfl (gRun rfl (ptr gh) fun _ h => run_nil (.tmp 23) rfl ⟨gh, 0, none⟩ rfl) HS_ ?_
   refine tH 6 25 rfl rfl (gRun rfl (.pointer (some ⟨gh, 0 + 1, none⟩)) fun _ h => run_fieldOp' f90_1 (.tmp 24) rfl gh (0) rfl) HS_ ?_
   refine tH 7 26 rfl rfl (gRun rfl (.int .i64 (d : Nat)) fun _ h => run_load1 o3 (.tmp 25) rfl gh (0 + 1) rfl (.int .i64 (d : Nat)) (h.2.row.at 1 _ rfl)) HS_ ?_
   simp only [Act.put, aS, aC, aZ]
   refine tH 8 27 rfl rfl (gRun rfl (.pointer (some ⟨q, 0 + 1, none⟩)) fun _ h => run_fieldOp' f30_1 (.tmp 3) rfl q (0) rfl) HS_ ?_
   refine tH 9 28 rfl rfl (gRun rfl (.int .i64 (A : Nat)) fun _ h => run_load1 o3 (.tmp 27) rfl q (0 + 1) rfl (.int .i64 (A : Nat)) (h.1.at 1 _ rfl)) HS_ ?_
   refine tH 10 29 rfl rfl (gRun rfl (.int .i64 (i : Nat)) fun _ h => run_mvZ (.tmp 7) rfl (.int .i64 (i : Nat)) rfl) HS_ ?_
   refine tH 11 30 rfl rfl (gRun rfl (.int .i64 ((A + i : Nat) : Int)) fun _ h => run_addZ (.tmp 28) (.tmp 29) rfl (A : Nat) (i : Nat) _ rfl rfl (by omega) (by omega) (by omega)) HS_ ?_
   simp only [Act.put, aS, aC, aZ]
   refine oneH (i := 12) (by kernel_rfl) ?_
   refine opCallG (some 31) rfl rfl rfl 66 _ (run_call eN66 [.tmp 22, .tmp 26, .tmp 30] _ rfl [(ptr gp), (.int .i64 (d : Nat)), (.int .i64 ((A + i : Nat) : Int))] rfl) ?_
   refine (HLX.out.read HL.out.2.2.2 HL.out.2.2.1 d (A + i) HL.out.2.1 HBD.out).mono ?_
   rintro e W2 ⟨gb, rfl, _, hr_, hb_⟩
   have HJ : Hid (Row W2 gb 5 (bcells (fd i)) ∧ Row W2 gi 73 (bcells (rdTo fd l i)) ∧ Below w1.heap.size w1 W2) := ⟨by rw [HFD.out.1]; exact hr_, (HI.out.1.later HBX.out.1 HI.out.1.lt).later hb_ (Nat.lt_of_lt_of_le HI.out.1.lt HBX.out.1.size), HBX.out.2.trans (hb_.mono HBX.out.2.size)⟩
   replace HS_ : Row W2 q 30 (plC (d : Nat) (A : Nat) (l : Nat) bd) ∧ HotM W2 gh gp gf gm d n fr f := ⟨HS_.1.later hb_ HS_.1.lt, HS_.2.later hb_⟩
   clear hr_ hb_
   refine ⟨_, rfl, ?_⟩
   refine ⟨HS_, ?_⟩
   simp only [Act.put, aS, aC, aZ]
   refine tH 13 18 rfl rfl (gRun rfl (.tuple #[(.slice (some ⟨gb, 0, none⟩) 64 64), (.int .i64 0)]) fun _ h => run_mvZ (.tmp 31) rfl (.tuple #[(.slice (some ⟨gb, 0, none⟩) 64 64), (.int .i64 0)]) rfl) HS_ ?_
   refine tH 14 32 rfl rfl (gRun rfl (.slice (some ⟨gb, 0, none⟩) 64 64) fun _ h => run_extZ (.tmp 18) 0 rfl #[(.slice (some ⟨gb, 0, none⟩) 64 64), (.int .i64 0)] rfl (.slice (some ⟨gb, 0, none⟩) 64 64) rfl) HS_ ?_
   refine tH 15 33 rfl rfl (gRun rfl (.int .i64 0) fun _ h => run_extZ (.tmp 18) 1 rfl #[(.slice (some ⟨gb, 0, none⟩) 64 64), (.int .i64 0)] rfl (.int .i64 0) rfl) HS_ ?_
   refine tH 16 8 rfl rfl (gRun rfl (.slice (some ⟨gb, 0, none⟩) 64 64) fun _ h => run_asZ (.tmp 32) rfl (.slice (some ⟨gb, 0, none⟩) 64 64) rfl) HS_ ?_
   simp only [Act.put, aS, aC, aZ]
   refine tH 17 9 rfl rfl (gRun rfl (.int .i64 0) fun _ h => run_asZ (.tmp 33) rfl (.int .i64 0) rfl) HS_ ?_
   simp only [Act.put, aS, aC, aZ]
   refine wpAnyH_done (by kernel_rfl) ?_ _
   go_upto_region 6 with fail
   refine wp_region_lit ?_
   refine wl rfl (.int .i64 0) _ (run_mvZ (.tmp 9) rfl (.int .i64 0) rfl) ?_
   refine wl rfl (.bool false) _ (run_neZ (.tmp 34) (.const (.int .i64 0)) rfl (0) (0) rfl rfl false rfl) ?_
   simp only [Act.put, aS, aC, aZ]
   refine wpList_nil ?_
   obtain ⟨W3, hc1, r1, c1, z1⟩ := copyS (off := i * 64 + 0) (dLen := 64 - 0) (dCap := 64 - 0) (v := .slice (some ⟨gb, 0, none⟩) 64 64) (by have e_ := whole_slice HJ.out.1 (HFD.out.2 i).2 (by rw [(HFD.out.2 i).1]; decide); rw [(HFD.out.2 i).1] at e_; exact e_) HJ.out.2.1 64 (by rw [(HFD.out.2 i).1]; rfl) (by rw [bcells_length, rdTo, List.length_append, rdTo_flat (fun j => (HFD.out.2 j).1), List.length_replicate]; omega)
   have HC1 : Hid (∀ ty, (Builtin.copy_ #[28, 28] ty #[.slice (some ⟨gi, i * 64 + 0, none⟩) (64 - 0) (64 - 0), .slice (some ⟨gb, 0, none⟩) 64 64]).run Tryd.prog W2 = .ok (.int .i64 (64 : Nat)) W3) := hc1
   have HR1 : Hid (Row W3 gi 73 (bcells (rdTo fd l (i + 1))) ∧ Below w1.heap.size w1 W3) := ⟨by rw [← rdTo_step (fun j => (HFD.out.2 j).1) l i hlt, bcells_splice]; rw [List.take_of_length_le (by rw [(HFD.out.2 i).1]; decide)] at r1; exact r1, HJ.out.2.2.trans (c1.below HJ.out.2.2.size fun q hq e => by have := H5.out.2.2; omega)⟩
   clear hc1 r1 c1 z1
   go_upto_region 8 with fail
   refine wp_region_lit ?_
   refine wl rfl (whole gi l) _ (run_mvZ (.tmp 6) rfl (whole gi l) rfl) ?_
   refine wl rfl (.int .i64 (i : Nat)) _ (run_mvZ (.tmp 7) rfl (.int .i64 (i : Nat)) rfl) ?_
   refine wl rfl (.pointer (some ⟨gi, i * 64, none⟩)) _ (run_idx (.tmp 37) (.tmp 38) rfl _ _ _ rfl rfl (ix96 gi l i hlt)) ?_
   refine wl rfl (.slice (some ⟨gi, i * 64 + 0, none⟩) (64 - 0) (64 - 0)) _ (run_slA arr73 (.tmp 39) none none rfl gi (i * 64) 0 64 rfl ⟨Or.inl ⟨rfl, rfl⟩, Or.inl ⟨rfl, rfl⟩, by omega, by omega, by omega⟩) ?_
   simp only [Act.put, aS, aC, aZ]
   refine wl rfl (.slice (some ⟨gb, 0, none⟩) 64 64) _ (run_mvZ (.tmp 8) rfl (.slice (some ⟨gb, 0, none⟩) 64 64) rfl) ?_
   refine wl rfl (.int .i64 (64 : Nat)) W3 (run_copyOp (.tmp 40) (.tmp 41) rfl _ _ _ rfl rfl HC1.out) ?_
   simp only [Act.put, aS, aC, aZ]
   refine wpList_nil ?_
   go_wp2_with fail
   refine ⟨⟨i + 1, by go_num, by omega, HR1.out⟩, ?_⟩
   simp [intOf]; omega
  ·go_upto_region 3 with fail
   refine wp_region_lit ?_
   refine wl rfl (.bool false) _ (run_lssZ (.tmp 15) (.tmp 14) rfl (i : Nat) (l : Nat) rfl rfl false (decide_eq_false (by omega))) ?_
   simp only [Act.put, aS, aC, aZ]
   refine wpList_nil ?_
   go_upto_region 10 with fail
   refine wp_region_lit ?_
   refine wl rfl (whole gi l) _ (run_mvZ (.tmp 6) rfl (whole gi l) rfl) ?_
   refine wl rfl (whole gi l) _ (run_asZ (.tmp 44) rfl (whole gi l) rfl) ?_
   refine wl rfl (.int .i64 0) _ (run_asZ (.const (.int .i64 0)) rfl (.int .i64 0) rfl) ?_
   simp only [Act.put, aS, aC, aZ]
   refine wpList_nil ?_
   go_wp2_with fail
   rw [HPQ.out]
   have ei : i = l := (by omega)
   subst ei
   refine ⟨gi, rfl, ?_, ⟨?_, ?_⟩, HA.out.2.2.2.trans (HI.out.2.mono HA.out.2.2.2.size)⟩
   ·have := HA.out.2.2.2.size
    have := H5.out.2.2
    omega
   ·have e_ := HI.out.1
    unfold rdTo at e_
    rw [Nat.sub_self, HFD.out.1] at e_
    simpa using e_
   ·intro s hs
    obtain ⟨j, _, rfl⟩ := List.mem_map.1 hs
    have := HFD.out.2 j
    rw [HFD.out.1] at this
    exact this

end Go.Proofs.YthgidfoidbgnaaaDoor

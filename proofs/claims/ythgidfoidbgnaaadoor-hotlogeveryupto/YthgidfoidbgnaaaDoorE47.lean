/- Layer 14: the document's Add. Layer 14: the stand of the statements: a hot disk beside the document's. -/
import Derived.Test.YthgidfoidbgnaaaDoorE44
namespace Go.Proofs.YthgidfoidbgnaaaDoor
open Go.RowKit Go.Maps


/-- the document's disk: places and bytes -/
structure RfB (w W : World) (c : Nat → Colour) (gh gf gm gr n : Nat) (us : List (Nat × List Nat)) (vu vb : Value) (bl : List Value) : Prop where
 row : Row W gr 60 [.int .i64 1, .int .i64 (n : Nat), vu, vb]
 og : Out w W c gh gf gm gr
 u : PlO W vu (us.map toP)
 uo : ∀ b, vu.ownBlock = some b → Out w W c gh gf gm b
 b : W.ownsRow 0 28 1 vb us.length bl
 bo : ∀ b, vb.ownBlock = some b → Out w W c gh gf gm b
 s : ∀ i, i < us.length → BOwn W 0 (bl.getD i default) (us.getD i default).2 ∧ ∀ b, (bl.getD i default).ownBlock = some b → Out w W c gh gf gm b
/-- what it writes to -/
def Fr3 (gr : Nat) (vu vb : Value) (k : Nat) : Prop := k = gr ∨ vu.ownBlock = some k ∨ vb.ownBlock = some k
section
variable {w W W' : World} {c c' : Nat → Colour} {gp gh gf gm gr n K : Nat} {m : Pl} {us us0 : List (Nat × List Nat)} {vu vb : Value} {bl : List Value}
theorem RfB.len (r : RfB w W c gh gf gm gr n us vu vb bl) : bl.length = us.length := by have := r.b.1; omega
theorem RfB.kept (r : RfB w W c gh gf gm gr n us vu vb bl) (hk : ∀ b, Out w W c gh gf gm b → (b = gr ∨ vu.ownBlock = some b ∨ vb.ownBlock = some b ∨ ∃ i, i < us.length ∧ (bl.getD i default).ownBlock = some b) → W'.heap[b]? = W.heap[b]? ∧ Out w W' c' gh gf gm b) : RfB w W' c' gh gf gm gr n us vu vb bl := by
 have h1 := hk gr r.og (Or.inl rfl)
 refine ⟨?_, h1.2, r.u.kept fun b e => (hk b (r.uo b e) (Or.inr (Or.inl e))).1, fun b e => (hk b (r.uo b e) (Or.inr (Or.inl e))).2, ownK r.b fun b e => (hk b (r.bo b e) (Or.inr (Or.inr (Or.inl e)))).1, fun b e => (hk b (r.bo b e) (Or.inr (Or.inr (Or.inl e)))).2, fun i hi => ⟨ownK (r.s i hi).1 fun b e => (hk b ((r.s i hi).2 b e) (Or.inr (Or.inr (Or.inr ⟨i, hi, e⟩)))).1, fun b e => (hk b ((r.s i hi).2 b e) (Or.inr (Or.inr (Or.inr ⟨i, hi, e⟩)))).2⟩⟩
 unfold Row
 rw [h1.1]
 exact r.row
theorem RfB.bel (r : RfB w W c gh gf gm gr n us vu vb bl) (hb : Below W.heap.size W W') : RfB w W' c gh gf gm gr n us vu vb bl :=
 r.kept fun b ho _ => ⟨hb.block b ho.2.1, ho.bel hb.size⟩
theorem RfB.out (r : RfB w W c gh gf gm gr n us vu vb bl) {k : Nat} (h : Fr3 gr vu vb k) : Out w W c gh gf gm k := by
 rcases h with rfl | h | h
 ·exact r.og
 ·exact r.uo k h
 ·exact r.bo k h
theorem RfB.rfu (r : RfB w W c gh gf gm gr n us vu vb bl) : RfU W gr 1 n vu vb ((us.map plc).map (pqOf 1)) := by
 refine ⟨r.row, ?_⟩
 rw [List.map_map]
 exact r.u
theorem bown_ne {W : World} {v : Value} {cs : List Nat} (h : BOwn W 0 v cs) {k : Nat} (hk : v.ownBlock = some k) (r : RfB w W c gh gf gm gr n us vu vb bl) : ¬ Fr3 gr vu vb k := fun hf => by
 rcases hf with rfl | e | e
 ·exact own_ne h hk r.row (by decide)
 ·exact own_ne2 h r.u hk e (by decide)
 ·exact own_ne2 h r.b hk e (by decide)
theorem run_blit0 {a : Act} {o : Oper} (ho : o.op = .buildSlice 28 0 #[]) : (execOp a.eval o).run Tryd.prog W = .ok (.value (.slice (some ⟨W.heap.size, 0, none⟩) 0 0)) (W.alloc (.cells #[] 5)) := by
 have hr : (Instr.buildSlice 28 0 #[]).run Tryd.prog W = .ok (.slice (some ⟨W.heap.size, 0, none⟩) 0 0) (W.alloc (.cells #[] 5)) := by kernel_rfl
 simp only [execOp, ho, List.map_toArray, List.map_nil, hr, Sem.run_bind, Sem.run_pure, Result.andThen_ok]
theorem appTy28 {w : World} (ty ty' : TypeId) (v vx : Value) : (Builtin.append_ #[28, 28] ty #[v, vx]).run Tryd.prog w = (Builtin.append_ #[28, 28] ty' #[v, vx]).run Tryd.prog w := rfl
theorem run_lit57 {a : Act} {o : Oper} (x : Operand) (ho : o.op = .buildSlice 57 1 #[(0, x)]) (v : Value) (hv : ∃ p n c, v = .slice p n c) (hx : a.eval x = v) : (execOp a.eval o).run Tryd.prog W = .ok (.value (whole W.heap.size 1)) (W.alloc (.cells ([v] : List Value).toArray 28)) := by
 obtain ⟨p, n, c, rfl⟩ := hv
 have hr : (Instr.buildSlice 57 1 #[(0, .slice p n c)]).run Tryd.prog W = .ok (whole W.heap.size 1) (W.alloc (.cells ([.slice p n c] : List Value).toArray 28)) := by kernel_rfl
 simp only [execOp, ho, List.map_toArray, List.map_cons, List.map_nil, hx, hr, Sem.run_bind, Sem.run_pure, Result.andThen_ok]
end
set_option maxHeartbeats 4000000 in
set_option maxRecDepth 100000 in
theorem add_any {w W : World} {c : Nat → Colour} {gp gh gf gm gr n K : Nat} {m : Pl} {us us0 : List (Nat × List Nat)} {vu vb : Value} {bl : List Value} (h : HtW w W c gp gh gf gm m n us0 K) (r : RfB w W c gh gf gm gr n us vu vb bl) (u : Nat × List Nat) (v : Value) (hvo : ∀ W' : World, Ch (Fr3 gr vu vb) W W' → SliceIn W' v u.2) (hl : us.length ≤ 1000000) (hl2 : u.2.length ≤ 1000000) : Calls Tryd.prog 46 #[ptr gr, .agg (toP u).cells.toArray, v] W fun e w' => e = .returned noResult ∧ Ch (Fr3 gr vu vb) W w' ∧ ∃ vu' vb' bl', RfB w w' c gh gf gm gr n (us ++ [u]) vu' vb' bl' := by
 have HM : Hid (HtW w W c gp gh gf gm m n us0 K ∧ (RfB w W c gh gf gm gr n us vu vb bl) ∧ True ∧ (us.map toP).length = us.length) := ⟨h, r, trivial, List.length_map _⟩
 clear h r
 obtain ⟨PQ, HPQ⟩ := exPQ fun (e : Ending) (w' : World) => e = .returned noResult ∧ Ch (Fr3 gr vu vb) W w' ∧ ∃ vu' vb' bl', RfB w w' c gh gf gm gr n (us ++ [u]) vu' vb' bl'
 rw [← HPQ.out]
 go_enter Tryd.func46, Tryd.ntmps46
 go_upto_region 0 with fail
 refine wp_region_lit ?_
 refine wl rfl (ptr W.heap.size) _ (run_boxA (.tmp 1) rfl (toP u).cells rfl) ?_
 have hb_ := below_alloc W (.cells (toP u).cells.toArray 30)
 have r_ := Row.new W 30 (toP u).cells
 obtain ⟨W1, hW_⟩ : ∃ U_ : World, U_ = W.alloc (.cells (toP u).cells.toArray 30) := ⟨_, rfl⟩
 obtain ⟨q, hq_⟩ : ∃ q, q = W.heap.size := ⟨_, rfl⟩
 rw [← hW_] at hb_
 rw [← hW_, ← hq_] at r_
 rw [← hW_, ← hq_]
 have H1 : Hid (Row W1 q 30 (toP u).cells ∧ Below W.heap.size W W1 ∧ W.heap.size ≤ q) := ⟨r_, hb_, by omega⟩
 clear r_ hb_ hW_ hq_
 simp only [Act.put, aS, aC, aZ]
 refine wpList_nil ?_
 go_upto_region 1 with fail
 refine wp_region_until (S := fun X => Row X gr 60 [.int .i64 1, .int .i64 (n : Nat), vu, vb] ∧ Row X q 30 (toP u).cells) 10 (by kernel_rfl) ?_
 show wpAnyU _ _ _ _ _ _ 11 (Array.replicate 11 false) _ _
 obtain ⟨X, hX⟩ : ∃ X : World, X = { W1 with drawn := W1.drawn + 1 } := ⟨_, rfl⟩
 rw [← hX]
 have HBX : Hid (Below W.heap.size W X) := (by rw [hX]; exact H1.out.2.1.trans ⟨rfl, rfl, rfl, Nat.le_refl _, fun _ _ => rfl⟩)
 have HS_ : Row X gr 60 [.int .i64 1, .int .i64 (n : Nat), vu, vb] ∧ Row X q 30 (toP u).cells := (by rw [hX]; exact ⟨(HM.out.2.1.bel H1.out.2.1).row, H1.out.1⟩)
 clear hX
 refine tV 0 [10] 6 rfl rfl (gRun rfl (ptr gr) fun _ h => run_mvZ (.tmp 0) rfl (ptr gr) rfl) HS_ ?_
 refine tV 1 [10] 7 rfl rfl (gRun rfl (ptr gr) fun _ h => run_mvZ (.tmp 0) rfl (ptr gr) rfl) HS_ ?_
 refine tV 2 [10] 8 rfl rfl (gRun rfl (ptr gr) fun _ h => run_nil (.tmp 7) rfl ⟨gr, 0, none⟩ rfl) HS_ ?_
 refine tV 3 [10] 9 rfl rfl (gRun rfl (.pointer (some ⟨gr, 0 + 2, none⟩)) fun _ h => run_fieldOp' f60_2 (.tmp 8) rfl gr (0) rfl) HS_ ?_
 simp only [Act.put, aS, aC, aZ]
 refine tV 4 [10] 10 rfl rfl (gRun rfl vu fun _ h => run_load1 o43 (.tmp 9) rfl gr (0 + 2) rfl vu (h.1.at 2 _ rfl)) HS_ ?_
 refine tV 5 [10] 11 rfl rfl (gRun rfl (.agg ((toP u).cells).toArray) fun _ h => run_loadA ag30 (.tmp 4) rfl q (0) rfl ((toP u).cells) rfl (rows_one h.2)) HS_ ?_
 simp only [Act.put, aS, aC, aZ]
 refine oneU (i := 6) (by kernel_rfl) ?_
 refine opValueG (some 12) rfl rfl rfl (whole X.heap.size 1) _ (run_lit43 (.tmp 11) rfl 1 (u.1 : Nat) (costN u.2.length : Nat) false rfl) ?_
 have hb_ := below_alloc X (.cells (toP u).cells.toArray 30)
 have r_ := Row.new X 30 (toP u).cells
 obtain ⟨Y1, hW_⟩ : ∃ U_ : World, U_ = X.alloc (.cells (toP u).cells.toArray 30) := ⟨_, rfl⟩
 obtain ⟨ql, hq_⟩ : ∃ q, q = X.heap.size := ⟨_, rfl⟩
 rw [← hW_] at hb_
 rw [← hW_, ← hq_] at r_
 skip
 rw [← hq_]
 have hW2_ := hW_
 have HL1 : Hid (Row Y1 ql 30 (toP u).cells) := r_
 have HA1 : Hid (Below W.heap.size W Y1) := HBX.out.trans (hb_.mono HBX.out.size)
 replace HS_ : Row Y1 gr 60 [.int .i64 1, .int .i64 (n : Nat), vu, vb] ∧ Row Y1 q 30 (toP u).cells := ⟨HS_.1.later hb_ HS_.1.lt, HS_.2.later hb_ HS_.2.lt⟩
 rw [show X.alloc (.cells (plC 1 (u.1 : Nat) (costN u.2.length : Nat) false).toArray 30) = Y1 from hW_.symm]
 clear r_ hb_ hW_ hW2_ hq_
 refine ⟨fun _ => HS_, ?_⟩
 simp only [Act.put, aS, aC, aZ]
 refine oneU (i := 7) (by kernel_rfl) ?_
 obtain ⟨vu2, Y2, hr_, hp_, hg_, hat_⟩ := papp_one (w := Y1) 43 vu _ (HM.out.2.1.bel HA1.out).u HL1.out (by rw [HM.out.2.2.2]; omega)
 refine opValueG (some 13) rfl rfl rfl vu2 Y2 (run_append (.tmp 10) (.tmp 12) rfl vu (whole ql 1) vu2 rfl rfl ((appTy _ 43 _ _).trans hr_)) ?_
 have hc_ : Ch (fun b => vu.ownBlock = some b) Y1 Y2 := (Ch.refl _ Y1).grown hg_ fun k e => Or.inl e
 have hcW : Ch (Fr3 gr vu vb) W Y2 := (Ch.of_below HA1.out).trans (hc_.mono fun k _ e => Or.inr (Or.inl e))
 have HB1 : Hid (PlO Y2 vu2 ((us ++ [u]).map toP) ∧ (∀ b, vu2.ownBlock = some b → vu.ownBlock = some b ∨ W.heap.size ≤ b) ∧ Ch (Fr3 gr vu vb) W Y2 ∧ Y2.ownsRow 0 28 1 vb us.length bl ∧ Row Y2 gr 60 [.int .i64 1, .int .i64 (n : Nat), vu, vb]) := ⟨(by rw [List.map_append]; exact hp_), fun b e => (by rcases hat_ with h | h; exact Or.inl (h ▸ e); (rw [h] at e; injection e with e; have := HA1.out.size; exact Or.inr (by omega))), hcW, ownK (HM.out.2.1.bel HA1.out).b fun b e => hc_.block b ((World.ownsRow.lt (HM.out.2.1.bel HA1.out).b b e).2) (fun e' => own_ne2 (HM.out.2.1.bel HA1.out).u (HM.out.2.1.bel HA1.out).b e' e (by decide)), hc_.row (fun e => (HM.out.2.1.bel HA1.out).u.ne e (HM.out.2.1.bel HA1.out).row (by decide)) (HM.out.2.1.bel HA1.out).row⟩
 replace HS_ : Row Y2 gr 60 [.int .i64 1, .int .i64 (n : Nat), vu, vb] ∧ Row Y2 q 30 (toP u).cells := ⟨HB1.out.2.2.2.2, hc_.row (fun e => by have h1 := HM.out.2.1.u.lt e; have h2 := H1.out.2.2; omega) HS_.2⟩
 clear hr_ hp_ hg_ hat_ hc_ hcW
 refine ⟨fun _ => HS_, ?_⟩
 simp only [Act.put, aS, aC, aZ]
 refine tV 8 [9, 10] 14 rfl rfl (gRun rfl (ptr gr) fun _ h => run_nil (.tmp 6) rfl ⟨gr, 0, none⟩ rfl) HS_ ?_
 refine tV 9 [10] 15 rfl rfl (gRun rfl (.pointer (some ⟨gr, 0 + 2, none⟩)) fun _ h => run_fieldOp' f60_2 (.tmp 14) rfl gr (0) rfl) HS_ ?_
 simp only [Act.put, aS, aC, aZ]
 refine oneU (i := 10) (by kernel_rfl) ?_
 refine opSkipZ rfl rfl rfl _ (run_putRow (t := 43) sz43 (.tmp 15) (.tmp 13) rfl gr (0 + 2) 60 _ rfl vu2 rfl (own_cells HB1.out.1) HB1.out.2.2.2.2 (by decide : 0 + 2 < 4)) ?_
 refine ⟨(fun h => absurd (show true = false from h) (by decide)), ?_⟩
 have hb_ := (Ch.refl (· = gr) Y2).setCell (Or.inl rfl) (0 + 2) vu2
 have r_ := HB1.out.2.2.2.2.setCell (0 + 2) vu2
 obtain ⟨Y3, hW_⟩ : ∃ U_ : World, U_ = Y2.setCell ⟨gr, 0 + 2, none⟩ vu2 := ⟨_, rfl⟩
 rw [← hW_] at hb_ r_ ⊢
 have HB2 : Hid (Row Y3 gr 60 [.int .i64 1, .int .i64 (n : Nat), vu2, vb] ∧ PlO Y3 vu2 ((us ++ [u]).map toP) ∧ Y3.ownsRow 0 28 1 vb us.length bl ∧ Ch (Fr3 gr vu vb) W Y3) := ⟨r_, HB1.out.1.kept fun b e => hb_.block b (HB1.out.1.lt e) (fun e' => HB1.out.1.ne (e' ▸ e) HB1.out.2.2.2.2 (by decide)), ownK HB1.out.2.2.2.1 fun b e => hb_.block b ((World.ownsRow.lt HB1.out.2.2.2.1 b e).2) (fun e' => own_ne HB1.out.2.2.2.1 (e' ▸ e) HB1.out.2.2.2.2 (by decide)), HB1.out.2.2.1.trans (hb_.mono fun k _ e => Or.inl e)⟩
 clear hb_ r_ hW_
 refine wpAnyU_done (by kernel_rfl) ?_ _
 go_upto_region 2 with fail
 refine wp_region_until (S := fun X => Row X gr 60 [.int .i64 1, .int .i64 (n : Nat), vu2, vb]) 12 (by kernel_rfl) ?_
 show wpAnyU _ _ _ _ _ _ 13 (Array.replicate 13 false) _ _
 obtain ⟨X, hX⟩ : ∃ X : World, X = { Y3 with drawn := Y3.drawn + 1 } := ⟨_, rfl⟩
 rw [← hX]
 have HBG : Hid (Row X gr 60 [.int .i64 1, .int .i64 (n : Nat), vu2, vb] ∧ PlO X vu2 ((us ++ [u]).map toP) ∧ X.ownsRow 0 28 1 vb us.length bl ∧ Ch (Fr3 gr vu vb) W X) := (by rw [hX]; exact ⟨HB2.out.1, HB2.out.2.1, HB2.out.2.2.1, HB2.out.2.2.2.trans (Ch.of_below ⟨rfl, rfl, rfl, Nat.le_refl _, fun _ _ => rfl⟩)⟩)
 have HS_ : Row X gr 60 [.int .i64 1, .int .i64 (n : Nat), vu2, vb] := HBG.out.1
 clear hX
 refine tV 0 [12] 16 rfl rfl (gRun rfl (ptr gr) fun _ h => run_mvZ (.tmp 0) rfl (ptr gr) rfl) HS_ ?_
 refine tV 1 [12] 17 rfl rfl (gRun rfl (ptr gr) fun _ h => run_mvZ (.tmp 0) rfl (ptr gr) rfl) HS_ ?_
 refine tV 2 [12] 18 rfl rfl (gRun rfl (ptr gr) fun _ h => run_nil (.tmp 17) rfl ⟨gr, 0, none⟩ rfl) HS_ ?_
 refine tV 3 [12] 19 rfl rfl (gRun rfl (.pointer (some ⟨gr, 0 + 3, none⟩)) fun _ h => run_fieldOp' f60_3 (.tmp 18) rfl gr (0) rfl) HS_ ?_
 simp only [Act.put, aS, aC, aZ]
 refine tV 4 [12] 20 rfl rfl (gRun rfl vb fun _ h => run_load1 o57 (.tmp 19) rfl gr (0 + 3) rfl vb (h.at 3 _ rfl)) HS_ ?_
 refine tV 6 [12] 22 rfl rfl (gRun rfl v fun _ h => run_mvZ (.tmp 2) rfl v rfl) HS_ ?_
 simp only [Act.put, aS, aC, aZ]
 refine oneU (i := 5) (by kernel_rfl) ?_
 refine opValueG (some 21) rfl rfl rfl (.slice (some ⟨X.heap.size, 0, none⟩) 0 0) _ (run_blit0 rfl) ?_
 have hb_ := below_alloc X (.cells #[] 5)
 have p_ := Fr.BOwn.new X W.heap.size HBG.out.2.2.2.size
 obtain ⟨Z1, hW_⟩ : ∃ U_ : World, U_ = X.alloc (.cells #[] 5) := ⟨_, rfl⟩
 obtain ⟨v0, hv_⟩ : ∃ v : Value, v = .slice (some ⟨X.heap.size, 0, none⟩) 0 0 := ⟨_, rfl⟩
 rw [← hW_] at hb_ p_ ⊢
 rw [← hv_] at p_ ⊢
 have HC1 : Hid ((Row Z1 gr 60 [.int .i64 1, .int .i64 (n : Nat), vu2, vb] ∧ PlO Z1 vu2 ((us ++ [u]).map toP) ∧ Z1.ownsRow 0 28 1 vb us.length bl ∧ Ch (Fr3 gr vu vb) W Z1) ∧ BOwn Z1 W.heap.size v0 []) := ⟨⟨HBG.out.1.later hb_ HBG.out.1.lt, HBG.out.2.1.kept fun b e => hb_.block b (HBG.out.2.1.lt e), ownK HBG.out.2.2.1 fun b e => hb_.block b ((World.ownsRow.lt HBG.out.2.2.1 b e).2), HBG.out.2.2.2.trans (Ch.of_below hb_)⟩, p_⟩
 replace HS_ : Row Z1 gr 60 [.int .i64 1, .int .i64 (n : Nat), vu2, vb] := HC1.out.1.1
 clear hb_ p_ hW_ hv_
 refine ⟨fun _ => HS_, ?_⟩
 simp only [Act.put, aS, aC, aZ]
 refine oneU (i := 7) (by kernel_rfl) ?_
 have hvin : SliceIn Z1 v u.2 := hvo Z1 HC1.out.1.2.2.2
 obtain ⟨v1, Z2, hr_, ho_, hg_⟩ := run_bappend (w := Z1) W.heap.size 28 v0 v [] u.2 HC1.out.2 hvin (by have hll : ([] : List Nat).length = 0 := rfl; omega) HC1.out.1.2.2.2.size
 refine opValueG (some 23) rfl rfl rfl v1 Z2 (run_append (.tmp 21) (.tmp 22) rfl v0 v v1 rfl rfl ((appTy28 _ 28 _ _).trans hr_)) ?_
 have hb_ : Below W.heap.size Z1 Z2 := HC1.out.2.belowG hg_ HC1.out.1.2.2.2.size
 have hall : ∀ b, b < Z1.heap.size → v0.ownBlock ≠ some b → Z2.heap[b]? = Z1.heap[b]? := fun b hb hne => hg_.block b hb (fun e => hne e.symm)
 have HC2 : Hid ((Row Z2 gr 60 [.int .i64 1, .int .i64 (n : Nat), vu2, vb] ∧ PlO Z2 vu2 ((us ++ [u]).map toP) ∧ Z2.ownsRow 0 28 1 vb us.length bl ∧ Ch (Fr3 gr vu vb) W Z2) ∧ BOwn Z2 W.heap.size v1 u.2) := ⟨⟨(by unfold Row; rw [hall gr HC1.out.1.1.lt (fun e => own_ne HC1.out.2 e HC1.out.1.1 (by decide))]; exact HC1.out.1.1), HC1.out.1.2.1.kept fun b e => hall b (HC1.out.1.2.1.lt e) (fun e' => own_ne2 HC1.out.2 HC1.out.1.2.1 e' e (by decide)), ownK HC1.out.1.2.2.1 fun b e => hall b ((World.ownsRow.lt HC1.out.1.2.2.1 b e).2) (fun e' => own_ne2 HC1.out.2 HC1.out.1.2.2.1 e' e (by decide)), ⟨hb_.os.trans HC1.out.1.2.2.2.os, hb_.tape.trans HC1.out.1.2.2.2.tape, hb_.output.trans HC1.out.1.2.2.2.output, Nat.le_trans HC1.out.1.2.2.2.size hb_.size, fun k hk hn => (hb_.block k hk).trans (HC1.out.1.2.2.2.block k hk hn)⟩⟩, (by simpa using ho_)⟩
 replace HS_ : Row Z2 gr 60 [.int .i64 1, .int .i64 (n : Nat), vu2, vb] := HC2.out.1.1
 clear hvin hr_ ho_ hg_ hb_ hall
 refine ⟨fun _ => HS_, ?_⟩
 simp only [Act.put, aS, aC, aZ]
 refine oneU (i := 8) (by kernel_rfl) ?_
 refine opValueG (some 24) rfl rfl rfl (whole Z2.heap.size 1) _ (run_lit57 (.tmp 23) rfl v1 (own_isSlice HC2.out.2) rfl) ?_
 have hb_ := below_alloc Z2 (.cells ([v1] : List Value).toArray 28)
 have r_ := Row.new Z2 28 ([v1] : List Value)
 obtain ⟨Z3, hW_⟩ : ∃ U_ : World, U_ = Z2.alloc (.cells ([v1] : List Value).toArray 28) := ⟨_, rfl⟩
 obtain ⟨qm, hq_⟩ : ∃ q, q = Z2.heap.size := ⟨_, rfl⟩
 rw [← hW_] at hb_
 rw [← hW_, ← hq_] at r_
 rw [← hW_, ← hq_]
 have HC3 : Hid ((Row Z3 gr 60 [.int .i64 1, .int .i64 (n : Nat), vu2, vb] ∧ PlO Z3 vu2 ((us ++ [u]).map toP) ∧ Z3.ownsRow 0 28 1 vb us.length bl ∧ Ch (Fr3 gr vu vb) W Z3) ∧ BOwn Z3 W.heap.size v1 u.2 ∧ Row Z3 qm 28 [v1]) := ⟨⟨HC2.out.1.1.later hb_ HC2.out.1.1.lt, HC2.out.1.2.1.kept fun b e => hb_.block b (HC2.out.1.2.1.lt e), ownK HC2.out.1.2.2.1 fun b e => hb_.block b ((World.ownsRow.lt HC2.out.1.2.2.1 b e).2), HC2.out.1.2.2.2.trans (Ch.of_below hb_)⟩, ownK HC2.out.2 fun b e => hb_.block b ((World.ownsRow.lt HC2.out.2 b e).2), r_⟩
 replace HS_ : Row Z3 gr 60 [.int .i64 1, .int .i64 (n : Nat), vu2, vb] := HC3.out.1.1
 clear r_ hb_ hW_ hq_
 refine ⟨fun _ => HS_, ?_⟩
 simp only [Act.put, aS, aC, aZ]
 refine oneU (i := 9) (by kernel_rfl) ?_
 obtain ⟨vb2, Z4, hr_, hp_, hg_, hat_⟩ := app_one (w := Z3) und57 info28z 57 vb us.length bl HC3.out.1.2.2.1 qm v1 (own_cells HC3.out.2.1).2 HC3.out.2.2 (by omega)
 refine opValueG (some 25) rfl rfl rfl vb2 Z4 (run_append (.tmp 20) (.tmp 24) rfl vb (whole qm 1) vb2 rfl rfl ((appTy57 _ 57 _ _).trans hr_)) ?_
 have hc_ : Ch (fun b => vb.ownBlock = some b) Z3 Z4 := (Ch.refl _ Z3).grown hg_ fun k e => Or.inl e
 have HC4 : Hid (Row Z4 gr 60 [.int .i64 1, .int .i64 (n : Nat), vu2, vb] ∧ PlO Z4 vu2 ((us ++ [u]).map toP) ∧ Z4.ownsRow 0 28 1 vb2 (us.length + 1) (bl ++ [v1]) ∧ Ch (Fr3 gr vu vb) W Z4 ∧ BOwn Z4 W.heap.size v1 u.2 ∧ (∀ b, vb2.ownBlock = some b → vb.ownBlock = some b ∨ W.heap.size ≤ b)) := ⟨hc_.row (fun e => own_ne HC3.out.1.2.2.1 e HC3.out.1.1 (by decide)) HC3.out.1.1, HC3.out.1.2.1.kept fun b e => hc_.block b (HC3.out.1.2.1.lt e) (fun e' => own_ne2 HC3.out.1.2.1 HC3.out.1.2.2.1 e e' (by decide)), hp_, HC3.out.1.2.2.2.trans (hc_.mono fun k _ e => Or.inr (Or.inr e)), ownK HC3.out.2.1 fun b e => hc_.block b ((World.ownsRow.lt HC3.out.2.1 b e).2) (fun e' => own_ne2 HC3.out.2.1 HC3.out.1.2.2.1 e e' (by decide)), fun b e => (by rcases hat_ with h | h; exact Or.inl (h ▸ e); (rw [h] at e; injection e with e; have := HC3.out.1.2.2.2.size; exact Or.inr (by omega)))⟩
 replace HS_ : Row Z4 gr 60 [.int .i64 1, .int .i64 (n : Nat), vu2, vb] := HC4.out.1
 clear hr_ hp_ hg_ hat_ hc_
 refine ⟨fun _ => HS_, ?_⟩
 simp only [Act.put, aS, aC, aZ]
 refine tV 10 [11, 12] 26 rfl rfl (gRun rfl (ptr gr) fun _ h => run_nil (.tmp 16) rfl ⟨gr, 0, none⟩ rfl) HS_ ?_
 refine tV 11 [12] 27 rfl rfl (gRun rfl (.pointer (some ⟨gr, 0 + 3, none⟩)) fun _ h => run_fieldOp' f60_3 (.tmp 26) rfl gr (0) rfl) HS_ ?_
 simp only [Act.put, aS, aC, aZ]
 refine oneU (i := 12) (by kernel_rfl) ?_
 refine opSkipZ rfl rfl rfl _ (run_putRow (t := 57) sz57 (.tmp 27) (.tmp 25) rfl gr (0 + 3) 60 _ rfl vb2 rfl (own_cells HC4.out.2.2.1) HC4.out.1 (by decide : 0 + 3 < 4)) ?_
 refine ⟨(fun h => absurd (show true = false from h) (by decide)), ?_⟩
 have hb_ := (Ch.refl (· = gr) Z4).setCell (Or.inl rfl) (0 + 3) vb2
 have r_ := HC4.out.1.setCell (0 + 3) vb2
 obtain ⟨Z5, hW_⟩ : ∃ U_ : World, U_ = Z4.setCell ⟨gr, 0 + 3, none⟩ vb2 := ⟨_, rfl⟩
 rw [← hW_] at hb_ r_ ⊢
 have HC5 : Hid (Row Z5 gr 60 [.int .i64 1, .int .i64 (n : Nat), vu2, vb2] ∧ PlO Z5 vu2 ((us ++ [u]).map toP) ∧ Z5.ownsRow 0 28 1 vb2 (us.length + 1) (bl ++ [v1]) ∧ Ch (Fr3 gr vu vb) W Z5 ∧ BOwn Z5 W.heap.size v1 u.2) := ⟨r_, HC4.out.2.1.kept fun b e => hb_.block b (HC4.out.2.1.lt e) (fun e' => HC4.out.2.1.ne (e' ▸ e) HC4.out.1 (by decide)), ownK HC4.out.2.2.1 fun b e => hb_.block b ((World.ownsRow.lt HC4.out.2.2.1 b e).2) (fun e' => own_ne HC4.out.2.2.1 (e' ▸ e) HC4.out.1 (by decide)), HC4.out.2.2.2.1.trans (hb_.mono fun k _ e => Or.inl e), ownK HC4.out.2.2.2.2.1 fun b e => hb_.block b ((World.ownsRow.lt HC4.out.2.2.2.2.1 b e).2) (fun e' => own_ne HC4.out.2.2.2.2.1 (e' ▸ e) HC4.out.1 (by decide))⟩
 clear hb_ r_ hW_
 refine wpAnyU_done (by kernel_rfl) ?_ _
 go_wp2_with fail
 rw [HPQ.out]
 first | go_end0 | refine bodyPost_ret (results_none rfl _ _ _) rfl ?_
 have hsz := HC5.out.2.2.2.1.size
 have hO : ∀ b, Out w W c gh gf gm b → Out w Z5 c gh gf gm b := fun b h => h.bel hsz
 have hN : ∀ b, W.heap.size ≤ b → b < Z5.heap.size → Out w Z5 c gh gf gm b := fun b h1 h2 => Out.new HM.out.1 h1 h2
 have hbl := HM.out.2.1.len
 refine ⟨rfl, HC5.out.2.2.2.1, vu2, vb2, bl ++ [v1], ⟨HC5.out.1, hO gr HM.out.2.1.og, HC5.out.2.1, fun b e => ?_, (by rw [List.length_append]; exact HC5.out.2.2.1), fun b e => ?_, fun i hi => ?_⟩⟩
 ·rcases HB1.out.2.1 b e with h | h
  ·exact hO b (HM.out.2.1.uo b h)
  ·exact hN b h (HC5.out.2.1.lt e)
 ·rcases HC4.out.2.2.2.2.2 b e with h | h
  ·exact hO b (HM.out.2.1.bo b h)
  ·exact hN b h ((World.ownsRow.lt HC5.out.2.2.1 b e).2)
 ·rw [List.length_append] at hi
  have hi : i < us.length + 1 := hi
  rcases Nat.lt_or_ge i us.length with q_ | q_
  ·have e1 : (bl ++ [v1]).getD i default = bl.getD i default := (by rw [List.getD_eq_getElem?_getD, List.getD_eq_getElem?_getD, List.getElem?_append_left (by omega)])
   have e2 : (us ++ [u]).getD i default = us.getD i default := (by rw [List.getD_eq_getElem?_getD, List.getD_eq_getElem?_getD, List.getElem?_append_left q_])
   rw [e1, e2]
   have hs := HM.out.2.1.s i q_
   exact ⟨ownK hs.1 fun b e => HC5.out.2.2.2.1.block b ((World.ownsRow.lt hs.1 b e).2) (bown_ne hs.1 e HM.out.2.1), fun b e => hO b (hs.2 b e)⟩
  ·have ei : i = us.length := (by omega)
   have e1 : (bl ++ [v1]).getD i default = v1 := (by rw [ei, ← hbl, List.getD_eq_getElem?_getD]; simp)
   have e2 : (us ++ [u]).getD i default = u := (by rw [ei, List.getD_eq_getElem?_getD]; simp)
   rw [e1, e2]
   have hge := fun b e => World.ownsRow.lt HC5.out.2.2.2.2 b e
   exact ⟨Fr.BOwn.weaken HC5.out.2.2.2.2 (Nat.zero_le _), fun b e => hN b (hge b e).1 (hge b e).2⟩

end Go.Proofs.YthgidfoidbgnaaaDoor

namespace Go.Proofs.YthgidfoidbgnaaaDoor
open Go.RowKit Go.Maps

theorem run_str {w : World} {a : Act} {o : Oper} (x : Operand) (ho : o.op = .convert 28 9 x) (v : Value) (cs : List Nat) (hx : a.eval x = v) (hin : SliceIn w v cs) : (execOp a.eval o).run Tryd.prog w = .ok (.value (.string (strOfNums (cs.map Int.ofNat)))) w := by simp [execOp, ho, hx, run_bstring hin]
theorem run_eqS {w : World} {a : Act} {o : Oper} (x y : Operand) (ho : o.op = .binOp .eql 9 x y 9) (s : ByteArray) (hx : a.eval x = .string s) (hy : a.eval y = .string s) : (execOp a.eval o).run Tryd.prog w = .ok (.value (.bool true)) w := by
 refine run_binOp' x y ho _ _ _ hx hy ?_ ?_
 ·rfl
 ·simp [go_sem]
theorem run_neS {w : World} {a : Act} {o : Oper} (x y : Operand) (ho : o.op = .binOp .neq 9 x y 9) (s : ByteArray) (hx : a.eval x = .string s) (hy : a.eval y = .string s) : (execOp a.eval o).run Tryd.prog w = .ok (.value (.bool false)) w := by
 refine run_binOp' x y ho _ _ _ hx hy ?_ ?_
 ·rfl
 ·simp [go_sem]
theorem bcells_set (u : List Nat) (j v : Nat) : (bcells u).set j (.int .u8 (v : Nat)) = bcells (u.set j v) := by simp [bcells, List.map_set]
theorem spoil {W : World} {B : Nat} {v : Value} {cs : List Nat} (h : BOwn W B v cs) (k : Nat) (hk : k < cs.length) : ∃ b cur, v.ownBlock = some b ∧ (∀ w', (Instr.indexAt 28 v (.int .i64 (k : Nat))).run Tryd.prog w' = .ok (.pointer (some ⟨b, k, none⟩)) w') ∧ Row W b 5 cur ∧ k < cur.length ∧ ∀ c : Nat, BOwn (W.setCell ⟨b, k, none⟩ (.int .u8 (c : Nat))) B v (cs.set k c) := by
 obtain ⟨b, hb, hr, _⟩ := own_index h Tryd.underlying28 info5 k hk
 rcases h.2 with ⟨rfl, h0⟩ | ⟨g, cap, cur, rfl, _, hg, hcap, hmax, hsz, htake⟩
 ·omega
 ·have e : g = b := Option.some.inj hb
  subst e
  refine ⟨g, cur.toList, rfl, fun w' => by rw [hr w', Nat.mul_one], by unfold Row; rw [hg], by rw [Array.length_toList, hsz]; omega, fun c => ?_⟩
  have h2 := (World.ownsRow.stored h k (.int .u8 (c : Nat))).1
  unfold BOwn
  rw [← bcells_set, List.length_set]
  exact h2
/-- the law's own: the stand's struct, and the document's disk -/
structure Sd (w W : World) (c : Nat → Colour) (gp gh gf gm gs gr n : Nat) (us : List (Nat × List Nat)) (vu vb : Value) (bl : List Value) (ever dims : Nat) : Prop where
 row : Row W gs 38 (scells gp gh gr (ever : Nat) (dims : Nat))
 os : Out w W c gh gf gm gs
 r : RfB w W c gh gf gm gr n us vu vb bl
/-- its blocks -/
def SdB (gs gr : Nat) (vu vb : Value) (k : Nat) (bl : List Value) (b : Nat) : Prop := b = gs ∨ Fr3 gr vu vb b ∨ ∃ i, i < k ∧ (bl.getD i default).ownBlock = some b
section
variable {w W W' : World} {c c' : Nat → Colour} {gp gh gf gm gs gr n K K' ever dims : Nat} {m m' : Pl} {us us0 us2 : List (Nat × List Nat)} {vu vb : Value} {bl : List Value}
theorem Sd.kept (d : Sd w W c gp gh gf gm gs gr n us vu vb bl ever dims) (hk : ∀ b, Out w W c gh gf gm b → SdB gs gr vu vb us.length bl b → W'.heap[b]? = W.heap[b]? ∧ Out w W' c' gh gf gm b) : Sd w W' c' gp gh gf gm gs gr n us vu vb bl ever dims := by
 have h1 := hk gs d.os (Or.inl rfl)
 refine ⟨?_, h1.2, d.r.kept fun b ho hb => hk b ho ?_⟩
 ·unfold Row
  rw [h1.1]
  exact d.row
 ·rcases hb with h | h | h | h
  ·exact Or.inr (Or.inl (Or.inl h))
  ·exact Or.inr (Or.inl (Or.inr (Or.inl h)))
  ·exact Or.inr (Or.inl (Or.inr (Or.inr h)))
  ·exact Or.inr (Or.inr h)
theorem Sd.bel (d : Sd w W c gp gh gf gm gs gr n us vu vb bl ever dims) (hb : Below W.heap.size W W') : Sd w W' c gp gh gf gm gs gr n us vu vb bl ever dims :=
 d.kept fun b ho _ => ⟨hb.block b ho.2.1, ho.bel hb.size⟩
theorem Sd.sq (d : Sd w W c gp gh gf gm gs gr n us vu vb bl ever dims) (s : Sq W W' c c' gf gm) : Sd w W' c' gp gh gf gm gs gr n us vu vb bl ever dims :=
 d.kept fun _ ho _ => ⟨(ho.step s).2, (ho.step s).1⟩
theorem Sd.ch {S : Nat → Prop} (d : Sd w W c gp gh gf gm gs gr n us vu vb bl ever dims) (hc : Ch S W W') (hS : ∀ b, SdB gs gr vu vb us.length bl b → ¬ S b) : Sd w W' c gp gh gf gm gs gr n us vu vb bl ever dims :=
 d.kept fun b ho hb => ⟨hc.block b ho.2.1 (hS b hb), ho.bel hc.size⟩
theorem Sd.out (d : Sd w W c gp gh gf gm gs gr n us vu vb bl ever dims) {b : Nat} (h : SdB gs gr vu vb us.length bl b) : Out w W c gh gf gm b := by
 rcases h with rfl | h | ⟨i, hi, h⟩
 ·exact d.os
 ·exact d.r.out h
 ·exact (d.r.s i hi).2 b h
/-- bytes that the law hands in: older ones, or some of its own that lie apart -/
def Far (w W : World) (c : Nat → Colour) (gh gf gm gs gr : Nat) (vu vb v : Value) (bs : List Nat) : Prop := (∀ W' : World, Below w.heap.size w W' → SliceIn W' v bs) ∨ ∀ b, v.ownBlock = some b → Out w W c gh gf gm b ∧ b ≠ gs ∧ ¬ Fr3 gr vu vb b
theorem Far.bel {v : Value} {bs : List Nat} (f : Far w W c gh gf gm gs gr vu vb v bs) (hb : W.heap.size ≤ W'.heap.size) : Far w W' c gh gf gm gs gr vu vb v bs := f.imp id fun f b e => ⟨(f b e).1.bel hb, (f b e).2⟩
theorem Far.sq {v : Value} {bs : List Nat} (f : Far w W c gh gf gm gs gr vu vb v bs) (s : Sq W W' c c' gf gm) : Far w W' c' gh gf gm gs gr vu vb v bs := f.imp id fun f b e => ⟨((f b e).1.step s).1, (f b e).2⟩
theorem Far.keep {v : Value} {bs : List Nat} (f : Far w W c gh gf gm gs gr vu vb v bs) (hin : SliceIn W v bs) (hb : Below w.heap.size w W') (hk : ∀ b, Out w W c gh gf gm b → b ≠ gs → ¬ Fr3 gr vu vb b → v.ownBlock = some b → W'.heap[b]? = W.heap[b]?) : SliceIn W' v bs := by
 rcases f with f | f
 ·exact f W' hb
 ·exact sliceK hin fun b e _ => hk b (f b e).1 (f b e).2.1 (f b e).2.2 e
/-- all that a call of append holds -/
structure Ap (w W : World) (c : Nat → Colour) (gp gh gf gm gs gr n : Nat) (us2 : List (Nat × List Nat)) (m : Pl) (K : Nat) (us : List (Nat × List Nat)) (vu vb : Value) (bl : List Value) (ever dims q : Nat) (oc : List Value) (B : Nat) (vo : Value) (ys : List Nat) (vy : Value) (bs : List Nat) : Prop where
 h : HtW w W c gp gh gf gm m n us2 K
 d : Sd w W c gp gh gf gm gs gr n us vu vb bl ever dims
 o : Row W q 33 oc
 oo : Out w W c gh gf gm q
 own : BOwn W B vo ys
 wo : ∀ b, vo.ownBlock = some b → Out w W c gh gf gm b
 inn : SliceIn W vy bs
 far : Far w W c gh gf gm gs gr vu vb vy bs
 lb : ∀ b, SdB gs gr vu vb us.length bl b → b < B
 ly : (∀ W' : World, Below w.heap.size w W' → SliceIn W' vy bs) ∨ ∀ b, vy.ownBlock = some b → b < B
variable {q B : Nat} {oc : List Value} {vo vy : Value} {ys bs : List Nat}
theorem Ap.bel (a : Ap w W c gp gh gf gm gs gr n us2 m K us vu vb bl ever dims q oc B vo ys vy bs) (hb : Below W.heap.size W W') : Ap w W' c gp gh gf gm gs gr n us2 m K us vu vb bl ever dims q oc B vo ys vy bs :=
 ⟨a.h.bel hb, a.d.bel hb, a.o.later hb a.o.lt, a.oo.bel hb.size, ownK a.own fun b e => hb.block b (World.ownsRow.lt a.own b e).2, fun b e => (a.wo b e).bel hb.size, sliceK a.inn fun b _ hlt => hb.block b hlt, a.far.bel hb.size, a.lb, a.ly⟩
theorem Ap.lyK (a : Ap w W c gp gh gf gm gs gr n us2 m K us vu vb bl ever dims q oc B vo ys vy bs) {q' : Nat} (hb : Below w.heap.size w W') (hc : Ch (· = q') W W') (hB : B ≤ q') : SliceIn W' vy bs := by
 rcases a.ly with h | h
 ·exact h W' hb
 ·exact sliceK a.inn fun b e hlt => hc.block b hlt (fun e' => by have := h b e; omega)
/-- a block apart from all these is written -/
theorem Ap.put (a : Ap w W c gp gh gf gm gs gr n us2 m K us vu vb bl ever dims q oc B vo ys vy bs) {q' : Nat} (hc : Ch (· = q') W W') (ho : Out w W c gh gf gm q') {cs : List Value} (hr : Row W q' 30 cs) (hB : B ≤ q') : Ap w W' c gp gh gf gm gs gr n us2 m K us vu vb bl ever dims q oc B vo ys vy bs :=
 ⟨a.h.own hc (fun _ _ e => e ▸ ho), a.d.ch hc (fun b hb e => by have := a.lb b hb; omega), hc.row (row_ne a.o hr (by decide)) a.o, a.oo.bel hc.size, ownK a.own fun b e => hc.block b (World.ownsRow.lt a.own b e).2 (fun e' => own_ne a.own (e' ▸ e) hr (by decide)), fun b e => (a.wo b e).bel hc.size, a.lyK (a.h.own hc (fun _ _ e => e ▸ ho)).pl.below hc (by omega), a.far.bel hc.size, a.lb, a.ly⟩
theorem Ap.ownIn (a : Ap w W c gp gh gf gm gs gr n us2 m K us vu vb bl ever dims q oc B vo bs vy bs) : SliceIn W vo bs := BOwn.slice a.own a.inn.lt256 a.inn.len_max
end
/-- what Fit tells -/
def FitR (k : Nat) (us : List (Nat × List Nat)) (bs : List Nat) (xw : Pq) (fb : Bool) : Prop := (fb = true ∧ ∃ a, Fits k (us.map plc) a (costN bs.length) ∧ xw = toP (a, bs)) ∨ (fb = false ∧ (∀ a, ¬ Room1 k (us.map plc) a (costN bs.length)) ∧ xw = zP)
section
variable {w W : World} {c : Nat → Colour} {gp gh gf gm gr n K : Nat} {m : Pl} {us : List (Nat × List Nat)} {vu vb : Value} {bl : List Value}
theorem HtW.ok (h : HtW w W c gp gh gf gm m n us K) : (∀ u ∈ us.map plc, 1 ≤ u.2 ∧ u.1 % 16 + u.2 ≤ 16 ∧ u.1 / 16 < n / 16) ∧ us.length ≤ 4096 := by
 obtain ⟨fr, f, q, h1, h2, h3, h4, h5⟩ := h.hot
 have hok := h2.ok
 rw [h4] at hok
 refine ⟨hok, ?_⟩
 have hap : Apt (n / 16) (us.map plc) := ⟨fun u hu => ⟨(hok u hu).1, (hok u hu).2.2, (hok u hu).2.1⟩, h2.apart⟩
 have hl := hap.len
 rw [List.length_map] at hl
 have := h.pl.hn
 omega
theorem fitR (h : HtW w W c gp gh gf gm m n us K) (r : RfB w W c gh gf gm gr n us vu vb bl) (bs : List Nat) (hl : bs.length ≤ 100000000) : Calls Tryd.prog 20 #[ptr gr, .int .i64 (bs.length : Nat)] W fun e W' => ∃ xw fb, e = .returned (.tuple #[.agg xw.cells.toArray, .bool fb]) ∧ Below W.heap.size W W' ∧ FitR (n / 16) us bs xw fb := by
 have ho := h.ok
 have hn := h.pl.hn
 refine (rfit_any r.rfu (by omega) (fun u hu => by have := ho.1 u hu; omega) (by rw [List.length_map]; omega) bs.length _ hl rfl).mono ?_
 rintro e w' ⟨hb, ⟨a, h1, h2⟩ | ⟨h1, h2⟩⟩
 ·exact ⟨toP (a, bs), true, h2, hb, Or.inl ⟨rfl, a, h1, rfl⟩⟩
 ·exact ⟨zP, false, h2, hb, Or.inr ⟨rfl, h1, rfl⟩⟩
end
end Go.Proofs.YthgidfoidbgnaaaDoor

/- Layer 14: a stand is begun. -/
import Derived.Test.YthgidfoidbgnaaaDoorE36
namespace Go.Proofs.YthgidfoidbgnaaaDoor
open Go.RowKit Go.Maps

/-- which of n things -/
def whichOf (c : Int) (n : Nat) : Nat := ((if c < 0 then -(c + 1) else c) % n).toNat
theorem whichOf_lt (c : Int) (n : Nat) (h : 0 < n) : whichOf c n < n := by
 unfold whichOf
 have h1 := Int.emod_nonneg (if c < 0 then -(c + 1) else c) (show (n : Int) ≠ 0 by omega)
 have h2 := Int.emod_lt_of_pos (if c < 0 then -(c + 1) else c) (show (0 : Int) < n by omega)
 omega
theorem run_remK (w : World) (k : Int) (n : Nat) (hn : 0 < n) (h : 0 ≤ k) : (binOp .rem 3 (.int .i64 k) (.int .i64 (n : Int))).run Tryd.prog w = .ok (.int .i64 (k % n)) w := by
 have e := Int.tmod_eq_emod_of_nonneg (b := (n : Int)) h
 have hne : ¬ n = 0 := by omega
 simp [binOp, Op.intDiv, hne]
 exact e
theorem wl_remN {w : World} {ops : Array Oper} {rest : List Oper} {o : Oper} {a : Act} {Q : Exit → Act → World → Prop} (x y : Operand) (hgd : Region.wanted o (yielded ops a.tmps) = true) (ho : o.op = .binOp .rem 3 x y 3) (k : Int) (n : Nat) (hn : 0 < n) (h0 : 0 ≤ k) (hx : a.eval x = .int .i64 k) (hy : a.eval y = .int .i64 (n : Int)) (h : wpList Tryd.prog ops Q rest (a.put o.dst (.int .i64 (k % n))) w) : wpList Tryd.prog ops Q (o :: rest) a w := wl hgd _ w (by
 have e : (eqGuard .rem 3 x y (.int .i64 k) (.int .i64 (n : Int))).run Tryd.prog w = .ok () w := rfl
 simp only [execOp, ho, hx, hy, e, Sem.run_bind, Sem.run_pure, Result.andThen_ok, run_remK w k n hn h0]) h
set_option maxRecDepth 100000 in
theorem which_any (w : World) (c : Int) (n : Nat) (hn : 0 < n) (h0 : -9223372036854775808 ≤ c) (h1 : c ≤ 9223372036854775807) : Calls Tryd.prog 11 #[.int .i64 c, .int .i64 (n : Nat)] w fun e w' => e = .returned (.int .i64 (whichOf c n : Nat)) ∧ w = w' := by
 by_cases hc : c < 0
 ·have t1 : decide (c < 0) = true := decide_eq_true hc
  have HE : Hid ((-(c + 1)) % (n : Int) = ((whichOf c n : Nat) : Int)) := by
   show _ = _
   unfold whichOf
   rw [if_pos hc]
   have := Int.emod_nonneg (-(c + 1)) (show (n : Int) ≠ 0 by omega)
   omega
  go_enter Tryd.func11, Tryd.ntmps11
  go_wp2_with (refine wl_remN (.tmp 10) (.tmp 11) rfl rfl (-(c + 1)) n hn (by omega) rfl rfl ?_)
  rw [HE.out]
  go_ret
  exact ⟨rfl, rfl⟩
 ·have t1 : decide (c < 0) = false := decide_eq_false hc
  have HE : Hid (c % (n : Int) = ((whichOf c n : Nat) : Int)) := by
   show _ = _
   unfold whichOf
   rw [if_neg hc]
   have := Int.emod_nonneg c (show (n : Int) ≠ 0 by omega)
   omega
  go_enter Tryd.func11, Tryd.ntmps11
  go_wp2_with (refine wl_remN (.tmp 10) (.tmp 11) rfl rfl c n hn (by omega) rfl rfl ?_)
  rw [HE.out]
  go_ret
  exact ⟨rfl, rfl⟩

def lit2 (x y : Int) : List Value := [.int .i64 x, .int .i64 y]
theorem run_lit2 {w : World} {a : Act} {o : Oper} (x y : Operand) (ho : o.op = .buildSlice 31 2 #[(0, x), (1, y)]) (u v : Int) (hx : a.eval x = .int .i64 u) (hy : a.eval y = .int .i64 v) : (execOp a.eval o).run Tryd.prog w = .ok (.value (whole w.heap.size 2)) (w.alloc (.cells (lit2 u v).toArray 3)) := by
 have hr : (Instr.buildSlice 31 2 #[(0, .int .i64 u), (1, .int .i64 v)]).run Tryd.prog w = .ok (whole w.heap.size 2) (w.alloc (.cells (lit2 u v).toArray 3)) := by kernel_rfl
 simp only [execOp, ho, List.map_toArray, List.map_cons, List.map_nil, hx, hy, hr, Sem.run_bind, Sem.run_pure, Result.andThen_ok]
theorem run_lit1i {w : World} {a : Act} {o : Oper} (x : Operand) (ho : o.op = .buildSlice 31 1 #[(0, x)]) (u : Int) (hx : a.eval x = .int .i64 u) : (execOp a.eval o).run Tryd.prog w = .ok (.value (whole w.heap.size 1)) (w.alloc (.cells ([.int .i64 u] : List Value).toArray 3)) := by
 have hr : (Instr.buildSlice 31 1 #[(0, .int .i64 u)]).run Tryd.prog w = .ok (whole w.heap.size 1) (w.alloc (.cells ([.int .i64 u] : List Value).toArray 3)) := by kernel_rfl
 simp only [execOp, ho, List.map_toArray, List.map_cons, List.map_nil, hx, hr, Sem.run_bind, Sem.run_pure, Result.andThen_ok]
theorem run_build84 {w : World} {a : Act} {o : Oper} (x y : Operand) (ho : o.op = .build 84 #[(0, x), (1, y)]) (g k h l : Nat) (hx : a.eval x = whole g k) (hy : a.eval y = whole h l) : (execOp a.eval o).run Tryd.prog w = .ok (.value (.agg #[whole g k, whole h l])) w := by
 have hr : (Instr.build 84 #[(0, whole g k), (1, whole h l)]).run Tryd.prog w = .ok (.agg #[whole g k, whole h l]) w := by kernel_rfl
 simp only [execOp, ho, List.map_toArray, List.map_cons, List.map_nil, hx, hy, hr, Sem.run_bind, Sem.run_pure, Result.andThen_ok]
def rcells0 (d n : Int) : List Value := [.int .i64 d, .int .i64 n, .slice none 0 0, .slice none 0 0]
theorem run_build60 {w : World} {a : Act} {o : Oper} (x y : Operand) (ho : o.op = .build 60 #[(0, x), (1, y)]) (d n : Int) (hx : a.eval x = .int .i64 d) (hy : a.eval y = .int .i64 n) : (execOp a.eval o).run Tryd.prog w = .ok (.value (.agg (rcells0 d n).toArray)) w := by
 have hr : (Instr.build 60 #[(0, .int .i64 d), (1, .int .i64 n)]).run Tryd.prog w = .ok (.agg (rcells0 d n).toArray) w := by kernel_rfl
 simp only [execOp, ho, List.map_toArray, List.map_cons, List.map_nil, hx, hy, hr, Sem.run_bind, Sem.run_pure, Result.andThen_ok]
def scells (gp gh gr : Nat) (ever dims : Int) : List Value := [ptr gp, ptr gh, ptr gr, .int .i64 ever, .int .i64 dims]
theorem run_build38 {w : World} {a : Act} {o : Oper} (x y z : Operand) (ho : o.op = .build 38 #[(0, x), (1, y), (2, z)]) (gp gh gr : Nat) (hx : a.eval x = ptr gp) (hy : a.eval y = ptr gh) (hz : a.eval z = ptr gr) : (execOp a.eval o).run Tryd.prog w = .ok (.value (.agg (scells gp gh gr 0 0).toArray)) w := by
 have hr : (Instr.build 38 #[(0, ptr gp), (1, ptr gh), (2, ptr gr)]).run Tryd.prog w = .ok (.agg (scells gp gh gr 0 0).toArray) w := by kernel_rfl
 simp only [execOp, ho, List.map_toArray, List.map_cons, List.map_nil, hx, hy, hz, hr, Sem.run_bind, Sem.run_pure, Result.andThen_ok]
theorem ints_row {w : World} {g : Nat} {l : List Int} (h : Row w g 3 (l.map fun x => Value.int .i64 x)) (hl : l.length < 4611686018427387904) : IntsIn w (whole g l.length) l :=
 ⟨some ⟨g, 0, none⟩, l.length, rfl, Nat.le_refl _, hl, Or.inr ⟨g, 0, rfl, fun j hj => by rw [Nat.zero_add]; exact h.at j _ (by simp [hj])⟩⟩
theorem ix31 (g n k : Nat) (hk : k < n) (w : World) : (Instr.indexAt 31 (whole g n) (.int .i64 (k : Nat))).run Tryd.prog w = .ok (.pointer (some ⟨g, k, none⟩)) w := by
 have h := ixW (t := 31) (e := 3) (sz := 1) und22 (by kernel_rfl) g n k hk w
 rw [Nat.mul_one] at h
 exact h
theorem plsNil (w : World) : PlsIn w (.slice none 0 0) [] := ⟨none, 0, rfl, Nat.le_refl _, by decide, Or.inl rfl, fun x hx => by cases hx⟩
set_option maxHeartbeats 4000000 in
set_option maxRecDepth 100000 in
theorem made_any {w W : World} (hb : Below w.heap.size w W) (ht : Fr.TabIn w) (hz : TzIn w) (n : Nat) (hn : 1 ≤ n ∧ n ≤ 4096) : Calls Tryd.prog 17 #[.int .i64 (n : Nat)] W fun e W' => ∃ g c, e = .returned (ptr g) ∧ Below W.heap.size W W' ∧ PlW w W' c g (newPl [1, (n : Int)] [9]) n 0 := by
 have HM : Hid (Below w.heap.size w W ∧ Fr.TabIn w ∧ TzIn w) := ⟨hb, ht, hz⟩
 clear hb ht hz
 obtain ⟨PQ, HPQ⟩ := exPQ fun (e : Ending) (w' : World) => ∃ g c, e = .returned (ptr g) ∧ Below W.heap.size W w' ∧ PlW w w' c g (newPl [1, (n : Int)] [9]) n 0
 rw [← HPQ.out]
 go_enter Tryd.func17, Tryd.ntmps17
 go_upto_region 0 with fail
 refine wp_region_lit ?_
 refine wl rfl (.pointer none) _ (run_asZ (.const (.pointer none)) rfl (.pointer none) rfl) ?_
 simp only [Act.put, aS, aC, aZ]
 refine wpList_nil ?_
 go_upto_region 1 with fail
 refine wp_region_lit ?_
 refine wl rfl (.int .i64 (n : Nat)) _ (run_mvZ (.tmp 0) rfl (.int .i64 (n : Nat)) rfl) ?_
 refine wl rfl (whole W.heap.size 2) _ (run_lit2 (.const (.int .i64 1)) (.tmp 6) rfl 1 (n : Nat) rfl rfl) ?_
 have hb_ := below_alloc W (.cells (lit2 1 (n : Nat)).toArray 3)
 have r_ := Row.new W 3 (lit2 1 (n : Nat))
 obtain ⟨W1, hW_⟩ : ∃ U_ : World, U_ = W.alloc (.cells (lit2 1 (n : Nat)).toArray 3) := ⟨_, rfl⟩
 obtain ⟨q1, hq_⟩ : ∃ q, q = W.heap.size := ⟨_, rfl⟩
 rw [← hW_] at hb_
 rw [← hW_, ← hq_] at r_
 rw [← hW_, ← hq_]
 have H1 : Hid (Row W1 q1 3 (lit2 1 (n : Nat)) ∧ Below W.heap.size W W1) := ⟨r_, hb_⟩
 clear r_ hb_ hW_ hq_
 simp only [Act.put, aS, aC, aZ]
 refine wl rfl (whole W1.heap.size 1) _ (run_lit1i (.const (.int .i64 9)) rfl 9 rfl) ?_
 have hb_ := below_alloc W1 (.cells ([.int .i64 9] : List Value).toArray 3)
 have r_ := Row.new W1 3 ([.int .i64 9] : List Value)
 obtain ⟨W2, hW_⟩ : ∃ U_ : World, U_ = W1.alloc (.cells ([.int .i64 9] : List Value).toArray 3) := ⟨_, rfl⟩
 obtain ⟨q2, hq_⟩ : ∃ q, q = W1.heap.size := ⟨_, rfl⟩
 rw [← hW_] at hb_
 rw [← hW_, ← hq_] at r_
 rw [← hW_, ← hq_]
 have H2 : Hid (Row W2 q1 3 (lit2 1 (n : Nat)) ∧ Row W2 q2 3 [.int .i64 9] ∧ Below W.heap.size W W2) := ⟨H1.out.1.later hb_ H1.out.1.lt, r_, H1.out.2.trans (hb_.mono H1.out.2.size)⟩
 clear r_ hb_ hW_ hq_
 simp only [Act.put, aS, aC, aZ]
 refine wl rfl (.agg #[whole q1 2, whole q2 1]) _ (run_build84 (.tmp 7) (.tmp 8) rfl q1 2 q2 1 rfl rfl) ?_
 simp only [Act.put, aS, aC, aZ]
 refine wpList_callW eN32 [.tmp 9] _ rfl rfl [(.agg #[whole q1 2, whole q2 1])] rfl ?_
 refine (PlW.new (HM.out.1.trans (H2.out.2.2.mono HM.out.1.size)) HM.out.2.1 HM.out.2.2 n hn (whole q1 2) (whole q2 1) (ints_row (l := [1, (n : Int)]) H2.out.1 (by simp)) (ints_row (l := [9]) H2.out.2.1 (by simp))).mono ?_
 rintro e W3 ⟨g, c, rfl, hb_, hp_⟩
 refine ⟨_, rfl, ?_⟩
 have H3 : Hid (Below W.heap.size W W3 ∧ PlW w W3 c g (newPl [1, (n : Int)] [9]) n 0) := ⟨H2.out.2.2.trans (hb_.mono H2.out.2.2.size), hp_⟩
 clear hb_ hp_
 simp only [Act.put, aS, aC, aZ]
 refine wl rfl (.tuple #[(ptr g), (.int .i64 0)]) _ (run_mvZ (.tmp 10) rfl (.tuple #[(ptr g), (.int .i64 0)]) rfl) ?_
 refine wl rfl (ptr g) _ (run_extZ (.tmp 5) 0 rfl #[(ptr g), (.int .i64 0)] rfl (ptr g) rfl) ?_
 refine wl rfl (.int .i64 0) _ (run_extZ (.tmp 5) 1 rfl #[(ptr g), (.int .i64 0)] rfl (.int .i64 0) rfl) ?_
 refine wl rfl (ptr g) _ (run_asZ (.tmp 11) rfl (ptr g) rfl) ?_
 simp only [Act.put, aS, aC, aZ]
 refine wl rfl (.int .i64 0) _ (run_asZ (.tmp 12) rfl (.int .i64 0) rfl) ?_
 simp only [Act.put, aS, aC, aZ]
 refine wpList_nil ?_
 go_upto_region 2 with fail
 refine wp_region_lit ?_
 refine wl rfl (ptr g) _ (run_mvZ (.tmp 3) rfl (ptr g) rfl) ?_
 refine wl rfl (.bool false) _ (run_binOp' (.tmp 13) (.const (.pointer none)) rfl _ _ _ rfl rfl rfl (by kernel_rfl)) ?_
 refine wl rfl (.bool false) _ (run_mvZ (.tmp 14) rfl (.bool false) rfl) ?_
 refine wl (by kernel_rfl) (.int .i64 0) _ (run_mvZ (.tmp 4) rfl (.int .i64 0) rfl) ?_
 simp only [Act.put, aS, aC, aZ]
 refine wl (by kernel_rfl) (.bool false) _ (run_neZ (.tmp 16) (.const (.int .i64 0)) rfl (0) (0) rfl rfl false rfl) ?_
 refine wl rfl (.bool false) _ (run_pickZ (.tmp 15) (.const (.bool true)) (.tmp 17) rfl false (.bool false) rfl rfl) ?_
 simp only [Act.put, aS, aC, aZ]
 refine wpList_nil ?_
 go_upto_region 4 with fail
 refine wp_region_lit ?_
 refine wl rfl (ptr g) _ (run_mvZ (.tmp 3) rfl (ptr g) rfl) ?_
 refine wl rfl (ptr g) _ (run_asZ (.tmp 19) rfl (ptr g) rfl) ?_
 simp only [Act.put, aS, aC, aZ]
 refine wpList_nil ?_
 go_wp2_with fail
 rw [HPQ.out]
 exact ⟨g, c, rfl, H3.out⟩
set_option maxHeartbeats 4000000 in
set_option maxRecDepth 100000 in
theorem ropen0_any {w : World} {g : Nat} (n : Nat) (hr : Row w g 3 (lit2 1 (n : Nat))) : Calls Tryd.prog 19 #[whole g 2, .int .i64 1, .slice none 0 0] w fun e w' => ∃ gr, e = .returned (.tuple #[ptr gr, .int .i64 0]) ∧ w.heap.size ≤ gr ∧ Row w' gr 60 (rcells0 1 (n : Nat)) ∧ Below w.heap.size w w' := by
 have HR : Hid (Row w g 3 (lit2 1 (n : Nat))) := hr
 clear hr
 obtain ⟨PQ, HPQ⟩ := exPQ fun (e : Ending) (w' : World) => ∃ gr, e = .returned (.tuple #[ptr gr, .int .i64 0]) ∧ w.heap.size ≤ gr ∧ Row w' gr 60 (rcells0 1 (n : Nat)) ∧ Below w.heap.size w w'
 rw [← HPQ.out]
 go_enter Tryd.func19, Tryd.ntmps19
 go_upto_region 0 with fail
 refine wp_region_lit ?_
 refine wl rfl (.pointer none) _ (run_asZ (.const (.pointer none)) rfl (.pointer none) rfl) ?_
 refine wl rfl (.int .i64 0) _ (run_asZ (.const (.int .i64 0)) rfl (.int .i64 0) rfl) ?_
 simp only [Act.put, aS, aC, aZ]
 refine wpList_nil ?_
 go_upto_region 1 with fail
 refine wp_region_lit ?_
 refine wl rfl (.int .i64 ((1 : Nat) : Int)) _ (run_mvZ (.tmp 1) rfl (.int .i64 ((1 : Nat) : Int)) rfl) ?_
 refine wl rfl (.bool false) _ (run_lssZ (.tmp 12) (.const (.int .i64 0)) rfl 1 0 rfl rfl false rfl) ?_
 refine wl rfl (.bool false) _ (run_mvZ (.tmp 13) rfl (.bool false) rfl) ?_
 refine wl (by kernel_rfl) (.int .i64 ((1 : Nat) : Int)) _ (run_mvZ (.tmp 1) rfl (.int .i64 ((1 : Nat) : Int)) rfl) ?_
 simp only [Act.put, aS, aC, aZ]
 refine wl (by kernel_rfl) (whole g 2) _ (run_mvZ (.tmp 0) rfl (whole g 2) rfl) ?_
 refine wl (by kernel_rfl) (.int .i64 ((2 : Nat) : Int)) _ (run_lenZ sl31 (.tmp 16) rfl (some ⟨g, 0, none⟩) 2 2 rfl) ?_
 refine wl (by kernel_rfl) (.bool false) _ (run_geqZ (.tmp 15) (.tmp 17) rfl 1 ((2 : Nat) : Int) rfl rfl false rfl) ?_
 refine wl rfl (.bool false) _ (run_pickZ (.tmp 14) (.const (.bool true)) (.tmp 18) rfl false (.bool false) rfl rfl) ?_
 simp only [Act.put, aS, aC, aZ]
 refine wpList_nil ?_
 go_upto_region 3 with fail
 refine wp_region_lit ?_
 refine wl rfl (.int .i64 ((1 : Nat) : Int)) _ (run_mvZ (.tmp 1) rfl (.int .i64 ((1 : Nat) : Int)) rfl) ?_
 refine wl rfl (whole g 2) _ (run_mvZ (.tmp 0) rfl (whole g 2) rfl) ?_
 refine wl rfl (.int .i64 ((1 : Nat) : Int)) _ (run_mvZ (.tmp 1) rfl (.int .i64 ((1 : Nat) : Int)) rfl) ?_
 refine wl rfl (.pointer (some ⟨g, 1, none⟩)) _ (run_idx (.tmp 21) (.tmp 22) rfl _ _ _ rfl rfl (ix31 g 2 1 (by decide))) ?_
 simp only [Act.put, aS, aC, aZ]
 refine wl rfl (.int .i64 (n : Nat)) _ (run_load1 o3 (.tmp 23) rfl g (1) rfl (.int .i64 (n : Nat)) (HR.out.at 1 _ rfl)) ?_
 refine wl rfl (.agg (rcells0 1 (n : Nat)).toArray) _ (run_build60 (.tmp 20) (.tmp 24) rfl 1 (n : Nat) rfl rfl) ?_
 refine wl rfl (ptr w.heap.size) _ (run_boxA (.tmp 25) rfl (rcells0 1 (n : Nat)) rfl) ?_
 have hb_ := below_alloc w (.cells (rcells0 1 (n : Nat)).toArray 60)
 have r_ := Row.new w 60 (rcells0 1 (n : Nat))
 obtain ⟨w1, hW_⟩ : ∃ W, W = w.alloc (.cells (rcells0 1 (n : Nat)).toArray 60) := ⟨_, rfl⟩
 obtain ⟨gr, hq_⟩ : ∃ q, q = w.heap.size := ⟨_, rfl⟩
 rw [← hW_] at hb_
 rw [← hW_, ← hq_] at r_
 rw [← hW_, ← hq_]
 have H1 : Hid (Row w1 gr 60 (rcells0 1 (n : Nat)) ∧ Below w.heap.size w w1 ∧ w.heap.size ≤ gr) := ⟨r_, hb_, by omega⟩
 clear r_ hb_ hW_ hq_
 simp only [Act.put, aS, aC, aZ]
 refine wl rfl (ptr gr) _ (run_asZ (.tmp 26) rfl (ptr gr) rfl) ?_
 simp only [Act.put, aS, aC, aZ]
 refine wpList_nil ?_
 go_upto_region 4 with fail
 refine wp_region_lit ?_
 refine wl rfl (.int .i64 0) _ (run_asZ (.const (.int .i64 0)) rfl (.int .i64 0) rfl) ?_
 simp only [Act.put, aS, aC, aZ]
 refine wpList_nil ?_
 go_wp2_with fail
 go_loopw [9] (fun vi W => vi = .int .i64 0 ∧ w1 = W) (fun _ _ => 0)
 case atStart => exact ⟨rfl, rfl⟩
 case round =>
  obtain ⟨rfl, rfl⟩ := hrel
  go_upto_region 5 with fail
  refine wp_region_lit ?_
  refine wl rfl (.int .i64 0) _ (run_mvZ (.tmp 9) rfl (.int .i64 0) rfl) ?_
  refine wl rfl (.slice none 0 0) _ (run_mvZ (.tmp 2) rfl (.slice none 0 0) rfl) ?_
  refine wl rfl (.int .i64 ((0 : Nat) : Int)) _ (run_lenZ sl43 (.tmp 28) rfl none 0 0 rfl) ?_
  refine wl rfl (.bool false) _ (run_lssZ (.tmp 27) (.tmp 29) rfl 0 ((0 : Nat) : Int) rfl rfl false rfl) ?_
  simp only [Act.put, aS, aC, aZ]
  refine wpList_nil ?_
  go_upto_region 18 with fail
  refine wp_region_lit ?_
  refine wl rfl (ptr gr) _ (run_mvZ (.tmp 8) rfl (ptr gr) rfl) ?_
  refine wl rfl (ptr gr) _ (run_asZ (.tmp 79) rfl (ptr gr) rfl) ?_
  refine wl rfl (.int .i64 0) _ (run_asZ (.const (.int .i64 0)) rfl (.int .i64 0) rfl) ?_
  simp only [Act.put, aS, aC, aZ]
  refine wpList_nil ?_
  go_wp2_with fail
  rw [HPQ.out]
  exact ⟨gr, rfl, H1.out.2.2, H1.out.1, H1.out.2.1⟩

theorem PlW.open0 {w W : World} {c : Nat → Colour} {gp : Nat} {m : Pl} {n K : Nat} (h : PlW w W c gp m n K) (hon : m.on = true) (hwt : m.wt 1 = []) : Calls Tryd.prog 18 #[ptr gp, .int .i64 1, .slice none 0 0] W fun e W' => ∃ gh gf gm, e = .returned (.tuple #[ptr gh, .int .i64 0]) ∧ Below W.heap.size W W' ∧ W.heap.size ≤ gh ∧ W.heap.size ≤ gf ∧ W.heap.size ≤ gm ∧ HtW w W' c gp gh gf gm m n [] K := by
 refine (openH_any h.live h.shape (fun x hx => by have := h.hn; simp at hx; omega) 1 (n / 16) (by simp) rfl _ [] (plsNil W)).mono ?_
 rintro e W' ⟨hb, ⟨h1, _⟩ | ⟨gh, gf, gm, fr, f, q, h1, h2, h3, h4, h5, h6⟩⟩
 ·cases h1
 ·have h1 : some (List.replicate (n / 16) 65535, (fun _ => none : Int → Option Int), 0) = some (fr, f, q) := h1
  injection h1 with h1
  injection h1 with e1 e2
  injection e2 with e2 e3
  subst e1 e2 e3
  have hz := h.below.size
  exact ⟨gh, gf, gm, h2, hb, h4, h5, h6, ⟨h.bel hb, ⟨_, _, _, h3, SegInv.new _, FM.nil, List.length_replicate, Nat.zero_le _⟩, ⟨h.live.2.2 gh h4, h.live.2.2 gf h5, h.live.2.2 gm h6⟩, ⟨by omega, by omega, by omega⟩, hon, hwt, fun u hu => (by cases hu)⟩⟩
set_option maxHeartbeats 4000000 in
set_option maxRecDepth 100000 in
theorem begun_any {w W : World} (hb : Below w.heap.size w W) (ht : Fr.TabIn w) (hz : TzIn w) (n : Nat) (hn : 1 ≤ n ∧ n ≤ 4096) : Calls Tryd.prog 10 #[.int .i64 (n : Nat)] W fun e w' => ∃ gs gp gh gf gm gr c, e = .returned (ptr gs) ∧ Below W.heap.size W w' ∧ HtW w w' c gp gh gf gm (newPl [1, (n : Int)] [9]) n [] 0 ∧ Row w' gs 38 (scells gp gh gr 0 0) ∧ Row w' gr 60 (rcells0 1 (n : Nat)) ∧ Out w w' c gh gf gm gs ∧ Out w w' c gh gf gm gr := by
 have HM : Hid (Below w.heap.size w W ∧ Fr.TabIn w ∧ TzIn w) := ⟨hb, ht, hz⟩
 clear hb ht hz
 obtain ⟨PQ, HPQ⟩ := exPQ fun (e : Ending) (w' : World) => ∃ gs gp gh gf gm gr c, e = .returned (ptr gs) ∧ Below W.heap.size W w' ∧ HtW w w' c gp gh gf gm (newPl [1, (n : Int)] [9]) n [] 0 ∧ Row w' gs 38 (scells gp gh gr 0 0) ∧ Row w' gr 60 (rcells0 1 (n : Nat)) ∧ Out w w' c gh gf gm gs ∧ Out w w' c gh gf gm gr
 rw [← HPQ.out]
 go_enter Tryd.func10, Tryd.ntmps10
 go_upto_region 0 with fail
 refine wp_region_lit ?_
 refine wl rfl (.pointer none) _ (run_asZ (.const (.pointer none)) rfl (.pointer none) rfl) ?_
 simp only [Act.put, aS, aC, aZ]
 refine wpList_nil ?_
 go_upto_region 1 with fail
 refine wp_region_lit ?_
 refine wl rfl (.int .i64 (n : Nat)) _ (run_mvZ (.tmp 0) rfl (.int .i64 (n : Nat)) rfl) ?_
 simp only [Act.put, aS, aC, aZ]
 refine wpList_callW eN17 [.tmp 8] _ rfl rfl [(.int .i64 (n : Nat))] rfl ?_
 refine (made_any HM.out.1 HM.out.2.1 HM.out.2.2 n hn).mono ?_
 rintro e W1 ⟨gp, c, rfl, hb_, hp_⟩
 refine ⟨_, rfl, ?_⟩
 have H1 : Hid (Below W.heap.size W W1 ∧ PlW w W1 c gp (newPl [1, (n : Int)] [9]) n 0) := ⟨hb_, hp_⟩
 clear hb_ hp_
 simp only [Act.put, aS, aC, aZ]
 refine wl rfl (ptr gp) _ (run_asZ (.tmp 9) rfl (ptr gp) rfl) ?_
 simp only [Act.put, aS, aC, aZ]
 refine wpList_nil ?_
 go_upto_region 2 with fail
 refine wp_region_lit ?_
 refine wl rfl (ptr gp) _ (run_mvZ (.tmp 3) rfl (ptr gp) rfl) ?_
 refine wl rfl (.bool false) _ (run_binOp' (.tmp 10) (.const (.pointer none)) rfl _ _ _ rfl rfl rfl (by kernel_rfl)) ?_
 simp only [Act.put, aS, aC, aZ]
 refine wpList_nil ?_
 go_upto_region 4 with fail
 refine wp_region_lit ?_
 refine wl rfl (ptr gp) _ (run_mvZ (.tmp 3) rfl (ptr gp) rfl) ?_
 simp only [Act.put, aS, aC, aZ]
 refine wpList_callW eN18 [.tmp 13, .const (.int .i64 1), .const (.slice none 0 0)] _ rfl rfl [(ptr gp), .int .i64 1, .slice none 0 0] rfl ?_
 refine (H1.out.2.open0 rfl rfl).mono ?_
 rintro e W2 ⟨gh, gf, gm, rfl, hb_, _, _, _, hp_⟩
 refine ⟨_, rfl, ?_⟩
 have H2 : Hid (Below W.heap.size W W2 ∧ HtW w W2 c gp gh gf gm (newPl [1, (n : Int)] [9]) n [] 0) := ⟨H1.out.1.trans (hb_.mono H1.out.1.size), hp_⟩
 clear hb_ hp_
 simp only [Act.put, aS, aC, aZ]
 refine wl rfl (.tuple #[(ptr gh), (.int .i64 0)]) _ (run_mvZ (.tmp 14) rfl (.tuple #[(ptr gh), (.int .i64 0)]) rfl) ?_
 refine wl rfl (ptr gh) _ (run_extZ (.tmp 12) 0 rfl #[(ptr gh), (.int .i64 0)] rfl (ptr gh) rfl) ?_
 refine wl rfl (.int .i64 0) _ (run_extZ (.tmp 12) 1 rfl #[(ptr gh), (.int .i64 0)] rfl (.int .i64 0) rfl) ?_
 refine wl rfl (ptr gh) _ (run_asZ (.tmp 15) rfl (ptr gh) rfl) ?_
 simp only [Act.put, aS, aC, aZ]
 refine wl rfl (.int .i64 0) _ (run_asZ (.tmp 16) rfl (.int .i64 0) rfl) ?_
 simp only [Act.put, aS, aC, aZ]
 refine wpList_nil ?_
 go_upto_region 5 with fail
 refine wp_region_lit ?_
 refine wl rfl (.int .i64 (n : Nat)) _ (run_mvZ (.tmp 0) rfl (.int .i64 (n : Nat)) rfl) ?_
 refine wl rfl (whole W2.heap.size 2) _ (run_lit2 (.const (.int .i64 1)) (.tmp 18) rfl 1 (n : Nat) rfl rfl) ?_
 have hb_ := below_alloc W2 (.cells (lit2 1 (n : Nat)).toArray 3)
 have r_ := Row.new W2 3 (lit2 1 (n : Nat))
 obtain ⟨W3, hW_⟩ : ∃ U_ : World, U_ = W2.alloc (.cells (lit2 1 (n : Nat)).toArray 3) := ⟨_, rfl⟩
 obtain ⟨q1, hq_⟩ : ∃ q, q = W2.heap.size := ⟨_, rfl⟩
 rw [← hW_] at hb_
 rw [← hW_, ← hq_] at r_
 rw [← hW_, ← hq_]
 have H3 : Hid (Row W3 q1 3 (lit2 1 (n : Nat)) ∧ Below W.heap.size W W3 ∧ HtW w W3 c gp gh gf gm (newPl [1, (n : Int)] [9]) n [] 0) := ⟨r_, H2.out.1.trans (hb_.mono H2.out.1.size), H2.out.2.bel hb_⟩
 clear r_ hb_ hW_ hq_
 simp only [Act.put, aS, aC, aZ]
 refine wpList_callW eN19 [.tmp 19, .const (.int .i64 1), .const (.slice none 0 0)] _ rfl rfl [(whole q1 2), .int .i64 1, .slice none 0 0] rfl ?_
 refine (ropen0_any n H3.out.1).mono ?_
 rintro e W4 ⟨gr, rfl, hg_, hr_, hb_⟩
 refine ⟨_, rfl, ?_⟩
 have H4 : Hid (Row W4 gr 60 (rcells0 1 (n : Nat)) ∧ Below W.heap.size W W4 ∧ HtW w W4 c gp gh gf gm (newPl [1, (n : Int)] [9]) n [] 0 ∧ Out w W4 c gh gf gm gr) := ⟨hr_, H3.out.2.1.trans (hb_.mono H3.out.2.1.size), H3.out.2.2.bel hb_, Out.new H3.out.2.2 hg_ hr_.lt⟩
 clear hb_ hg_ hr_
 simp only [Act.put, aS, aC, aZ]
 refine wl rfl (.tuple #[(ptr gr), (.int .i64 0)]) _ (run_mvZ (.tmp 20) rfl (.tuple #[(ptr gr), (.int .i64 0)]) rfl) ?_
 refine wl rfl (ptr gr) _ (run_extZ (.tmp 17) 0 rfl #[(ptr gr), (.int .i64 0)] rfl (ptr gr) rfl) ?_
 refine wl rfl (.int .i64 0) _ (run_extZ (.tmp 17) 1 rfl #[(ptr gr), (.int .i64 0)] rfl (.int .i64 0) rfl) ?_
 refine wl rfl (ptr gr) _ (run_asZ (.tmp 21) rfl (ptr gr) rfl) ?_
 simp only [Act.put, aS, aC, aZ]
 refine wl rfl (.int .i64 0) _ (run_asZ (.tmp 22) rfl (.int .i64 0) rfl) ?_
 simp only [Act.put, aS, aC, aZ]
 refine wpList_nil ?_
 go_upto_region 6 with fail
 refine wp_region_lit ?_
 refine wl rfl (ptr gh) _ (run_mvZ (.tmp 4) rfl (ptr gh) rfl) ?_
 refine wl rfl (.bool false) _ (run_binOp' (.tmp 23) (.const (.pointer none)) rfl _ _ _ rfl rfl rfl (by kernel_rfl)) ?_
 refine wl rfl (.bool false) _ (run_mvZ (.tmp 24) rfl (.bool false) rfl) ?_
 refine wl (by kernel_rfl) (.int .i64 0) _ (run_mvZ (.tmp 5) rfl (.int .i64 0) rfl) ?_
 simp only [Act.put, aS, aC, aZ]
 refine wl (by kernel_rfl) (.bool false) _ (run_neZ (.tmp 26) (.const (.int .i64 0)) rfl (0) (0) rfl rfl false rfl) ?_
 refine wl rfl (.bool false) _ (run_pickZ (.tmp 25) (.const (.bool true)) (.tmp 27) rfl false (.bool false) rfl rfl) ?_
 refine wl rfl (.bool false) _ (run_mvZ (.tmp 28) rfl (.bool false) rfl) ?_
 refine wl (by kernel_rfl) (.int .i64 0) _ (run_mvZ (.tmp 7) rfl (.int .i64 0) rfl) ?_
 simp only [Act.put, aS, aC, aZ]
 refine wl (by kernel_rfl) (.bool false) _ (run_neZ (.tmp 30) (.const (.int .i64 0)) rfl (0) (0) rfl rfl false rfl) ?_
 refine wl rfl (.bool false) _ (run_pickZ (.tmp 29) (.const (.bool true)) (.tmp 31) rfl false (.bool false) rfl rfl) ?_
 simp only [Act.put, aS, aC, aZ]
 refine wpList_nil ?_
 go_upto_region 8 with fail
 refine wp_region_lit ?_
 refine wl rfl (ptr gp) _ (run_mvZ (.tmp 3) rfl (ptr gp) rfl) ?_
 refine wl rfl (ptr gh) _ (run_mvZ (.tmp 4) rfl (ptr gh) rfl) ?_
 refine wl rfl (ptr gr) _ (run_mvZ (.tmp 6) rfl (ptr gr) rfl) ?_
 refine wl rfl (.agg (scells gp gh gr 0 0).toArray) _ (run_build38 (.tmp 33) (.tmp 34) (.tmp 35) rfl gp gh gr rfl rfl rfl) ?_
 simp only [Act.put, aS, aC, aZ]
 refine wl rfl (ptr W4.heap.size) _ (run_boxA (.tmp 36) rfl (scells gp gh gr 0 0) rfl) ?_
 have hb_ := below_alloc W4 (.cells (scells gp gh gr 0 0).toArray 38)
 have r_ := Row.new W4 38 (scells gp gh gr 0 0)
 obtain ⟨W5, hW_⟩ : ∃ W, W = W4.alloc (.cells (scells gp gh gr 0 0).toArray 38) := ⟨_, rfl⟩
 obtain ⟨gs, hq_⟩ : ∃ q, q = W4.heap.size := ⟨_, rfl⟩
 rw [← hW_] at hb_
 rw [← hW_, ← hq_] at r_
 rw [← hW_, ← hq_]
 have H5 : Hid (Row W5 gs 38 (scells gp gh gr 0 0) ∧ Row W5 gr 60 (rcells0 1 (n : Nat)) ∧ Below W.heap.size W W5 ∧ HtW w W5 c gp gh gf gm (newPl [1, (n : Int)] [9]) n [] 0 ∧ Out w W5 c gh gf gm gs ∧ Out w W5 c gh gf gm gr) := ⟨r_, H4.out.1.later hb_ H4.out.1.lt, H4.out.2.1.trans (hb_.mono H4.out.2.1.size), H4.out.2.2.1.bel hb_, Out.new H4.out.2.2.1 (by omega) r_.lt, H4.out.2.2.2.bel hb_.size⟩
 clear r_ hb_ hW_ hq_
 simp only [Act.put, aS, aC, aZ]
 refine wl rfl (ptr gs) _ (run_asZ (.tmp 37) rfl (ptr gs) rfl) ?_
 simp only [Act.put, aS, aC, aZ]
 refine wpList_nil ?_
 go_wp2_with fail
 rw [HPQ.out]
 exact ⟨gs, gp, gh, gf, gm, gr, c, rfl, H5.out.2.2.1, H5.out.2.2.2.1, H5.out.1, H5.out.2.1, H5.out.2.2.2.2.1, H5.out.2.2.2.2.2⟩

end Go.Proofs.YthgidfoidbgnaaaDoor

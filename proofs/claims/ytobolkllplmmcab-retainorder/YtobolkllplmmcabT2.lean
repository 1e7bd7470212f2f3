/- Locks and holds. -/
import Derived.Test.YtobolkllplmmcabT1
namespace Go.Proofs.Ytobolkllplmmcab
open Go.RowKit

/-- what a lock makes of a record -/
def lockS (r : Rc) (u : Int) : Rc × Int := if u < 0 ∨ 1099511627776 < u then (rz, 1) else if r.gone then (rz, 213) else ({ r with expiry := max r.expiry u }, 0)
def holdS (r : Rc) (b : Bool) : Rc × Int := if r.gone then (rz, 213) else ({ r with hold := b }, 0)
/-- why a record may not be deleted now -/
def refS (r : Rc) (now : Int) : Int := if r.gone then 213 else if r.hold then 214 else if now < r.expiry then 214 else 0
def delS (r : Rc) (now : Int) : Rc × Int := if refS r now = 0 then ({ r with gone := true, cp := [] }, 0) else (rz, refS r now)
theorem Rok.expiry {r : Rc} {vc : Value} (h : Rok r vc) (x : Int) : Rok { r with expiry := x } vc := ⟨h.root, h.bytes, h.sl⟩
theorem Rok.hold {r : Rc} {vc : Value} (h : Rok r vc) (x : Bool) : Rok { r with hold := x } vc := ⟨h.root, h.bytes, h.sl⟩
theorem Rok.gone {r : Rc} {vc : Value} (h : Rok r vc) (x : Bool) : Rok { r with gone := x } vc := ⟨h.root, h.bytes, h.sl⟩
theorem Rok.cut {r : Rc} {vc : Value} (h : Rok r vc) (ps : List Pc) : Rok { r with cp := ps } (.slice none 0 0) := ⟨h.root, h.bytes, ⟨_, _, _, rfl⟩⟩
theorem Fits.expiry {w : World} {r : Rc} {vc : Value} (h : Fits w r vc) (x : Int) : Fits w { r with expiry := x } vc := ⟨h.root, h.bytes, h.cp⟩
theorem Fits.hold {w : World} {r : Rc} {vc : Value} (h : Fits w r vc) (x : Bool) : Fits w { r with hold := x } vc := ⟨h.root, h.bytes, h.cp⟩
theorem bc32 {b : List Nat} (h : b.length = 32) : (bcells b).length = 32 := by rw [bcells_length, h]
set_option maxHeartbeats 4000000 in
set_option maxRecDepth 100000 in
theorem lock_any (r : Rc) (vc : Value) (u : Int) (w : World) (hf : Fits w r vc) (hz : r.cp.length * 32 ≤ 140737488355328) : Calls Try.prog 6 #[.agg (rcells r vc).toArray, .int .i64 u] w fun e w' => ∃ v', e = .returned (.tuple #[.agg (rcells (lockS r u).1 v').toArray, .int .i64 (lockS r u).2]) ∧ Below w.heap.size w w' ∧ POwn w' w.heap.size v' (lockS r u).1.cp := by
  have HF : Hid (Fits w r vc ∧ r.cp.length * 32 ≤ 140737488355328) := ⟨hf, hz⟩
  clear hf hz
  obtain ⟨S, hS⟩ : ∃ S, S = lockS r u := ⟨_, rfl⟩
  rw [← hS]
  obtain ⟨PQ, hPQ⟩ : ∃ PQ : Ending → World → Prop, PQ = fun (e : Ending) (w' : World) => ∃ v', e = .returned (.tuple #[.agg (rcells S.1 v').toArray, .int .i64 S.2]) ∧ Below w.heap.size w w' ∧ POwn w' w.heap.size v' S.1.cp := ⟨_, rfl⟩
  have HPQ : Hid (PQ = fun (e : Ending) (w' : World) => ∃ v', e = .returned (.tuple #[.agg (rcells S.1 v').toArray, .int .i64 S.2]) ∧ Below w.heap.size w w' ∧ POwn w' w.heap.size v' S.1.cp) := hPQ
  rw [← hPQ]
  clear hPQ
  by_cases h1 : u < 0
  · have HC : Hid (decide (u < 0) = true ∧ True) := ⟨decide_eq_true h1, trivial⟩
    have HS : Hid (S = (rz, 1)) := by rw [hS, lockS, if_pos (Or.inl h1)]; exact rfl
    clear hS h1
    have R0 : Hid (Loc w w []) := Loc.nil (Below.refl _ w)
    go_enter Try.func6, Try.ntmps6
    go_upto_region 0 with fail
    refine wp_region_lit ?_
    refine wl rfl (ptr w.heap.size) _ (run_boxA (.tmp 0) rfl (rcells r vc) rfl) ?_
    have k_ := R0.out.box 26 (rcells r vc)
    obtain ⟨w1, hW_⟩ : ∃ W, W = w.alloc (.cells (rcells r vc).toArray 26) := ⟨_, rfl⟩
    obtain ⟨q1, hq_⟩ : ∃ q, q = w.heap.size := ⟨_, rfl⟩
    rw [← hW_, ← hq_] at k_
    rw [← hW_, ← hq_]
    clear hq_
    have Rw1 : Hid (Loc w w1 [(q1, 26, rcells r vc)]) := k_
    clear k_ hW_ R0
    simp only [Act.put, List.setIfInBounds_toArray, List.set_cons_succ, List.set_cons_zero]
    refine wl rfl (ptr w1.heap.size) _ (run_allocA (rcells rz (.slice none 0 0)) zero26 rfl) ?_
    have k_ := Rw1.out.box 26 (rcells rz (.slice none 0 0))
    have hB_ := below_alloc w1 (.cells (rcells rz (.slice none 0 0)).toArray 26)
    obtain ⟨w2, hW_⟩ : ∃ U_ : World, U_ = w1.alloc (.cells (rcells rz (.slice none 0 0)).toArray 26) := ⟨_, rfl⟩
    obtain ⟨q2, hq_⟩ : ∃ q, q = w1.heap.size := ⟨_, rfl⟩
    rw [← hW_, ← hq_] at k_
    rw [← hW_] at hB_
    rw [← hW_, ← hq_]
    clear hq_
    have Rw2 : Hid (Loc w w2 [(q1, 26, rcells r vc), (q2, 26, rcells rz (.slice none 0 0))]) := k_
    clear k_ hW_ Rw1
    clear hB_
    simp only [Act.put, List.setIfInBounds_toArray, List.set_cons_succ, List.set_cons_zero]
    refine wl rfl (.int .i64 0) _ (run_asZ (.const (.int .i64 0)) rfl (.int .i64 0) rfl) ?_
    simp only [Act.put, List.setIfInBounds_toArray, List.set_cons_succ, List.set_cons_zero]
    refine wpList_nil ?_
    go_upto_region 1 with fail
    refine wp_region_lit ?_
    refine wl rfl (.int .i64 u) _ (run_mvZ (.tmp 1) rfl (.int .i64 u) rfl) ?_
    simp only [Act.put, List.setIfInBounds_toArray, List.set_cons_succ, List.set_cons_zero]
    refine wl rfl (.bool true) _ (run_lssZ (.tmp 6) (.const (.int .i64 0)) rfl u 0 rfl rfl true HC.out.1) ?_
    simp only [Act.put, List.setIfInBounds_toArray, List.set_cons_succ, List.set_cons_zero]
    refine wl rfl (.bool true) _ (run_mvZ (.tmp 7) rfl (.bool true) rfl) ?_
    simp only [Act.put, List.setIfInBounds_toArray, List.set_cons_succ, List.set_cons_zero]
    refine wpList_skip (by kernel_rfl) ?_
    simp only [Act.put, List.setIfInBounds_toArray, List.set_cons_succ, List.set_cons_zero]
    refine wpList_skip (by kernel_rfl) ?_
    simp only [Act.put, List.setIfInBounds_toArray, List.set_cons_succ, List.set_cons_zero]
    refine wl rfl (.bool true) _ (run_pickZ (.tmp 8) (.const (.bool true)) (.tmp 10) rfl true (.bool true) rfl rfl) ?_
    simp only [Act.put, List.setIfInBounds_toArray, List.set_cons_succ, List.set_cons_zero]
    refine wpList_nil ?_
    go_upto_region 2 with fail
    refine wp_region_lit ?_
    refine wl rfl (.agg (rcells rz (.slice none 0 0)).toArray) _ (run_bld26 rfl) ?_
    simp only [Act.put, List.setIfInBounds_toArray, List.set_cons_succ, List.set_cons_zero]
    obtain ⟨hst_, k_, hC_⟩ := Rw2.out.st26 1 rfl (Rok.nil).len (rcells rz (.slice none 0 0)) (Rok.nil).len (Rok.nil).one
    have hR_ := Rw2.out.at 1 rfl
    refine wlS rfl rfl _ (run_stV (.tmp 4) (.tmp 12) rfl q2 0 rfl _ rfl hst_) ?_
    obtain ⟨we, hW_⟩ : ∃ U_ : World, U_ = w2.setRow q2 (rcells rz (.slice none 0 0)).toArray := ⟨_, rfl⟩
    rw [← hW_] at k_ hC_ ⊢
    clear hst_
    have Rwe : Hid (Loc w we [(q1, 26, rcells r vc), (q2, 26, rcells rz (.slice none 0 0))]) := k_
    clear k_ hW_ Rw2
    clear hC_ hR_
    refine wl rfl (.int .i64 1) _ (run_asZ (.const (.int .i64 1)) rfl (.int .i64 1) rfl) ?_
    simp only [Act.put, List.setIfInBounds_toArray, List.set_cons_succ, List.set_cons_zero]
    refine wpList_nil ?_
    go_wp2_with fail
    rw [HPQ.out, HS.out]
    exact bodyPost_ret (results_cell_tmp ag26 Try.results6 _ _ q2 26 rfl (rcells rz (.slice none 0 0)) (Rok.nil).len (Rwe.out.at 1 rfl)) rfl ⟨(.slice none 0 0), rfl, Rwe.out.below, POwn.nil _ _⟩
  by_cases h2 : 1099511627776 < u
  · have HC : Hid (decide (u < 0) = false ∧ decide (1099511627776 < u) = true) := ⟨decide_eq_false h1, decide_eq_true h2⟩
    have HS : Hid (S = (rz, 1)) := by rw [hS, lockS, if_pos (Or.inr h2)]; exact rfl
    clear hS h1 h2
    have R0 : Hid (Loc w w []) := Loc.nil (Below.refl _ w)
    go_enter Try.func6, Try.ntmps6
    go_upto_region 0 with fail
    refine wp_region_lit ?_
    refine wl rfl (ptr w.heap.size) _ (run_boxA (.tmp 0) rfl (rcells r vc) rfl) ?_
    have k_ := R0.out.box 26 (rcells r vc)
    obtain ⟨w1, hW_⟩ : ∃ W, W = w.alloc (.cells (rcells r vc).toArray 26) := ⟨_, rfl⟩
    obtain ⟨q1, hq_⟩ : ∃ q, q = w.heap.size := ⟨_, rfl⟩
    rw [← hW_, ← hq_] at k_
    rw [← hW_, ← hq_]
    clear hq_
    have Rw1 : Hid (Loc w w1 [(q1, 26, rcells r vc)]) := k_
    clear k_ hW_ R0
    simp only [Act.put, List.setIfInBounds_toArray, List.set_cons_succ, List.set_cons_zero]
    refine wl rfl (ptr w1.heap.size) _ (run_allocA (rcells rz (.slice none 0 0)) zero26 rfl) ?_
    have k_ := Rw1.out.box 26 (rcells rz (.slice none 0 0))
    have hB_ := below_alloc w1 (.cells (rcells rz (.slice none 0 0)).toArray 26)
    obtain ⟨w2, hW_⟩ : ∃ U_ : World, U_ = w1.alloc (.cells (rcells rz (.slice none 0 0)).toArray 26) := ⟨_, rfl⟩
    obtain ⟨q2, hq_⟩ : ∃ q, q = w1.heap.size := ⟨_, rfl⟩
    rw [← hW_, ← hq_] at k_
    rw [← hW_] at hB_
    rw [← hW_, ← hq_]
    clear hq_
    have Rw2 : Hid (Loc w w2 [(q1, 26, rcells r vc), (q2, 26, rcells rz (.slice none 0 0))]) := k_
    clear k_ hW_ Rw1
    clear hB_
    simp only [Act.put, List.setIfInBounds_toArray, List.set_cons_succ, List.set_cons_zero]
    refine wl rfl (.int .i64 0) _ (run_asZ (.const (.int .i64 0)) rfl (.int .i64 0) rfl) ?_
    simp only [Act.put, List.setIfInBounds_toArray, List.set_cons_succ, List.set_cons_zero]
    refine wpList_nil ?_
    go_upto_region 1 with fail
    refine wp_region_lit ?_
    refine wl rfl (.int .i64 u) _ (run_mvZ (.tmp 1) rfl (.int .i64 u) rfl) ?_
    simp only [Act.put, List.setIfInBounds_toArray, List.set_cons_succ, List.set_cons_zero]
    refine wl rfl (.bool false) _ (run_lssZ (.tmp 6) (.const (.int .i64 0)) rfl u 0 rfl rfl false HC.out.1) ?_
    simp only [Act.put, List.setIfInBounds_toArray, List.set_cons_succ, List.set_cons_zero]
    refine wl rfl (.bool false) _ (run_mvZ (.tmp 7) rfl (.bool false) rfl) ?_
    simp only [Act.put, List.setIfInBounds_toArray, List.set_cons_succ, List.set_cons_zero]
    refine wl (by kernel_rfl) (.int .i64 u) _ (run_mvZ (.tmp 1) rfl (.int .i64 u) rfl) ?_
    simp only [Act.put, List.setIfInBounds_toArray, List.set_cons_succ, List.set_cons_zero]
    refine wl (by kernel_rfl) (.bool true) _ (run_gtrZ (.tmp 9) (.const (.int .i64 1099511627776)) rfl u 1099511627776 rfl rfl true HC.out.2) ?_
    simp only [Act.put, List.setIfInBounds_toArray, List.set_cons_succ, List.set_cons_zero]
    refine wl rfl (.bool true) _ (run_pickZ (.tmp 8) (.const (.bool true)) (.tmp 10) rfl false (.bool true) rfl rfl) ?_
    simp only [Act.put, List.setIfInBounds_toArray, List.set_cons_succ, List.set_cons_zero]
    refine wpList_nil ?_
    go_upto_region 2 with fail
    refine wp_region_lit ?_
    refine wl rfl (.agg (rcells rz (.slice none 0 0)).toArray) _ (run_bld26 rfl) ?_
    simp only [Act.put, List.setIfInBounds_toArray, List.set_cons_succ, List.set_cons_zero]
    obtain ⟨hst_, k_, hC_⟩ := Rw2.out.st26 1 rfl (Rok.nil).len (rcells rz (.slice none 0 0)) (Rok.nil).len (Rok.nil).one
    have hR_ := Rw2.out.at 1 rfl
    refine wlS rfl rfl _ (run_stV (.tmp 4) (.tmp 12) rfl q2 0 rfl _ rfl hst_) ?_
    obtain ⟨we, hW_⟩ : ∃ U_ : World, U_ = w2.setRow q2 (rcells rz (.slice none 0 0)).toArray := ⟨_, rfl⟩
    rw [← hW_] at k_ hC_ ⊢
    clear hst_
    have Rwe : Hid (Loc w we [(q1, 26, rcells r vc), (q2, 26, rcells rz (.slice none 0 0))]) := k_
    clear k_ hW_ Rw2
    clear hC_ hR_
    refine wl rfl (.int .i64 1) _ (run_asZ (.const (.int .i64 1)) rfl (.int .i64 1) rfl) ?_
    simp only [Act.put, List.setIfInBounds_toArray, List.set_cons_succ, List.set_cons_zero]
    refine wpList_nil ?_
    go_wp2_with fail
    rw [HPQ.out, HS.out]
    exact bodyPost_ret (results_cell_tmp ag26 Try.results6 _ _ q2 26 rfl (rcells rz (.slice none 0 0)) (Rok.nil).len (Rwe.out.at 1 rfl)) rfl ⟨(.slice none 0 0), rfl, Rwe.out.below, POwn.nil _ _⟩
  have HC : Hid (decide (u < 0) = false ∧ decide (1099511627776 < u) = false) := ⟨decide_eq_false h1, decide_eq_false h2⟩
  rw [lockS, if_neg (by omega)] at hS
  clear h1 h2
  by_cases h3 : r.gone = true
  · have HG : Hid (r.gone = true) := h3
    have HS : Hid (S = (rz, 213)) := by rw [hS, if_pos h3]; exact rfl
    clear hS h3
    have R0 : Hid (Loc w w []) := Loc.nil (Below.refl _ w)
    go_enter Try.func6, Try.ntmps6
    go_upto_region 0 with fail
    refine wp_region_lit ?_
    refine wl rfl (ptr w.heap.size) _ (run_boxA (.tmp 0) rfl (rcells r vc) rfl) ?_
    have k_ := R0.out.box 26 (rcells r vc)
    obtain ⟨w1, hW_⟩ : ∃ W, W = w.alloc (.cells (rcells r vc).toArray 26) := ⟨_, rfl⟩
    obtain ⟨q1, hq_⟩ : ∃ q, q = w.heap.size := ⟨_, rfl⟩
    rw [← hW_, ← hq_] at k_
    rw [← hW_, ← hq_]
    clear hq_
    have Rw1 : Hid (Loc w w1 [(q1, 26, rcells r vc)]) := k_
    clear k_ hW_ R0
    simp only [Act.put, List.setIfInBounds_toArray, List.set_cons_succ, List.set_cons_zero]
    refine wl rfl (ptr w1.heap.size) _ (run_allocA (rcells rz (.slice none 0 0)) zero26 rfl) ?_
    have k_ := Rw1.out.box 26 (rcells rz (.slice none 0 0))
    have hB_ := below_alloc w1 (.cells (rcells rz (.slice none 0 0)).toArray 26)
    obtain ⟨w2, hW_⟩ : ∃ U_ : World, U_ = w1.alloc (.cells (rcells rz (.slice none 0 0)).toArray 26) := ⟨_, rfl⟩
    obtain ⟨q2, hq_⟩ : ∃ q, q = w1.heap.size := ⟨_, rfl⟩
    rw [← hW_, ← hq_] at k_
    rw [← hW_] at hB_
    rw [← hW_, ← hq_]
    clear hq_
    have Rw2 : Hid (Loc w w2 [(q1, 26, rcells r vc), (q2, 26, rcells rz (.slice none 0 0))]) := k_
    clear k_ hW_ Rw1
    clear hB_
    simp only [Act.put, List.setIfInBounds_toArray, List.set_cons_succ, List.set_cons_zero]
    refine wl rfl (.int .i64 0) _ (run_asZ (.const (.int .i64 0)) rfl (.int .i64 0) rfl) ?_
    simp only [Act.put, List.setIfInBounds_toArray, List.set_cons_succ, List.set_cons_zero]
    refine wpList_nil ?_
    go_upto_region 1 with fail
    refine wp_region_lit ?_
    refine wl rfl (.int .i64 u) _ (run_mvZ (.tmp 1) rfl (.int .i64 u) rfl) ?_
    simp only [Act.put, List.setIfInBounds_toArray, List.set_cons_succ, List.set_cons_zero]
    refine wl rfl (.bool false) _ (run_lssZ (.tmp 6) (.const (.int .i64 0)) rfl u 0 rfl rfl false HC.out.1) ?_
    simp only [Act.put, List.setIfInBounds_toArray, List.set_cons_succ, List.set_cons_zero]
    refine wl rfl (.bool false) _ (run_mvZ (.tmp 7) rfl (.bool false) rfl) ?_
    simp only [Act.put, List.setIfInBounds_toArray, List.set_cons_succ, List.set_cons_zero]
    refine wl (by kernel_rfl) (.int .i64 u) _ (run_mvZ (.tmp 1) rfl (.int .i64 u) rfl) ?_
    simp only [Act.put, List.setIfInBounds_toArray, List.set_cons_succ, List.set_cons_zero]
    refine wl (by kernel_rfl) (.bool false) _ (run_gtrZ (.tmp 9) (.const (.int .i64 1099511627776)) rfl u 1099511627776 rfl rfl false HC.out.2) ?_
    simp only [Act.put, List.setIfInBounds_toArray, List.set_cons_succ, List.set_cons_zero]
    refine wl rfl (.bool false) _ (run_pickZ (.tmp 8) (.const (.bool true)) (.tmp 10) rfl false (.bool false) rfl rfl) ?_
    simp only [Act.put, List.setIfInBounds_toArray, List.set_cons_succ, List.set_cons_zero]
    refine wpList_nil ?_
    go_upto_region 3 with fail
    refine wp_region_lit ?_
    refine wl rfl (.pointer (some ⟨q1, 0 + 37, none⟩)) _ (run_fieldOp' f26_6 (.tmp 2) rfl q1 (0) rfl) ?_
    simp only [Act.put, List.setIfInBounds_toArray, List.set_cons_succ, List.set_cons_zero]
    refine wl rfl (.bool true) _ (run_load1 o4 (.tmp 13) rfl q1 (0 + 37) rfl (.bool true) (Rw2.out.fld 0 rfl (HF.out.1.rok).root 3 _ (by rw [← HG.out]; rfl))) ?_
    simp only [Act.put, List.setIfInBounds_toArray, List.set_cons_succ, List.set_cons_zero]
    refine wpList_nil ?_
    go_upto_region 4 with fail
    refine wp_region_lit ?_
    refine wl rfl (.agg (rcells rz (.slice none 0 0)).toArray) _ (run_bld26 rfl) ?_
    simp only [Act.put, List.setIfInBounds_toArray, List.set_cons_succ, List.set_cons_zero]
    obtain ⟨hst_, k_, hC_⟩ := Rw2.out.st26 1 rfl (Rok.nil).len (rcells rz (.slice none 0 0)) (Rok.nil).len (Rok.nil).one
    have hR_ := Rw2.out.at 1 rfl
    refine wlS rfl rfl _ (run_stV (.tmp 4) (.tmp 15) rfl q2 0 rfl _ rfl hst_) ?_
    obtain ⟨we, hW_⟩ : ∃ U_ : World, U_ = w2.setRow q2 (rcells rz (.slice none 0 0)).toArray := ⟨_, rfl⟩
    rw [← hW_] at k_ hC_ ⊢
    clear hst_
    have Rwe : Hid (Loc w we [(q1, 26, rcells r vc), (q2, 26, rcells rz (.slice none 0 0))]) := k_
    clear k_ hW_ Rw2
    clear hC_ hR_
    refine wl rfl (.int .i64 213) _ (run_asZ (.const (.int .i64 213)) rfl (.int .i64 213) rfl) ?_
    simp only [Act.put, List.setIfInBounds_toArray, List.set_cons_succ, List.set_cons_zero]
    refine wpList_nil ?_
    go_wp2_with fail
    rw [HPQ.out, HS.out]
    exact bodyPost_ret (results_cell_tmp ag26 Try.results6 _ _ q2 26 rfl (rcells rz (.slice none 0 0)) (Rok.nil).len (Rwe.out.at 1 rfl)) rfl ⟨(.slice none 0 0), rfl, Rwe.out.below, POwn.nil _ _⟩
  have HG : Hid (r.gone = false) := eq_false_of_ne_true h3
  have HS : Hid (S = ({ r with expiry := max r.expiry u }, 0)) := by rw [hS, if_neg h3]; exact rfl
  clear hS h3
  have R0 : Hid (Loc w w []) := Loc.nil (Below.refl _ w)
  go_enter Try.func6, Try.ntmps6
  go_upto_region 0 with fail
  refine wp_region_lit ?_
  refine wl rfl (ptr w.heap.size) _ (run_boxA (.tmp 0) rfl (rcells r vc) rfl) ?_
  have k_ := R0.out.box 26 (rcells r vc)
  obtain ⟨w1, hW_⟩ : ∃ W, W = w.alloc (.cells (rcells r vc).toArray 26) := ⟨_, rfl⟩
  obtain ⟨q1, hq_⟩ : ∃ q, q = w.heap.size := ⟨_, rfl⟩
  rw [← hW_, ← hq_] at k_
  rw [← hW_, ← hq_]
  clear hq_
  have Rw1 : Hid (Loc w w1 [(q1, 26, rcells r vc)]) := k_
  clear k_ hW_ R0
  simp only [Act.put, List.setIfInBounds_toArray, List.set_cons_succ, List.set_cons_zero]
  refine wl rfl (ptr w1.heap.size) _ (run_allocA (rcells rz (.slice none 0 0)) zero26 rfl) ?_
  have k_ := Rw1.out.box 26 (rcells rz (.slice none 0 0))
  have hB_ := below_alloc w1 (.cells (rcells rz (.slice none 0 0)).toArray 26)
  obtain ⟨w2, hW_⟩ : ∃ U_ : World, U_ = w1.alloc (.cells (rcells rz (.slice none 0 0)).toArray 26) := ⟨_, rfl⟩
  obtain ⟨q2, hq_⟩ : ∃ q, q = w1.heap.size := ⟨_, rfl⟩
  rw [← hW_, ← hq_] at k_
  rw [← hW_] at hB_
  rw [← hW_, ← hq_]
  clear hq_
  have Rw2 : Hid (Loc w w2 [(q1, 26, rcells r vc), (q2, 26, rcells rz (.slice none 0 0))]) := k_
  clear k_ hW_ Rw1
  clear hB_
  simp only [Act.put, List.setIfInBounds_toArray, List.set_cons_succ, List.set_cons_zero]
  refine wl rfl (.int .i64 0) _ (run_asZ (.const (.int .i64 0)) rfl (.int .i64 0) rfl) ?_
  simp only [Act.put, List.setIfInBounds_toArray, List.set_cons_succ, List.set_cons_zero]
  refine wpList_nil ?_
  go_upto_region 1 with fail
  refine wp_region_lit ?_
  refine wl rfl (.int .i64 u) _ (run_mvZ (.tmp 1) rfl (.int .i64 u) rfl) ?_
  simp only [Act.put, List.setIfInBounds_toArray, List.set_cons_succ, List.set_cons_zero]
  refine wl rfl (.bool false) _ (run_lssZ (.tmp 6) (.const (.int .i64 0)) rfl u 0 rfl rfl false HC.out.1) ?_
  simp only [Act.put, List.setIfInBounds_toArray, List.set_cons_succ, List.set_cons_zero]
  refine wl rfl (.bool false) _ (run_mvZ (.tmp 7) rfl (.bool false) rfl) ?_
  simp only [Act.put, List.setIfInBounds_toArray, List.set_cons_succ, List.set_cons_zero]
  refine wl (by kernel_rfl) (.int .i64 u) _ (run_mvZ (.tmp 1) rfl (.int .i64 u) rfl) ?_
  simp only [Act.put, List.setIfInBounds_toArray, List.set_cons_succ, List.set_cons_zero]
  refine wl (by kernel_rfl) (.bool false) _ (run_gtrZ (.tmp 9) (.const (.int .i64 1099511627776)) rfl u 1099511627776 rfl rfl false HC.out.2) ?_
  simp only [Act.put, List.setIfInBounds_toArray, List.set_cons_succ, List.set_cons_zero]
  refine wl rfl (.bool false) _ (run_pickZ (.tmp 8) (.const (.bool true)) (.tmp 10) rfl false (.bool false) rfl rfl) ?_
  simp only [Act.put, List.setIfInBounds_toArray, List.set_cons_succ, List.set_cons_zero]
  refine wpList_nil ?_
  go_upto_region 3 with fail
  refine wp_region_lit ?_
  refine wl rfl (.pointer (some ⟨q1, 0 + 37, none⟩)) _ (run_fieldOp' f26_6 (.tmp 2) rfl q1 (0) rfl) ?_
  simp only [Act.put, List.setIfInBounds_toArray, List.set_cons_succ, List.set_cons_zero]
  refine wl rfl (.bool false) _ (run_load1 o4 (.tmp 13) rfl q1 (0 + 37) rfl (.bool false) (Rw2.out.fld 0 rfl (HF.out.1.rok).root 3 _ (by rw [← HG.out]; rfl))) ?_
  simp only [Act.put, List.setIfInBounds_toArray, List.set_cons_succ, List.set_cons_zero]
  refine wpList_nil ?_
  go_upto_region 5 with fail
  refine wp_region_lit ?_
  refine wl rfl (.pointer (some ⟨q1, 0 + 35, none⟩)) _ (run_fieldOp' f26_4 (.tmp 2) rfl q1 (0) rfl) ?_
  simp only [Act.put, List.setIfInBounds_toArray, List.set_cons_succ, List.set_cons_zero]
  refine wl rfl (.int .i64 r.expiry) _ (run_load1 o3 (.tmp 16) rfl q1 (0 + 35) rfl (.int .i64 r.expiry) (Rw2.out.fld 0 rfl (HF.out.1.rok).root 1 _ rfl)) ?_
  simp only [Act.put, List.setIfInBounds_toArray, List.set_cons_succ, List.set_cons_zero]
  refine wl rfl (.int .i64 u) _ (run_mvZ (.tmp 1) rfl (.int .i64 u) rfl) ?_
  simp only [Act.put, List.setIfInBounds_toArray, List.set_cons_succ, List.set_cons_zero]
  refine wl rfl (.int .i64 (max r.expiry u)) _ (run_maxZ (.tmp 17) (.tmp 18) rfl r.expiry u rfl rfl) ?_
  simp only [Act.put, List.setIfInBounds_toArray, List.set_cons_succ, List.set_cons_zero]
  refine wl rfl (.pointer (some ⟨q1, 0 + 35, none⟩)) _ (run_fieldOp' f26_4 (.tmp 2) rfl q1 (0) rfl) ?_
  simp only [Act.put, List.setIfInBounds_toArray, List.set_cons_succ, List.set_cons_zero]
  obtain ⟨k_, hC_⟩ := Rw2.out.putf 0 rfl 35 (.int .i64 (max r.expiry u)) (rcells { r with expiry := max r.expiry u } vc) (set35 r vc HF.out.1.root _)
  have hR_ := Rw2.out.at 0 rfl
  refine wlS rfl rfl _ (run_putRow s3 (.tmp 20) (.tmp 19) rfl q1 (0 + 35) 26 (rcells r vc) rfl (.int .i64 (max r.expiry u)) rfl ⟨rfl, rfl⟩ hR_ (by rw [(HF.out.1.rok).len]; decide)) ?_
  obtain ⟨w3, hW_⟩ : ∃ U_ : World, U_ = w2.setCell ⟨q1, 0 + 35, none⟩ (.int .i64 (max r.expiry u)) := ⟨_, rfl⟩
  rw [← hW_] at k_ hC_ ⊢
  have Rw3 : Hid (Loc w w3 [(q1, 26, rcells { r with expiry := max r.expiry u } vc), (q2, 26, rcells rz (.slice none 0 0))]) := k_
  clear k_ hW_ Rw2
  clear hC_ hR_
  refine wpList_nil ?_
  go_upto_region 6 with fail
  refine wp_region_lit ?_
  refine wl rfl (.agg (rcells { r with expiry := max r.expiry u } vc).toArray) _ (run_loadA ag26 (.tmp 2) rfl q1 (0) rfl (rcells { r with expiry := max r.expiry u } vc) (HF.out.1.rok.expiry _).len (Rw3.out.rows 0 rfl)) ?_
  simp only [Act.put, List.setIfInBounds_toArray, List.set_cons_succ, List.set_cons_zero]
  refine wpList_callW eN22 [.tmp 21] _ rfl rfl [(.agg (rcells { r with expiry := max r.expiry u } vc).toArray)] rfl ?_
  refine (apart_any { r with expiry := max r.expiry u } vc w3 ((HF.out.1.later Rw3.out.below).expiry _) HF.out.2).mono ?_
  rintro e w4 ⟨v1, rfl, b_, o_⟩
  refine ⟨_, rfl, ?_⟩
  have HO : Hid (POwn w4 w.heap.size v1 r.cp) := o_.weaken Rw3.out.below.size
  clear o_
  have Rw4 : Hid (Loc w w4 [(q1, 26, rcells { r with expiry := max r.expiry u } vc), (q2, 26, rcells rz (.slice none 0 0))]) := Rw3.out.later b_
  clear Rw3 b_
  simp only [Act.put, List.setIfInBounds_toArray, List.set_cons_succ, List.set_cons_zero]
  obtain ⟨hst_, k_, hC_⟩ := Rw4.out.st26 1 rfl (Rok.nil).len (rcells { r with expiry := max r.expiry u } v1) (((HF.out.1.rok.cp HO.out.isSl).expiry _)).len (((HF.out.1.rok.cp HO.out.isSl).expiry _)).one
  have hR_ := Rw4.out.at 1 rfl
  refine wlS rfl rfl _ (run_stV (.tmp 4) (.tmp 22) rfl q2 0 rfl _ rfl hst_) ?_
  obtain ⟨w5, hW_⟩ : ∃ U_ : World, U_ = w4.setRow q2 (rcells { r with expiry := max r.expiry u } v1).toArray := ⟨_, rfl⟩
  rw [← hW_] at k_ hC_ ⊢
  clear hst_
  have HOx : Hid (POwn w5 w.heap.size v1 r.cp) := HO.out.off hR_ (by decide) hC_
  clear HO
  have HO := HOx
  clear HOx
  have Rw5 : Hid (Loc w w5 [(q1, 26, rcells { r with expiry := max r.expiry u } vc), (q2, 26, rcells { r with expiry := max r.expiry u } v1)]) := k_
  clear k_ hW_ Rw4
  clear hC_ hR_
  refine wl rfl (.int .i64 0) _ (run_asZ (.const (.int .i64 0)) rfl (.int .i64 0) rfl) ?_
  simp only [Act.put, List.setIfInBounds_toArray, List.set_cons_succ, List.set_cons_zero]
  refine wpList_nil ?_
  go_wp2_with fail
  rw [HPQ.out, HS.out]
  exact bodyPost_ret (results_cell_tmp ag26 Try.results6 _ _ q2 26 rfl (rcells { r with expiry := max r.expiry u } v1) (((HF.out.1.rok.cp HO.out.isSl).expiry _)).len (Rw5.out.at 1 rfl)) rfl ⟨v1, rfl, Rw5.out.below, HO.out⟩
set_option maxHeartbeats 4000000 in
set_option maxRecDepth 100000 in
theorem hold_any (r : Rc) (vc : Value) (b : Bool) (w : World) (hf : Fits w r vc) (hz : r.cp.length * 32 ≤ 140737488355328) : Calls Try.prog 9 #[.agg (rcells r vc).toArray, .bool b] w fun e w' => ∃ v', e = .returned (.tuple #[.agg (rcells (holdS r b).1 v').toArray, .int .i64 (holdS r b).2]) ∧ Below w.heap.size w w' ∧ POwn w' w.heap.size v' (holdS r b).1.cp := by
  have HF : Hid (Fits w r vc ∧ r.cp.length * 32 ≤ 140737488355328) := ⟨hf, hz⟩
  clear hf hz
  obtain ⟨S, hS⟩ : ∃ S, S = holdS r b := ⟨_, rfl⟩
  rw [← hS]
  obtain ⟨PQ, hPQ⟩ : ∃ PQ : Ending → World → Prop, PQ = fun (e : Ending) (w' : World) => ∃ v', e = .returned (.tuple #[.agg (rcells S.1 v').toArray, .int .i64 S.2]) ∧ Below w.heap.size w w' ∧ POwn w' w.heap.size v' S.1.cp := ⟨_, rfl⟩
  have HPQ : Hid (PQ = fun (e : Ending) (w' : World) => ∃ v', e = .returned (.tuple #[.agg (rcells S.1 v').toArray, .int .i64 S.2]) ∧ Below w.heap.size w w' ∧ POwn w' w.heap.size v' S.1.cp) := hPQ
  rw [← hPQ]
  clear hPQ
  by_cases h3 : r.gone = true
  · have HG : Hid (r.gone = true) := h3
    have HS : Hid (S = (rz, 213)) := by rw [hS, holdS, if_pos h3]; exact rfl
    clear hS h3
    have R0 : Hid (Loc w w []) := Loc.nil (Below.refl _ w)
    go_enter Try.func9, Try.ntmps9
    go_upto_region 0 with fail
    refine wp_region_lit ?_
    refine wl rfl (ptr w.heap.size) _ (run_boxA (.tmp 0) rfl (rcells r vc) rfl) ?_
    have k_ := R0.out.box 26 (rcells r vc)
    obtain ⟨w1, hW_⟩ : ∃ W, W = w.alloc (.cells (rcells r vc).toArray 26) := ⟨_, rfl⟩
    obtain ⟨q1, hq_⟩ : ∃ q, q = w.heap.size := ⟨_, rfl⟩
    rw [← hW_, ← hq_] at k_
    rw [← hW_, ← hq_]
    clear hq_
    have Rw1 : Hid (Loc w w1 [(q1, 26, rcells r vc)]) := k_
    clear k_ hW_ R0
    simp only [Act.put, List.setIfInBounds_toArray, List.set_cons_succ, List.set_cons_zero]
    refine wl rfl (ptr w1.heap.size) _ (run_allocA (rcells rz (.slice none 0 0)) zero26 rfl) ?_
    have k_ := Rw1.out.box 26 (rcells rz (.slice none 0 0))
    have hB_ := below_alloc w1 (.cells (rcells rz (.slice none 0 0)).toArray 26)
    obtain ⟨w2, hW_⟩ : ∃ U_ : World, U_ = w1.alloc (.cells (rcells rz (.slice none 0 0)).toArray 26) := ⟨_, rfl⟩
    obtain ⟨q2, hq_⟩ : ∃ q, q = w1.heap.size := ⟨_, rfl⟩
    rw [← hW_, ← hq_] at k_
    rw [← hW_] at hB_
    rw [← hW_, ← hq_]
    clear hq_
    have Rw2 : Hid (Loc w w2 [(q1, 26, rcells r vc), (q2, 26, rcells rz (.slice none 0 0))]) := k_
    clear k_ hW_ Rw1
    clear hB_
    simp only [Act.put, List.setIfInBounds_toArray, List.set_cons_succ, List.set_cons_zero]
    refine wl rfl (.int .i64 0) _ (run_asZ (.const (.int .i64 0)) rfl (.int .i64 0) rfl) ?_
    simp only [Act.put, List.setIfInBounds_toArray, List.set_cons_succ, List.set_cons_zero]
    refine wpList_nil ?_
    go_upto_region 1 with fail
    refine wp_region_lit ?_
    refine wl rfl (.pointer (some ⟨q1, 0 + 37, none⟩)) _ (run_fieldOp' f26_6 (.tmp 2) rfl q1 (0) rfl) ?_
    simp only [Act.put, List.setIfInBounds_toArray, List.set_cons_succ, List.set_cons_zero]
    refine wl rfl (.bool true) _ (run_load1 o4 (.tmp 6) rfl q1 (0 + 37) rfl (.bool true) (Rw2.out.fld 0 rfl (HF.out.1.rok).root 3 _ (by rw [← HG.out]; rfl))) ?_
    simp only [Act.put, List.setIfInBounds_toArray, List.set_cons_succ, List.set_cons_zero]
    refine wpList_nil ?_
    go_upto_region 2 with fail
    refine wp_region_lit ?_
    refine wl rfl (.agg (rcells rz (.slice none 0 0)).toArray) _ (run_bld26 rfl) ?_
    simp only [Act.put, List.setIfInBounds_toArray, List.set_cons_succ, List.set_cons_zero]
    obtain ⟨hst_, k_, hC_⟩ := Rw2.out.st26 1 rfl (Rok.nil).len (rcells rz (.slice none 0 0)) (Rok.nil).len (Rok.nil).one
    have hR_ := Rw2.out.at 1 rfl
    refine wlS rfl rfl _ (run_stV (.tmp 4) (.tmp 8) rfl q2 0 rfl _ rfl hst_) ?_
    obtain ⟨we, hW_⟩ : ∃ U_ : World, U_ = w2.setRow q2 (rcells rz (.slice none 0 0)).toArray := ⟨_, rfl⟩
    rw [← hW_] at k_ hC_ ⊢
    clear hst_
    have Rwe : Hid (Loc w we [(q1, 26, rcells r vc), (q2, 26, rcells rz (.slice none 0 0))]) := k_
    clear k_ hW_ Rw2
    clear hC_ hR_
    refine wl rfl (.int .i64 213) _ (run_asZ (.const (.int .i64 213)) rfl (.int .i64 213) rfl) ?_
    simp only [Act.put, List.setIfInBounds_toArray, List.set_cons_succ, List.set_cons_zero]
    refine wpList_nil ?_
    go_wp2_with fail
    rw [HPQ.out, HS.out]
    exact bodyPost_ret (results_cell_tmp ag26 Try.results9 _ _ q2 26 rfl (rcells rz (.slice none 0 0)) (Rok.nil).len (Rwe.out.at 1 rfl)) rfl ⟨(.slice none 0 0), rfl, Rwe.out.below, POwn.nil _ _⟩
  have HG : Hid (r.gone = false) := eq_false_of_ne_true h3
  have HS : Hid (S = ({ r with hold := b }, 0)) := by rw [hS, holdS, if_neg h3]; exact rfl
  clear hS h3
  have R0 : Hid (Loc w w []) := Loc.nil (Below.refl _ w)
  go_enter Try.func9, Try.ntmps9
  go_upto_region 0 with fail
  refine wp_region_lit ?_
  refine wl rfl (ptr w.heap.size) _ (run_boxA (.tmp 0) rfl (rcells r vc) rfl) ?_
  have k_ := R0.out.box 26 (rcells r vc)
  obtain ⟨w1, hW_⟩ : ∃ W, W = w.alloc (.cells (rcells r vc).toArray 26) := ⟨_, rfl⟩
  obtain ⟨q1, hq_⟩ : ∃ q, q = w.heap.size := ⟨_, rfl⟩
  rw [← hW_, ← hq_] at k_
  rw [← hW_, ← hq_]
  clear hq_
  have Rw1 : Hid (Loc w w1 [(q1, 26, rcells r vc)]) := k_
  clear k_ hW_ R0
  simp only [Act.put, List.setIfInBounds_toArray, List.set_cons_succ, List.set_cons_zero]
  refine wl rfl (ptr w1.heap.size) _ (run_allocA (rcells rz (.slice none 0 0)) zero26 rfl) ?_
  have k_ := Rw1.out.box 26 (rcells rz (.slice none 0 0))
  have hB_ := below_alloc w1 (.cells (rcells rz (.slice none 0 0)).toArray 26)
  obtain ⟨w2, hW_⟩ : ∃ U_ : World, U_ = w1.alloc (.cells (rcells rz (.slice none 0 0)).toArray 26) := ⟨_, rfl⟩
  obtain ⟨q2, hq_⟩ : ∃ q, q = w1.heap.size := ⟨_, rfl⟩
  rw [← hW_, ← hq_] at k_
  rw [← hW_] at hB_
  rw [← hW_, ← hq_]
  clear hq_
  have Rw2 : Hid (Loc w w2 [(q1, 26, rcells r vc), (q2, 26, rcells rz (.slice none 0 0))]) := k_
  clear k_ hW_ Rw1
  clear hB_
  simp only [Act.put, List.setIfInBounds_toArray, List.set_cons_succ, List.set_cons_zero]
  refine wl rfl (.int .i64 0) _ (run_asZ (.const (.int .i64 0)) rfl (.int .i64 0) rfl) ?_
  simp only [Act.put, List.setIfInBounds_toArray, List.set_cons_succ, List.set_cons_zero]
  refine wpList_nil ?_
  go_upto_region 1 with fail
  refine wp_region_lit ?_
  refine wl rfl (.pointer (some ⟨q1, 0 + 37, none⟩)) _ (run_fieldOp' f26_6 (.tmp 2) rfl q1 (0) rfl) ?_
  simp only [Act.put, List.setIfInBounds_toArray, List.set_cons_succ, List.set_cons_zero]
  refine wl rfl (.bool false) _ (run_load1 o4 (.tmp 6) rfl q1 (0 + 37) rfl (.bool false) (Rw2.out.fld 0 rfl (HF.out.1.rok).root 3 _ (by rw [← HG.out]; rfl))) ?_
  simp only [Act.put, List.setIfInBounds_toArray, List.set_cons_succ, List.set_cons_zero]
  refine wpList_nil ?_
  go_upto_region 3 with fail
  refine wp_region_lit ?_
  refine wl rfl (.bool b) _ (run_mvZ (.tmp 1) rfl (.bool b) rfl) ?_
  simp only [Act.put, List.setIfInBounds_toArray, List.set_cons_succ, List.set_cons_zero]
  refine wl rfl (.pointer (some ⟨q1, 0 + 36, none⟩)) _ (run_fieldOp' f26_5 (.tmp 2) rfl q1 (0) rfl) ?_
  simp only [Act.put, List.setIfInBounds_toArray, List.set_cons_succ, List.set_cons_zero]
  obtain ⟨k_, hC_⟩ := Rw2.out.putf 0 rfl 36 (.bool b) (rcells { r with hold := b } vc) (set36 r vc HF.out.1.root _)
  have hR_ := Rw2.out.at 0 rfl
  refine wlS rfl rfl _ (run_putRow s4 (.tmp 10) (.tmp 9) rfl q1 (0 + 36) 26 (rcells r vc) rfl (.bool b) rfl ⟨rfl, rfl⟩ hR_ (by rw [(HF.out.1.rok).len]; decide)) ?_
  obtain ⟨w3, hW_⟩ : ∃ U_ : World, U_ = w2.setCell ⟨q1, 0 + 36, none⟩ (.bool b) := ⟨_, rfl⟩
  rw [← hW_] at k_ hC_ ⊢
  have Rw3 : Hid (Loc w w3 [(q1, 26, rcells { r with hold := b } vc), (q2, 26, rcells rz (.slice none 0 0))]) := k_
  clear k_ hW_ Rw2
  clear hC_ hR_
  refine wpList_nil ?_
  go_upto_region 4 with fail
  refine wp_region_lit ?_
  refine wl rfl (.agg (rcells { r with hold := b } vc).toArray) _ (run_loadA ag26 (.tmp 2) rfl q1 (0) rfl (rcells { r with hold := b } vc) (HF.out.1.rok.hold _).len (Rw3.out.rows 0 rfl)) ?_
  simp only [Act.put, List.setIfInBounds_toArray, List.set_cons_succ, List.set_cons_zero]
  refine wpList_callW eN22 [.tmp 11] _ rfl rfl [(.agg (rcells { r with hold := b } vc).toArray)] rfl ?_
  refine (apart_any { r with hold := b } vc w3 ((HF.out.1.later Rw3.out.below).hold _) HF.out.2).mono ?_
  rintro e w4 ⟨v1, rfl, b_, o_⟩
  refine ⟨_, rfl, ?_⟩
  have HO : Hid (POwn w4 w.heap.size v1 r.cp) := o_.weaken Rw3.out.below.size
  clear o_
  have Rw4 : Hid (Loc w w4 [(q1, 26, rcells { r with hold := b } vc), (q2, 26, rcells rz (.slice none 0 0))]) := Rw3.out.later b_
  clear Rw3 b_
  simp only [Act.put, List.setIfInBounds_toArray, List.set_cons_succ, List.set_cons_zero]
  obtain ⟨hst_, k_, hC_⟩ := Rw4.out.st26 1 rfl (Rok.nil).len (rcells { r with hold := b } v1) (((HF.out.1.rok.cp HO.out.isSl).hold _)).len (((HF.out.1.rok.cp HO.out.isSl).hold _)).one
  have hR_ := Rw4.out.at 1 rfl
  refine wlS rfl rfl _ (run_stV (.tmp 4) (.tmp 12) rfl q2 0 rfl _ rfl hst_) ?_
  obtain ⟨w5, hW_⟩ : ∃ U_ : World, U_ = w4.setRow q2 (rcells { r with hold := b } v1).toArray := ⟨_, rfl⟩
  rw [← hW_] at k_ hC_ ⊢
  clear hst_
  have HOx : Hid (POwn w5 w.heap.size v1 r.cp) := HO.out.off hR_ (by decide) hC_
  clear HO
  have HO := HOx
  clear HOx
  have Rw5 : Hid (Loc w w5 [(q1, 26, rcells { r with hold := b } vc), (q2, 26, rcells { r with hold := b } v1)]) := k_
  clear k_ hW_ Rw4
  clear hC_ hR_
  refine wl rfl (.int .i64 0) _ (run_asZ (.const (.int .i64 0)) rfl (.int .i64 0) rfl) ?_
  simp only [Act.put, List.setIfInBounds_toArray, List.set_cons_succ, List.set_cons_zero]
  refine wpList_nil ?_
  go_wp2_with fail
  rw [HPQ.out, HS.out]
  exact bodyPost_ret (results_cell_tmp ag26 Try.results9 _ _ q2 26 rfl (rcells { r with hold := b } v1) (((HF.out.1.rok.cp HO.out.isSl).hold _)).len (Rw5.out.at 1 rfl)) rfl ⟨v1, rfl, Rw5.out.below, HO.out⟩
end Go.Proofs.Ytobolkllplmmcab

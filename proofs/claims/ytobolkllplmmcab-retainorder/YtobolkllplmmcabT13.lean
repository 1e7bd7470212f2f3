/- The document's examples. -/
import Derived.Test.YtobolkllplmmcabT12
namespace Go.Proofs.Ytobolkllplmmcab
open Go.RowKit

/-- the document's example -/
def sh1 : Rc := ⟨⟨#[97]⟩, 0, List.replicate 32 0, 0, 50, false, false, [⟨2, 0, 3, false⟩]⟩
def sh60 : Rc := { sh1 with expiry := 60 }
def shD : Rc := { sh1 with gone := true, cp := [] }
def shb : Rc := ⟨⟨#[98]⟩, 0, List.replicate 32 0, 0, 40, false, false, []⟩
def sha : Rc := { sh1 with cp := [] }
def shc : Rc := ⟨⟨#[99]⟩, 0, List.replicate 32 0, 0, 0, false, false, []⟩
def shd : Rc := ⟨⟨#[100]⟩, 0, List.replicate 32 0, 0, 50, true, false, []⟩
theorem z32 : (∀ c ∈ List.replicate 32 0, c < 256) := by intro c hc; rw [List.eq_of_mem_replicate hc]; decide
theorem ok_sh {r : Rc} {v : Value} (h : r.root = List.replicate 32 0) (hv : ∃ p n c, v = .slice p n c) : Rok r v := ⟨by rw [h]; rfl, by rw [h]; exact z32, hv⟩
theorem nil_sl : ∃ p n c, Value.slice none 0 0 = .slice p n c := ⟨_, _, _, rfl⟩
def shL : List Rv := [⟨sha, .slice none 0 0⟩, ⟨shb, .slice none 0 0⟩, ⟨shc, .slice none 0 0⟩, ⟨shd, .slice none 0 0⟩]
theorem shL_ok : AllOk shL := by
  intro x hx
  simp only [shL, List.mem_cons, List.not_mem_nil, or_false] at hx
  rcases hx with rfl | rfl | rfl | rfl <;> exact ok_sh rfl nil_sl
theorem sh_due {out : List ByteArray} (h : IsDue 50 (shL.map (·.r)) out) : out = [⟨#[98]⟩, ⟨#[97]⟩] := by
  refine h.unique ⟨[(40, ⟨#[98]⟩), (50, ⟨#[97]⟩)], ?_, ?_, rfl⟩
  · show [((40 : Int), (⟨#[98]⟩ : ByteArray)), (50, ⟨#[97]⟩)].Perm [((50 : Int), (⟨#[97]⟩ : ByteArray)), (40, ⟨#[98]⟩)]
    exact List.Perm.swap _ _ _
  · refine List.Pairwise.cons (fun a ha => ?_) (List.pairwise_singleton _ _)
    rw [List.mem_singleton.1 ha]
    rintro (h | ⟨h, _⟩)
    · exact absurd h (by decide)
    · exact absurd h (by decide)
section
variable {w : World} {a : Act} {o : Oper}
theorem run_eqSS (x y : Operand) (ho : o.op = .binOp .eql 9 x y 9) (s : ByteArray) (hx : a.eval x = .string s) (hy : a.eval y = .string s) : (execOp a.eval o).run Try.prog w = .ok (.value (.bool true)) w := by
  simp only [execOp, ho, hx, hy]
  simp [go_sem]
theorem run_bldP (ho : o.op = .build 36 #[(0, .const (.int .i64 2)), (2, .const (.int .i64 3))]) : (execOp a.eval o).run Try.prog w = .ok (.value (.agg (pcells ⟨2, 0, 3, false⟩).toArray)) w := by
  have hr : (Instr.build 36 #[(0, .int .i64 2), (2, .int .i64 3)]).run Try.prog w = .ok (.agg (pcells ⟨2, 0, 3, false⟩).toArray) w := by kernel_rfl
  have e1 : a.eval (.const (.int .i64 2)) = .int .i64 2 := rfl
  have e2 : a.eval (.const (.int .i64 3)) = .int .i64 3 := rfl
  simp only [execOp, ho, List.map_toArray, List.map_cons, List.map_nil, e1, e2, hr, Sem.run_bind, Sem.run_pure, Result.andThen_ok]
theorem run_bldR (ps : List (Nat × Operand)) (vs : List (Nat × Value)) (ho : o.op = .build 26 ps.toArray) (hv : ps.map (fun x => (x.1, a.eval x.2)) = vs) (v : Value) (hr : (Instr.build 26 vs.toArray).run Try.prog w = .ok v w) : (execOp a.eval o).run Try.prog w = .ok (.value v) w := by
  subst hv
  simp only [execOp, ho, List.map_toArray, hr, Sem.run_bind, Sem.run_pure, Result.andThen_ok]
theorem run_lit4 (x0 x1 x2 x3 : Operand) (ho : o.op = .buildSlice 40 4 #[(0, x0), (1, x1), (2, x2), (3, x3)]) (h0 : a.eval x0 = .agg (rcells sha (.slice none 0 0)).toArray) (h1 : a.eval x1 = .agg (rcells shb (.slice none 0 0)).toArray) (h2 : a.eval x2 = .agg (rcells shc (.slice none 0 0)).toArray) (h3 : a.eval x3 = .agg (rcells shd (.slice none 0 0)).toArray) : (execOp a.eval o).run Try.prog w = .ok (.value (.slice (some ⟨w.heap.size, 0, none⟩) 4 4)) (w.alloc (.cells (rvs shL).toArray 26)) := by
  have hr : (Instr.buildSlice 40 4 #[(0, .agg (rcells sha (.slice none 0 0)).toArray), (1, .agg (rcells shb (.slice none 0 0)).toArray), (2, .agg (rcells shc (.slice none 0 0)).toArray), (3, .agg (rcells shd (.slice none 0 0)).toArray)]).run Try.prog w = .ok (.slice (some ⟨w.heap.size, 0, none⟩) 4 4) (w.alloc (.cells (rvs shL).toArray 26)) := run_litRs (w := w) shL shL_ok (by decide) (by decide)
  simp only [execOp, ho, List.map_toArray, List.map_cons, List.map_nil, h0, h1, h2, h3, hr, Sem.run_bind, Sem.run_pure, Result.andThen_ok]
end
theorem POwn.lit1 (w : World) (base : Nat) (p : Pc) (hb : base ≤ w.heap.size) : POwn (w.alloc (.cells (pcells p).toArray 36)) base (.slice (some ⟨w.heap.size, 0, none⟩) 1 1) [p] := by
  refine ⟨rfl, Or.inr ⟨w.heap.size, 1, (pcells p).toArray, rfl, hb, ?_, Nat.le_refl _, by decide, rfl, rfl⟩⟩
  show (w.heap.push _)[w.heap.size]? = _
  simp
theorem POwn.fit {w : World} {base : Nat} {v : Value} {r : Rc} (h : POwn w base v r.cp) (hk : Rok r v) (hl : r.cp.length ≤ 9223372036854775807) : Fits w r v := hk.fits (h.isIn hl)
theorem cell_later {w w' : World} {b i : Nat} {v : Value} (h : w.cell? ⟨b, i, none⟩ = some v) (hb : Below w.heap.size w w') : w'.cell? ⟨b, i, none⟩ = some v := by
  rw [← h]
  exact World.cell?_of_block (w := w) (hb.block b (block_lt_of_cell h))
set_option maxHeartbeats 4000000 in
set_option maxRecDepth 100000 in
theorem shown_any (w : World) : Calls Try.prog 4 #[] w fun e w' => e = .returned (.bool true) ∧ Below w.heap.size w w' := by
  obtain ⟨PQ, hPQ⟩ : ∃ PQ : Ending → World → Prop, PQ = fun (e : Ending) (w' : World) => e = .returned (.bool true) ∧ Below w.heap.size w w' := ⟨_, rfl⟩
  have HPQ : Hid (PQ = fun (e : Ending) (w' : World) => e = .returned (.bool true) ∧ Below w.heap.size w w') := hPQ
  rw [← hPQ]
  clear hPQ
  have R0 : Hid (Loc w w []) := Loc.nil (Below.refl _ w)
  go_enter Try.func4, Try.ntmps4
  go_upto_region 0 with fail
  refine wp_region_lit ?_
  refine wl rfl (.bool false) _ (run_asZ (.const (.bool false)) rfl (.bool false) rfl) ?_
  simp only [Act.put, List.setIfInBounds_toArray, List.set_cons_zero]
  refine wpList_nil ?_
  go_upto_region 1 with fail
  refine wp_region_lit ?_
  refine wl rfl (.agg (pcells ⟨2, 0, 3, false⟩).toArray) _ (run_bldP rfl) ?_
  simp only [Act.put, List.setIfInBounds_toArray, List.set_cons_succ, List.set_cons_zero]
  refine wl rfl (.slice (some ⟨w.heap.size, 0, none⟩) 1 1) _ (run_litPl (.tmp 15) rfl ⟨2, 0, 3, false⟩ rfl) ?_
  have k_ := R0.out.later (below_alloc w (.cells (pcells ⟨2, 0, 3, false⟩).toArray 36))
  have o_ := POwn.lit1 w w.heap.size ⟨2, 0, 3, false⟩ (Nat.le_refl _)
  obtain ⟨w1, hW_⟩ : ∃ W, W = w.alloc (.cells (pcells ⟨2, 0, 3, false⟩).toArray 36) := ⟨_, rfl⟩
  obtain ⟨g0, hq_⟩ : ∃ q, q = w.heap.size := ⟨_, rfl⟩
  rw [← hW_] at k_ o_ ⊢
  have HG0 : Hid (g0 = w.heap.size) := hq_
  rw [show (⟨w.heap.size, 0, none⟩ : Addr) = ⟨g0, 0, none⟩ by rw [HG0.out]] at o_ ⊢
  have HA : Hid (POwn w1 w.heap.size (.slice (some ⟨g0, 0, none⟩) 1 1) [⟨2, 0, 3, false⟩]) := o_
  have R1 : Hid (Loc w w1 []) := k_
  clear k_ o_ hW_ hq_ HG0 R0
  simp only [Act.put, List.setIfInBounds_toArray, List.set_cons_succ, List.set_cons_zero]
  refine wl rfl (.agg (rcells sh1 (.slice (some ⟨g0, 0, none⟩) 1 1)).toArray) _ (run_bldR [(0, .const (.string ⟨#[97]⟩)), (4, .const (.int .i64 50)), (7, .tmp 16)] [(0, .string ⟨#[97]⟩), (4, .int .i64 50), (7, (.slice (some ⟨g0, 0, none⟩) 1 1))] rfl rfl _ (by kernel_rfl)) ?_
  simp only [Act.put, List.setIfInBounds_toArray, List.set_cons_succ, List.set_cons_zero]
  refine wl rfl (ptr w1.heap.size) _ (run_allocA (rcells rz (.slice none 0 0)) zero26 rfl) ?_
  have k_ := R1.out.box 26 (rcells rz (.slice none 0 0))
  have hB_ := below_alloc w1 (.cells (rcells rz (.slice none 0 0)).toArray 26)
  obtain ⟨w2, hW_⟩ : ∃ U_ : World, U_ = w1.alloc (.cells (rcells rz (.slice none 0 0)).toArray 26) := ⟨_, rfl⟩
  obtain ⟨q1, hq_⟩ : ∃ q, q = w1.heap.size := ⟨_, rfl⟩
  rw [← hW_, ← hq_] at k_
  rw [← hW_] at hB_
  rw [← hW_, ← hq_]
  clear hq_
  have HAx : Hid (POwn w2 w.heap.size (.slice (some ⟨g0, 0, none⟩) 1 1) [⟨2, 0, 3, false⟩]) := HA.out.later hB_
  clear HA
  have HA := HAx
  clear HAx
  have Rw2 : Hid (Loc w w2 [(q1, 26, rcells rz (.slice none 0 0))]) := k_
  clear k_ hW_ R1
  clear hB_
  simp only [Act.put, List.setIfInBounds_toArray, List.set_cons_succ, List.set_cons_zero]
  obtain ⟨hst_, k_, hC_⟩ := Rw2.out.st26 0 rfl (Rok.nil).len (rcells sh1 (.slice (some ⟨g0, 0, none⟩) 1 1)) ((ok_sh (r := sh1) (v := (.slice (some ⟨g0, 0, none⟩) 1 1)) rfl ⟨_, _, _, rfl⟩)).len ((ok_sh (r := sh1) (v := (.slice (some ⟨g0, 0, none⟩) 1 1)) rfl ⟨_, _, _, rfl⟩)).one
  have hR_ := Rw2.out.at 0 rfl
  refine wlS rfl rfl _ (run_stV (.tmp 1) (.tmp 17) rfl q1 0 rfl _ rfl hst_) ?_
  obtain ⟨w3, hW_⟩ : ∃ U_ : World, U_ = w2.setRow q1 (rcells sh1 (.slice (some ⟨g0, 0, none⟩) 1 1)).toArray := ⟨_, rfl⟩
  rw [← hW_] at k_ hC_ ⊢
  clear hst_
  have HAx : Hid (POwn w3 w.heap.size (.slice (some ⟨g0, 0, none⟩) 1 1) [⟨2, 0, 3, false⟩]) := HA.out.off hR_ (by decide) hC_
  clear HA
  have HA := HAx
  clear HAx
  have Rw3 : Hid (Loc w w3 [(q1, 26, rcells sh1 (.slice (some ⟨g0, 0, none⟩) 1 1))]) := k_
  clear k_ hW_ Rw2
  clear hC_ hR_
  refine wpList_nil ?_
  go_upto_region 2 with fail
  refine wp_region_lit ?_
  refine wl rfl (.agg (rcells sh1 (.slice (some ⟨g0, 0, none⟩) 1 1)).toArray) _ (run_loadA ag26 (.tmp 1) rfl q1 (0) rfl (rcells sh1 (.slice (some ⟨g0, 0, none⟩) 1 1)) ((ok_sh (r := sh1) (v := (.slice (some ⟨g0, 0, none⟩) 1 1)) rfl ⟨_, _, _, rfl⟩)).len (Rw3.out.rows 0 rfl)) ?_
  simp only [Act.put, List.setIfInBounds_toArray, List.set_cons_succ, List.set_cons_zero]
  refine wpList_callW eN11 [.tmp 19, .const (.int .i64 40)] _ rfl rfl [(.agg (rcells sh1 (.slice (some ⟨g0, 0, none⟩) 1 1)).toArray), (.int .i64 40)] rfl ?_
  refine (lock_any sh1 (.slice (some ⟨g0, 0, none⟩) 1 1) 40 w3 (HA.out.fit (ok_sh (r := sh1) (v := (.slice (some ⟨g0, 0, none⟩) 1 1)) rfl ⟨_, _, _, rfl⟩) (by decide)) (by decide)).mono ?_
  rintro e w4 ⟨va, rfl, b_, o_⟩
  refine ⟨_, rfl, ?_⟩
  have HAx : Hid (POwn w4 w.heap.size (.slice (some ⟨g0, 0, none⟩) 1 1) [⟨2, 0, 3, false⟩]) := HA.out.later b_
  clear HA
  have HA := HAx
  clear HAx
  have HN : Hid (POwn w4 w.heap.size va sh1.cp) := o_.weaken Rw3.out.below.size
  clear o_
  have Rw4 : Hid (Loc w w4 [(q1, 26, rcells sh1 (.slice (some ⟨g0, 0, none⟩) 1 1))]) := Rw3.out.later b_
  clear Rw3 b_
  rw [show lockS sh1 40 = (sh1, 0) by rfl]
  simp only [Act.put, List.setIfInBounds_toArray, List.set_cons_succ, List.set_cons_zero]
  refine wl rfl (.tuple #[.agg (rcells sh1 va).toArray, .int .i64 0]) _ (run_mvZ (.tmp 20) rfl (.tuple #[.agg (rcells sh1 va).toArray, .int .i64 0]) rfl) ?_
  simp only [Act.put, List.setIfInBounds_toArray, List.set_cons_succ, List.set_cons_zero]
  refine wl rfl (.agg (rcells sh1 va).toArray) _ (run_extZ (.tmp 18) 0 rfl #[(.agg (rcells sh1 va).toArray), (.int .i64 0)] rfl (.agg (rcells sh1 va).toArray) rfl) ?_
  simp only [Act.put, List.setIfInBounds_toArray, List.set_cons_succ, List.set_cons_zero]
  refine wl rfl (.int .i64 0) _ (run_extZ (.tmp 18) 1 rfl #[(.agg (rcells sh1 va).toArray), (.int .i64 0)] rfl (.int .i64 0) rfl) ?_
  simp only [Act.put, List.setIfInBounds_toArray, List.set_cons_succ, List.set_cons_zero]
  refine wl rfl (ptr w4.heap.size) _ (run_allocA (rcells rz (.slice none 0 0)) zero26 rfl) ?_
  have k_ := Rw4.out.box 26 (rcells rz (.slice none 0 0))
  have hB_ := below_alloc w4 (.cells (rcells rz (.slice none 0 0)).toArray 26)
  obtain ⟨w5, hW_⟩ : ∃ U_ : World, U_ = w4.alloc (.cells (rcells rz (.slice none 0 0)).toArray 26) := ⟨_, rfl⟩
  obtain ⟨q2, hq_⟩ : ∃ q, q = w4.heap.size := ⟨_, rfl⟩
  rw [← hW_, ← hq_] at k_
  rw [← hW_] at hB_
  rw [← hW_, ← hq_]
  clear hq_
  have HAx : Hid (POwn w5 w.heap.size (.slice (some ⟨g0, 0, none⟩) 1 1) [⟨2, 0, 3, false⟩]) := HA.out.later hB_
  clear HA
  have HA := HAx
  clear HAx
  have HNx : Hid (POwn w5 w.heap.size va sh1.cp) := HN.out.later hB_
  clear HN
  have HN := HNx
  clear HNx
  have Rw5 : Hid (Loc w w5 [(q1, 26, rcells sh1 (.slice (some ⟨g0, 0, none⟩) 1 1)), (q2, 26, rcells rz (.slice none 0 0))]) := k_
  clear k_ hW_ Rw4
  clear hB_
  simp only [Act.put, List.setIfInBounds_toArray, List.set_cons_succ, List.set_cons_zero]
  obtain ⟨hst_, k_, hC_⟩ := Rw5.out.st26 1 rfl (Rok.nil).len (rcells sh1 va) ((ok_sh (r := sh1) (v := va) rfl HN.out.isSl)).len ((ok_sh (r := sh1) (v := va) rfl HN.out.isSl)).one
  have hR_ := Rw5.out.at 1 rfl
  refine wlS rfl rfl _ (run_stV (.tmp 2) (.tmp 21) rfl q2 0 rfl _ rfl hst_) ?_
  obtain ⟨w6, hW_⟩ : ∃ U_ : World, U_ = w5.setRow q2 (rcells sh1 va).toArray := ⟨_, rfl⟩
  rw [← hW_] at k_ hC_ ⊢
  clear hst_
  have HAx : Hid (POwn w6 w.heap.size (.slice (some ⟨g0, 0, none⟩) 1 1) [⟨2, 0, 3, false⟩]) := HA.out.off hR_ (by decide) hC_
  clear HA
  have HA := HAx
  clear HAx
  have HNx : Hid (POwn w6 w.heap.size va sh1.cp) := HN.out.off hR_ (by decide) hC_
  clear HN
  have HN := HNx
  clear HNx
  have Rw6 : Hid (Loc w w6 [(q1, 26, rcells sh1 (.slice (some ⟨g0, 0, none⟩) 1 1)), (q2, 26, rcells sh1 va)]) := k_
  clear k_ hW_ Rw5
  clear hC_ hR_
  refine wl rfl (.int .i64 0) _ (run_asZ (.tmp 22) rfl (.int .i64 0) rfl) ?_
  simp only [Act.put, List.setIfInBounds_toArray, List.set_cons_succ, List.set_cons_zero]
  refine wpList_nil ?_
  have H2 : Hid (POwn w6 w.heap.size va sh1.cp) := HN.out
  clear HN
  go_upto_region 3 with fail
  refine wp_region_lit ?_
  refine wl rfl (.agg (rcells sh1 (.slice (some ⟨g0, 0, none⟩) 1 1)).toArray) _ (run_loadA ag26 (.tmp 1) rfl q1 (0) rfl (rcells sh1 (.slice (some ⟨g0, 0, none⟩) 1 1)) ((ok_sh (r := sh1) (v := (.slice (some ⟨g0, 0, none⟩) 1 1)) rfl ⟨_, _, _, rfl⟩)).len (Rw6.out.rows 0 rfl)) ?_
  simp only [Act.put, List.setIfInBounds_toArray, List.set_cons_succ, List.set_cons_zero]
  refine wpList_callW eN11 [.tmp 24, .const (.int .i64 60)] _ rfl rfl [(.agg (rcells sh1 (.slice (some ⟨g0, 0, none⟩) 1 1)).toArray), (.int .i64 60)] rfl ?_
  refine (lock_any sh1 (.slice (some ⟨g0, 0, none⟩) 1 1) 60 w6 (HA.out.fit (ok_sh (r := sh1) (v := (.slice (some ⟨g0, 0, none⟩) 1 1)) rfl ⟨_, _, _, rfl⟩) (by decide)) (by decide)).mono ?_
  rintro e w7 ⟨vb, rfl, b_, o_⟩
  refine ⟨_, rfl, ?_⟩
  have HAx : Hid (POwn w7 w.heap.size (.slice (some ⟨g0, 0, none⟩) 1 1) [⟨2, 0, 3, false⟩]) := HA.out.later b_
  clear HA
  have HA := HAx
  clear HAx
  have H2x : Hid (POwn w7 w.heap.size va sh1.cp) := H2.out.later b_
  clear H2
  have H2 := H2x
  clear H2x
  have HN : Hid (POwn w7 w.heap.size vb sh60.cp) := o_.weaken Rw6.out.below.size
  clear o_
  have Rw7 : Hid (Loc w w7 [(q1, 26, rcells sh1 (.slice (some ⟨g0, 0, none⟩) 1 1)), (q2, 26, rcells sh1 va)]) := Rw6.out.later b_
  clear Rw6 b_
  rw [show lockS sh1 60 = (sh60, 0) by rfl]
  simp only [Act.put, List.setIfInBounds_toArray, List.set_cons_succ, List.set_cons_zero]
  refine wl rfl (.tuple #[.agg (rcells sh60 vb).toArray, .int .i64 0]) _ (run_mvZ (.tmp 25) rfl (.tuple #[.agg (rcells sh60 vb).toArray, .int .i64 0]) rfl) ?_
  simp only [Act.put, List.setIfInBounds_toArray, List.set_cons_succ, List.set_cons_zero]
  refine wl rfl (.agg (rcells sh60 vb).toArray) _ (run_extZ (.tmp 23) 0 rfl #[(.agg (rcells sh60 vb).toArray), (.int .i64 0)] rfl (.agg (rcells sh60 vb).toArray) rfl) ?_
  simp only [Act.put, List.setIfInBounds_toArray, List.set_cons_succ, List.set_cons_zero]
  refine wl rfl (.int .i64 0) _ (run_extZ (.tmp 23) 1 rfl #[(.agg (rcells sh60 vb).toArray), (.int .i64 0)] rfl (.int .i64 0) rfl) ?_
  simp only [Act.put, List.setIfInBounds_toArray, List.set_cons_succ, List.set_cons_zero]
  refine wl rfl (ptr w7.heap.size) _ (run_allocA (rcells rz (.slice none 0 0)) zero26 rfl) ?_
  have k_ := Rw7.out.box 26 (rcells rz (.slice none 0 0))
  have hB_ := below_alloc w7 (.cells (rcells rz (.slice none 0 0)).toArray 26)
  obtain ⟨w8, hW_⟩ : ∃ U_ : World, U_ = w7.alloc (.cells (rcells rz (.slice none 0 0)).toArray 26) := ⟨_, rfl⟩
  obtain ⟨q4, hq_⟩ : ∃ q, q = w7.heap.size := ⟨_, rfl⟩
  rw [← hW_, ← hq_] at k_
  rw [← hW_] at hB_
  rw [← hW_, ← hq_]
  clear hq_
  have HAx : Hid (POwn w8 w.heap.size (.slice (some ⟨g0, 0, none⟩) 1 1) [⟨2, 0, 3, false⟩]) := HA.out.later hB_
  clear HA
  have HA := HAx
  clear HAx
  have H2x : Hid (POwn w8 w.heap.size va sh1.cp) := H2.out.later hB_
  clear H2
  have H2 := H2x
  clear H2x
  have HNx : Hid (POwn w8 w.heap.size vb sh60.cp) := HN.out.later hB_
  clear HN
  have HN := HNx
  clear HNx
  have Rw8 : Hid (Loc w w8 [(q1, 26, rcells sh1 (.slice (some ⟨g0, 0, none⟩) 1 1)), (q2, 26, rcells sh1 va), (q4, 26, rcells rz (.slice none 0 0))]) := k_
  clear k_ hW_ Rw7
  clear hB_
  simp only [Act.put, List.setIfInBounds_toArray, List.set_cons_succ, List.set_cons_zero]
  obtain ⟨hst_, k_, hC_⟩ := Rw8.out.st26 2 rfl (Rok.nil).len (rcells sh60 vb) ((ok_sh (r := sh60) (v := vb) rfl HN.out.isSl)).len ((ok_sh (r := sh60) (v := vb) rfl HN.out.isSl)).one
  have hR_ := Rw8.out.at 2 rfl
  refine wlS rfl rfl _ (run_stV (.tmp 4) (.tmp 26) rfl q4 0 rfl _ rfl hst_) ?_
  obtain ⟨w9, hW_⟩ : ∃ U_ : World, U_ = w8.setRow q4 (rcells sh60 vb).toArray := ⟨_, rfl⟩
  rw [← hW_] at k_ hC_ ⊢
  clear hst_
  have HAx : Hid (POwn w9 w.heap.size (.slice (some ⟨g0, 0, none⟩) 1 1) [⟨2, 0, 3, false⟩]) := HA.out.off hR_ (by decide) hC_
  clear HA
  have HA := HAx
  clear HAx
  have H2x : Hid (POwn w9 w.heap.size va sh1.cp) := H2.out.off hR_ (by decide) hC_
  clear H2
  have H2 := H2x
  clear H2x
  have HNx : Hid (POwn w9 w.heap.size vb sh60.cp) := HN.out.off hR_ (by decide) hC_
  clear HN
  have HN := HNx
  clear HNx
  have Rw9 : Hid (Loc w w9 [(q1, 26, rcells sh1 (.slice (some ⟨g0, 0, none⟩) 1 1)), (q2, 26, rcells sh1 va), (q4, 26, rcells sh60 vb)]) := k_
  clear k_ hW_ Rw8
  clear hC_ hR_
  refine wl rfl (.int .i64 0) _ (run_asZ (.tmp 27) rfl (.int .i64 0) rfl) ?_
  simp only [Act.put, List.setIfInBounds_toArray, List.set_cons_succ, List.set_cons_zero]
  refine wpList_nil ?_
  have Sq4 : Hid (∃ p n c, vb = .slice p n c) := HN.out.isSl
  clear HN
  go_upto_region 4 with fail
  refine wp_region_lit ?_
  refine wl rfl (.agg (rcells sh1 (.slice (some ⟨g0, 0, none⟩) 1 1)).toArray) _ (run_loadA ag26 (.tmp 1) rfl q1 (0) rfl (rcells sh1 (.slice (some ⟨g0, 0, none⟩) 1 1)) ((ok_sh (r := sh1) (v := (.slice (some ⟨g0, 0, none⟩) 1 1)) rfl ⟨_, _, _, rfl⟩)).len (Rw9.out.rows 0 rfl)) ?_
  simp only [Act.put, List.setIfInBounds_toArray, List.set_cons_succ, List.set_cons_zero]
  refine wpList_callW eN11 [.tmp 29, .const (.int .i64 (-1))] _ rfl rfl [(.agg (rcells sh1 (.slice (some ⟨g0, 0, none⟩) 1 1)).toArray), (.int .i64 (-1))] rfl ?_
  refine (lock_any sh1 (.slice (some ⟨g0, 0, none⟩) 1 1) (-1) w9 (HA.out.fit (ok_sh (r := sh1) (v := (.slice (some ⟨g0, 0, none⟩) 1 1)) rfl ⟨_, _, _, rfl⟩) (by decide)) (by decide)).mono ?_
  rintro e w10 ⟨vc, rfl, b_, o_⟩
  refine ⟨_, rfl, ?_⟩
  have HAx : Hid (POwn w10 w.heap.size (.slice (some ⟨g0, 0, none⟩) 1 1) [⟨2, 0, 3, false⟩]) := HA.out.later b_
  clear HA
  have HA := HAx
  clear HAx
  have H2x : Hid (POwn w10 w.heap.size va sh1.cp) := H2.out.later b_
  clear H2
  have H2 := H2x
  clear H2x
  have HN : Hid (POwn w10 w.heap.size vc rz.cp) := o_.weaken Rw9.out.below.size
  clear o_
  have Rw10 : Hid (Loc w w10 [(q1, 26, rcells sh1 (.slice (some ⟨g0, 0, none⟩) 1 1)), (q2, 26, rcells sh1 va), (q4, 26, rcells sh60 vb)]) := Rw9.out.later b_
  clear Rw9 b_
  rw [show lockS sh1 (-1) = (rz, 1) by rfl]
  simp only [Act.put, List.setIfInBounds_toArray, List.set_cons_succ, List.set_cons_zero]
  refine wl rfl (.tuple #[.agg (rcells rz vc).toArray, .int .i64 1]) _ (run_mvZ (.tmp 30) rfl (.tuple #[.agg (rcells rz vc).toArray, .int .i64 1]) rfl) ?_
  simp only [Act.put, List.setIfInBounds_toArray, List.set_cons_succ, List.set_cons_zero]
  refine wl rfl (.agg (rcells rz vc).toArray) _ (run_extZ (.tmp 28) 0 rfl #[(.agg (rcells rz vc).toArray), (.int .i64 1)] rfl (.agg (rcells rz vc).toArray) rfl) ?_
  simp only [Act.put, List.setIfInBounds_toArray, List.set_cons_succ, List.set_cons_zero]
  refine wl rfl (.int .i64 1) _ (run_extZ (.tmp 28) 1 rfl #[(.agg (rcells rz vc).toArray), (.int .i64 1)] rfl (.int .i64 1) rfl) ?_
  simp only [Act.put, List.setIfInBounds_toArray, List.set_cons_succ, List.set_cons_zero]
  refine wl rfl (ptr w10.heap.size) _ (run_allocA (rcells rz (.slice none 0 0)) zero26 rfl) ?_
  have k_ := Rw10.out.box 26 (rcells rz (.slice none 0 0))
  have hB_ := below_alloc w10 (.cells (rcells rz (.slice none 0 0)).toArray 26)
  obtain ⟨w11, hW_⟩ : ∃ U_ : World, U_ = w10.alloc (.cells (rcells rz (.slice none 0 0)).toArray 26) := ⟨_, rfl⟩
  obtain ⟨q6, hq_⟩ : ∃ q, q = w10.heap.size := ⟨_, rfl⟩
  rw [← hW_, ← hq_] at k_
  rw [← hW_] at hB_
  rw [← hW_, ← hq_]
  clear hq_
  have HAx : Hid (POwn w11 w.heap.size (.slice (some ⟨g0, 0, none⟩) 1 1) [⟨2, 0, 3, false⟩]) := HA.out.later hB_
  clear HA
  have HA := HAx
  clear HAx
  have H2x : Hid (POwn w11 w.heap.size va sh1.cp) := H2.out.later hB_
  clear H2
  have H2 := H2x
  clear H2x
  have HNx : Hid (POwn w11 w.heap.size vc rz.cp) := HN.out.later hB_
  clear HN
  have HN := HNx
  clear HNx
  have Rw11 : Hid (Loc w w11 [(q1, 26, rcells sh1 (.slice (some ⟨g0, 0, none⟩) 1 1)), (q2, 26, rcells sh1 va), (q4, 26, rcells sh60 vb), (q6, 26, rcells rz (.slice none 0 0))]) := k_
  clear k_ hW_ Rw10
  clear hB_
  simp only [Act.put, List.setIfInBounds_toArray, List.set_cons_succ, List.set_cons_zero]
  obtain ⟨hst_, k_, hC_⟩ := Rw11.out.st26 3 rfl (Rok.nil).len (rcells rz vc) ((ok_sh (r := rz) (v := vc) rfl HN.out.isSl)).len ((ok_sh (r := rz) (v := vc) rfl HN.out.isSl)).one
  have hR_ := Rw11.out.at 3 rfl
  refine wlS rfl rfl _ (run_stV (.tmp 6) (.tmp 31) rfl q6 0 rfl _ rfl hst_) ?_
  obtain ⟨w12, hW_⟩ : ∃ U_ : World, U_ = w11.setRow q6 (rcells rz vc).toArray := ⟨_, rfl⟩
  rw [← hW_] at k_ hC_ ⊢
  clear hst_
  have HAx : Hid (POwn w12 w.heap.size (.slice (some ⟨g0, 0, none⟩) 1 1) [⟨2, 0, 3, false⟩]) := HA.out.off hR_ (by decide) hC_
  clear HA
  have HA := HAx
  clear HAx
  have H2x : Hid (POwn w12 w.heap.size va sh1.cp) := H2.out.off hR_ (by decide) hC_
  clear H2
  have H2 := H2x
  clear H2x
  have HNx : Hid (POwn w12 w.heap.size vc rz.cp) := HN.out.off hR_ (by decide) hC_
  clear HN
  have HN := HNx
  clear HNx
  have Rw12 : Hid (Loc w w12 [(q1, 26, rcells sh1 (.slice (some ⟨g0, 0, none⟩) 1 1)), (q2, 26, rcells sh1 va), (q4, 26, rcells sh60 vb), (q6, 26, rcells rz vc)]) := k_
  clear k_ hW_ Rw11
  clear hC_ hR_
  refine wl rfl (.int .i64 1) _ (run_asZ (.tmp 32) rfl (.int .i64 1) rfl) ?_
  simp only [Act.put, List.setIfInBounds_toArray, List.set_cons_succ, List.set_cons_zero]
  refine wpList_nil ?_
  have Sq6 : Hid (∃ p n c, vc = .slice p n c) := HN.out.isSl
  clear HN
  go_upto_region 5 with fail
  refine wp_region_lit ?_
  refine wl rfl (.agg (rcells sh1 (.slice (some ⟨g0, 0, none⟩) 1 1)).toArray) _ (run_loadA ag26 (.tmp 1) rfl q1 (0) rfl (rcells sh1 (.slice (some ⟨g0, 0, none⟩) 1 1)) ((ok_sh (r := sh1) (v := (.slice (some ⟨g0, 0, none⟩) 1 1)) rfl ⟨_, _, _, rfl⟩)).len (Rw12.out.rows 0 rfl)) ?_
  simp only [Act.put, List.setIfInBounds_toArray, List.set_cons_succ, List.set_cons_zero]
  refine wpList_callW eN17 [.tmp 34, .const (.int .i64 49)] _ rfl rfl [(.agg (rcells sh1 (.slice (some ⟨g0, 0, none⟩) 1 1)).toArray), (.int .i64 49)] rfl ?_
  refine (delete_any sh1 (.slice (some ⟨g0, 0, none⟩) 1 1) 49 w12 (HA.out.fit (ok_sh (r := sh1) (v := (.slice (some ⟨g0, 0, none⟩) 1 1)) rfl ⟨_, _, _, rfl⟩) (by decide)) (by decide)).mono ?_
  rintro e w13 ⟨vd, rfl, b_, o_⟩
  refine ⟨_, rfl, ?_⟩
  have HAx : Hid (POwn w13 w.heap.size (.slice (some ⟨g0, 0, none⟩) 1 1) [⟨2, 0, 3, false⟩]) := HA.out.later b_
  clear HA
  have HA := HAx
  clear HAx
  have H2x : Hid (POwn w13 w.heap.size va sh1.cp) := H2.out.later b_
  clear H2
  have H2 := H2x
  clear H2x
  have HN : Hid (POwn w13 w.heap.size vd rz.cp) := o_.weaken Rw12.out.below.size
  clear o_
  have Rw13 : Hid (Loc w w13 [(q1, 26, rcells sh1 (.slice (some ⟨g0, 0, none⟩) 1 1)), (q2, 26, rcells sh1 va), (q4, 26, rcells sh60 vb), (q6, 26, rcells rz vc)]) := Rw12.out.later b_
  clear Rw12 b_
  rw [show delS sh1 49 = (rz, 214) by rfl]
  simp only [Act.put, List.setIfInBounds_toArray, List.set_cons_succ, List.set_cons_zero]
  refine wl rfl (.tuple #[.agg (rcells rz vd).toArray, .int .i64 214]) _ (run_mvZ (.tmp 35) rfl (.tuple #[.agg (rcells rz vd).toArray, .int .i64 214]) rfl) ?_
  simp only [Act.put, List.setIfInBounds_toArray, List.set_cons_succ, List.set_cons_zero]
  refine wl rfl (.agg (rcells rz vd).toArray) _ (run_extZ (.tmp 33) 0 rfl #[(.agg (rcells rz vd).toArray), (.int .i64 214)] rfl (.agg (rcells rz vd).toArray) rfl) ?_
  simp only [Act.put, List.setIfInBounds_toArray, List.set_cons_succ, List.set_cons_zero]
  refine wl rfl (.int .i64 214) _ (run_extZ (.tmp 33) 1 rfl #[(.agg (rcells rz vd).toArray), (.int .i64 214)] rfl (.int .i64 214) rfl) ?_
  simp only [Act.put, List.setIfInBounds_toArray, List.set_cons_succ, List.set_cons_zero]
  refine wl rfl (ptr w13.heap.size) _ (run_allocA (rcells rz (.slice none 0 0)) zero26 rfl) ?_
  have k_ := Rw13.out.box 26 (rcells rz (.slice none 0 0))
  have hB_ := below_alloc w13 (.cells (rcells rz (.slice none 0 0)).toArray 26)
  obtain ⟨w14, hW_⟩ : ∃ U_ : World, U_ = w13.alloc (.cells (rcells rz (.slice none 0 0)).toArray 26) := ⟨_, rfl⟩
  obtain ⟨q8, hq_⟩ : ∃ q, q = w13.heap.size := ⟨_, rfl⟩
  rw [← hW_, ← hq_] at k_
  rw [← hW_] at hB_
  rw [← hW_, ← hq_]
  clear hq_
  have HAx : Hid (POwn w14 w.heap.size (.slice (some ⟨g0, 0, none⟩) 1 1) [⟨2, 0, 3, false⟩]) := HA.out.later hB_
  clear HA
  have HA := HAx
  clear HAx
  have H2x : Hid (POwn w14 w.heap.size va sh1.cp) := H2.out.later hB_
  clear H2
  have H2 := H2x
  clear H2x
  have HNx : Hid (POwn w14 w.heap.size vd rz.cp) := HN.out.later hB_
  clear HN
  have HN := HNx
  clear HNx
  have Rw14 : Hid (Loc w w14 [(q1, 26, rcells sh1 (.slice (some ⟨g0, 0, none⟩) 1 1)), (q2, 26, rcells sh1 va), (q4, 26, rcells sh60 vb), (q6, 26, rcells rz vc), (q8, 26, rcells rz (.slice none 0 0))]) := k_
  clear k_ hW_ Rw13
  clear hB_
  simp only [Act.put, List.setIfInBounds_toArray, List.set_cons_succ, List.set_cons_zero]
  obtain ⟨hst_, k_, hC_⟩ := Rw14.out.st26 4 rfl (Rok.nil).len (rcells rz vd) ((ok_sh (r := rz) (v := vd) rfl HN.out.isSl)).len ((ok_sh (r := rz) (v := vd) rfl HN.out.isSl)).one
  have hR_ := Rw14.out.at 4 rfl
  refine wlS rfl rfl _ (run_stV (.tmp 8) (.tmp 36) rfl q8 0 rfl _ rfl hst_) ?_
  obtain ⟨w15, hW_⟩ : ∃ U_ : World, U_ = w14.setRow q8 (rcells rz vd).toArray := ⟨_, rfl⟩
  rw [← hW_] at k_ hC_ ⊢
  clear hst_
  have HAx : Hid (POwn w15 w.heap.size (.slice (some ⟨g0, 0, none⟩) 1 1) [⟨2, 0, 3, false⟩]) := HA.out.off hR_ (by decide) hC_
  clear HA
  have HA := HAx
  clear HAx
  have H2x : Hid (POwn w15 w.heap.size va sh1.cp) := H2.out.off hR_ (by decide) hC_
  clear H2
  have H2 := H2x
  clear H2x
  have HNx : Hid (POwn w15 w.heap.size vd rz.cp) := HN.out.off hR_ (by decide) hC_
  clear HN
  have HN := HNx
  clear HNx
  have Rw15 : Hid (Loc w w15 [(q1, 26, rcells sh1 (.slice (some ⟨g0, 0, none⟩) 1 1)), (q2, 26, rcells sh1 va), (q4, 26, rcells sh60 vb), (q6, 26, rcells rz vc), (q8, 26, rcells rz vd)]) := k_
  clear k_ hW_ Rw14
  clear hC_ hR_
  refine wl rfl (.int .i64 214) _ (run_asZ (.tmp 37) rfl (.int .i64 214) rfl) ?_
  simp only [Act.put, List.setIfInBounds_toArray, List.set_cons_succ, List.set_cons_zero]
  refine wpList_nil ?_
  have Sq8 : Hid (∃ p n c, vd = .slice p n c) := HN.out.isSl
  clear HN
  go_upto_region 6 with fail
  refine wp_region_lit ?_
  refine wl rfl (.agg (rcells sh1 (.slice (some ⟨g0, 0, none⟩) 1 1)).toArray) _ (run_loadA ag26 (.tmp 1) rfl q1 (0) rfl (rcells sh1 (.slice (some ⟨g0, 0, none⟩) 1 1)) ((ok_sh (r := sh1) (v := (.slice (some ⟨g0, 0, none⟩) 1 1)) rfl ⟨_, _, _, rfl⟩)).len (Rw15.out.rows 0 rfl)) ?_
  simp only [Act.put, List.setIfInBounds_toArray, List.set_cons_succ, List.set_cons_zero]
  refine wpList_callW eN17 [.tmp 39, .const (.int .i64 50)] _ rfl rfl [(.agg (rcells sh1 (.slice (some ⟨g0, 0, none⟩) 1 1)).toArray), (.int .i64 50)] rfl ?_
  refine (delete_any sh1 (.slice (some ⟨g0, 0, none⟩) 1 1) 50 w15 (HA.out.fit (ok_sh (r := sh1) (v := (.slice (some ⟨g0, 0, none⟩) 1 1)) rfl ⟨_, _, _, rfl⟩) (by decide)) (by decide)).mono ?_
  rintro e w16 ⟨ve, rfl, b_, o_⟩
  refine ⟨_, rfl, ?_⟩
  have HAx : Hid (POwn w16 w.heap.size (.slice (some ⟨g0, 0, none⟩) 1 1) [⟨2, 0, 3, false⟩]) := HA.out.later b_
  clear HA
  have HA := HAx
  clear HAx
  have H2x : Hid (POwn w16 w.heap.size va sh1.cp) := H2.out.later b_
  clear H2
  have H2 := H2x
  clear H2x
  have HN : Hid (POwn w16 w.heap.size ve shD.cp) := o_.weaken Rw15.out.below.size
  clear o_
  have Rw16 : Hid (Loc w w16 [(q1, 26, rcells sh1 (.slice (some ⟨g0, 0, none⟩) 1 1)), (q2, 26, rcells sh1 va), (q4, 26, rcells sh60 vb), (q6, 26, rcells rz vc), (q8, 26, rcells rz vd)]) := Rw15.out.later b_
  clear Rw15 b_
  rw [show delS sh1 50 = (shD, 0) by rfl]
  simp only [Act.put, List.setIfInBounds_toArray, List.set_cons_succ, List.set_cons_zero]
  refine wl rfl (.tuple #[.agg (rcells shD ve).toArray, .int .i64 0]) _ (run_mvZ (.tmp 40) rfl (.tuple #[.agg (rcells shD ve).toArray, .int .i64 0]) rfl) ?_
  simp only [Act.put, List.setIfInBounds_toArray, List.set_cons_succ, List.set_cons_zero]
  refine wl rfl (.agg (rcells shD ve).toArray) _ (run_extZ (.tmp 38) 0 rfl #[(.agg (rcells shD ve).toArray), (.int .i64 0)] rfl (.agg (rcells shD ve).toArray) rfl) ?_
  simp only [Act.put, List.setIfInBounds_toArray, List.set_cons_succ, List.set_cons_zero]
  refine wl rfl (.int .i64 0) _ (run_extZ (.tmp 38) 1 rfl #[(.agg (rcells shD ve).toArray), (.int .i64 0)] rfl (.int .i64 0) rfl) ?_
  simp only [Act.put, List.setIfInBounds_toArray, List.set_cons_succ, List.set_cons_zero]
  refine wl rfl (ptr w16.heap.size) _ (run_allocA (rcells rz (.slice none 0 0)) zero26 rfl) ?_
  have k_ := Rw16.out.box 26 (rcells rz (.slice none 0 0))
  have hB_ := below_alloc w16 (.cells (rcells rz (.slice none 0 0)).toArray 26)
  obtain ⟨w17, hW_⟩ : ∃ U_ : World, U_ = w16.alloc (.cells (rcells rz (.slice none 0 0)).toArray 26) := ⟨_, rfl⟩
  obtain ⟨q10, hq_⟩ : ∃ q, q = w16.heap.size := ⟨_, rfl⟩
  rw [← hW_, ← hq_] at k_
  rw [← hW_] at hB_
  rw [← hW_, ← hq_]
  clear hq_
  have HAx : Hid (POwn w17 w.heap.size (.slice (some ⟨g0, 0, none⟩) 1 1) [⟨2, 0, 3, false⟩]) := HA.out.later hB_
  clear HA
  have HA := HAx
  clear HAx
  have H2x : Hid (POwn w17 w.heap.size va sh1.cp) := H2.out.later hB_
  clear H2
  have H2 := H2x
  clear H2x
  have HNx : Hid (POwn w17 w.heap.size ve shD.cp) := HN.out.later hB_
  clear HN
  have HN := HNx
  clear HNx
  have Rw17 : Hid (Loc w w17 [(q1, 26, rcells sh1 (.slice (some ⟨g0, 0, none⟩) 1 1)), (q2, 26, rcells sh1 va), (q4, 26, rcells sh60 vb), (q6, 26, rcells rz vc), (q8, 26, rcells rz vd), (q10, 26, rcells rz (.slice none 0 0))]) := k_
  clear k_ hW_ Rw16
  clear hB_
  simp only [Act.put, List.setIfInBounds_toArray, List.set_cons_succ, List.set_cons_zero]
  obtain ⟨hst_, k_, hC_⟩ := Rw17.out.st26 5 rfl (Rok.nil).len (rcells shD ve) ((ok_sh (r := shD) (v := ve) rfl HN.out.isSl)).len ((ok_sh (r := shD) (v := ve) rfl HN.out.isSl)).one
  have hR_ := Rw17.out.at 5 rfl
  refine wlS rfl rfl _ (run_stV (.tmp 10) (.tmp 41) rfl q10 0 rfl _ rfl hst_) ?_
  obtain ⟨w18, hW_⟩ : ∃ U_ : World, U_ = w17.setRow q10 (rcells shD ve).toArray := ⟨_, rfl⟩
  rw [← hW_] at k_ hC_ ⊢
  clear hst_
  have HAx : Hid (POwn w18 w.heap.size (.slice (some ⟨g0, 0, none⟩) 1 1) [⟨2, 0, 3, false⟩]) := HA.out.off hR_ (by decide) hC_
  clear HA
  have HA := HAx
  clear HAx
  have H2x : Hid (POwn w18 w.heap.size va sh1.cp) := H2.out.off hR_ (by decide) hC_
  clear H2
  have H2 := H2x
  clear H2x
  have HNx : Hid (POwn w18 w.heap.size ve shD.cp) := HN.out.off hR_ (by decide) hC_
  clear HN
  have HN := HNx
  clear HNx
  have Rw18 : Hid (Loc w w18 [(q1, 26, rcells sh1 (.slice (some ⟨g0, 0, none⟩) 1 1)), (q2, 26, rcells sh1 va), (q4, 26, rcells sh60 vb), (q6, 26, rcells rz vc), (q8, 26, rcells rz vd), (q10, 26, rcells shD ve)]) := k_
  clear k_ hW_ Rw17
  clear hC_ hR_
  refine wl rfl (.int .i64 0) _ (run_asZ (.tmp 42) rfl (.int .i64 0) rfl) ?_
  simp only [Act.put, List.setIfInBounds_toArray, List.set_cons_succ, List.set_cons_zero]
  refine wpList_nil ?_
  have H10 : Hid (POwn w18 w.heap.size ve shD.cp) := HN.out
  clear HN
  go_upto_region 7 with fail
  refine wp_region_lit ?_
  refine wl rfl (.agg (rcells shD ve).toArray) _ (run_loadA ag26 (.tmp 10) rfl q10 (0) rfl (rcells shD ve) ((ok_sh (r := shD) (v := ve) rfl H10.out.isSl)).len (Rw18.out.rows 5 rfl)) ?_
  simp only [Act.put, List.setIfInBounds_toArray, List.set_cons_succ, List.set_cons_zero]
  refine wpList_callW eN15 [.tmp 44, .const (.bool true)] _ rfl rfl [(.agg (rcells shD ve).toArray), (.bool true)] rfl ?_
  refine (hold_any shD ve true w18 (H10.out.fit (ok_sh (r := shD) (v := ve) rfl H10.out.isSl) (by decide)) (by decide)).mono ?_
  rintro e w19 ⟨vf, rfl, b_, o_⟩
  refine ⟨_, rfl, ?_⟩
  have HAx : Hid (POwn w19 w.heap.size (.slice (some ⟨g0, 0, none⟩) 1 1) [⟨2, 0, 3, false⟩]) := HA.out.later b_
  clear HA
  have HA := HAx
  clear HAx
  have H2x : Hid (POwn w19 w.heap.size va sh1.cp) := H2.out.later b_
  clear H2
  have H2 := H2x
  clear H2x
  have H10x : Hid (POwn w19 w.heap.size ve shD.cp) := H10.out.later b_
  clear H10
  have H10 := H10x
  clear H10x
  have HN : Hid (POwn w19 w.heap.size vf rz.cp) := o_.weaken Rw18.out.below.size
  clear o_
  have Rw19 : Hid (Loc w w19 [(q1, 26, rcells sh1 (.slice (some ⟨g0, 0, none⟩) 1 1)), (q2, 26, rcells sh1 va), (q4, 26, rcells sh60 vb), (q6, 26, rcells rz vc), (q8, 26, rcells rz vd), (q10, 26, rcells shD ve)]) := Rw18.out.later b_
  clear Rw18 b_
  rw [show holdS shD true = (rz, 213) by rfl]
  simp only [Act.put, List.setIfInBounds_toArray, List.set_cons_succ, List.set_cons_zero]
  refine wl rfl (.tuple #[.agg (rcells rz vf).toArray, .int .i64 213]) _ (run_mvZ (.tmp 45) rfl (.tuple #[.agg (rcells rz vf).toArray, .int .i64 213]) rfl) ?_
  simp only [Act.put, List.setIfInBounds_toArray, List.set_cons_succ, List.set_cons_zero]
  refine wl rfl (.agg (rcells rz vf).toArray) _ (run_extZ (.tmp 43) 0 rfl #[(.agg (rcells rz vf).toArray), (.int .i64 213)] rfl (.agg (rcells rz vf).toArray) rfl) ?_
  simp only [Act.put, List.setIfInBounds_toArray, List.set_cons_succ, List.set_cons_zero]
  refine wl rfl (.int .i64 213) _ (run_extZ (.tmp 43) 1 rfl #[(.agg (rcells rz vf).toArray), (.int .i64 213)] rfl (.int .i64 213) rfl) ?_
  simp only [Act.put, List.setIfInBounds_toArray, List.set_cons_succ, List.set_cons_zero]
  refine wl rfl (ptr w19.heap.size) _ (run_allocA (rcells rz (.slice none 0 0)) zero26 rfl) ?_
  have k_ := Rw19.out.box 26 (rcells rz (.slice none 0 0))
  have hB_ := below_alloc w19 (.cells (rcells rz (.slice none 0 0)).toArray 26)
  obtain ⟨w20, hW_⟩ : ∃ U_ : World, U_ = w19.alloc (.cells (rcells rz (.slice none 0 0)).toArray 26) := ⟨_, rfl⟩
  obtain ⟨q12, hq_⟩ : ∃ q, q = w19.heap.size := ⟨_, rfl⟩
  rw [← hW_, ← hq_] at k_
  rw [← hW_] at hB_
  rw [← hW_, ← hq_]
  clear hq_
  have HAx : Hid (POwn w20 w.heap.size (.slice (some ⟨g0, 0, none⟩) 1 1) [⟨2, 0, 3, false⟩]) := HA.out.later hB_
  clear HA
  have HA := HAx
  clear HAx
  have H2x : Hid (POwn w20 w.heap.size va sh1.cp) := H2.out.later hB_
  clear H2
  have H2 := H2x
  clear H2x
  have H10x : Hid (POwn w20 w.heap.size ve shD.cp) := H10.out.later hB_
  clear H10
  have H10 := H10x
  clear H10x
  have HNx : Hid (POwn w20 w.heap.size vf rz.cp) := HN.out.later hB_
  clear HN
  have HN := HNx
  clear HNx
  have Rw20 : Hid (Loc w w20 [(q1, 26, rcells sh1 (.slice (some ⟨g0, 0, none⟩) 1 1)), (q2, 26, rcells sh1 va), (q4, 26, rcells sh60 vb), (q6, 26, rcells rz vc), (q8, 26, rcells rz vd), (q10, 26, rcells shD ve), (q12, 26, rcells rz (.slice none 0 0))]) := k_
  clear k_ hW_ Rw19
  clear hB_
  simp only [Act.put, List.setIfInBounds_toArray, List.set_cons_succ, List.set_cons_zero]
  obtain ⟨hst_, k_, hC_⟩ := Rw20.out.st26 6 rfl (Rok.nil).len (rcells rz vf) ((ok_sh (r := rz) (v := vf) rfl HN.out.isSl)).len ((ok_sh (r := rz) (v := vf) rfl HN.out.isSl)).one
  have hR_ := Rw20.out.at 6 rfl
  refine wlS rfl rfl _ (run_stV (.tmp 12) (.tmp 46) rfl q12 0 rfl _ rfl hst_) ?_
  obtain ⟨w21, hW_⟩ : ∃ U_ : World, U_ = w20.setRow q12 (rcells rz vf).toArray := ⟨_, rfl⟩
  rw [← hW_] at k_ hC_ ⊢
  clear hst_
  have HAx : Hid (POwn w21 w.heap.size (.slice (some ⟨g0, 0, none⟩) 1 1) [⟨2, 0, 3, false⟩]) := HA.out.off hR_ (by decide) hC_
  clear HA
  have HA := HAx
  clear HAx
  have H2x : Hid (POwn w21 w.heap.size va sh1.cp) := H2.out.off hR_ (by decide) hC_
  clear H2
  have H2 := H2x
  clear H2x
  have H10x : Hid (POwn w21 w.heap.size ve shD.cp) := H10.out.off hR_ (by decide) hC_
  clear H10
  have H10 := H10x
  clear H10x
  have HNx : Hid (POwn w21 w.heap.size vf rz.cp) := HN.out.off hR_ (by decide) hC_
  clear HN
  have HN := HNx
  clear HNx
  have Rw21 : Hid (Loc w w21 [(q1, 26, rcells sh1 (.slice (some ⟨g0, 0, none⟩) 1 1)), (q2, 26, rcells sh1 va), (q4, 26, rcells sh60 vb), (q6, 26, rcells rz vc), (q8, 26, rcells rz vd), (q10, 26, rcells shD ve), (q12, 26, rcells rz vf)]) := k_
  clear k_ hW_ Rw20
  clear hC_ hR_
  refine wl rfl (.int .i64 213) _ (run_asZ (.tmp 47) rfl (.int .i64 213) rfl) ?_
  simp only [Act.put, List.setIfInBounds_toArray, List.set_cons_succ, List.set_cons_zero]
  refine wpList_nil ?_
  have Sq12 : Hid (∃ p n c, vf = .slice p n c) := HN.out.isSl
  clear HN
  go_upto_region 8 with fail
  refine wp_region_lit ?_
  refine wl rfl (.agg (rcells sha (.slice none 0 0)).toArray) _ (run_bldR [(0, .const (.string ⟨#[97]⟩)), (4, .const (.int .i64 50))] [(0, .string ⟨#[97]⟩), (4, .int .i64 50)] rfl rfl _ (by kernel_rfl)) ?_
  simp only [Act.put, List.setIfInBounds_toArray, List.set_cons_succ, List.set_cons_zero]
  refine wl rfl (.agg (rcells shb (.slice none 0 0)).toArray) _ (run_bldR [(0, .const (.string ⟨#[98]⟩)), (4, .const (.int .i64 40))] [(0, .string ⟨#[98]⟩), (4, .int .i64 40)] rfl rfl _ (by kernel_rfl)) ?_
  simp only [Act.put, List.setIfInBounds_toArray, List.set_cons_succ, List.set_cons_zero]
  refine wl rfl (.agg (rcells shc (.slice none 0 0)).toArray) _ (run_bldR [(0, .const (.string ⟨#[99]⟩))] [(0, .string ⟨#[99]⟩)] rfl rfl _ (by kernel_rfl)) ?_
  simp only [Act.put, List.setIfInBounds_toArray, List.set_cons_succ, List.set_cons_zero]
  refine wl rfl (.agg (rcells shd (.slice none 0 0)).toArray) _ (run_bldR [(0, .const (.string ⟨#[100]⟩)), (4, .const (.int .i64 50)), (5, .const (.bool true))] [(0, .string ⟨#[100]⟩), (4, .int .i64 50), (5, .bool true)] rfl rfl _ (by kernel_rfl)) ?_
  simp only [Act.put, List.setIfInBounds_toArray, List.set_cons_succ, List.set_cons_zero]
  refine wl rfl (.slice (some ⟨w21.heap.size, 0, none⟩) 4 4) _ (run_lit4 (.tmp 48) (.tmp 49) (.tmp 50) (.tmp 51) rfl rfl rfl rfl rfl) ?_
  have b_ := below_alloc w21 (.cells (rvs shL).toArray 26)
  have l_ := ROwn.lit (w := w21) w.heap.size shL shL_ok Rw21.out.below.size (by decide)
  rw [show shL.length = 4 from rfl] at l_
  obtain ⟨w22, hW_⟩ : ∃ W, W = w21.alloc (.cells (rvs shL).toArray 26) := ⟨_, rfl⟩
  obtain ⟨vl, hv_⟩ : ∃ v : Value, v = .slice (some ⟨w21.heap.size, 0, none⟩) 4 4 := ⟨_, rfl⟩
  rw [← hW_, ← hv_] at l_
  rw [← hW_] at b_
  rw [← hW_, ← hv_]
  have HL : Hid (RsIn w22 vl shL) := l_.isIn (by decide)
  clear l_ hW_ hv_
  have HAx : Hid (POwn w22 w.heap.size (.slice (some ⟨g0, 0, none⟩) 1 1) [⟨2, 0, 3, false⟩]) := HA.out.later b_
  clear HA
  have HA := HAx
  clear HAx
  have H2x : Hid (POwn w22 w.heap.size va sh1.cp) := H2.out.later b_
  clear H2
  have H2 := H2x
  clear H2x
  have H10x : Hid (POwn w22 w.heap.size ve shD.cp) := H10.out.later b_
  clear H10
  have H10 := H10x
  clear H10x
  have Rw22 : Hid (Loc w w22 [(q1, 26, rcells sh1 (.slice (some ⟨g0, 0, none⟩) 1 1)), (q2, 26, rcells sh1 va), (q4, 26, rcells sh60 vb), (q6, 26, rcells rz vc), (q8, 26, rcells rz vd), (q10, 26, rcells shD ve), (q12, 26, rcells rz vf)]) := Rw21.out.later b_
  clear Rw21 b_
  simp only [Act.put, List.setIfInBounds_toArray, List.set_cons_succ, List.set_cons_zero]
  refine wpList_callW eN19 [.tmp 52, .const (.int .i64 50)] _ rfl rfl [vl, .int .i64 50] rfl ?_
  refine (due_any shL vl 50 w22 HL.out (by decide)).mono ?_
  rintro e w23 ⟨vs, out, rfl, o_, d_, b_⟩
  have e_ := sh_due d_
  subst e_
  clear d_
  refine ⟨_, rfl, ?_⟩
  have HS : Hid (SOwn w23 w22.heap.size vs [⟨#[98]⟩, ⟨#[97]⟩]) := o_
  clear o_ HL
  have HAx : Hid (POwn w23 w.heap.size (.slice (some ⟨g0, 0, none⟩) 1 1) [⟨2, 0, 3, false⟩]) := HA.out.later b_
  clear HA
  have HA := HAx
  clear HAx
  have H2x : Hid (POwn w23 w.heap.size va sh1.cp) := H2.out.later b_
  clear H2
  have H2 := H2x
  clear H2x
  have H10x : Hid (POwn w23 w.heap.size ve shD.cp) := H10.out.later b_
  clear H10
  have H10 := H10x
  clear H10x
  have Rw23 : Hid (Loc w w23 [(q1, 26, rcells sh1 (.slice (some ⟨g0, 0, none⟩) 1 1)), (q2, 26, rcells sh1 va), (q4, 26, rcells sh60 vb), (q6, 26, rcells rz vc), (q8, 26, rcells rz vd), (q10, 26, rcells shD ve), (q12, 26, rcells rz vf)]) := Rw22.out.later b_
  clear Rw22 b_
  simp only [Act.put, List.setIfInBounds_toArray, List.set_cons_succ, List.set_cons_zero]
  refine wl rfl vs _ (run_asZ (.tmp 53) rfl vs rfl) ?_
  simp only [Act.put, List.setIfInBounds_toArray, List.set_cons_succ, List.set_cons_zero]
  refine wpList_nil ?_
  go_upto_region 9 with fail
  refine wp_region_lit ?_
  refine wl rfl (.int .i64 0) _ (run_mvZ (.tmp 3) rfl (.int .i64 0) rfl) ?_
  simp only [Act.put, List.setIfInBounds_toArray, List.set_cons_succ, List.set_cons_zero]
  refine wl rfl (.bool false) _ (run_neZ (.tmp 54) (.const (.int .i64 0)) rfl (0) (0) rfl rfl false rfl) ?_
  simp only [Act.put, List.setIfInBounds_toArray, List.set_cons_succ, List.set_cons_zero]
  refine wl rfl (.bool false) _ (run_mvZ (.tmp 55) rfl (.bool false) rfl) ?_
  simp only [Act.put, List.setIfInBounds_toArray, List.set_cons_succ, List.set_cons_zero]
  refine wl (by kernel_rfl) (.int .i64 0) _ (run_mvZ (.tmp 5) rfl (.int .i64 0) rfl) ?_
  simp only [Act.put, List.setIfInBounds_toArray, List.set_cons_succ, List.set_cons_zero]
  refine wl (by kernel_rfl) (.bool false) _ (run_neZ (.tmp 57) (.const (.int .i64 0)) rfl (0) (0) rfl rfl false rfl) ?_
  simp only [Act.put, List.setIfInBounds_toArray, List.set_cons_succ, List.set_cons_zero]
  refine wl rfl (.bool false) _ (run_pickZ (.tmp 56) (.const (.bool true)) (.tmp 58) rfl false (.bool false) rfl rfl) ?_
  simp only [Act.put, List.setIfInBounds_toArray, List.set_cons_succ, List.set_cons_zero]
  refine wl rfl (.bool false) _ (run_mvZ (.tmp 59) rfl (.bool false) rfl) ?_
  simp only [Act.put, List.setIfInBounds_toArray, List.set_cons_succ, List.set_cons_zero]
  refine wl (by kernel_rfl) (.int .i64 1) _ (run_mvZ (.tmp 7) rfl (.int .i64 1) rfl) ?_
  simp only [Act.put, List.setIfInBounds_toArray, List.set_cons_succ, List.set_cons_zero]
  refine wl (by kernel_rfl) (.bool false) _ (run_neZ (.tmp 61) (.const (.int .i64 1)) rfl (1) (1) rfl rfl false rfl) ?_
  simp only [Act.put, List.setIfInBounds_toArray, List.set_cons_succ, List.set_cons_zero]
  refine wl rfl (.bool false) _ (run_pickZ (.tmp 60) (.const (.bool true)) (.tmp 62) rfl false (.bool false) rfl rfl) ?_
  simp only [Act.put, List.setIfInBounds_toArray, List.set_cons_succ, List.set_cons_zero]
  refine wl rfl (.bool false) _ (run_mvZ (.tmp 63) rfl (.bool false) rfl) ?_
  simp only [Act.put, List.setIfInBounds_toArray, List.set_cons_succ, List.set_cons_zero]
  refine wl (by kernel_rfl) (.int .i64 214) _ (run_mvZ (.tmp 9) rfl (.int .i64 214) rfl) ?_
  simp only [Act.put, List.setIfInBounds_toArray, List.set_cons_succ, List.set_cons_zero]
  refine wl (by kernel_rfl) (.bool false) _ (run_neZ (.tmp 65) (.const (.int .i64 214)) rfl (214) (214) rfl rfl false rfl) ?_
  simp only [Act.put, List.setIfInBounds_toArray, List.set_cons_succ, List.set_cons_zero]
  refine wl rfl (.bool false) _ (run_pickZ (.tmp 64) (.const (.bool true)) (.tmp 66) rfl false (.bool false) rfl rfl) ?_
  simp only [Act.put, List.setIfInBounds_toArray, List.set_cons_succ, List.set_cons_zero]
  refine wl rfl (.bool false) _ (run_mvZ (.tmp 67) rfl (.bool false) rfl) ?_
  simp only [Act.put, List.setIfInBounds_toArray, List.set_cons_succ, List.set_cons_zero]
  refine wl (by kernel_rfl) (.int .i64 0) _ (run_mvZ (.tmp 11) rfl (.int .i64 0) rfl) ?_
  simp only [Act.put, List.setIfInBounds_toArray, List.set_cons_succ, List.set_cons_zero]
  refine wl (by kernel_rfl) (.bool false) _ (run_neZ (.tmp 69) (.const (.int .i64 0)) rfl (0) (0) rfl rfl false rfl) ?_
  simp only [Act.put, List.setIfInBounds_toArray, List.set_cons_succ, List.set_cons_zero]
  refine wl rfl (.bool false) _ (run_pickZ (.tmp 68) (.const (.bool true)) (.tmp 70) rfl false (.bool false) rfl rfl) ?_
  simp only [Act.put, List.setIfInBounds_toArray, List.set_cons_succ, List.set_cons_zero]
  refine wl rfl (.bool false) _ (run_mvZ (.tmp 71) rfl (.bool false) rfl) ?_
  simp only [Act.put, List.setIfInBounds_toArray, List.set_cons_succ, List.set_cons_zero]
  refine wl (by kernel_rfl) (.int .i64 213) _ (run_mvZ (.tmp 13) rfl (.int .i64 213) rfl) ?_
  simp only [Act.put, List.setIfInBounds_toArray, List.set_cons_succ, List.set_cons_zero]
  refine wl (by kernel_rfl) (.bool false) _ (run_neZ (.tmp 73) (.const (.int .i64 213)) rfl (213) (213) rfl rfl false rfl) ?_
  simp only [Act.put, List.setIfInBounds_toArray, List.set_cons_succ, List.set_cons_zero]
  refine wl rfl (.bool false) _ (run_pickZ (.tmp 72) (.const (.bool true)) (.tmp 74) rfl false (.bool false) rfl rfl) ?_
  simp only [Act.put, List.setIfInBounds_toArray, List.set_cons_succ, List.set_cons_zero]
  refine wl rfl (.bool false) _ (run_mvZ (.tmp 75) rfl (.bool false) rfl) ?_
  simp only [Act.put, List.setIfInBounds_toArray, List.set_cons_succ, List.set_cons_zero]
  refine wl (by kernel_rfl) vs _ (run_mvZ (.tmp 14) rfl vs rfl) ?_
  simp only [Act.put, List.setIfInBounds_toArray, List.set_cons_succ, List.set_cons_zero]
  refine wl (by kernel_rfl) (.int .i64 2) _ (run_lenO HS.out sl38 (.tmp 77) rfl rfl) ?_
  simp only [Act.put, List.setIfInBounds_toArray, List.set_cons_succ, List.set_cons_zero]
  refine wl (by kernel_rfl) (.bool false) _ (run_neZ (.tmp 78) (.const (.int .i64 2)) rfl (2) (2) rfl rfl false rfl) ?_
  simp only [Act.put, List.setIfInBounds_toArray, List.set_cons_succ, List.set_cons_zero]
  refine wl rfl (.bool false) _ (run_pickZ (.tmp 76) (.const (.bool true)) (.tmp 79) rfl false (.bool false) rfl rfl) ?_
  simp only [Act.put, List.setIfInBounds_toArray, List.set_cons_succ, List.set_cons_zero]
  refine wpList_nil ?_
  obtain ⟨b1, i1_, c1_⟩ := HS.out.ix 0 (by decide)
  obtain ⟨b2, i2_, c2_⟩ := HS.out.ix 1 (by decide)
  have HX : Hid ((∀ w', (Instr.indexAt 38 vs (.int .i64 0)).run Try.prog w' = .ok (.pointer (some ⟨b1, 0, none⟩)) w') ∧ w23.cell? ⟨b1, 0, none⟩ = some (.string ⟨#[98]⟩) ∧ (∀ w', (Instr.indexAt 38 vs (.int .i64 1)).run Try.prog w' = .ok (.pointer (some ⟨b2, 1, none⟩)) w') ∧ w23.cell? ⟨b2, 1, none⟩ = some (.string ⟨#[97]⟩)) := ⟨i1_, c1_, i2_, c2_⟩
  clear i1_ c1_ i2_ c2_
  go_upto_region 11 with fail
  refine wp_region_lit ?_
  refine wl rfl (.agg (rcells sh1 va).toArray) _ (run_loadA ag26 (.tmp 2) rfl q2 (0) rfl (rcells sh1 va) ((ok_sh (r := sh1) (v := va) rfl H2.out.isSl)).len (Rw23.out.rows 1 rfl)) ?_
  simp only [Act.put, List.setIfInBounds_toArray, List.set_cons_succ, List.set_cons_zero]
  refine wl rfl (.agg (rcells sh1 (.slice (some ⟨g0, 0, none⟩) 1 1)).toArray) _ (run_loadA ag26 (.tmp 1) rfl q1 (0) rfl (rcells sh1 (.slice (some ⟨g0, 0, none⟩) 1 1)) ((ok_sh (r := sh1) (v := (.slice (some ⟨g0, 0, none⟩) 1 1)) rfl ⟨_, _, _, rfl⟩)).len (Rw23.out.rows 0 rfl)) ?_
  simp only [Act.put, List.setIfInBounds_toArray, List.set_cons_succ, List.set_cons_zero]
  refine wpList_callW eN13 [.tmp 81, .tmp 82] _ rfl rfl [(.agg (rcells sh1 va).toArray), (.agg (rcells sh1 (.slice (some ⟨g0, 0, none⟩) 1 1)).toArray)] rfl ?_
  refine (same_yes sh1 va (.slice (some ⟨g0, 0, none⟩) 1 1) w23 (H2.out.fit (ok_sh rfl H2.out.isSl) (by decide)) (HA.out.fit (ok_sh (r := sh1) (v := (.slice (some ⟨g0, 0, none⟩) 1 1)) rfl ⟨_, _, _, rfl⟩) (by decide))).mono ?_
  rintro e w24 ⟨rfl, b_⟩
  refine ⟨_, rfl, ?_⟩
  have HAx : Hid (POwn w24 w.heap.size (.slice (some ⟨g0, 0, none⟩) 1 1) [⟨2, 0, 3, false⟩]) := HA.out.later b_
  clear HA
  have HA := HAx
  clear HAx
  have H2x : Hid (POwn w24 w.heap.size va sh1.cp) := H2.out.later b_
  clear H2
  have H2 := H2x
  clear H2x
  have H10x : Hid (POwn w24 w.heap.size ve shD.cp) := H10.out.later b_
  clear H10
  have H10 := H10x
  clear H10x
  have HXx : Hid ((∀ w', (Instr.indexAt 38 vs (.int .i64 0)).run Try.prog w' = .ok (.pointer (some ⟨b1, 0, none⟩)) w') ∧ w24.cell? ⟨b1, 0, none⟩ = some (.string ⟨#[98]⟩) ∧ (∀ w', (Instr.indexAt 38 vs (.int .i64 1)).run Try.prog w' = .ok (.pointer (some ⟨b2, 1, none⟩)) w') ∧ w24.cell? ⟨b2, 1, none⟩ = some (.string ⟨#[97]⟩)) := ⟨HX.out.1, cell_later HX.out.2.1 b_, HX.out.2.2.1, cell_later HX.out.2.2.2 b_⟩
  clear HX
  have HX := HXx
  clear HXx
  have Rw24 : Hid (Loc w w24 [(q1, 26, rcells sh1 (.slice (some ⟨g0, 0, none⟩) 1 1)), (q2, 26, rcells sh1 va), (q4, 26, rcells sh60 vb), (q6, 26, rcells rz vc), (q8, 26, rcells rz vd), (q10, 26, rcells shD ve), (q12, 26, rcells rz vf)]) := Rw23.out.later b_
  clear Rw23 b_
  simp only [Act.put, List.setIfInBounds_toArray, List.set_cons_succ, List.set_cons_zero]
  refine wl rfl (.bool true) _ (run_mvZ (.tmp 83) rfl (.bool true) rfl) ?_
  simp only [Act.put, List.setIfInBounds_toArray, List.set_cons_succ, List.set_cons_zero]
  refine wl (by kernel_rfl) (.pointer (some ⟨q4, 0 + 35, none⟩)) _ (run_fieldOp' f26_4 (.tmp 4) rfl q4 (0) rfl) ?_
  simp only [Act.put, List.setIfInBounds_toArray, List.set_cons_succ, List.set_cons_zero]
  refine wl (by kernel_rfl) (.int .i64 60) _ (run_load1 o3 (.tmp 85) rfl q4 (0 + 35) rfl (.int .i64 60) (Rw24.out.fld 2 rfl ((ok_sh (r := sh60) (v := vb) rfl Sq4.out)).root 1 _ rfl)) ?_
  simp only [Act.put, List.setIfInBounds_toArray, List.set_cons_succ, List.set_cons_zero]
  refine wl (by kernel_rfl) (.bool true) _ (run_eqZ (.tmp 86) (.const (.int .i64 60)) rfl (60) (60) rfl rfl true rfl) ?_
  simp only [Act.put, List.setIfInBounds_toArray, List.set_cons_succ, List.set_cons_zero]
  refine wl rfl (.bool true) _ (run_pickZ (.tmp 84) (.tmp 87) (.const (.bool false)) rfl true (.bool true) rfl rfl) ?_
  simp only [Act.put, List.setIfInBounds_toArray, List.set_cons_succ, List.set_cons_zero]
  refine wl rfl (.bool true) _ (run_mvZ (.tmp 88) rfl (.bool true) rfl) ?_
  simp only [Act.put, List.setIfInBounds_toArray, List.set_cons_succ, List.set_cons_zero]
  refine wl (by kernel_rfl) (.pointer (some ⟨q10, 0 + 37, none⟩)) _ (run_fieldOp' f26_6 (.tmp 10) rfl q10 (0) rfl) ?_
  simp only [Act.put, List.setIfInBounds_toArray, List.set_cons_succ, List.set_cons_zero]
  refine wl (by kernel_rfl) (.bool true) _ (run_load1 o4 (.tmp 90) rfl q10 (0 + 37) rfl (.bool true) (Rw24.out.fld 5 rfl ((ok_sh (r := shD) (v := ve) rfl H10.out.isSl)).root 3 _ rfl)) ?_
  simp only [Act.put, List.setIfInBounds_toArray, List.set_cons_succ, List.set_cons_zero]
  refine wl rfl (.bool true) _ (run_pickZ (.tmp 89) (.tmp 91) (.const (.bool false)) rfl true (.bool true) rfl rfl) ?_
  simp only [Act.put, List.setIfInBounds_toArray, List.set_cons_succ, List.set_cons_zero]
  refine wl rfl (.bool true) _ (run_mvZ (.tmp 92) rfl (.bool true) rfl) ?_
  simp only [Act.put, List.setIfInBounds_toArray, List.set_cons_succ, List.set_cons_zero]
  refine wl (by kernel_rfl) (.pointer (some ⟨q10, 0 + 38, none⟩)) _ (run_fieldOp' f26_7 (.tmp 10) rfl q10 (0) rfl) ?_
  simp only [Act.put, List.setIfInBounds_toArray, List.set_cons_succ, List.set_cons_zero]
  refine wl (by kernel_rfl) ve _ (run_load1 o24 (.tmp 94) rfl q10 (0 + 38) rfl ve (Rw24.out.fld 5 rfl ((ok_sh (r := shD) (v := ve) rfl H10.out.isSl)).root 4 _ rfl)) ?_
  simp only [Act.put, List.setIfInBounds_toArray, List.set_cons_succ, List.set_cons_zero]
  refine wl (by kernel_rfl) (.int .i64 0) _ (run_lenP (H10.out.isIn (by decide)) (.tmp 95) rfl rfl) ?_
  simp only [Act.put, List.setIfInBounds_toArray, List.set_cons_succ, List.set_cons_zero]
  refine wl (by kernel_rfl) (.bool true) _ (run_eqZ (.tmp 96) (.const (.int .i64 0)) rfl (0) (0) rfl rfl true rfl) ?_
  simp only [Act.put, List.setIfInBounds_toArray, List.set_cons_succ, List.set_cons_zero]
  refine wl rfl (.bool true) _ (run_pickZ (.tmp 93) (.tmp 97) (.const (.bool false)) rfl true (.bool true) rfl rfl) ?_
  simp only [Act.put, List.setIfInBounds_toArray, List.set_cons_succ, List.set_cons_zero]
  refine wl rfl (.bool true) _ (run_mvZ (.tmp 98) rfl (.bool true) rfl) ?_
  simp only [Act.put, List.setIfInBounds_toArray, List.set_cons_succ, List.set_cons_zero]
  refine wl (by kernel_rfl) (.pointer (some ⟨q10, 0 + 0, none⟩)) _ (run_fieldOp' f26_0 (.tmp 10) rfl q10 (0) rfl) ?_
  simp only [Act.put, List.setIfInBounds_toArray, List.set_cons_succ, List.set_cons_zero]
  refine wl (by kernel_rfl) (.string ⟨#[97]⟩) _ (run_load1 o9 (.tmp 100) rfl q10 (0 + 0) rfl (.string ⟨#[97]⟩) (Rw24.out.fid 5 rfl)) ?_
  simp only [Act.put, List.setIfInBounds_toArray, List.set_cons_succ, List.set_cons_zero]
  refine wl (by kernel_rfl) (.bool true) _ (run_eqSS (.tmp 101) (.const (.string ⟨#[97]⟩)) rfl ⟨#[97]⟩ rfl rfl) ?_
  simp only [Act.put, List.setIfInBounds_toArray, List.set_cons_succ, List.set_cons_zero]
  refine wl rfl (.bool true) _ (run_pickZ (.tmp 99) (.tmp 102) (.const (.bool false)) rfl true (.bool true) rfl rfl) ?_
  simp only [Act.put, List.setIfInBounds_toArray, List.set_cons_succ, List.set_cons_zero]
  refine wl rfl (.bool true) _ (run_mvZ (.tmp 103) rfl (.bool true) rfl) ?_
  simp only [Act.put, List.setIfInBounds_toArray, List.set_cons_succ, List.set_cons_zero]
  refine wl (by kernel_rfl) vs _ (run_mvZ (.tmp 14) rfl vs rfl) ?_
  simp only [Act.put, List.setIfInBounds_toArray, List.set_cons_succ, List.set_cons_zero]
  refine wl (by kernel_rfl) (.pointer (some ⟨b1, 0, none⟩)) _ (run_idx (.tmp 105) (.const (.int .i64 0)) rfl vs _ _ rfl rfl HX.out.1) ?_
  simp only [Act.put, List.setIfInBounds_toArray, List.set_cons_succ, List.set_cons_zero]
  refine wl (by kernel_rfl) (.string ⟨#[98]⟩) _ (run_load1 o9 (.tmp 106) rfl b1 (0) rfl (.string ⟨#[98]⟩) HX.out.2.1) ?_
  simp only [Act.put, List.setIfInBounds_toArray, List.set_cons_succ, List.set_cons_zero]
  refine wl (by kernel_rfl) (.bool true) _ (run_eqSS (.tmp 107) (.const (.string ⟨#[98]⟩)) rfl ⟨#[98]⟩ rfl rfl) ?_
  simp only [Act.put, List.setIfInBounds_toArray, List.set_cons_succ, List.set_cons_zero]
  refine wl rfl (.bool true) _ (run_pickZ (.tmp 104) (.tmp 108) (.const (.bool false)) rfl true (.bool true) rfl rfl) ?_
  simp only [Act.put, List.setIfInBounds_toArray, List.set_cons_succ, List.set_cons_zero]
  refine wl rfl (.bool true) _ (run_mvZ (.tmp 109) rfl (.bool true) rfl) ?_
  simp only [Act.put, List.setIfInBounds_toArray, List.set_cons_succ, List.set_cons_zero]
  refine wl (by kernel_rfl) vs _ (run_mvZ (.tmp 14) rfl vs rfl) ?_
  simp only [Act.put, List.setIfInBounds_toArray, List.set_cons_succ, List.set_cons_zero]
  refine wl (by kernel_rfl) (.pointer (some ⟨b2, 1, none⟩)) _ (run_idx (.tmp 111) (.const (.int .i64 1)) rfl vs _ _ rfl rfl HX.out.2.2.1) ?_
  simp only [Act.put, List.setIfInBounds_toArray, List.set_cons_succ, List.set_cons_zero]
  refine wl (by kernel_rfl) (.string ⟨#[97]⟩) _ (run_load1 o9 (.tmp 112) rfl b2 (1) rfl (.string ⟨#[97]⟩) HX.out.2.2.2) ?_
  simp only [Act.put, List.setIfInBounds_toArray, List.set_cons_succ, List.set_cons_zero]
  refine wl (by kernel_rfl) (.bool true) _ (run_eqSS (.tmp 113) (.const (.string ⟨#[97]⟩)) rfl ⟨#[97]⟩ rfl rfl) ?_
  simp only [Act.put, List.setIfInBounds_toArray, List.set_cons_succ, List.set_cons_zero]
  refine wl rfl (.bool true) _ (run_pickZ (.tmp 110) (.tmp 114) (.const (.bool false)) rfl true (.bool true) rfl rfl) ?_
  simp only [Act.put, List.setIfInBounds_toArray, List.set_cons_succ, List.set_cons_zero]
  refine wl rfl (.bool true) _ (run_asZ (.tmp 115) rfl (.bool true) rfl) ?_
  simp only [Act.put, List.setIfInBounds_toArray, List.set_cons_zero]
  refine wpList_nil ?_
  go_wp2_with fail
  first | (rw [HPQ.out]; exact ⟨rfl, Rw24.out.below⟩) | (go_ret; rw [HPQ.out]; exact ⟨rfl, Rw24.out.below⟩)

end Go.Proofs.Ytobolkllplmmcab

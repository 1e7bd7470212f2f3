/- Records that are one. -/
import Derived.Test.YtobolkllplmmcabT3
namespace Go.Proofs.Ytobolkllplmmcab
open Go.RowKit

theorem str_refl (s : ByteArray) : (s.toList == s.toList) = true := by simp
theorem run_neS {w : World} {a : Act} {o : Oper} (x y : Operand) (ho : o.op = .binOp .neq 9 x y 9) (s : ByteArray) (hx : a.eval x = .string s) (hy : a.eval y = .string s) : (execOp a.eval o).run Try.prog w = .ok (.value (.bool false)) w := by
  simp only [execOp, ho, hx, hy]
  simp [go_sem]
theorem run_neBB {w : World} {a : Act} {o : Oper} (x y : Operand) (ho : o.op = .binOp .neq 4 x y 4) (p : Bool) (hx : a.eval x = .bool p) (hy : a.eval y = .bool p) : (execOp a.eval o).run Try.prog w = .ok (.value (.bool false)) w := by
  simp only [execOp, ho, hx, hy]
  cases p <;> rfl
theorem run_neHH {w : World} {a : Act} {o : Oper} (x y : Operand) (ho : o.op = .binOp .neq 23 x y 23) (h : List Nat) (hh : IsH h) (hx : a.eval x = .agg (bcells h).toArray) (hy : a.eval y = .agg (bcells h).toArray) : (execOp a.eval o).run Try.prog w = .ok (.value (.bool false)) w :=
  rx_neH x y ho h h hh hh hx hy false (by simp)
theorem run_nePP {w : World} {a : Act} {o : Oper} (x y : Operand) (ho : o.op = .binOp .neq 36 x y 36) (p : Pc) (hx : a.eval x = .agg (pcells p).toArray) (hy : a.eval y = .agg (pcells p).toArray) : (execOp a.eval o).run Try.prog w = .ok (.value (.bool false)) w :=
  rx_nePc x y ho p p hx hy false (by rw [(pcEq_iff p p).2 rfl]; rfl)
theorem run_neII {w : World} {a : Act} {o : Oper} (x y : Operand) (ho : o.op = .binOp .neq 3 x y 3) (z : Int) (hx : a.eval x = .int .i64 z) (hy : a.eval y = .int .i64 z) : (execOp a.eval o).run Try.prog w = .ok (.value (.bool false)) w :=
  run_neZ x y ho z z hx hy false (by simp)
theorem Rok.isH {r : Rc} {vc : Value} (h : Rok r vc) : IsH r.root := ⟨h.root, h.bytes⟩
theorem run_addI {w : World} {a : Act} {o : Oper} (x : Operand) (ho : o.op = .binOp .add 3 x (.const (.int .i64 1)) 3) (k n : Nat) (hk : k < n) (hn : n ≤ 9223372036854775807) (hx : a.eval x = .int .i64 (k : Nat)) : (execOp a.eval o).run Try.prog w = .ok (.value (.int .i64 ((k + 1 : Nat)))) w := by
  have e : a.eval (.const (.int .i64 1)) = .int .i64 1 := rfl
  simp only [execOp, ho, hx, e]
  simp [go_sem, IntKind.wrap, IntKind.bits, IntKind.signed]
  omega
theorem run_lssN {w : World} {a : Act} {o : Oper} (x y : Operand) (ho : o.op = .binOp .lss 3 x y 3) (z z' : Nat) (hx : a.eval x = .int .i64 (z : Nat)) (hy : a.eval y = .int .i64 (z' : Nat)) (b : Bool) (hb : decide (z < z') = b) : (execOp a.eval o).run Try.prog w = .ok (.value (.bool b)) w :=
  run_lssZ x y ho (z : Nat) (z' : Nat) hx hy b (by rw [← hb]; simp)
set_option maxHeartbeats 4000000 in
set_option maxRecDepth 100000 in
theorem same_yes (r : Rc) (vx vy : Value) (w : World) (hx : Fits w r vx) (hy : Fits w r vy) : Calls Try.prog 7 #[.agg (rcells r vx).toArray, .agg (rcells r vy).toArray] w fun e w' => e = .returned (.bool true) ∧ Below w.heap.size w w' := by
  have HF : Hid (Fits w r vx ∧ Fits w r vy) := ⟨hx, hy⟩
  clear hx hy
  obtain ⟨n, hn⟩ : ∃ n, n = r.cp.length := ⟨_, rfl⟩
  have HN : Hid (n = r.cp.length) := hn
  have hmax : n ≤ 9223372036854775807 := by
    obtain ⟨p, cap, _, hl, _⟩ := HF.out.1.cp
    rw [hn]
    exact hl.2
  have HMX : Hid (n ≤ 9223372036854775807) := hmax
  clear hn
  obtain ⟨PQ, hPQ⟩ : ∃ PQ : Ending → World → Prop, PQ = fun (e : Ending) (w' : World) => e = .returned (.bool true) ∧ Below w.heap.size w w' := ⟨_, rfl⟩
  have HPQ : Hid (PQ = fun (e : Ending) (w' : World) => e = .returned (.bool true) ∧ Below w.heap.size w w') := hPQ
  rw [← hPQ]
  clear hPQ
  have R0 : Hid (Loc w w []) := Loc.nil (Below.refl _ w)
  go_enter Try.func7, Try.ntmps7
  go_upto_region 0 with fail
  refine wp_region_lit ?_
  refine wl rfl (ptr w.heap.size) _ (run_boxA (.tmp 0) rfl (rcells r vx) rfl) ?_
  have k_ := R0.out.box 26 (rcells r vx)
  obtain ⟨w1, hW_⟩ : ∃ W, W = w.alloc (.cells (rcells r vx).toArray 26) := ⟨_, rfl⟩
  obtain ⟨q2, hq_⟩ : ∃ q, q = w.heap.size := ⟨_, rfl⟩
  rw [← hW_, ← hq_] at k_
  rw [← hW_, ← hq_]
  clear hq_
  have Rw1 : Hid (Loc w w1 [(q2, 26, rcells r vx)]) := k_
  clear k_ hW_ R0
  simp only [Act.put, List.setIfInBounds_toArray, List.set_cons_succ, List.set_cons_zero]
  refine wl rfl (ptr w1.heap.size) _ (run_boxA (.tmp 1) rfl (rcells r vy) rfl) ?_
  have k_ := Rw1.out.box 26 (rcells r vy)
  obtain ⟨w2, hW_⟩ : ∃ W, W = w1.alloc (.cells (rcells r vy).toArray 26) := ⟨_, rfl⟩
  obtain ⟨q3, hq_⟩ : ∃ q, q = w1.heap.size := ⟨_, rfl⟩
  rw [← hW_, ← hq_] at k_
  rw [← hW_, ← hq_]
  clear hq_
  have Rw2 : Hid (Loc w w2 [(q2, 26, rcells r vx), (q3, 26, rcells r vy)]) := k_
  clear k_ hW_ Rw1
  simp only [Act.put, List.setIfInBounds_toArray, List.set_cons_succ, List.set_cons_zero]
  refine wl rfl (.bool false) _ (run_asZ (.const (.bool false)) rfl (.bool false) rfl) ?_
  simp only [Act.put, List.setIfInBounds_toArray, List.set_cons_succ, List.set_cons_zero]
  refine wpList_nil ?_
  go_upto_region 1 with fail
  refine wp_region_lit ?_
  refine wl rfl (.pointer (some ⟨q2, 0 + 0, none⟩)) _ (run_fieldOp' f26_0 (.tmp 2) rfl q2 (0) rfl) ?_
  simp only [Act.put, List.setIfInBounds_toArray, List.set_cons_succ, List.set_cons_zero]
  refine wl rfl (.string r.id) _ (run_load1 o9 (.tmp 6) rfl q2 (0 + 0) rfl (.string r.id) (Rw2.out.fid 0 rfl)) ?_
  simp only [Act.put, List.setIfInBounds_toArray, List.set_cons_succ, List.set_cons_zero]
  refine wl rfl (.pointer (some ⟨q3, 0 + 0, none⟩)) _ (run_fieldOp' f26_0 (.tmp 3) rfl q3 (0) rfl) ?_
  simp only [Act.put, List.setIfInBounds_toArray, List.set_cons_succ, List.set_cons_zero]
  refine wl rfl (.string r.id) _ (run_load1 o9 (.tmp 8) rfl q3 (0 + 0) rfl (.string r.id) (Rw2.out.fid 1 rfl)) ?_
  simp only [Act.put, List.setIfInBounds_toArray, List.set_cons_succ, List.set_cons_zero]
  refine wl rfl (.bool false) _ (run_neS (.tmp 7) (.tmp 9) rfl r.id rfl rfl) ?_
  simp only [Act.put, List.setIfInBounds_toArray, List.set_cons_succ, List.set_cons_zero]
  refine wl rfl (.bool false) _ (run_mvZ (.tmp 10) rfl (.bool false) rfl) ?_
  simp only [Act.put, List.setIfInBounds_toArray, List.set_cons_succ, List.set_cons_zero]
  refine wl (by kernel_rfl) (.pointer (some ⟨q2, 0 + 1, none⟩)) _ (run_fieldOp' f26_1 (.tmp 2) rfl q2 (0) rfl) ?_
  simp only [Act.put, List.setIfInBounds_toArray, List.set_cons_succ, List.set_cons_zero]
  refine wl (by kernel_rfl) (.int .i64 r.length) _ (run_load1 o3 (.tmp 12) rfl q2 (0 + 1) rfl (.int .i64 r.length) (Rw2.out.flen 0 rfl)) ?_
  simp only [Act.put, List.setIfInBounds_toArray, List.set_cons_succ, List.set_cons_zero]
  refine wl (by kernel_rfl) (.pointer (some ⟨q3, 0 + 1, none⟩)) _ (run_fieldOp' f26_1 (.tmp 3) rfl q3 (0) rfl) ?_
  simp only [Act.put, List.setIfInBounds_toArray, List.set_cons_succ, List.set_cons_zero]
  refine wl (by kernel_rfl) (.int .i64 r.length) _ (run_load1 o3 (.tmp 14) rfl q3 (0 + 1) rfl (.int .i64 r.length) (Rw2.out.flen 1 rfl)) ?_
  simp only [Act.put, List.setIfInBounds_toArray, List.set_cons_succ, List.set_cons_zero]
  refine wl (by kernel_rfl) (.bool false) _ (run_neII (.tmp 13) (.tmp 15) rfl r.length rfl rfl) ?_
  simp only [Act.put, List.setIfInBounds_toArray, List.set_cons_succ, List.set_cons_zero]
  refine wl rfl (.bool false) _ (run_pickZ (.tmp 11) (.const (.bool true)) (.tmp 16) rfl false (.bool false) rfl rfl) ?_
  simp only [Act.put, List.setIfInBounds_toArray, List.set_cons_succ, List.set_cons_zero]
  refine wl rfl (.bool false) _ (run_mvZ (.tmp 17) rfl (.bool false) rfl) ?_
  simp only [Act.put, List.setIfInBounds_toArray, List.set_cons_succ, List.set_cons_zero]
  refine wl (by kernel_rfl) (.pointer (some ⟨q2, 0 + 2, none⟩)) _ (run_fieldOp' f26_2 (.tmp 2) rfl q2 (0) rfl) ?_
  simp only [Act.put, List.setIfInBounds_toArray, List.set_cons_succ, List.set_cons_zero]
  refine wl (by kernel_rfl) (.agg (bcells r.root).toArray) _ (run_loadA ag23 (.tmp 19) rfl q2 (0 + 2) rfl (bcells r.root) (bc32 (HF.out.1.rok).root) (Rw2.out.froot 0 rfl (HF.out.1.rok).root)) ?_
  simp only [Act.put, List.setIfInBounds_toArray, List.set_cons_succ, List.set_cons_zero]
  refine wl (by kernel_rfl) (.pointer (some ⟨q3, 0 + 2, none⟩)) _ (run_fieldOp' f26_2 (.tmp 3) rfl q3 (0) rfl) ?_
  simp only [Act.put, List.setIfInBounds_toArray, List.set_cons_succ, List.set_cons_zero]
  refine wl (by kernel_rfl) (.agg (bcells r.root).toArray) _ (run_loadA ag23 (.tmp 21) rfl q3 (0 + 2) rfl (bcells r.root) (bc32 (HF.out.2.rok).root) (Rw2.out.froot 1 rfl (HF.out.2.rok).root)) ?_
  simp only [Act.put, List.setIfInBounds_toArray, List.set_cons_succ, List.set_cons_zero]
  refine wl (by kernel_rfl) (.bool false) _ (run_neHH (.tmp 20) (.tmp 22) rfl r.root HF.out.1.isH rfl rfl) ?_
  simp only [Act.put, List.setIfInBounds_toArray, List.set_cons_succ, List.set_cons_zero]
  refine wl rfl (.bool false) _ (run_pickZ (.tmp 18) (.const (.bool true)) (.tmp 23) rfl false (.bool false) rfl rfl) ?_
  simp only [Act.put, List.setIfInBounds_toArray, List.set_cons_succ, List.set_cons_zero]
  refine wl rfl (.bool false) _ (run_mvZ (.tmp 24) rfl (.bool false) rfl) ?_
  simp only [Act.put, List.setIfInBounds_toArray, List.set_cons_succ, List.set_cons_zero]
  refine wl (by kernel_rfl) (.pointer (some ⟨q2, 0 + 34, none⟩)) _ (run_fieldOp' f26_3 (.tmp 2) rfl q2 (0) rfl) ?_
  simp only [Act.put, List.setIfInBounds_toArray, List.set_cons_succ, List.set_cons_zero]
  refine wl (by kernel_rfl) (.int .i64 r.index) _ (run_load1 o3 (.tmp 26) rfl q2 (0 + 34) rfl (.int .i64 r.index) (Rw2.out.fld 0 rfl (HF.out.1.rok).root 0 _ rfl)) ?_
  simp only [Act.put, List.setIfInBounds_toArray, List.set_cons_succ, List.set_cons_zero]
  refine wl (by kernel_rfl) (.pointer (some ⟨q3, 0 + 34, none⟩)) _ (run_fieldOp' f26_3 (.tmp 3) rfl q3 (0) rfl) ?_
  simp only [Act.put, List.setIfInBounds_toArray, List.set_cons_succ, List.set_cons_zero]
  refine wl (by kernel_rfl) (.int .i64 r.index) _ (run_load1 o3 (.tmp 28) rfl q3 (0 + 34) rfl (.int .i64 r.index) (Rw2.out.fld 1 rfl (HF.out.2.rok).root 0 _ rfl)) ?_
  simp only [Act.put, List.setIfInBounds_toArray, List.set_cons_succ, List.set_cons_zero]
  refine wl (by kernel_rfl) (.bool false) _ (run_neII (.tmp 27) (.tmp 29) rfl r.index rfl rfl) ?_
  simp only [Act.put, List.setIfInBounds_toArray, List.set_cons_succ, List.set_cons_zero]
  refine wl rfl (.bool false) _ (run_pickZ (.tmp 25) (.const (.bool true)) (.tmp 30) rfl false (.bool false) rfl rfl) ?_
  simp only [Act.put, List.setIfInBounds_toArray, List.set_cons_succ, List.set_cons_zero]
  refine wl rfl (.bool false) _ (run_mvZ (.tmp 31) rfl (.bool false) rfl) ?_
  simp only [Act.put, List.setIfInBounds_toArray, List.set_cons_succ, List.set_cons_zero]
  refine wl (by kernel_rfl) (.pointer (some ⟨q2, 0 + 35, none⟩)) _ (run_fieldOp' f26_4 (.tmp 2) rfl q2 (0) rfl) ?_
  simp only [Act.put, List.setIfInBounds_toArray, List.set_cons_succ, List.set_cons_zero]
  refine wl (by kernel_rfl) (.int .i64 r.expiry) _ (run_load1 o3 (.tmp 33) rfl q2 (0 + 35) rfl (.int .i64 r.expiry) (Rw2.out.fld 0 rfl (HF.out.1.rok).root 1 _ rfl)) ?_
  simp only [Act.put, List.setIfInBounds_toArray, List.set_cons_succ, List.set_cons_zero]
  refine wl (by kernel_rfl) (.pointer (some ⟨q3, 0 + 35, none⟩)) _ (run_fieldOp' f26_4 (.tmp 3) rfl q3 (0) rfl) ?_
  simp only [Act.put, List.setIfInBounds_toArray, List.set_cons_succ, List.set_cons_zero]
  refine wl (by kernel_rfl) (.int .i64 r.expiry) _ (run_load1 o3 (.tmp 35) rfl q3 (0 + 35) rfl (.int .i64 r.expiry) (Rw2.out.fld 1 rfl (HF.out.2.rok).root 1 _ rfl)) ?_
  simp only [Act.put, List.setIfInBounds_toArray, List.set_cons_succ, List.set_cons_zero]
  refine wl (by kernel_rfl) (.bool false) _ (run_neII (.tmp 34) (.tmp 36) rfl r.expiry rfl rfl) ?_
  simp only [Act.put, List.setIfInBounds_toArray, List.set_cons_succ, List.set_cons_zero]
  refine wl rfl (.bool false) _ (run_pickZ (.tmp 32) (.const (.bool true)) (.tmp 37) rfl false (.bool false) rfl rfl) ?_
  simp only [Act.put, List.setIfInBounds_toArray, List.set_cons_succ, List.set_cons_zero]
  refine wl rfl (.bool false) _ (run_mvZ (.tmp 38) rfl (.bool false) rfl) ?_
  simp only [Act.put, List.setIfInBounds_toArray, List.set_cons_succ, List.set_cons_zero]
  refine wl (by kernel_rfl) (.pointer (some ⟨q2, 0 + 36, none⟩)) _ (run_fieldOp' f26_5 (.tmp 2) rfl q2 (0) rfl) ?_
  simp only [Act.put, List.setIfInBounds_toArray, List.set_cons_succ, List.set_cons_zero]
  refine wl (by kernel_rfl) (.bool r.hold) _ (run_load1 o4 (.tmp 40) rfl q2 (0 + 36) rfl (.bool r.hold) (Rw2.out.fld 0 rfl (HF.out.1.rok).root 2 _ rfl)) ?_
  simp only [Act.put, List.setIfInBounds_toArray, List.set_cons_succ, List.set_cons_zero]
  refine wl (by kernel_rfl) (.pointer (some ⟨q3, 0 + 36, none⟩)) _ (run_fieldOp' f26_5 (.tmp 3) rfl q3 (0) rfl) ?_
  simp only [Act.put, List.setIfInBounds_toArray, List.set_cons_succ, List.set_cons_zero]
  refine wl (by kernel_rfl) (.bool r.hold) _ (run_load1 o4 (.tmp 42) rfl q3 (0 + 36) rfl (.bool r.hold) (Rw2.out.fld 1 rfl (HF.out.2.rok).root 2 _ rfl)) ?_
  simp only [Act.put, List.setIfInBounds_toArray, List.set_cons_succ, List.set_cons_zero]
  refine wl (by kernel_rfl) (.bool false) _ (run_neBB (.tmp 41) (.tmp 43) rfl r.hold rfl rfl) ?_
  simp only [Act.put, List.setIfInBounds_toArray, List.set_cons_succ, List.set_cons_zero]
  refine wl rfl (.bool false) _ (run_pickZ (.tmp 39) (.const (.bool true)) (.tmp 44) rfl false (.bool false) rfl rfl) ?_
  simp only [Act.put, List.setIfInBounds_toArray, List.set_cons_succ, List.set_cons_zero]
  refine wl rfl (.bool false) _ (run_mvZ (.tmp 45) rfl (.bool false) rfl) ?_
  simp only [Act.put, List.setIfInBounds_toArray, List.set_cons_succ, List.set_cons_zero]
  refine wl (by kernel_rfl) (.pointer (some ⟨q2, 0 + 37, none⟩)) _ (run_fieldOp' f26_6 (.tmp 2) rfl q2 (0) rfl) ?_
  simp only [Act.put, List.setIfInBounds_toArray, List.set_cons_succ, List.set_cons_zero]
  refine wl (by kernel_rfl) (.bool r.gone) _ (run_load1 o4 (.tmp 47) rfl q2 (0 + 37) rfl (.bool r.gone) (Rw2.out.fld 0 rfl (HF.out.1.rok).root 3 _ rfl)) ?_
  simp only [Act.put, List.setIfInBounds_toArray, List.set_cons_succ, List.set_cons_zero]
  refine wl (by kernel_rfl) (.pointer (some ⟨q3, 0 + 37, none⟩)) _ (run_fieldOp' f26_6 (.tmp 3) rfl q3 (0) rfl) ?_
  simp only [Act.put, List.setIfInBounds_toArray, List.set_cons_succ, List.set_cons_zero]
  refine wl (by kernel_rfl) (.bool r.gone) _ (run_load1 o4 (.tmp 49) rfl q3 (0 + 37) rfl (.bool r.gone) (Rw2.out.fld 1 rfl (HF.out.2.rok).root 3 _ rfl)) ?_
  simp only [Act.put, List.setIfInBounds_toArray, List.set_cons_succ, List.set_cons_zero]
  refine wl (by kernel_rfl) (.bool false) _ (run_neBB (.tmp 48) (.tmp 50) rfl r.gone rfl rfl) ?_
  simp only [Act.put, List.setIfInBounds_toArray, List.set_cons_succ, List.set_cons_zero]
  refine wl rfl (.bool false) _ (run_pickZ (.tmp 46) (.const (.bool true)) (.tmp 51) rfl false (.bool false) rfl rfl) ?_
  simp only [Act.put, List.setIfInBounds_toArray, List.set_cons_succ, List.set_cons_zero]
  refine wl rfl (.bool false) _ (run_mvZ (.tmp 52) rfl (.bool false) rfl) ?_
  simp only [Act.put, List.setIfInBounds_toArray, List.set_cons_succ, List.set_cons_zero]
  refine wl (by kernel_rfl) (.pointer (some ⟨q2, 0 + 38, none⟩)) _ (run_fieldOp' f26_7 (.tmp 2) rfl q2 (0) rfl) ?_
  simp only [Act.put, List.setIfInBounds_toArray, List.set_cons_succ, List.set_cons_zero]
  refine wl (by kernel_rfl) vx _ (run_load1 o24 (.tmp 54) rfl q2 (0 + 38) rfl vx (Rw2.out.fld 0 rfl (HF.out.1.rok).root 4 _ rfl)) ?_
  simp only [Act.put, List.setIfInBounds_toArray, List.set_cons_succ, List.set_cons_zero]
  have hlp_ := fun (a : Act) (o : Oper) (ho : o.op = .call { callee := .builtin .len, args := #[.tmp 55], argTypes := #[24] }) (hx : a.eval (.tmp 55) = vx) => run_lenP (w := w2) HF.out.1.cp (.tmp 55) ho hx
  skip
  refine wl (by kernel_rfl) (.int .i64 (n : Nat)) _ (by rw [HN.out]; exact hlp_ _ _ rfl rfl) ?_
  clear hlp_
  simp only [Act.put, List.setIfInBounds_toArray, List.set_cons_succ, List.set_cons_zero]
  refine wl (by kernel_rfl) (.pointer (some ⟨q3, 0 + 38, none⟩)) _ (run_fieldOp' f26_7 (.tmp 3) rfl q3 (0) rfl) ?_
  simp only [Act.put, List.setIfInBounds_toArray, List.set_cons_succ, List.set_cons_zero]
  refine wl (by kernel_rfl) vy _ (run_load1 o24 (.tmp 57) rfl q3 (0 + 38) rfl vy (Rw2.out.fld 1 rfl (HF.out.2.rok).root 4 _ rfl)) ?_
  simp only [Act.put, List.setIfInBounds_toArray, List.set_cons_succ, List.set_cons_zero]
  have hlp_ := fun (a : Act) (o : Oper) (ho : o.op = .call { callee := .builtin .len, args := #[.tmp 58], argTypes := #[24] }) (hx : a.eval (.tmp 58) = vy) => run_lenP (w := w2) HF.out.2.cp (.tmp 58) ho hx
  skip
  refine wl (by kernel_rfl) (.int .i64 (n : Nat)) _ (by rw [HN.out]; exact hlp_ _ _ rfl rfl) ?_
  clear hlp_
  simp only [Act.put, List.setIfInBounds_toArray, List.set_cons_succ, List.set_cons_zero]
  refine wl (by kernel_rfl) (.bool false) _ (run_neII (.tmp 56) (.tmp 59) rfl (n : Nat) rfl rfl) ?_
  simp only [Act.put, List.setIfInBounds_toArray, List.set_cons_succ, List.set_cons_zero]
  refine wl rfl (.bool false) _ (run_pickZ (.tmp 53) (.const (.bool true)) (.tmp 60) rfl false (.bool false) rfl rfl) ?_
  simp only [Act.put, List.setIfInBounds_toArray, List.set_cons_succ, List.set_cons_zero]
  refine wpList_nil ?_
  go_upto_region 3 with fail
  refine wp_region_lit ?_
  refine wl rfl (.int .i64 0) _ (run_asZ (.const (.int .i64 0)) rfl (.int .i64 0) rfl) ?_
  simp only [Act.put, List.setIfInBounds_toArray, List.set_cons_succ, List.set_cons_zero]
  refine wpList_nil ?_
  go_wp2_with fail
  go_loopw [5] (fun v5 W => ∃ k : Nat, v5 = .int .i64 (k : Nat) ∧ k ≤ n ∧ Hid (Loc w W [(q2, 26, rcells r vx), (q3, 26, rcells r vy)])) (fun v5 _ => n - (intOf v5).toNat)
  case atStart => exact ⟨0, rfl, Nat.zero_le _, Rw2.out⟩
  case round =>
    obtain ⟨k, rfl, hk, HI⟩ := hrel
    by_cases hlt : k < n
    · have HD : Hid (decide (k < n) = true) := decide_eq_true hlt
      go_upto_region 4 with fail
      refine wp_region_lit ?_
      refine wl rfl (.int .i64 (k : Nat)) _ (run_mvZ (.tmp 5) rfl (.int .i64 (k : Nat)) rfl) ?_
      simp only [Act.put, List.setIfInBounds_toArray, List.set_cons_succ, List.set_cons_zero]
      refine wl rfl (.pointer (some ⟨q2, 0 + 38, none⟩)) _ (run_fieldOp' f26_7 (.tmp 2) rfl q2 (0) rfl) ?_
      simp only [Act.put, List.setIfInBounds_toArray, List.set_cons_succ, List.set_cons_zero]
      refine wl rfl vx _ (run_load1 o24 (.tmp 63) rfl q2 (0 + 38) rfl vx (HI.out.fld 0 rfl (HF.out.1.rok).root 4 _ rfl)) ?_
      simp only [Act.put, List.setIfInBounds_toArray, List.set_cons_succ, List.set_cons_zero]
      have hlp_ := fun (a : Act) (o : Oper) (ho : o.op = .call { callee := .builtin .len, args := #[.tmp 64], argTypes := #[24] }) (hx : a.eval (.tmp 64) = vx) => run_lenP (w := wr) HF.out.1.cp (.tmp 64) ho hx
      skip
      refine wl rfl (.int .i64 (n : Nat)) _ (by rw [HN.out]; exact hlp_ _ _ rfl rfl) ?_
      clear hlp_
      simp only [Act.put, List.setIfInBounds_toArray, List.set_cons_succ, List.set_cons_zero]
      refine wl rfl (.bool true) _ (run_lssN (.tmp 62) (.tmp 65) rfl k n rfl rfl true HD.out) ?_
      simp only [Act.put, List.setIfInBounds_toArray, List.set_cons_succ, List.set_cons_zero]
      refine wpList_nil ?_
      obtain ⟨p, hp⟩ : ∃ p, r.cp[k]? = some p := ⟨_, List.getElem?_eq_getElem (by rw [← HN.out]; exact hlt)⟩
      obtain ⟨bx, ox, hix, hcx⟩ := ix_place (HF.out.1.cp.later HI.out.below) k p hp
      obtain ⟨b_y, oy, hiy, hcy⟩ := ix_place (HF.out.2.cp.later HI.out.below) k p hp
      have HX : Hid ((∀ w', (Instr.indexAt 24 vx (.int .i64 (k : Nat))).run Try.prog w' = .ok (.pointer (some ⟨bx, ox, none⟩)) w') ∧ (∀ w', (Instr.indexAt 24 vy (.int .i64 (k : Nat))).run Try.prog w' = .ok (.pointer (some ⟨b_y, oy, none⟩)) w')) := ⟨hix, hiy⟩
      clear hix hiy
      go_upto_region 6 with fail
      refine wp_region_held (S := fun X => Loc w X [(q2, 26, rcells r vx), (q3, 26, rcells r vy)] ∧ (∀ j u, (pcells p)[j]? = some u → X.cell? ⟨bx, ox + j, none⟩ = some u) ∧ (∀ j u, (pcells p)[j]? = some u → X.cell? ⟨b_y, oy + j, none⟩ = some u)) (by kernel_rfl) ?_
      show wpAnyH _ _ _ _ _ 11 (Array.replicate 11 false) _ _
      obtain ⟨X, hX⟩ : ∃ X : World, X = { wr with drawn := wr.drawn + 1 } := ⟨_, rfl⟩
      rw [← hX]
      have hS_ : Loc w X [(q2, 26, rcells r vx), (q3, 26, rcells r vy)] ∧ (∀ j u, (pcells p)[j]? = some u → X.cell? ⟨bx, ox + j, none⟩ = some u) ∧ (∀ j u, (pcells p)[j]? = some u → X.cell? ⟨b_y, oy + j, none⟩ = some u) := by rw [hX]; exact ⟨HI.out.drew, fun j u hu => hcx j u hu, fun j u hu => hcy j u hu⟩
      clear hX
      refine takeH (i := 0) (some 69) rfl rfl (by kernel_rfl) (by kernel_rfl) (by kernel_rfl) (fun _ _ _ h => h) (gRun rfl (.pointer (some ⟨q2, 0 + 38, none⟩)) fun _ h => run_fieldOp' f26_7 (.tmp 2) rfl q2 (0) rfl) hS_ ?_
      simp only [Act.put, List.setIfInBounds_toArray, List.set_cons_succ, List.set_cons_zero]
      refine takeH (i := 1) (some 70) rfl rfl (by kernel_rfl) (by kernel_rfl) (by kernel_rfl) (fun _ _ _ h => h) (gRun rfl vx fun _ h => run_load1 o24 (.tmp 69) rfl q2 (0 + 38) rfl vx (h.1.fld 0 rfl HF.out.1.rok.root 4 _ rfl)) hS_ ?_
      simp only [Act.put, List.setIfInBounds_toArray, List.set_cons_succ, List.set_cons_zero]
      refine takeH (i := 2) (some 71) rfl rfl (by kernel_rfl) (by kernel_rfl) (by kernel_rfl) (fun _ _ _ h => h) (gRun rfl (.int .i64 (k : Nat)) fun _ h => run_mvZ (.tmp 5) rfl (.int .i64 (k : Nat)) rfl) hS_ ?_
      simp only [Act.put, List.setIfInBounds_toArray, List.set_cons_succ, List.set_cons_zero]
      refine takeH (i := 3) (some 72) rfl rfl (by kernel_rfl) (by kernel_rfl) (by kernel_rfl) (fun _ _ _ h => h) (gRun rfl (.pointer (some ⟨bx, ox, none⟩)) fun _ h => run_idx (.tmp 70) (.tmp 71) rfl vx _ _ rfl rfl HX.out.1) hS_ ?_
      simp only [Act.put, List.setIfInBounds_toArray, List.set_cons_succ, List.set_cons_zero]
      refine takeH (i := 4) (some 73) rfl rfl (by kernel_rfl) (by kernel_rfl) (by kernel_rfl) (fun _ _ _ h => h) (gRun rfl (.agg (pcells p).toArray) fun _ h => run_loadA ag47 (.tmp 72) rfl bx ox rfl (pcells p) rfl h.2.1) hS_ ?_
      simp only [Act.put, List.setIfInBounds_toArray, List.set_cons_succ, List.set_cons_zero]
      refine takeH (i := 5) (some 74) rfl rfl (by kernel_rfl) (by kernel_rfl) (by kernel_rfl) (fun _ _ _ h => h) (gRun rfl (.pointer (some ⟨q3, 0 + 38, none⟩)) fun _ h => run_fieldOp' f26_7 (.tmp 3) rfl q3 (0) rfl) hS_ ?_
      simp only [Act.put, List.setIfInBounds_toArray, List.set_cons_succ, List.set_cons_zero]
      refine takeH (i := 6) (some 75) rfl rfl (by kernel_rfl) (by kernel_rfl) (by kernel_rfl) (fun _ _ _ h => h) (gRun rfl vy fun _ h => run_load1 o24 (.tmp 74) rfl q3 (0 + 38) rfl vy (h.1.fld 1 rfl HF.out.2.rok.root 4 _ rfl)) hS_ ?_
      simp only [Act.put, List.setIfInBounds_toArray, List.set_cons_succ, List.set_cons_zero]
      refine takeH (i := 7) (some 76) rfl rfl (by kernel_rfl) (by kernel_rfl) (by kernel_rfl) (fun _ _ _ h => h) (gRun rfl (.int .i64 (k : Nat)) fun _ h => run_mvZ (.tmp 5) rfl (.int .i64 (k : Nat)) rfl) hS_ ?_
      simp only [Act.put, List.setIfInBounds_toArray, List.set_cons_succ, List.set_cons_zero]
      refine takeH (i := 8) (some 77) rfl rfl (by kernel_rfl) (by kernel_rfl) (by kernel_rfl) (fun _ _ _ h => h) (gRun rfl (.pointer (some ⟨b_y, oy, none⟩)) fun _ h => run_idx (.tmp 75) (.tmp 76) rfl vy _ _ rfl rfl HX.out.2) hS_ ?_
      simp only [Act.put, List.setIfInBounds_toArray, List.set_cons_succ, List.set_cons_zero]
      refine takeH (i := 9) (some 78) rfl rfl (by kernel_rfl) (by kernel_rfl) (by kernel_rfl) (fun _ _ _ h => h) (gRun rfl (.agg (pcells p).toArray) fun _ h => run_loadA ag47 (.tmp 77) rfl b_y oy rfl (pcells p) rfl h.2.2) hS_ ?_
      simp only [Act.put, List.setIfInBounds_toArray, List.set_cons_succ, List.set_cons_zero]
      refine takeH (i := 10) (some 79) rfl rfl (by kernel_rfl) (by kernel_rfl) (by kernel_rfl) (fun _ _ _ h => h) (gRun rfl (.bool false) fun _ h => run_nePP (.tmp 73) (.tmp 78) rfl p rfl rfl) hS_ ?_
      simp only [Act.put, List.setIfInBounds_toArray, List.set_cons_succ, List.set_cons_zero]
      refine wpAnyH_done (by kernel_rfl) ?_ _
      have HJ : Hid (Loc w X [(q2, 26, rcells r vx), (q3, 26, rcells r vy)]) := hS_.1
      clear hS_ hcx hcy
      go_upto_region 5 with fail
      refine wp_region_lit ?_
      refine wl rfl (.int .i64 (k : Nat)) _ (run_mvZ (.tmp 5) rfl (.int .i64 (k : Nat)) rfl) ?_
      simp only [Act.put, List.setIfInBounds_toArray, List.set_cons_succ, List.set_cons_zero]
      refine wl rfl (.int .i64 ((k + 1 : Nat))) _ (run_addI (.tmp 67) rfl k n hlt HMX.out rfl) ?_
      simp only [Act.put, List.setIfInBounds_toArray, List.set_cons_succ, List.set_cons_zero]
      refine wl rfl (.int .i64 ((k + 1 : Nat))) _ (run_asZ (.tmp 68) rfl (.int .i64 ((k + 1 : Nat))) rfl) ?_
      simp only [Act.put, List.setIfInBounds_toArray, List.set_cons_succ, List.set_cons_zero]
      refine wpList_nil ?_
      go_wp2_with fail
      exact ⟨⟨k + 1, rfl, by omega, HJ⟩, by simp [intOf]; omega⟩
    · have HD : Hid (decide (k < n) = false) := decide_eq_false hlt
      go_upto_region 4 with fail
      refine wp_region_lit ?_
      refine wl rfl (.int .i64 (k : Nat)) _ (run_mvZ (.tmp 5) rfl (.int .i64 (k : Nat)) rfl) ?_
      simp only [Act.put, List.setIfInBounds_toArray, List.set_cons_succ, List.set_cons_zero]
      refine wl rfl (.pointer (some ⟨q2, 0 + 38, none⟩)) _ (run_fieldOp' f26_7 (.tmp 2) rfl q2 (0) rfl) ?_
      simp only [Act.put, List.setIfInBounds_toArray, List.set_cons_succ, List.set_cons_zero]
      refine wl rfl vx _ (run_load1 o24 (.tmp 63) rfl q2 (0 + 38) rfl vx (HI.out.fld 0 rfl (HF.out.1.rok).root 4 _ rfl)) ?_
      simp only [Act.put, List.setIfInBounds_toArray, List.set_cons_succ, List.set_cons_zero]
      have hlp_ := fun (a : Act) (o : Oper) (ho : o.op = .call { callee := .builtin .len, args := #[.tmp 64], argTypes := #[24] }) (hx : a.eval (.tmp 64) = vx) => run_lenP (w := wr) HF.out.1.cp (.tmp 64) ho hx
      skip
      refine wl rfl (.int .i64 (n : Nat)) _ (by rw [HN.out]; exact hlp_ _ _ rfl rfl) ?_
      clear hlp_
      simp only [Act.put, List.setIfInBounds_toArray, List.set_cons_succ, List.set_cons_zero]
      refine wl rfl (.bool false) _ (run_lssN (.tmp 62) (.tmp 65) rfl k n rfl rfl false HD.out) ?_
      simp only [Act.put, List.setIfInBounds_toArray, List.set_cons_succ, List.set_cons_zero]
      refine wpList_nil ?_
      go_upto_region 8 with fail
      refine wp_region_lit ?_
      refine wl rfl (.bool true) _ (run_asZ (.const (.bool true)) rfl (.bool true) rfl) ?_
      simp only [Act.put, List.setIfInBounds_toArray, List.set_cons_succ, List.set_cons_zero]
      refine wpList_nil ?_
      go_wp2_with fail
      first | (rw [HPQ.out]; exact ⟨rfl, HI.out.below⟩) | (go_ret; rw [HPQ.out]; exact ⟨rfl, HI.out.below⟩)

end Go.Proofs.Ytobolkllplmmcab
